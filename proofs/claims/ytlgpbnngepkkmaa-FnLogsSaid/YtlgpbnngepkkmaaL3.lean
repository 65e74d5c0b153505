/-
  The walk of FnExactSameItems.
-/
import Derived.Test.YtlgpbnngepkkmaaV6b
import Derived.Test.YtlgpbnngepkkmaaT17
import Derived.Test.YtlgpbnngepkkmaaT8
import Derived.Test.YtlgpbnngepkkmaaL0
namespace Go.Proofs.Ytlgpbnngepkkmaa
open Go.RowKit
set_option linter.unusedVariables false
set_option maxRecDepth 100000


end Go.Proofs.Ytlgpbnngepkkmaa
