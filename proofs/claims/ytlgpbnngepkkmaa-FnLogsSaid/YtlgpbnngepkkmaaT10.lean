/-
  heldItemS.
-/
import Derived.Test.YtlgpbnngepkkmaaT9
namespace Go.Proofs.Ytlgpbnngepkkmaa
open Go.RowKit
set_option linter.unusedVariables false
set_option maxRecDepth 100000

end Go.Proofs.Ytlgpbnngepkkmaa
