/-
  lwSame compares bytes as strings.
-/
import Derived.Test.YtlgpbnngepkkmaaStr
namespace Go.Proofs.Ytlgpbnngepkkmaa
open Go.RowKit
set_option linter.unusedVariables false
set_option maxRecDepth 100000


end Go.Proofs.Ytlgpbnngepkkmaa
