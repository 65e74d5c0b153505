/-
  lwSame compares bytes as strings.
-/
import Derived.Test.YtebdgdmdjgkboaaStr
namespace Go.Proofs.Ytebdgdmdjgkboaa
open Go.RowKit
set_option linter.unusedVariables false
set_option maxRecDepth 100000


end Go.Proofs.Ytebdgdmdjgkboaa
