/-
  spec.GetNumber.
-/
import Derived.Test.YtiiihhfdgogmjaaDoorVal
namespace Go.Proofs.YtiiihhfdgogmjaaDoor
open Go.RowKit
set_option linter.unusedVariables false

end Go.Proofs.YtiiihhfdgogmjaaDoor
