/-
  impl.HashOf, impl.MacOf.
-/
import Derived.Test.YtiiihhfdgogmjaaPad
namespace Go.Proofs.Ytiiihhfdgogmjaa
open Go.RowKit
set_option linter.unusedVariables false
end Go.Proofs.Ytiiihhfdgogmjaa
