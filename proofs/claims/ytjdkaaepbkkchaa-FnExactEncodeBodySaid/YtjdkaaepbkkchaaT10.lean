/-
  heldItemS.
-/
import Derived.Test.YtjdkaaepbkkchaaT9
namespace Go.Proofs.Ytjdkaaepbkkchaa
open Go.RowKit
set_option linter.unusedVariables false
set_option maxRecDepth 100000

end Go.Proofs.Ytjdkaaepbkkchaa
