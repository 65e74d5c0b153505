/-
  spec.GetNumber.
-/
import Derived.Test.YtjdkaaepbkkchaaDoorVal
namespace Go.Proofs.YtjdkaaepbkkchaaDoor
open Go.RowKit
set_option linter.unusedVariables false
set_option maxRecDepth 100000

end Go.Proofs.YtjdkaaepbkkchaaDoor
