/-
  toLog, szLog; eq, mark, held of a Log and of a LogResult.
-/
import Derived.Test.YtjdkaaepbkkchaaT10
namespace Go.Proofs.Ytjdkaaepbkkchaa
open Go.RowKit
set_option linter.unusedVariables false
set_option maxRecDepth 100000









end Go.Proofs.Ytjdkaaepbkkchaa
