/-
  toLog, szLog; eq, mark, held of a Log and of a LogResult.
-/
import Derived.Test.YtlgpbnngepkkmaaT10
namespace Go.Proofs.Ytlgpbnngepkkmaa
open Go.RowKit
set_option linter.unusedVariables false
set_option maxRecDepth 100000









end Go.Proofs.Ytlgpbnngepkkmaa
