/-
  spec.GetNumber.
-/
import Derived.Test.YtpnpjngaenlciaaDoorVal
namespace Go.Proofs.YtpnpjngaenlciaaDoor
open Go.RowKit
set_option linter.unusedVariables false
set_option maxRecDepth 100000

end Go.Proofs.YtpnpjngaenlciaaDoor
