/-
  lwSame compares bytes as strings.
-/
import Derived.Test.YtpnpjngaenlciaaStr
namespace Go.Proofs.Ytpnpjngaenlciaa
open Go.RowKit
set_option linter.unusedVariables false
set_option maxRecDepth 100000


end Go.Proofs.Ytpnpjngaenlciaa
