/-
  lwSame compares bytes as strings.
-/
import Derived.Test.YtjibfncdkcmhcaaStr
namespace Go.Proofs.Ytjibfncdkcmhcaa
open Go.RowKit
set_option linter.unusedVariables false
set_option maxRecDepth 100000


end Go.Proofs.Ytjibfncdkcmhcaa
