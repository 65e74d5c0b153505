/-
  The model's PadMessage, HashOf, MacOf.
-/
import Derived.Test.YtpnpjngaenlciaaDoorH6
import Derived.Test.YtpnpjngaenlciaaDoorExB
namespace Go.Proofs.YtpnpjngaenlciaaDoor
open Go.RowKit
set_option linter.unusedVariables false
set_option maxRecDepth 100000

/-- What was asked is too much: code 2, no bytes; else the bytes. -/
def manyCode (b : Prop) [Decidable b] : Int := if b then 2 else 0
def manyAns (b : Prop) [Decidable b] (zs : List Int) : List Int := if b then [] else zs

end Go.Proofs.YtpnpjngaenlciaaDoor
