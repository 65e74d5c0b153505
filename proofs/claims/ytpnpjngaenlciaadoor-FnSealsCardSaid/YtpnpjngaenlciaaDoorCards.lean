/-
  DERIVED. GIVEN WITH THE SEED: THE CARDS: each row of YtpnpjngaenlciaaDoorRows.lean that lists a variable, with what it lists TIED to the program's text (the seventh form; the later family's looks); each row that meets fmt, with fmt's text TOLD by the authors' own Lean function (tested against real Go, not proved from fmt's source: count such statements apart). THE CARD IS WHAT COUNTS. Prove the row's statement (the work); the ties are given (YtpnpjngaenlciaaDoorTie.lean); close each card by the builder's one call (the guide's Derived/Test/ToyasCard.lean, 'card_holds'). Laid BY PROGRAM, IN A SANDBOX (cutbox-door.mjs). By AI agents, Wed Nov 11 2026. No macro, syntax, notation, axiom, sorry.
-/
import Derived.Test.YtpnpjngaenlciaaDoorRows
import GoSem.ClaimSeven
namespace Go.Proofs.YtpnpjngaenlciaaDoor
namespace Rows

/-- THE TIED CARD OF 'laws.FnSeals'. -/
def fnSealsCard : Claim7 := { stood := { row := fnSealsRow, standIns := [], harness := (true, "5d067621bfadf5f6874cdf869f869648cb4fcd5060da157b5580e1c6749657e0"), looks := true }, kinds := [], alts := [], laidByText := true, laidKinds := [.data, .sentinel], laidTests := true, laidLooks := .later }
def FnSealsCardSaid : Prop := Claim7.holds Tryd.pinned (.plain (OpenSpec.ofChange fnSealsSpec)) fnSealsCard

/-- THE TIED CARD OF 'laws.FnExactHideBytes'. -/
def fnExactHideBytesCard : Claim7 := { stood := { row := fnExactHideBytesRow, standIns := [], harness := (true, "5d067621bfadf5f6874cdf869f869648cb4fcd5060da157b5580e1c6749657e0"), looks := true }, kinds := [], alts := [], laidByText := true, laidKinds := [.data], laidTests := true, laidLooks := .later }
def FnExactHideBytesCardSaid : Prop := Claim7.holds Tryd.pinned (.plain (OpenSpec.ofChange fnExactHideBytesSpec)) fnExactHideBytesCard

/-- THE TIED CARD OF 'laws.FnExactTagOf'. -/
def fnExactTagOfCard : Claim7 := { stood := { row := fnExactTagOfRow, standIns := [], harness := (true, "5d067621bfadf5f6874cdf869f869648cb4fcd5060da157b5580e1c6749657e0"), looks := true }, kinds := [], alts := [], laidByText := true, laidKinds := [.data], laidTests := true, laidLooks := .later }
def FnExactTagOfCardSaid : Prop := Claim7.holds Tryd.pinned (.plain (OpenSpec.ofChange fnExactTagOfSpec)) fnExactTagOfCard

/-- THE TIED CARD OF 'laws.FnExactSealPacket'. -/
def fnExactSealPacketCard : Claim7 := { stood := { row := fnExactSealPacketRow, standIns := [], harness := (true, "5d067621bfadf5f6874cdf869f869648cb4fcd5060da157b5580e1c6749657e0"), looks := true }, kinds := [], alts := [], laidByText := true, laidKinds := [.data], laidTests := true, laidLooks := .later }
def FnExactSealPacketCardSaid : Prop := Claim7.holds Tryd.pinned (.plain (OpenSpec.ofChange fnExactSealPacketSpec)) fnExactSealPacketCard

/-- THE TIED CARD OF 'laws.FnExactOpenPacket'. -/
def fnExactOpenPacketCard : Claim7 := { stood := { row := fnExactOpenPacketRow, standIns := [], harness := (true, "5d067621bfadf5f6874cdf869f869648cb4fcd5060da157b5580e1c6749657e0"), looks := true }, kinds := [], alts := [], laidByText := true, laidKinds := [.data, .sentinel], laidTests := true, laidLooks := .later }
def FnExactOpenPacketCardSaid : Prop := Claim7.holds Tryd.pinned (.plain (OpenSpec.ofChange fnExactOpenPacketSpec)) fnExactOpenPacketCard

/-- THE SECOND FORM's CARD OF 'laws.FnSeals'. -/
def fnSealsUptoCard : Claim7 := { stood := { row := fnSealsUptoRow, standIns := [], harness := (true, "5d067621bfadf5f6874cdf869f869648cb4fcd5060da157b5580e1c6749657e0"), looks := true }, kinds := [], alts := [], laidByText := true, laidKinds := [.data, .sentinel], laidTests := true, laidLooks := .later }
def FnSealsUptoCardSaid : Prop := Claim7.holds Tryd.pinned (.plain (OpenSpec.upto fnSealsSpec)) fnSealsUptoCard

/-- THE SECOND FORM's CARD OF 'laws.FnExactHideBytes'. -/
def fnExactHideBytesUptoCard : Claim7 := { stood := { row := fnExactHideBytesUptoRow, standIns := [], harness := (true, "5d067621bfadf5f6874cdf869f869648cb4fcd5060da157b5580e1c6749657e0"), looks := true }, kinds := [], alts := [], laidByText := true, laidKinds := [.data], laidTests := true, laidLooks := .later }
def FnExactHideBytesUptoCardSaid : Prop := Claim7.holds Tryd.pinned (.plain (OpenSpec.upto fnExactHideBytesSpec)) fnExactHideBytesUptoCard

/-- THE SECOND FORM's CARD OF 'laws.FnExactTagOf'. -/
def fnExactTagOfUptoCard : Claim7 := { stood := { row := fnExactTagOfUptoRow, standIns := [], harness := (true, "5d067621bfadf5f6874cdf869f869648cb4fcd5060da157b5580e1c6749657e0"), looks := true }, kinds := [], alts := [], laidByText := true, laidKinds := [.data], laidTests := true, laidLooks := .later }
def FnExactTagOfUptoCardSaid : Prop := Claim7.holds Tryd.pinned (.plain (OpenSpec.upto fnExactTagOfSpec)) fnExactTagOfUptoCard

/-- THE SECOND FORM's CARD OF 'laws.FnExactSealPacket'. -/
def fnExactSealPacketUptoCard : Claim7 := { stood := { row := fnExactSealPacketUptoRow, standIns := [], harness := (true, "5d067621bfadf5f6874cdf869f869648cb4fcd5060da157b5580e1c6749657e0"), looks := true }, kinds := [], alts := [], laidByText := true, laidKinds := [.data], laidTests := true, laidLooks := .later }
def FnExactSealPacketUptoCardSaid : Prop := Claim7.holds Tryd.pinned (.plain (OpenSpec.upto fnExactSealPacketSpec)) fnExactSealPacketUptoCard

/-- THE SECOND FORM's CARD OF 'laws.FnExactOpenPacket'. -/
def fnExactOpenPacketUptoCard : Claim7 := { stood := { row := fnExactOpenPacketUptoRow, standIns := [], harness := (true, "5d067621bfadf5f6874cdf869f869648cb4fcd5060da157b5580e1c6749657e0"), looks := true }, kinds := [], alts := [], laidByText := true, laidKinds := [.data, .sentinel], laidTests := true, laidLooks := .later }
def FnExactOpenPacketUptoCardSaid : Prop := Claim7.holds Tryd.pinned (.plain (OpenSpec.upto fnExactOpenPacketSpec)) fnExactOpenPacketUptoCard
end Rows
end Go.Proofs.YtpnpjngaenlciaaDoor
