/-
  DERIVED. GIVEN WITH THE SEED: THE CARDS: each row of YtjdkaaepbkkchaaDoorRows.lean that lists a variable, with what it lists TIED to the program's text (the seventh form; the later family's looks); each row that meets fmt, with fmt's text TOLD by the authors' own Lean function (tested against real Go, not proved from fmt's source: count such statements apart). THE CARD IS WHAT COUNTS. Prove the row's statement (the work); the ties are given (YtjdkaaepbkkchaaDoorTie.lean); close each card by the builder's one call (the guide's Derived/Test/ToyasCard.lean, 'card_holds'). Laid BY PROGRAM, IN A SANDBOX (cutbox-door.mjs). By AI agents, Wed Nov 11 2026. No macro, syntax, notation, axiom, sorry.
-/
import Derived.Test.YtjdkaaepbkkchaaDoorRows
import GoSem.ClaimSeven
namespace Go.Proofs.YtjdkaaepbkkchaaDoor
namespace Rows

/-- THE TIED CARD OF 'laws.FnWires'. -/
def fnWiresCard : Claim7 := { stood := { row := fnWiresRow, standIns := [], harness := (true, "706519a1b60a19c8e9134250200b023735093266a259967e52c6c5387c1856f7"), looks := true }, kinds := [], alts := [], laidByText := true, laidKinds := [.sentinel], laidTests := true, laidLooks := .later }
def FnWiresCardSaid : Prop := Claim7.holds Tryd.pinned (.plain (OpenSpec.ofChange fnWiresSpec)) fnWiresCard

/-- THE TIED CARD OF 'laws.FnExactDecodeBody'. -/
def fnExactDecodeBodyCard : Claim7 := { stood := { row := fnExactDecodeBodyRow, standIns := [], harness := (true, "706519a1b60a19c8e9134250200b023735093266a259967e52c6c5387c1856f7"), looks := true }, kinds := [], alts := [], laidByText := true, laidKinds := [.sentinel], laidTests := true, laidLooks := .later }
def FnExactDecodeBodyCardSaid : Prop := Claim7.holds Tryd.pinned (.plain (OpenSpec.ofChange fnExactDecodeBodySpec)) fnExactDecodeBodyCard

/-- THE TIED CARD OF 'laws.FnExactDecodeReply'. -/
def fnExactDecodeReplyCard : Claim7 := { stood := { row := fnExactDecodeReplyRow, standIns := [], harness := (true, "706519a1b60a19c8e9134250200b023735093266a259967e52c6c5387c1856f7"), looks := true }, kinds := [], alts := [], laidByText := true, laidKinds := [.sentinel], laidTests := true, laidLooks := .later }
def FnExactDecodeReplyCardSaid : Prop := Claim7.holds Tryd.pinned (.plain (OpenSpec.ofChange fnExactDecodeReplySpec)) fnExactDecodeReplyCard

/-- THE SECOND FORM's CARD OF 'laws.FnWires'. -/
def fnWiresUptoCard : Claim7 := { stood := { row := fnWiresUptoRow, standIns := [], harness := (true, "706519a1b60a19c8e9134250200b023735093266a259967e52c6c5387c1856f7"), looks := true }, kinds := [], alts := [], laidByText := true, laidKinds := [.sentinel], laidTests := true, laidLooks := .later }
def FnWiresUptoCardSaid : Prop := Claim7.holds Tryd.pinned (.plain (OpenSpec.upto fnWiresSpec)) fnWiresUptoCard

/-- THE SECOND FORM's CARD OF 'laws.FnExactDecodeBody'. -/
def fnExactDecodeBodyUptoCard : Claim7 := { stood := { row := fnExactDecodeBodyUptoRow, standIns := [], harness := (true, "706519a1b60a19c8e9134250200b023735093266a259967e52c6c5387c1856f7"), looks := true }, kinds := [], alts := [], laidByText := true, laidKinds := [.sentinel], laidTests := true, laidLooks := .later }
def FnExactDecodeBodyUptoCardSaid : Prop := Claim7.holds Tryd.pinned (.plain (OpenSpec.upto fnExactDecodeBodySpec)) fnExactDecodeBodyUptoCard

/-- THE SECOND FORM's CARD OF 'laws.FnExactDecodeReply'. -/
def fnExactDecodeReplyUptoCard : Claim7 := { stood := { row := fnExactDecodeReplyUptoRow, standIns := [], harness := (true, "706519a1b60a19c8e9134250200b023735093266a259967e52c6c5387c1856f7"), looks := true }, kinds := [], alts := [], laidByText := true, laidKinds := [.sentinel], laidTests := true, laidLooks := .later }
def FnExactDecodeReplyUptoCardSaid : Prop := Claim7.holds Tryd.pinned (.plain (OpenSpec.upto fnExactDecodeReplySpec)) fnExactDecodeReplyUptoCard
end Rows
end Go.Proofs.YtjdkaaepbkkchaaDoor
