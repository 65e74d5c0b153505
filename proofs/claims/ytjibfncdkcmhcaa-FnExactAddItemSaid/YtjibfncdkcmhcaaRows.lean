/-
  No cell of these rows narrows 'for every input' (looked for: loops, veiled, ifaces, maps, wideKeys, modest, calm, conditions, laid).
  DERIVED. THE GIVEN ROWS OF THIS SEAT. 8 by the template 'for every input the law returns true; each argument reads behind the call as it read before'; 0 by the template 'total and deterministic' (their statements: YtjibfncdkcmhcaaTotals.lean).
  GIVEN WITH THE SEED: the statements are not yours to turn. If you find one false, say at which input.
  Laid BY PROGRAM, IN A SANDBOX (cutbox-rows.mjs): the forced cells as the released guide's own fill.sh prints them over the translation d70c2390cb32c849… (all of the seat's roots in one cut). By AI agents, Wed Nov 11 2026. No macro, syntax, notation, axiom, sorry.
-/
import Derived.Test.YtjibfncdkcmhcaaChecked
import GoSem.Claim
import GoSem.ClaimJoined
import GoSem.ClaimMapViews
import Derived.JoinedTies
import Derived.KernelRfl
namespace Go.Proofs.Ytjibfncdkcmhcaa
/- THE CELL 'sum', in the pinned program and in every row, IS THE sha256 OF THE DUMP (.gsa) THAT YtjibfncdkcmhcaaProg.lean LOADS. Nothing in Lean hashes anything: it is a label: what it is worth is what the hold of that sum in a sandbox is worth. -/
noncomputable def Try.pinned : Pinned := { name := "ytjibfncdkcmhcaa", sum := "d70c2390cb32c849e25b72b433629fd83420490ecbc22ba6ea38581b556cafad", checked := Try.checked }
namespace Rows
def none {H : Type} : Left H := { results := [], args := [] }

/-- 'laws.FnLogs': WHATEVER THE INPUT: true; the input reads as it did. -/
def fnLogsSpec : ChangeSpec := { name := "fnLogs", fn := fun _ => fun
  | [d] => { results := [.lit (.bool true)], args := [d] }
  | _ => none }
def fnLogsRow : OpenClaim := { program := "ytjibfncdkcmhcaa", sum := "d70c2390cb32c849e25b72b433629fd83420490ecbc22ba6ea38581b556cafad", func := "loop.example/g00799/laws.FnLogs", spec := "fnLogs", unfollowed := true, recurses := true, apart := false }
def FnLogsSaid : Prop := fnLogsRow.holds Try.pinned (OpenSpec.ofChange fnLogsSpec)

/-- ITS FALSE NEIGHBOUR: 'it returns false'. Refute it at one input. -/
def fnLogsWrong : ChangeSpec := { name := "fnLogs", fn := fun _ => fun
  | [d] => { results := [.lit (.bool false)], args := [d] }
  | _ => none }
def FnLogsWrongFalsely : Prop := fnLogsRow.holds Try.pinned (OpenSpec.ofChange fnLogsWrong)

/-- 'laws.FnExactItemFault': WHATEVER THE INPUT: true; the input reads as it did. -/
def fnExactItemFaultSpec : ChangeSpec := { name := "fnExactItemFault", fn := fun _ => fun
  | [d] => { results := [.lit (.bool true)], args := [d] }
  | _ => none }
def fnExactItemFaultRow : OpenClaim := { program := "ytjibfncdkcmhcaa", sum := "d70c2390cb32c849e25b72b433629fd83420490ecbc22ba6ea38581b556cafad", func := "loop.example/g00799/laws.FnExactItemFault", spec := "fnExactItemFault", apart := false }
def FnExactItemFaultSaid : Prop := fnExactItemFaultRow.holds Try.pinned (OpenSpec.ofChange fnExactItemFaultSpec)

/-- ITS FALSE NEIGHBOUR: 'it returns false'. Refute it at one input. -/
def fnExactItemFaultWrong : ChangeSpec := { name := "fnExactItemFault", fn := fun _ => fun
  | [d] => { results := [.lit (.bool false)], args := [d] }
  | _ => none }
def FnExactItemFaultWrongFalsely : Prop := fnExactItemFaultRow.holds Try.pinned (OpenSpec.ofChange fnExactItemFaultWrong)

/-- 'laws.FnExactAtomsOf': WHATEVER THE INPUT: true; the input reads as it did. -/
def fnExactAtomsOfSpec : ChangeSpec := { name := "fnExactAtomsOf", fn := fun _ => fun
  | [d] => { results := [.lit (.bool true)], args := [d] }
  | _ => none }
def fnExactAtomsOfRow : OpenClaim := { program := "ytjibfncdkcmhcaa", sum := "d70c2390cb32c849e25b72b433629fd83420490ecbc22ba6ea38581b556cafad", func := "loop.example/g00799/laws.FnExactAtomsOf", spec := "fnExactAtomsOf", unfollowed := true, recurses := true, apart := false }
def FnExactAtomsOfSaid : Prop := fnExactAtomsOfRow.holds Try.pinned (OpenSpec.ofChange fnExactAtomsOfSpec)

/-- ITS FALSE NEIGHBOUR: 'it returns false'. Refute it at one input. -/
def fnExactAtomsOfWrong : ChangeSpec := { name := "fnExactAtomsOf", fn := fun _ => fun
  | [d] => { results := [.lit (.bool false)], args := [d] }
  | _ => none }
def FnExactAtomsOfWrongFalsely : Prop := fnExactAtomsOfRow.holds Try.pinned (OpenSpec.ofChange fnExactAtomsOfWrong)

/-- 'laws.FnExactLogFault': WHATEVER THE INPUT: true; the input reads as it did. -/
def fnExactLogFaultSpec : ChangeSpec := { name := "fnExactLogFault", fn := fun _ => fun
  | [d1, d2] => { results := [.lit (.bool true)], args := [d1, d2] }
  | _ => none }
def fnExactLogFaultRow : OpenClaim := { program := "ytjibfncdkcmhcaa", sum := "d70c2390cb32c849e25b72b433629fd83420490ecbc22ba6ea38581b556cafad", func := "loop.example/g00799/laws.FnExactLogFault", spec := "fnExactLogFault", apart := false }
def FnExactLogFaultSaid : Prop := fnExactLogFaultRow.holds Try.pinned (OpenSpec.ofChange fnExactLogFaultSpec)

/-- ITS FALSE NEIGHBOUR: 'it returns false'. Refute it at one input. -/
def fnExactLogFaultWrong : ChangeSpec := { name := "fnExactLogFault", fn := fun _ => fun
  | [d1, d2] => { results := [.lit (.bool false)], args := [d1, d2] }
  | _ => none }
def FnExactLogFaultWrongFalsely : Prop := fnExactLogFaultRow.holds Try.pinned (OpenSpec.ofChange fnExactLogFaultWrong)

/-- 'laws.FnExactAddItem': WHATEVER THE INPUT: true; the input reads as it did. -/
def fnExactAddItemSpec : ChangeSpec := { name := "fnExactAddItem", fn := fun _ => fun
  | [d1, d2, d3] => { results := [.lit (.bool true)], args := [d1, d2, d3] }
  | _ => none }
def fnExactAddItemRow : OpenClaim := { program := "ytjibfncdkcmhcaa", sum := "d70c2390cb32c849e25b72b433629fd83420490ecbc22ba6ea38581b556cafad", func := "loop.example/g00799/laws.FnExactAddItem", spec := "fnExactAddItem", apart := false }
def FnExactAddItemSaid : Prop := fnExactAddItemRow.holds Try.pinned (OpenSpec.ofChange fnExactAddItemSpec)

/-- ITS FALSE NEIGHBOUR: 'it returns false'. Refute it at one input. -/
def fnExactAddItemWrong : ChangeSpec := { name := "fnExactAddItem", fn := fun _ => fun
  | [d1, d2, d3] => { results := [.lit (.bool false)], args := [d1, d2, d3] }
  | _ => none }
def FnExactAddItemWrongFalsely : Prop := fnExactAddItemRow.holds Try.pinned (OpenSpec.ofChange fnExactAddItemWrong)

/-- 'laws.FnExactTrimLog': WHATEVER THE INPUT: true; the input reads as it did. -/
def fnExactTrimLogSpec : ChangeSpec := { name := "fnExactTrimLog", fn := fun _ => fun
  | [d1, d2, d3] => { results := [.lit (.bool true)], args := [d1, d2, d3] }
  | _ => none }
def fnExactTrimLogRow : OpenClaim := { program := "ytjibfncdkcmhcaa", sum := "d70c2390cb32c849e25b72b433629fd83420490ecbc22ba6ea38581b556cafad", func := "loop.example/g00799/laws.FnExactTrimLog", spec := "fnExactTrimLog", apart := false }
def FnExactTrimLogSaid : Prop := fnExactTrimLogRow.holds Try.pinned (OpenSpec.ofChange fnExactTrimLogSpec)

/-- ITS FALSE NEIGHBOUR: 'it returns false'. Refute it at one input. -/
def fnExactTrimLogWrong : ChangeSpec := { name := "fnExactTrimLog", fn := fun _ => fun
  | [d1, d2, d3] => { results := [.lit (.bool false)], args := [d1, d2, d3] }
  | _ => none }
def FnExactTrimLogWrongFalsely : Prop := fnExactTrimLogRow.holds Try.pinned (OpenSpec.ofChange fnExactTrimLogWrong)

/-- 'laws.FnExactSameItems': WHATEVER THE INPUT: true; the input reads as it did. -/
def fnExactSameItemsSpec : ChangeSpec := { name := "fnExactSameItems", fn := fun _ => fun
  | [d1, d2] => { results := [.lit (.bool true)], args := [d1, d2] }
  | _ => none }
def fnExactSameItemsRow : OpenClaim := { program := "ytjibfncdkcmhcaa", sum := "d70c2390cb32c849e25b72b433629fd83420490ecbc22ba6ea38581b556cafad", func := "loop.example/g00799/laws.FnExactSameItems", spec := "fnExactSameItems", unfollowed := true, recurses := true, apart := false }
def FnExactSameItemsSaid : Prop := fnExactSameItemsRow.holds Try.pinned (OpenSpec.ofChange fnExactSameItemsSpec)

/-- ITS FALSE NEIGHBOUR: 'it returns false'. Refute it at one input. -/
def fnExactSameItemsWrong : ChangeSpec := { name := "fnExactSameItems", fn := fun _ => fun
  | [d1, d2] => { results := [.lit (.bool false)], args := [d1, d2] }
  | _ => none }
def FnExactSameItemsWrongFalsely : Prop := fnExactSameItemsRow.holds Try.pinned (OpenSpec.ofChange fnExactSameItemsWrong)

/-- 'laws.FnExactSameAtoms': WHATEVER THE INPUT: true; the input reads as it did. -/
def fnExactSameAtomsSpec : ChangeSpec := { name := "fnExactSameAtoms", fn := fun _ => fun
  | [d1, d2] => { results := [.lit (.bool true)], args := [d1, d2] }
  | _ => none }
def fnExactSameAtomsRow : OpenClaim := { program := "ytjibfncdkcmhcaa", sum := "d70c2390cb32c849e25b72b433629fd83420490ecbc22ba6ea38581b556cafad", func := "loop.example/g00799/laws.FnExactSameAtoms", spec := "fnExactSameAtoms", apart := false }
def FnExactSameAtomsSaid : Prop := fnExactSameAtomsRow.holds Try.pinned (OpenSpec.ofChange fnExactSameAtomsSpec)

/-- ITS FALSE NEIGHBOUR: 'it returns false'. Refute it at one input. -/
def fnExactSameAtomsWrong : ChangeSpec := { name := "fnExactSameAtoms", fn := fun _ => fun
  | [d1, d2] => { results := [.lit (.bool false)], args := [d1, d2] }
  | _ => none }
def FnExactSameAtomsWrongFalsely : Prop := fnExactSameAtomsRow.holds Try.pinned (OpenSpec.ofChange fnExactSameAtomsWrong)

/- THE SECOND FORM. 'bulk': how many values and letters a reading holds, each counted each time it is reached (what is shared counts as often as it is met; a slice's spare places count too). A statement '..UptoSaid' is the law's where the arguments, and the package variables that the reading takes, are together of bulk at most 1048576: NARROWER than '..Said'. Prove '..Said' where nothing that the law and all that it calls make is longer than what came in: it says more and counts as full. Else prove '..UptoSaid'. A law counts once. -/
mutual
def uptoBulk {H : Type} : DataW H → Nat
  | .lit (.string bytes) => bytes.length + 1
  | .lit _ => 1
  | .nil => 1
  | .ptr d => uptoBulk d + 1
  | .slice elems spare => uptoBulkAll elems + uptoBulkAll spare + 1
  | .agg parts => uptoBulkAll parts + 1
  | .iface _ d => uptoBulk d + 1
  | .map entries => uptoBulkEntries entries + 1
  | .held _ => 1
def uptoBulkAll {H : Type} : List (DataW H) → Nat
  | [] => 0
  | d :: r => uptoBulk d + uptoBulkAll r
def uptoBulkEntries {H : Type} : List (Lit × DataW H) → Nat
  | [] => 0
  | x :: r => uptoBulkEntry x + uptoBulkEntries r
def uptoBulkEntry {H : Type} : Lit × DataW H → Nat
  | (.string bytes, d) => bytes.length + uptoBulk d + 1
  | (_, d) => uptoBulk d + 1
 end
def uptoSmall : (H : Type) → List (DataW H) → Bool := fun _ ds => decide (uptoBulkAll ds ≤ 1048576)
def OpenSpec.upto (s : _root_.Go.ChangeSpec) : _root_.Go.OpenSpec := { _root_.Go.OpenSpec.ofChange s with cond := some uptoSmall }

/-- 'laws.FnLogs', WHERE WHAT IT READS IS OF BULK AT MOST 1048576: true; the input reads as it did. -/
def fnLogsUptoRow : OpenClaim := { program := "ytjibfncdkcmhcaa", sum := "d70c2390cb32c849e25b72b433629fd83420490ecbc22ba6ea38581b556cafad", func := "loop.example/g00799/laws.FnLogs", spec := "fnLogs", unfollowed := true, recurses := true, apart := false, narrowed := true }
def FnLogsUptoSaid : Prop := fnLogsUptoRow.holds Try.pinned (OpenSpec.upto fnLogsSpec)

/-- 'laws.FnExactItemFault', WHERE WHAT IT READS IS OF BULK AT MOST 1048576: true; the input reads as it did. -/
def fnExactItemFaultUptoRow : OpenClaim := { program := "ytjibfncdkcmhcaa", sum := "d70c2390cb32c849e25b72b433629fd83420490ecbc22ba6ea38581b556cafad", func := "loop.example/g00799/laws.FnExactItemFault", spec := "fnExactItemFault", apart := false, narrowed := true }
def FnExactItemFaultUptoSaid : Prop := fnExactItemFaultUptoRow.holds Try.pinned (OpenSpec.upto fnExactItemFaultSpec)

/-- 'laws.FnExactAtomsOf', WHERE WHAT IT READS IS OF BULK AT MOST 1048576: true; the input reads as it did. -/
def fnExactAtomsOfUptoRow : OpenClaim := { program := "ytjibfncdkcmhcaa", sum := "d70c2390cb32c849e25b72b433629fd83420490ecbc22ba6ea38581b556cafad", func := "loop.example/g00799/laws.FnExactAtomsOf", spec := "fnExactAtomsOf", unfollowed := true, recurses := true, apart := false, narrowed := true }
def FnExactAtomsOfUptoSaid : Prop := fnExactAtomsOfUptoRow.holds Try.pinned (OpenSpec.upto fnExactAtomsOfSpec)

/-- 'laws.FnExactLogFault', WHERE WHAT IT READS IS OF BULK AT MOST 1048576: true; the input reads as it did. -/
def fnExactLogFaultUptoRow : OpenClaim := { program := "ytjibfncdkcmhcaa", sum := "d70c2390cb32c849e25b72b433629fd83420490ecbc22ba6ea38581b556cafad", func := "loop.example/g00799/laws.FnExactLogFault", spec := "fnExactLogFault", apart := false, narrowed := true }
def FnExactLogFaultUptoSaid : Prop := fnExactLogFaultUptoRow.holds Try.pinned (OpenSpec.upto fnExactLogFaultSpec)

/-- 'laws.FnExactAddItem', WHERE WHAT IT READS IS OF BULK AT MOST 1048576: true; the input reads as it did. -/
def fnExactAddItemUptoRow : OpenClaim := { program := "ytjibfncdkcmhcaa", sum := "d70c2390cb32c849e25b72b433629fd83420490ecbc22ba6ea38581b556cafad", func := "loop.example/g00799/laws.FnExactAddItem", spec := "fnExactAddItem", apart := false, narrowed := true }
def FnExactAddItemUptoSaid : Prop := fnExactAddItemUptoRow.holds Try.pinned (OpenSpec.upto fnExactAddItemSpec)

/-- 'laws.FnExactTrimLog', WHERE WHAT IT READS IS OF BULK AT MOST 1048576: true; the input reads as it did. -/
def fnExactTrimLogUptoRow : OpenClaim := { program := "ytjibfncdkcmhcaa", sum := "d70c2390cb32c849e25b72b433629fd83420490ecbc22ba6ea38581b556cafad", func := "loop.example/g00799/laws.FnExactTrimLog", spec := "fnExactTrimLog", apart := false, narrowed := true }
def FnExactTrimLogUptoSaid : Prop := fnExactTrimLogUptoRow.holds Try.pinned (OpenSpec.upto fnExactTrimLogSpec)

/-- 'laws.FnExactSameItems', WHERE WHAT IT READS IS OF BULK AT MOST 1048576: true; the input reads as it did. -/
def fnExactSameItemsUptoRow : OpenClaim := { program := "ytjibfncdkcmhcaa", sum := "d70c2390cb32c849e25b72b433629fd83420490ecbc22ba6ea38581b556cafad", func := "loop.example/g00799/laws.FnExactSameItems", spec := "fnExactSameItems", unfollowed := true, recurses := true, apart := false, narrowed := true }
def FnExactSameItemsUptoSaid : Prop := fnExactSameItemsUptoRow.holds Try.pinned (OpenSpec.upto fnExactSameItemsSpec)

/-- 'laws.FnExactSameAtoms', WHERE WHAT IT READS IS OF BULK AT MOST 1048576: true; the input reads as it did. -/
def fnExactSameAtomsUptoRow : OpenClaim := { program := "ytjibfncdkcmhcaa", sum := "d70c2390cb32c849e25b72b433629fd83420490ecbc22ba6ea38581b556cafad", func := "loop.example/g00799/laws.FnExactSameAtoms", spec := "fnExactSameAtoms", apart := false, narrowed := true }
def FnExactSameAtomsUptoSaid : Prop := fnExactSameAtomsUptoRow.holds Try.pinned (OpenSpec.upto fnExactSameAtomsSpec)

end Rows
end Go.Proofs.Ytjibfncdkcmhcaa
