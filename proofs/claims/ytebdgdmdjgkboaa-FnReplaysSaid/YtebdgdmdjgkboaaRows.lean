/-
  No cell of these rows narrows 'for every input' (looked for: loops, veiled, ifaces, maps, wideKeys, modest, calm, conditions, laid).
  DERIVED. THE GIVEN ROWS OF THIS SEAT. 6 by the template 'for every input the law returns true; each argument reads behind the call as it read before'; 0 by the template 'total and deterministic' (their statements: YtebdgdmdjgkboaaTotals.lean).
  GIVEN WITH THE SEED: the statements are not yours to turn. If you find one false, say at which input.
  Laid BY PROGRAM, IN A SANDBOX (cutbox-rows.mjs): the forced cells as the released guide's own fill.sh prints them over the translation 8d37f694ca7b0509… (all of the seat's roots in one cut). By AI agents, Wed Nov 11 2026. No macro, syntax, notation, axiom, sorry.
-/
import Derived.Test.YtebdgdmdjgkboaaChecked
import GoSem.Claim
import GoSem.ClaimJoined
import GoSem.ClaimMapViews
import Derived.JoinedTies
import Derived.KernelRfl
namespace Go.Proofs.Ytebdgdmdjgkboaa
/- THE CELL 'sum', in the pinned program and in every row, IS THE sha256 OF THE DUMP (.gsa) THAT YtebdgdmdjgkboaaProg.lean LOADS. Nothing in Lean hashes anything: it is a label: what it is worth is what the hold of that sum in a sandbox is worth. -/
noncomputable def Try.pinned : Pinned := { name := "ytebdgdmdjgkboaa", sum := "8d37f694ca7b05099d1cd034d012b01a58a5ec5ad98498827d39bd597e0de554", checked := Try.checked }
namespace Rows
def none {H : Type} : Left H := { results := [], args := [] }

/-- 'laws.FnReplays': WHATEVER THE INPUT: true; the input reads as it did. -/
def fnReplaysSpec : ChangeSpec := { name := "fnReplays", fn := fun _ => fun
  | [d] => { results := [.lit (.bool true)], args := [d] }
  | _ => none }
def fnReplaysRow : OpenClaim := { program := "ytebdgdmdjgkboaa", sum := "8d37f694ca7b05099d1cd034d012b01a58a5ec5ad98498827d39bd597e0de554", func := "loop.example/g00799/laws.FnReplays", spec := "fnReplays", unfollowed := true, recurses := true, apart := false }
def FnReplaysSaid : Prop := fnReplaysRow.holds Try.pinned (OpenSpec.ofChange fnReplaysSpec)

/-- ITS FALSE NEIGHBOUR: 'it returns false'. Refute it at one input. -/
def fnReplaysWrong : ChangeSpec := { name := "fnReplays", fn := fun _ => fun
  | [d] => { results := [.lit (.bool false)], args := [d] }
  | _ => none }
def FnReplaysWrongFalsely : Prop := fnReplaysRow.holds Try.pinned (OpenSpec.ofChange fnReplaysWrong)

/-- 'laws.FnExactReplayFault': WHATEVER THE INPUT: true; the input reads as it did. -/
def fnExactReplayFaultSpec : ChangeSpec := { name := "fnExactReplayFault", fn := fun _ => fun
  | [d] => { results := [.lit (.bool true)], args := [d] }
  | _ => none }
def fnExactReplayFaultRow : OpenClaim := { program := "ytebdgdmdjgkboaa", sum := "8d37f694ca7b05099d1cd034d012b01a58a5ec5ad98498827d39bd597e0de554", func := "loop.example/g00799/laws.FnExactReplayFault", spec := "fnExactReplayFault", apart := false }
def FnExactReplayFaultSaid : Prop := fnExactReplayFaultRow.holds Try.pinned (OpenSpec.ofChange fnExactReplayFaultSpec)

/-- ITS FALSE NEIGHBOUR: 'it returns false'. Refute it at one input. -/
def fnExactReplayFaultWrong : ChangeSpec := { name := "fnExactReplayFault", fn := fun _ => fun
  | [d] => { results := [.lit (.bool false)], args := [d] }
  | _ => none }
def FnExactReplayFaultWrongFalsely : Prop := fnExactReplayFaultRow.holds Try.pinned (OpenSpec.ofChange fnExactReplayFaultWrong)

/-- 'laws.FnExactNewReplay': WHATEVER THE INPUT: true; the input reads as it did. -/
def fnExactNewReplaySpec : ChangeSpec := { name := "fnExactNewReplay", fn := fun _ => fun
  | [] => { results := [.lit (.bool true)], args := [] }
  | _ => none }
def fnExactNewReplayRow : OpenClaim := { program := "ytebdgdmdjgkboaa", sum := "8d37f694ca7b05099d1cd034d012b01a58a5ec5ad98498827d39bd597e0de554", func := "loop.example/g00799/laws.FnExactNewReplay", spec := "fnExactNewReplay", apart := false }
def FnExactNewReplaySaid : Prop := fnExactNewReplayRow.holds Try.pinned (OpenSpec.ofChange fnExactNewReplaySpec)

/-- ITS FALSE NEIGHBOUR: 'it returns false'. Refute it at one input. -/
def fnExactNewReplayWrong : ChangeSpec := { name := "fnExactNewReplay", fn := fun _ => fun
  | [] => { results := [.lit (.bool false)], args := [] }
  | _ => none }
def FnExactNewReplayWrongFalsely : Prop := fnExactNewReplayRow.holds Try.pinned (OpenSpec.ofChange fnExactNewReplayWrong)

/-- 'laws.FnExactCheckReplay': WHATEVER THE INPUT: true; the input reads as it did. -/
def fnExactCheckReplaySpec : ChangeSpec := { name := "fnExactCheckReplay", fn := fun _ => fun
  | [d1, d2] => { results := [.lit (.bool true)], args := [d1, d2] }
  | _ => none }
def fnExactCheckReplayRow : OpenClaim := { program := "ytebdgdmdjgkboaa", sum := "8d37f694ca7b05099d1cd034d012b01a58a5ec5ad98498827d39bd597e0de554", func := "loop.example/g00799/laws.FnExactCheckReplay", spec := "fnExactCheckReplay", apart := false }
def FnExactCheckReplaySaid : Prop := fnExactCheckReplayRow.holds Try.pinned (OpenSpec.ofChange fnExactCheckReplaySpec)

/-- ITS FALSE NEIGHBOUR: 'it returns false'. Refute it at one input. -/
def fnExactCheckReplayWrong : ChangeSpec := { name := "fnExactCheckReplay", fn := fun _ => fun
  | [d1, d2] => { results := [.lit (.bool false)], args := [d1, d2] }
  | _ => none }
def FnExactCheckReplayWrongFalsely : Prop := fnExactCheckReplayRow.holds Try.pinned (OpenSpec.ofChange fnExactCheckReplayWrong)

/-- 'laws.FnExactTakeReplay': WHATEVER THE INPUT: true; the input reads as it did. -/
def fnExactTakeReplaySpec : ChangeSpec := { name := "fnExactTakeReplay", fn := fun _ => fun
  | [d1, d2] => { results := [.lit (.bool true)], args := [d1, d2] }
  | _ => none }
def fnExactTakeReplayRow : OpenClaim := { program := "ytebdgdmdjgkboaa", sum := "8d37f694ca7b05099d1cd034d012b01a58a5ec5ad98498827d39bd597e0de554", func := "loop.example/g00799/laws.FnExactTakeReplay", spec := "fnExactTakeReplay", unfollowed := true, recurses := true, apart := false }
def FnExactTakeReplaySaid : Prop := fnExactTakeReplayRow.holds Try.pinned (OpenSpec.ofChange fnExactTakeReplaySpec)

/-- ITS FALSE NEIGHBOUR: 'it returns false'. Refute it at one input. -/
def fnExactTakeReplayWrong : ChangeSpec := { name := "fnExactTakeReplay", fn := fun _ => fun
  | [d1, d2] => { results := [.lit (.bool false)], args := [d1, d2] }
  | _ => none }
def FnExactTakeReplayWrongFalsely : Prop := fnExactTakeReplayRow.holds Try.pinned (OpenSpec.ofChange fnExactTakeReplayWrong)

/-- 'laws.FnExactSameReplays': WHATEVER THE INPUT: true; the input reads as it did. -/
def fnExactSameReplaysSpec : ChangeSpec := { name := "fnExactSameReplays", fn := fun _ => fun
  | [d1, d2] => { results := [.lit (.bool true)], args := [d1, d2] }
  | _ => none }
def fnExactSameReplaysRow : OpenClaim := { program := "ytebdgdmdjgkboaa", sum := "8d37f694ca7b05099d1cd034d012b01a58a5ec5ad98498827d39bd597e0de554", func := "loop.example/g00799/laws.FnExactSameReplays", spec := "fnExactSameReplays", apart := false }
def FnExactSameReplaysSaid : Prop := fnExactSameReplaysRow.holds Try.pinned (OpenSpec.ofChange fnExactSameReplaysSpec)

/-- ITS FALSE NEIGHBOUR: 'it returns false'. Refute it at one input. -/
def fnExactSameReplaysWrong : ChangeSpec := { name := "fnExactSameReplays", fn := fun _ => fun
  | [d1, d2] => { results := [.lit (.bool false)], args := [d1, d2] }
  | _ => none }
def FnExactSameReplaysWrongFalsely : Prop := fnExactSameReplaysRow.holds Try.pinned (OpenSpec.ofChange fnExactSameReplaysWrong)

/- THE SECOND FORM. 'bulk': how many values and letters a reading holds, each counted each time it is reached (what is shared counts as often as it is met; a slice's spare places count too). A statement '..UptoSaid' is the law's where the arguments, and the package variables that the reading takes, are together of bulk at most 1048576: NARROWER than '..Said'. Prove '..Said' where nothing that the law and all that it calls make is longer than what came in: it says more and counts as full. Else prove '..UptoSaid'. A law counts once. -/
mutual
def uptoBulk {H : Type} : DataW H → Nat
  | .lit (.string bytes) => bytes.length + 1
  | .lit _ => 1
  | .nil => 1
  | .ptr d => uptoBulk d + 1
  | .slice elems spare => uptoBulkAll elems + uptoBulkAll spare + 1
  | .agg parts => uptoBulkAll parts + 1
  | .iface _ d => uptoBulk d + 1
  | .map entries => uptoBulkEntries entries + 1
  | .held _ => 1
def uptoBulkAll {H : Type} : List (DataW H) → Nat
  | [] => 0
  | d :: r => uptoBulk d + uptoBulkAll r
def uptoBulkEntries {H : Type} : List (Lit × DataW H) → Nat
  | [] => 0
  | x :: r => uptoBulkEntry x + uptoBulkEntries r
def uptoBulkEntry {H : Type} : Lit × DataW H → Nat
  | (.string bytes, d) => bytes.length + uptoBulk d + 1
  | (_, d) => uptoBulk d + 1
 end
def uptoSmall : (H : Type) → List (DataW H) → Bool := fun _ ds => decide (uptoBulkAll ds ≤ 1048576)
def OpenSpec.upto (s : _root_.Go.ChangeSpec) : _root_.Go.OpenSpec := { _root_.Go.OpenSpec.ofChange s with cond := some uptoSmall }

/-- 'laws.FnReplays', WHERE WHAT IT READS IS OF BULK AT MOST 1048576: true; the input reads as it did. -/
def fnReplaysUptoRow : OpenClaim := { program := "ytebdgdmdjgkboaa", sum := "8d37f694ca7b05099d1cd034d012b01a58a5ec5ad98498827d39bd597e0de554", func := "loop.example/g00799/laws.FnReplays", spec := "fnReplays", unfollowed := true, recurses := true, apart := false, narrowed := true }
def FnReplaysUptoSaid : Prop := fnReplaysUptoRow.holds Try.pinned (OpenSpec.upto fnReplaysSpec)

/-- 'laws.FnExactReplayFault', WHERE WHAT IT READS IS OF BULK AT MOST 1048576: true; the input reads as it did. -/
def fnExactReplayFaultUptoRow : OpenClaim := { program := "ytebdgdmdjgkboaa", sum := "8d37f694ca7b05099d1cd034d012b01a58a5ec5ad98498827d39bd597e0de554", func := "loop.example/g00799/laws.FnExactReplayFault", spec := "fnExactReplayFault", apart := false, narrowed := true }
def FnExactReplayFaultUptoSaid : Prop := fnExactReplayFaultUptoRow.holds Try.pinned (OpenSpec.upto fnExactReplayFaultSpec)

/-- 'laws.FnExactNewReplay', WHERE WHAT IT READS IS OF BULK AT MOST 1048576: true; the input reads as it did. -/
def fnExactNewReplayUptoRow : OpenClaim := { program := "ytebdgdmdjgkboaa", sum := "8d37f694ca7b05099d1cd034d012b01a58a5ec5ad98498827d39bd597e0de554", func := "loop.example/g00799/laws.FnExactNewReplay", spec := "fnExactNewReplay", apart := false, narrowed := true }
def FnExactNewReplayUptoSaid : Prop := fnExactNewReplayUptoRow.holds Try.pinned (OpenSpec.upto fnExactNewReplaySpec)

/-- 'laws.FnExactCheckReplay', WHERE WHAT IT READS IS OF BULK AT MOST 1048576: true; the input reads as it did. -/
def fnExactCheckReplayUptoRow : OpenClaim := { program := "ytebdgdmdjgkboaa", sum := "8d37f694ca7b05099d1cd034d012b01a58a5ec5ad98498827d39bd597e0de554", func := "loop.example/g00799/laws.FnExactCheckReplay", spec := "fnExactCheckReplay", apart := false, narrowed := true }
def FnExactCheckReplayUptoSaid : Prop := fnExactCheckReplayUptoRow.holds Try.pinned (OpenSpec.upto fnExactCheckReplaySpec)

/-- 'laws.FnExactTakeReplay', WHERE WHAT IT READS IS OF BULK AT MOST 1048576: true; the input reads as it did. -/
def fnExactTakeReplayUptoRow : OpenClaim := { program := "ytebdgdmdjgkboaa", sum := "8d37f694ca7b05099d1cd034d012b01a58a5ec5ad98498827d39bd597e0de554", func := "loop.example/g00799/laws.FnExactTakeReplay", spec := "fnExactTakeReplay", unfollowed := true, recurses := true, apart := false, narrowed := true }
def FnExactTakeReplayUptoSaid : Prop := fnExactTakeReplayUptoRow.holds Try.pinned (OpenSpec.upto fnExactTakeReplaySpec)

/-- 'laws.FnExactSameReplays', WHERE WHAT IT READS IS OF BULK AT MOST 1048576: true; the input reads as it did. -/
def fnExactSameReplaysUptoRow : OpenClaim := { program := "ytebdgdmdjgkboaa", sum := "8d37f694ca7b05099d1cd034d012b01a58a5ec5ad98498827d39bd597e0de554", func := "loop.example/g00799/laws.FnExactSameReplays", spec := "fnExactSameReplays", apart := false, narrowed := true }
def FnExactSameReplaysUptoSaid : Prop := fnExactSameReplaysUptoRow.holds Try.pinned (OpenSpec.upto fnExactSameReplaysSpec)

end Rows
end Go.Proofs.Ytebdgdmdjgkboaa
