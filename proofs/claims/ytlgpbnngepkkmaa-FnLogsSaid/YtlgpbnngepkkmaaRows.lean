/-
  No cell of these rows narrows 'for every input' (looked for: loops, veiled, ifaces, maps, wideKeys, modest, calm, conditions, laid).
  DERIVED. THE GIVEN ROWS OF THIS SEAT. 7 by the template 'for every input the law returns true; each argument reads behind the call as it read before'; 0 by the template 'total and deterministic' (their statements: YtlgpbnngepkkmaaTotals.lean).
  GIVEN WITH THE SEED: the statements are not yours to turn. If you find one false, say at which input.
  Laid BY PROGRAM, IN A SANDBOX (cutbox-rows.mjs): the forced cells as the released guide's own fill.sh prints them over the translation 5f6f7ecdae514d18… (all of the seat's roots in one cut). By AI agents, Wed Nov 11 2026. No macro, syntax, notation, axiom, sorry.
-/
import Derived.Test.YtlgpbnngepkkmaaChecked
import GoSem.Claim
import GoSem.ClaimJoined
import GoSem.ClaimMapViews
import Derived.JoinedTies
import Derived.KernelRfl
namespace Go.Proofs.Ytlgpbnngepkkmaa
/- THE CELL 'sum', in the pinned program and in every row, IS THE sha256 OF THE DUMP (.gsa) THAT YtlgpbnngepkkmaaProg.lean LOADS. Nothing in Lean hashes anything: it is a label: what it is worth is what the hold of that sum in a sandbox is worth. -/
noncomputable def Try.pinned : Pinned := { name := "ytlgpbnngepkkmaa", sum := "5f6f7ecdae514d184c32bb880aeb0af26cbeedf5a0b022f8b6e08bec4febf774", checked := Try.checked }
namespace Rows
def none {H : Type} : Left H := { results := [], args := [] }

/-- 'laws.FnLogs': WHATEVER THE INPUT: true; the input reads as it did. -/
def fnLogsSpec : ChangeSpec := { name := "fnLogs", fn := fun _ => fun
  | [d] => { results := [.lit (.bool true)], args := [d] }
  | _ => none }
def fnLogsRow : OpenClaim := { program := "ytlgpbnngepkkmaa", sum := "5f6f7ecdae514d184c32bb880aeb0af26cbeedf5a0b022f8b6e08bec4febf774", func := "loop.example/g00799/laws.FnLogs", spec := "fnLogs", unfollowed := true, recurses := true, apart := false }
def FnLogsSaid : Prop := fnLogsRow.holds Try.pinned (OpenSpec.ofChange fnLogsSpec)

/-- ITS FALSE NEIGHBOUR: 'it returns false'. Refute it at one input. -/
def fnLogsWrong : ChangeSpec := { name := "fnLogs", fn := fun _ => fun
  | [d] => { results := [.lit (.bool false)], args := [d] }
  | _ => none }
def FnLogsWrongFalsely : Prop := fnLogsRow.holds Try.pinned (OpenSpec.ofChange fnLogsWrong)

/-- 'laws.FnTimers': WHATEVER THE INPUT: true; the input reads as it did. -/
def fnTimersSpec : ChangeSpec := { name := "fnTimers", fn := fun _ => fun
  | [d] => { results := [.lit (.bool true)], args := [d] }
  | _ => none }
def fnTimersRow : OpenClaim := { program := "ytlgpbnngepkkmaa", sum := "5f6f7ecdae514d184c32bb880aeb0af26cbeedf5a0b022f8b6e08bec4febf774", func := "loop.example/g00799/laws.FnTimers", spec := "fnTimers", unfollowed := true, recurses := true, apart := false }
def FnTimersSaid : Prop := fnTimersRow.holds Try.pinned (OpenSpec.ofChange fnTimersSpec)

/-- ITS FALSE NEIGHBOUR: 'it returns false'. Refute it at one input. -/
def fnTimersWrong : ChangeSpec := { name := "fnTimers", fn := fun _ => fun
  | [d] => { results := [.lit (.bool false)], args := [d] }
  | _ => none }
def FnTimersWrongFalsely : Prop := fnTimersRow.holds Try.pinned (OpenSpec.ofChange fnTimersWrong)

/-- 'laws.FnExactTimerFault': WHATEVER THE INPUT: true; the input reads as it did. -/
def fnExactTimerFaultSpec : ChangeSpec := { name := "fnExactTimerFault", fn := fun _ => fun
  | [d] => { results := [.lit (.bool true)], args := [d] }
  | _ => none }
def fnExactTimerFaultRow : OpenClaim := { program := "ytlgpbnngepkkmaa", sum := "5f6f7ecdae514d184c32bb880aeb0af26cbeedf5a0b022f8b6e08bec4febf774", func := "loop.example/g00799/laws.FnExactTimerFault", spec := "fnExactTimerFault", apart := false }
def FnExactTimerFaultSaid : Prop := fnExactTimerFaultRow.holds Try.pinned (OpenSpec.ofChange fnExactTimerFaultSpec)

/-- ITS FALSE NEIGHBOUR: 'it returns false'. Refute it at one input. -/
def fnExactTimerFaultWrong : ChangeSpec := { name := "fnExactTimerFault", fn := fun _ => fun
  | [d] => { results := [.lit (.bool false)], args := [d] }
  | _ => none }
def FnExactTimerFaultWrongFalsely : Prop := fnExactTimerFaultRow.holds Try.pinned (OpenSpec.ofChange fnExactTimerFaultWrong)

/-- 'laws.FnExactNewTimer': WHATEVER THE INPUT: true; the input reads as it did. -/
def fnExactNewTimerSpec : ChangeSpec := { name := "fnExactNewTimer", fn := fun _ => fun
  | [] => { results := [.lit (.bool true)], args := [] }
  | _ => none }
def fnExactNewTimerRow : OpenClaim := { program := "ytlgpbnngepkkmaa", sum := "5f6f7ecdae514d184c32bb880aeb0af26cbeedf5a0b022f8b6e08bec4febf774", func := "loop.example/g00799/laws.FnExactNewTimer", spec := "fnExactNewTimer", apart := false }
def FnExactNewTimerSaid : Prop := fnExactNewTimerRow.holds Try.pinned (OpenSpec.ofChange fnExactNewTimerSpec)

/-- ITS FALSE NEIGHBOUR: 'it returns false'. Refute it at one input. -/
def fnExactNewTimerWrong : ChangeSpec := { name := "fnExactNewTimer", fn := fun _ => fun
  | [] => { results := [.lit (.bool false)], args := [] }
  | _ => none }
def FnExactNewTimerWrongFalsely : Prop := fnExactNewTimerRow.holds Try.pinned (OpenSpec.ofChange fnExactNewTimerWrong)

/-- 'laws.FnExactSampleTimer': WHATEVER THE INPUT: true; the input reads as it did. -/
def fnExactSampleTimerSpec : ChangeSpec := { name := "fnExactSampleTimer", fn := fun _ => fun
  | [d1, d2] => { results := [.lit (.bool true)], args := [d1, d2] }
  | _ => none }
def fnExactSampleTimerRow : OpenClaim := { program := "ytlgpbnngepkkmaa", sum := "5f6f7ecdae514d184c32bb880aeb0af26cbeedf5a0b022f8b6e08bec4febf774", func := "loop.example/g00799/laws.FnExactSampleTimer", spec := "fnExactSampleTimer", unfollowed := true, recurses := true, apart := false }
def FnExactSampleTimerSaid : Prop := fnExactSampleTimerRow.holds Try.pinned (OpenSpec.ofChange fnExactSampleTimerSpec)

/-- ITS FALSE NEIGHBOUR: 'it returns false'. Refute it at one input. -/
def fnExactSampleTimerWrong : ChangeSpec := { name := "fnExactSampleTimer", fn := fun _ => fun
  | [d1, d2] => { results := [.lit (.bool false)], args := [d1, d2] }
  | _ => none }
def FnExactSampleTimerWrongFalsely : Prop := fnExactSampleTimerRow.holds Try.pinned (OpenSpec.ofChange fnExactSampleTimerWrong)

/-- 'laws.FnExactStampOf': WHATEVER THE INPUT: true; the input reads as it did. -/
def fnExactStampOfSpec : ChangeSpec := { name := "fnExactStampOf", fn := fun _ => fun
  | [d] => { results := [.lit (.bool true)], args := [d] }
  | _ => none }
def fnExactStampOfRow : OpenClaim := { program := "ytlgpbnngepkkmaa", sum := "5f6f7ecdae514d184c32bb880aeb0af26cbeedf5a0b022f8b6e08bec4febf774", func := "loop.example/g00799/laws.FnExactStampOf", spec := "fnExactStampOf", apart := false }
def FnExactStampOfSaid : Prop := fnExactStampOfRow.holds Try.pinned (OpenSpec.ofChange fnExactStampOfSpec)

/-- ITS FALSE NEIGHBOUR: 'it returns false'. Refute it at one input. -/
def fnExactStampOfWrong : ChangeSpec := { name := "fnExactStampOf", fn := fun _ => fun
  | [d] => { results := [.lit (.bool false)], args := [d] }
  | _ => none }
def FnExactStampOfWrongFalsely : Prop := fnExactStampOfRow.holds Try.pinned (OpenSpec.ofChange fnExactStampOfWrong)

/-- 'laws.FnExactPassedOf': WHATEVER THE INPUT: true; the input reads as it did. -/
def fnExactPassedOfSpec : ChangeSpec := { name := "fnExactPassedOf", fn := fun _ => fun
  | [d1, d2] => { results := [.lit (.bool true)], args := [d1, d2] }
  | _ => none }
def fnExactPassedOfRow : OpenClaim := { program := "ytlgpbnngepkkmaa", sum := "5f6f7ecdae514d184c32bb880aeb0af26cbeedf5a0b022f8b6e08bec4febf774", func := "loop.example/g00799/laws.FnExactPassedOf", spec := "fnExactPassedOf", apart := false }
def FnExactPassedOfSaid : Prop := fnExactPassedOfRow.holds Try.pinned (OpenSpec.ofChange fnExactPassedOfSpec)

/-- ITS FALSE NEIGHBOUR: 'it returns false'. Refute it at one input. -/
def fnExactPassedOfWrong : ChangeSpec := { name := "fnExactPassedOf", fn := fun _ => fun
  | [d1, d2] => { results := [.lit (.bool false)], args := [d1, d2] }
  | _ => none }
def FnExactPassedOfWrongFalsely : Prop := fnExactPassedOfRow.holds Try.pinned (OpenSpec.ofChange fnExactPassedOfWrong)

/- THE SECOND FORM. 'bulk': how many values and letters a reading holds, each counted each time it is reached (what is shared counts as often as it is met; a slice's spare places count too). A statement '..UptoSaid' is the law's where the arguments, and the package variables that the reading takes, are together of bulk at most 1048576: NARROWER than '..Said'. Prove '..Said' where nothing that the law and all that it calls make is longer than what came in: it says more and counts as full. Else prove '..UptoSaid'. A law counts once. -/
mutual
def uptoBulk {H : Type} : DataW H → Nat
  | .lit (.string bytes) => bytes.length + 1
  | .lit _ => 1
  | .nil => 1
  | .ptr d => uptoBulk d + 1
  | .slice elems spare => uptoBulkAll elems + uptoBulkAll spare + 1
  | .agg parts => uptoBulkAll parts + 1
  | .iface _ d => uptoBulk d + 1
  | .map entries => uptoBulkEntries entries + 1
  | .held _ => 1
def uptoBulkAll {H : Type} : List (DataW H) → Nat
  | [] => 0
  | d :: r => uptoBulk d + uptoBulkAll r
def uptoBulkEntries {H : Type} : List (Lit × DataW H) → Nat
  | [] => 0
  | x :: r => uptoBulkEntry x + uptoBulkEntries r
def uptoBulkEntry {H : Type} : Lit × DataW H → Nat
  | (.string bytes, d) => bytes.length + uptoBulk d + 1
  | (_, d) => uptoBulk d + 1
 end
def uptoSmall : (H : Type) → List (DataW H) → Bool := fun _ ds => decide (uptoBulkAll ds ≤ 1048576)
def OpenSpec.upto (s : _root_.Go.ChangeSpec) : _root_.Go.OpenSpec := { _root_.Go.OpenSpec.ofChange s with cond := some uptoSmall }

/-- 'laws.FnLogs', WHERE WHAT IT READS IS OF BULK AT MOST 1048576: true; the input reads as it did. -/
def fnLogsUptoRow : OpenClaim := { program := "ytlgpbnngepkkmaa", sum := "5f6f7ecdae514d184c32bb880aeb0af26cbeedf5a0b022f8b6e08bec4febf774", func := "loop.example/g00799/laws.FnLogs", spec := "fnLogs", unfollowed := true, recurses := true, apart := false, narrowed := true }
def FnLogsUptoSaid : Prop := fnLogsUptoRow.holds Try.pinned (OpenSpec.upto fnLogsSpec)

/-- 'laws.FnTimers', WHERE WHAT IT READS IS OF BULK AT MOST 1048576: true; the input reads as it did. -/
def fnTimersUptoRow : OpenClaim := { program := "ytlgpbnngepkkmaa", sum := "5f6f7ecdae514d184c32bb880aeb0af26cbeedf5a0b022f8b6e08bec4febf774", func := "loop.example/g00799/laws.FnTimers", spec := "fnTimers", unfollowed := true, recurses := true, apart := false, narrowed := true }
def FnTimersUptoSaid : Prop := fnTimersUptoRow.holds Try.pinned (OpenSpec.upto fnTimersSpec)

/-- 'laws.FnExactTimerFault', WHERE WHAT IT READS IS OF BULK AT MOST 1048576: true; the input reads as it did. -/
def fnExactTimerFaultUptoRow : OpenClaim := { program := "ytlgpbnngepkkmaa", sum := "5f6f7ecdae514d184c32bb880aeb0af26cbeedf5a0b022f8b6e08bec4febf774", func := "loop.example/g00799/laws.FnExactTimerFault", spec := "fnExactTimerFault", apart := false, narrowed := true }
def FnExactTimerFaultUptoSaid : Prop := fnExactTimerFaultUptoRow.holds Try.pinned (OpenSpec.upto fnExactTimerFaultSpec)

/-- 'laws.FnExactNewTimer', WHERE WHAT IT READS IS OF BULK AT MOST 1048576: true; the input reads as it did. -/
def fnExactNewTimerUptoRow : OpenClaim := { program := "ytlgpbnngepkkmaa", sum := "5f6f7ecdae514d184c32bb880aeb0af26cbeedf5a0b022f8b6e08bec4febf774", func := "loop.example/g00799/laws.FnExactNewTimer", spec := "fnExactNewTimer", apart := false, narrowed := true }
def FnExactNewTimerUptoSaid : Prop := fnExactNewTimerUptoRow.holds Try.pinned (OpenSpec.upto fnExactNewTimerSpec)

/-- 'laws.FnExactSampleTimer', WHERE WHAT IT READS IS OF BULK AT MOST 1048576: true; the input reads as it did. -/
def fnExactSampleTimerUptoRow : OpenClaim := { program := "ytlgpbnngepkkmaa", sum := "5f6f7ecdae514d184c32bb880aeb0af26cbeedf5a0b022f8b6e08bec4febf774", func := "loop.example/g00799/laws.FnExactSampleTimer", spec := "fnExactSampleTimer", unfollowed := true, recurses := true, apart := false, narrowed := true }
def FnExactSampleTimerUptoSaid : Prop := fnExactSampleTimerUptoRow.holds Try.pinned (OpenSpec.upto fnExactSampleTimerSpec)

/-- 'laws.FnExactStampOf', WHERE WHAT IT READS IS OF BULK AT MOST 1048576: true; the input reads as it did. -/
def fnExactStampOfUptoRow : OpenClaim := { program := "ytlgpbnngepkkmaa", sum := "5f6f7ecdae514d184c32bb880aeb0af26cbeedf5a0b022f8b6e08bec4febf774", func := "loop.example/g00799/laws.FnExactStampOf", spec := "fnExactStampOf", apart := false, narrowed := true }
def FnExactStampOfUptoSaid : Prop := fnExactStampOfUptoRow.holds Try.pinned (OpenSpec.upto fnExactStampOfSpec)

/-- 'laws.FnExactPassedOf', WHERE WHAT IT READS IS OF BULK AT MOST 1048576: true; the input reads as it did. -/
def fnExactPassedOfUptoRow : OpenClaim := { program := "ytlgpbnngepkkmaa", sum := "5f6f7ecdae514d184c32bb880aeb0af26cbeedf5a0b022f8b6e08bec4febf774", func := "loop.example/g00799/laws.FnExactPassedOf", spec := "fnExactPassedOf", apart := false, narrowed := true }
def FnExactPassedOfUptoSaid : Prop := fnExactPassedOfUptoRow.holds Try.pinned (OpenSpec.upto fnExactPassedOfSpec)

end Rows
end Go.Proofs.Ytlgpbnngepkkmaa
