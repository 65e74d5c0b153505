/-
  No cell of these rows narrows 'for every input' (looked for: loops, veiled, ifaces, maps, wideKeys, modest, calm, conditions, laid).
  DERIVED. THE GIVEN ROWS OF THIS SEAT. 4 by the template 'for every input the law returns true; each argument reads behind the call as it read before'; 0 by the template 'total and deterministic' (their statements: YtjdkaaepbkkchaaTotals.lean).
  GIVEN WITH THE SEED: the statements are not yours to turn. If you find one false, say at which input.
  Laid BY PROGRAM, IN A SANDBOX (cutbox-rows.mjs): the forced cells as the released guide's own fill.sh prints them over the translation bec33d19d849f72d… (all of the seat's roots in one cut). By AI agents, Wed Nov 11 2026. No macro, syntax, notation, axiom, sorry.
-/
import Derived.Test.YtjdkaaepbkkchaaChecked
import GoSem.Claim
import GoSem.ClaimJoined
import GoSem.ClaimMapViews
import Derived.JoinedTies
import Derived.KernelRfl
namespace Go.Proofs.Ytjdkaaepbkkchaa
/- THE CELL 'sum', in the pinned program and in every row, IS THE sha256 OF THE DUMP (.gsa) THAT YtjdkaaepbkkchaaProg.lean LOADS. Nothing in Lean hashes anything: it is a label: what it is worth is what the hold of that sum in a sandbox is worth. -/
noncomputable def Try.pinned : Pinned := { name := "ytjdkaaepbkkchaa", sum := "bec33d19d849f72da1b048c73fe9761916be2f8c09e2b5b93ecd76eb3dbfcc61", checked := Try.checked }
namespace Rows
def none {H : Type} : Left H := { results := [], args := [] }

/-- 'laws.FnExactBodyFault': WHATEVER THE INPUT: true; the input reads as it did. -/
def fnExactBodyFaultSpec : ChangeSpec := { name := "fnExactBodyFault", fn := fun _ => fun
  | [d] => { results := [.lit (.bool true)], args := [d] }
  | _ => none }
def fnExactBodyFaultRow : OpenClaim := { program := "ytjdkaaepbkkchaa", sum := "bec33d19d849f72da1b048c73fe9761916be2f8c09e2b5b93ecd76eb3dbfcc61", func := "loop.example/g00799/laws.FnExactBodyFault", spec := "fnExactBodyFault", apart := false }
def FnExactBodyFaultSaid : Prop := fnExactBodyFaultRow.holds Try.pinned (OpenSpec.ofChange fnExactBodyFaultSpec)

/-- ITS FALSE NEIGHBOUR: 'it returns false'. Refute it at one input. -/
def fnExactBodyFaultWrong : ChangeSpec := { name := "fnExactBodyFault", fn := fun _ => fun
  | [d] => { results := [.lit (.bool false)], args := [d] }
  | _ => none }
def FnExactBodyFaultWrongFalsely : Prop := fnExactBodyFaultRow.holds Try.pinned (OpenSpec.ofChange fnExactBodyFaultWrong)

/-- 'laws.FnExactEncodeBody': WHATEVER THE INPUT: true; the input reads as it did. -/
def fnExactEncodeBodySpec : ChangeSpec := { name := "fnExactEncodeBody", fn := fun _ => fun
  | [d] => { results := [.lit (.bool true)], args := [d] }
  | _ => none }
def fnExactEncodeBodyRow : OpenClaim := { program := "ytjdkaaepbkkchaa", sum := "bec33d19d849f72da1b048c73fe9761916be2f8c09e2b5b93ecd76eb3dbfcc61", func := "loop.example/g00799/laws.FnExactEncodeBody", spec := "fnExactEncodeBody", apart := false }
def FnExactEncodeBodySaid : Prop := fnExactEncodeBodyRow.holds Try.pinned (OpenSpec.ofChange fnExactEncodeBodySpec)

/-- ITS FALSE NEIGHBOUR: 'it returns false'. Refute it at one input. -/
def fnExactEncodeBodyWrong : ChangeSpec := { name := "fnExactEncodeBody", fn := fun _ => fun
  | [d] => { results := [.lit (.bool false)], args := [d] }
  | _ => none }
def FnExactEncodeBodyWrongFalsely : Prop := fnExactEncodeBodyRow.holds Try.pinned (OpenSpec.ofChange fnExactEncodeBodyWrong)

/-- 'laws.FnExactReplyFault': WHATEVER THE INPUT: true; the input reads as it did. -/
def fnExactReplyFaultSpec : ChangeSpec := { name := "fnExactReplyFault", fn := fun _ => fun
  | [d] => { results := [.lit (.bool true)], args := [d] }
  | _ => none }
def fnExactReplyFaultRow : OpenClaim := { program := "ytjdkaaepbkkchaa", sum := "bec33d19d849f72da1b048c73fe9761916be2f8c09e2b5b93ecd76eb3dbfcc61", func := "loop.example/g00799/laws.FnExactReplyFault", spec := "fnExactReplyFault", apart := false }
def FnExactReplyFaultSaid : Prop := fnExactReplyFaultRow.holds Try.pinned (OpenSpec.ofChange fnExactReplyFaultSpec)

/-- ITS FALSE NEIGHBOUR: 'it returns false'. Refute it at one input. -/
def fnExactReplyFaultWrong : ChangeSpec := { name := "fnExactReplyFault", fn := fun _ => fun
  | [d] => { results := [.lit (.bool false)], args := [d] }
  | _ => none }
def FnExactReplyFaultWrongFalsely : Prop := fnExactReplyFaultRow.holds Try.pinned (OpenSpec.ofChange fnExactReplyFaultWrong)

/-- 'laws.FnExactEncodeReply': WHATEVER THE INPUT: true; the input reads as it did. -/
def fnExactEncodeReplySpec : ChangeSpec := { name := "fnExactEncodeReply", fn := fun _ => fun
  | [d] => { results := [.lit (.bool true)], args := [d] }
  | _ => none }
def fnExactEncodeReplyRow : OpenClaim := { program := "ytjdkaaepbkkchaa", sum := "bec33d19d849f72da1b048c73fe9761916be2f8c09e2b5b93ecd76eb3dbfcc61", func := "loop.example/g00799/laws.FnExactEncodeReply", spec := "fnExactEncodeReply", apart := false }
def FnExactEncodeReplySaid : Prop := fnExactEncodeReplyRow.holds Try.pinned (OpenSpec.ofChange fnExactEncodeReplySpec)

/-- ITS FALSE NEIGHBOUR: 'it returns false'. Refute it at one input. -/
def fnExactEncodeReplyWrong : ChangeSpec := { name := "fnExactEncodeReply", fn := fun _ => fun
  | [d] => { results := [.lit (.bool false)], args := [d] }
  | _ => none }
def FnExactEncodeReplyWrongFalsely : Prop := fnExactEncodeReplyRow.holds Try.pinned (OpenSpec.ofChange fnExactEncodeReplyWrong)

/- THE SECOND FORM. 'bulk': how many values and letters a reading holds, each counted each time it is reached (what is shared counts as often as it is met; a slice's spare places count too). A statement '..UptoSaid' is the law's where the arguments, and the package variables that the reading takes, are together of bulk at most 1048576: NARROWER than '..Said'. Prove '..Said' where nothing that the law and all that it calls make is longer than what came in: it says more and counts as full. Else prove '..UptoSaid'. A law counts once. -/
mutual
def uptoBulk {H : Type} : DataW H → Nat
  | .lit (.string bytes) => bytes.length + 1
  | .lit _ => 1
  | .nil => 1
  | .ptr d => uptoBulk d + 1
  | .slice elems spare => uptoBulkAll elems + uptoBulkAll spare + 1
  | .agg parts => uptoBulkAll parts + 1
  | .iface _ d => uptoBulk d + 1
  | .map entries => uptoBulkEntries entries + 1
  | .held _ => 1
def uptoBulkAll {H : Type} : List (DataW H) → Nat
  | [] => 0
  | d :: r => uptoBulk d + uptoBulkAll r
def uptoBulkEntries {H : Type} : List (Lit × DataW H) → Nat
  | [] => 0
  | x :: r => uptoBulkEntry x + uptoBulkEntries r
def uptoBulkEntry {H : Type} : Lit × DataW H → Nat
  | (.string bytes, d) => bytes.length + uptoBulk d + 1
  | (_, d) => uptoBulk d + 1
 end
def uptoSmall : (H : Type) → List (DataW H) → Bool := fun _ ds => decide (uptoBulkAll ds ≤ 1048576)
def OpenSpec.upto (s : _root_.Go.ChangeSpec) : _root_.Go.OpenSpec := { _root_.Go.OpenSpec.ofChange s with cond := some uptoSmall }

/-- 'laws.FnExactBodyFault', WHERE WHAT IT READS IS OF BULK AT MOST 1048576: true; the input reads as it did. -/
def fnExactBodyFaultUptoRow : OpenClaim := { program := "ytjdkaaepbkkchaa", sum := "bec33d19d849f72da1b048c73fe9761916be2f8c09e2b5b93ecd76eb3dbfcc61", func := "loop.example/g00799/laws.FnExactBodyFault", spec := "fnExactBodyFault", apart := false, narrowed := true }
def FnExactBodyFaultUptoSaid : Prop := fnExactBodyFaultUptoRow.holds Try.pinned (OpenSpec.upto fnExactBodyFaultSpec)

/-- 'laws.FnExactEncodeBody', WHERE WHAT IT READS IS OF BULK AT MOST 1048576: true; the input reads as it did. -/
def fnExactEncodeBodyUptoRow : OpenClaim := { program := "ytjdkaaepbkkchaa", sum := "bec33d19d849f72da1b048c73fe9761916be2f8c09e2b5b93ecd76eb3dbfcc61", func := "loop.example/g00799/laws.FnExactEncodeBody", spec := "fnExactEncodeBody", apart := false, narrowed := true }
def FnExactEncodeBodyUptoSaid : Prop := fnExactEncodeBodyUptoRow.holds Try.pinned (OpenSpec.upto fnExactEncodeBodySpec)

/-- 'laws.FnExactReplyFault', WHERE WHAT IT READS IS OF BULK AT MOST 1048576: true; the input reads as it did. -/
def fnExactReplyFaultUptoRow : OpenClaim := { program := "ytjdkaaepbkkchaa", sum := "bec33d19d849f72da1b048c73fe9761916be2f8c09e2b5b93ecd76eb3dbfcc61", func := "loop.example/g00799/laws.FnExactReplyFault", spec := "fnExactReplyFault", apart := false, narrowed := true }
def FnExactReplyFaultUptoSaid : Prop := fnExactReplyFaultUptoRow.holds Try.pinned (OpenSpec.upto fnExactReplyFaultSpec)

/-- 'laws.FnExactEncodeReply', WHERE WHAT IT READS IS OF BULK AT MOST 1048576: true; the input reads as it did. -/
def fnExactEncodeReplyUptoRow : OpenClaim := { program := "ytjdkaaepbkkchaa", sum := "bec33d19d849f72da1b048c73fe9761916be2f8c09e2b5b93ecd76eb3dbfcc61", func := "loop.example/g00799/laws.FnExactEncodeReply", spec := "fnExactEncodeReply", apart := false, narrowed := true }
def FnExactEncodeReplyUptoSaid : Prop := fnExactEncodeReplyUptoRow.holds Try.pinned (OpenSpec.upto fnExactEncodeReplySpec)

end Rows
end Go.Proofs.Ytjdkaaepbkkchaa
