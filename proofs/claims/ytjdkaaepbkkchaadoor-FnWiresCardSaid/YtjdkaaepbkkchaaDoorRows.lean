/-
  NARROWER THAN 'FOR EVERY INPUT', by the rows' own cells (each row's printed sentence says how): FnWires: ifaces, laid · FnExactDecodeBody: ifaces, laid · FnExactDecodeReply: ifaces, laid.
  DERIVED. THE GIVEN ROWS OF THIS SEAT. 3 by the template 'for every input the law returns true; each argument reads behind the call as it read before'; 0 by the template 'total and deterministic' (their statements: YtjdkaaepbkkchaaDoorTotals.lean).
  GIVEN WITH THE SEED: the statements are not yours to turn. If you find one false, say at which input.
  Laid BY PROGRAM, IN A SANDBOX (cutbox-rows.mjs): the forced cells as the released guide's own fill.sh prints them over the translation b1dd75464f2c2e87… (all of the seat's roots in one cut). By AI agents, Wed Nov 11 2026. No macro, syntax, notation, axiom, sorry.
-/
import Derived.Test.YtjdkaaepbkkchaaDoorChecked
import GoSem.Claim
import GoSem.ClaimJoined
import GoSem.ClaimMapViews
import Derived.JoinedTies
import Derived.KernelRfl
namespace Go.Proofs.YtjdkaaepbkkchaaDoor
/- THE CELL 'sum', in the pinned program and in every row, IS THE sha256 OF THE DUMP (.gsa) THAT YtjdkaaepbkkchaaDoorProg.lean LOADS. Nothing in Lean hashes anything: it is a label: what it is worth is what the hold of that sum in a sandbox is worth. -/
noncomputable def Tryd.pinned : Pinned := { name := "ytjdkaaepbkkchaadoor", sum := "b1dd75464f2c2e8768f6e1c2d6e4bc47267a401572a535d82687e28a855ef197", checked := Tryd.checked }
namespace Rows
def none {H : Type} : Left H := { results := [], args := [] }

/- WHAT THE LISTED PACKAGE-LEVEL VARIABLES READ AS WHEN THE CALL BEGINS. Each datum BY PROGRAM (the guide's laid-datum.mjs) off the statement by which the dump's own 'gosem.cut.vars' lays the variable. In a bare row this is a premise. The card (YtjdkaaepbkkchaaDoorCards.lean) ties it to the program's text. -/
def laid_loop_example_g00799_impl_errUnreadable {H : Type} : DataW H := .iface "*errors.errorString" (.ptr (.agg [.lit (.string [116, 104, 101, 115, 101, 32, 98, 121, 116, 101, 115, 32, 115, 97, 121, 32, 110, 111, 116, 104, 105, 110, 103])]))

/-- 'laws.FnWires': WHATEVER THE INPUT: true; the input reads as it did. -/
def fnWiresSpec : ChangeSpec := { name := "fnWires", vars := ["loop.example/g00799/impl.errUnreadable"], fn := fun _ => fun
  | [d, g1] => { results := [.lit (.bool true)], args := [d], vars := [g1] }
  | _ => none }
def fnWiresRow : OpenClaim := { program := "ytjdkaaepbkkchaadoor", sum := "b1dd75464f2c2e8768f6e1c2d6e4bc47267a401572a535d82687e28a855ef197", func := "loop.example/g00799/laws.FnWires", spec := "fnWires", unfollowed := true, recurses := true, named := ["loop.example/g00799/impl.errUnreadable"], ifaces := true, apart := false, laid := [("loop.example/g00799/impl.errUnreadable", laid_loop_example_g00799_impl_errUnreadable)] }
def FnWiresSaid : Prop := fnWiresRow.holds Tryd.pinned (OpenSpec.ofChange fnWiresSpec)

/-- ITS FALSE NEIGHBOUR: 'it returns false'. Refute it at one input. -/
def fnWiresWrong : ChangeSpec := { name := "fnWires", vars := ["loop.example/g00799/impl.errUnreadable"], fn := fun _ => fun
  | [d, g1] => { results := [.lit (.bool false)], args := [d], vars := [g1] }
  | _ => none }
def FnWiresWrongFalsely : Prop := fnWiresRow.holds Tryd.pinned (OpenSpec.ofChange fnWiresWrong)

/-- 'laws.FnExactDecodeBody': WHATEVER THE INPUT: true; the input reads as it did. -/
def fnExactDecodeBodySpec : ChangeSpec := { name := "fnExactDecodeBody", vars := ["loop.example/g00799/impl.errUnreadable"], fn := fun _ => fun
  | [d, g1] => { results := [.lit (.bool true)], args := [d], vars := [g1] }
  | _ => none }
def fnExactDecodeBodyRow : OpenClaim := { program := "ytjdkaaepbkkchaadoor", sum := "b1dd75464f2c2e8768f6e1c2d6e4bc47267a401572a535d82687e28a855ef197", func := "loop.example/g00799/laws.FnExactDecodeBody", spec := "fnExactDecodeBody", unfollowed := true, recurses := true, named := ["loop.example/g00799/impl.errUnreadable"], ifaces := true, apart := false, laid := [("loop.example/g00799/impl.errUnreadable", laid_loop_example_g00799_impl_errUnreadable)] }
def FnExactDecodeBodySaid : Prop := fnExactDecodeBodyRow.holds Tryd.pinned (OpenSpec.ofChange fnExactDecodeBodySpec)

/-- ITS FALSE NEIGHBOUR: 'it returns false'. Refute it at one input. -/
def fnExactDecodeBodyWrong : ChangeSpec := { name := "fnExactDecodeBody", vars := ["loop.example/g00799/impl.errUnreadable"], fn := fun _ => fun
  | [d, g1] => { results := [.lit (.bool false)], args := [d], vars := [g1] }
  | _ => none }
def FnExactDecodeBodyWrongFalsely : Prop := fnExactDecodeBodyRow.holds Tryd.pinned (OpenSpec.ofChange fnExactDecodeBodyWrong)

/-- 'laws.FnExactDecodeReply': WHATEVER THE INPUT: true; the input reads as it did. -/
def fnExactDecodeReplySpec : ChangeSpec := { name := "fnExactDecodeReply", vars := ["loop.example/g00799/impl.errUnreadable"], fn := fun _ => fun
  | [d, g1] => { results := [.lit (.bool true)], args := [d], vars := [g1] }
  | _ => none }
def fnExactDecodeReplyRow : OpenClaim := { program := "ytjdkaaepbkkchaadoor", sum := "b1dd75464f2c2e8768f6e1c2d6e4bc47267a401572a535d82687e28a855ef197", func := "loop.example/g00799/laws.FnExactDecodeReply", spec := "fnExactDecodeReply", unfollowed := true, recurses := true, named := ["loop.example/g00799/impl.errUnreadable"], ifaces := true, apart := false, laid := [("loop.example/g00799/impl.errUnreadable", laid_loop_example_g00799_impl_errUnreadable)] }
def FnExactDecodeReplySaid : Prop := fnExactDecodeReplyRow.holds Tryd.pinned (OpenSpec.ofChange fnExactDecodeReplySpec)

/-- ITS FALSE NEIGHBOUR: 'it returns false'. Refute it at one input. -/
def fnExactDecodeReplyWrong : ChangeSpec := { name := "fnExactDecodeReply", vars := ["loop.example/g00799/impl.errUnreadable"], fn := fun _ => fun
  | [d, g1] => { results := [.lit (.bool false)], args := [d], vars := [g1] }
  | _ => none }
def FnExactDecodeReplyWrongFalsely : Prop := fnExactDecodeReplyRow.holds Tryd.pinned (OpenSpec.ofChange fnExactDecodeReplyWrong)

/- THE SECOND FORM. 'bulk': how many values and letters a reading holds, each counted each time it is reached (what is shared counts as often as it is met; a slice's spare places count too). A statement '..UptoSaid' is the law's where the arguments, and the package variables that the reading takes, are together of bulk at most 1048576: NARROWER than '..Said'. Prove '..Said' where nothing that the law and all that it calls make is longer than what came in: it says more and counts as full. Else prove '..UptoSaid'. A law counts once. -/
mutual
def uptoBulk {H : Type} : DataW H → Nat
  | .lit (.string bytes) => bytes.length + 1
  | .lit _ => 1
  | .nil => 1
  | .ptr d => uptoBulk d + 1
  | .slice elems spare => uptoBulkAll elems + uptoBulkAll spare + 1
  | .agg parts => uptoBulkAll parts + 1
  | .iface _ d => uptoBulk d + 1
  | .map entries => uptoBulkEntries entries + 1
  | .held _ => 1
def uptoBulkAll {H : Type} : List (DataW H) → Nat
  | [] => 0
  | d :: r => uptoBulk d + uptoBulkAll r
def uptoBulkEntries {H : Type} : List (Lit × DataW H) → Nat
  | [] => 0
  | x :: r => uptoBulkEntry x + uptoBulkEntries r
def uptoBulkEntry {H : Type} : Lit × DataW H → Nat
  | (.string bytes, d) => bytes.length + uptoBulk d + 1
  | (_, d) => uptoBulk d + 1
 end
def uptoSmall : (H : Type) → List (DataW H) → Bool := fun _ ds => decide (uptoBulkAll ds ≤ 1048576)
def OpenSpec.upto (s : _root_.Go.ChangeSpec) : _root_.Go.OpenSpec := { _root_.Go.OpenSpec.ofChange s with cond := some uptoSmall }

/-- 'laws.FnWires', WHERE WHAT IT READS IS OF BULK AT MOST 1048576: true; the input reads as it did. -/
def fnWiresUptoRow : OpenClaim := { program := "ytjdkaaepbkkchaadoor", sum := "b1dd75464f2c2e8768f6e1c2d6e4bc47267a401572a535d82687e28a855ef197", func := "loop.example/g00799/laws.FnWires", spec := "fnWires", unfollowed := true, recurses := true, named := ["loop.example/g00799/impl.errUnreadable"], ifaces := true, apart := false, laid := [("loop.example/g00799/impl.errUnreadable", laid_loop_example_g00799_impl_errUnreadable)], narrowed := true }
def FnWiresUptoSaid : Prop := fnWiresUptoRow.holds Tryd.pinned (OpenSpec.upto fnWiresSpec)

/-- 'laws.FnExactDecodeBody', WHERE WHAT IT READS IS OF BULK AT MOST 1048576: true; the input reads as it did. -/
def fnExactDecodeBodyUptoRow : OpenClaim := { program := "ytjdkaaepbkkchaadoor", sum := "b1dd75464f2c2e8768f6e1c2d6e4bc47267a401572a535d82687e28a855ef197", func := "loop.example/g00799/laws.FnExactDecodeBody", spec := "fnExactDecodeBody", unfollowed := true, recurses := true, named := ["loop.example/g00799/impl.errUnreadable"], ifaces := true, apart := false, laid := [("loop.example/g00799/impl.errUnreadable", laid_loop_example_g00799_impl_errUnreadable)], narrowed := true }
def FnExactDecodeBodyUptoSaid : Prop := fnExactDecodeBodyUptoRow.holds Tryd.pinned (OpenSpec.upto fnExactDecodeBodySpec)

/-- 'laws.FnExactDecodeReply', WHERE WHAT IT READS IS OF BULK AT MOST 1048576: true; the input reads as it did. -/
def fnExactDecodeReplyUptoRow : OpenClaim := { program := "ytjdkaaepbkkchaadoor", sum := "b1dd75464f2c2e8768f6e1c2d6e4bc47267a401572a535d82687e28a855ef197", func := "loop.example/g00799/laws.FnExactDecodeReply", spec := "fnExactDecodeReply", unfollowed := true, recurses := true, named := ["loop.example/g00799/impl.errUnreadable"], ifaces := true, apart := false, laid := [("loop.example/g00799/impl.errUnreadable", laid_loop_example_g00799_impl_errUnreadable)], narrowed := true }
def FnExactDecodeReplyUptoSaid : Prop := fnExactDecodeReplyUptoRow.holds Tryd.pinned (OpenSpec.upto fnExactDecodeReplySpec)

end Rows
end Go.Proofs.YtjdkaaepbkkchaaDoor
