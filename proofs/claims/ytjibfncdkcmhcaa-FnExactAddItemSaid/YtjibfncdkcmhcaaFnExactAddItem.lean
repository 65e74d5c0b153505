/-
  'FnExactAddItem' answers true at every input and leaves its arguments as they were. No condition.
  (The frame is after the kit's own shell.)
-/
import Derived.Test.YtjibfncdkcmhcaaRows
import Derived.WalkKit
import Derived.ProofKit
import Derived.OpenShut
import Derived.ShutString
import Derived.ChangeOld
import Derived.Below
import Derived.Test.YtjibfncdkcmhcaaL5
import Derived.Test.YtjibfncdkcmhcaaO5
namespace Go.Proofs.Ytjibfncdkcmhcaa.fnExactAddItem
open Go.ChangeShapes Go.WideShapes Go.ChangeAt Go.RowKit
set_option linter.unusedVariables false

theorem own : ownKnob Try.prog.godebug = none := by kernel_rfl
theorem laidOut : laidOutB Try.prog = true := by kernel_rfl

theorem walk (bs0 : Int) (A0 : Option Addr) (n0 c0 : Nat) (xs0 : List Itm) (a1 : Int) (kk2 pp2 qq2 : Int) (A2 : Option Addr) (n2 c2 : Nat) (xs2 : List Int) (w : World) (hb0 : -9223372036854775808 ≤ bs0 ∧ bs0 ≤ 9223372036854775807) (h0 : Rt w 0 w.heap.size A0 n0 xs0) (w1 : (Lit.int .i64 a1).wf = true) (h2 : Rd w 0 w.heap.size A2 n2 xs2) :
    Calls Try.prog 7 #[.agg #[.int .i64 bs0, .slice A0 n0 c0], .int .i64 a1, .agg #[.int .i64 kk2, .slice A2 n2 c2, .int .i64 pp2, .int .i64 qq2]] w fun e w' => e = .returned (.bool true) ∧ Below w.heap.size w w' := by
  exact exactAddItem bs0 a1 kk2 pp2 qq2 A0 A2 n0 c0 n2 c2 xs0 xs2 w hb0 h0 h2

set_option maxRecDepth 100000 in
theorem lifted (os : Os) (started : os.Started) (H : Type) (enc : TypeId × Value → H) :
    ReturnsInHanded {} Try.checked os 7 .any (Rows.fnExactAddItemSpec.pre6 enc Try.prog Try.f7 Rows.fnExactAddItemRow.domain false) (Rows.fnExactAddItemSpec.post enc Try.prog Try.f7 false true false false) := by
  refine returnsInHanded_of_change (C := Try.checked) own started (by kernel_rfl) Try.func7
    (ChangeSpec.witness6 (enc := enc) (C := Try.checked) false ⟨#[], #[.agg #[.int .i64 0, .slice none 0 0], .int .i64 0, .agg #[.int .i64 0, .slice none 0 0, .int .i64 0, .int .i64 0]], []⟩ 8 (by kernel_rfl) (by kernel_rfl) (by kernel_rfl) (by kernel_rfl)) ?_
  intro W base args ds gs before hval0 hW hcnd _
  have hval : ∀ (j : Nat) t v, Try.f7.params[j]? = some t → args[j]? = some v → Value.okWide Try.prog W .any base t v := hval0
  have hW' := hW
  obtain ⟨p, q, hA0, hV, rfl, hfz, hnd⟩ := hW
  have hA : DataW.TrodAll enc Try.prog W 0 (fun _ => true) true Try.f7.params.toList args.toList ds p := hA0
  rw [Try.params7] at hA hval
  obtain ⟨v0, vs0, d0, ds0, p0, q0, hargs, rfl, rfl, h0, r0⟩ := trodAll_cons hA
  obtain ⟨v1, vs1, d1, ds1, p1, q1, rfl, rfl, rfl, h1, r1⟩ := trodAll_cons r0
  obtain ⟨v2, vs2, d2, ds2, p2, q2, rfl, rfl, rfl, h2, r2⟩ := trodAll_cons r1
  obtain ⟨rfl, rfl, rfl⟩ := trodAll_nil r2
  obtain rfl : args = #[v0, v1, v2] := by cases args; simp_all
  obtain ⟨rfl, rfl⟩ := trodVars_none hV
  have k0 := h0
  have lt0 : ∀ x ∈ p0, x.block < W.heap.size := by obtain ⟨m, hm⟩ := k0; exact DataW.trod_lt m _ _ _ hm
  obtain ⟨bs0, A0, n0, c0, xs0, rfl, hb0, hr0⟩ := open_log (hval 0 64 v0 rfl rfl) h0
  obtain ⟨a1, rfl, rfl, rfl, w1⟩ := open_int Try.underlying2 (hval 1 2 v1 rfl rfl) h1
  have k2 := h2
  have lt2 : ∀ x ∈ p2, x.block < W.heap.size := by obtain ⟨m, hm⟩ := k2; exact DataW.trod_lt m _ _ _ hm
  obtain ⟨kk2, pp2, qq2, A2, n2, c2, xs2, rfl, hr2, _⟩ := open_item (hval 2 51 v2 rfl rfl) h2
  clear hA0 hval0
  refine (walk bs0 A0 n0 c0 xs0 a1 kk2 pp2 qq2 A2 n2 c2 xs2 W hb0 hr0 w1 hr2).mono fun e W' ⟨he, bel⟩ => ?_
  subst he
  exact ⟨_, rfl, _, _, _, [], _, [], hW', trodAll_mk1 (shut_bool Try.underlying4 _), (trodAll_cons_mk (Below.trod laidOut (by kernel_rfl) (of_decide_eq_true (by kernel_rfl)) k0 bel lt0) (trodAll_cons_mk (shut_int Try.underlying2 w1) (trodAll_cons_mk (Below.trod laidOut (by kernel_rfl) (of_decide_eq_true (by kernel_rfl)) k2 bel lt2) trodAll_mk0))), rfl, bel.frame _, fun h => by cases h⟩

theorem over : Rows.fnExactAddItemRow.holds Try.pinned (OpenSpec.ofChange Rows.fnExactAddItemSpec) :=
  OpenClaim.holds_of_wide 7 Try.f7 rfl rfl rfl rfl rfl rfl rfl ⟨rfl, rfl, rfl, rfl, rfl⟩ rfl rfl rfl rfl rfl (by kernel_rfl) Try.func7 (by kernel_rfl)
    (of_decide_eq_true (by kernel_rfl)) (by unfold Func.isWrapper; first | (rw [if_pos (by decide +kernel)]; kernel_rfl) | (rw [if_neg (by decide +kernel)]; exact ⟨rfl, rfl⟩))
    (fun os started H enc _ => lifted os started H enc)

theorem proved : Rows.FnExactAddItemSaid := over
end Go.Proofs.Ytjibfncdkcmhcaa.fnExactAddItem
