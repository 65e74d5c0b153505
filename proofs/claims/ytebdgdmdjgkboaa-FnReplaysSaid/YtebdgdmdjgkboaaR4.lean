/-
  The model's ReplayFault.
-/
import Derived.Test.YtebdgdmdjgkboaaR3
namespace Go.Proofs.Ytebdgdmdjgkboaa
open Go.RowKit
set_option linter.unusedVariables false
set_option maxRecDepth 100000

def topBad (t : Int) : Prop := t ≠ -1 ∧ ¬ (0 ≤ t ∧ t ≤ 9999)
instance (t : Int) : Decidable (topBad t) := by unfold topBad; infer_instance
def lastBad (t : Int) (xs : List Int) : Prop := (t = -1 ∧ 0 < xs.length) ∨ (t ≠ -1 ∧ (xs.length = 0 ∨ xs.getD (xs.length - 1) 0 ≠ t))
instance (t : Int) (xs : List Int) : Decidable (lastBad t xs) := by unfold lastBad; infer_instance
/-- What is wrong with a window. -/
def faultCode (t : Int) (xs : List Int) : Int := if topBad t then 3 else if seenCode t xs ≠ 0 then seenCode t xs else if lastBad t xs then 8 else 0
theorem fault_top {t : Int} {xs : List Int} (h : topBad t) : faultCode t xs = 3 := if_pos h
theorem fault_seen {t : Int} {xs : List Int} (h : ¬ topBad t) (hs : seenCode t xs ≠ 0) : faultCode t xs = seenCode t xs := by unfold faultCode; rw [if_neg h, if_pos hs]
theorem fault_last {t : Int} {xs : List Int} (h : ¬ topBad t) (hs : seenCode t xs = 0) (hl : lastBad t xs) : faultCode t xs = 8 := by unfold faultCode; rw [if_neg h, if_neg (by omega), if_pos hl]
theorem fault_none {t : Int} {xs : List Int} (h : ¬ topBad t) (hs : seenCode t xs = 0) (hl : ¬ lastBad t xs) : faultCode t xs = 0 := by unfold faultCode; rw [if_neg h, if_neg (by omega), if_neg hl]

set_option maxHeartbeats 800000 in
theorem specFault_any (t : Int) (A : Option Addr) (n c lo hi : Nat) (xs : List Int) (w : World) (h : Ri w lo hi A n xs) (ht : -9223372036854775808 ≤ t ∧ t ≤ 9223372036854775807) :
    Calls Try.prog 21 #[.agg #[.int .i64 t, .slice A n c]] w fun e w' => e = .returned (.int .i64 (faultCode t xs)) ∧ Keep 0 0 w w' := by
  have hint := h.int
  have hl := h.len
  have k1 := (Keep.refl 0 0 w).alloc (.cells #[.int .i64 t, .slice A n c] 26)
  have r1 := h.keep k1 (by omega)
  by_cases hm : t = -1
  · have hnb : ¬ topBad t := fun e => e.1 hm
    by_cases hs : seenCode t xs = 0
    · by_cases hn : n = 0
      · have HR := Lib.hid (ret_i64 (fault_none hnb hs (fun e => e.elim (fun e => by omega) (fun e => e.1 hm))).symm)
        subst hm hn
        have KA := Lib.hid k1
        clear k1
        go_enter Try.func21, Try.ntmps21
        go_wp2_with fail
        refine (l4Seen_any w.heap.size (-1) A 0 c lo hi xs _ (by simp) (by simp [go_sem]) (by simp [go_sem]) r1 (by omega)).mono ?_
        rintro e w2 ⟨rfl, q, rfl⟩
        rw [hs]
        go_wp2_with fail
        go_quiet (fail)
        go_wp2_with fail
        go_ret
        exact ⟨HR.out, (KA.out.drewN q).drewN nq⟩
      · have HR := Lib.hid (ret_i64 (fault_last hnb hs (Or.inl ⟨hm, by omega⟩)).symm)
        subst hm
        have hn' : (0 : Int) < (n : Int) := by omega
        have hnp : 0 < n := by omega
        have hn0 : ((n : Int) == 0) = false := by simp; omega
        have KA := Lib.hid k1
        clear k1
        go_enter Try.func21, Try.ntmps21
        go_wp2_with fail
        refine (l4Seen_any w.heap.size (-1) A n c lo hi xs _ (by simp) (by simp [go_sem]) (by simp [go_sem]) r1 (by omega)).mono ?_
        rintro e w2 ⟨rfl, q, rfl⟩
        rw [hs]
        go_wp2_with fail
        go_quiet (fail)
        go_wp2_with fail
        go_ret
        exact ⟨HR.out, (KA.out.drewN q).drewN nq⟩
    · have HR := Lib.hid (ret_i64 (fault_seen hnb hs).symm)
      subst hm
      have KA := Lib.hid k1
      clear k1
      go_enter Try.func21, Try.ntmps21
      go_wp2_with fail
      refine (l4Seen_any w.heap.size (-1) A n c lo hi xs _ (by simp) (by simp [go_sem]) (by simp [go_sem]) r1 (by omega)).mono ?_
      rintro e w2 ⟨rfl, q, rfl⟩
      go_wp2_with fail
      go_ret
      exact ⟨HR.out, KA.out.drewN q⟩
  · by_cases hin : 0 ≤ t ∧ t ≤ 9999
    · have hnb : ¬ topBad t := fun e => e.2 hin
      by_cases hs : seenCode t xs = 0
      · by_cases hn : n = 0
        · have HR := Lib.hid (ret_i64 (fault_last hnb hs (Or.inr ⟨hm, Or.inl (by omega)⟩)).symm)
          subst hn
          have hmb : (t == -1) = false := by simp [hm]
          have hmb' : (t != -1) = true := by simp [hm]
          have KA := Lib.hid k1
          clear k1
          go_enter Try.func21, Try.ntmps21
          go_wp2_with fail
          refine (l1In_any t 0 9999 _ true (decide_eq_true hin)).mono ?_
          rintro e w1 ⟨rfl, rfl⟩
          go_wp2_with fail
          refine (l4Seen_any w.heap.size t A 0 c lo hi xs _ (by simp) (by simp [go_sem]) (by simp [go_sem]) r1 (by omega)).mono ?_
          rintro e w2 ⟨rfl, q, rfl⟩
          rw [hs]
          go_wp2_with fail
          go_quiet (fail)
          go_wp2_with fail
          go_ret
          exact ⟨HR.out, (KA.out.drewN q).drewN nq⟩
        · obtain ⟨ab, off, rfl, _, _, hc⟩ := r1.at_ (by omega)
          have hcl := hc (n - 1) (by omega)
          have hw : IntKind.i64.wrap ((n : Int) - 1) = ((n - 1 : Nat) : Int) := by rw [IntKind.wrap_i64]; omega
          have i2 : (0 : Int) ≤ ((n - 1 : Nat) : Int) := by omega
          have i3 : ((n - 1 : Nat) : Int) < (n : Int) := by omega
          have hn' : ¬ (n : Int) = 0 := by omega
          have hnp : 0 < n := by omega
          have hn0 : ((n : Int) == 0) = false := by simp; omega
          have hmb : (t == -1) = false := by simp [hm]
          have hmb' : (t != -1) = true := by simp [hm]
          by_cases hx : xs.getD (n - 1) 0 = t
          · have HR := Lib.hid (ret_i64 (fault_none hnb hs (fun e => e.elim (fun e => hm e.1) (fun e => e.2.elim (fun e => by omega) (fun e => e (by rw [hl]; exact hx))))).symm)
            generalize xs.getD (n - 1) 0 = x at *
            subst hx
            have KA := Lib.hid k1
            clear k1
            go_enter Try.func21, Try.ntmps21
            go_wp2_with fail
            refine (l1In_any x 0 9999 _ true (decide_eq_true hin)).mono ?_
            rintro e w1 ⟨rfl, rfl⟩
            go_wp2_with fail
            refine (l4Seen_any w.heap.size x _ n c lo hi xs _ (by simp) (by simp [go_sem]) (by simp [go_sem]) r1 (by omega)).mono ?_
            rintro e w2 ⟨rfl, q, rfl⟩
            rw [hs]
            go_wp2_with fail
            go_quiet (fail)
            go_wp2_with fail
            go_ret
            exact ⟨HR.out, (KA.out.drewN q).drewN nq⟩
          · have HR := Lib.hid (ret_i64 (fault_last hnb hs (Or.inr ⟨hm, Or.inr (by rw [hl]; exact hx)⟩)).symm)
            generalize xs.getD (n - 1) 0 = x at *
            have hxb : (x != t) = true := by simp [hx]
            have KA := Lib.hid k1
            clear k1
            go_enter Try.func21, Try.ntmps21
            go_wp2_with fail
            refine (l1In_any t 0 9999 _ true (decide_eq_true hin)).mono ?_
            rintro e w1 ⟨rfl, rfl⟩
            go_wp2_with fail
            refine (l4Seen_any w.heap.size t _ n c lo hi xs _ (by simp) (by simp [go_sem]) (by simp [go_sem]) r1 (by omega)).mono ?_
            rintro e w2 ⟨rfl, q, rfl⟩
            rw [hs]
            go_wp2_with fail
            go_quiet (fail)
            go_wp2_with fail
            go_ret
            exact ⟨HR.out, (KA.out.drewN q).drewN nq⟩
      · have HR := Lib.hid (ret_i64 (fault_seen hnb hs).symm)
        have KA := Lib.hid k1
        clear k1
        go_enter Try.func21, Try.ntmps21
        go_wp2_with fail
        refine (l1In_any t 0 9999 _ true (decide_eq_true hin)).mono ?_
        rintro e w1 ⟨rfl, rfl⟩
        go_wp2_with fail
        refine (l4Seen_any w.heap.size t A n c lo hi xs _ (by simp) (by simp [go_sem]) (by simp [go_sem]) r1 (by omega)).mono ?_
        rintro e w2 ⟨rfl, q, rfl⟩
        go_wp2_with fail
        go_ret
        exact ⟨HR.out, KA.out.drewN q⟩
    · have HR := Lib.hid (ret_i64 (fault_top (xs := xs) ⟨hm, hin⟩).symm)
      have KA := Lib.hid k1
      clear k1
      go_enter Try.func21, Try.ntmps21
      go_wp2_with fail
      refine (l1In_any t 0 9999 _ false (decide_eq_false hin)).mono ?_
      rintro e w1 ⟨rfl, rfl⟩
      go_wp2_with fail
      go_ret
      exact ⟨HR.out, KA.out⟩
end Go.Proofs.Ytebdgdmdjgkboaa
