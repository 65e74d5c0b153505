/-
  The model's LogFault.
-/
import Derived.Test.YtlgpbnngepkkmaaT11
namespace Go.Proofs.Ytlgpbnngepkkmaa
open Go.RowKit
set_option linter.unusedVariables false
set_option maxRecDepth 100000

/-- What is wrong with a log. -/
def logCode (bs room : Int) (xs : List Itm) : Int :=
  if ¬ (1 ≤ room ∧ room ≤ 16) ∨ ¬ (0 ≤ bs ∧ bs ≤ 9000) then 3 else if room < (xs.length : Int) then 2 else if itemsCode xs ≠ 0 then itemsCode xs else if 9000 < bs + (xs.length : Int) then 7 else 0

set_option maxHeartbeats 1000000 in
theorem specLogFault_any (bs room : Int) (A : Option Addr) (n c lo hi : Nat) (xs : List Itm) (w : World) (h : Rt w lo hi A n xs) :
    Calls Try.prog 27 #[.agg #[.int .i64 bs, .slice A n c], .int .i64 room] w fun e w' => e = .returned (.int .i64 (logCode bs room xs)) ∧ Keep 0 0 w w' := by
  have hint := h.int
  have hl := h.len
  have k1 := (Keep.refl 0 0 w).alloc (.cells #[.int .i64 bs, .slice A n c] 26)
  have r := h.keep k1 (by omega)
  have KA := Lib.hid k1
  by_cases hr : 1 ≤ room ∧ room ≤ 16
  · by_cases hb : 0 ≤ bs ∧ bs ≤ 9000
    · by_cases hm : room < (n : Int)
      · have HR := Lib.hid (ret_int (show (2 : Int) = logCode bs room xs from by unfold logCode; rw [if_neg (by omega), if_pos (by omega)]))
        go_enter Try.func27, Try.ntmps27
        go_wp2_with fail
        refine (l1In_any room 1 16 _ true (decide_eq_true hr)).mono ?_
        rintro e w1 ⟨rfl, rfl⟩
        go_wp2_with fail
        refine (l1In_any bs 0 9000 _ true (decide_eq_true hb)).mono ?_
        rintro e w1 ⟨rfl, rfl⟩
        go_wp2_with fail
        go_ret
        exact ⟨HR.out, KA.out⟩
      · have HC := l5Items_any A n c lo hi xs _ r
        by_cases hc : itemsCode xs = 0
        · rw [hc] at HC
          have HCC := Lib.hid HC
          clear HC
          by_cases hf : 9000 < bs + (n : Int)
          · have HR := Lib.hid (ret_int (show (7 : Int) = logCode bs room xs from by unfold logCode; rw [if_neg (by omega), if_neg (by omega), if_neg (by simp [hc]), if_pos (by omega)]))
            go_enter Try.func27, Try.ntmps27
            go_wp2_with fail
            refine (l1In_any room 1 16 _ true (decide_eq_true hr)).mono ?_
            rintro e w1 ⟨rfl, rfl⟩
            go_wp2_with fail
            refine (l1In_any bs 0 9000 _ true (decide_eq_true hb)).mono ?_
            rintro e w1 ⟨rfl, rfl⟩
            go_wp2_with fail
            refine HCC.out.mono ?_
            rintro e w1 ⟨rfl, k2⟩
            have b0 := k2.cell (p := ⟨w.heap.size, 0, none⟩) (by simp) (by omega)
            have b1 := k2.cell (p := ⟨w.heap.size, 1, none⟩) (by simp) (by omega)
            simp [go_sem] at b0 b1
            have K2 := Lib.hid (KA.out.trans k2)
            go_wp2_with fail
            go_ret
            exact ⟨HR.out, K2.out⟩
          · have HR := Lib.hid (ret_int (show (0 : Int) = logCode bs room xs from by unfold logCode; rw [if_neg (by omega), if_neg (by omega), if_neg (by simp [hc]), if_neg (by omega)]))
            go_enter Try.func27, Try.ntmps27
            go_wp2_with fail
            refine (l1In_any room 1 16 _ true (decide_eq_true hr)).mono ?_
            rintro e w1 ⟨rfl, rfl⟩
            go_wp2_with fail
            refine (l1In_any bs 0 9000 _ true (decide_eq_true hb)).mono ?_
            rintro e w1 ⟨rfl, rfl⟩
            go_wp2_with fail
            refine HCC.out.mono ?_
            rintro e w1 ⟨rfl, k2⟩
            have b0 := k2.cell (p := ⟨w.heap.size, 0, none⟩) (by simp) (by omega)
            have b1 := k2.cell (p := ⟨w.heap.size, 1, none⟩) (by simp) (by omega)
            simp [go_sem] at b0 b1
            have K2 := Lib.hid (KA.out.trans k2)
            go_wp2_with fail
            go_ret
            exact ⟨HR.out, K2.out⟩
        · have HR := Lib.hid (ret_int (show itemsCode xs = logCode bs room xs from by unfold logCode; rw [if_neg (by omega), if_neg (by omega), if_pos hc]))
          generalize itemsCode xs = ic at *
          have hcb : (ic != 0) = true := by simp [hc]
          have HCC := Lib.hid HC
          clear HC
          go_enter Try.func27, Try.ntmps27
          go_wp2_with fail
          refine (l1In_any room 1 16 _ true (decide_eq_true hr)).mono ?_
          rintro e w1 ⟨rfl, rfl⟩
          go_wp2_with fail
          refine (l1In_any bs 0 9000 _ true (decide_eq_true hb)).mono ?_
          rintro e w1 ⟨rfl, rfl⟩
          go_wp2_with fail
          refine HCC.out.mono ?_
          rintro e w1 ⟨rfl, k2⟩
          have b0 := k2.cell (p := ⟨w.heap.size, 0, none⟩) (by simp) (by omega)
          have b1 := k2.cell (p := ⟨w.heap.size, 1, none⟩) (by simp) (by omega)
          simp [go_sem] at b0 b1
          have K2 := Lib.hid (KA.out.trans k2)
          go_wp2_with fail
          go_ret
          exact ⟨HR.out, K2.out⟩
    · have HR := Lib.hid (ret_int (show (3 : Int) = logCode bs room xs from by unfold logCode; rw [if_pos (Or.inr hb)]))
      go_enter Try.func27, Try.ntmps27
      go_wp2_with fail
      refine (l1In_any room 1 16 _ true (decide_eq_true hr)).mono ?_
      rintro e w1 ⟨rfl, rfl⟩
      go_wp2_with fail
      refine (l1In_any bs 0 9000 _ false (decide_eq_false hb)).mono ?_
      rintro e w1 ⟨rfl, rfl⟩
      go_wp2_with fail
      go_ret
      exact ⟨HR.out, KA.out⟩
  · have HR := Lib.hid (ret_int (show (3 : Int) = logCode bs room xs from by unfold logCode; rw [if_pos (Or.inl hr)]))
    go_enter Try.func27, Try.ntmps27
    go_wp2_with fail
    refine (l1In_any room 1 16 _ false (decide_eq_false hr)).mono ?_
    rintro e w1 ⟨rfl, rfl⟩
    go_wp2_with fail
    go_ret
    exact ⟨HR.out, KA.out⟩
end Go.Proofs.Ytlgpbnngepkkmaa
