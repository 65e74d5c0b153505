/-
  The walk of FnExactItemFault.
-/
import Derived.Test.YtjibfncdkcmhcaaV1
import Derived.Deep.RegionWith
import Derived.Deep.CutRange
namespace Go.Proofs.Ytjibfncdkcmhcaa
open Go.RowKit
set_option linter.unusedVariables false
set_option maxRecDepth 100000

set_option maxHeartbeats 2000000 in
theorem exactItemFault (k p q : Int) (A : Option Addr) (n c : Nat) (xs : List Int) (w : World) (h : Rd w 0 w.heap.size A n xs) :
    Calls Try.prog 4 #[.agg #[.int .i64 k, .slice A n c, .int .i64 p, .int .i64 q]] w fun e w' => e = .returned (.bool true) ∧ Below w.heap.size w w' := by
  have hint := h.int
  have HS := Lib.hid (fun w' => szItem_any k p q A n c 1048576 w' (by omega) (by omega) hint)
  by_cases hn : 1048576 < n
  · have hb : (1048576 : Int) < (n : Int) := by omega
    rw [if_pos hb] at HS
    go_enter Try.func4, Try.ntmps4
    go_wp2_with fail
    refine (HS.out _).mono ?_
    rintro e w1 ⟨rfl, k1⟩
    have bb := (((Keep.refl 0 0 w).alloc (.cells #[.int .i64 k, .slice A n c, .int .i64 p, .int .i64 q] 51)).trans k1).below (B := w.heap.size) (by omega) (Nat.le_refl _)
    go_wp2_with fail
    go_ret
    exact ⟨rfl, bb⟩
  have hb : ¬ (1048576 : Int) < (n : Int) := by omega
  rw [if_neg hb] at HS
  have j1 : ¬ (1048576 : Int) - (n : Int) < 0 := by omega
  have SP := Lib.hid (fun A' c' w' => specItem_any k p q A' n c' w')
  have IP := Lib.hid (fun A' c' w' => implItem_any k p q A' n c' w')
  generalize itemCode k n p q = cd at *
  go_enter Try.func4, Try.ntmps4
  have bb := Below.refl w.heap.size w
  go_wp2_with fail
  have hk1 := (Keep.refl 0 0 w).alloc (.cells #[.int .i64 k, .slice A n c, .int .i64 p, .int .i64 q] 51)
  have ba := Box4.new w (.int .i64 k) (.slice A n c) (.int .i64 p) (.int .i64 q) 51
  have hz1 : w.heap.size + 1 ≤ (w.alloc (.cells #[.int .i64 k, .slice A n c, .int .i64 p, .int .i64 q] 51)).heap.size := by simp
  replace h := h.keep hk1 (by omega)
  replace bb := bb.trans (hk1.below (by omega) bb.size)
  clear hk1
  generalize w.alloc (.cells #[.int .i64 k, .slice A n c, .int .i64 p, .int .i64 q] 51) = w1 at *
  refine (HS.out w1).mono ?_
  rintro e w2 ⟨rfl, hk2⟩
  have hz2 := hk2.size
  replace h := h.keep hk2 (by omega)
  replace ba := ba.keep hk2 (by omega)
  replace bb := bb.trans (hk2.below (by omega) bb.size)
  clear hk2
  have bac0 := ba.2.1
  have bac1 := ba.2.2.1
  have bac2 := ba.2.2.2.1
  have bac3 := ba.2.2.2.2
  go_wp2_with fail
  clear bac0 bac1 bac2 bac3
  refine (toItem_any k p q A n c _ _ xs w2 h (by omega)).mono ?_
  rintro e w3 ⟨g1, rfl, u1, hb3⟩
  have hk3 := Keep.of_below hb3 0 0
  have hz3 := hb3.size
  replace h := h.keep hk3 (by omega)
  replace ba := ba.keep hk3 (by omega)
  replace bb := bb.trans (hk3.below (by omega) bb.size)
  clear hb3 hk3
  go_wp2_with fail
  refine (SP.out _ n w3 (by omega)).mono ?_
  rintro e w4 ⟨rfl, hk4⟩
  have hz4 := hk4.size
  replace h := h.keep hk4 (by omega)
  replace ba := ba.keep hk4 (by omega)
  replace u1 := u1.keep hk4 (by omega)
  replace bb := bb.trans (hk4.below (by omega) bb.size)
  clear hk4
  have bac0 := ba.2.1
  have bac1 := ba.2.2.1
  have bac2 := ba.2.2.2.1
  have bac3 := ba.2.2.2.2
  go_wp2_with fail
  clear bac0 bac1 bac2 bac3
  refine (toItem_any k p q A n c _ _ xs w4 h (by omega)).mono ?_
  rintro e w5 ⟨g2, rfl, u2, hb5⟩
  have hk5 := Keep.of_below hb5 0 0
  have hz5 := hb5.size
  replace h := h.keep hk5 (by omega)
  replace ba := ba.keep hk5 (by omega)
  replace u1 := u1.keep hk5 (by omega)
  replace bb := bb.trans (hk5.below (by omega) bb.size)
  clear hb5 hk5
  go_wp2_with fail
  have hk6 := (Keep.refl 0 0 w5).alloc (.cells #[.int .i64 k, .slice (some ⟨g2, 0, none⟩) n n, .int .i64 p, .int .i64 q] 28)
  have bx := Box4.new w5 (.int .i64 k) (.slice (some ⟨g2, 0, none⟩) n n) (.int .i64 p) (.int .i64 q) 28
  have hz6 : w5.heap.size + 1 ≤ (w5.alloc (.cells #[.int .i64 k, .slice (some ⟨g2, 0, none⟩) n n, .int .i64 p, .int .i64 q] 28)).heap.size := by simp
  replace h := h.keep hk6 (by omega)
  replace ba := ba.keep hk6 (by omega)
  replace u1 := u1.keep hk6 (by omega)
  replace u2 := u2.keep hk6 (by omega)
  replace bb := bb.trans (hk6.below (by omega) bb.size)
  clear hk6
  generalize w5.alloc (.cells #[.int .i64 k, .slice (some ⟨g2, 0, none⟩) n n, .int .i64 p, .int .i64 q] 28) = w6 at *
  refine (IP.out _ n w6 (by omega)).mono ?_
  rintro e w7 ⟨rfl, hb7⟩
  have hk7 := Keep.of_below hb7 0 0
  have hz7 := hb7.size
  replace h := h.keep hk7 (by omega)
  replace ba := ba.keep hk7 (by omega)
  replace u1 := u1.keep hk7 (by omega)
  replace u2 := u2.keep hk7 (by omega)
  replace bx := bx.keep hk7 (by omega)
  replace bb := bb.trans (hk7.below (by omega) bb.size)
  clear hb7 hk7
  go_upto_region 10 with fail
  go_cut [26] from 22 to 26 (fun sv wx => sv = .bool false ∧ Below w7.heap.size w7 wx)
  case first =>
    have kd : Keep 0 0 w7 w7.drew := ⟨rfl, rfl, rfl, Nat.le_refl _, fun _ _ _ => rfl⟩
    have hD := h.keep kd (by omega)
    have uD := u2.keep kd (by omega)
    have baD := ba.keep kd (by omega)
    have ba_0 := baD.2.1
    have ba_1 := baD.2.2.1
    have ba_2 := baD.2.2.2.1
    have ba_3 := baD.2.2.2.2
    have bxD := bx.keep kd (by omega)
    have bx_0 := bxD.2.1
    have bx_1 := bxD.2.2.1
    have bx_2 := bxD.2.2.2.1
    have bx_3 := bxD.2.2.2.2
    have bD : Below w7.heap.size w7 w7.drew := ⟨rfl, rfl, rfl, Nat.le_refl _, fun _ _ => rfl⟩
    have zD : w7.heap.size ≤ w7.drew.heap.size := Nat.le_refl _
    go_region_with (first
      | (go_at_call 33; refine (toItem_any k p q A n c _ _ xs _ hD (by omega)).mono ?_; rintro e v1 ⟨g3, rfl, u3, hb⟩; have kx := Keep.of_below hb 0 0; have bxv := bxD.keep kx (by omega); have bxv_0 := bxv.2.1; have bxv_1 := bxv.2.2.1; have bxv_2 := bxv.2.2.2.1; have bxv_3 := bxv.2.2.2.2; have u2v := uD.keep kx (by omega); have bbv := bD.trans (hb.mono bD.size))
      | (go_at_call 34; refine (eqItem_true k p q _ _ n n n _ _ _ _ xs _ u2v.1 u3.1).mono ?_; rintro e v2 ⟨rfl, k2⟩; have bbz := bbv.trans (k2.below (B := w7.heap.size) (by omega) bbv.size)))
    all_goals
      go_wp2_with fail
      go_meet
      case rel => exact ⟨rfl, bbz⟩
  case rest =>
  obtain ⟨rfl, hb8⟩ := hcut
  have hk8 := Keep.of_below hb8 0 0
  have hz8 := hb8.size
  replace h := h.keep hk8 (by omega)
  replace ba := ba.keep hk8 (by omega)
  replace u1 := u1.keep hk8 (by omega)
  replace u2 := u2.keep hk8 (by omega)
  replace bx := bx.keep hk8 (by omega)
  replace bb := bb.trans (hk8.below (by omega) bb.size)
  clear hb8 hk8
  generalize hwc8 : wc = w8 at *
  clear hwc8
  go_wp2_with fail
  go_ret
  exact ⟨rfl, bb⟩

end Go.Proofs.Ytjibfncdkcmhcaa
