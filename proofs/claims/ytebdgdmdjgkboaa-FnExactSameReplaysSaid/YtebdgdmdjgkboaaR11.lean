/-
  The walk of FnExactSameReplays.
-/
import Derived.Test.YtebdgdmdjgkboaaR8
import Derived.Deep.RegionHeld3
import Derived.Deep.CutRange
namespace Go.Proofs.Ytebdgdmdjgkboaa
open Go.RowKit
set_option linter.unusedVariables false
set_option maxRecDepth 100000

set_option maxHeartbeats 2000000 in
theorem exactSameReplays (t u : Int) (A B : Option Addr) (n c m d : Nat) (xs ys : List Int) (w : World) (h : Ri w 0 w.heap.size A n xs) (h' : Ri w 0 w.heap.size B m ys) :
    Calls Try.prog 8 #[.agg #[.int .i64 t, .slice A n c], .agg #[.int .i64 u, .slice B m d]] w fun e w' => e = .returned (.bool true) ∧ Below w.heap.size w w' := by
  have hint := h.int
  have hint' := h'.int
  have HS := Lib.hid (fun w' => szReplay_any t A n c 1048576 w' (by omega) (by omega) hint)
  have K2 := ((Keep.refl 0 0 w).alloc (.cells #[.int .i64 t, .slice A n c] 38)).alloc (.cells #[.int .i64 u, .slice B m d] 38)
  by_cases hn : 1048576 < n
  · have hb : (1048576 : Int) < (n : Int) := by omega
    rw [if_pos hb] at HS
    go_enter Try.func8, Try.ntmps8
    go_wp2_with fail
    refine (HS.out _).mono ?_
    rintro e w1 ⟨rfl, k1⟩
    have bb := (K2.trans k1).below (B := w.heap.size) (by omega) (Nat.le_refl _)
    go_wp2_with fail
    go_ret
    exact ⟨rfl, bb⟩
  have hb : ¬ (1048576 : Int) < (n : Int) := by omega
  rw [if_neg hb] at HS
  have j1 : ¬ (1048576 : Int) - (n : Int) < 0 := by omega
  have HS2 := Lib.hid (fun w' => szReplay_any u B m d (1048576 - (n : Int)) w' (by omega) (by omega) hint')
  by_cases hm : 1048576 - (n : Int) < (m : Int)
  · rw [if_pos hm] at HS2
    go_enter Try.func8, Try.ntmps8
    go_wp2_with fail
    refine (HS.out _).mono ?_
    rintro e w1 ⟨rfl, k1⟩
    have b0 := (k1.cell (p := ⟨w.heap.size + 1, 0, none⟩) (by simp) (by show w.heap.size + 1 < 0 ∨ 0 ≤ w.heap.size + 1; omega))
    have b1 := (k1.cell (p := ⟨w.heap.size + 1, 1, none⟩) (by simp) (by show w.heap.size + 1 < 0 ∨ 0 ≤ w.heap.size + 1; omega))
    simp [go_sem] at b0 b1
    go_wp2_with fail
    refine (HS2.out _).mono ?_
    rintro e w2 ⟨rfl, k2⟩
    have bb := ((K2.trans k1).trans k2).below (B := w.heap.size) (by omega) (Nat.le_refl _)
    go_wp2_with fail
    go_ret
    exact ⟨rfl, bb⟩
  rw [if_neg hm] at HS2
  have j2 : ¬ (1048576 : Int) - (n : Int) - (m : Int) < 0 := by omega
  obtain ⟨rr, hrr⟩ : ∃ rr, decide (t = u ∧ xs = ys) = rr := ⟨_, rfl⟩
  have HR := Lib.hid hrr
  clear hrr K2
  go_enter Try.func8, Try.ntmps8
  have bb := Below.refl w.heap.size w
  go_wp2_with fail
  have ba : Box2 ((w.alloc (.cells #[.int .i64 t, .slice A n c] 38)).alloc (.cells #[.int .i64 u, .slice B m d] 38)) w.heap.size (.int .i64 t) (.slice A n c) := (Box2.new w _ _ _).keep ((Keep.refl 0 0 _).alloc _) (by omega)
  have bb2 : Box2 ((w.alloc (.cells #[.int .i64 t, .slice A n c] 38)).alloc (.cells #[.int .i64 u, .slice B m d] 38)) (w.heap.size + 1) (.int .i64 u) (.slice B m d) := by simpa using Box2.new (w.alloc (.cells #[.int .i64 t, .slice A n c] 38)) (.int .i64 u) (.slice B m d) 38
  have hk0 := ((Keep.refl 0 0 w).alloc (.cells #[.int .i64 t, .slice A n c] 38)).alloc (.cells #[.int .i64 u, .slice B m d] 38)
  replace h := h.keep hk0 (by omega)
  replace h' := h'.keep hk0 (by omega)
  replace bb := bb.trans (hk0.below (by omega) bb.size)
  clear hk0
  have hz0 : w.heap.size + 2 ≤ ((w.alloc (.cells #[.int .i64 t, .slice A n c] 38)).alloc (.cells #[.int .i64 u, .slice B m d] 38)).heap.size := by simp
  generalize (w.alloc (.cells #[.int .i64 t, .slice A n c] 38)).alloc (.cells #[.int .i64 u, .slice B m d] 38) = w0 at *
  refine (HS.out w0).mono ?_
  rintro e w1 ⟨rfl, hk1⟩
  have hz1 := hk1.size
  replace h := h.keep hk1 (by omega)
  replace h' := h'.keep hk1 (by omega)
  replace ba := ba.keep hk1 (by omega)
  replace bb2 := bb2.keep hk1 (by omega)
  replace bb := bb.trans (hk1.below (by omega) bb.size)
  clear hk1
  have bac0 := ba.2.1
  have bac1 := ba.2.2
  have bb2c0 := bb2.2.1
  have bb2c1 := bb2.2.2
  go_wp2_with fail
  clear bac0 bac1
  clear bb2c0 bb2c1
  refine (HS2.out w1).mono ?_
  rintro e w2 ⟨rfl, hk2⟩
  have hz2 := hk2.size
  replace h := h.keep hk2 (by omega)
  replace h' := h'.keep hk2 (by omega)
  replace ba := ba.keep hk2 (by omega)
  replace bb2 := bb2.keep hk2 (by omega)
  replace bb := bb.trans (hk2.below (by omega) bb.size)
  clear hk2
  go_upto_region 8 with fail
  go_cut [6] from 20 to 24 (fun sv wx => sv = .bool rr ∧ Below w2.heap.size w2 wx)
  case first =>
    have kd : Keep 0 0 w2 w2.drew := ⟨rfl, rfl, rfl, Nat.le_refl _, fun _ _ _ => rfl⟩
    have hD := h.keep kd (by omega)
    have hD' := h'.keep kd (by omega)
    have baD := ba.keep kd (by omega)
    have bbD := bb2.keep kd (by omega)
    have bD : Below w2.heap.size w2 w2.drew := ⟨rfl, rfl, rfl, Nat.le_refl _, fun _ _ => rfl⟩
    have a0 := baD.2.1
    have a1 := baD.2.2
    have b0 := bbD.2.1
    have b1 := bbD.2.2
    have zD : w2.heap.size ≤ w2.drew.heap.size := Nat.le_refl _
    go_region_held3 (fun w' => w'.cell? ⟨w.heap.size, 0, none⟩ = some (.int .i64 t) ∧ w'.cell? ⟨w.heap.size, 1, none⟩ = some (.slice A n c) ∧ w'.cell? ⟨w.heap.size + 1, 0, none⟩ = some (.int .i64 u) ∧ w'.cell? ⟨w.heap.size + 1, 1, none⟩ = some (.slice B m d))
      (first
        | go_keep
        | (go_split_ands; refine ⟨?_, ?_, ?_, ?_⟩ <;> ((refine (hb.cell (by simp; omega)).trans ?_); assumption)))
      (first
        | (go_at_call_of 24 A; refine (toReplay_any t A n c _ _ xs _ hD (by omega)).mono ?_; rintro e v1 ⟨g1, rfl, u1, hb⟩; have kx := Keep.of_below hb 0 0; have szx := hb.size; replace hD := hD.keep kx (by omega); replace hD' := hD'.keep kx (by omega); replace bD := bD.trans (hb.mono (by omega)))
        | (go_at_call_of 24 B; refine (toReplay_any u B m d _ _ ys _ hD' (by omega)).mono ?_; rintro e v2 ⟨g2, rfl, u2, hb⟩; have kx := Keep.of_below hb 0 0; have szx := hb.size; replace hD := hD.keep kx (by omega); replace hD' := hD'.keep kx (by omega); replace bD := bD.trans (hb.mono (by omega)); replace u1 := u1.keep kx (by omega))
        | (go_at_call 19; refine (specSameR_any t u _ _ n n m m _ _ _ _ xs ys _ rr u1.1 u2.1 HR.out).mono ?_; rintro e v3 ⟨rfl, k3⟩; have hb := k3.below (B := v2.heap.size) (by omega) (Nat.le_refl _); have bbz := bD.trans (k3.below (B := w2.heap.size) (by omega) bD.size)))
    all_goals
      go_wp2_with fail
      go_meet
      case rel => exact ⟨rfl, bbz⟩
  case rest =>
  obtain ⟨rfl, hb3⟩ := hcut
  have hk3 := Keep.of_below hb3 0 0
  have hz3 := hb3.size
  replace h := h.keep hk3 (by omega)
  replace h' := h'.keep hk3 (by omega)
  replace ba := ba.keep hk3 (by omega)
  replace bb2 := bb2.keep hk3 (by omega)
  replace bb := bb.trans (hk3.below (by omega) bb.size)
  clear hb3 hk3
  generalize hwc3 : wc = w3 at *
  clear hwc3
  have bac0 := ba.2.1
  have bac1 := ba.2.2
  go_wp2_with fail
  clear bac0 bac1
  refine (toReplay_any t A n c _ _ xs w3 h (by omega)).mono ?_
  rintro e w4 ⟨g3, rfl, u3, hb4⟩
  have hk4 := Keep.of_below hb4 0 0
  have hz4 := hb4.size
  replace h := h.keep hk4 (by omega)
  replace h' := h'.keep hk4 (by omega)
  replace ba := ba.keep hk4 (by omega)
  replace bb2 := bb2.keep hk4 (by omega)
  replace bb := bb.trans (hk4.below (by omega) bb.size)
  clear hb4 hk4
  have bb2lt := bb2.1
  have bb2c0 := bb2.2.1
  have bb2c1 := bb2.2.2
  go_wp2_with fail
  clear bb2lt bb2c0 bb2c1
  have hk5 := (Keep.refl 0 0 w4).alloc (.cells #[.int .i64 t, .slice (some ⟨g3, 0, none⟩) n n] 26)
  have bx := Box2.new w4 (.int .i64 t) (.slice (some ⟨g3, 0, none⟩) n n) 26
  have hz5 : w4.heap.size + 1 ≤ (w4.alloc (.cells #[.int .i64 t, .slice (some ⟨g3, 0, none⟩) n n] 26)).heap.size := by simp
  replace h := h.keep hk5 (by omega)
  replace h' := h'.keep hk5 (by omega)
  replace ba := ba.keep hk5 (by omega)
  replace bb2 := bb2.keep hk5 (by omega)
  replace u3 := u3.keep hk5 (by omega)
  replace bb := bb.trans (hk5.below (by omega) bb.size)
  clear hk5
  generalize w4.alloc (.cells #[.int .i64 t, .slice (some ⟨g3, 0, none⟩) n n] 26) = w5 at *
  refine (toReplay_any u B m d _ _ ys w5 h' (by omega)).mono ?_
  rintro e w6 ⟨g4, rfl, u4, hb6⟩
  have hk6 := Keep.of_below hb6 0 0
  have hz6 := hb6.size
  replace h := h.keep hk6 (by omega)
  replace h' := h'.keep hk6 (by omega)
  replace ba := ba.keep hk6 (by omega)
  replace bb2 := bb2.keep hk6 (by omega)
  replace u3 := u3.keep hk6 (by omega)
  replace bx := bx.keep hk6 (by omega)
  replace bb := bb.trans (hk6.below (by omega) bb.size)
  clear hb6 hk6
  have bxlt := bx.1
  have bxc0 := bx.2.1
  have bxc1 := bx.2.2
  go_wp2_with fail
  clear bxlt bxc0 bxc1
  have hk7 := (Keep.refl 0 0 w6).alloc (.cells #[.int .i64 u, .slice (some ⟨g4, 0, none⟩) m m] 26)
  have by_ := Box2.new w6 (.int .i64 u) (.slice (some ⟨g4, 0, none⟩) m m) 26
  have hz7 : w6.heap.size + 1 ≤ (w6.alloc (.cells #[.int .i64 u, .slice (some ⟨g4, 0, none⟩) m m] 26)).heap.size := by simp
  replace h := h.keep hk7 (by omega)
  replace h' := h'.keep hk7 (by omega)
  replace ba := ba.keep hk7 (by omega)
  replace bb2 := bb2.keep hk7 (by omega)
  replace u3 := u3.keep hk7 (by omega)
  replace bx := bx.keep hk7 (by omega)
  replace u4 := u4.keep hk7 (by omega)
  replace bb := bb.trans (hk7.below (by omega) bb.size)
  clear hk7
  generalize w6.alloc (.cells #[.int .i64 u, .slice (some ⟨g4, 0, none⟩) m m] 26) = w7 at *
  refine (implSameR_any t u _ _ n n m m _ _ _ _ xs ys w7 rr u3.1 u4.1 HR.out).mono ?_
  rintro e w8 ⟨rfl, hk8⟩
  have hz8 := hk8.size
  replace h := h.keep hk8 (by omega)
  replace h' := h'.keep hk8 (by omega)
  replace ba := ba.keep hk8 (by omega)
  replace bb2 := bb2.keep hk8 (by omega)
  replace u3 := u3.keep hk8 (by omega)
  replace bx := bx.keep hk8 (by omega)
  replace u4 := u4.keep hk8 (by omega)
  replace by_ := by_.keep hk8 (by omega)
  replace bb := bb.trans (hk8.below (by omega) bb.size)
  clear hk8
  go_upto_region 14 with fail
  go_cut [39] from 35 to 39 (fun sv wx => (sv = .bool false) ∧ Below w8.heap.size w8 wx)
  case first =>
    have kd : Keep 0 0 w8 w8.drew := ⟨rfl, rfl, rfl, Nat.le_refl _, fun _ _ _ => rfl⟩
    have hD := h.keep kd (by omega)
    have baD := ba.keep kd (by omega)
    have bxD := bx.keep kd (by omega)
    have uD := u3.keep kd (by omega)
    have bD : Below w8.heap.size w8 w8.drew := ⟨rfl, rfl, rfl, Nat.le_refl _, fun _ _ => rfl⟩
    have a0 := baD.2.1
    have a1 := baD.2.2
    have b0 := bxD.2.1
    have b1 := bxD.2.2
    have zD : w8.heap.size ≤ w8.drew.heap.size := Nat.le_refl _
    go_region_with (first
      | (go_at_call 24; refine (toReplay_any t A n c _ _ xs _ hD (by omega)).mono ?_; rintro e v1 ⟨g3, rfl, u3, hb⟩; have kx := Keep.of_below hb 0 0; have bxv := bxD.keep kx (by omega); have b0v := bxv.2.1; have b1v := bxv.2.2; have u2v := uD.keep kx (by omega); have bbv := bD.trans (hb.mono bD.size))
      | (go_at_call 25; refine (eqReplay_true t _ _ n n n _ _ _ _ xs _ u2v.1 u3.1).mono ?_; rintro e v2 ⟨rfl, k2⟩; have bbz := bbv.trans (k2.below (B := w8.heap.size) (by omega) bbv.size)))
    all_goals
      go_wp2_with fail
      go_meet
      case rel => exact ⟨rfl, bbz⟩
  case rest =>
  obtain ⟨rfl, hb9⟩ := hcut
  have hk9 := Keep.of_below hb9 0 0
  have hz9 := hb9.size
  replace h := h.keep hk9 (by omega)
  replace h' := h'.keep hk9 (by omega)
  replace ba := ba.keep hk9 (by omega)
  replace bb2 := bb2.keep hk9 (by omega)
  replace u3 := u3.keep hk9 (by omega)
  replace bx := bx.keep hk9 (by omega)
  replace u4 := u4.keep hk9 (by omega)
  replace by_ := by_.keep hk9 (by omega)
  replace bb := bb.trans (hk9.below (by omega) bb.size)
  clear hb9 hk9
  generalize hwc9 : wc = w9 at *
  clear hwc9
  go_upto_region 16 with fail
  go_cut [44] from 40 to 44 (fun sv wx => (sv = .bool false) ∧ Below w9.heap.size w9 wx)
  case first =>
    have kd : Keep 0 0 w9 w9.drew := ⟨rfl, rfl, rfl, Nat.le_refl _, fun _ _ _ => rfl⟩
    have hD := h'.keep kd (by omega)
    have baD := bb2.keep kd (by omega)
    have bxD := by_.keep kd (by omega)
    have uD := u4.keep kd (by omega)
    have bD : Below w9.heap.size w9 w9.drew := ⟨rfl, rfl, rfl, Nat.le_refl _, fun _ _ => rfl⟩
    have a0 := baD.2.1
    have a1 := baD.2.2
    have b0 := bxD.2.1
    have b1 := bxD.2.2
    have zD : w9.heap.size ≤ w9.drew.heap.size := Nat.le_refl _
    go_region_with (first
      | (go_at_call 24; refine (toReplay_any u B m d _ _ ys _ hD (by omega)).mono ?_; rintro e v1 ⟨g3, rfl, u3, hb⟩; have kx := Keep.of_below hb 0 0; have bxv := bxD.keep kx (by omega); have b0v := bxv.2.1; have b1v := bxv.2.2; have u2v := uD.keep kx (by omega); have bbv := bD.trans (hb.mono bD.size))
      | (go_at_call 25; refine (eqReplay_true u _ _ m m m _ _ _ _ ys _ u2v.1 u3.1).mono ?_; rintro e v2 ⟨rfl, k2⟩; have bbz := bbv.trans (k2.below (B := w9.heap.size) (by omega) bbv.size)))
    all_goals
      go_wp2_with fail
      go_meet
      case rel => exact ⟨rfl, bbz⟩
  case rest =>
  obtain ⟨rfl, hb10⟩ := hcut
  have hk10 := Keep.of_below hb10 0 0
  have hz10 := hb10.size
  replace h := h.keep hk10 (by omega)
  replace h' := h'.keep hk10 (by omega)
  replace ba := ba.keep hk10 (by omega)
  replace bb2 := bb2.keep hk10 (by omega)
  replace u3 := u3.keep hk10 (by omega)
  replace bx := bx.keep hk10 (by omega)
  replace u4 := u4.keep hk10 (by omega)
  replace by_ := by_.keep hk10 (by omega)
  replace bb := bb.trans (hk10.below (by omega) bb.size)
  clear hb10 hk10
  generalize hwc10 : wc = w10 at *
  clear hwc10
  go_wp2_with fail
  go_ret
  exact ⟨rfl, bb⟩

end Go.Proofs.Ytebdgdmdjgkboaa
