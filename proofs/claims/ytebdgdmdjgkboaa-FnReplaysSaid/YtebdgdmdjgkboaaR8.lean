/-
  The walks of chapter 4's exact laws.
-/
import Derived.Test.YtebdgdmdjgkboaaR6
import Derived.Test.YtebdgdmdjgkboaaQ6
import Derived.Deep.RegionWith
namespace Go.Proofs.Ytebdgdmdjgkboaa
open Go.RowKit
set_option linter.unusedVariables false
set_option maxRecDepth 100000

set_option maxHeartbeats 400000 in
theorem szReplay_any (t : Int) (A : Option Addr) (n c : Nat) (left : Int) (w : World) (h0 : 0 ≤ left) (h1 : left ≤ 1099511627776) (hn : n ≤ 9223372036854775807) :
    Calls Try.prog 23 #[.agg #[.int .i64 t, .slice A n c], .int .i64 left] w fun e w' => e = .returned (.int .i64 (if left < (n : Int) then -1 else left - n)) ∧ Keep 0 0 w w' := by
  have k1 := (Keep.refl 0 0 w).alloc (.cells #[.int .i64 t, .slice A n c] 38)
  have hs := szInt64S_any A n c left (w.alloc (.cells #[.int .i64 t, .slice A n c] 38)) h0 h1 hn
  by_cases h : left < (n : Int)
  · rw [if_pos h] at hs ⊢
    have HS := Lib.hid hs
    clear hs
    go_enter Try.func23, Try.ntmps23
    go_wp2_with fail
    refine HS.out.mono ?_
    rintro e w1 ⟨rfl, rfl⟩
    go_wp2_with fail
    go_ret
    exact ⟨rfl, k1⟩
  · rw [if_neg h] at hs ⊢
    have HS := Lib.hid hs
    have j1 : ¬ left - (n : Int) < 0 := by omega
    clear hs
    go_enter Try.func23, Try.ntmps23
    go_wp2_with fail
    refine HS.out.mono ?_
    rintro e w1 ⟨rfl, rfl⟩
    go_wp2_with fail
    go_ret
    exact ⟨rfl, k1⟩

/-- A box of three cells. -/
def Box3 (w : World) (b : Nat) (u0 u1 u2 : Value) : Prop := b < w.heap.size ∧ w.cell? ⟨b, 0, none⟩ = some u0 ∧ w.cell? ⟨b, 1, none⟩ = some u1 ∧ w.cell? ⟨b, 2, none⟩ = some u2
theorem Box3.keep {w w' : World} {b lo hi : Nat} {u0 u1 u2 : Value} (h : Box3 w b u0 u1 u2) (k : Keep lo hi w w') (ho : b < lo ∨ hi ≤ b) : Box3 w' b u0 u1 u2 :=
  ⟨Nat.lt_of_lt_of_le h.1 k.size, (k.cell h.1 ho).trans h.2.1, (k.cell h.1 ho).trans h.2.2.1, (k.cell h.1 ho).trans h.2.2.2⟩
theorem Box3.new (w : World) (u0 u1 u2 : Value) (t : TypeId) : Box3 (w.alloc (.cells #[u0, u1, u2] t)) w.heap.size u0 u1 u2 := by
  refine ⟨by simp, ?_, ?_, ?_⟩ <;> simp [go_sem]

set_option maxHeartbeats 2000000 in
theorem exactReplayFault (t : Int) (A : Option Addr) (n c : Nat) (xs : List Int) (w : World) (h : Ri w 0 w.heap.size A n xs) (ht : -9223372036854775808 ≤ t ∧ t ≤ 9223372036854775807) :
    Calls Try.prog 4 #[.agg #[.int .i64 t, .slice A n c]] w fun e w' => e = .returned (.bool true) ∧ Below w.heap.size w w' := by
  have hint := h.int
  have HS := Lib.hid (fun w' => szReplay_any t A n c 1048576 w' (by omega) (by omega) hint)
  by_cases hn : 1048576 < n
  · have hb : (1048576 : Int) < (n : Int) := by omega
    rw [if_pos hb] at HS
    go_enter Try.func4, Try.ntmps4
    go_wp2_with fail
    refine (HS.out _).mono ?_
    rintro e w1 ⟨rfl, k1⟩
    have bb := (((Keep.refl 0 0 w).alloc (.cells #[.int .i64 t, .slice A n c] 38)).trans k1).below (B := w.heap.size) (by omega) (Nat.le_refl _)
    go_wp2_with fail
    go_ret
    exact ⟨rfl, bb⟩
  have hb : ¬ (1048576 : Int) < (n : Int) := by omega
  rw [if_neg hb] at HS
  have j1 : ¬ (1048576 : Int) - (n : Int) < 0 := by omega
  go_enter Try.func4, Try.ntmps4
  have bb := Below.refl w.heap.size w
  go_wp2_with fail
  have hk1 := (Keep.refl 0 0 w).alloc (.cells #[.int .i64 t, .slice A n c] 38)
  have ba := Box2.new w (.int .i64 t) (.slice A n c) 38
  have hz1 : w.heap.size + 1 ≤ (w.alloc (.cells #[.int .i64 t, .slice A n c] 38)).heap.size := by simp
  replace h := h.keep hk1 (by omega)
  replace bb := bb.trans (hk1.below (by omega) bb.size)
  clear hk1
  generalize w.alloc (.cells #[.int .i64 t, .slice A n c] 38) = w1 at *
  refine (HS.out w1).mono ?_
  rintro e w2 ⟨rfl, hk2⟩
  have hz2 := hk2.size
  replace h := h.keep hk2 (by omega)
  replace ba := ba.keep hk2 (by omega)
  replace bb := bb.trans (hk2.below (by omega) bb.size)
  clear hk2
  have bac0 := ba.2.1
  have bac1 := ba.2.2
  go_wp2_with fail
  clear bac0 bac1
  refine (toReplay_any t A n c _ _ xs w2 h (by omega)).mono ?_
  rintro e w3 ⟨g1, rfl, u1, hb3⟩
  have hk3 := Keep.of_below hb3 0 0
  have hz3 := hb3.size
  replace h := h.keep hk3 (by omega)
  replace ba := ba.keep hk3 (by omega)
  replace bb := bb.trans (hk3.below (by omega) bb.size)
  clear hb3 hk3
  go_wp2_with fail
  refine (specFault_any t _ n n _ _ xs w3 u1.1 ht).mono ?_
  rintro e w4 ⟨rfl, hk4⟩
  have hz4 := hk4.size
  replace h := h.keep hk4 (by omega)
  replace ba := ba.keep hk4 (by omega)
  replace u1 := u1.keep hk4 (by omega)
  replace bb := bb.trans (hk4.below (by omega) bb.size)
  clear hk4
  have bac0 := ba.2.1
  have bac1 := ba.2.2
  go_wp2_with fail
  clear bac0 bac1
  refine (toReplay_any t A n c _ _ xs w4 h (by omega)).mono ?_
  rintro e w5 ⟨g2, rfl, u2, hb5⟩
  have hk5 := Keep.of_below hb5 0 0
  have hz5 := hb5.size
  replace h := h.keep hk5 (by omega)
  replace ba := ba.keep hk5 (by omega)
  replace u1 := u1.keep hk5 (by omega)
  replace bb := bb.trans (hk5.below (by omega) bb.size)
  clear hb5 hk5
  go_wp2_with fail
  have hk6 := (Keep.refl 0 0 w5).alloc (.cells #[.int .i64 t, .slice (some ⟨g2, 0, none⟩) n n] 26)
  have bx := Box2.new w5 (.int .i64 t) (.slice (some ⟨g2, 0, none⟩) n n) 26
  have hz6 : w5.heap.size + 1 ≤ (w5.alloc (.cells #[.int .i64 t, .slice (some ⟨g2, 0, none⟩) n n] 26)).heap.size := by simp
  replace h := h.keep hk6 (by omega)
  replace ba := ba.keep hk6 (by omega)
  replace u1 := u1.keep hk6 (by omega)
  replace u2 := u2.keep hk6 (by omega)
  replace bb := bb.trans (hk6.below (by omega) bb.size)
  clear hk6
  generalize w5.alloc (.cells #[.int .i64 t, .slice (some ⟨g2, 0, none⟩) n n] 26) = w6 at *
  refine (implFault_any t _ n n _ _ xs w6 u2.1 ht).mono ?_
  rintro e w7 ⟨rfl, hb7⟩
  have hk7 := Keep.of_below hb7 0 0
  have hz7 := hb7.size
  replace h := h.keep hk7 (by omega)
  replace ba := ba.keep hk7 (by omega)
  replace u1 := u1.keep hk7 (by omega)
  replace u2 := u2.keep hk7 (by omega)
  replace bx := bx.keep hk7 (by omega)
  replace bb := bb.trans (hk7.below (by omega) bb.size)
  clear hb7 hk7
  go_wp2_with fail
  have kd : Keep 0 0 w7 w7.drew := ⟨rfl, rfl, rfl, Nat.le_refl _, fun _ _ _ => rfl⟩
  have hD := h.keep kd (by omega)
  have baD := ba.keep kd (by omega)
  have bxD := bx.keep kd (by omega)
  have u2D := u2.keep kd (by omega)
  have bbD := bb.trans (kd.below (B := w.heap.size) (by omega) bb.size)
  have a0 := baD.2.1
  have a1 := baD.2.2
  have b0 := bxD.2.1
  have b1 := bxD.2.2
  have zD : w7.heap.size ≤ w7.drew.heap.size := Nat.le_refl _
  go_region_with (first
    | (go_at_call 24; refine (toReplay_any t A n c _ _ xs _ hD (by omega)).mono ?_; rintro e v1 ⟨g3, rfl, u3, hb⟩; have kx := Keep.of_below hb 0 0; have bxv := bxD.keep kx (by omega); have b0v := bxv.2.1; have b1v := bxv.2.2; have u2v := u2D.keep kx (by omega); have bbv := bbD.trans (hb.mono bbD.size))
    | (go_at_call 25; refine (eqReplay_true t _ _ n n n _ _ _ _ xs _ u2v.1 u3.1).mono ?_; rintro e v2 ⟨rfl, k2⟩; have bbz := bbv.trans (k2.below (B := w.heap.size) (by omega) bbv.size)))
  all_goals
    go_wp2_with fail
    go_ret
    exact ⟨rfl, bbz⟩

set_option maxHeartbeats 2000000 in
theorem exactCheckReplay (t : Int) (sq : Int) (A : Option Addr) (n c : Nat) (xs : List Int) (w : World) (h : Ri w 0 w.heap.size A n xs) (ht : -9223372036854775808 ≤ t ∧ t ≤ 9223372036854775807) :
    Calls Try.prog 6 #[.agg #[.int .i64 t, .slice A n c], .int .i64 sq] w fun e w' => e = .returned (.bool true) ∧ Below w.heap.size w w' := by
  have hint := h.int
  have HS := Lib.hid (fun w' => szReplay_any t A n c 1048576 w' (by omega) (by omega) hint)
  by_cases hn : 1048576 < n
  · have hb : (1048576 : Int) < (n : Int) := by omega
    rw [if_pos hb] at HS
    go_enter Try.func6, Try.ntmps6
    go_wp2_with fail
    refine (HS.out _).mono ?_
    rintro e w1 ⟨rfl, k1⟩
    have bb := (((Keep.refl 0 0 w).alloc (.cells #[.int .i64 t, .slice A n c] 38)).trans k1).below (B := w.heap.size) (by omega) (Nat.le_refl _)
    go_wp2_with fail
    go_ret
    exact ⟨rfl, bb⟩
  have hb : ¬ (1048576 : Int) < (n : Int) := by omega
  rw [if_neg hb] at HS
  have j1 : ¬ (1048576 : Int) - (n : Int) < 0 := by omega
  go_enter Try.func6, Try.ntmps6
  have bb := Below.refl w.heap.size w
  go_wp2_with fail
  have hk1 := (Keep.refl 0 0 w).alloc (.cells #[.int .i64 t, .slice A n c] 38)
  have ba := Box2.new w (.int .i64 t) (.slice A n c) 38
  have hz1 : w.heap.size + 1 ≤ (w.alloc (.cells #[.int .i64 t, .slice A n c] 38)).heap.size := by simp
  replace h := h.keep hk1 (by omega)
  replace bb := bb.trans (hk1.below (by omega) bb.size)
  clear hk1
  generalize w.alloc (.cells #[.int .i64 t, .slice A n c] 38) = w1 at *
  refine (HS.out w1).mono ?_
  rintro e w2 ⟨rfl, hk2⟩
  have hz2 := hk2.size
  replace h := h.keep hk2 (by omega)
  replace ba := ba.keep hk2 (by omega)
  replace bb := bb.trans (hk2.below (by omega) bb.size)
  clear hk2
  have bac0 := ba.2.1
  have bac1 := ba.2.2
  go_wp2_with fail
  clear bac0 bac1
  refine (toReplay_any t A n c _ _ xs w2 h (by omega)).mono ?_
  rintro e w3 ⟨g1, rfl, u1, hb3⟩
  have hk3 := Keep.of_below hb3 0 0
  have hz3 := hb3.size
  replace h := h.keep hk3 (by omega)
  replace ba := ba.keep hk3 (by omega)
  replace bb := bb.trans (hk3.below (by omega) bb.size)
  clear hb3 hk3
  go_wp2_with fail
  refine (specCheck_any t sq _ n n _ _ xs w3 u1.1 ht).mono ?_
  rintro e w4 ⟨rfl, hk4⟩
  have hz4 := hk4.size
  replace h := h.keep hk4 (by omega)
  replace ba := ba.keep hk4 (by omega)
  replace u1 := u1.keep hk4 (by omega)
  replace bb := bb.trans (hk4.below (by omega) bb.size)
  clear hk4
  have bac0 := ba.2.1
  have bac1 := ba.2.2
  go_wp2_with fail
  clear bac0 bac1
  refine (toReplay_any t A n c _ _ xs w4 h (by omega)).mono ?_
  rintro e w5 ⟨g2, rfl, u2, hb5⟩
  have hk5 := Keep.of_below hb5 0 0
  have hz5 := hb5.size
  replace h := h.keep hk5 (by omega)
  replace ba := ba.keep hk5 (by omega)
  replace u1 := u1.keep hk5 (by omega)
  replace bb := bb.trans (hk5.below (by omega) bb.size)
  clear hb5 hk5
  go_wp2_with fail
  have hk6 := (Keep.refl 0 0 w5).alloc (.cells #[.int .i64 t, .slice (some ⟨g2, 0, none⟩) n n] 26)
  have bx := Box2.new w5 (.int .i64 t) (.slice (some ⟨g2, 0, none⟩) n n) 26
  have hz6 : w5.heap.size + 1 ≤ (w5.alloc (.cells #[.int .i64 t, .slice (some ⟨g2, 0, none⟩) n n] 26)).heap.size := by simp
  replace h := h.keep hk6 (by omega)
  replace ba := ba.keep hk6 (by omega)
  replace u1 := u1.keep hk6 (by omega)
  replace u2 := u2.keep hk6 (by omega)
  replace bb := bb.trans (hk6.below (by omega) bb.size)
  clear hk6
  generalize w5.alloc (.cells #[.int .i64 t, .slice (some ⟨g2, 0, none⟩) n n] 26) = w6 at *
  refine (implCheck_any t sq _ n n _ _ xs w6 u2.1 ht).mono ?_
  rintro e w7 ⟨rfl, hb7⟩
  have hk7 := Keep.of_below hb7 0 0
  have hz7 := hb7.size
  replace h := h.keep hk7 (by omega)
  replace ba := ba.keep hk7 (by omega)
  replace u1 := u1.keep hk7 (by omega)
  replace u2 := u2.keep hk7 (by omega)
  replace bx := bx.keep hk7 (by omega)
  replace bb := bb.trans (hk7.below (by omega) bb.size)
  clear hb7 hk7
  go_wp2_with fail
  have kd : Keep 0 0 w7 w7.drew := ⟨rfl, rfl, rfl, Nat.le_refl _, fun _ _ _ => rfl⟩
  have hD := h.keep kd (by omega)
  have baD := ba.keep kd (by omega)
  have bxD := bx.keep kd (by omega)
  have u2D := u2.keep kd (by omega)
  have bbD := bb.trans (kd.below (B := w.heap.size) (by omega) bb.size)
  have a0 := baD.2.1
  have a1 := baD.2.2
  have b0 := bxD.2.1
  have b1 := bxD.2.2
  have zD : w7.heap.size ≤ w7.drew.heap.size := Nat.le_refl _
  go_region_with (first
    | (go_at_call 24; refine (toReplay_any t A n c _ _ xs _ hD (by omega)).mono ?_; rintro e v1 ⟨g3, rfl, u3, hb⟩; have kx := Keep.of_below hb 0 0; have bxv := bxD.keep kx (by omega); have b0v := bxv.2.1; have b1v := bxv.2.2; have u2v := u2D.keep kx (by omega); have bbv := bbD.trans (hb.mono bbD.size))
    | (go_at_call 25; refine (eqReplay_true t _ _ n n n _ _ _ _ xs _ u2v.1 u3.1).mono ?_; rintro e v2 ⟨rfl, k2⟩; have bbz := bbv.trans (k2.below (B := w.heap.size) (by omega) bbv.size)))
  all_goals
    go_wp2_with fail
    go_ret
    exact ⟨rfl, bbz⟩

set_option maxHeartbeats 2000000 in
theorem exactNewReplay (w : World) : Calls Try.prog 5 #[] w fun e w' => e = .returned (.bool true) ∧ Below w.heap.size w w' := by
  go_enter Try.func5, Try.ntmps5
  have bb := Below.refl w.heap.size w
  go_wp2_with fail
  refine (specNewR_any w).mono ?_
  rintro e w1 ⟨rfl, hk1⟩
  have hz1 := hk1.size
  replace bb := bb.trans (hk1.below (by omega) bb.size)
  clear hk1
  go_wp2_with fail
  have hk2 := (Keep.refl 0 0 w1).alloc (.cells #[.int .i64 0, .int .i64 (-1), .slice none 0 0] 30)
  have bx0 := Box3.new w1 (.int .i64 0) (.int .i64 (-1)) (.slice none 0 0) 30
  have hz2 : w1.heap.size + 1 ≤ (w1.alloc (.cells #[.int .i64 0, .int .i64 (-1), .slice none 0 0] 30)).heap.size := by simp
  replace bb := bb.trans (hk2.below (by omega) bb.size)
  clear hk2
  generalize w1.alloc (.cells #[.int .i64 0, .int .i64 (-1), .slice none 0 0] 30) = w2 at *
  refine (implNewR_any w2).mono ?_
  rintro e w3 ⟨A1, c1, rfl, hb3⟩
  have hk3 := Keep.of_below hb3 0 0
  have hz3 := hb3.size
  replace bx0 := bx0.keep hk3 (by omega)
  replace bb := bb.trans (hk3.below (by omega) bb.size)
  clear hb3 hk3
  have bx0lt := bx0.1
  have bx0c0 := bx0.2.1
  have bx0c1 := bx0.2.2.1
  have bx0c2 := bx0.2.2.2
  go_wp2_with fail
  clear bx0lt bx0c0 bx0c1 bx0c2
  have hk4 := (Keep.refl 0 0 w3).alloc (.cells #[.int .i64 0, .int .i64 (-1), .slice A1 0 c1] 30)
  have bx1 := Box3.new w3 (.int .i64 0) (.int .i64 (-1)) (.slice A1 0 c1) 30
  have hz4 : w3.heap.size + 1 ≤ (w3.alloc (.cells #[.int .i64 0, .int .i64 (-1), .slice A1 0 c1] 30)).heap.size := by simp
  replace bx0 := bx0.keep hk4 (by omega)
  replace bb := bb.trans (hk4.below (by omega) bb.size)
  clear hk4
  generalize w3.alloc (.cells #[.int .i64 0, .int .i64 (-1), .slice A1 0 c1] 30) = w4 at *
  refine (eqReplayResult_true 0 (-1) A1 none 0 _ 0 0 0 0 0 [] w4 (Ri.empty w4 _ (Nat.zero_le _)) (Ri.empty w4 _ (Nat.zero_le _))).mono ?_
  rintro e w5 ⟨rfl, hk5⟩
  have hz5 := hk5.size
  replace bx0 := bx0.keep hk5 (by omega)
  replace bx1 := bx1.keep hk5 (by omega)
  replace bb := bb.trans (hk5.below (by omega) bb.size)
  clear hk5
  have bx1c0 := bx1.2.1
  have bx1c1 := bx1.2.2.1
  have bx1c2 := bx1.2.2.2
  go_wp2_with fail
  clear bx1c0 bx1c1 bx1c2
  refine (markReplayResult_any 0 (-1) A1 0 c1 0 0 1 [] w5 (Wi.empty w5 _ (Nat.zero_le _)) (by omega) (by omega)).mono ?_
  rintro e w6 ⟨rfl, _, hk6⟩
  have hz6 := hk6.size
  replace bx0 := bx0.keep hk6 (by omega)
  replace bx1 := bx1.keep hk6 (by omega)
  replace bb := bb.trans (hk6.below (by omega) bb.size)
  clear hk6
  have bx1c0 := bx1.2.1
  have bx1c1 := bx1.2.2.1
  have bx1c2 := bx1.2.2.2
  go_wp2_with fail
  clear bx1c0 bx1c1 bx1c2
  refine (heldReplayResult_any 0 (-1) A1 0 c1 0 0 1 w6 (Ri.empty w6 _ (Nat.zero_le _)) (by omega) (by omega)).mono ?_
  rintro e w7 ⟨rfl, hk7⟩
  have hz7 := hk7.size
  replace bx0 := bx0.keep hk7 (by omega)
  replace bx1 := bx1.keep hk7 (by omega)
  replace bb := bb.trans (hk7.below (by omega) bb.size)
  clear hk7
  go_wp2_with fail
  refine (implNewR_any w7).mono ?_
  rintro e w8 ⟨A2, c2, rfl, hb8⟩
  have hk8 := Keep.of_below hb8 0 0
  have hz8 := hb8.size
  replace bx0 := bx0.keep hk8 (by omega)
  replace bx1 := bx1.keep hk8 (by omega)
  replace bb := bb.trans (hk8.below (by omega) bb.size)
  clear hb8 hk8
  have bx0lt := bx0.1
  have bx0c0 := bx0.2.1
  have bx0c1 := bx0.2.2.1
  have bx0c2 := bx0.2.2.2
  go_wp2_with fail
  clear bx0lt bx0c0 bx0c1 bx0c2
  have hk9 := (Keep.refl 0 0 w8).alloc (.cells #[.int .i64 0, .int .i64 (-1), .slice A2 0 c2] 30)
  have bx2 := Box3.new w8 (.int .i64 0) (.int .i64 (-1)) (.slice A2 0 c2) 30
  have hz9 : w8.heap.size + 1 ≤ (w8.alloc (.cells #[.int .i64 0, .int .i64 (-1), .slice A2 0 c2] 30)).heap.size := by simp
  replace bx0 := bx0.keep hk9 (by omega)
  replace bx1 := bx1.keep hk9 (by omega)
  replace bb := bb.trans (hk9.below (by omega) bb.size)
  clear hk9
  generalize w8.alloc (.cells #[.int .i64 0, .int .i64 (-1), .slice A2 0 c2] 30) = w9 at *
  refine (eqReplayResult_true 0 (-1) A2 none 0 _ 0 0 0 0 0 [] w9 (Ri.empty w9 _ (Nat.zero_le _)) (Ri.empty w9 _ (Nat.zero_le _))).mono ?_
  rintro e w10 ⟨rfl, hk10⟩
  have hz10 := hk10.size
  replace bx0 := bx0.keep hk10 (by omega)
  replace bx1 := bx1.keep hk10 (by omega)
  replace bx2 := bx2.keep hk10 (by omega)
  replace bb := bb.trans (hk10.below (by omega) bb.size)
  clear hk10
  have bx1c0 := bx1.2.1
  have bx1c1 := bx1.2.2.1
  have bx1c2 := bx1.2.2.2
  go_wp2_with fail
  clear bx1c0 bx1c1 bx1c2
  refine (heldReplayResult_any 0 (-1) A1 0 c1 0 0 1 w10 (Ri.empty w10 _ (Nat.zero_le _)) (by omega) (by omega)).mono ?_
  rintro e w11 ⟨rfl, hk11⟩
  have hz11 := hk11.size
  replace bx0 := bx0.keep hk11 (by omega)
  replace bx1 := bx1.keep hk11 (by omega)
  replace bx2 := bx2.keep hk11 (by omega)
  replace bb := bb.trans (hk11.below (by omega) bb.size)
  clear hk11
  go_wp2_with fail
  go_ret
  exact ⟨rfl, bb⟩

end Go.Proofs.Ytebdgdmdjgkboaa
