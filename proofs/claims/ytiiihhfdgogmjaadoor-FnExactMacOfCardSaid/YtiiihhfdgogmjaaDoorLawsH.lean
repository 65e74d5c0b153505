/-
  The walks of chapter 2's exact laws.
-/
import Derived.Test.YtiiihhfdgogmjaaDoorH7
import Derived.Test.YtiiihhfdgogmjaaDoorH8
namespace Go.Proofs.YtiiihhfdgogmjaaDoor
open Go.RowKit
set_option linter.unusedVariables false

theorem manyAns_le (b : Prop) [Decidable b] (zs : List Int) (m : Nat) (h : ¬ b → zs.length ≤ m) : (manyAns b zs).length ≤ m := by
  unfold manyAns; split
  · exact Nat.zero_le _
  · exact h (by assumption)
theorem pad_le (n : Nat) (xs : List Int) (h : xs.length = n) : (manyAns (300 < n) (padL xs)).length ≤ 16777216 :=
  manyAns_le _ _ _ fun hb => by rw [padL_len, h]; have := padEnd_le n; omega
theorem hash_le (n : Nat) (xs : List Int) : (manyAns (300 < n) (hashL xs)).length ≤ 16777216 :=
  manyAns_le _ _ _ fun hb => by rw [hashL_len]; omega
theorem mac_le (n nk : Nat) (ks ds : List Int) : (manyAns (300 < n ∨ 64 < nk) (macL ks ds)).length ≤ 16777216 :=
  manyAns_le _ _ _ fun hb => by rw [macL_len]; omega


set_option maxHeartbeats 2000000 in
theorem exactHashOf (A0 : Option Addr) (n0 c0 : Nat) (xs0 : List Int) (w : World) (h0 : Rd w 0 w.heap.size A0 n0 xs0) (hkt : Kt w) :
    Calls Tryd.prog 4 #[.slice A0 n0 c0] w fun e w' => e = .returned (.bool true) ∧ Below w.heap.size w w' := by
  have hg0 := hkt.1
  have hint0 := h0.int
  by_cases hn0 : 1048576 < n0
  · go_enter Tryd.func4, Tryd.ntmps4
    go_wp2_with fail
    go_ret
    exact ⟨rfl, Below.refl _ _⟩
  obtain ⟨p, hp⟩ : ∃ p, manyCode (300 < n0) = p := ⟨_, rfl⟩
  obtain ⟨zs, hz⟩ : ∃ zs, manyAns (300 < n0) (hashL xs0) = zs := ⟨_, rfl⟩
  have hl3 : zs.length ≤ 16777216 := hz ▸ hash_le n0 xs0
  have HP := Lib.hid hp
  have HZ := Lib.hid hz
  clear hp hz
  go_enter Tryd.func4, Tryd.ntmps4
  have bb := Below.refl w.heap.size w
  go_wp2_with fail
  refine (toByteS_any A0 n0 c0 _ _ xs0 w h0 (by omega)).mono ?_
  rintro e w1 ⟨t0, rfl, r0, hb1⟩
  have hk1 := Keep.of_below hb1 0 0
  have hz1 := hb1.size
  replace h0 := h0.keep hk1 (by omega)
  replace hkt := hkt.keep hk1 (by omega)
  replace bb := bb.trans (hk1.below (by omega) bb.size)
  clear hb1 hk1
  go_wp2_with fail
  refine (bans_at (specHash_any _ n0 _ _ xs0 w1 r0.rd0 (fun h => by cases h)) HP.out HZ.out).mono ?_
  rintro e w2 ⟨G, cap, rfl, _, u0, hb2⟩
  have hk2 := Keep.of_below hb2 0 0
  have hz2 := hb2.size
  replace h0 := h0.keep hk2 (by omega)
  replace hkt := hkt.keep hk2 (by omega)
  replace r0 := r0.keep hk2 (by omega)
  replace bb := bb.trans (hk2.below (by omega) bb.size)
  clear hb2 hk2
  clear r0
  go_wp2_with fail
  have hk3 := (Keep.refl 0 0 w2).alloc (.cells #[.int .i64 p, .slice G zs.length cap] 26)
  have bx0 := Box2.new w2 (.int .i64 p) (.slice G zs.length cap) 26
  have hz3 : w2.heap.size + 1 ≤ (w2.alloc (.cells #[.int .i64 p, .slice G zs.length cap] 26)).heap.size := by simp
  replace h0 := h0.keep hk3 (by omega)
  replace hkt := hkt.keep hk3 (by omega)
  replace u0 := u0.keep hk3 (by omega)
  replace bb := bb.trans (hk3.below (by omega) bb.size)
  clear hk3
  generalize w2.alloc (.cells #[.int .i64 p, .slice G zs.length cap] 26) = w3 at *
  refine (toByteS_any A0 n0 c0 _ _ xs0 w3 h0 (by omega)).mono ?_
  rintro e w4 ⟨t0, rfl, x0, hb4⟩
  have hk4 := Keep.of_below hb4 0 0
  have hz4 := hb4.size
  replace h0 := h0.keep hk4 (by omega)
  replace hkt := hkt.keep hk4 (by omega)
  replace u0 := u0.keep hk4 (by omega)
  replace bx0 := bx0.keep hk4 (by omega)
  replace bb := bb.trans (hk4.below (by omega) bb.size)
  clear hb4 hk4
  go_wp2_with fail
  refine (bans_at (implHash_any _ n0 _ _ xs0 w4 x0.rd0 (fun h => by cases h) hkt) HP.out HZ.out).mono ?_
  rintro e w5 ⟨G1, cap1, rfl, _, u1, hb5⟩
  have hk5 := Keep.of_below hb5 0 0
  have hz5 := hb5.size
  replace h0 := h0.keep hk5 (by omega)
  replace hkt := hkt.keep hk5 (by omega)
  replace u0 := u0.keep hk5 (by omega)
  replace bx0 := bx0.keep hk5 (by omega)
  replace x0 := x0.keep hk5 (by omega)
  replace bb := bb.trans (hk5.below (by omega) bb.size)
  clear hb5 hk5
  have bx0lt := bx0.1
  have bx0c0 := bx0.2.1
  have bx0c1 := bx0.2.2
  go_wp2_with fail
  clear bx0lt bx0c0 bx0c1
  have hk6 := (Keep.refl 0 0 w5).alloc (.cells #[.int .i64 p, .slice G1 zs.length cap1] 26)
  have bx1 := Box2.new w5 (.int .i64 p) (.slice G1 zs.length cap1) 26
  have hz6 : w5.heap.size + 1 ≤ (w5.alloc (.cells #[.int .i64 p, .slice G1 zs.length cap1] 26)).heap.size := by simp
  replace h0 := h0.keep hk6 (by omega)
  replace hkt := hkt.keep hk6 (by omega)
  replace u0 := u0.keep hk6 (by omega)
  replace bx0 := bx0.keep hk6 (by omega)
  replace x0 := x0.keep hk6 (by omega)
  replace u1 := u1.keep hk6 (by omega)
  replace bb := bb.trans (hk6.below (by omega) bb.size)
  clear hk6
  generalize w5.alloc (.cells #[.int .i64 p, .slice G1 zs.length cap1] 26) = w6 at *
  refine (eqBytesResult_true p _ _ zs.length _ _ _ _ _ _ zs w6 u1.1 u0.1).mono ?_
  rintro e w7 ⟨rfl, hk7⟩
  have hz7 := hk7.size
  replace h0 := h0.keep hk7 (by omega)
  replace hkt := hkt.keep hk7 (by omega)
  replace u0 := u0.keep hk7 (by omega)
  replace bx0 := bx0.keep hk7 (by omega)
  replace x0 := x0.keep hk7 (by omega)
  replace u1 := u1.keep hk7 (by omega)
  replace bx1 := bx1.keep hk7 (by omega)
  replace bb := bb.trans (hk7.below (by omega) bb.size)
  clear hk7
  go_wp2_with fail
  refine (toByteS_any A0 n0 c0 _ _ xs0 w7 h0 (by omega)).mono ?_
  rintro e w8 ⟨t0, rfl, r0, hb8⟩
  have hk8 := Keep.of_below hb8 0 0
  have hz8 := hb8.size
  replace h0 := h0.keep hk8 (by omega)
  replace hkt := hkt.keep hk8 (by omega)
  replace u0 := u0.keep hk8 (by omega)
  replace bx0 := bx0.keep hk8 (by omega)
  replace x0 := x0.keep hk8 (by omega)
  replace u1 := u1.keep hk8 (by omega)
  replace bx1 := bx1.keep hk8 (by omega)
  replace bb := bb.trans (hk8.below (by omega) bb.size)
  clear hb8 hk8
  go_wp2_with fail
  refine (eqByteS_true _ _ n0 n0 n0 _ _ _ _ xs0 w8 x0.1 r0.1).mono ?_
  rintro e w9 ⟨rfl, q9, hq9⟩
  have hk9 : Keep 0 0 w8 w9 := by rw [hq9]; exact (Keep.refl 0 0 _).drewN _
  clear hq9
  have hz9 := hk9.size
  replace h0 := h0.keep hk9 (by omega)
  replace hkt := hkt.keep hk9 (by omega)
  replace u0 := u0.keep hk9 (by omega)
  replace bx0 := bx0.keep hk9 (by omega)
  replace x0 := x0.keep hk9 (by omega)
  replace u1 := u1.keep hk9 (by omega)
  replace bx1 := bx1.keep hk9 (by omega)
  replace r0 := r0.keep hk9 (by omega)
  replace bb := bb.trans (hk9.below (by omega) bb.size)
  clear hk9
  clear r0
  go_wp2_with fail
  refine (markByteS_any _ n0 n0 _ _ (1) xs0 w9 x0 (by omega) (by omega)).mono ?_
  rintro e w10 ⟨rfl, y0, hk10⟩
  have hz10 := hk10.size
  replace h0 := h0.keep hk10 (by omega)
  replace hkt := hkt.keep hk10 (by omega)
  replace u0 := u0.keep hk10 (by omega)
  replace bx0 := bx0.keep hk10 (by omega)
  replace u1 := u1.keep hk10 (by omega)
  replace bx1 := bx1.keep hk10 (by omega)
  replace bb := bb.trans (hk10.below (by omega) bb.size)
  clear hk10
  clear x0
  have hn1 : ¬ (1 + (n0 : Int)) < 0 := by omega
  have bx0c0 := bx0.2.1
  have bx0c1 := bx0.2.2
  have bx1c0 := bx1.2.1
  have bx1c1 := bx1.2.2
  go_wp2_with fail
  clear bx0c0 bx0c1
  clear bx1c0 bx1c1
  clear hn1
  refine (eqBytesResult_true p _ _ zs.length _ _ _ _ _ _ zs w10 u1.1 u0.1).mono ?_
  rintro e w11 ⟨rfl, hk11⟩
  have hz11 := hk11.size
  replace h0 := h0.keep hk11 (by omega)
  replace hkt := hkt.keep hk11 (by omega)
  replace u0 := u0.keep hk11 (by omega)
  replace bx0 := bx0.keep hk11 (by omega)
  replace u1 := u1.keep hk11 (by omega)
  replace bx1 := bx1.keep hk11 (by omega)
  replace y0 := y0.keep hk11 (by omega)
  replace bb := bb.trans (hk11.below (by omega) bb.size)
  clear hk11
  have bx1c0 := bx1.2.1
  have bx1c1 := bx1.2.2
  go_wp2_with fail
  clear bx1c0 bx1c1
  refine (markBytesResult_any p _ zs.length _ _ _ 1 zs w11 u1 (by omega) (by omega)).mono ?_
  rintro e w12 ⟨rfl, u1', hk12⟩
  have hz12 := hk12.size
  replace h0 := h0.keep hk12 (by omega)
  replace hkt := hkt.keep hk12 (by omega)
  replace u0 := u0.keep hk12 (by omega)
  replace bx0 := bx0.keep hk12 (by omega)
  replace bx1 := bx1.keep hk12 (by omega)
  replace y0 := y0.keep hk12 (by omega)
  replace bb := bb.trans (hk12.below (by omega) bb.size)
  clear hk12
  clear u1
  have bx1c0 := bx1.2.1
  have bx1c1 := bx1.2.2
  go_wp2_with fail
  clear bx1c0 bx1c1
  refine (heldBytesResult_any p _ zs.length _ _ _ 1 w12 u1'.1 (by omega) (by omega)).mono ?_
  rintro e w13 ⟨rfl, hk13⟩
  have hz13 := hk13.size
  replace h0 := h0.keep hk13 (by omega)
  replace hkt := hkt.keep hk13 (by omega)
  replace u0 := u0.keep hk13 (by omega)
  replace bx0 := bx0.keep hk13 (by omega)
  replace bx1 := bx1.keep hk13 (by omega)
  replace y0 := y0.keep hk13 (by omega)
  replace u1' := u1'.keep hk13 (by omega)
  replace bb := bb.trans (hk13.below (by omega) bb.size)
  clear hk13
  have hn2 : ¬ (1 + (zs.length : Int)) < 0 := by omega
  go_wp2_with fail
  refine (toByteS_any A0 n0 c0 _ _ xs0 w13 h0 (by omega)).mono ?_
  rintro e w14 ⟨t0, rfl, r0, hb14⟩
  have hk14 := Keep.of_below hb14 0 0
  have hz14 := hb14.size
  replace h0 := h0.keep hk14 (by omega)
  replace hkt := hkt.keep hk14 (by omega)
  replace u0 := u0.keep hk14 (by omega)
  replace bx0 := bx0.keep hk14 (by omega)
  replace bx1 := bx1.keep hk14 (by omega)
  replace y0 := y0.keep hk14 (by omega)
  replace u1' := u1'.keep hk14 (by omega)
  replace bb := bb.trans (hk14.below (by omega) bb.size)
  clear hb14 hk14
  go_wp2_with fail
  refine (bans_at (implHash_any _ n0 _ _ xs0 w14 r0.rd0 (fun h => by cases h) hkt) HP.out HZ.out).mono ?_
  rintro e w15 ⟨G2, cap2, rfl, _, u2, hb15⟩
  have hk15 := Keep.of_below hb15 0 0
  have hz15 := hb15.size
  replace h0 := h0.keep hk15 (by omega)
  replace hkt := hkt.keep hk15 (by omega)
  replace u0 := u0.keep hk15 (by omega)
  replace bx0 := bx0.keep hk15 (by omega)
  replace bx1 := bx1.keep hk15 (by omega)
  replace y0 := y0.keep hk15 (by omega)
  replace u1' := u1'.keep hk15 (by omega)
  replace r0 := r0.keep hk15 (by omega)
  replace bb := bb.trans (hk15.below (by omega) bb.size)
  clear hb15 hk15
  clear r0
  have bx0lt := bx0.1
  have bx0c0 := bx0.2.1
  have bx0c1 := bx0.2.2
  go_wp2_with fail
  clear bx0lt bx0c0 bx0c1
  have hk16 := (Keep.refl 0 0 w15).alloc (.cells #[.int .i64 p, .slice G2 zs.length cap2] 26)
  have bx2 := Box2.new w15 (.int .i64 p) (.slice G2 zs.length cap2) 26
  have hz16 : w15.heap.size + 1 ≤ (w15.alloc (.cells #[.int .i64 p, .slice G2 zs.length cap2] 26)).heap.size := by simp
  replace h0 := h0.keep hk16 (by omega)
  replace hkt := hkt.keep hk16 (by omega)
  replace u0 := u0.keep hk16 (by omega)
  replace bx0 := bx0.keep hk16 (by omega)
  replace bx1 := bx1.keep hk16 (by omega)
  replace y0 := y0.keep hk16 (by omega)
  replace u1' := u1'.keep hk16 (by omega)
  replace u2 := u2.keep hk16 (by omega)
  replace bb := bb.trans (hk16.below (by omega) bb.size)
  clear hk16
  generalize w15.alloc (.cells #[.int .i64 p, .slice G2 zs.length cap2] 26) = w16 at *
  refine (eqBytesResult_true p _ _ zs.length _ _ _ _ _ _ zs w16 u2.1 u0.1).mono ?_
  rintro e w17 ⟨rfl, hk17⟩
  have hz17 := hk17.size
  replace h0 := h0.keep hk17 (by omega)
  replace hkt := hkt.keep hk17 (by omega)
  replace u0 := u0.keep hk17 (by omega)
  replace bx0 := bx0.keep hk17 (by omega)
  replace bx1 := bx1.keep hk17 (by omega)
  replace y0 := y0.keep hk17 (by omega)
  replace u1' := u1'.keep hk17 (by omega)
  replace u2 := u2.keep hk17 (by omega)
  replace bx2 := bx2.keep hk17 (by omega)
  replace bb := bb.trans (hk17.below (by omega) bb.size)
  clear hk17
  have bx1c0 := bx1.2.1
  have bx1c1 := bx1.2.2
  go_wp2_with fail
  clear bx1c0 bx1c1
  refine (heldBytesResult_any p _ zs.length _ _ _ 1 w17 u1'.1 (by omega) (by omega)).mono ?_
  rintro e w18 ⟨rfl, hk18⟩
  have hz18 := hk18.size
  replace h0 := h0.keep hk18 (by omega)
  replace hkt := hkt.keep hk18 (by omega)
  replace u0 := u0.keep hk18 (by omega)
  replace bx0 := bx0.keep hk18 (by omega)
  replace bx1 := bx1.keep hk18 (by omega)
  replace y0 := y0.keep hk18 (by omega)
  replace u1' := u1'.keep hk18 (by omega)
  replace u2 := u2.keep hk18 (by omega)
  replace bx2 := bx2.keep hk18 (by omega)
  replace bb := bb.trans (hk18.below (by omega) bb.size)
  clear hk18
  have hn3 : ¬ (1 + (zs.length : Int)) < 0 := by omega
  go_wp2_with fail
  go_ret
  exact ⟨rfl, bb⟩

set_option maxHeartbeats 2000000 in
theorem exactMacOf (A0 : Option Addr) (n0 c0 : Nat) (A1 : Option Addr) (n1 c1 : Nat) (xs0 xs1 : List Int) (w : World) (h0 : Rd w 0 w.heap.size A0 n0 xs0) (h1 : Rd w 0 w.heap.size A1 n1 xs1) (hkt : Kt w) :
    Calls Tryd.prog 5 #[.slice A0 n0 c0, .slice A1 n1 c1] w fun e w' => e = .returned (.bool true) ∧ Below w.heap.size w w' := by
  have hg0 := hkt.1
  have hint0 := h0.int
  have hint1 := h1.int
  by_cases hn0 : 1048576 < n0
  · go_enter Tryd.func5, Tryd.ntmps5
    go_wp2_with fail
    go_ret
    exact ⟨rfl, Below.refl _ _⟩
  by_cases hn1 : 1048576 < n1
  · go_enter Tryd.func5, Tryd.ntmps5
    go_wp2_with fail
    go_ret
    exact ⟨rfl, Below.refl _ _⟩
  obtain ⟨p, hp⟩ : ∃ p, manyCode (300 < n1 ∨ 64 < n0) = p := ⟨_, rfl⟩
  obtain ⟨zs, hz⟩ : ∃ zs, manyAns (300 < n1 ∨ 64 < n0) (macL xs0 xs1) = zs := ⟨_, rfl⟩
  have hl3 : zs.length ≤ 16777216 := hz ▸ mac_le n1 n0 xs0 xs1
  have HP := Lib.hid hp
  have HZ := Lib.hid hz
  clear hp hz
  go_enter Tryd.func5, Tryd.ntmps5
  have bb := Below.refl w.heap.size w
  go_wp2_with fail
  refine (toByteS_any A0 n0 c0 _ _ xs0 w h0 (by omega)).mono ?_
  rintro e w1 ⟨t0, rfl, r0, hb1⟩
  have hk1 := Keep.of_below hb1 0 0
  have hz1 := hb1.size
  replace h0 := h0.keep hk1 (by omega)
  replace h1 := h1.keep hk1 (by omega)
  replace hkt := hkt.keep hk1 (by omega)
  replace bb := bb.trans (hk1.below (by omega) bb.size)
  clear hb1 hk1
  go_wp2_with fail
  refine (toByteS_any A1 n1 c1 _ _ xs1 w1 h1 (by omega)).mono ?_
  rintro e w2 ⟨t1, rfl, r1, hb2⟩
  have hk2 := Keep.of_below hb2 0 0
  have hz2 := hb2.size
  replace h0 := h0.keep hk2 (by omega)
  replace h1 := h1.keep hk2 (by omega)
  replace hkt := hkt.keep hk2 (by omega)
  replace r0 := r0.keep hk2 (by omega)
  replace bb := bb.trans (hk2.below (by omega) bb.size)
  clear hb2 hk2
  go_wp2_with fail
  refine (bans_at (specMac_at _ _ n0 _ n1 _ _ _ xs0 xs1 w2 r0.rd0 r1.rd0 (fun h => by cases h) (fun h => by cases h)) HP.out HZ.out).mono ?_
  rintro e w3 ⟨G, cap, rfl, _, u0, hb3⟩
  have hk3 := Keep.of_below hb3 0 0
  have hz3 := hb3.size
  replace h0 := h0.keep hk3 (by omega)
  replace h1 := h1.keep hk3 (by omega)
  replace hkt := hkt.keep hk3 (by omega)
  replace r0 := r0.keep hk3 (by omega)
  replace r1 := r1.keep hk3 (by omega)
  replace bb := bb.trans (hk3.below (by omega) bb.size)
  clear hb3 hk3
  clear r0
  clear r1
  go_wp2_with fail
  have hk4 := (Keep.refl 0 0 w3).alloc (.cells #[.int .i64 p, .slice G zs.length cap] 26)
  have bx0 := Box2.new w3 (.int .i64 p) (.slice G zs.length cap) 26
  have hz4 : w3.heap.size + 1 ≤ (w3.alloc (.cells #[.int .i64 p, .slice G zs.length cap] 26)).heap.size := by simp
  replace h0 := h0.keep hk4 (by omega)
  replace h1 := h1.keep hk4 (by omega)
  replace hkt := hkt.keep hk4 (by omega)
  replace u0 := u0.keep hk4 (by omega)
  replace bb := bb.trans (hk4.below (by omega) bb.size)
  clear hk4
  generalize w3.alloc (.cells #[.int .i64 p, .slice G zs.length cap] 26) = w4 at *
  refine (toByteS_any A0 n0 c0 _ _ xs0 w4 h0 (by omega)).mono ?_
  rintro e w5 ⟨t0, rfl, x0, hb5⟩
  have hk5 := Keep.of_below hb5 0 0
  have hz5 := hb5.size
  replace h0 := h0.keep hk5 (by omega)
  replace h1 := h1.keep hk5 (by omega)
  replace hkt := hkt.keep hk5 (by omega)
  replace u0 := u0.keep hk5 (by omega)
  replace bx0 := bx0.keep hk5 (by omega)
  replace bb := bb.trans (hk5.below (by omega) bb.size)
  clear hb5 hk5
  go_wp2_with fail
  refine (toByteS_any A1 n1 c1 _ _ xs1 w5 h1 (by omega)).mono ?_
  rintro e w6 ⟨t1, rfl, x1, hb6⟩
  have hk6 := Keep.of_below hb6 0 0
  have hz6 := hb6.size
  replace h0 := h0.keep hk6 (by omega)
  replace h1 := h1.keep hk6 (by omega)
  replace hkt := hkt.keep hk6 (by omega)
  replace u0 := u0.keep hk6 (by omega)
  replace bx0 := bx0.keep hk6 (by omega)
  replace x0 := x0.keep hk6 (by omega)
  replace bb := bb.trans (hk6.below (by omega) bb.size)
  clear hb6 hk6
  go_wp2_with fail
  refine (bans_at (implMac_at _ _ n0 _ n1 _ _ _ xs0 xs1 w6 x0.rd0 x1.rd0 (fun h => by cases h) (fun h => by cases h) hkt) HP.out HZ.out).mono ?_
  rintro e w7 ⟨G1, cap1, rfl, _, u1, hb7⟩
  have hk7 := Keep.of_below hb7 0 0
  have hz7 := hb7.size
  replace h0 := h0.keep hk7 (by omega)
  replace h1 := h1.keep hk7 (by omega)
  replace hkt := hkt.keep hk7 (by omega)
  replace u0 := u0.keep hk7 (by omega)
  replace bx0 := bx0.keep hk7 (by omega)
  replace x0 := x0.keep hk7 (by omega)
  replace x1 := x1.keep hk7 (by omega)
  replace bb := bb.trans (hk7.below (by omega) bb.size)
  clear hb7 hk7
  have bx0lt := bx0.1
  have bx0c0 := bx0.2.1
  have bx0c1 := bx0.2.2
  go_wp2_with fail
  clear bx0lt bx0c0 bx0c1
  have hk8 := (Keep.refl 0 0 w7).alloc (.cells #[.int .i64 p, .slice G1 zs.length cap1] 26)
  have bx1 := Box2.new w7 (.int .i64 p) (.slice G1 zs.length cap1) 26
  have hz8 : w7.heap.size + 1 ≤ (w7.alloc (.cells #[.int .i64 p, .slice G1 zs.length cap1] 26)).heap.size := by simp
  replace h0 := h0.keep hk8 (by omega)
  replace h1 := h1.keep hk8 (by omega)
  replace hkt := hkt.keep hk8 (by omega)
  replace u0 := u0.keep hk8 (by omega)
  replace bx0 := bx0.keep hk8 (by omega)
  replace x0 := x0.keep hk8 (by omega)
  replace x1 := x1.keep hk8 (by omega)
  replace u1 := u1.keep hk8 (by omega)
  replace bb := bb.trans (hk8.below (by omega) bb.size)
  clear hk8
  generalize w7.alloc (.cells #[.int .i64 p, .slice G1 zs.length cap1] 26) = w8 at *
  refine (eqBytesResult_true p _ _ zs.length _ _ _ _ _ _ zs w8 u1.1 u0.1).mono ?_
  rintro e w9 ⟨rfl, hk9⟩
  have hz9 := hk9.size
  replace h0 := h0.keep hk9 (by omega)
  replace h1 := h1.keep hk9 (by omega)
  replace hkt := hkt.keep hk9 (by omega)
  replace u0 := u0.keep hk9 (by omega)
  replace bx0 := bx0.keep hk9 (by omega)
  replace x0 := x0.keep hk9 (by omega)
  replace x1 := x1.keep hk9 (by omega)
  replace u1 := u1.keep hk9 (by omega)
  replace bx1 := bx1.keep hk9 (by omega)
  replace bb := bb.trans (hk9.below (by omega) bb.size)
  clear hk9
  go_wp2_with fail
  refine (toByteS_any A0 n0 c0 _ _ xs0 w9 h0 (by omega)).mono ?_
  rintro e w10 ⟨t0, rfl, r0, hb10⟩
  have hk10 := Keep.of_below hb10 0 0
  have hz10 := hb10.size
  replace h0 := h0.keep hk10 (by omega)
  replace h1 := h1.keep hk10 (by omega)
  replace hkt := hkt.keep hk10 (by omega)
  replace u0 := u0.keep hk10 (by omega)
  replace bx0 := bx0.keep hk10 (by omega)
  replace x0 := x0.keep hk10 (by omega)
  replace x1 := x1.keep hk10 (by omega)
  replace u1 := u1.keep hk10 (by omega)
  replace bx1 := bx1.keep hk10 (by omega)
  replace bb := bb.trans (hk10.below (by omega) bb.size)
  clear hb10 hk10
  go_wp2_with fail
  refine (eqByteS_true _ _ n0 n0 n0 _ _ _ _ xs0 w10 x0.1 r0.1).mono ?_
  rintro e w11 ⟨rfl, q11, hq11⟩
  have hk11 : Keep 0 0 w10 w11 := by rw [hq11]; exact (Keep.refl 0 0 _).drewN _
  clear hq11
  have hz11 := hk11.size
  replace h0 := h0.keep hk11 (by omega)
  replace h1 := h1.keep hk11 (by omega)
  replace hkt := hkt.keep hk11 (by omega)
  replace u0 := u0.keep hk11 (by omega)
  replace bx0 := bx0.keep hk11 (by omega)
  replace x0 := x0.keep hk11 (by omega)
  replace x1 := x1.keep hk11 (by omega)
  replace u1 := u1.keep hk11 (by omega)
  replace bx1 := bx1.keep hk11 (by omega)
  replace r0 := r0.keep hk11 (by omega)
  replace bb := bb.trans (hk11.below (by omega) bb.size)
  clear hk11
  clear r0
  go_wp2_with fail
  refine (toByteS_any A1 n1 c1 _ _ xs1 w11 h1 (by omega)).mono ?_
  rintro e w12 ⟨t1, rfl, r1, hb12⟩
  have hk12 := Keep.of_below hb12 0 0
  have hz12 := hb12.size
  replace h0 := h0.keep hk12 (by omega)
  replace h1 := h1.keep hk12 (by omega)
  replace hkt := hkt.keep hk12 (by omega)
  replace u0 := u0.keep hk12 (by omega)
  replace bx0 := bx0.keep hk12 (by omega)
  replace x0 := x0.keep hk12 (by omega)
  replace x1 := x1.keep hk12 (by omega)
  replace u1 := u1.keep hk12 (by omega)
  replace bx1 := bx1.keep hk12 (by omega)
  replace bb := bb.trans (hk12.below (by omega) bb.size)
  clear hb12 hk12
  go_wp2_with fail
  refine (eqByteS_true _ _ n1 n1 n1 _ _ _ _ xs1 w12 x1.1 r1.1).mono ?_
  rintro e w13 ⟨rfl, q13, hq13⟩
  have hk13 : Keep 0 0 w12 w13 := by rw [hq13]; exact (Keep.refl 0 0 _).drewN _
  clear hq13
  have hz13 := hk13.size
  replace h0 := h0.keep hk13 (by omega)
  replace h1 := h1.keep hk13 (by omega)
  replace hkt := hkt.keep hk13 (by omega)
  replace u0 := u0.keep hk13 (by omega)
  replace bx0 := bx0.keep hk13 (by omega)
  replace x0 := x0.keep hk13 (by omega)
  replace x1 := x1.keep hk13 (by omega)
  replace u1 := u1.keep hk13 (by omega)
  replace bx1 := bx1.keep hk13 (by omega)
  replace r1 := r1.keep hk13 (by omega)
  replace bb := bb.trans (hk13.below (by omega) bb.size)
  clear hk13
  clear r1
  go_wp2_with fail
  refine (markByteS_any _ n0 n0 _ _ (1) xs0 w13 x0 (by omega) (by omega)).mono ?_
  rintro e w14 ⟨rfl, y0, hk14⟩
  have hz14 := hk14.size
  replace h0 := h0.keep hk14 (by omega)
  replace h1 := h1.keep hk14 (by omega)
  replace hkt := hkt.keep hk14 (by omega)
  replace u0 := u0.keep hk14 (by omega)
  replace bx0 := bx0.keep hk14 (by omega)
  replace x1 := x1.keep hk14 (by omega)
  replace u1 := u1.keep hk14 (by omega)
  replace bx1 := bx1.keep hk14 (by omega)
  replace bb := bb.trans (hk14.below (by omega) bb.size)
  clear hk14
  clear x0
  go_wp2_with fail
  refine (markByteS_any _ n1 n1 _ _ (1 + (n0 : Int)) xs1 w14 x1 (by omega) (by omega)).mono ?_
  rintro e w15 ⟨rfl, y1, hk15⟩
  have hz15 := hk15.size
  replace h0 := h0.keep hk15 (by omega)
  replace h1 := h1.keep hk15 (by omega)
  replace hkt := hkt.keep hk15 (by omega)
  replace u0 := u0.keep hk15 (by omega)
  replace bx0 := bx0.keep hk15 (by omega)
  replace u1 := u1.keep hk15 (by omega)
  replace bx1 := bx1.keep hk15 (by omega)
  replace y0 := y0.keep hk15 (by omega)
  replace bb := bb.trans (hk15.below (by omega) bb.size)
  clear hk15
  clear x1
  have hn1 : ¬ (1 + (n0 : Int) + (n1 : Int)) < 0 := by omega
  have bx0c0 := bx0.2.1
  have bx0c1 := bx0.2.2
  have bx1c0 := bx1.2.1
  have bx1c1 := bx1.2.2
  go_wp2_with fail
  clear bx0c0 bx0c1
  clear bx1c0 bx1c1
  clear hn1
  refine (eqBytesResult_true p _ _ zs.length _ _ _ _ _ _ zs w15 u1.1 u0.1).mono ?_
  rintro e w16 ⟨rfl, hk16⟩
  have hz16 := hk16.size
  replace h0 := h0.keep hk16 (by omega)
  replace h1 := h1.keep hk16 (by omega)
  replace hkt := hkt.keep hk16 (by omega)
  replace u0 := u0.keep hk16 (by omega)
  replace bx0 := bx0.keep hk16 (by omega)
  replace u1 := u1.keep hk16 (by omega)
  replace bx1 := bx1.keep hk16 (by omega)
  replace y0 := y0.keep hk16 (by omega)
  replace y1 := y1.keep hk16 (by omega)
  replace bb := bb.trans (hk16.below (by omega) bb.size)
  clear hk16
  have bx1c0 := bx1.2.1
  have bx1c1 := bx1.2.2
  go_wp2_with fail
  clear bx1c0 bx1c1
  refine (markBytesResult_any p _ zs.length _ _ _ 1 zs w16 u1 (by omega) (by omega)).mono ?_
  rintro e w17 ⟨rfl, u1', hk17⟩
  have hz17 := hk17.size
  replace h0 := h0.keep hk17 (by omega)
  replace h1 := h1.keep hk17 (by omega)
  replace hkt := hkt.keep hk17 (by omega)
  replace u0 := u0.keep hk17 (by omega)
  replace bx0 := bx0.keep hk17 (by omega)
  replace bx1 := bx1.keep hk17 (by omega)
  replace y0 := y0.keep hk17 (by omega)
  replace y1 := y1.keep hk17 (by omega)
  replace bb := bb.trans (hk17.below (by omega) bb.size)
  clear hk17
  clear u1
  have bx1c0 := bx1.2.1
  have bx1c1 := bx1.2.2
  go_wp2_with fail
  clear bx1c0 bx1c1
  refine (heldBytesResult_any p _ zs.length _ _ _ 1 w17 u1'.1 (by omega) (by omega)).mono ?_
  rintro e w18 ⟨rfl, hk18⟩
  have hz18 := hk18.size
  replace h0 := h0.keep hk18 (by omega)
  replace h1 := h1.keep hk18 (by omega)
  replace hkt := hkt.keep hk18 (by omega)
  replace u0 := u0.keep hk18 (by omega)
  replace bx0 := bx0.keep hk18 (by omega)
  replace bx1 := bx1.keep hk18 (by omega)
  replace y0 := y0.keep hk18 (by omega)
  replace y1 := y1.keep hk18 (by omega)
  replace u1' := u1'.keep hk18 (by omega)
  replace bb := bb.trans (hk18.below (by omega) bb.size)
  clear hk18
  have hn2 : ¬ (1 + (zs.length : Int)) < 0 := by omega
  go_wp2_with fail
  refine (toByteS_any A0 n0 c0 _ _ xs0 w18 h0 (by omega)).mono ?_
  rintro e w19 ⟨t0, rfl, r0, hb19⟩
  have hk19 := Keep.of_below hb19 0 0
  have hz19 := hb19.size
  replace h0 := h0.keep hk19 (by omega)
  replace h1 := h1.keep hk19 (by omega)
  replace hkt := hkt.keep hk19 (by omega)
  replace u0 := u0.keep hk19 (by omega)
  replace bx0 := bx0.keep hk19 (by omega)
  replace bx1 := bx1.keep hk19 (by omega)
  replace y0 := y0.keep hk19 (by omega)
  replace y1 := y1.keep hk19 (by omega)
  replace u1' := u1'.keep hk19 (by omega)
  replace bb := bb.trans (hk19.below (by omega) bb.size)
  clear hb19 hk19
  go_wp2_with fail
  refine (toByteS_any A1 n1 c1 _ _ xs1 w19 h1 (by omega)).mono ?_
  rintro e w20 ⟨t1, rfl, r1, hb20⟩
  have hk20 := Keep.of_below hb20 0 0
  have hz20 := hb20.size
  replace h0 := h0.keep hk20 (by omega)
  replace h1 := h1.keep hk20 (by omega)
  replace hkt := hkt.keep hk20 (by omega)
  replace u0 := u0.keep hk20 (by omega)
  replace bx0 := bx0.keep hk20 (by omega)
  replace bx1 := bx1.keep hk20 (by omega)
  replace y0 := y0.keep hk20 (by omega)
  replace y1 := y1.keep hk20 (by omega)
  replace u1' := u1'.keep hk20 (by omega)
  replace r0 := r0.keep hk20 (by omega)
  replace bb := bb.trans (hk20.below (by omega) bb.size)
  clear hb20 hk20
  go_wp2_with fail
  refine (bans_at (implMac_at _ _ n0 _ n1 _ _ _ xs0 xs1 w20 r0.rd0 r1.rd0 (fun h => by cases h) (fun h => by cases h) hkt) HP.out HZ.out).mono ?_
  rintro e w21 ⟨G2, cap2, rfl, _, u2, hb21⟩
  have hk21 := Keep.of_below hb21 0 0
  have hz21 := hb21.size
  replace h0 := h0.keep hk21 (by omega)
  replace h1 := h1.keep hk21 (by omega)
  replace hkt := hkt.keep hk21 (by omega)
  replace u0 := u0.keep hk21 (by omega)
  replace bx0 := bx0.keep hk21 (by omega)
  replace bx1 := bx1.keep hk21 (by omega)
  replace y0 := y0.keep hk21 (by omega)
  replace y1 := y1.keep hk21 (by omega)
  replace u1' := u1'.keep hk21 (by omega)
  replace r0 := r0.keep hk21 (by omega)
  replace r1 := r1.keep hk21 (by omega)
  replace bb := bb.trans (hk21.below (by omega) bb.size)
  clear hb21 hk21
  clear r0
  clear r1
  have bx0lt := bx0.1
  have bx0c0 := bx0.2.1
  have bx0c1 := bx0.2.2
  go_wp2_with fail
  clear bx0lt bx0c0 bx0c1
  have hk22 := (Keep.refl 0 0 w21).alloc (.cells #[.int .i64 p, .slice G2 zs.length cap2] 26)
  have bx2 := Box2.new w21 (.int .i64 p) (.slice G2 zs.length cap2) 26
  have hz22 : w21.heap.size + 1 ≤ (w21.alloc (.cells #[.int .i64 p, .slice G2 zs.length cap2] 26)).heap.size := by simp
  replace h0 := h0.keep hk22 (by omega)
  replace h1 := h1.keep hk22 (by omega)
  replace hkt := hkt.keep hk22 (by omega)
  replace u0 := u0.keep hk22 (by omega)
  replace bx0 := bx0.keep hk22 (by omega)
  replace bx1 := bx1.keep hk22 (by omega)
  replace y0 := y0.keep hk22 (by omega)
  replace y1 := y1.keep hk22 (by omega)
  replace u1' := u1'.keep hk22 (by omega)
  replace u2 := u2.keep hk22 (by omega)
  replace bb := bb.trans (hk22.below (by omega) bb.size)
  clear hk22
  generalize w21.alloc (.cells #[.int .i64 p, .slice G2 zs.length cap2] 26) = w22 at *
  refine (eqBytesResult_true p _ _ zs.length _ _ _ _ _ _ zs w22 u2.1 u0.1).mono ?_
  rintro e w23 ⟨rfl, hk23⟩
  have hz23 := hk23.size
  replace h0 := h0.keep hk23 (by omega)
  replace h1 := h1.keep hk23 (by omega)
  replace hkt := hkt.keep hk23 (by omega)
  replace u0 := u0.keep hk23 (by omega)
  replace bx0 := bx0.keep hk23 (by omega)
  replace bx1 := bx1.keep hk23 (by omega)
  replace y0 := y0.keep hk23 (by omega)
  replace y1 := y1.keep hk23 (by omega)
  replace u1' := u1'.keep hk23 (by omega)
  replace u2 := u2.keep hk23 (by omega)
  replace bx2 := bx2.keep hk23 (by omega)
  replace bb := bb.trans (hk23.below (by omega) bb.size)
  clear hk23
  have bx1c0 := bx1.2.1
  have bx1c1 := bx1.2.2
  go_wp2_with fail
  clear bx1c0 bx1c1
  refine (heldBytesResult_any p _ zs.length _ _ _ 1 w23 u1'.1 (by omega) (by omega)).mono ?_
  rintro e w24 ⟨rfl, hk24⟩
  have hz24 := hk24.size
  replace h0 := h0.keep hk24 (by omega)
  replace h1 := h1.keep hk24 (by omega)
  replace hkt := hkt.keep hk24 (by omega)
  replace u0 := u0.keep hk24 (by omega)
  replace bx0 := bx0.keep hk24 (by omega)
  replace bx1 := bx1.keep hk24 (by omega)
  replace y0 := y0.keep hk24 (by omega)
  replace y1 := y1.keep hk24 (by omega)
  replace u1' := u1'.keep hk24 (by omega)
  replace u2 := u2.keep hk24 (by omega)
  replace bx2 := bx2.keep hk24 (by omega)
  replace bb := bb.trans (hk24.below (by omega) bb.size)
  clear hk24
  have hn3 : ¬ (1 + (zs.length : Int)) < 0 := by omega
  go_wp2_with fail
  go_ret
  exact ⟨rfl, bb⟩

end Go.Proofs.YtiiihhfdgogmjaaDoor
