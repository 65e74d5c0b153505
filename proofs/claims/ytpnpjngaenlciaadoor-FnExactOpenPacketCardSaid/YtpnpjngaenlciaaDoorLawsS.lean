/-
  The walks of chapter 3's exact laws.
-/
import Derived.Test.YtpnpjngaenlciaaDoorPR
import Derived.Test.YtpnpjngaenlciaaDoorS4f
namespace Go.Proofs.YtpnpjngaenlciaaDoor
open Go.RowKit
set_option linter.unusedVariables false
set_option maxRecDepth 100000

theorem ans_le (c : Int) (zs : List Int) (m : Nat) (h : c = 0 → zs.length ≤ m) : (ansOf c zs).length ≤ m := by
  unfold ansOf; split
  · exact h (by assumption)
  · exact Nat.zero_le _
theorem hide_le (nk nh n : Nat) (ks hs xs : List Int) (h : xs.length = n) : (ansOf (hideCode nk nh n) (hideL ks hs xs)).length ≤ 16777216 :=
  ans_le _ _ _ fun hc => by
    rw [hideL_len, h]
    unfold hideCode at hc
    split at hc
    · omega
    · split at hc <;> omega
theorem tag_le (c : Int) (ks xs : List Int) : (ansOf c (tagL ks xs)).length ≤ 16777216 :=
  ans_le _ _ _ fun _ => by rw [tagL_len]; omega
theorem seal_le (nk n : Nat) (sd sq : Int) (ks xs : List Int) (h : xs.length = n) : (ansOf (sealCode nk n sd sq) (sealL ks sd sq xs)).length ≤ 16777216 :=
  ans_le _ _ _ fun hc => by
    rw [sealL_len, h]
    unfold sealCode at hc
    split at hc
    · omega
    · split at hc <;> omega
theorem open_le (c : Int) (n : Nat) (ks xs : List Int) (h : xs.length = n) (hn : n ≤ 1048576) : (ansOf c (openL ks xs)).length ≤ 16777216 :=
  ans_le _ _ _ fun _ => by unfold openL; rw [hideL_len]; unfold part; rw [List.length_take, List.length_drop, h]; omega

set_option maxHeartbeats 2000000 in
theorem exactHideBytes (A0 : Option Addr) (n0 c0 : Nat) (A1 : Option Addr) (n1 c1 : Nat) (A2 : Option Addr) (n2 c2 : Nat) (xs0 xs1 xs2 : List Int) (w : World) (h0 : Rd w 0 w.heap.size A0 n0 xs0) (h1 : Rd w 0 w.heap.size A1 n1 xs1) (h2 : Rd w 0 w.heap.size A2 n2 xs2) (hkt : Kt w) :
    Calls Tryd.prog 4 #[.slice A0 n0 c0, .slice A1 n1 c1, .slice A2 n2 c2] w fun e w' => e = .returned (.bool true) ∧ Below w.heap.size w w' := by
  have hg0 := hkt.1
  have hint0 := h0.int
  have hint1 := h1.int
  have hint2 := h2.int
  by_cases hn0 : 1048576 < n0
  · go_enter Tryd.func4, Tryd.ntmps4
    go_wp2_with fail
    go_ret
    exact ⟨rfl, Below.refl _ _⟩
  by_cases hn1 : 1048576 < n1
  · go_enter Tryd.func4, Tryd.ntmps4
    go_wp2_with fail
    go_ret
    exact ⟨rfl, Below.refl _ _⟩
  by_cases hn2 : 1048576 < n2
  · go_enter Tryd.func4, Tryd.ntmps4
    go_wp2_with fail
    go_ret
    exact ⟨rfl, Below.refl _ _⟩
  obtain ⟨p, hp⟩ : ∃ p, hideCode n0 n1 n2 = p := ⟨_, rfl⟩
  obtain ⟨zs, hz⟩ : ∃ zs, ansOf (hideCode n0 n1 n2) (hideL xs0 xs1 xs2) = zs := ⟨_, rfl⟩
  have hl3 : zs.length ≤ 16777216 := hz ▸ hide_le n0 n1 n2 xs0 xs1 xs2 h2.len
  have HP := Lib.hid hp
  have HZ := Lib.hid hz
  clear hp hz
  go_enter Tryd.func4, Tryd.ntmps4
  have bb := Below.refl w.heap.size w
  go_wp2_with fail
  refine (toByteS_any A0 n0 c0 _ _ xs0 w h0 (by omega)).mono ?_
  rintro e w1 ⟨t0, rfl, r0, hb1⟩
  have hk1 := Keep.of_below hb1 0 0
  have hz1 := hb1.size
  replace h0 := h0.keep hk1 (by omega)
  replace h1 := h1.keep hk1 (by omega)
  replace h2 := h2.keep hk1 (by omega)
  replace hkt := hkt.keep hk1 (by omega)
  replace bb := bb.trans (hk1.below (by omega) bb.size)
  clear hb1 hk1
  go_wp2_with fail
  refine (toByteS_any A1 n1 c1 _ _ xs1 w1 h1 (by omega)).mono ?_
  rintro e w2 ⟨t1, rfl, r1, hb2⟩
  have hk2 := Keep.of_below hb2 0 0
  have hz2 := hb2.size
  replace h0 := h0.keep hk2 (by omega)
  replace h1 := h1.keep hk2 (by omega)
  replace h2 := h2.keep hk2 (by omega)
  replace hkt := hkt.keep hk2 (by omega)
  replace r0 := r0.keep hk2 (by omega)
  replace bb := bb.trans (hk2.below (by omega) bb.size)
  clear hb2 hk2
  go_wp2_with fail
  refine (toByteS_any A2 n2 c2 _ _ xs2 w2 h2 (by omega)).mono ?_
  rintro e w3 ⟨t2, rfl, r2, hb3⟩
  have hk3 := Keep.of_below hb3 0 0
  have hz3 := hb3.size
  replace h0 := h0.keep hk3 (by omega)
  replace h1 := h1.keep hk3 (by omega)
  replace h2 := h2.keep hk3 (by omega)
  replace hkt := hkt.keep hk3 (by omega)
  replace r0 := r0.keep hk3 (by omega)
  replace r1 := r1.keep hk3 (by omega)
  replace bb := bb.trans (hk3.below (by omega) bb.size)
  clear hb3 hk3
  go_wp2_with fail
  refine (bans_at (specHide_any _ _ _ n0 n0 n1 n1 n2 n2 _ _ _ xs0 xs1 xs2 w3 r0.rd0 r1.rd0 r2.rd0 (fun h => by cases h)) HP.out HZ.out).mono ?_
  rintro e w4 ⟨G, cap, rfl, _, u0, hb4⟩
  have hk4 := Keep.of_below hb4 0 0
  have hz4 := hb4.size
  replace h0 := h0.keep hk4 (by omega)
  replace h1 := h1.keep hk4 (by omega)
  replace h2 := h2.keep hk4 (by omega)
  replace hkt := hkt.keep hk4 (by omega)
  replace r0 := r0.keep hk4 (by omega)
  replace r1 := r1.keep hk4 (by omega)
  replace r2 := r2.keep hk4 (by omega)
  replace bb := bb.trans (hk4.below (by omega) bb.size)
  clear hb4 hk4
  clear r0
  clear r1
  clear r2
  go_wp2_with fail
  have hk5 := (Keep.refl 0 0 w4).alloc (.cells #[.int .i64 p, .slice G zs.length cap] 27)
  have bx0 := Box2.new w4 (.int .i64 p) (.slice G zs.length cap) 27
  have hz5 : w4.heap.size + 1 ≤ (w4.alloc (.cells #[.int .i64 p, .slice G zs.length cap] 27)).heap.size := by simp
  replace h0 := h0.keep hk5 (by omega)
  replace h1 := h1.keep hk5 (by omega)
  replace h2 := h2.keep hk5 (by omega)
  replace hkt := hkt.keep hk5 (by omega)
  replace u0 := u0.keep hk5 (by omega)
  replace bb := bb.trans (hk5.below (by omega) bb.size)
  clear hk5
  generalize w4.alloc (.cells #[.int .i64 p, .slice G zs.length cap] 27) = w5 at *
  refine (toByteS_any A0 n0 c0 _ _ xs0 w5 h0 (by omega)).mono ?_
  rintro e w6 ⟨t0, rfl, x0, hb6⟩
  have hk6 := Keep.of_below hb6 0 0
  have hz6 := hb6.size
  replace h0 := h0.keep hk6 (by omega)
  replace h1 := h1.keep hk6 (by omega)
  replace h2 := h2.keep hk6 (by omega)
  replace hkt := hkt.keep hk6 (by omega)
  replace u0 := u0.keep hk6 (by omega)
  replace bx0 := bx0.keep hk6 (by omega)
  replace bb := bb.trans (hk6.below (by omega) bb.size)
  clear hb6 hk6
  go_wp2_with fail
  refine (toByteS_any A1 n1 c1 _ _ xs1 w6 h1 (by omega)).mono ?_
  rintro e w7 ⟨t1, rfl, x1, hb7⟩
  have hk7 := Keep.of_below hb7 0 0
  have hz7 := hb7.size
  replace h0 := h0.keep hk7 (by omega)
  replace h1 := h1.keep hk7 (by omega)
  replace h2 := h2.keep hk7 (by omega)
  replace hkt := hkt.keep hk7 (by omega)
  replace u0 := u0.keep hk7 (by omega)
  replace bx0 := bx0.keep hk7 (by omega)
  replace x0 := x0.keep hk7 (by omega)
  replace bb := bb.trans (hk7.below (by omega) bb.size)
  clear hb7 hk7
  go_wp2_with fail
  refine (toByteS_any A2 n2 c2 _ _ xs2 w7 h2 (by omega)).mono ?_
  rintro e w8 ⟨t2, rfl, x2, hb8⟩
  have hk8 := Keep.of_below hb8 0 0
  have hz8 := hb8.size
  replace h0 := h0.keep hk8 (by omega)
  replace h1 := h1.keep hk8 (by omega)
  replace h2 := h2.keep hk8 (by omega)
  replace hkt := hkt.keep hk8 (by omega)
  replace u0 := u0.keep hk8 (by omega)
  replace bx0 := bx0.keep hk8 (by omega)
  replace x0 := x0.keep hk8 (by omega)
  replace x1 := x1.keep hk8 (by omega)
  replace bb := bb.trans (hk8.below (by omega) bb.size)
  clear hb8 hk8
  go_wp2_with fail
  refine (bans_at (implHide_any _ _ _ n0 n0 n1 n1 n2 n2 _ _ _ xs0 xs1 xs2 w8 x0.rd0 x1.rd0 x2.rd0 (fun h => by cases h) hkt) HP.out HZ.out).mono ?_
  rintro e w9 ⟨G1, cap1, rfl, _, u1, hb9⟩
  have hk9 := Keep.of_below hb9 0 0
  have hz9 := hb9.size
  replace h0 := h0.keep hk9 (by omega)
  replace h1 := h1.keep hk9 (by omega)
  replace h2 := h2.keep hk9 (by omega)
  replace hkt := hkt.keep hk9 (by omega)
  replace u0 := u0.keep hk9 (by omega)
  replace bx0 := bx0.keep hk9 (by omega)
  replace x0 := x0.keep hk9 (by omega)
  replace x1 := x1.keep hk9 (by omega)
  replace x2 := x2.keep hk9 (by omega)
  replace bb := bb.trans (hk9.below (by omega) bb.size)
  clear hb9 hk9
  have bx0lt := bx0.1
  have bx0c0 := bx0.2.1
  have bx0c1 := bx0.2.2
  go_wp2_with fail
  clear bx0lt bx0c0 bx0c1
  have hk10 := (Keep.refl 0 0 w9).alloc (.cells #[.int .i64 p, .slice G1 zs.length cap1] 27)
  have bx1 := Box2.new w9 (.int .i64 p) (.slice G1 zs.length cap1) 27
  have hz10 : w9.heap.size + 1 ≤ (w9.alloc (.cells #[.int .i64 p, .slice G1 zs.length cap1] 27)).heap.size := by simp
  replace h0 := h0.keep hk10 (by omega)
  replace h1 := h1.keep hk10 (by omega)
  replace h2 := h2.keep hk10 (by omega)
  replace hkt := hkt.keep hk10 (by omega)
  replace u0 := u0.keep hk10 (by omega)
  replace bx0 := bx0.keep hk10 (by omega)
  replace x0 := x0.keep hk10 (by omega)
  replace x1 := x1.keep hk10 (by omega)
  replace x2 := x2.keep hk10 (by omega)
  replace u1 := u1.keep hk10 (by omega)
  replace bb := bb.trans (hk10.below (by omega) bb.size)
  clear hk10
  generalize w9.alloc (.cells #[.int .i64 p, .slice G1 zs.length cap1] 27) = w10 at *
  refine (eqBytesResult_true p _ _ zs.length _ _ _ _ _ _ zs w10 u1.1 u0.1).mono ?_
  rintro e w11 ⟨rfl, hk11⟩
  have hz11 := hk11.size
  replace h0 := h0.keep hk11 (by omega)
  replace h1 := h1.keep hk11 (by omega)
  replace h2 := h2.keep hk11 (by omega)
  replace hkt := hkt.keep hk11 (by omega)
  replace u0 := u0.keep hk11 (by omega)
  replace bx0 := bx0.keep hk11 (by omega)
  replace x0 := x0.keep hk11 (by omega)
  replace x1 := x1.keep hk11 (by omega)
  replace x2 := x2.keep hk11 (by omega)
  replace u1 := u1.keep hk11 (by omega)
  replace bx1 := bx1.keep hk11 (by omega)
  replace bb := bb.trans (hk11.below (by omega) bb.size)
  clear hk11
  go_wp2_with fail
  refine (toByteS_any A0 n0 c0 _ _ xs0 w11 h0 (by omega)).mono ?_
  rintro e w12 ⟨t0, rfl, r0, hb12⟩
  have hk12 := Keep.of_below hb12 0 0
  have hz12 := hb12.size
  replace h0 := h0.keep hk12 (by omega)
  replace h1 := h1.keep hk12 (by omega)
  replace h2 := h2.keep hk12 (by omega)
  replace hkt := hkt.keep hk12 (by omega)
  replace u0 := u0.keep hk12 (by omega)
  replace bx0 := bx0.keep hk12 (by omega)
  replace x0 := x0.keep hk12 (by omega)
  replace x1 := x1.keep hk12 (by omega)
  replace x2 := x2.keep hk12 (by omega)
  replace u1 := u1.keep hk12 (by omega)
  replace bx1 := bx1.keep hk12 (by omega)
  replace bb := bb.trans (hk12.below (by omega) bb.size)
  clear hb12 hk12
  go_wp2_with fail
  refine (eqByteS_true _ _ n0 n0 n0 _ _ _ _ xs0 w12 x0.1 r0.1).mono ?_
  rintro e w13 ⟨rfl, q13, hq13⟩
  have hk13 : Keep 0 0 w12 w13 := by rw [hq13]; exact (Keep.refl 0 0 _).drewN _
  clear hq13
  have hz13 := hk13.size
  replace h0 := h0.keep hk13 (by omega)
  replace h1 := h1.keep hk13 (by omega)
  replace h2 := h2.keep hk13 (by omega)
  replace hkt := hkt.keep hk13 (by omega)
  replace u0 := u0.keep hk13 (by omega)
  replace bx0 := bx0.keep hk13 (by omega)
  replace x0 := x0.keep hk13 (by omega)
  replace x1 := x1.keep hk13 (by omega)
  replace x2 := x2.keep hk13 (by omega)
  replace u1 := u1.keep hk13 (by omega)
  replace bx1 := bx1.keep hk13 (by omega)
  replace r0 := r0.keep hk13 (by omega)
  replace bb := bb.trans (hk13.below (by omega) bb.size)
  clear hk13
  clear r0
  go_wp2_with fail
  refine (toByteS_any A1 n1 c1 _ _ xs1 w13 h1 (by omega)).mono ?_
  rintro e w14 ⟨t1, rfl, r1, hb14⟩
  have hk14 := Keep.of_below hb14 0 0
  have hz14 := hb14.size
  replace h0 := h0.keep hk14 (by omega)
  replace h1 := h1.keep hk14 (by omega)
  replace h2 := h2.keep hk14 (by omega)
  replace hkt := hkt.keep hk14 (by omega)
  replace u0 := u0.keep hk14 (by omega)
  replace bx0 := bx0.keep hk14 (by omega)
  replace x0 := x0.keep hk14 (by omega)
  replace x1 := x1.keep hk14 (by omega)
  replace x2 := x2.keep hk14 (by omega)
  replace u1 := u1.keep hk14 (by omega)
  replace bx1 := bx1.keep hk14 (by omega)
  replace bb := bb.trans (hk14.below (by omega) bb.size)
  clear hb14 hk14
  go_wp2_with fail
  refine (eqByteS_true _ _ n1 n1 n1 _ _ _ _ xs1 w14 x1.1 r1.1).mono ?_
  rintro e w15 ⟨rfl, q15, hq15⟩
  have hk15 : Keep 0 0 w14 w15 := by rw [hq15]; exact (Keep.refl 0 0 _).drewN _
  clear hq15
  have hz15 := hk15.size
  replace h0 := h0.keep hk15 (by omega)
  replace h1 := h1.keep hk15 (by omega)
  replace h2 := h2.keep hk15 (by omega)
  replace hkt := hkt.keep hk15 (by omega)
  replace u0 := u0.keep hk15 (by omega)
  replace bx0 := bx0.keep hk15 (by omega)
  replace x0 := x0.keep hk15 (by omega)
  replace x1 := x1.keep hk15 (by omega)
  replace x2 := x2.keep hk15 (by omega)
  replace u1 := u1.keep hk15 (by omega)
  replace bx1 := bx1.keep hk15 (by omega)
  replace r1 := r1.keep hk15 (by omega)
  replace bb := bb.trans (hk15.below (by omega) bb.size)
  clear hk15
  clear r1
  go_wp2_with fail
  refine (toByteS_any A2 n2 c2 _ _ xs2 w15 h2 (by omega)).mono ?_
  rintro e w16 ⟨t2, rfl, r2, hb16⟩
  have hk16 := Keep.of_below hb16 0 0
  have hz16 := hb16.size
  replace h0 := h0.keep hk16 (by omega)
  replace h1 := h1.keep hk16 (by omega)
  replace h2 := h2.keep hk16 (by omega)
  replace hkt := hkt.keep hk16 (by omega)
  replace u0 := u0.keep hk16 (by omega)
  replace bx0 := bx0.keep hk16 (by omega)
  replace x0 := x0.keep hk16 (by omega)
  replace x1 := x1.keep hk16 (by omega)
  replace x2 := x2.keep hk16 (by omega)
  replace u1 := u1.keep hk16 (by omega)
  replace bx1 := bx1.keep hk16 (by omega)
  replace bb := bb.trans (hk16.below (by omega) bb.size)
  clear hb16 hk16
  go_wp2_with fail
  refine (eqByteS_true _ _ n2 n2 n2 _ _ _ _ xs2 w16 x2.1 r2.1).mono ?_
  rintro e w17 ⟨rfl, q17, hq17⟩
  have hk17 : Keep 0 0 w16 w17 := by rw [hq17]; exact (Keep.refl 0 0 _).drewN _
  clear hq17
  have hz17 := hk17.size
  replace h0 := h0.keep hk17 (by omega)
  replace h1 := h1.keep hk17 (by omega)
  replace h2 := h2.keep hk17 (by omega)
  replace hkt := hkt.keep hk17 (by omega)
  replace u0 := u0.keep hk17 (by omega)
  replace bx0 := bx0.keep hk17 (by omega)
  replace x0 := x0.keep hk17 (by omega)
  replace x1 := x1.keep hk17 (by omega)
  replace x2 := x2.keep hk17 (by omega)
  replace u1 := u1.keep hk17 (by omega)
  replace bx1 := bx1.keep hk17 (by omega)
  replace r2 := r2.keep hk17 (by omega)
  replace bb := bb.trans (hk17.below (by omega) bb.size)
  clear hk17
  clear r2
  go_wp2_with fail
  refine (markByteS_any _ n0 n0 _ _ (1) xs0 w17 x0 (by omega) (by omega)).mono ?_
  rintro e w18 ⟨rfl, y0, hk18⟩
  have hz18 := hk18.size
  replace h0 := h0.keep hk18 (by omega)
  replace h1 := h1.keep hk18 (by omega)
  replace h2 := h2.keep hk18 (by omega)
  replace hkt := hkt.keep hk18 (by omega)
  replace u0 := u0.keep hk18 (by omega)
  replace bx0 := bx0.keep hk18 (by omega)
  replace x1 := x1.keep hk18 (by omega)
  replace x2 := x2.keep hk18 (by omega)
  replace u1 := u1.keep hk18 (by omega)
  replace bx1 := bx1.keep hk18 (by omega)
  replace bb := bb.trans (hk18.below (by omega) bb.size)
  clear hk18
  clear x0
  go_wp2_with fail
  refine (markByteS_any _ n1 n1 _ _ (1 + (n0 : Int)) xs1 w18 x1 (by omega) (by omega)).mono ?_
  rintro e w19 ⟨rfl, y1, hk19⟩
  have hz19 := hk19.size
  replace h0 := h0.keep hk19 (by omega)
  replace h1 := h1.keep hk19 (by omega)
  replace h2 := h2.keep hk19 (by omega)
  replace hkt := hkt.keep hk19 (by omega)
  replace u0 := u0.keep hk19 (by omega)
  replace bx0 := bx0.keep hk19 (by omega)
  replace x2 := x2.keep hk19 (by omega)
  replace u1 := u1.keep hk19 (by omega)
  replace bx1 := bx1.keep hk19 (by omega)
  replace y0 := y0.keep hk19 (by omega)
  replace bb := bb.trans (hk19.below (by omega) bb.size)
  clear hk19
  clear x1
  go_wp2_with fail
  refine (markByteS_any _ n2 n2 _ _ (1 + (n0 : Int) + (n1 : Int)) xs2 w19 x2 (by omega) (by omega)).mono ?_
  rintro e w20 ⟨rfl, y2, hk20⟩
  have hz20 := hk20.size
  replace h0 := h0.keep hk20 (by omega)
  replace h1 := h1.keep hk20 (by omega)
  replace h2 := h2.keep hk20 (by omega)
  replace hkt := hkt.keep hk20 (by omega)
  replace u0 := u0.keep hk20 (by omega)
  replace bx0 := bx0.keep hk20 (by omega)
  replace u1 := u1.keep hk20 (by omega)
  replace bx1 := bx1.keep hk20 (by omega)
  replace y0 := y0.keep hk20 (by omega)
  replace y1 := y1.keep hk20 (by omega)
  replace bb := bb.trans (hk20.below (by omega) bb.size)
  clear hk20
  clear x2
  have hn1 : ¬ (1 + (n0 : Int) + (n1 : Int) + (n2 : Int)) < 0 := by omega
  have bx0c0 := bx0.2.1
  have bx0c1 := bx0.2.2
  have bx1c0 := bx1.2.1
  have bx1c1 := bx1.2.2
  go_wp2_with fail
  clear bx0c0 bx0c1
  clear bx1c0 bx1c1
  clear hn1
  refine (eqBytesResult_true p _ _ zs.length _ _ _ _ _ _ zs w20 u1.1 u0.1).mono ?_
  rintro e w21 ⟨rfl, hk21⟩
  have hz21 := hk21.size
  replace h0 := h0.keep hk21 (by omega)
  replace h1 := h1.keep hk21 (by omega)
  replace h2 := h2.keep hk21 (by omega)
  replace hkt := hkt.keep hk21 (by omega)
  replace u0 := u0.keep hk21 (by omega)
  replace bx0 := bx0.keep hk21 (by omega)
  replace u1 := u1.keep hk21 (by omega)
  replace bx1 := bx1.keep hk21 (by omega)
  replace y0 := y0.keep hk21 (by omega)
  replace y1 := y1.keep hk21 (by omega)
  replace y2 := y2.keep hk21 (by omega)
  replace bb := bb.trans (hk21.below (by omega) bb.size)
  clear hk21
  have bx1c0 := bx1.2.1
  have bx1c1 := bx1.2.2
  go_wp2_with fail
  clear bx1c0 bx1c1
  refine (markBytesResult_any p _ zs.length _ _ _ 1 zs w21 u1 (by omega) (by omega)).mono ?_
  rintro e w22 ⟨rfl, u1', hk22⟩
  have hz22 := hk22.size
  replace h0 := h0.keep hk22 (by omega)
  replace h1 := h1.keep hk22 (by omega)
  replace h2 := h2.keep hk22 (by omega)
  replace hkt := hkt.keep hk22 (by omega)
  replace u0 := u0.keep hk22 (by omega)
  replace bx0 := bx0.keep hk22 (by omega)
  replace bx1 := bx1.keep hk22 (by omega)
  replace y0 := y0.keep hk22 (by omega)
  replace y1 := y1.keep hk22 (by omega)
  replace y2 := y2.keep hk22 (by omega)
  replace bb := bb.trans (hk22.below (by omega) bb.size)
  clear hk22
  clear u1
  have bx1c0 := bx1.2.1
  have bx1c1 := bx1.2.2
  go_wp2_with fail
  clear bx1c0 bx1c1
  refine (heldBytesResult_any p _ zs.length _ _ _ 1 w22 u1'.1 (by omega) (by omega)).mono ?_
  rintro e w23 ⟨rfl, hk23⟩
  have hz23 := hk23.size
  replace h0 := h0.keep hk23 (by omega)
  replace h1 := h1.keep hk23 (by omega)
  replace h2 := h2.keep hk23 (by omega)
  replace hkt := hkt.keep hk23 (by omega)
  replace u0 := u0.keep hk23 (by omega)
  replace bx0 := bx0.keep hk23 (by omega)
  replace bx1 := bx1.keep hk23 (by omega)
  replace y0 := y0.keep hk23 (by omega)
  replace y1 := y1.keep hk23 (by omega)
  replace y2 := y2.keep hk23 (by omega)
  replace u1' := u1'.keep hk23 (by omega)
  replace bb := bb.trans (hk23.below (by omega) bb.size)
  clear hk23
  have hn2 : ¬ (1 + (zs.length : Int)) < 0 := by omega
  go_wp2_with fail
  refine (toByteS_any A0 n0 c0 _ _ xs0 w23 h0 (by omega)).mono ?_
  rintro e w24 ⟨t0, rfl, r0, hb24⟩
  have hk24 := Keep.of_below hb24 0 0
  have hz24 := hb24.size
  replace h0 := h0.keep hk24 (by omega)
  replace h1 := h1.keep hk24 (by omega)
  replace h2 := h2.keep hk24 (by omega)
  replace hkt := hkt.keep hk24 (by omega)
  replace u0 := u0.keep hk24 (by omega)
  replace bx0 := bx0.keep hk24 (by omega)
  replace bx1 := bx1.keep hk24 (by omega)
  replace y0 := y0.keep hk24 (by omega)
  replace y1 := y1.keep hk24 (by omega)
  replace y2 := y2.keep hk24 (by omega)
  replace u1' := u1'.keep hk24 (by omega)
  replace bb := bb.trans (hk24.below (by omega) bb.size)
  clear hb24 hk24
  go_wp2_with fail
  refine (toByteS_any A1 n1 c1 _ _ xs1 w24 h1 (by omega)).mono ?_
  rintro e w25 ⟨t1, rfl, r1, hb25⟩
  have hk25 := Keep.of_below hb25 0 0
  have hz25 := hb25.size
  replace h0 := h0.keep hk25 (by omega)
  replace h1 := h1.keep hk25 (by omega)
  replace h2 := h2.keep hk25 (by omega)
  replace hkt := hkt.keep hk25 (by omega)
  replace u0 := u0.keep hk25 (by omega)
  replace bx0 := bx0.keep hk25 (by omega)
  replace bx1 := bx1.keep hk25 (by omega)
  replace y0 := y0.keep hk25 (by omega)
  replace y1 := y1.keep hk25 (by omega)
  replace y2 := y2.keep hk25 (by omega)
  replace u1' := u1'.keep hk25 (by omega)
  replace r0 := r0.keep hk25 (by omega)
  replace bb := bb.trans (hk25.below (by omega) bb.size)
  clear hb25 hk25
  go_wp2_with fail
  refine (toByteS_any A2 n2 c2 _ _ xs2 w25 h2 (by omega)).mono ?_
  rintro e w26 ⟨t2, rfl, r2, hb26⟩
  have hk26 := Keep.of_below hb26 0 0
  have hz26 := hb26.size
  replace h0 := h0.keep hk26 (by omega)
  replace h1 := h1.keep hk26 (by omega)
  replace h2 := h2.keep hk26 (by omega)
  replace hkt := hkt.keep hk26 (by omega)
  replace u0 := u0.keep hk26 (by omega)
  replace bx0 := bx0.keep hk26 (by omega)
  replace bx1 := bx1.keep hk26 (by omega)
  replace y0 := y0.keep hk26 (by omega)
  replace y1 := y1.keep hk26 (by omega)
  replace y2 := y2.keep hk26 (by omega)
  replace u1' := u1'.keep hk26 (by omega)
  replace r0 := r0.keep hk26 (by omega)
  replace r1 := r1.keep hk26 (by omega)
  replace bb := bb.trans (hk26.below (by omega) bb.size)
  clear hb26 hk26
  go_wp2_with fail
  refine (bans_at (implHide_any _ _ _ n0 n0 n1 n1 n2 n2 _ _ _ xs0 xs1 xs2 w26 r0.rd0 r1.rd0 r2.rd0 (fun h => by cases h) hkt) HP.out HZ.out).mono ?_
  rintro e w27 ⟨G2, cap2, rfl, _, u2, hb27⟩
  have hk27 := Keep.of_below hb27 0 0
  have hz27 := hb27.size
  replace h0 := h0.keep hk27 (by omega)
  replace h1 := h1.keep hk27 (by omega)
  replace h2 := h2.keep hk27 (by omega)
  replace hkt := hkt.keep hk27 (by omega)
  replace u0 := u0.keep hk27 (by omega)
  replace bx0 := bx0.keep hk27 (by omega)
  replace bx1 := bx1.keep hk27 (by omega)
  replace y0 := y0.keep hk27 (by omega)
  replace y1 := y1.keep hk27 (by omega)
  replace y2 := y2.keep hk27 (by omega)
  replace u1' := u1'.keep hk27 (by omega)
  replace r0 := r0.keep hk27 (by omega)
  replace r1 := r1.keep hk27 (by omega)
  replace r2 := r2.keep hk27 (by omega)
  replace bb := bb.trans (hk27.below (by omega) bb.size)
  clear hb27 hk27
  clear r0
  clear r1
  clear r2
  have bx0lt := bx0.1
  have bx0c0 := bx0.2.1
  have bx0c1 := bx0.2.2
  go_wp2_with fail
  clear bx0lt bx0c0 bx0c1
  have hk28 := (Keep.refl 0 0 w27).alloc (.cells #[.int .i64 p, .slice G2 zs.length cap2] 27)
  have bx2 := Box2.new w27 (.int .i64 p) (.slice G2 zs.length cap2) 27
  have hz28 : w27.heap.size + 1 ≤ (w27.alloc (.cells #[.int .i64 p, .slice G2 zs.length cap2] 27)).heap.size := by simp
  replace h0 := h0.keep hk28 (by omega)
  replace h1 := h1.keep hk28 (by omega)
  replace h2 := h2.keep hk28 (by omega)
  replace hkt := hkt.keep hk28 (by omega)
  replace u0 := u0.keep hk28 (by omega)
  replace bx0 := bx0.keep hk28 (by omega)
  replace bx1 := bx1.keep hk28 (by omega)
  replace y0 := y0.keep hk28 (by omega)
  replace y1 := y1.keep hk28 (by omega)
  replace y2 := y2.keep hk28 (by omega)
  replace u1' := u1'.keep hk28 (by omega)
  replace u2 := u2.keep hk28 (by omega)
  replace bb := bb.trans (hk28.below (by omega) bb.size)
  clear hk28
  generalize w27.alloc (.cells #[.int .i64 p, .slice G2 zs.length cap2] 27) = w28 at *
  refine (eqBytesResult_true p _ _ zs.length _ _ _ _ _ _ zs w28 u2.1 u0.1).mono ?_
  rintro e w29 ⟨rfl, hk29⟩
  have hz29 := hk29.size
  replace h0 := h0.keep hk29 (by omega)
  replace h1 := h1.keep hk29 (by omega)
  replace h2 := h2.keep hk29 (by omega)
  replace hkt := hkt.keep hk29 (by omega)
  replace u0 := u0.keep hk29 (by omega)
  replace bx0 := bx0.keep hk29 (by omega)
  replace bx1 := bx1.keep hk29 (by omega)
  replace y0 := y0.keep hk29 (by omega)
  replace y1 := y1.keep hk29 (by omega)
  replace y2 := y2.keep hk29 (by omega)
  replace u1' := u1'.keep hk29 (by omega)
  replace u2 := u2.keep hk29 (by omega)
  replace bx2 := bx2.keep hk29 (by omega)
  replace bb := bb.trans (hk29.below (by omega) bb.size)
  clear hk29
  have bx1c0 := bx1.2.1
  have bx1c1 := bx1.2.2
  go_wp2_with fail
  clear bx1c0 bx1c1
  refine (heldBytesResult_any p _ zs.length _ _ _ 1 w29 u1'.1 (by omega) (by omega)).mono ?_
  rintro e w30 ⟨rfl, hk30⟩
  have hz30 := hk30.size
  replace h0 := h0.keep hk30 (by omega)
  replace h1 := h1.keep hk30 (by omega)
  replace h2 := h2.keep hk30 (by omega)
  replace hkt := hkt.keep hk30 (by omega)
  replace u0 := u0.keep hk30 (by omega)
  replace bx0 := bx0.keep hk30 (by omega)
  replace bx1 := bx1.keep hk30 (by omega)
  replace y0 := y0.keep hk30 (by omega)
  replace y1 := y1.keep hk30 (by omega)
  replace y2 := y2.keep hk30 (by omega)
  replace u1' := u1'.keep hk30 (by omega)
  replace u2 := u2.keep hk30 (by omega)
  replace bx2 := bx2.keep hk30 (by omega)
  replace bb := bb.trans (hk30.below (by omega) bb.size)
  clear hk30
  have hn3 : ¬ (1 + (zs.length : Int)) < 0 := by omega
  go_wp2_with fail
  go_ret
  exact ⟨rfl, bb⟩

set_option maxHeartbeats 2000000 in
theorem exactTagOf (A0 : Option Addr) (n0 c0 : Nat) (A1 : Option Addr) (n1 c1 : Nat) (xs0 xs1 : List Int) (w : World) (h0 : Rd w 0 w.heap.size A0 n0 xs0) (h1 : Rd w 0 w.heap.size A1 n1 xs1) (hkt : Kt w) :
    Calls Tryd.prog 5 #[.slice A0 n0 c0, .slice A1 n1 c1] w fun e w' => e = .returned (.bool true) ∧ Below w.heap.size w w' := by
  have hg0 := hkt.1
  have hint0 := h0.int
  have hint1 := h1.int
  by_cases hn0 : 1048576 < n0
  · go_enter Tryd.func5, Tryd.ntmps5
    go_wp2_with fail
    go_ret
    exact ⟨rfl, Below.refl _ _⟩
  by_cases hn1 : 1048576 < n1
  · go_enter Tryd.func5, Tryd.ntmps5
    go_wp2_with fail
    go_ret
    exact ⟨rfl, Below.refl _ _⟩
  obtain ⟨p, hp⟩ : ∃ p, tagCode n0 n1 = p := ⟨_, rfl⟩
  obtain ⟨zs, hz⟩ : ∃ zs, ansOf (tagCode n0 n1) (tagL xs0 xs1) = zs := ⟨_, rfl⟩
  have hl3 : zs.length ≤ 16777216 := hz ▸ tag_le _ xs0 xs1
  have HP := Lib.hid hp
  have HZ := Lib.hid hz
  clear hp hz
  go_enter Tryd.func5, Tryd.ntmps5
  have bb := Below.refl w.heap.size w
  go_wp2_with fail
  refine (toByteS_any A0 n0 c0 _ _ xs0 w h0 (by omega)).mono ?_
  rintro e w1 ⟨t0, rfl, r0, hb1⟩
  have hk1 := Keep.of_below hb1 0 0
  have hz1 := hb1.size
  replace h0 := h0.keep hk1 (by omega)
  replace h1 := h1.keep hk1 (by omega)
  replace hkt := hkt.keep hk1 (by omega)
  replace bb := bb.trans (hk1.below (by omega) bb.size)
  clear hb1 hk1
  go_wp2_with fail
  refine (toByteS_any A1 n1 c1 _ _ xs1 w1 h1 (by omega)).mono ?_
  rintro e w2 ⟨t1, rfl, r1, hb2⟩
  have hk2 := Keep.of_below hb2 0 0
  have hz2 := hb2.size
  replace h0 := h0.keep hk2 (by omega)
  replace h1 := h1.keep hk2 (by omega)
  replace hkt := hkt.keep hk2 (by omega)
  replace r0 := r0.keep hk2 (by omega)
  replace bb := bb.trans (hk2.below (by omega) bb.size)
  clear hb2 hk2
  go_wp2_with fail
  refine (bans_at (specTag_any _ _ n0 n0 n1 n1 _ _ xs0 xs1 w2 r0.rd0 r1.rd0 (fun h => by cases h)) HP.out HZ.out).mono ?_
  rintro e w3 ⟨G, cap, rfl, _, u0, hb3⟩
  have hk3 := Keep.of_below hb3 0 0
  have hz3 := hb3.size
  replace h0 := h0.keep hk3 (by omega)
  replace h1 := h1.keep hk3 (by omega)
  replace hkt := hkt.keep hk3 (by omega)
  replace r0 := r0.keep hk3 (by omega)
  replace r1 := r1.keep hk3 (by omega)
  replace bb := bb.trans (hk3.below (by omega) bb.size)
  clear hb3 hk3
  clear r0
  clear r1
  go_wp2_with fail
  have hk4 := (Keep.refl 0 0 w3).alloc (.cells #[.int .i64 p, .slice G zs.length cap] 27)
  have bx0 := Box2.new w3 (.int .i64 p) (.slice G zs.length cap) 27
  have hz4 : w3.heap.size + 1 ≤ (w3.alloc (.cells #[.int .i64 p, .slice G zs.length cap] 27)).heap.size := by simp
  replace h0 := h0.keep hk4 (by omega)
  replace h1 := h1.keep hk4 (by omega)
  replace hkt := hkt.keep hk4 (by omega)
  replace u0 := u0.keep hk4 (by omega)
  replace bb := bb.trans (hk4.below (by omega) bb.size)
  clear hk4
  generalize w3.alloc (.cells #[.int .i64 p, .slice G zs.length cap] 27) = w4 at *
  refine (toByteS_any A0 n0 c0 _ _ xs0 w4 h0 (by omega)).mono ?_
  rintro e w5 ⟨t0, rfl, x0, hb5⟩
  have hk5 := Keep.of_below hb5 0 0
  have hz5 := hb5.size
  replace h0 := h0.keep hk5 (by omega)
  replace h1 := h1.keep hk5 (by omega)
  replace hkt := hkt.keep hk5 (by omega)
  replace u0 := u0.keep hk5 (by omega)
  replace bx0 := bx0.keep hk5 (by omega)
  replace bb := bb.trans (hk5.below (by omega) bb.size)
  clear hb5 hk5
  go_wp2_with fail
  refine (toByteS_any A1 n1 c1 _ _ xs1 w5 h1 (by omega)).mono ?_
  rintro e w6 ⟨t1, rfl, x1, hb6⟩
  have hk6 := Keep.of_below hb6 0 0
  have hz6 := hb6.size
  replace h0 := h0.keep hk6 (by omega)
  replace h1 := h1.keep hk6 (by omega)
  replace hkt := hkt.keep hk6 (by omega)
  replace u0 := u0.keep hk6 (by omega)
  replace bx0 := bx0.keep hk6 (by omega)
  replace x0 := x0.keep hk6 (by omega)
  replace bb := bb.trans (hk6.below (by omega) bb.size)
  clear hb6 hk6
  go_wp2_with fail
  refine (bans_at (implTag_any _ _ n0 n0 n1 n1 _ _ xs0 xs1 w6 x0.rd0 x1.rd0 (fun h => by cases h) hkt) HP.out HZ.out).mono ?_
  rintro e w7 ⟨G1, cap1, rfl, _, u1, hb7⟩
  have hk7 := Keep.of_below hb7 0 0
  have hz7 := hb7.size
  replace h0 := h0.keep hk7 (by omega)
  replace h1 := h1.keep hk7 (by omega)
  replace hkt := hkt.keep hk7 (by omega)
  replace u0 := u0.keep hk7 (by omega)
  replace bx0 := bx0.keep hk7 (by omega)
  replace x0 := x0.keep hk7 (by omega)
  replace x1 := x1.keep hk7 (by omega)
  replace bb := bb.trans (hk7.below (by omega) bb.size)
  clear hb7 hk7
  have bx0lt := bx0.1
  have bx0c0 := bx0.2.1
  have bx0c1 := bx0.2.2
  go_wp2_with fail
  clear bx0lt bx0c0 bx0c1
  have hk8 := (Keep.refl 0 0 w7).alloc (.cells #[.int .i64 p, .slice G1 zs.length cap1] 27)
  have bx1 := Box2.new w7 (.int .i64 p) (.slice G1 zs.length cap1) 27
  have hz8 : w7.heap.size + 1 ≤ (w7.alloc (.cells #[.int .i64 p, .slice G1 zs.length cap1] 27)).heap.size := by simp
  replace h0 := h0.keep hk8 (by omega)
  replace h1 := h1.keep hk8 (by omega)
  replace hkt := hkt.keep hk8 (by omega)
  replace u0 := u0.keep hk8 (by omega)
  replace bx0 := bx0.keep hk8 (by omega)
  replace x0 := x0.keep hk8 (by omega)
  replace x1 := x1.keep hk8 (by omega)
  replace u1 := u1.keep hk8 (by omega)
  replace bb := bb.trans (hk8.below (by omega) bb.size)
  clear hk8
  generalize w7.alloc (.cells #[.int .i64 p, .slice G1 zs.length cap1] 27) = w8 at *
  refine (eqBytesResult_true p _ _ zs.length _ _ _ _ _ _ zs w8 u1.1 u0.1).mono ?_
  rintro e w9 ⟨rfl, hk9⟩
  have hz9 := hk9.size
  replace h0 := h0.keep hk9 (by omega)
  replace h1 := h1.keep hk9 (by omega)
  replace hkt := hkt.keep hk9 (by omega)
  replace u0 := u0.keep hk9 (by omega)
  replace bx0 := bx0.keep hk9 (by omega)
  replace x0 := x0.keep hk9 (by omega)
  replace x1 := x1.keep hk9 (by omega)
  replace u1 := u1.keep hk9 (by omega)
  replace bx1 := bx1.keep hk9 (by omega)
  replace bb := bb.trans (hk9.below (by omega) bb.size)
  clear hk9
  go_wp2_with fail
  refine (toByteS_any A0 n0 c0 _ _ xs0 w9 h0 (by omega)).mono ?_
  rintro e w10 ⟨t0, rfl, r0, hb10⟩
  have hk10 := Keep.of_below hb10 0 0
  have hz10 := hb10.size
  replace h0 := h0.keep hk10 (by omega)
  replace h1 := h1.keep hk10 (by omega)
  replace hkt := hkt.keep hk10 (by omega)
  replace u0 := u0.keep hk10 (by omega)
  replace bx0 := bx0.keep hk10 (by omega)
  replace x0 := x0.keep hk10 (by omega)
  replace x1 := x1.keep hk10 (by omega)
  replace u1 := u1.keep hk10 (by omega)
  replace bx1 := bx1.keep hk10 (by omega)
  replace bb := bb.trans (hk10.below (by omega) bb.size)
  clear hb10 hk10
  go_wp2_with fail
  refine (eqByteS_true _ _ n0 n0 n0 _ _ _ _ xs0 w10 x0.1 r0.1).mono ?_
  rintro e w11 ⟨rfl, q11, hq11⟩
  have hk11 : Keep 0 0 w10 w11 := by rw [hq11]; exact (Keep.refl 0 0 _).drewN _
  clear hq11
  have hz11 := hk11.size
  replace h0 := h0.keep hk11 (by omega)
  replace h1 := h1.keep hk11 (by omega)
  replace hkt := hkt.keep hk11 (by omega)
  replace u0 := u0.keep hk11 (by omega)
  replace bx0 := bx0.keep hk11 (by omega)
  replace x0 := x0.keep hk11 (by omega)
  replace x1 := x1.keep hk11 (by omega)
  replace u1 := u1.keep hk11 (by omega)
  replace bx1 := bx1.keep hk11 (by omega)
  replace r0 := r0.keep hk11 (by omega)
  replace bb := bb.trans (hk11.below (by omega) bb.size)
  clear hk11
  clear r0
  go_wp2_with fail
  refine (toByteS_any A1 n1 c1 _ _ xs1 w11 h1 (by omega)).mono ?_
  rintro e w12 ⟨t1, rfl, r1, hb12⟩
  have hk12 := Keep.of_below hb12 0 0
  have hz12 := hb12.size
  replace h0 := h0.keep hk12 (by omega)
  replace h1 := h1.keep hk12 (by omega)
  replace hkt := hkt.keep hk12 (by omega)
  replace u0 := u0.keep hk12 (by omega)
  replace bx0 := bx0.keep hk12 (by omega)
  replace x0 := x0.keep hk12 (by omega)
  replace x1 := x1.keep hk12 (by omega)
  replace u1 := u1.keep hk12 (by omega)
  replace bx1 := bx1.keep hk12 (by omega)
  replace bb := bb.trans (hk12.below (by omega) bb.size)
  clear hb12 hk12
  go_wp2_with fail
  refine (eqByteS_true _ _ n1 n1 n1 _ _ _ _ xs1 w12 x1.1 r1.1).mono ?_
  rintro e w13 ⟨rfl, q13, hq13⟩
  have hk13 : Keep 0 0 w12 w13 := by rw [hq13]; exact (Keep.refl 0 0 _).drewN _
  clear hq13
  have hz13 := hk13.size
  replace h0 := h0.keep hk13 (by omega)
  replace h1 := h1.keep hk13 (by omega)
  replace hkt := hkt.keep hk13 (by omega)
  replace u0 := u0.keep hk13 (by omega)
  replace bx0 := bx0.keep hk13 (by omega)
  replace x0 := x0.keep hk13 (by omega)
  replace x1 := x1.keep hk13 (by omega)
  replace u1 := u1.keep hk13 (by omega)
  replace bx1 := bx1.keep hk13 (by omega)
  replace r1 := r1.keep hk13 (by omega)
  replace bb := bb.trans (hk13.below (by omega) bb.size)
  clear hk13
  clear r1
  go_wp2_with fail
  refine (markByteS_any _ n0 n0 _ _ (1) xs0 w13 x0 (by omega) (by omega)).mono ?_
  rintro e w14 ⟨rfl, y0, hk14⟩
  have hz14 := hk14.size
  replace h0 := h0.keep hk14 (by omega)
  replace h1 := h1.keep hk14 (by omega)
  replace hkt := hkt.keep hk14 (by omega)
  replace u0 := u0.keep hk14 (by omega)
  replace bx0 := bx0.keep hk14 (by omega)
  replace x1 := x1.keep hk14 (by omega)
  replace u1 := u1.keep hk14 (by omega)
  replace bx1 := bx1.keep hk14 (by omega)
  replace bb := bb.trans (hk14.below (by omega) bb.size)
  clear hk14
  clear x0
  go_wp2_with fail
  refine (markByteS_any _ n1 n1 _ _ (1 + (n0 : Int)) xs1 w14 x1 (by omega) (by omega)).mono ?_
  rintro e w15 ⟨rfl, y1, hk15⟩
  have hz15 := hk15.size
  replace h0 := h0.keep hk15 (by omega)
  replace h1 := h1.keep hk15 (by omega)
  replace hkt := hkt.keep hk15 (by omega)
  replace u0 := u0.keep hk15 (by omega)
  replace bx0 := bx0.keep hk15 (by omega)
  replace u1 := u1.keep hk15 (by omega)
  replace bx1 := bx1.keep hk15 (by omega)
  replace y0 := y0.keep hk15 (by omega)
  replace bb := bb.trans (hk15.below (by omega) bb.size)
  clear hk15
  clear x1
  have hn1 : ¬ (1 + (n0 : Int) + (n1 : Int)) < 0 := by omega
  have bx0c0 := bx0.2.1
  have bx0c1 := bx0.2.2
  have bx1c0 := bx1.2.1
  have bx1c1 := bx1.2.2
  go_wp2_with fail
  clear bx0c0 bx0c1
  clear bx1c0 bx1c1
  clear hn1
  refine (eqBytesResult_true p _ _ zs.length _ _ _ _ _ _ zs w15 u1.1 u0.1).mono ?_
  rintro e w16 ⟨rfl, hk16⟩
  have hz16 := hk16.size
  replace h0 := h0.keep hk16 (by omega)
  replace h1 := h1.keep hk16 (by omega)
  replace hkt := hkt.keep hk16 (by omega)
  replace u0 := u0.keep hk16 (by omega)
  replace bx0 := bx0.keep hk16 (by omega)
  replace u1 := u1.keep hk16 (by omega)
  replace bx1 := bx1.keep hk16 (by omega)
  replace y0 := y0.keep hk16 (by omega)
  replace y1 := y1.keep hk16 (by omega)
  replace bb := bb.trans (hk16.below (by omega) bb.size)
  clear hk16
  have bx1c0 := bx1.2.1
  have bx1c1 := bx1.2.2
  go_wp2_with fail
  clear bx1c0 bx1c1
  refine (markBytesResult_any p _ zs.length _ _ _ 1 zs w16 u1 (by omega) (by omega)).mono ?_
  rintro e w17 ⟨rfl, u1', hk17⟩
  have hz17 := hk17.size
  replace h0 := h0.keep hk17 (by omega)
  replace h1 := h1.keep hk17 (by omega)
  replace hkt := hkt.keep hk17 (by omega)
  replace u0 := u0.keep hk17 (by omega)
  replace bx0 := bx0.keep hk17 (by omega)
  replace bx1 := bx1.keep hk17 (by omega)
  replace y0 := y0.keep hk17 (by omega)
  replace y1 := y1.keep hk17 (by omega)
  replace bb := bb.trans (hk17.below (by omega) bb.size)
  clear hk17
  clear u1
  have bx1c0 := bx1.2.1
  have bx1c1 := bx1.2.2
  go_wp2_with fail
  clear bx1c0 bx1c1
  refine (heldBytesResult_any p _ zs.length _ _ _ 1 w17 u1'.1 (by omega) (by omega)).mono ?_
  rintro e w18 ⟨rfl, hk18⟩
  have hz18 := hk18.size
  replace h0 := h0.keep hk18 (by omega)
  replace h1 := h1.keep hk18 (by omega)
  replace hkt := hkt.keep hk18 (by omega)
  replace u0 := u0.keep hk18 (by omega)
  replace bx0 := bx0.keep hk18 (by omega)
  replace bx1 := bx1.keep hk18 (by omega)
  replace y0 := y0.keep hk18 (by omega)
  replace y1 := y1.keep hk18 (by omega)
  replace u1' := u1'.keep hk18 (by omega)
  replace bb := bb.trans (hk18.below (by omega) bb.size)
  clear hk18
  have hn2 : ¬ (1 + (zs.length : Int)) < 0 := by omega
  go_wp2_with fail
  refine (toByteS_any A0 n0 c0 _ _ xs0 w18 h0 (by omega)).mono ?_
  rintro e w19 ⟨t0, rfl, r0, hb19⟩
  have hk19 := Keep.of_below hb19 0 0
  have hz19 := hb19.size
  replace h0 := h0.keep hk19 (by omega)
  replace h1 := h1.keep hk19 (by omega)
  replace hkt := hkt.keep hk19 (by omega)
  replace u0 := u0.keep hk19 (by omega)
  replace bx0 := bx0.keep hk19 (by omega)
  replace bx1 := bx1.keep hk19 (by omega)
  replace y0 := y0.keep hk19 (by omega)
  replace y1 := y1.keep hk19 (by omega)
  replace u1' := u1'.keep hk19 (by omega)
  replace bb := bb.trans (hk19.below (by omega) bb.size)
  clear hb19 hk19
  go_wp2_with fail
  refine (toByteS_any A1 n1 c1 _ _ xs1 w19 h1 (by omega)).mono ?_
  rintro e w20 ⟨t1, rfl, r1, hb20⟩
  have hk20 := Keep.of_below hb20 0 0
  have hz20 := hb20.size
  replace h0 := h0.keep hk20 (by omega)
  replace h1 := h1.keep hk20 (by omega)
  replace hkt := hkt.keep hk20 (by omega)
  replace u0 := u0.keep hk20 (by omega)
  replace bx0 := bx0.keep hk20 (by omega)
  replace bx1 := bx1.keep hk20 (by omega)
  replace y0 := y0.keep hk20 (by omega)
  replace y1 := y1.keep hk20 (by omega)
  replace u1' := u1'.keep hk20 (by omega)
  replace r0 := r0.keep hk20 (by omega)
  replace bb := bb.trans (hk20.below (by omega) bb.size)
  clear hb20 hk20
  go_wp2_with fail
  refine (bans_at (implTag_any _ _ n0 n0 n1 n1 _ _ xs0 xs1 w20 r0.rd0 r1.rd0 (fun h => by cases h) hkt) HP.out HZ.out).mono ?_
  rintro e w21 ⟨G2, cap2, rfl, _, u2, hb21⟩
  have hk21 := Keep.of_below hb21 0 0
  have hz21 := hb21.size
  replace h0 := h0.keep hk21 (by omega)
  replace h1 := h1.keep hk21 (by omega)
  replace hkt := hkt.keep hk21 (by omega)
  replace u0 := u0.keep hk21 (by omega)
  replace bx0 := bx0.keep hk21 (by omega)
  replace bx1 := bx1.keep hk21 (by omega)
  replace y0 := y0.keep hk21 (by omega)
  replace y1 := y1.keep hk21 (by omega)
  replace u1' := u1'.keep hk21 (by omega)
  replace r0 := r0.keep hk21 (by omega)
  replace r1 := r1.keep hk21 (by omega)
  replace bb := bb.trans (hk21.below (by omega) bb.size)
  clear hb21 hk21
  clear r0
  clear r1
  have bx0lt := bx0.1
  have bx0c0 := bx0.2.1
  have bx0c1 := bx0.2.2
  go_wp2_with fail
  clear bx0lt bx0c0 bx0c1
  have hk22 := (Keep.refl 0 0 w21).alloc (.cells #[.int .i64 p, .slice G2 zs.length cap2] 27)
  have bx2 := Box2.new w21 (.int .i64 p) (.slice G2 zs.length cap2) 27
  have hz22 : w21.heap.size + 1 ≤ (w21.alloc (.cells #[.int .i64 p, .slice G2 zs.length cap2] 27)).heap.size := by simp
  replace h0 := h0.keep hk22 (by omega)
  replace h1 := h1.keep hk22 (by omega)
  replace hkt := hkt.keep hk22 (by omega)
  replace u0 := u0.keep hk22 (by omega)
  replace bx0 := bx0.keep hk22 (by omega)
  replace bx1 := bx1.keep hk22 (by omega)
  replace y0 := y0.keep hk22 (by omega)
  replace y1 := y1.keep hk22 (by omega)
  replace u1' := u1'.keep hk22 (by omega)
  replace u2 := u2.keep hk22 (by omega)
  replace bb := bb.trans (hk22.below (by omega) bb.size)
  clear hk22
  generalize w21.alloc (.cells #[.int .i64 p, .slice G2 zs.length cap2] 27) = w22 at *
  refine (eqBytesResult_true p _ _ zs.length _ _ _ _ _ _ zs w22 u2.1 u0.1).mono ?_
  rintro e w23 ⟨rfl, hk23⟩
  have hz23 := hk23.size
  replace h0 := h0.keep hk23 (by omega)
  replace h1 := h1.keep hk23 (by omega)
  replace hkt := hkt.keep hk23 (by omega)
  replace u0 := u0.keep hk23 (by omega)
  replace bx0 := bx0.keep hk23 (by omega)
  replace bx1 := bx1.keep hk23 (by omega)
  replace y0 := y0.keep hk23 (by omega)
  replace y1 := y1.keep hk23 (by omega)
  replace u1' := u1'.keep hk23 (by omega)
  replace u2 := u2.keep hk23 (by omega)
  replace bx2 := bx2.keep hk23 (by omega)
  replace bb := bb.trans (hk23.below (by omega) bb.size)
  clear hk23
  have bx1c0 := bx1.2.1
  have bx1c1 := bx1.2.2
  go_wp2_with fail
  clear bx1c0 bx1c1
  refine (heldBytesResult_any p _ zs.length _ _ _ 1 w23 u1'.1 (by omega) (by omega)).mono ?_
  rintro e w24 ⟨rfl, hk24⟩
  have hz24 := hk24.size
  replace h0 := h0.keep hk24 (by omega)
  replace h1 := h1.keep hk24 (by omega)
  replace hkt := hkt.keep hk24 (by omega)
  replace u0 := u0.keep hk24 (by omega)
  replace bx0 := bx0.keep hk24 (by omega)
  replace bx1 := bx1.keep hk24 (by omega)
  replace y0 := y0.keep hk24 (by omega)
  replace y1 := y1.keep hk24 (by omega)
  replace u1' := u1'.keep hk24 (by omega)
  replace u2 := u2.keep hk24 (by omega)
  replace bx2 := bx2.keep hk24 (by omega)
  replace bb := bb.trans (hk24.below (by omega) bb.size)
  clear hk24
  have hn3 : ¬ (1 + (zs.length : Int)) < 0 := by omega
  go_wp2_with fail
  go_ret
  exact ⟨rfl, bb⟩

set_option maxHeartbeats 2000000 in
theorem exactSealPacket (A0 : Option Addr) (n0 c0 : Nat) (a1 : Int) (a2 : Int) (A3 : Option Addr) (n3 c3 : Nat) (xs0 xs3 : List Int) (w : World) (h0 : Rd w 0 w.heap.size A0 n0 xs0) (h3 : Rd w 0 w.heap.size A3 n3 xs3) (ha1 : -9223372036854775808 ≤ a1 ∧ a1 ≤ 9223372036854775807) (ha2 : -9223372036854775808 ≤ a2 ∧ a2 ≤ 9223372036854775807) (hkt : Kt w) :
    Calls Tryd.prog 6 #[.slice A0 n0 c0, .int .i64 a1, .int .i64 a2, .slice A3 n3 c3] w fun e w' => e = .returned (.bool true) ∧ Below w.heap.size w w' := by
  have hg0 := hkt.1
  have hint0 := h0.int
  have hint3 := h3.int
  by_cases hn0 : 1048576 < n0
  · go_enter Tryd.func6, Tryd.ntmps6
    go_wp2_with fail
    go_ret
    exact ⟨rfl, Below.refl _ _⟩
  by_cases hn3 : 1048576 < n3
  · go_enter Tryd.func6, Tryd.ntmps6
    go_wp2_with fail
    go_ret
    exact ⟨rfl, Below.refl _ _⟩
  obtain ⟨p, hp⟩ : ∃ p, sealCode n0 n3 a1 a2 = p := ⟨_, rfl⟩
  obtain ⟨zs, hz⟩ : ∃ zs, ansOf (sealCode n0 n3 a1 a2) (sealL xs0 a1 a2 xs3) = zs := ⟨_, rfl⟩
  have hl3 : zs.length ≤ 16777216 := hz ▸ seal_le n0 n3 a1 a2 xs0 xs3 h3.len
  have HP := Lib.hid hp
  have HZ := Lib.hid hz
  clear hp hz
  go_enter Tryd.func6, Tryd.ntmps6
  have bb := Below.refl w.heap.size w
  go_wp2_with fail
  refine (toByteS_any A0 n0 c0 _ _ xs0 w h0 (by omega)).mono ?_
  rintro e w1 ⟨t0, rfl, r0, hb1⟩
  have hk1 := Keep.of_below hb1 0 0
  have hz1 := hb1.size
  replace h0 := h0.keep hk1 (by omega)
  replace h3 := h3.keep hk1 (by omega)
  replace hkt := hkt.keep hk1 (by omega)
  replace bb := bb.trans (hk1.below (by omega) bb.size)
  clear hb1 hk1
  go_wp2_with fail
  refine (toByteS_any A3 n3 c3 _ _ xs3 w1 h3 (by omega)).mono ?_
  rintro e w2 ⟨t3, rfl, r3, hb2⟩
  have hk2 := Keep.of_below hb2 0 0
  have hz2 := hb2.size
  replace h0 := h0.keep hk2 (by omega)
  replace h3 := h3.keep hk2 (by omega)
  replace hkt := hkt.keep hk2 (by omega)
  replace r0 := r0.keep hk2 (by omega)
  replace bb := bb.trans (hk2.below (by omega) bb.size)
  clear hb2 hk2
  go_wp2_with fail
  refine (bans_at (specSeal_any _ _ n0 n0 n3 n3 _ _ a1 a2 xs0 xs3 w2 r0.rd0 r3.rd0) HP.out HZ.out).mono ?_
  rintro e w3 ⟨G, cap, rfl, _, u0, hb3⟩
  have hk3 := Keep.of_below hb3 0 0
  have hz3 := hb3.size
  replace h0 := h0.keep hk3 (by omega)
  replace h3 := h3.keep hk3 (by omega)
  replace hkt := hkt.keep hk3 (by omega)
  replace r0 := r0.keep hk3 (by omega)
  replace r3 := r3.keep hk3 (by omega)
  replace bb := bb.trans (hk3.below (by omega) bb.size)
  clear hb3 hk3
  clear r0
  clear r3
  go_wp2_with fail
  have hk4 := (Keep.refl 0 0 w3).alloc (.cells #[.int .i64 p, .slice G zs.length cap] 27)
  have bx0 := Box2.new w3 (.int .i64 p) (.slice G zs.length cap) 27
  have hz4 : w3.heap.size + 1 ≤ (w3.alloc (.cells #[.int .i64 p, .slice G zs.length cap] 27)).heap.size := by simp
  replace h0 := h0.keep hk4 (by omega)
  replace h3 := h3.keep hk4 (by omega)
  replace hkt := hkt.keep hk4 (by omega)
  replace u0 := u0.keep hk4 (by omega)
  replace bb := bb.trans (hk4.below (by omega) bb.size)
  clear hk4
  generalize w3.alloc (.cells #[.int .i64 p, .slice G zs.length cap] 27) = w4 at *
  refine (toByteS_any A0 n0 c0 _ _ xs0 w4 h0 (by omega)).mono ?_
  rintro e w5 ⟨t0, rfl, x0, hb5⟩
  have hk5 := Keep.of_below hb5 0 0
  have hz5 := hb5.size
  replace h0 := h0.keep hk5 (by omega)
  replace h3 := h3.keep hk5 (by omega)
  replace hkt := hkt.keep hk5 (by omega)
  replace u0 := u0.keep hk5 (by omega)
  replace bx0 := bx0.keep hk5 (by omega)
  replace bb := bb.trans (hk5.below (by omega) bb.size)
  clear hb5 hk5
  go_wp2_with fail
  refine (toByteS_any A3 n3 c3 _ _ xs3 w5 h3 (by omega)).mono ?_
  rintro e w6 ⟨t3, rfl, x3, hb6⟩
  have hk6 := Keep.of_below hb6 0 0
  have hz6 := hb6.size
  replace h0 := h0.keep hk6 (by omega)
  replace h3 := h3.keep hk6 (by omega)
  replace hkt := hkt.keep hk6 (by omega)
  replace u0 := u0.keep hk6 (by omega)
  replace bx0 := bx0.keep hk6 (by omega)
  replace x0 := x0.keep hk6 (by omega)
  replace bb := bb.trans (hk6.below (by omega) bb.size)
  clear hb6 hk6
  go_wp2_with fail
  refine (bans_at (implSeal_any _ _ n0 n0 n3 n3 _ _ a1 a2 xs0 xs3 w6 x0.rd0 x3.rd0 hkt) HP.out HZ.out).mono ?_
  rintro e w7 ⟨G1, cap1, rfl, _, u1, hb7⟩
  have hk7 := Keep.of_below hb7 0 0
  have hz7 := hb7.size
  replace h0 := h0.keep hk7 (by omega)
  replace h3 := h3.keep hk7 (by omega)
  replace hkt := hkt.keep hk7 (by omega)
  replace u0 := u0.keep hk7 (by omega)
  replace bx0 := bx0.keep hk7 (by omega)
  replace x0 := x0.keep hk7 (by omega)
  replace x3 := x3.keep hk7 (by omega)
  replace bb := bb.trans (hk7.below (by omega) bb.size)
  clear hb7 hk7
  have bx0lt := bx0.1
  have bx0c0 := bx0.2.1
  have bx0c1 := bx0.2.2
  go_wp2_with fail
  clear bx0lt bx0c0 bx0c1
  have hk8 := (Keep.refl 0 0 w7).alloc (.cells #[.int .i64 p, .slice G1 zs.length cap1] 27)
  have bx1 := Box2.new w7 (.int .i64 p) (.slice G1 zs.length cap1) 27
  have hz8 : w7.heap.size + 1 ≤ (w7.alloc (.cells #[.int .i64 p, .slice G1 zs.length cap1] 27)).heap.size := by simp
  replace h0 := h0.keep hk8 (by omega)
  replace h3 := h3.keep hk8 (by omega)
  replace hkt := hkt.keep hk8 (by omega)
  replace u0 := u0.keep hk8 (by omega)
  replace bx0 := bx0.keep hk8 (by omega)
  replace x0 := x0.keep hk8 (by omega)
  replace x3 := x3.keep hk8 (by omega)
  replace u1 := u1.keep hk8 (by omega)
  replace bb := bb.trans (hk8.below (by omega) bb.size)
  clear hk8
  generalize w7.alloc (.cells #[.int .i64 p, .slice G1 zs.length cap1] 27) = w8 at *
  refine (eqBytesResult_true p _ _ zs.length _ _ _ _ _ _ zs w8 u1.1 u0.1).mono ?_
  rintro e w9 ⟨rfl, hk9⟩
  have hz9 := hk9.size
  replace h0 := h0.keep hk9 (by omega)
  replace h3 := h3.keep hk9 (by omega)
  replace hkt := hkt.keep hk9 (by omega)
  replace u0 := u0.keep hk9 (by omega)
  replace bx0 := bx0.keep hk9 (by omega)
  replace x0 := x0.keep hk9 (by omega)
  replace x3 := x3.keep hk9 (by omega)
  replace u1 := u1.keep hk9 (by omega)
  replace bx1 := bx1.keep hk9 (by omega)
  replace bb := bb.trans (hk9.below (by omega) bb.size)
  clear hk9
  go_wp2_with fail
  refine (toByteS_any A0 n0 c0 _ _ xs0 w9 h0 (by omega)).mono ?_
  rintro e w10 ⟨t0, rfl, r0, hb10⟩
  have hk10 := Keep.of_below hb10 0 0
  have hz10 := hb10.size
  replace h0 := h0.keep hk10 (by omega)
  replace h3 := h3.keep hk10 (by omega)
  replace hkt := hkt.keep hk10 (by omega)
  replace u0 := u0.keep hk10 (by omega)
  replace bx0 := bx0.keep hk10 (by omega)
  replace x0 := x0.keep hk10 (by omega)
  replace x3 := x3.keep hk10 (by omega)
  replace u1 := u1.keep hk10 (by omega)
  replace bx1 := bx1.keep hk10 (by omega)
  replace bb := bb.trans (hk10.below (by omega) bb.size)
  clear hb10 hk10
  go_wp2_with fail
  refine (eqByteS_true _ _ n0 n0 n0 _ _ _ _ xs0 w10 x0.1 r0.1).mono ?_
  rintro e w11 ⟨rfl, q11, hq11⟩
  have hk11 : Keep 0 0 w10 w11 := by rw [hq11]; exact (Keep.refl 0 0 _).drewN _
  clear hq11
  have hz11 := hk11.size
  replace h0 := h0.keep hk11 (by omega)
  replace h3 := h3.keep hk11 (by omega)
  replace hkt := hkt.keep hk11 (by omega)
  replace u0 := u0.keep hk11 (by omega)
  replace bx0 := bx0.keep hk11 (by omega)
  replace x0 := x0.keep hk11 (by omega)
  replace x3 := x3.keep hk11 (by omega)
  replace u1 := u1.keep hk11 (by omega)
  replace bx1 := bx1.keep hk11 (by omega)
  replace r0 := r0.keep hk11 (by omega)
  replace bb := bb.trans (hk11.below (by omega) bb.size)
  clear hk11
  clear r0
  go_wp2_with fail
  refine (toByteS_any A3 n3 c3 _ _ xs3 w11 h3 (by omega)).mono ?_
  rintro e w12 ⟨t3, rfl, r3, hb12⟩
  have hk12 := Keep.of_below hb12 0 0
  have hz12 := hb12.size
  replace h0 := h0.keep hk12 (by omega)
  replace h3 := h3.keep hk12 (by omega)
  replace hkt := hkt.keep hk12 (by omega)
  replace u0 := u0.keep hk12 (by omega)
  replace bx0 := bx0.keep hk12 (by omega)
  replace x0 := x0.keep hk12 (by omega)
  replace x3 := x3.keep hk12 (by omega)
  replace u1 := u1.keep hk12 (by omega)
  replace bx1 := bx1.keep hk12 (by omega)
  replace bb := bb.trans (hk12.below (by omega) bb.size)
  clear hb12 hk12
  go_wp2_with fail
  refine (eqByteS_true _ _ n3 n3 n3 _ _ _ _ xs3 w12 x3.1 r3.1).mono ?_
  rintro e w13 ⟨rfl, q13, hq13⟩
  have hk13 : Keep 0 0 w12 w13 := by rw [hq13]; exact (Keep.refl 0 0 _).drewN _
  clear hq13
  have hz13 := hk13.size
  replace h0 := h0.keep hk13 (by omega)
  replace h3 := h3.keep hk13 (by omega)
  replace hkt := hkt.keep hk13 (by omega)
  replace u0 := u0.keep hk13 (by omega)
  replace bx0 := bx0.keep hk13 (by omega)
  replace x0 := x0.keep hk13 (by omega)
  replace x3 := x3.keep hk13 (by omega)
  replace u1 := u1.keep hk13 (by omega)
  replace bx1 := bx1.keep hk13 (by omega)
  replace r3 := r3.keep hk13 (by omega)
  replace bb := bb.trans (hk13.below (by omega) bb.size)
  clear hk13
  clear r3
  go_wp2_with fail
  refine (markByteS_any _ n0 n0 _ _ (1) xs0 w13 x0 (by omega) (by omega)).mono ?_
  rintro e w14 ⟨rfl, y0, hk14⟩
  have hz14 := hk14.size
  replace h0 := h0.keep hk14 (by omega)
  replace h3 := h3.keep hk14 (by omega)
  replace hkt := hkt.keep hk14 (by omega)
  replace u0 := u0.keep hk14 (by omega)
  replace bx0 := bx0.keep hk14 (by omega)
  replace x3 := x3.keep hk14 (by omega)
  replace u1 := u1.keep hk14 (by omega)
  replace bx1 := bx1.keep hk14 (by omega)
  replace bb := bb.trans (hk14.below (by omega) bb.size)
  clear hk14
  clear x0
  go_wp2_with fail
  refine (markByteS_any _ n3 n3 _ _ (1 + (n0 : Int)) xs3 w14 x3 (by omega) (by omega)).mono ?_
  rintro e w15 ⟨rfl, y3, hk15⟩
  have hz15 := hk15.size
  replace h0 := h0.keep hk15 (by omega)
  replace h3 := h3.keep hk15 (by omega)
  replace hkt := hkt.keep hk15 (by omega)
  replace u0 := u0.keep hk15 (by omega)
  replace bx0 := bx0.keep hk15 (by omega)
  replace u1 := u1.keep hk15 (by omega)
  replace bx1 := bx1.keep hk15 (by omega)
  replace y0 := y0.keep hk15 (by omega)
  replace bb := bb.trans (hk15.below (by omega) bb.size)
  clear hk15
  clear x3
  have hn1 : ¬ (1 + (n0 : Int) + (n3 : Int)) < 0 := by omega
  have bx0c0 := bx0.2.1
  have bx0c1 := bx0.2.2
  have bx1c0 := bx1.2.1
  have bx1c1 := bx1.2.2
  go_wp2_with fail
  clear bx0c0 bx0c1
  clear bx1c0 bx1c1
  clear hn1
  refine (eqBytesResult_true p _ _ zs.length _ _ _ _ _ _ zs w15 u1.1 u0.1).mono ?_
  rintro e w16 ⟨rfl, hk16⟩
  have hz16 := hk16.size
  replace h0 := h0.keep hk16 (by omega)
  replace h3 := h3.keep hk16 (by omega)
  replace hkt := hkt.keep hk16 (by omega)
  replace u0 := u0.keep hk16 (by omega)
  replace bx0 := bx0.keep hk16 (by omega)
  replace u1 := u1.keep hk16 (by omega)
  replace bx1 := bx1.keep hk16 (by omega)
  replace y0 := y0.keep hk16 (by omega)
  replace y3 := y3.keep hk16 (by omega)
  replace bb := bb.trans (hk16.below (by omega) bb.size)
  clear hk16
  have bx1c0 := bx1.2.1
  have bx1c1 := bx1.2.2
  go_wp2_with fail
  clear bx1c0 bx1c1
  refine (markBytesResult_any p _ zs.length _ _ _ 1 zs w16 u1 (by omega) (by omega)).mono ?_
  rintro e w17 ⟨rfl, u1', hk17⟩
  have hz17 := hk17.size
  replace h0 := h0.keep hk17 (by omega)
  replace h3 := h3.keep hk17 (by omega)
  replace hkt := hkt.keep hk17 (by omega)
  replace u0 := u0.keep hk17 (by omega)
  replace bx0 := bx0.keep hk17 (by omega)
  replace bx1 := bx1.keep hk17 (by omega)
  replace y0 := y0.keep hk17 (by omega)
  replace y3 := y3.keep hk17 (by omega)
  replace bb := bb.trans (hk17.below (by omega) bb.size)
  clear hk17
  clear u1
  have bx1c0 := bx1.2.1
  have bx1c1 := bx1.2.2
  go_wp2_with fail
  clear bx1c0 bx1c1
  refine (heldBytesResult_any p _ zs.length _ _ _ 1 w17 u1'.1 (by omega) (by omega)).mono ?_
  rintro e w18 ⟨rfl, hk18⟩
  have hz18 := hk18.size
  replace h0 := h0.keep hk18 (by omega)
  replace h3 := h3.keep hk18 (by omega)
  replace hkt := hkt.keep hk18 (by omega)
  replace u0 := u0.keep hk18 (by omega)
  replace bx0 := bx0.keep hk18 (by omega)
  replace bx1 := bx1.keep hk18 (by omega)
  replace y0 := y0.keep hk18 (by omega)
  replace y3 := y3.keep hk18 (by omega)
  replace u1' := u1'.keep hk18 (by omega)
  replace bb := bb.trans (hk18.below (by omega) bb.size)
  clear hk18
  have hn2 : ¬ (1 + (zs.length : Int)) < 0 := by omega
  go_wp2_with fail
  refine (toByteS_any A0 n0 c0 _ _ xs0 w18 h0 (by omega)).mono ?_
  rintro e w19 ⟨t0, rfl, r0, hb19⟩
  have hk19 := Keep.of_below hb19 0 0
  have hz19 := hb19.size
  replace h0 := h0.keep hk19 (by omega)
  replace h3 := h3.keep hk19 (by omega)
  replace hkt := hkt.keep hk19 (by omega)
  replace u0 := u0.keep hk19 (by omega)
  replace bx0 := bx0.keep hk19 (by omega)
  replace bx1 := bx1.keep hk19 (by omega)
  replace y0 := y0.keep hk19 (by omega)
  replace y3 := y3.keep hk19 (by omega)
  replace u1' := u1'.keep hk19 (by omega)
  replace bb := bb.trans (hk19.below (by omega) bb.size)
  clear hb19 hk19
  go_wp2_with fail
  refine (toByteS_any A3 n3 c3 _ _ xs3 w19 h3 (by omega)).mono ?_
  rintro e w20 ⟨t3, rfl, r3, hb20⟩
  have hk20 := Keep.of_below hb20 0 0
  have hz20 := hb20.size
  replace h0 := h0.keep hk20 (by omega)
  replace h3 := h3.keep hk20 (by omega)
  replace hkt := hkt.keep hk20 (by omega)
  replace u0 := u0.keep hk20 (by omega)
  replace bx0 := bx0.keep hk20 (by omega)
  replace bx1 := bx1.keep hk20 (by omega)
  replace y0 := y0.keep hk20 (by omega)
  replace y3 := y3.keep hk20 (by omega)
  replace u1' := u1'.keep hk20 (by omega)
  replace r0 := r0.keep hk20 (by omega)
  replace bb := bb.trans (hk20.below (by omega) bb.size)
  clear hb20 hk20
  go_wp2_with fail
  refine (bans_at (implSeal_any _ _ n0 n0 n3 n3 _ _ a1 a2 xs0 xs3 w20 r0.rd0 r3.rd0 hkt) HP.out HZ.out).mono ?_
  rintro e w21 ⟨G2, cap2, rfl, _, u2, hb21⟩
  have hk21 := Keep.of_below hb21 0 0
  have hz21 := hb21.size
  replace h0 := h0.keep hk21 (by omega)
  replace h3 := h3.keep hk21 (by omega)
  replace hkt := hkt.keep hk21 (by omega)
  replace u0 := u0.keep hk21 (by omega)
  replace bx0 := bx0.keep hk21 (by omega)
  replace bx1 := bx1.keep hk21 (by omega)
  replace y0 := y0.keep hk21 (by omega)
  replace y3 := y3.keep hk21 (by omega)
  replace u1' := u1'.keep hk21 (by omega)
  replace r0 := r0.keep hk21 (by omega)
  replace r3 := r3.keep hk21 (by omega)
  replace bb := bb.trans (hk21.below (by omega) bb.size)
  clear hb21 hk21
  clear r0
  clear r3
  have bx0lt := bx0.1
  have bx0c0 := bx0.2.1
  have bx0c1 := bx0.2.2
  go_wp2_with fail
  clear bx0lt bx0c0 bx0c1
  have hk22 := (Keep.refl 0 0 w21).alloc (.cells #[.int .i64 p, .slice G2 zs.length cap2] 27)
  have bx2 := Box2.new w21 (.int .i64 p) (.slice G2 zs.length cap2) 27
  have hz22 : w21.heap.size + 1 ≤ (w21.alloc (.cells #[.int .i64 p, .slice G2 zs.length cap2] 27)).heap.size := by simp
  replace h0 := h0.keep hk22 (by omega)
  replace h3 := h3.keep hk22 (by omega)
  replace hkt := hkt.keep hk22 (by omega)
  replace u0 := u0.keep hk22 (by omega)
  replace bx0 := bx0.keep hk22 (by omega)
  replace bx1 := bx1.keep hk22 (by omega)
  replace y0 := y0.keep hk22 (by omega)
  replace y3 := y3.keep hk22 (by omega)
  replace u1' := u1'.keep hk22 (by omega)
  replace u2 := u2.keep hk22 (by omega)
  replace bb := bb.trans (hk22.below (by omega) bb.size)
  clear hk22
  generalize w21.alloc (.cells #[.int .i64 p, .slice G2 zs.length cap2] 27) = w22 at *
  refine (eqBytesResult_true p _ _ zs.length _ _ _ _ _ _ zs w22 u2.1 u0.1).mono ?_
  rintro e w23 ⟨rfl, hk23⟩
  have hz23 := hk23.size
  replace h0 := h0.keep hk23 (by omega)
  replace h3 := h3.keep hk23 (by omega)
  replace hkt := hkt.keep hk23 (by omega)
  replace u0 := u0.keep hk23 (by omega)
  replace bx0 := bx0.keep hk23 (by omega)
  replace bx1 := bx1.keep hk23 (by omega)
  replace y0 := y0.keep hk23 (by omega)
  replace y3 := y3.keep hk23 (by omega)
  replace u1' := u1'.keep hk23 (by omega)
  replace u2 := u2.keep hk23 (by omega)
  replace bx2 := bx2.keep hk23 (by omega)
  replace bb := bb.trans (hk23.below (by omega) bb.size)
  clear hk23
  have bx1c0 := bx1.2.1
  have bx1c1 := bx1.2.2
  go_wp2_with fail
  clear bx1c0 bx1c1
  refine (heldBytesResult_any p _ zs.length _ _ _ 1 w23 u1'.1 (by omega) (by omega)).mono ?_
  rintro e w24 ⟨rfl, hk24⟩
  have hz24 := hk24.size
  replace h0 := h0.keep hk24 (by omega)
  replace h3 := h3.keep hk24 (by omega)
  replace hkt := hkt.keep hk24 (by omega)
  replace u0 := u0.keep hk24 (by omega)
  replace bx0 := bx0.keep hk24 (by omega)
  replace bx1 := bx1.keep hk24 (by omega)
  replace y0 := y0.keep hk24 (by omega)
  replace y3 := y3.keep hk24 (by omega)
  replace u1' := u1'.keep hk24 (by omega)
  replace u2 := u2.keep hk24 (by omega)
  replace bx2 := bx2.keep hk24 (by omega)
  replace bb := bb.trans (hk24.below (by omega) bb.size)
  clear hk24
  have hn3 : ¬ (1 + (zs.length : Int)) < 0 := by omega
  go_wp2_with fail
  go_ret
  exact ⟨rfl, bb⟩

set_option maxHeartbeats 2000000 in
theorem exactOpenPacket (A0 : Option Addr) (n0 c0 : Nat) (A1 : Option Addr) (n1 c1 : Nat) (xs0 xs1 : List Int) (w : World) (h0 : Rd w 0 w.heap.size A0 n0 xs0) (h1 : Rd w 0 w.heap.size A1 n1 xs1) (ea : Addr) (hkt : KtE ea w) :
    Calls Tryd.prog 7 #[.slice A0 n0 c0, .slice A1 n1 c1] w fun e w' => e = .returned (.bool true) ∧ Below w.heap.size w w' := by
  have hg0 := hkt.1.1
  have hg1 := hkt.2.1
  have hint0 := h0.int
  have hint1 := h1.int
  by_cases hn0 : 1048576 < n0
  · go_enter Tryd.func7, Tryd.ntmps7
    go_wp2_with fail
    go_ret
    exact ⟨rfl, Below.refl _ _⟩
  by_cases hn1 : 1048576 < n1
  · go_enter Tryd.func7, Tryd.ntmps7
    go_wp2_with fail
    go_ret
    exact ⟨rfl, Below.refl _ _⟩
  obtain ⟨p, hp⟩ : ∃ p, openCode n0 xs0 xs1 = p := ⟨_, rfl⟩
  obtain ⟨zs, hz⟩ : ∃ zs, ansOf (openCode n0 xs0 xs1) (openL xs0 xs1) = zs := ⟨_, rfl⟩
  have hl3 : zs.length ≤ 16777216 := hz ▸ open_le _ n1 xs0 xs1 h1.len (by omega)
  obtain ⟨sd, hs⟩ : ∃ sd, zeroOr (openCode n0 xs0 xs1) (hdSide xs1) = sd := ⟨_, rfl⟩
  obtain ⟨sq, hq⟩ : ∃ sq, zeroOr (openCode n0 xs0 xs1) (hdSeq xs1) = sq := ⟨_, rfl⟩
  have HS := Lib.hid hs
  have HQ := Lib.hid hq
  clear hs hq
  have HP := Lib.hid hp
  have HZ := Lib.hid hz
  clear hp hz
  go_enter Tryd.func7, Tryd.ntmps7
  have bb := Below.refl w.heap.size w
  go_wp2_with fail
  refine (toByteS_any A0 n0 c0 _ _ xs0 w h0 (by omega)).mono ?_
  rintro e w1 ⟨t0, rfl, r0, hb1⟩
  have hk1 := Keep.of_below hb1 0 0
  have hz1 := hb1.size
  replace h0 := h0.keep hk1 (by omega)
  replace h1 := h1.keep hk1 (by omega)
  replace hkt := hkt.keep hk1 (by omega)
  replace bb := bb.trans (hk1.below (by omega) bb.size)
  clear hb1 hk1
  go_wp2_with fail
  refine (toByteS_any A1 n1 c1 _ _ xs1 w1 h1 (by omega)).mono ?_
  rintro e w2 ⟨t1, rfl, r1, hb2⟩
  have hk2 := Keep.of_below hb2 0 0
  have hz2 := hb2.size
  replace h0 := h0.keep hk2 (by omega)
  replace h1 := h1.keep hk2 (by omega)
  replace hkt := hkt.keep hk2 (by omega)
  replace r0 := r0.keep hk2 (by omega)
  replace bb := bb.trans (hk2.below (by omega) bb.size)
  clear hb2 hk2
  go_wp2_with fail
  refine (pans_at (specOpen_any _ _ n0 n0 n1 n1 _ _ xs0 xs1 w2 r0.rd0 r1.rd0 (Nat.le_refl _)) HP.out HS.out HQ.out HZ.out).mono ?_
  rintro e w3 ⟨G, cap, rfl, _, u0, hb3⟩
  have hk3 := Keep.of_below hb3 0 0
  have hz3 := hb3.size
  replace h0 := h0.keep hk3 (by omega)
  replace h1 := h1.keep hk3 (by omega)
  replace hkt := hkt.keep hk3 (by omega)
  replace r0 := r0.keep hk3 (by omega)
  replace r1 := r1.keep hk3 (by omega)
  replace bb := bb.trans (hk3.below (by omega) bb.size)
  clear hb3 hk3
  clear r0
  clear r1
  go_wp2_with fail
  have hk4 := (Keep.refl 0 0 w3).alloc (.cells #[.int .i64 p, .int .i64 sd, .int .i64 sq, .slice G zs.length cap] 32)
  have bx0 := Box4v.new w3 (.int .i64 p) (.int .i64 sd) (.int .i64 sq) (.slice G zs.length cap) 32
  have hz4 : w3.heap.size + 1 ≤ (w3.alloc (.cells #[.int .i64 p, .int .i64 sd, .int .i64 sq, .slice G zs.length cap] 32)).heap.size := by simp
  replace h0 := h0.keep hk4 (by omega)
  replace h1 := h1.keep hk4 (by omega)
  replace hkt := hkt.keep hk4 (by omega)
  replace u0 := u0.keep hk4 (by omega)
  replace bb := bb.trans (hk4.below (by omega) bb.size)
  clear hk4
  generalize w3.alloc (.cells #[.int .i64 p, .int .i64 sd, .int .i64 sq, .slice G zs.length cap] 32) = w4 at *
  refine (toByteS_any A0 n0 c0 _ _ xs0 w4 h0 (by omega)).mono ?_
  rintro e w5 ⟨t0, rfl, x0, hb5⟩
  have hk5 := Keep.of_below hb5 0 0
  have hz5 := hb5.size
  replace h0 := h0.keep hk5 (by omega)
  replace h1 := h1.keep hk5 (by omega)
  replace hkt := hkt.keep hk5 (by omega)
  replace u0 := u0.keep hk5 (by omega)
  replace bx0 := bx0.keep hk5 (by omega)
  replace bb := bb.trans (hk5.below (by omega) bb.size)
  clear hb5 hk5
  go_wp2_with fail
  refine (toByteS_any A1 n1 c1 _ _ xs1 w5 h1 (by omega)).mono ?_
  rintro e w6 ⟨t1, rfl, x1, hb6⟩
  have hk6 := Keep.of_below hb6 0 0
  have hz6 := hb6.size
  replace h0 := h0.keep hk6 (by omega)
  replace h1 := h1.keep hk6 (by omega)
  replace hkt := hkt.keep hk6 (by omega)
  replace u0 := u0.keep hk6 (by omega)
  replace bx0 := bx0.keep hk6 (by omega)
  replace x0 := x0.keep hk6 (by omega)
  replace bb := bb.trans (hk6.below (by omega) bb.size)
  clear hb6 hk6
  go_wp2_with fail
  refine (pans_at (implOpen_any _ _ n0 n0 n1 n1 _ _ xs0 xs1 w6 x0.rd0 x1.rd0 (Nat.le_refl _) hkt) HP.out HS.out HQ.out HZ.out).mono ?_
  rintro e w7 ⟨G1, cap1, rfl, _, u1, hb7⟩
  have hk7 := Keep.of_below hb7 0 0
  have hz7 := hb7.size
  replace h0 := h0.keep hk7 (by omega)
  replace h1 := h1.keep hk7 (by omega)
  replace hkt := hkt.keep hk7 (by omega)
  replace u0 := u0.keep hk7 (by omega)
  replace bx0 := bx0.keep hk7 (by omega)
  replace x0 := x0.keep hk7 (by omega)
  replace x1 := x1.keep hk7 (by omega)
  replace bb := bb.trans (hk7.below (by omega) bb.size)
  clear hb7 hk7
  have bx0lt := bx0.1
  have bx0c0 := bx0.2.1
  have bx0c1 := bx0.2.2.1
  have bx0c2 := bx0.2.2.2.1
  have bx0c3 := bx0.2.2.2.2
  go_wp2_with fail
  clear bx0lt bx0c0 bx0c1 bx0c2 bx0c3
  have hk8 := (Keep.refl 0 0 w7).alloc (.cells #[.int .i64 p, .int .i64 sd, .int .i64 sq, .slice G1 zs.length cap1] 32)
  have bx1 := Box4v.new w7 (.int .i64 p) (.int .i64 sd) (.int .i64 sq) (.slice G1 zs.length cap1) 32
  have hz8 : w7.heap.size + 1 ≤ (w7.alloc (.cells #[.int .i64 p, .int .i64 sd, .int .i64 sq, .slice G1 zs.length cap1] 32)).heap.size := by simp
  replace h0 := h0.keep hk8 (by omega)
  replace h1 := h1.keep hk8 (by omega)
  replace hkt := hkt.keep hk8 (by omega)
  replace u0 := u0.keep hk8 (by omega)
  replace bx0 := bx0.keep hk8 (by omega)
  replace x0 := x0.keep hk8 (by omega)
  replace x1 := x1.keep hk8 (by omega)
  replace u1 := u1.keep hk8 (by omega)
  replace bb := bb.trans (hk8.below (by omega) bb.size)
  clear hk8
  generalize w7.alloc (.cells #[.int .i64 p, .int .i64 sd, .int .i64 sq, .slice G1 zs.length cap1] 32) = w8 at *
  refine (eqPacketResult_true p sd sq _ _ zs.length _ _ _ _ _ _ zs w8 u1.1 u0.1).mono ?_
  rintro e w9 ⟨rfl, hk9⟩
  have hz9 := hk9.size
  replace h0 := h0.keep hk9 (by omega)
  replace h1 := h1.keep hk9 (by omega)
  replace hkt := hkt.keep hk9 (by omega)
  replace u0 := u0.keep hk9 (by omega)
  replace bx0 := bx0.keep hk9 (by omega)
  replace x0 := x0.keep hk9 (by omega)
  replace x1 := x1.keep hk9 (by omega)
  replace u1 := u1.keep hk9 (by omega)
  replace bx1 := bx1.keep hk9 (by omega)
  replace bb := bb.trans (hk9.below (by omega) bb.size)
  clear hk9
  go_wp2_with fail
  refine (toByteS_any A0 n0 c0 _ _ xs0 w9 h0 (by omega)).mono ?_
  rintro e w10 ⟨t0, rfl, r0, hb10⟩
  have hk10 := Keep.of_below hb10 0 0
  have hz10 := hb10.size
  replace h0 := h0.keep hk10 (by omega)
  replace h1 := h1.keep hk10 (by omega)
  replace hkt := hkt.keep hk10 (by omega)
  replace u0 := u0.keep hk10 (by omega)
  replace bx0 := bx0.keep hk10 (by omega)
  replace x0 := x0.keep hk10 (by omega)
  replace x1 := x1.keep hk10 (by omega)
  replace u1 := u1.keep hk10 (by omega)
  replace bx1 := bx1.keep hk10 (by omega)
  replace bb := bb.trans (hk10.below (by omega) bb.size)
  clear hb10 hk10
  go_wp2_with fail
  refine (eqByteS_true _ _ n0 n0 n0 _ _ _ _ xs0 w10 x0.1 r0.1).mono ?_
  rintro e w11 ⟨rfl, q11, hq11⟩
  have hk11 : Keep 0 0 w10 w11 := by rw [hq11]; exact (Keep.refl 0 0 _).drewN _
  clear hq11
  have hz11 := hk11.size
  replace h0 := h0.keep hk11 (by omega)
  replace h1 := h1.keep hk11 (by omega)
  replace hkt := hkt.keep hk11 (by omega)
  replace u0 := u0.keep hk11 (by omega)
  replace bx0 := bx0.keep hk11 (by omega)
  replace x0 := x0.keep hk11 (by omega)
  replace x1 := x1.keep hk11 (by omega)
  replace u1 := u1.keep hk11 (by omega)
  replace bx1 := bx1.keep hk11 (by omega)
  replace r0 := r0.keep hk11 (by omega)
  replace bb := bb.trans (hk11.below (by omega) bb.size)
  clear hk11
  clear r0
  go_wp2_with fail
  refine (toByteS_any A1 n1 c1 _ _ xs1 w11 h1 (by omega)).mono ?_
  rintro e w12 ⟨t1, rfl, r1, hb12⟩
  have hk12 := Keep.of_below hb12 0 0
  have hz12 := hb12.size
  replace h0 := h0.keep hk12 (by omega)
  replace h1 := h1.keep hk12 (by omega)
  replace hkt := hkt.keep hk12 (by omega)
  replace u0 := u0.keep hk12 (by omega)
  replace bx0 := bx0.keep hk12 (by omega)
  replace x0 := x0.keep hk12 (by omega)
  replace x1 := x1.keep hk12 (by omega)
  replace u1 := u1.keep hk12 (by omega)
  replace bx1 := bx1.keep hk12 (by omega)
  replace bb := bb.trans (hk12.below (by omega) bb.size)
  clear hb12 hk12
  go_wp2_with fail
  refine (eqByteS_true _ _ n1 n1 n1 _ _ _ _ xs1 w12 x1.1 r1.1).mono ?_
  rintro e w13 ⟨rfl, q13, hq13⟩
  have hk13 : Keep 0 0 w12 w13 := by rw [hq13]; exact (Keep.refl 0 0 _).drewN _
  clear hq13
  have hz13 := hk13.size
  replace h0 := h0.keep hk13 (by omega)
  replace h1 := h1.keep hk13 (by omega)
  replace hkt := hkt.keep hk13 (by omega)
  replace u0 := u0.keep hk13 (by omega)
  replace bx0 := bx0.keep hk13 (by omega)
  replace x0 := x0.keep hk13 (by omega)
  replace x1 := x1.keep hk13 (by omega)
  replace u1 := u1.keep hk13 (by omega)
  replace bx1 := bx1.keep hk13 (by omega)
  replace r1 := r1.keep hk13 (by omega)
  replace bb := bb.trans (hk13.below (by omega) bb.size)
  clear hk13
  clear r1
  go_wp2_with fail
  refine (markByteS_any _ n0 n0 _ _ (1) xs0 w13 x0 (by omega) (by omega)).mono ?_
  rintro e w14 ⟨rfl, y0, hk14⟩
  have hz14 := hk14.size
  replace h0 := h0.keep hk14 (by omega)
  replace h1 := h1.keep hk14 (by omega)
  replace hkt := hkt.keep hk14 (by omega)
  replace u0 := u0.keep hk14 (by omega)
  replace bx0 := bx0.keep hk14 (by omega)
  replace x1 := x1.keep hk14 (by omega)
  replace u1 := u1.keep hk14 (by omega)
  replace bx1 := bx1.keep hk14 (by omega)
  replace bb := bb.trans (hk14.below (by omega) bb.size)
  clear hk14
  clear x0
  go_wp2_with fail
  refine (markByteS_any _ n1 n1 _ _ (1 + (n0 : Int)) xs1 w14 x1 (by omega) (by omega)).mono ?_
  rintro e w15 ⟨rfl, y1, hk15⟩
  have hz15 := hk15.size
  replace h0 := h0.keep hk15 (by omega)
  replace h1 := h1.keep hk15 (by omega)
  replace hkt := hkt.keep hk15 (by omega)
  replace u0 := u0.keep hk15 (by omega)
  replace bx0 := bx0.keep hk15 (by omega)
  replace u1 := u1.keep hk15 (by omega)
  replace bx1 := bx1.keep hk15 (by omega)
  replace y0 := y0.keep hk15 (by omega)
  replace bb := bb.trans (hk15.below (by omega) bb.size)
  clear hk15
  clear x1
  have hn1 : ¬ (1 + (n0 : Int) + (n1 : Int)) < 0 := by omega
  have bx0c0 := bx0.2.1
  have bx0c1 := bx0.2.2.1
  have bx0c2 := bx0.2.2.2.1
  have bx0c3 := bx0.2.2.2.2
  have bx1c0 := bx1.2.1
  have bx1c1 := bx1.2.2.1
  have bx1c2 := bx1.2.2.2.1
  have bx1c3 := bx1.2.2.2.2
  go_wp2_with fail
  clear bx0c0 bx0c1 bx0c2 bx0c3
  clear bx1c0 bx1c1 bx1c2 bx1c3
  clear hn1
  refine (eqPacketResult_true p sd sq _ _ zs.length _ _ _ _ _ _ zs w15 u1.1 u0.1).mono ?_
  rintro e w16 ⟨rfl, hk16⟩
  have hz16 := hk16.size
  replace h0 := h0.keep hk16 (by omega)
  replace h1 := h1.keep hk16 (by omega)
  replace hkt := hkt.keep hk16 (by omega)
  replace u0 := u0.keep hk16 (by omega)
  replace bx0 := bx0.keep hk16 (by omega)
  replace u1 := u1.keep hk16 (by omega)
  replace bx1 := bx1.keep hk16 (by omega)
  replace y0 := y0.keep hk16 (by omega)
  replace y1 := y1.keep hk16 (by omega)
  replace bb := bb.trans (hk16.below (by omega) bb.size)
  clear hk16
  have bx1c0 := bx1.2.1
  have bx1c1 := bx1.2.2.1
  have bx1c2 := bx1.2.2.2.1
  have bx1c3 := bx1.2.2.2.2
  go_wp2_with fail
  clear bx1c0 bx1c1 bx1c2 bx1c3
  refine (markPacketResult_any p sd sq _ zs.length _ _ _ 1 zs w16 u1 (by omega) (by omega)).mono ?_
  rintro e w17 ⟨rfl, u1', hk17⟩
  have hz17 := hk17.size
  replace h0 := h0.keep hk17 (by omega)
  replace h1 := h1.keep hk17 (by omega)
  replace hkt := hkt.keep hk17 (by omega)
  replace u0 := u0.keep hk17 (by omega)
  replace bx0 := bx0.keep hk17 (by omega)
  replace bx1 := bx1.keep hk17 (by omega)
  replace y0 := y0.keep hk17 (by omega)
  replace y1 := y1.keep hk17 (by omega)
  replace bb := bb.trans (hk17.below (by omega) bb.size)
  clear hk17
  clear u1
  have bx1c0 := bx1.2.1
  have bx1c1 := bx1.2.2.1
  have bx1c2 := bx1.2.2.2.1
  have bx1c3 := bx1.2.2.2.2
  go_wp2_with fail
  clear bx1c0 bx1c1 bx1c2 bx1c3
  refine (heldPacketResult_any p sd sq _ zs.length _ _ _ 1 w17 u1'.1 (by omega) (by omega)).mono ?_
  rintro e w18 ⟨rfl, hk18⟩
  have hz18 := hk18.size
  replace h0 := h0.keep hk18 (by omega)
  replace h1 := h1.keep hk18 (by omega)
  replace hkt := hkt.keep hk18 (by omega)
  replace u0 := u0.keep hk18 (by omega)
  replace bx0 := bx0.keep hk18 (by omega)
  replace bx1 := bx1.keep hk18 (by omega)
  replace y0 := y0.keep hk18 (by omega)
  replace y1 := y1.keep hk18 (by omega)
  replace u1' := u1'.keep hk18 (by omega)
  replace bb := bb.trans (hk18.below (by omega) bb.size)
  clear hk18
  have hn2 : ¬ (1 + (zs.length : Int)) < 0 := by omega
  go_wp2_with fail
  refine (toByteS_any A0 n0 c0 _ _ xs0 w18 h0 (by omega)).mono ?_
  rintro e w19 ⟨t0, rfl, r0, hb19⟩
  have hk19 := Keep.of_below hb19 0 0
  have hz19 := hb19.size
  replace h0 := h0.keep hk19 (by omega)
  replace h1 := h1.keep hk19 (by omega)
  replace hkt := hkt.keep hk19 (by omega)
  replace u0 := u0.keep hk19 (by omega)
  replace bx0 := bx0.keep hk19 (by omega)
  replace bx1 := bx1.keep hk19 (by omega)
  replace y0 := y0.keep hk19 (by omega)
  replace y1 := y1.keep hk19 (by omega)
  replace u1' := u1'.keep hk19 (by omega)
  replace bb := bb.trans (hk19.below (by omega) bb.size)
  clear hb19 hk19
  go_wp2_with fail
  refine (toByteS_any A1 n1 c1 _ _ xs1 w19 h1 (by omega)).mono ?_
  rintro e w20 ⟨t1, rfl, r1, hb20⟩
  have hk20 := Keep.of_below hb20 0 0
  have hz20 := hb20.size
  replace h0 := h0.keep hk20 (by omega)
  replace h1 := h1.keep hk20 (by omega)
  replace hkt := hkt.keep hk20 (by omega)
  replace u0 := u0.keep hk20 (by omega)
  replace bx0 := bx0.keep hk20 (by omega)
  replace bx1 := bx1.keep hk20 (by omega)
  replace y0 := y0.keep hk20 (by omega)
  replace y1 := y1.keep hk20 (by omega)
  replace u1' := u1'.keep hk20 (by omega)
  replace r0 := r0.keep hk20 (by omega)
  replace bb := bb.trans (hk20.below (by omega) bb.size)
  clear hb20 hk20
  go_wp2_with fail
  refine (pans_at (implOpen_any _ _ n0 n0 n1 n1 _ _ xs0 xs1 w20 r0.rd0 r1.rd0 (Nat.le_refl _) hkt) HP.out HS.out HQ.out HZ.out).mono ?_
  rintro e w21 ⟨G2, cap2, rfl, _, u2, hb21⟩
  have hk21 := Keep.of_below hb21 0 0
  have hz21 := hb21.size
  replace h0 := h0.keep hk21 (by omega)
  replace h1 := h1.keep hk21 (by omega)
  replace hkt := hkt.keep hk21 (by omega)
  replace u0 := u0.keep hk21 (by omega)
  replace bx0 := bx0.keep hk21 (by omega)
  replace bx1 := bx1.keep hk21 (by omega)
  replace y0 := y0.keep hk21 (by omega)
  replace y1 := y1.keep hk21 (by omega)
  replace u1' := u1'.keep hk21 (by omega)
  replace r0 := r0.keep hk21 (by omega)
  replace r1 := r1.keep hk21 (by omega)
  replace bb := bb.trans (hk21.below (by omega) bb.size)
  clear hb21 hk21
  clear r0
  clear r1
  have bx0lt := bx0.1
  have bx0c0 := bx0.2.1
  have bx0c1 := bx0.2.2.1
  have bx0c2 := bx0.2.2.2.1
  have bx0c3 := bx0.2.2.2.2
  go_wp2_with fail
  clear bx0lt bx0c0 bx0c1 bx0c2 bx0c3
  have hk22 := (Keep.refl 0 0 w21).alloc (.cells #[.int .i64 p, .int .i64 sd, .int .i64 sq, .slice G2 zs.length cap2] 32)
  have bx2 := Box4v.new w21 (.int .i64 p) (.int .i64 sd) (.int .i64 sq) (.slice G2 zs.length cap2) 32
  have hz22 : w21.heap.size + 1 ≤ (w21.alloc (.cells #[.int .i64 p, .int .i64 sd, .int .i64 sq, .slice G2 zs.length cap2] 32)).heap.size := by simp
  replace h0 := h0.keep hk22 (by omega)
  replace h1 := h1.keep hk22 (by omega)
  replace hkt := hkt.keep hk22 (by omega)
  replace u0 := u0.keep hk22 (by omega)
  replace bx0 := bx0.keep hk22 (by omega)
  replace bx1 := bx1.keep hk22 (by omega)
  replace y0 := y0.keep hk22 (by omega)
  replace y1 := y1.keep hk22 (by omega)
  replace u1' := u1'.keep hk22 (by omega)
  replace u2 := u2.keep hk22 (by omega)
  replace bb := bb.trans (hk22.below (by omega) bb.size)
  clear hk22
  generalize w21.alloc (.cells #[.int .i64 p, .int .i64 sd, .int .i64 sq, .slice G2 zs.length cap2] 32) = w22 at *
  refine (eqPacketResult_true p sd sq _ _ zs.length _ _ _ _ _ _ zs w22 u2.1 u0.1).mono ?_
  rintro e w23 ⟨rfl, hk23⟩
  have hz23 := hk23.size
  replace h0 := h0.keep hk23 (by omega)
  replace h1 := h1.keep hk23 (by omega)
  replace hkt := hkt.keep hk23 (by omega)
  replace u0 := u0.keep hk23 (by omega)
  replace bx0 := bx0.keep hk23 (by omega)
  replace bx1 := bx1.keep hk23 (by omega)
  replace y0 := y0.keep hk23 (by omega)
  replace y1 := y1.keep hk23 (by omega)
  replace u1' := u1'.keep hk23 (by omega)
  replace u2 := u2.keep hk23 (by omega)
  replace bx2 := bx2.keep hk23 (by omega)
  replace bb := bb.trans (hk23.below (by omega) bb.size)
  clear hk23
  have bx1c0 := bx1.2.1
  have bx1c1 := bx1.2.2.1
  have bx1c2 := bx1.2.2.2.1
  have bx1c3 := bx1.2.2.2.2
  go_wp2_with fail
  clear bx1c0 bx1c1 bx1c2 bx1c3
  refine (heldPacketResult_any p sd sq _ zs.length _ _ _ 1 w23 u1'.1 (by omega) (by omega)).mono ?_
  rintro e w24 ⟨rfl, hk24⟩
  have hz24 := hk24.size
  replace h0 := h0.keep hk24 (by omega)
  replace h1 := h1.keep hk24 (by omega)
  replace hkt := hkt.keep hk24 (by omega)
  replace u0 := u0.keep hk24 (by omega)
  replace bx0 := bx0.keep hk24 (by omega)
  replace bx1 := bx1.keep hk24 (by omega)
  replace y0 := y0.keep hk24 (by omega)
  replace y1 := y1.keep hk24 (by omega)
  replace u1' := u1'.keep hk24 (by omega)
  replace u2 := u2.keep hk24 (by omega)
  replace bx2 := bx2.keep hk24 (by omega)
  replace bb := bb.trans (hk24.below (by omega) bb.size)
  clear hk24
  have hn3 : ¬ (1 + (zs.length : Int)) < 0 := by omega
  go_wp2_with fail
  go_ret
  exact ⟨rfl, bb⟩

end Go.Proofs.YtpnpjngaenlciaaDoor
