/-
  The walks of chapter 3's exact laws.
-/
import Derived.Test.YtpnpjngaenlciaaPR
import Derived.Test.YtpnpjngaenlciaaS4h
namespace Go.Proofs.Ytpnpjngaenlciaa
open Go.RowKit
set_option linter.unusedVariables false
set_option maxRecDepth 100000

theorem ans_le (c : Int) (zs : List Int) (m : Nat) (h : c = 0 → zs.length ≤ m) : (ansOf c zs).length ≤ m := by
  unfold ansOf; split
  · exact h (by assumption)
  · exact Nat.zero_le _
theorem hide_le (nk nh n : Nat) (ks hs xs : List Int) (h : xs.length = n) : (ansOf (hideCode nk nh n) (hideL ks hs xs)).length ≤ 16777216 :=
  ans_le _ _ _ fun hc => by
    rw [hideL_len, h]
    unfold hideCode at hc
    split at hc
    · omega
    · split at hc <;> omega
theorem tag_le (c : Int) (ks xs : List Int) : (ansOf c (tagL ks xs)).length ≤ 16777216 :=
  ans_le _ _ _ fun _ => by rw [tagL_len]; omega
theorem seal_le (nk n : Nat) (sd sq : Int) (ks xs : List Int) (h : xs.length = n) : (ansOf (sealCode nk n sd sq) (sealL ks sd sq xs)).length ≤ 16777216 :=
  ans_le _ _ _ fun hc => by
    rw [sealL_len, h]
    unfold sealCode at hc
    split at hc
    · omega
    · split at hc <;> omega
theorem open_le (c : Int) (n : Nat) (ks xs : List Int) (h : xs.length = n) (hn : n ≤ 1048576) : (ansOf c (openL ks xs)).length ≤ 16777216 :=
  ans_le _ _ _ fun _ => by unfold openL; rw [hideL_len]; unfold part; rw [List.length_take, List.length_drop, h]; omega

set_option maxHeartbeats 2000000 in
theorem exactHeadOf (A0 : Option Addr) (n0 c0 : Nat) (xs0 : List Int) (w : World) (h0 : Rd w 0 w.heap.size A0 n0 xs0) :
    Calls Try.prog 3 #[.slice A0 n0 c0] w fun e w' => e = .returned (.bool true) ∧ Below w.heap.size w w' := by
  have hint0 := h0.int
  by_cases hn0 : 1048576 < n0
  · go_enter Try.func3, Try.ntmps3
    go_wp2_with fail
    go_ret
    exact ⟨rfl, Below.refl _ _⟩
  obtain ⟨p, hp⟩ : ∃ p, headCode xs0 = p := ⟨_, rfl⟩
  obtain ⟨zs, hz⟩ : ∃ zs, ([] : List Int) = zs := ⟨_, rfl⟩
  have hl3 : zs.length ≤ 16777216 := hz ▸ (Nat.zero_le _)
  obtain ⟨sd, hs⟩ : ∃ sd, zeroOr (headCode xs0) (hdSide xs0) = sd := ⟨_, rfl⟩
  obtain ⟨sq, hq⟩ : ∃ sq, zeroOr (headCode xs0) (hdSeq xs0) = sq := ⟨_, rfl⟩
  have HS := Lib.hid hs
  have HQ := Lib.hid hq
  clear hs hq
  have HP := Lib.hid hp
  have HZ := Lib.hid hz
  clear hp hz
  go_enter Try.func3, Try.ntmps3
  have bb := Below.refl w.heap.size w
  go_wp2_with fail
  refine (toByteS_any A0 n0 c0 _ _ xs0 w h0 (by omega)).mono ?_
  rintro e w1 ⟨t0, rfl, r0, hb1⟩
  have hk1 := Keep.of_below hb1 0 0
  have hz1 := hb1.size
  replace h0 := h0.keep hk1 (by omega)
  replace bb := bb.trans (hk1.below (by omega) bb.size)
  clear hb1 hk1
  go_wp2_with fail
  refine (pans_at (specHead_any _ n0 n0 _ xs0 w1 r0.rd0 (Nat.le_refl _)) HP.out HS.out HQ.out HZ.out).mono ?_
  rintro e w2 ⟨G, cap, rfl, _, u0, hb2⟩
  have hk2 := Keep.of_below hb2 0 0
  have hz2 := hb2.size
  replace h0 := h0.keep hk2 (by omega)
  replace r0 := r0.keep hk2 (by omega)
  replace bb := bb.trans (hk2.below (by omega) bb.size)
  clear hb2 hk2
  clear r0
  go_wp2_with fail
  have hk3 := (Keep.refl 0 0 w2).alloc (.cells #[.int .i64 p, .int .i64 sd, .int .i64 sq, .slice G zs.length cap] 24)
  have bx0 := Box4v.new w2 (.int .i64 p) (.int .i64 sd) (.int .i64 sq) (.slice G zs.length cap) 24
  have hz3 : w2.heap.size + 1 ≤ (w2.alloc (.cells #[.int .i64 p, .int .i64 sd, .int .i64 sq, .slice G zs.length cap] 24)).heap.size := by simp
  replace h0 := h0.keep hk3 (by omega)
  replace u0 := u0.keep hk3 (by omega)
  replace bb := bb.trans (hk3.below (by omega) bb.size)
  clear hk3
  generalize w2.alloc (.cells #[.int .i64 p, .int .i64 sd, .int .i64 sq, .slice G zs.length cap] 24) = w3 at *
  refine (toByteS_any A0 n0 c0 _ _ xs0 w3 h0 (by omega)).mono ?_
  rintro e w4 ⟨t0, rfl, x0, hb4⟩
  have hk4 := Keep.of_below hb4 0 0
  have hz4 := hb4.size
  replace h0 := h0.keep hk4 (by omega)
  replace u0 := u0.keep hk4 (by omega)
  replace bx0 := bx0.keep hk4 (by omega)
  replace bb := bb.trans (hk4.below (by omega) bb.size)
  clear hb4 hk4
  go_wp2_with fail
  refine (pans_at (implHead_any _ n0 n0 _ xs0 w4 x0.rd0 (Nat.le_refl _)) HP.out HS.out HQ.out HZ.out).mono ?_
  rintro e w5 ⟨G1, cap1, rfl, _, u1, hb5⟩
  have hk5 := Keep.of_below hb5 0 0
  have hz5 := hb5.size
  replace h0 := h0.keep hk5 (by omega)
  replace u0 := u0.keep hk5 (by omega)
  replace bx0 := bx0.keep hk5 (by omega)
  replace x0 := x0.keep hk5 (by omega)
  replace bb := bb.trans (hk5.below (by omega) bb.size)
  clear hb5 hk5
  have bx0lt := bx0.1
  have bx0c0 := bx0.2.1
  have bx0c1 := bx0.2.2.1
  have bx0c2 := bx0.2.2.2.1
  have bx0c3 := bx0.2.2.2.2
  go_wp2_with fail
  clear bx0lt bx0c0 bx0c1 bx0c2 bx0c3
  have hk6 := (Keep.refl 0 0 w5).alloc (.cells #[.int .i64 p, .int .i64 sd, .int .i64 sq, .slice G1 zs.length cap1] 24)
  have bx1 := Box4v.new w5 (.int .i64 p) (.int .i64 sd) (.int .i64 sq) (.slice G1 zs.length cap1) 24
  have hz6 : w5.heap.size + 1 ≤ (w5.alloc (.cells #[.int .i64 p, .int .i64 sd, .int .i64 sq, .slice G1 zs.length cap1] 24)).heap.size := by simp
  replace h0 := h0.keep hk6 (by omega)
  replace u0 := u0.keep hk6 (by omega)
  replace bx0 := bx0.keep hk6 (by omega)
  replace x0 := x0.keep hk6 (by omega)
  replace u1 := u1.keep hk6 (by omega)
  replace bb := bb.trans (hk6.below (by omega) bb.size)
  clear hk6
  generalize w5.alloc (.cells #[.int .i64 p, .int .i64 sd, .int .i64 sq, .slice G1 zs.length cap1] 24) = w6 at *
  refine (eqPacketResult_true p sd sq _ _ zs.length _ _ _ _ _ _ zs w6 u1.1 u0.1).mono ?_
  rintro e w7 ⟨rfl, hk7⟩
  have hz7 := hk7.size
  replace h0 := h0.keep hk7 (by omega)
  replace u0 := u0.keep hk7 (by omega)
  replace bx0 := bx0.keep hk7 (by omega)
  replace x0 := x0.keep hk7 (by omega)
  replace u1 := u1.keep hk7 (by omega)
  replace bx1 := bx1.keep hk7 (by omega)
  replace bb := bb.trans (hk7.below (by omega) bb.size)
  clear hk7
  go_wp2_with fail
  refine (toByteS_any A0 n0 c0 _ _ xs0 w7 h0 (by omega)).mono ?_
  rintro e w8 ⟨t0, rfl, r0, hb8⟩
  have hk8 := Keep.of_below hb8 0 0
  have hz8 := hb8.size
  replace h0 := h0.keep hk8 (by omega)
  replace u0 := u0.keep hk8 (by omega)
  replace bx0 := bx0.keep hk8 (by omega)
  replace x0 := x0.keep hk8 (by omega)
  replace u1 := u1.keep hk8 (by omega)
  replace bx1 := bx1.keep hk8 (by omega)
  replace bb := bb.trans (hk8.below (by omega) bb.size)
  clear hb8 hk8
  go_wp2_with fail
  refine (eqByteS_true _ _ n0 n0 n0 _ _ _ _ xs0 w8 x0.1 r0.1).mono ?_
  rintro e w9 ⟨rfl, q9, hq9⟩
  have hk9 : Keep 0 0 w8 w9 := by rw [hq9]; exact (Keep.refl 0 0 _).drewN _
  clear hq9
  have hz9 := hk9.size
  replace h0 := h0.keep hk9 (by omega)
  replace u0 := u0.keep hk9 (by omega)
  replace bx0 := bx0.keep hk9 (by omega)
  replace x0 := x0.keep hk9 (by omega)
  replace u1 := u1.keep hk9 (by omega)
  replace bx1 := bx1.keep hk9 (by omega)
  replace r0 := r0.keep hk9 (by omega)
  replace bb := bb.trans (hk9.below (by omega) bb.size)
  clear hk9
  clear r0
  go_wp2_with fail
  refine (markByteS_any _ n0 n0 _ _ (1) xs0 w9 x0 (by omega) (by omega)).mono ?_
  rintro e w10 ⟨rfl, y0, hk10⟩
  have hz10 := hk10.size
  replace h0 := h0.keep hk10 (by omega)
  replace u0 := u0.keep hk10 (by omega)
  replace bx0 := bx0.keep hk10 (by omega)
  replace u1 := u1.keep hk10 (by omega)
  replace bx1 := bx1.keep hk10 (by omega)
  replace bb := bb.trans (hk10.below (by omega) bb.size)
  clear hk10
  clear x0
  have hn1 : ¬ (1 + (n0 : Int)) < 0 := by omega
  have bx0c0 := bx0.2.1
  have bx0c1 := bx0.2.2.1
  have bx0c2 := bx0.2.2.2.1
  have bx0c3 := bx0.2.2.2.2
  have bx1c0 := bx1.2.1
  have bx1c1 := bx1.2.2.1
  have bx1c2 := bx1.2.2.2.1
  have bx1c3 := bx1.2.2.2.2
  go_wp2_with fail
  clear bx0c0 bx0c1 bx0c2 bx0c3
  clear bx1c0 bx1c1 bx1c2 bx1c3
  clear hn1
  refine (eqPacketResult_true p sd sq _ _ zs.length _ _ _ _ _ _ zs w10 u1.1 u0.1).mono ?_
  rintro e w11 ⟨rfl, hk11⟩
  have hz11 := hk11.size
  replace h0 := h0.keep hk11 (by omega)
  replace u0 := u0.keep hk11 (by omega)
  replace bx0 := bx0.keep hk11 (by omega)
  replace u1 := u1.keep hk11 (by omega)
  replace bx1 := bx1.keep hk11 (by omega)
  replace y0 := y0.keep hk11 (by omega)
  replace bb := bb.trans (hk11.below (by omega) bb.size)
  clear hk11
  have bx1c0 := bx1.2.1
  have bx1c1 := bx1.2.2.1
  have bx1c2 := bx1.2.2.2.1
  have bx1c3 := bx1.2.2.2.2
  go_wp2_with fail
  clear bx1c0 bx1c1 bx1c2 bx1c3
  refine (markPacketResult_any p sd sq _ zs.length _ _ _ 1 zs w11 u1 (by omega) (by omega)).mono ?_
  rintro e w12 ⟨rfl, u1', hk12⟩
  have hz12 := hk12.size
  replace h0 := h0.keep hk12 (by omega)
  replace u0 := u0.keep hk12 (by omega)
  replace bx0 := bx0.keep hk12 (by omega)
  replace bx1 := bx1.keep hk12 (by omega)
  replace y0 := y0.keep hk12 (by omega)
  replace bb := bb.trans (hk12.below (by omega) bb.size)
  clear hk12
  clear u1
  have bx1c0 := bx1.2.1
  have bx1c1 := bx1.2.2.1
  have bx1c2 := bx1.2.2.2.1
  have bx1c3 := bx1.2.2.2.2
  go_wp2_with fail
  clear bx1c0 bx1c1 bx1c2 bx1c3
  refine (heldPacketResult_any p sd sq _ zs.length _ _ _ 1 w12 u1'.1 (by omega) (by omega)).mono ?_
  rintro e w13 ⟨rfl, hk13⟩
  have hz13 := hk13.size
  replace h0 := h0.keep hk13 (by omega)
  replace u0 := u0.keep hk13 (by omega)
  replace bx0 := bx0.keep hk13 (by omega)
  replace bx1 := bx1.keep hk13 (by omega)
  replace y0 := y0.keep hk13 (by omega)
  replace u1' := u1'.keep hk13 (by omega)
  replace bb := bb.trans (hk13.below (by omega) bb.size)
  clear hk13
  have hn2 : ¬ (1 + (zs.length : Int)) < 0 := by omega
  go_wp2_with fail
  refine (toByteS_any A0 n0 c0 _ _ xs0 w13 h0 (by omega)).mono ?_
  rintro e w14 ⟨t0, rfl, r0, hb14⟩
  have hk14 := Keep.of_below hb14 0 0
  have hz14 := hb14.size
  replace h0 := h0.keep hk14 (by omega)
  replace u0 := u0.keep hk14 (by omega)
  replace bx0 := bx0.keep hk14 (by omega)
  replace bx1 := bx1.keep hk14 (by omega)
  replace y0 := y0.keep hk14 (by omega)
  replace u1' := u1'.keep hk14 (by omega)
  replace bb := bb.trans (hk14.below (by omega) bb.size)
  clear hb14 hk14
  go_wp2_with fail
  refine (pans_at (implHead_any _ n0 n0 _ xs0 w14 r0.rd0 (Nat.le_refl _)) HP.out HS.out HQ.out HZ.out).mono ?_
  rintro e w15 ⟨G2, cap2, rfl, _, u2, hb15⟩
  have hk15 := Keep.of_below hb15 0 0
  have hz15 := hb15.size
  replace h0 := h0.keep hk15 (by omega)
  replace u0 := u0.keep hk15 (by omega)
  replace bx0 := bx0.keep hk15 (by omega)
  replace bx1 := bx1.keep hk15 (by omega)
  replace y0 := y0.keep hk15 (by omega)
  replace u1' := u1'.keep hk15 (by omega)
  replace r0 := r0.keep hk15 (by omega)
  replace bb := bb.trans (hk15.below (by omega) bb.size)
  clear hb15 hk15
  clear r0
  have bx0lt := bx0.1
  have bx0c0 := bx0.2.1
  have bx0c1 := bx0.2.2.1
  have bx0c2 := bx0.2.2.2.1
  have bx0c3 := bx0.2.2.2.2
  go_wp2_with fail
  clear bx0lt bx0c0 bx0c1 bx0c2 bx0c3
  have hk16 := (Keep.refl 0 0 w15).alloc (.cells #[.int .i64 p, .int .i64 sd, .int .i64 sq, .slice G2 zs.length cap2] 24)
  have bx2 := Box4v.new w15 (.int .i64 p) (.int .i64 sd) (.int .i64 sq) (.slice G2 zs.length cap2) 24
  have hz16 : w15.heap.size + 1 ≤ (w15.alloc (.cells #[.int .i64 p, .int .i64 sd, .int .i64 sq, .slice G2 zs.length cap2] 24)).heap.size := by simp
  replace h0 := h0.keep hk16 (by omega)
  replace u0 := u0.keep hk16 (by omega)
  replace bx0 := bx0.keep hk16 (by omega)
  replace bx1 := bx1.keep hk16 (by omega)
  replace y0 := y0.keep hk16 (by omega)
  replace u1' := u1'.keep hk16 (by omega)
  replace u2 := u2.keep hk16 (by omega)
  replace bb := bb.trans (hk16.below (by omega) bb.size)
  clear hk16
  generalize w15.alloc (.cells #[.int .i64 p, .int .i64 sd, .int .i64 sq, .slice G2 zs.length cap2] 24) = w16 at *
  refine (eqPacketResult_true p sd sq _ _ zs.length _ _ _ _ _ _ zs w16 u2.1 u0.1).mono ?_
  rintro e w17 ⟨rfl, hk17⟩
  have hz17 := hk17.size
  replace h0 := h0.keep hk17 (by omega)
  replace u0 := u0.keep hk17 (by omega)
  replace bx0 := bx0.keep hk17 (by omega)
  replace bx1 := bx1.keep hk17 (by omega)
  replace y0 := y0.keep hk17 (by omega)
  replace u1' := u1'.keep hk17 (by omega)
  replace u2 := u2.keep hk17 (by omega)
  replace bx2 := bx2.keep hk17 (by omega)
  replace bb := bb.trans (hk17.below (by omega) bb.size)
  clear hk17
  have bx1c0 := bx1.2.1
  have bx1c1 := bx1.2.2.1
  have bx1c2 := bx1.2.2.2.1
  have bx1c3 := bx1.2.2.2.2
  go_wp2_with fail
  clear bx1c0 bx1c1 bx1c2 bx1c3
  refine (heldPacketResult_any p sd sq _ zs.length _ _ _ 1 w17 u1'.1 (by omega) (by omega)).mono ?_
  rintro e w18 ⟨rfl, hk18⟩
  have hz18 := hk18.size
  replace h0 := h0.keep hk18 (by omega)
  replace u0 := u0.keep hk18 (by omega)
  replace bx0 := bx0.keep hk18 (by omega)
  replace bx1 := bx1.keep hk18 (by omega)
  replace y0 := y0.keep hk18 (by omega)
  replace u1' := u1'.keep hk18 (by omega)
  replace u2 := u2.keep hk18 (by omega)
  replace bx2 := bx2.keep hk18 (by omega)
  replace bb := bb.trans (hk18.below (by omega) bb.size)
  clear hk18
  have hn3 : ¬ (1 + (zs.length : Int)) < 0 := by omega
  go_wp2_with fail
  go_ret
  exact ⟨rfl, bb⟩

end Go.Proofs.Ytpnpjngaenlciaa
