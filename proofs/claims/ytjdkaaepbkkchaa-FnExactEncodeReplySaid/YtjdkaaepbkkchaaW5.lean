/-
  The walk of FnExactEncodeReply.
-/
import Derived.Test.YtjdkaaepbkkchaaW4
namespace Go.Proofs.Ytjdkaaepbkkchaa
open Go.RowKit
set_option linter.unusedVariables false
set_option maxRecDepth 100000

set_option maxHeartbeats 2000000 in
theorem exactEncodeReply (a s c : Int) (w : World) :
    Calls Try.prog 6 #[.agg #[.int .i64 a, .int .i64 s, .int .i64 c]] w fun e w' => e = .returned (.bool true) ∧ Below w.heap.size w w' := by
  have hl0 : (repAns a s c).length ≤ 9 := by
    unfold repAns
    split
    · rw [repL_len]; omega
    · simp
  have HS := Lib.hid (fun w' => specEncReply_any a s c w')
  have HI := Lib.hid (fun w' => implEncReply_any a s c w')
  generalize replyCode a s c = p at *
  generalize repAns a s c = zs at *
  go_enter Try.func6, Try.ntmps6
  have bb := Below.refl w.heap.size w
  go_wp2_with fail
  have hk1 := (Keep.refl 0 0 w).alloc (.cells #[.int .i64 a, .int .i64 s, .int .i64 c] 41)
  have ba := BoxL.new w [.int .i64 a, .int .i64 s, .int .i64 c] #[.int .i64 a, .int .i64 s, .int .i64 c] 41 rfl
  have hz1 : w.heap.size + 1 ≤ (w.alloc (.cells #[.int .i64 a, .int .i64 s, .int .i64 c] 41)).heap.size := by simp
  replace bb := bb.trans (hk1.below (by omega) bb.size)
  clear hk1
  generalize w.alloc (.cells #[.int .i64 a, .int .i64 s, .int .i64 c] 41) = w1 at *
  refine (toReply_any a s c w1).mono ?_
  rintro e w2 ⟨rfl, hb2⟩
  have hk2 := Keep.of_below hb2 0 0
  have hz2 := hb2.size
  replace ba := ba.keep hk2 (by omega)
  replace bb := bb.trans (hk2.below (by omega) bb.size)
  clear hb2 hk2
  go_wp2_with fail
  refine (HS.out w2).mono ?_
  rintro e w3 ⟨G0, cap0, rfl, _, _, u0, hb3⟩
  have hk3 := Keep.of_below hb3 0 0
  have hz3 := hb3.size
  replace ba := ba.keep hk3 (by omega)
  replace bb := bb.trans (hk3.below (by omega) bb.size)
  clear hb3 hk3
  have balt := ba.lt
  have bac0 := ba.at_ 0 _ rfl
  have bac1 := ba.at_ 1 _ rfl
  have bac2 := ba.at_ 2 _ rfl
  go_wp2_with fail
  clear balt bac0 bac1 bac2
  have hk4 := (Keep.refl 0 0 w3).alloc (.cells #[.int .i64 p, .slice G0 zs.length cap0] 35)
  have b0 := BoxL.new w3 [.int .i64 p, .slice G0 zs.length cap0] #[.int .i64 p, .slice G0 zs.length cap0] 35 rfl
  have hz4 : w3.heap.size + 1 ≤ (w3.alloc (.cells #[.int .i64 p, .slice G0 zs.length cap0] 35)).heap.size := by simp
  replace ba := ba.keep hk4 (by omega)
  replace u0 := u0.keep hk4 (by omega)
  replace bb := bb.trans (hk4.below (by omega) bb.size)
  clear hk4
  generalize w3.alloc (.cells #[.int .i64 p, .slice G0 zs.length cap0] 35) = w4 at *
  refine (toReply_any a s c w4).mono ?_
  rintro e w5 ⟨rfl, hb5⟩
  have hk5 := Keep.of_below hb5 0 0
  have hz5 := hb5.size
  replace ba := ba.keep hk5 (by omega)
  replace u0 := u0.keep hk5 (by omega)
  replace b0 := b0.keep hk5 (by omega)
  replace bb := bb.trans (hk5.below (by omega) bb.size)
  clear hb5 hk5
  go_wp2_with fail
  refine (HI.out w5).mono ?_
  rintro e w6 ⟨G1, cap1, rfl, _, _, u1, hb6⟩
  have hk6 := Keep.of_below hb6 0 0
  have hz6 := hb6.size
  replace ba := ba.keep hk6 (by omega)
  replace u0 := u0.keep hk6 (by omega)
  replace b0 := b0.keep hk6 (by omega)
  replace bb := bb.trans (hk6.below (by omega) bb.size)
  clear hb6 hk6
  have balt := ba.lt
  have bac0 := ba.at_ 0 _ rfl
  have bac1 := ba.at_ 1 _ rfl
  have bac2 := ba.at_ 2 _ rfl
  have b0lt := b0.lt
  have b0c0 := b0.at_ 0 _ rfl
  have b0c1 := b0.at_ 1 _ rfl
  go_wp2_with fail
  clear balt bac0 bac1 bac2 b0lt b0c0 b0c1
  have hk7 := (Keep.refl 0 0 w6).alloc (.cells #[.int .i64 p, .slice G1 zs.length cap1] 35)
  have b1 := BoxL.new w6 [.int .i64 p, .slice G1 zs.length cap1] #[.int .i64 p, .slice G1 zs.length cap1] 35 rfl
  have hz7 : w6.heap.size + 1 ≤ (w6.alloc (.cells #[.int .i64 p, .slice G1 zs.length cap1] 35)).heap.size := by simp
  replace ba := ba.keep hk7 (by omega)
  replace u0 := u0.keep hk7 (by omega)
  replace b0 := b0.keep hk7 (by omega)
  replace u1 := u1.keep hk7 (by omega)
  replace bb := bb.trans (hk7.below (by omega) bb.size)
  clear hk7
  generalize w6.alloc (.cells #[.int .i64 p, .slice G1 zs.length cap1] 35) = w7 at *
  refine (eqBytesResult_true p _ _ zs.length _ _ _ _ _ _ zs w7 u1.1 u0.1).mono ?_
  rintro e w8 ⟨rfl, hk8⟩
  have hz8 := hk8.size
  replace ba := ba.keep hk8 (by omega)
  replace u0 := u0.keep hk8 (by omega)
  replace b0 := b0.keep hk8 (by omega)
  replace u1 := u1.keep hk8 (by omega)
  replace b1 := b1.keep hk8 (by omega)
  replace bb := bb.trans (hk8.below (by omega) bb.size)
  clear hk8
  have b1lt := b1.lt
  have b1c0 := b1.at_ 0 _ rfl
  have b1c1 := b1.at_ 1 _ rfl
  go_wp2_with fail
  clear b1lt b1c0 b1c1
  refine (markBytesResult_any p _ zs.length _ _ _ 1 zs w8 u1 (by omega) (by omega)).mono ?_
  rintro e w9 ⟨rfl, u1', hk9⟩
  have hz9 := hk9.size
  replace ba := ba.keep hk9 (by omega)
  replace u0 := u0.keep hk9 (by omega)
  replace b0 := b0.keep hk9 (by omega)
  replace b1 := b1.keep hk9 (by omega)
  replace bb := bb.trans (hk9.below (by omega) bb.size)
  clear hk9
  clear u1
  have b1lt := b1.lt
  have b1c0 := b1.at_ 0 _ rfl
  have b1c1 := b1.at_ 1 _ rfl
  go_wp2_with fail
  clear b1lt b1c0 b1c1
  refine (heldBytesResult_any p _ zs.length _ _ _ 1 w9 u1'.1 (by omega) (by omega)).mono ?_
  rintro e w10 ⟨rfl, hk10⟩
  have hz10 := hk10.size
  replace ba := ba.keep hk10 (by omega)
  replace u0 := u0.keep hk10 (by omega)
  replace b0 := b0.keep hk10 (by omega)
  replace b1 := b1.keep hk10 (by omega)
  replace u1' := u1'.keep hk10 (by omega)
  replace bb := bb.trans (hk10.below (by omega) bb.size)
  clear hk10
  have hn2 : ¬ (1 + (zs.length : Int)) < 0 := by omega
  have balt := ba.lt
  have bac0 := ba.at_ 0 _ rfl
  have bac1 := ba.at_ 1 _ rfl
  have bac2 := ba.at_ 2 _ rfl
  go_wp2_with fail
  clear balt bac0 bac1 bac2
  refine (toReply_any a s c w10).mono ?_
  rintro e w11 ⟨rfl, hb11⟩
  have hk11 := Keep.of_below hb11 0 0
  have hz11 := hb11.size
  replace ba := ba.keep hk11 (by omega)
  replace u0 := u0.keep hk11 (by omega)
  replace b0 := b0.keep hk11 (by omega)
  replace b1 := b1.keep hk11 (by omega)
  replace u1' := u1'.keep hk11 (by omega)
  replace bb := bb.trans (hk11.below (by omega) bb.size)
  clear hb11 hk11
  go_wp2_with fail
  refine (HI.out w11).mono ?_
  rintro e w12 ⟨G2, cap2, rfl, _, _, u2, hb12⟩
  have hk12 := Keep.of_below hb12 0 0
  have hz12 := hb12.size
  replace ba := ba.keep hk12 (by omega)
  replace u0 := u0.keep hk12 (by omega)
  replace b0 := b0.keep hk12 (by omega)
  replace b1 := b1.keep hk12 (by omega)
  replace u1' := u1'.keep hk12 (by omega)
  replace bb := bb.trans (hk12.below (by omega) bb.size)
  clear hb12 hk12
  have b0lt := b0.lt
  have b0c0 := b0.at_ 0 _ rfl
  have b0c1 := b0.at_ 1 _ rfl
  go_wp2_with fail
  clear b0lt b0c0 b0c1
  have hk13 := (Keep.refl 0 0 w12).alloc (.cells #[.int .i64 p, .slice G2 zs.length cap2] 35)
  have b2 := BoxL.new w12 [.int .i64 p, .slice G2 zs.length cap2] #[.int .i64 p, .slice G2 zs.length cap2] 35 rfl
  have hz13 : w12.heap.size + 1 ≤ (w12.alloc (.cells #[.int .i64 p, .slice G2 zs.length cap2] 35)).heap.size := by simp
  replace ba := ba.keep hk13 (by omega)
  replace u0 := u0.keep hk13 (by omega)
  replace b0 := b0.keep hk13 (by omega)
  replace b1 := b1.keep hk13 (by omega)
  replace u1' := u1'.keep hk13 (by omega)
  replace u2 := u2.keep hk13 (by omega)
  replace bb := bb.trans (hk13.below (by omega) bb.size)
  clear hk13
  generalize w12.alloc (.cells #[.int .i64 p, .slice G2 zs.length cap2] 35) = w13 at *
  refine (eqBytesResult_true p _ _ zs.length _ _ _ _ _ _ zs w13 u2.1 u0.1).mono ?_
  rintro e w14 ⟨rfl, hk14⟩
  have hz14 := hk14.size
  replace ba := ba.keep hk14 (by omega)
  replace u0 := u0.keep hk14 (by omega)
  replace b0 := b0.keep hk14 (by omega)
  replace b1 := b1.keep hk14 (by omega)
  replace u1' := u1'.keep hk14 (by omega)
  replace u2 := u2.keep hk14 (by omega)
  replace b2 := b2.keep hk14 (by omega)
  replace bb := bb.trans (hk14.below (by omega) bb.size)
  clear hk14
  have b1lt := b1.lt
  have b1c0 := b1.at_ 0 _ rfl
  have b1c1 := b1.at_ 1 _ rfl
  go_wp2_with fail
  clear b1lt b1c0 b1c1
  refine (heldBytesResult_any p _ zs.length _ _ _ 1 w14 u1'.1 (by omega) (by omega)).mono ?_
  rintro e w15 ⟨rfl, hk15⟩
  have hz15 := hk15.size
  replace ba := ba.keep hk15 (by omega)
  replace u0 := u0.keep hk15 (by omega)
  replace b0 := b0.keep hk15 (by omega)
  replace b1 := b1.keep hk15 (by omega)
  replace u1' := u1'.keep hk15 (by omega)
  replace u2 := u2.keep hk15 (by omega)
  replace b2 := b2.keep hk15 (by omega)
  replace bb := bb.trans (hk15.below (by omega) bb.size)
  clear hk15
  go_wp2_with fail
  go_ret
  exact ⟨rfl, bb⟩
end Go.Proofs.Ytjdkaaepbkkchaa
