/-
  The walk of FnExactTrimLog.
-/
import Derived.Test.YtjibfncdkcmhcaaV5
import Derived.Test.YtjibfncdkcmhcaaLp
import Derived.Test.YtjibfncdkcmhcaaT9
import Derived.Test.YtjibfncdkcmhcaaT10
import Derived.Test.YtjibfncdkcmhcaaT11
import Derived.Test.YtjibfncdkcmhcaaL0
import Derived.Deep.RegionWith
import Derived.Deep.CutRange
namespace Go.Proofs.Ytjibfncdkcmhcaa
open Go.RowKit
set_option linter.unusedVariables false
set_option maxRecDepth 100000

set_option maxHeartbeats 2000000 in
theorem exactTrimLog (bs room tp : Int) (A : Option Addr) (n c : Nat) (xs : List Itm) (w : World) (hbs : -9223372036854775808 ≤ bs ∧ bs ≤ 9223372036854775807) (h : Rt w 0 w.heap.size A n xs) :
    Calls Try.prog 8 #[.agg #[.int .i64 bs, .slice A n c], .int .i64 room, .int .i64 tp] w fun e w' => e = .returned (.bool true) ∧ Below w.heap.size w w' := by
  have hint := h.int
  have hlx := h.len
  have HS1 := Lib.hid (fun w' (h' : Rt w' 0 w.heap.size A n xs) => szLog_any bs A n c _ _ xs 1048576 w' h' (by omega) (by omega))
  by_cases hn1 : (1048576 : Int) < (xs.length : Int) + sumLen xs
  · have hsz : szT 1048576 xs = -1 := by unfold szT; rw [if_pos hn1]
    rw [hsz] at HS1
    go_enter Try.func8, Try.ntmps8
    go_wp2_with fail
    refine (HS1.out _ (h.keep ((Keep.refl 0 0 w).alloc (.cells #[.int .i64 bs, .slice A n c] 64)) (by omega))).mono ?_
    rintro e w1 ⟨rfl, k1⟩
    have bb := (((Keep.refl 0 0 w).alloc (.cells #[.int .i64 bs, .slice A n c] 64)).trans k1).below (B := w.heap.size) (by omega) (Nat.le_refl _)
    go_wp2_with fail
    go_ret
    exact ⟨rfl, bb⟩
  obtain ⟨left1, hleft1⟩ : ∃ left, szT 1048576 xs = left := ⟨_, rfl⟩
  have hl1 : 0 ≤ left1 ∧ left1 ≤ 1048576 := by rw [← hleft1]; unfold szT; rw [if_neg hn1]; omega
  rw [hleft1] at HS1
  have j1 : ¬ left1 < 0 := by omega
  have HX1 := Lib.hid (fun x (hx : x ∈ xs) => show x.2.1.length ≤ 281474976710656 by
    have := mem_sumLen hx
    omega)
  obtain ⟨cc, hcc⟩ : ∃ cc, trimCode bs room tp xs = cc := ⟨_, rfl⟩
  obtain ⟨tb, htb⟩ : ∃ tb, trimBase bs room tp xs = tb := ⟨_, rfl⟩
  obtain ⟨zs, hzs⟩ : ∃ zs, trimOut bs room tp xs = zs := ⟨_, rfl⟩
  have hn3 : n ≤ 1048576 := by omega
  have HSP := Lib.hid (fun g hi' w' (h' : Rt w' 0 hi' (some ⟨g, 0, none⟩) n xs) => lp_at (specTrim_lp bs room tp g 0 n n hi' xs w' h' ⟨Nat.le_refl _, by omega⟩ hbs) hcc htb hzs)
  have HIP := Lib.hid (fun g hi' w' (h' : Rt w' 0 hi' (some ⟨g, 0, none⟩) n xs) => lp_at (implTrim_any bs room tp g 0 n n hi' xs w' h' ⟨Nat.le_refl _, by omega⟩ hbs) hcc htb hzs)
  obtain ⟨mk, hmk⟩ : ∃ mk : Int, 1 + ((3 * n + sumLen xs : Nat) : Int) = mk := ⟨_, rfl⟩
  have hmk0 : ¬ mk < 0 := by omega
  have HMK := Lib.hid (fun A' c' lo' hi' w' (h' : Wt w' lo' hi' A' n xs) => hmk ▸ markLog_any bs A' n c' lo' hi' 1 xs w' h' (by omega) (by omega))
  have HZL : Hid (zs.length ≤ xs.length ∧ sumLen zs ≤ sumLen xs) := by rw [← hzs]; exact trimOut_small bs room tp xs
  have hzl := HZL.out
  obtain ⟨mz, hmz⟩ : ∃ mz : Int, 1 + ((3 * zs.length + sumLen zs : Nat) : Int) = mz := ⟨_, rfl⟩
  have hmz0 : ¬ mz < 0 := by omega
  have HMR := Lib.hid (fun A' c' lo' hi' w' (h' : Wt w' lo' hi' A' zs.length zs) => hmz ▸ markLogResult_any cc tb A' zs.length c' lo' hi' 1 zs w' h' (by omega) (by omega))
  have HHR := Lib.hid (fun A' c' lo' hi' w' (h' : Rt w' lo' hi' A' zs.length (markT 1 zs)) => hmz ▸ heldLogResult_any cc tb A' zs.length c' lo' hi' 1 zs w' rfl h' (by omega) (by omega))
  clear hn1 hleft1 hlx hmk hmz hcc hzs htb hzl HZL
  go_enter Try.func8, Try.ntmps8
  have bb := Below.refl w.heap.size w
  go_wp2_with fail
  have hk1 := (Keep.refl 0 0 w).alloc (.cells #[.int .i64 bs, .slice A n c] 64)
  have ba := Box2.new w (.int .i64 bs) (.slice A n c) 64
  have hz1 : w.heap.size + 1 ≤ (w.alloc (.cells #[.int .i64 bs, .slice A n c] 64)).heap.size := by simp
  replace h := h.keep hk1 (by omega)
  replace bb := bb.trans (hk1.below (by omega) bb.size)
  clear hk1
  generalize w.alloc (.cells #[.int .i64 bs, .slice A n c] 64) = w1 at *
  refine (HS1.out w1 h).mono ?_
  rintro e w2 ⟨rfl, hk2⟩
  have hz2 := hk2.size
  replace h := h.keep hk2 (by omega)
  replace ba := ba.keep hk2 (by omega)
  replace bb := bb.trans (hk2.below (by omega) bb.size)
  clear hk2
  have bac0 := ba.2.1
  have bac1 := ba.2.2
  go_wp2_with fail
  clear bac0 bac1
  refine (toLog_any bs A n c _ xs w2 h (by omega) HX1.out).mono ?_
  rintro e w3 ⟨g1, rfl, u1, hb3⟩
  have hk3 := Keep.of_below hb3 0 0
  have hz3 := hb3.size
  replace h := h.keep hk3 (by omega)
  replace ba := ba.keep hk3 (by omega)
  replace bb := bb.trans (hk3.below (by omega) bb.size)
  clear hb3 hk3
  go_wp2_with fail
  refine (HSP.out g1 _ w3 (u1.rt.wide (Nat.zero_le _) (Nat.le_refl _) u1.top)).mono ?_
  rintro e w4 ⟨G0, cap0, rfl, z0, hb4⟩
  have hk4 := Keep.of_below hb4 0 0
  have hz4 := hb4.size
  replace h := h.keep hk4 (by omega)
  replace ba := ba.keep hk4 (by omega)
  replace u1 := u1.keep hk4 (by omega)
  replace bb := bb.trans (hk4.below (by omega) bb.size)
  clear hb4 hk4
  clear u1
  have balt := ba.1
  have bac0 := ba.2.1
  have bac1 := ba.2.2
  go_wp2_with fail
  clear balt bac0 bac1
  have hk5 := (Keep.refl 0 0 w4).alloc (.cells #[.int .i64 cc, .int .i64 tb, .slice G0 zs.length cap0] 32)
  have bx0 := Box3.new w4 (.int .i64 cc) (.int .i64 tb) (.slice G0 zs.length cap0) 32
  have hz5 : w4.heap.size + 1 ≤ (w4.alloc (.cells #[.int .i64 cc, .int .i64 tb, .slice G0 zs.length cap0] 32)).heap.size := by simp
  replace h := h.keep hk5 (by omega)
  replace ba := ba.keep hk5 (by omega)
  replace z0 := z0.keep hk5 (by omega)
  replace bb := bb.trans (hk5.below (by omega) bb.size)
  clear hk5
  generalize w4.alloc (.cells #[.int .i64 cc, .int .i64 tb, .slice G0 zs.length cap0] 32) = w5 at *
  refine (toLog_any bs A n c _ xs w5 h (by omega) HX1.out).mono ?_
  rintro e w6 ⟨g2, rfl, u2, hb6⟩
  have hk6 := Keep.of_below hb6 0 0
  have hz6 := hb6.size
  replace h := h.keep hk6 (by omega)
  replace ba := ba.keep hk6 (by omega)
  replace z0 := z0.keep hk6 (by omega)
  replace bx0 := bx0.keep hk6 (by omega)
  replace bb := bb.trans (hk6.below (by omega) bb.size)
  clear hb6 hk6
  go_wp2_with fail
  have hk7 := (Keep.refl 0 0 w6).alloc (.cells #[.int .i64 bs, .slice (some ⟨g2, 0, none⟩) n n] 26)
  have bx := Box2.new w6 (.int .i64 bs) (.slice (some ⟨g2, 0, none⟩) n n) 26
  have hz7 : w6.heap.size + 1 ≤ (w6.alloc (.cells #[.int .i64 bs, .slice (some ⟨g2, 0, none⟩) n n] 26)).heap.size := by simp
  replace h := h.keep hk7 (by omega)
  replace ba := ba.keep hk7 (by omega)
  replace z0 := z0.keep hk7 (by omega)
  replace bx0 := bx0.keep hk7 (by omega)
  replace u2 := u2.keep hk7 (by omega)
  replace bb := bb.trans (hk7.below (by omega) bb.size)
  clear hk7
  generalize w6.alloc (.cells #[.int .i64 bs, .slice (some ⟨g2, 0, none⟩) n n] 26) = w7 at *
  refine (HIP.out g2 _ w7 (u2.rt.wide (Nat.zero_le _) (Nat.le_refl _) u2.top)).mono ?_
  rintro e w8 ⟨G1, cap1, rfl, z1, hb8⟩
  have hk8 := Keep.of_below hb8 0 0
  have hz8 := hb8.size
  replace h := h.keep hk8 (by omega)
  replace ba := ba.keep hk8 (by omega)
  replace z0 := z0.keep hk8 (by omega)
  replace bx0 := bx0.keep hk8 (by omega)
  replace u2 := u2.keep hk8 (by omega)
  replace bx := bx.keep hk8 (by omega)
  replace bb := bb.trans (hk8.below (by omega) bb.size)
  clear hb8 hk8
  have bx0lt := bx0.1
  have bx0c0 := bx0.2.1
  have bx0c1 := bx0.2.2.1
  have bx0c2 := bx0.2.2.2
  go_wp2_with fail
  clear bx0lt bx0c0 bx0c1 bx0c2
  have hk9 := (Keep.refl 0 0 w8).alloc (.cells #[.int .i64 cc, .int .i64 tb, .slice G1 zs.length cap1] 32)
  have bx1 := Box3.new w8 (.int .i64 cc) (.int .i64 tb) (.slice G1 zs.length cap1) 32
  have hz9 : w8.heap.size + 1 ≤ (w8.alloc (.cells #[.int .i64 cc, .int .i64 tb, .slice G1 zs.length cap1] 32)).heap.size := by simp
  replace h := h.keep hk9 (by omega)
  replace ba := ba.keep hk9 (by omega)
  replace z0 := z0.keep hk9 (by omega)
  replace bx0 := bx0.keep hk9 (by omega)
  replace u2 := u2.keep hk9 (by omega)
  replace bx := bx.keep hk9 (by omega)
  replace z1 := z1.keep hk9 (by omega)
  replace bb := bb.trans (hk9.below (by omega) bb.size)
  clear hk9
  generalize w8.alloc (.cells #[.int .i64 cc, .int .i64 tb, .slice G1 zs.length cap1] 32) = w9 at *
  refine (eqLogResult_true cc tb G1 G0 zs.length cap1 cap0 _ _ _ _ zs w9 z1.rt z0.rt).mono ?_
  rintro e w10 ⟨rfl, hk10⟩
  have hz10 := hk10.size
  replace h := h.keep hk10 (by omega)
  replace ba := ba.keep hk10 (by omega)
  replace z0 := z0.keep hk10 (by omega)
  replace bx0 := bx0.keep hk10 (by omega)
  replace u2 := u2.keep hk10 (by omega)
  replace bx := bx.keep hk10 (by omega)
  replace z1 := z1.keep hk10 (by omega)
  replace bx1 := bx1.keep hk10 (by omega)
  replace bb := bb.trans (hk10.below (by omega) bb.size)
  clear hk10
  go_upto_region 10 with fail
  go_cut [39] from 35 to 39 (fun sv wx => sv = .bool false ∧ Below w10.heap.size w10 wx)
  case first =>
    have kd : Keep 0 0 w10 w10.drew := ⟨rfl, rfl, rfl, Nat.le_refl _, fun _ _ _ => rfl⟩
    have hD := h.keep kd (by omega)
    have uD := u2.keep kd (by omega)
    have baD := ba.keep kd (by omega)
    have ba_0 := baD.2.1
    have ba_1 := baD.2.2
    have bxD := bx.keep kd (by omega)
    have bx_0 := bxD.2.1
    have bx_1 := bxD.2.2
    have bD : Below w10.heap.size w10 w10.drew := ⟨rfl, rfl, rfl, Nat.le_refl _, fun _ _ => rfl⟩
    have zD : w10.heap.size ≤ w10.drew.heap.size := Nat.le_refl _
    go_region_with (first
      | (go_at_call 43; refine (toLog_any bs A n c _ xs _ hD (by omega) HX1.out).mono ?_; rintro e v1 ⟨g3, rfl, u3, hb⟩; have kx := Keep.of_below hb 0 0; have bxv := bxD.keep kx (by omega); have bxv_0 := bxv.2.1; have bxv_1 := bxv.2.2; have u2v := uD.keep kx (by omega); have bbv := bD.trans (hb.mono bD.size))
      | (go_at_call 44; refine (eqLog_true bs _ _ n n n _ _ _ _ xs _ u2v.rt u3.rt).mono ?_; rintro e v2 ⟨rfl, k2⟩; have bbz := bbv.trans (k2.below (B := w10.heap.size) (by omega) bbv.size)))
    all_goals
      go_wp2_with fail
      go_meet
      case rel => exact ⟨rfl, bbz⟩
  case rest =>
  obtain ⟨rfl, hb11⟩ := hcut
  have hk11 := Keep.of_below hb11 0 0
  have hz11 := hb11.size
  replace h := h.keep hk11 (by omega)
  replace ba := ba.keep hk11 (by omega)
  replace z0 := z0.keep hk11 (by omega)
  replace bx0 := bx0.keep hk11 (by omega)
  replace u2 := u2.keep hk11 (by omega)
  replace bx := bx.keep hk11 (by omega)
  replace z1 := z1.keep hk11 (by omega)
  replace bx1 := bx1.keep hk11 (by omega)
  replace bb := bb.trans (hk11.below (by omega) bb.size)
  clear hb11 hk11
  generalize hwc11 : wc = w11 at *
  clear hwc11
  have bxc0 := bx.2.1
  have bxc1 := bx.2.2
  go_wp2_with fail
  clear bxc0 bxc1
  refine (HMK.out _ n _ _ w11 u2).mono ?_
  rintro e w12 ⟨rfl, y2, hk12⟩
  have hz12 := hk12.size
  replace h := h.keep hk12 (by omega)
  replace ba := ba.keep hk12 (by omega)
  replace z0 := z0.keep hk12 (by omega)
  replace bx0 := bx0.keep hk12 (by omega)
  replace bx := bx.keep hk12 (by omega)
  replace z1 := z1.keep hk12 (by omega)
  replace bx1 := bx1.keep hk12 (by omega)
  replace bb := bb.trans (hk12.below (by omega) bb.size)
  clear hk12
  clear u2
  clear y2
  have bx0c0 := bx0.2.1
  have bx0c1 := bx0.2.2.1
  have bx0c2 := bx0.2.2.2
  have bx1c0 := bx1.2.1
  have bx1c1 := bx1.2.2.1
  have bx1c2 := bx1.2.2.2
  go_wp2_with fail
  clear bx0c0 bx0c1 bx0c2
  clear bx1c0 bx1c1 bx1c2
  refine (eqLogResult_true cc tb G1 G0 zs.length cap1 cap0 _ _ _ _ zs w12 z1.rt z0.rt).mono ?_
  rintro e w13 ⟨rfl, hk13⟩
  have hz13 := hk13.size
  replace h := h.keep hk13 (by omega)
  replace ba := ba.keep hk13 (by omega)
  replace z0 := z0.keep hk13 (by omega)
  replace bx0 := bx0.keep hk13 (by omega)
  replace bx := bx.keep hk13 (by omega)
  replace z1 := z1.keep hk13 (by omega)
  replace bx1 := bx1.keep hk13 (by omega)
  replace bb := bb.trans (hk13.below (by omega) bb.size)
  clear hk13
  have bx1c0 := bx1.2.1
  have bx1c1 := bx1.2.2.1
  have bx1c2 := bx1.2.2.2
  go_wp2_with fail
  clear bx1c0 bx1c1 bx1c2
  refine (HMR.out G1 cap1 _ _ w13 z1).mono ?_
  rintro e w14 ⟨rfl, z1', hk14⟩
  have hz14 := hk14.size
  replace h := h.keep hk14 (by omega)
  replace ba := ba.keep hk14 (by omega)
  replace z0 := z0.keep hk14 (by omega)
  replace bx0 := bx0.keep hk14 (by omega)
  replace bx := bx.keep hk14 (by omega)
  replace bx1 := bx1.keep hk14 (by omega)
  replace bb := bb.trans (hk14.below (by omega) bb.size)
  clear hk14
  clear z1
  have bx1c0 := bx1.2.1
  have bx1c1 := bx1.2.2.1
  have bx1c2 := bx1.2.2.2
  go_wp2_with fail
  clear bx1c0 bx1c1 bx1c2
  refine (HHR.out G1 cap1 _ _ w14 z1'.rt).mono ?_
  rintro e w15 ⟨rfl, hk15⟩
  have hz15 := hk15.size
  replace h := h.keep hk15 (by omega)
  replace ba := ba.keep hk15 (by omega)
  replace z0 := z0.keep hk15 (by omega)
  replace bx0 := bx0.keep hk15 (by omega)
  replace bx := bx.keep hk15 (by omega)
  replace bx1 := bx1.keep hk15 (by omega)
  replace z1' := z1'.keep hk15 (by omega)
  replace bb := bb.trans (hk15.below (by omega) bb.size)
  clear hk15
  have bac0 := ba.2.1
  have bac1 := ba.2.2
  go_wp2_with fail
  clear bac0 bac1
  refine (toLog_any bs A n c _ xs w15 h (by omega) HX1.out).mono ?_
  rintro e w16 ⟨g4, rfl, u4, hb16⟩
  have hk16 := Keep.of_below hb16 0 0
  have hz16 := hb16.size
  replace h := h.keep hk16 (by omega)
  replace ba := ba.keep hk16 (by omega)
  replace z0 := z0.keep hk16 (by omega)
  replace bx0 := bx0.keep hk16 (by omega)
  replace bx := bx.keep hk16 (by omega)
  replace bx1 := bx1.keep hk16 (by omega)
  replace z1' := z1'.keep hk16 (by omega)
  replace bb := bb.trans (hk16.below (by omega) bb.size)
  clear hb16 hk16
  go_wp2_with fail
  refine (HIP.out g4 _ w16 (u4.rt.wide (Nat.zero_le _) (Nat.le_refl _) u4.top)).mono ?_
  rintro e w17 ⟨G2, cap2, rfl, z2, hb17⟩
  have hk17 := Keep.of_below hb17 0 0
  have hz17 := hb17.size
  replace h := h.keep hk17 (by omega)
  replace ba := ba.keep hk17 (by omega)
  replace z0 := z0.keep hk17 (by omega)
  replace bx0 := bx0.keep hk17 (by omega)
  replace bx := bx.keep hk17 (by omega)
  replace bx1 := bx1.keep hk17 (by omega)
  replace z1' := z1'.keep hk17 (by omega)
  replace u4 := u4.keep hk17 (by omega)
  replace bb := bb.trans (hk17.below (by omega) bb.size)
  clear hb17 hk17
  clear u4
  have bx0lt := bx0.1
  have bx0c0 := bx0.2.1
  have bx0c1 := bx0.2.2.1
  have bx0c2 := bx0.2.2.2
  go_wp2_with fail
  clear bx0lt bx0c0 bx0c1 bx0c2
  have hk18 := (Keep.refl 0 0 w17).alloc (.cells #[.int .i64 cc, .int .i64 tb, .slice G2 zs.length cap2] 32)
  have bx2 := Box3.new w17 (.int .i64 cc) (.int .i64 tb) (.slice G2 zs.length cap2) 32
  have hz18 : w17.heap.size + 1 ≤ (w17.alloc (.cells #[.int .i64 cc, .int .i64 tb, .slice G2 zs.length cap2] 32)).heap.size := by simp
  replace h := h.keep hk18 (by omega)
  replace ba := ba.keep hk18 (by omega)
  replace z0 := z0.keep hk18 (by omega)
  replace bx0 := bx0.keep hk18 (by omega)
  replace bx := bx.keep hk18 (by omega)
  replace bx1 := bx1.keep hk18 (by omega)
  replace z1' := z1'.keep hk18 (by omega)
  replace z2 := z2.keep hk18 (by omega)
  replace bb := bb.trans (hk18.below (by omega) bb.size)
  clear hk18
  generalize w17.alloc (.cells #[.int .i64 cc, .int .i64 tb, .slice G2 zs.length cap2] 32) = w18 at *
  refine (eqLogResult_true cc tb G2 G0 zs.length cap2 cap0 _ _ _ _ zs w18 z2.rt z0.rt).mono ?_
  rintro e w19 ⟨rfl, hk19⟩
  have hz19 := hk19.size
  replace h := h.keep hk19 (by omega)
  replace ba := ba.keep hk19 (by omega)
  replace z0 := z0.keep hk19 (by omega)
  replace bx0 := bx0.keep hk19 (by omega)
  replace bx := bx.keep hk19 (by omega)
  replace bx1 := bx1.keep hk19 (by omega)
  replace z1' := z1'.keep hk19 (by omega)
  replace z2 := z2.keep hk19 (by omega)
  replace bx2 := bx2.keep hk19 (by omega)
  replace bb := bb.trans (hk19.below (by omega) bb.size)
  clear hk19
  have bx1c0 := bx1.2.1
  have bx1c1 := bx1.2.2.1
  have bx1c2 := bx1.2.2.2
  go_wp2_with fail
  clear bx1c0 bx1c1 bx1c2
  refine (HHR.out G1 cap1 _ _ w19 z1'.rt).mono ?_
  rintro e w20 ⟨rfl, hk20⟩
  have hz20 := hk20.size
  replace h := h.keep hk20 (by omega)
  replace ba := ba.keep hk20 (by omega)
  replace z0 := z0.keep hk20 (by omega)
  replace bx0 := bx0.keep hk20 (by omega)
  replace bx := bx.keep hk20 (by omega)
  replace bx1 := bx1.keep hk20 (by omega)
  replace z1' := z1'.keep hk20 (by omega)
  replace z2 := z2.keep hk20 (by omega)
  replace bx2 := bx2.keep hk20 (by omega)
  replace bb := bb.trans (hk20.below (by omega) bb.size)
  clear hk20
  go_wp2_with fail
  go_ret
  exact ⟨rfl, bb⟩

end Go.Proofs.Ytjibfncdkcmhcaa
