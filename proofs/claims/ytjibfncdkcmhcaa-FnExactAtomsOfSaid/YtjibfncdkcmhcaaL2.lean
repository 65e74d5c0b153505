/-
  The walk of FnExactAtomsOf.
-/
import Derived.Test.YtjibfncdkcmhcaaV3b
import Derived.Test.YtjibfncdkcmhcaaT9
import Derived.Test.YtjibfncdkcmhcaaT10
import Derived.Test.YtjibfncdkcmhcaaL0
namespace Go.Proofs.Ytjibfncdkcmhcaa
open Go.RowKit
set_option linter.unusedVariables false
set_option maxRecDepth 100000

/-- The atoms come in threes. -/
theorem atomsL_three : ∀ xs : List Itm, (atomsL xs).length % 3 = 0
  | [] => rfl
  | x :: xs => by
    have e : atomsL (x :: xs) = sizeA x ++ bytesA x.2.1 ++ atomsL xs := by simp [atomsL, atomA]
    have h1 := atomsL_three xs
    have h2 := bytesA_len x.2.1
    have h3 : (sizeA x).length % 3 = 0 := by unfold sizeA; split <;> simp
    rw [e, List.length_append, List.length_append]
    omega
theorem atomsOut_three (xs : List Itm) : ∃ m, (atomsOut xs).length = m * 3 ∧ m ≤ xs.length + sumLen xs := by
  unfold atomsOut
  split
  · have h1 := atomsL_three xs
    have h2 := atomsL_len xs
    exact ⟨(atomsL xs).length / 3, by omega, by omega⟩
  · exact ⟨0, rfl, Nat.zero_le _⟩
/-- AtomsOf's answer, its parts named. -/
theorem ao_at {f : FuncId} {args : Array Value} {w : World} {c : Int} {m : Nat} {xs : List Itm} {zs : List Int}
    (h : Calls Try.prog f args w fun e w' => ∃ G m cap, e = .returned (.agg #[.int .i64 (atomsCode xs), .slice G m cap]) ∧ Wi w' w.heap.size w'.heap.size G (m * 3) (atomsOut xs) ∧ m ≤ 1048576 ∧ Below w.heap.size w w')
    (hc : atomsCode xs = c) (hz : atomsOut xs = zs) (hm : zs.length = m * 3) :
    Calls Try.prog f args w fun e w' => ∃ G cap, e = .returned (.agg #[.int .i64 c, .slice G m cap]) ∧ Wi w' w.heap.size w'.heap.size G (m * 3) zs ∧ Below w.heap.size w w' := by
  subst hc hz
  refine h.mono ?_
  rintro e w' ⟨G, m', cap, rfl, hw, _, hb⟩
  have hl := hw.1.len
  obtain rfl : m' = m := by omega
  exact ⟨G, cap, rfl, hw, hb⟩

set_option maxHeartbeats 2000000 in
theorem exactAtomsOf (A : Option Addr) (n c : Nat) (xs : List Itm) (w : World) (h : Rt w 0 w.heap.size A n xs) :
    Calls Try.prog 5 #[.slice A n c] w fun e w' => e = .returned (.bool true) ∧ Below w.heap.size w w' := by
  have hint := h.int
  have hlx := h.len
  have HS1 := Lib.hid (fun w' (h' : Rt w' 0 w.heap.size A n xs) => szItemS_any A n c _ _ xs 1048576 w' h' (by omega) (by omega))
  by_cases hn1 : (1048576 : Int) < (xs.length : Int) + sumLen xs
  · have hsz : szT 1048576 xs = -1 := by unfold szT; rw [if_pos hn1]
    rw [hsz] at HS1
    go_enter Try.func5, Try.ntmps5
    go_wp2_with fail
    refine (HS1.out _ h).mono ?_
    rintro e w1 ⟨rfl, k1⟩
    have bb := ((Keep.refl 0 0 w).trans k1).below (B := w.heap.size) (by omega) (Nat.le_refl _)
    go_wp2_with fail
    go_ret
    exact ⟨rfl, bb⟩
  obtain ⟨left1, hleft1⟩ : ∃ left, szT 1048576 xs = left := ⟨_, rfl⟩
  have hl1 : 0 ≤ left1 ∧ left1 ≤ 1048576 := by rw [← hleft1]; unfold szT; rw [if_neg hn1]; omega
  rw [hleft1] at HS1
  have j1 : ¬ left1 < 0 := by omega
  have HX1 := Lib.hid (fun x (hx : x ∈ xs) => show x.2.1.length ≤ 281474976710656 by
    have := mem_sumLen hx
    omega)
  obtain ⟨mm, hmm, hmx⟩ := atomsOut_three xs
  have hmx2 : mm ≤ 1048576 := by omega
  obtain ⟨cc, hcc⟩ : ∃ cc, atomsCode xs = cc := ⟨_, rfl⟩
  obtain ⟨zs, hzs⟩ : ∃ zs, atomsOut xs = zs := ⟨_, rfl⟩
  rw [hzs] at hmm
  have HC := Lib.hid hcc
  have HZ := Lib.hid hzs
  have HM := Lib.hid hmm
  obtain ⟨mk, hmk⟩ : ∃ mk : Int, 1 + ((3 * n + sumLen xs : Nat) : Int) = mk := ⟨_, rfl⟩
  have hmk0 : ¬ mk < 0 := by omega
  have HMK := Lib.hid (fun A' c' lo' hi' w' (h' : Wt w' lo' hi' A' n xs) => hmk ▸ markItemS_any A' n c' lo' hi' 1 xs w' h' (by omega) (by omega))
  obtain ⟨mz, hmz⟩ : ∃ mz : Int, 1 + ((mm * 3 : Nat) : Int) = mz := ⟨_, rfl⟩
  have hmz0 : ¬ mz < 0 := by omega
  have HMR := Lib.hid (fun A' c' lo' hi' w' (h' : Wi w' lo' hi' A' (mm * 3) zs) => hmz ▸ markAtomsResult_any cc A' mm c' lo' hi' 1 zs w' h' (by omega) (by omega))
  have HHR := Lib.hid (fun A' c' lo' hi' w' (h' : Ri w' lo' hi' A' (mm * 3) (marksI 1 (mm * 3))) => hmz ▸ heldAtomsResult_any cc A' mm c' lo' hi' 1 w' h' (by omega) (by omega))
  have hn3 : n ≤ 1048576 := by omega
  clear hn1 hleft1 hlx hmm hmk hmz hcc hzs hmx
  go_enter Try.func5, Try.ntmps5
  have bb := Below.refl w.heap.size w
  go_wp2_with fail
  refine (HS1.out w h).mono ?_
  rintro e w1 ⟨rfl, hk1⟩
  have hz1 := hk1.size
  replace h := h.keep hk1 (by omega)
  replace bb := bb.trans (hk1.below (by omega) bb.size)
  clear hk1
  go_wp2_with fail
  refine (toItemS_any A n c _ xs w1 h (by omega) HX1.out).mono ?_
  rintro e w2 ⟨g1, rfl, u1, hb2⟩
  have hk2 := Keep.of_below hb2 0 0
  have hz2 := hb2.size
  replace h := h.keep hk2 (by omega)
  replace bb := bb.trans (hk2.below (by omega) bb.size)
  clear hb2 hk2
  go_wp2_with fail
  refine (ao_at (specAtoms_any _ n n _ xs w2 (u1.rt.wide (Nat.zero_le _) (Nat.le_refl _) u1.top)) HC.out HZ.out HM.out).mono ?_
  rintro e w3 ⟨G0, cap0, rfl, z0, hb3⟩
  have hk3 := Keep.of_below hb3 0 0
  have hz3 := hb3.size
  replace h := h.keep hk3 (by omega)
  replace u1 := u1.keep hk3 (by omega)
  replace bb := bb.trans (hk3.below (by omega) bb.size)
  clear hb3 hk3
  clear u1
  go_wp2_with fail
  have hk4 := (Keep.refl 0 0 w3).alloc (.cells #[.int .i64 cc, .slice G0 mm cap0] 40)
  have bx0 := Box2.new w3 (.int .i64 cc) (.slice G0 mm cap0) 40
  have hz4 : w3.heap.size + 1 ≤ (w3.alloc (.cells #[.int .i64 cc, .slice G0 mm cap0] 40)).heap.size := by simp
  replace h := h.keep hk4 (by omega)
  replace z0 := z0.keep hk4 (by omega)
  replace bb := bb.trans (hk4.below (by omega) bb.size)
  clear hk4
  generalize w3.alloc (.cells #[.int .i64 cc, .slice G0 mm cap0] 40) = w4 at *
  refine (toItemS_any A n c _ xs w4 h (by omega) HX1.out).mono ?_
  rintro e w5 ⟨g2, rfl, u2, hb5⟩
  have hk5 := Keep.of_below hb5 0 0
  have hz5 := hb5.size
  replace h := h.keep hk5 (by omega)
  replace z0 := z0.keep hk5 (by omega)
  replace bx0 := bx0.keep hk5 (by omega)
  replace bb := bb.trans (hk5.below (by omega) bb.size)
  clear hb5 hk5
  go_wp2_with fail
  refine (ao_at (implAtoms_any _ n n _ xs w5 (u2.rt.wide (Nat.zero_le _) (Nat.le_refl _) u2.top)) HC.out HZ.out HM.out).mono ?_
  rintro e w6 ⟨G1, cap1, rfl, z1, hb6⟩
  have hk6 := Keep.of_below hb6 0 0
  have hz6 := hb6.size
  replace h := h.keep hk6 (by omega)
  replace z0 := z0.keep hk6 (by omega)
  replace bx0 := bx0.keep hk6 (by omega)
  replace u2 := u2.keep hk6 (by omega)
  replace bb := bb.trans (hk6.below (by omega) bb.size)
  clear hb6 hk6
  have bx0lt := bx0.1
  have bx0c0 := bx0.2.1
  have bx0c1 := bx0.2.2
  go_wp2_with fail
  clear bx0lt bx0c0 bx0c1
  have hk7 := (Keep.refl 0 0 w6).alloc (.cells #[.int .i64 cc, .slice G1 mm cap1] 40)
  have bx1 := Box2.new w6 (.int .i64 cc) (.slice G1 mm cap1) 40
  have hz7 : w6.heap.size + 1 ≤ (w6.alloc (.cells #[.int .i64 cc, .slice G1 mm cap1] 40)).heap.size := by simp
  replace h := h.keep hk7 (by omega)
  replace z0 := z0.keep hk7 (by omega)
  replace bx0 := bx0.keep hk7 (by omega)
  replace u2 := u2.keep hk7 (by omega)
  replace z1 := z1.keep hk7 (by omega)
  replace bb := bb.trans (hk7.below (by omega) bb.size)
  clear hk7
  generalize w6.alloc (.cells #[.int .i64 cc, .slice G1 mm cap1] 40) = w7 at *
  refine (eqAtomsResult_true cc _ _ mm cap1 cap0 _ _ _ _ zs w7 (by omega) z1.1 z0.1).mono ?_
  rintro e w8 ⟨rfl, hk8⟩
  have hz8 := hk8.size
  replace h := h.keep hk8 (by omega)
  replace z0 := z0.keep hk8 (by omega)
  replace bx0 := bx0.keep hk8 (by omega)
  replace u2 := u2.keep hk8 (by omega)
  replace z1 := z1.keep hk8 (by omega)
  replace bx1 := bx1.keep hk8 (by omega)
  replace bb := bb.trans (hk8.below (by omega) bb.size)
  clear hk8
  go_wp2_with fail
  refine (toItemS_any A n c _ xs w8 h (by omega) HX1.out).mono ?_
  rintro e w9 ⟨g3, rfl, u3, hb9⟩
  have hk9 := Keep.of_below hb9 0 0
  have hz9 := hb9.size
  replace h := h.keep hk9 (by omega)
  replace z0 := z0.keep hk9 (by omega)
  replace bx0 := bx0.keep hk9 (by omega)
  replace u2 := u2.keep hk9 (by omega)
  replace z1 := z1.keep hk9 (by omega)
  replace bx1 := bx1.keep hk9 (by omega)
  replace bb := bb.trans (hk9.below (by omega) bb.size)
  clear hb9 hk9
  go_wp2_with fail
  refine (eqItemS_true _ _ n n n _ _ _ _ xs w9 u2.rt u3.rt).mono ?_
  rintro e w10 ⟨rfl, hk10⟩
  have hz10 := hk10.size
  replace h := h.keep hk10 (by omega)
  replace z0 := z0.keep hk10 (by omega)
  replace bx0 := bx0.keep hk10 (by omega)
  replace u2 := u2.keep hk10 (by omega)
  replace z1 := z1.keep hk10 (by omega)
  replace bx1 := bx1.keep hk10 (by omega)
  replace u3 := u3.keep hk10 (by omega)
  replace bb := bb.trans (hk10.below (by omega) bb.size)
  clear hk10
  clear u3
  go_wp2_with fail
  refine (HMK.out _ n _ _ w10 u2).mono ?_
  rintro e w11 ⟨rfl, y2, hk11⟩
  have hz11 := hk11.size
  replace h := h.keep hk11 (by omega)
  replace z0 := z0.keep hk11 (by omega)
  replace bx0 := bx0.keep hk11 (by omega)
  replace z1 := z1.keep hk11 (by omega)
  replace bx1 := bx1.keep hk11 (by omega)
  replace bb := bb.trans (hk11.below (by omega) bb.size)
  clear hk11
  clear u2
  clear y2
  have bx0c0 := bx0.2.1
  have bx0c1 := bx0.2.2
  have bx1c0 := bx1.2.1
  have bx1c1 := bx1.2.2
  go_wp2_with fail
  clear bx0c0 bx0c1
  clear bx1c0 bx1c1
  refine (eqAtomsResult_true cc _ _ mm cap1 cap0 _ _ _ _ zs w11 (by omega) z1.1 z0.1).mono ?_
  rintro e w12 ⟨rfl, hk12⟩
  have hz12 := hk12.size
  replace h := h.keep hk12 (by omega)
  replace z0 := z0.keep hk12 (by omega)
  replace bx0 := bx0.keep hk12 (by omega)
  replace z1 := z1.keep hk12 (by omega)
  replace bx1 := bx1.keep hk12 (by omega)
  replace bb := bb.trans (hk12.below (by omega) bb.size)
  clear hk12
  have bx1c0 := bx1.2.1
  have bx1c1 := bx1.2.2
  go_wp2_with fail
  clear bx1c0 bx1c1
  refine (HMR.out _ cap1 _ _ w12 z1).mono ?_
  rintro e w13 ⟨rfl, z1', hk13⟩
  have hz13 := hk13.size
  replace h := h.keep hk13 (by omega)
  replace z0 := z0.keep hk13 (by omega)
  replace bx0 := bx0.keep hk13 (by omega)
  replace bx1 := bx1.keep hk13 (by omega)
  replace bb := bb.trans (hk13.below (by omega) bb.size)
  clear hk13
  clear z1
  have bx1c0 := bx1.2.1
  have bx1c1 := bx1.2.2
  go_wp2_with fail
  clear bx1c0 bx1c1
  refine (HHR.out _ cap1 _ _ w13 z1'.1).mono ?_
  rintro e w14 ⟨rfl, hk14⟩
  have hz14 := hk14.size
  replace h := h.keep hk14 (by omega)
  replace z0 := z0.keep hk14 (by omega)
  replace bx0 := bx0.keep hk14 (by omega)
  replace bx1 := bx1.keep hk14 (by omega)
  replace z1' := z1'.keep hk14 (by omega)
  replace bb := bb.trans (hk14.below (by omega) bb.size)
  clear hk14
  go_wp2_with fail
  refine (toItemS_any A n c _ xs w14 h (by omega) HX1.out).mono ?_
  rintro e w15 ⟨g4, rfl, u4, hb15⟩
  have hk15 := Keep.of_below hb15 0 0
  have hz15 := hb15.size
  replace h := h.keep hk15 (by omega)
  replace z0 := z0.keep hk15 (by omega)
  replace bx0 := bx0.keep hk15 (by omega)
  replace bx1 := bx1.keep hk15 (by omega)
  replace z1' := z1'.keep hk15 (by omega)
  replace bb := bb.trans (hk15.below (by omega) bb.size)
  clear hb15 hk15
  go_wp2_with fail
  refine (ao_at (implAtoms_any _ n n _ xs w15 (u4.rt.wide (Nat.zero_le _) (Nat.le_refl _) u4.top)) HC.out HZ.out HM.out).mono ?_
  rintro e w16 ⟨G2, cap2, rfl, z2, hb16⟩
  have hk16 := Keep.of_below hb16 0 0
  have hz16 := hb16.size
  replace h := h.keep hk16 (by omega)
  replace z0 := z0.keep hk16 (by omega)
  replace bx0 := bx0.keep hk16 (by omega)
  replace bx1 := bx1.keep hk16 (by omega)
  replace z1' := z1'.keep hk16 (by omega)
  replace u4 := u4.keep hk16 (by omega)
  replace bb := bb.trans (hk16.below (by omega) bb.size)
  clear hb16 hk16
  clear u4
  have bx0lt := bx0.1
  have bx0c0 := bx0.2.1
  have bx0c1 := bx0.2.2
  go_wp2_with fail
  clear bx0lt bx0c0 bx0c1
  have hk17 := (Keep.refl 0 0 w16).alloc (.cells #[.int .i64 cc, .slice G2 mm cap2] 40)
  have bx2 := Box2.new w16 (.int .i64 cc) (.slice G2 mm cap2) 40
  have hz17 : w16.heap.size + 1 ≤ (w16.alloc (.cells #[.int .i64 cc, .slice G2 mm cap2] 40)).heap.size := by simp
  replace h := h.keep hk17 (by omega)
  replace z0 := z0.keep hk17 (by omega)
  replace bx0 := bx0.keep hk17 (by omega)
  replace bx1 := bx1.keep hk17 (by omega)
  replace z1' := z1'.keep hk17 (by omega)
  replace z2 := z2.keep hk17 (by omega)
  replace bb := bb.trans (hk17.below (by omega) bb.size)
  clear hk17
  generalize w16.alloc (.cells #[.int .i64 cc, .slice G2 mm cap2] 40) = w17 at *
  refine (eqAtomsResult_true cc _ _ mm cap2 cap0 _ _ _ _ zs w17 (by omega) z2.1 z0.1).mono ?_
  rintro e w18 ⟨rfl, hk18⟩
  have hz18 := hk18.size
  replace h := h.keep hk18 (by omega)
  replace z0 := z0.keep hk18 (by omega)
  replace bx0 := bx0.keep hk18 (by omega)
  replace bx1 := bx1.keep hk18 (by omega)
  replace z1' := z1'.keep hk18 (by omega)
  replace z2 := z2.keep hk18 (by omega)
  replace bx2 := bx2.keep hk18 (by omega)
  replace bb := bb.trans (hk18.below (by omega) bb.size)
  clear hk18
  have bx1c0 := bx1.2.1
  have bx1c1 := bx1.2.2
  go_wp2_with fail
  clear bx1c0 bx1c1
  refine (HHR.out _ cap1 _ _ w18 z1'.1).mono ?_
  rintro e w19 ⟨rfl, hk19⟩
  have hz19 := hk19.size
  replace h := h.keep hk19 (by omega)
  replace z0 := z0.keep hk19 (by omega)
  replace bx0 := bx0.keep hk19 (by omega)
  replace bx1 := bx1.keep hk19 (by omega)
  replace z1' := z1'.keep hk19 (by omega)
  replace z2 := z2.keep hk19 (by omega)
  replace bx2 := bx2.keep hk19 (by omega)
  replace bb := bb.trans (hk19.below (by omega) bb.size)
  clear hk19
  go_wp2_with fail
  go_ret
  exact ⟨rfl, bb⟩

end Go.Proofs.Ytjibfncdkcmhcaa
