/-
  The walk of FnExactSameAtoms.
-/
import Derived.Test.YtjibfncdkcmhcaaV6a
import Derived.Test.YtjibfncdkcmhcaaT5
namespace Go.Proofs.Ytjibfncdkcmhcaa
open Go.RowKit
set_option linter.unusedVariables false
set_option maxRecDepth 100000

set_option maxHeartbeats 2000000 in
theorem exactSameAtoms (A B : Option Addr) (n c m d : Nat) (w : World) (hin : n ≤ 9223372036854775807) (him : m ≤ 9223372036854775807) (ha : n * 3 ≤ maxLen → ∃ xs, Ri w 0 w.heap.size A (n * 3) xs) (hb : m * 3 ≤ maxLen → ∃ xs, Ri w 0 w.heap.size B (m * 3) xs) :
    Calls Try.prog 10 #[.slice A n c, .slice B m d] w fun e w' => e = .returned (.bool true) ∧ Below w.heap.size w w' := by
  have HS1 := Lib.hid (fun w' => szAtomS_any A n c 1048576 w' (by omega) (by omega) hin)
  by_cases hn1 : (1048576 : Int) < (n : Int)
  · rw [if_pos hn1] at HS1
    go_enter Try.func10, Try.ntmps10
    go_wp2_with fail
    refine (HS1.out _).mono ?_
    rintro e w1 ⟨rfl, rfl⟩
    go_wp2_with fail
    go_ret
    exact ⟨rfl, Below.refl _ _⟩
  rw [if_neg hn1] at HS1
  obtain ⟨left1, hleft1⟩ : ∃ left1, (1048576 : Int) - (n : Int) = left1 := ⟨_, rfl⟩
  rw [hleft1] at HS1
  have j1 : ¬ left1 < 0 := by omega
  have HS2 := Lib.hid (fun w' => szAtomS_any B m d left1 w' (by omega) (by omega) him)
  by_cases hn2 : left1 < (m : Int)
  · rw [if_pos hn2] at HS2
    go_enter Try.func10, Try.ntmps10
    go_wp2_with fail
    refine (HS1.out _).mono ?_
    rintro e w1 ⟨rfl, rfl⟩
    go_wp2_with fail
    refine (HS2.out _).mono ?_
    rintro e w1 ⟨rfl, rfl⟩
    go_wp2_with fail
    go_ret
    exact ⟨rfl, Below.refl _ _⟩
  rw [if_neg hn2] at HS2
  obtain ⟨left2, hleft2⟩ : ∃ left2, left1 - (m : Int) = left2 := ⟨_, rfl⟩
  rw [hleft2] at HS2
  have j2 : ¬ left2 < 0 := by omega
  obtain ⟨xs, h⟩ := ha (by unfold maxLen; omega)
  obtain ⟨ys, h'⟩ := hb (by unfold maxLen; omega)
  obtain ⟨rr, hrr⟩ : ∃ rr, decide (xs = ys) = rr := ⟨_, rfl⟩
  have HR := Lib.hid hrr
  have hn3 : n ≤ 1048576 ∧ m ≤ 1048576 := by omega
  clear hn1 hn2 hleft1 hleft2 hrr ha hb
  go_enter Try.func10, Try.ntmps10
  have bb := Below.refl w.heap.size w
  go_wp2_with fail
  refine (HS1.out w).mono ?_
  rintro e w1 ⟨rfl, rfl⟩
  go_wp2_with fail
  refine (HS2.out w).mono ?_
  rintro e w2 ⟨rfl, rfl⟩
  go_wp2_with fail
  refine (toAtomS_any A n c _ _ xs w h (by omega)).mono ?_
  rintro e w3 ⟨g1, rfl, u1, hb3⟩
  have hk3 := Keep.of_below hb3 0 0
  have hz3 := hb3.size
  replace h := h.keep hk3 (by omega)
  replace h' := h'.keep hk3 (by omega)
  replace bb := bb.trans (hk3.below (by omega) bb.size)
  clear hb3 hk3
  go_wp2_with fail
  refine (toAtomS_any B m d _ _ ys w3 h' (by omega)).mono ?_
  rintro e w4 ⟨g2, rfl, u2, hb4⟩
  have hk4 := Keep.of_below hb4 0 0
  have hz4 := hb4.size
  replace h := h.keep hk4 (by omega)
  replace h' := h'.keep hk4 (by omega)
  replace u1 := u1.keep hk4 (by omega)
  replace bb := bb.trans (hk4.below (by omega) bb.size)
  clear hb4 hk4
  go_wp2_with fail
  refine (specSameAtoms_any _ _ n n m m _ _ _ _ xs ys w4 rr (by omega) (by omega) u1.1 u2.1 HR.out).mono ?_
  rintro e w5 ⟨rfl, hk5⟩
  have hz5 := hk5.size
  replace h := h.keep hk5 (by omega)
  replace h' := h'.keep hk5 (by omega)
  replace u1 := u1.keep hk5 (by omega)
  replace u2 := u2.keep hk5 (by omega)
  replace bb := bb.trans (hk5.below (by omega) bb.size)
  clear hk5
  clear u1
  clear u2
  go_wp2_with fail
  refine (toAtomS_any A n c _ _ xs w5 h (by omega)).mono ?_
  rintro e w6 ⟨g3, rfl, u3, hb6⟩
  have hk6 := Keep.of_below hb6 0 0
  have hz6 := hb6.size
  replace h := h.keep hk6 (by omega)
  replace h' := h'.keep hk6 (by omega)
  replace bb := bb.trans (hk6.below (by omega) bb.size)
  clear hb6 hk6
  go_wp2_with fail
  refine (toAtomS_any B m d _ _ ys w6 h' (by omega)).mono ?_
  rintro e w7 ⟨g4, rfl, u4, hb7⟩
  have hk7 := Keep.of_below hb7 0 0
  have hz7 := hb7.size
  replace h := h.keep hk7 (by omega)
  replace h' := h'.keep hk7 (by omega)
  replace u3 := u3.keep hk7 (by omega)
  replace bb := bb.trans (hk7.below (by omega) bb.size)
  clear hb7 hk7
  go_wp2_with fail
  refine (implSameAtoms_any _ _ n n m m _ _ _ _ xs ys w7 rr (by omega) (by omega) u3.1 u4.1 HR.out).mono ?_
  rintro e w8 ⟨rfl, hk8⟩
  have hz8 := hk8.size
  replace h := h.keep hk8 (by omega)
  replace h' := h'.keep hk8 (by omega)
  replace u3 := u3.keep hk8 (by omega)
  replace u4 := u4.keep hk8 (by omega)
  replace bb := bb.trans (hk8.below (by omega) bb.size)
  clear hk8
  go_wp2_with fail
  refine (toAtomS_any A n c _ _ xs w8 h (by omega)).mono ?_
  rintro e w9 ⟨g5, rfl, u5, hb9⟩
  have hk9 := Keep.of_below hb9 0 0
  have hz9 := hb9.size
  replace h := h.keep hk9 (by omega)
  replace h' := h'.keep hk9 (by omega)
  replace u3 := u3.keep hk9 (by omega)
  replace u4 := u4.keep hk9 (by omega)
  replace bb := bb.trans (hk9.below (by omega) bb.size)
  clear hb9 hk9
  go_wp2_with fail
  refine (eqAtomS_true _ _ n n n _ _ _ _ xs w9 (by omega) u3.1 u5.1).mono ?_
  rintro e w10 ⟨rfl, hk10⟩
  have hz10 := hk10.size
  replace h := h.keep hk10 (by omega)
  replace h' := h'.keep hk10 (by omega)
  replace u3 := u3.keep hk10 (by omega)
  replace u4 := u4.keep hk10 (by omega)
  replace u5 := u5.keep hk10 (by omega)
  replace bb := bb.trans (hk10.below (by omega) bb.size)
  clear hk10
  clear u5
  clear u3
  go_wp2_with fail
  refine (toAtomS_any B m d _ _ ys w10 h' (by omega)).mono ?_
  rintro e w11 ⟨g6, rfl, u6, hb11⟩
  have hk11 := Keep.of_below hb11 0 0
  have hz11 := hb11.size
  replace h := h.keep hk11 (by omega)
  replace h' := h'.keep hk11 (by omega)
  replace u4 := u4.keep hk11 (by omega)
  replace bb := bb.trans (hk11.below (by omega) bb.size)
  clear hb11 hk11
  go_wp2_with fail
  refine (eqAtomS_true _ _ m m m _ _ _ _ ys w11 (by omega) u4.1 u6.1).mono ?_
  rintro e w12 ⟨rfl, hk12⟩
  have hz12 := hk12.size
  replace h := h.keep hk12 (by omega)
  replace h' := h'.keep hk12 (by omega)
  replace u4 := u4.keep hk12 (by omega)
  replace u6 := u6.keep hk12 (by omega)
  replace bb := bb.trans (hk12.below (by omega) bb.size)
  clear hk12
  go_wp2_with fail
  go_ret
  exact ⟨rfl, bb⟩

end Go.Proofs.Ytjibfncdkcmhcaa
