/-
  The walk of FnExactSameItems.
-/
import Derived.Test.YtjibfncdkcmhcaaV6b
import Derived.Test.YtjibfncdkcmhcaaT17
import Derived.Test.YtjibfncdkcmhcaaT8
import Derived.Test.YtjibfncdkcmhcaaL0
namespace Go.Proofs.Ytjibfncdkcmhcaa
open Go.RowKit
set_option linter.unusedVariables false
set_option maxRecDepth 100000

set_option maxHeartbeats 2000000 in
theorem exactSameItems (A B : Option Addr) (n c m d : Nat) (xs ys : List Itm) (w : World) (h : Rt w 0 w.heap.size A n xs) (h' : Rt w 0 w.heap.size B m ys) :
    Calls Try.prog 9 #[.slice A n c, .slice B m d] w fun e w' => e = .returned (.bool true) ∧ Below w.heap.size w w' := by
  have hint := h.int
  have hlx := h.len
  have hint' := h'.int
  have hly := h'.len
  have HS1 := Lib.hid (fun w' (h' : Rt w' 0 w.heap.size A n xs) => szItemS_any A n c _ _ xs 1048576 w' h' (by omega) (by omega))
  by_cases hn1 : (1048576 : Int) < (xs.length : Int) + sumLen xs
  · have hsz : szT 1048576 xs = -1 := by unfold szT; rw [if_pos hn1]
    rw [hsz] at HS1
    go_enter Try.func9, Try.ntmps9
    go_wp2_with fail
    refine (HS1.out _ h).mono ?_
    rintro e w1 ⟨rfl, k1⟩
    have bb := k1.below (B := w.heap.size) (by omega) (Nat.le_refl _)
    go_wp2_with fail
    go_ret
    exact ⟨rfl, bb⟩
  obtain ⟨left1, hleft1⟩ : ∃ left, szT 1048576 xs = left := ⟨_, rfl⟩
  have hl1 : 0 ≤ left1 ∧ left1 ≤ 1048576 := by rw [← hleft1]; unfold szT; rw [if_neg hn1]; omega
  rw [hleft1] at HS1
  have j1 : ¬ left1 < 0 := by omega
  have HX1 := Lib.hid (fun x (hx : x ∈ xs) => show x.2.1.length ≤ 281474976710656 by
    have := mem_sumLen hx
    omega)
  have HS2 := Lib.hid (fun w' (h' : Rt w' 0 w.heap.size B m ys) => szItemS_any B m d _ _ ys left1 w' h' (by omega) (by omega))
  by_cases hn2 : left1 < (ys.length : Int) + sumLen ys
  · have hsz : szT left1 ys = -1 := by unfold szT; rw [if_pos hn2]
    rw [hsz] at HS2
    go_enter Try.func9, Try.ntmps9
    go_wp2_with fail
    refine (HS1.out _ h).mono ?_
    rintro e w1 ⟨rfl, k1⟩
    have h2 := h'.keep k1 (by omega)
    go_wp2_with fail
    refine (HS2.out _ h2).mono ?_
    rintro e w2 ⟨rfl, k2⟩
    have bb := (k1.trans k2).below (B := w.heap.size) (by omega) (Nat.le_refl _)
    go_wp2_with fail
    go_ret
    exact ⟨rfl, bb⟩
  obtain ⟨left2, hleft2⟩ : ∃ left, szT left1 ys = left := ⟨_, rfl⟩
  have hl2 : 0 ≤ left2 ∧ left2 ≤ 1048576 := by rw [← hleft2]; unfold szT; rw [if_neg hn2]; omega
  rw [hleft2] at HS2
  have j2 : ¬ left2 < 0 := by omega
  have HX2 := Lib.hid (fun x (hx : x ∈ ys) => show x.2.1.length ≤ 281474976710656 by
    have := mem_sumLen hx
    omega)
  obtain ⟨rr, hrr⟩ : ∃ rr, decide (xs = ys) = rr := ⟨_, rfl⟩
  have HR := Lib.hid hrr
  have hn3 : n ≤ 1048576 ∧ m ≤ 1048576 := by omega
  clear hn1 hn2 hleft1 hleft2 hlx hly hrr
  go_enter Try.func9, Try.ntmps9
  have bb := Below.refl w.heap.size w
  go_wp2_with fail
  refine (HS1.out w h).mono ?_
  rintro e w1 ⟨rfl, hk1⟩
  have hz1 := hk1.size
  replace h := h.keep hk1 (by omega)
  replace h' := h'.keep hk1 (by omega)
  replace bb := bb.trans (hk1.below (by omega) bb.size)
  clear hk1
  go_wp2_with fail
  refine (HS2.out w1 h').mono ?_
  rintro e w2 ⟨rfl, hk2⟩
  have hz2 := hk2.size
  replace h := h.keep hk2 (by omega)
  replace h' := h'.keep hk2 (by omega)
  replace bb := bb.trans (hk2.below (by omega) bb.size)
  clear hk2
  go_wp2_with fail
  refine (toItemS_any A n c _ xs w2 h (by omega) HX1.out).mono ?_
  rintro e w3 ⟨g1, rfl, u1, hb3⟩
  have hk3 := Keep.of_below hb3 0 0
  have hz3 := hb3.size
  replace h := h.keep hk3 (by omega)
  replace h' := h'.keep hk3 (by omega)
  replace bb := bb.trans (hk3.below (by omega) bb.size)
  clear hb3 hk3
  go_wp2_with fail
  refine (toItemS_any B m d _ ys w3 h' (by omega) HX2.out).mono ?_
  rintro e w4 ⟨g2, rfl, u2, hb4⟩
  have hk4 := Keep.of_below hb4 0 0
  have hz4 := hb4.size
  replace h := h.keep hk4 (by omega)
  replace h' := h'.keep hk4 (by omega)
  replace u1 := u1.keep hk4 (by omega)
  replace bb := bb.trans (hk4.below (by omega) bb.size)
  clear hb4 hk4
  go_wp2_with fail
  refine (specSameItems_any _ _ n n m m _ _ _ _ xs ys w4 rr u1.rt u2.rt HR.out).mono ?_
  rintro e w5 ⟨rfl, hk5⟩
  have hz5 := hk5.size
  replace h := h.keep hk5 (by omega)
  replace h' := h'.keep hk5 (by omega)
  replace u1 := u1.keep hk5 (by omega)
  replace u2 := u2.keep hk5 (by omega)
  replace bb := bb.trans (hk5.below (by omega) bb.size)
  clear hk5
  clear u1
  clear u2
  go_wp2_with fail
  refine (toItemS_any A n c _ xs w5 h (by omega) HX1.out).mono ?_
  rintro e w6 ⟨g3, rfl, u3, hb6⟩
  have hk6 := Keep.of_below hb6 0 0
  have hz6 := hb6.size
  replace h := h.keep hk6 (by omega)
  replace h' := h'.keep hk6 (by omega)
  replace bb := bb.trans (hk6.below (by omega) bb.size)
  clear hb6 hk6
  go_wp2_with fail
  refine (toItemS_any B m d _ ys w6 h' (by omega) HX2.out).mono ?_
  rintro e w7 ⟨g4, rfl, u4, hb7⟩
  have hk7 := Keep.of_below hb7 0 0
  have hz7 := hb7.size
  replace h := h.keep hk7 (by omega)
  replace h' := h'.keep hk7 (by omega)
  replace u3 := u3.keep hk7 (by omega)
  replace bb := bb.trans (hk7.below (by omega) bb.size)
  clear hb7 hk7
  go_wp2_with fail
  refine (implSameItems_any _ _ n n m m _ _ xs ys w7 rr (u3.rt.wide (Nat.zero_le _) (Nat.le_refl _) u3.top) (u4.rt.wide (Nat.zero_le _) (Nat.le_refl _) u4.top) HR.out).mono ?_
  rintro e w8 ⟨rfl, hb8⟩
  have hk8 := Keep.of_below hb8 0 0
  have hz8 := hb8.size
  replace h := h.keep hk8 (by omega)
  replace h' := h'.keep hk8 (by omega)
  replace u3 := u3.keep hk8 (by omega)
  replace u4 := u4.keep hk8 (by omega)
  replace bb := bb.trans (hk8.below (by omega) bb.size)
  clear hb8 hk8
  go_wp2_with fail
  refine (toItemS_any A n c _ xs w8 h (by omega) HX1.out).mono ?_
  rintro e w9 ⟨g5, rfl, u5, hb9⟩
  have hk9 := Keep.of_below hb9 0 0
  have hz9 := hb9.size
  replace h := h.keep hk9 (by omega)
  replace h' := h'.keep hk9 (by omega)
  replace u3 := u3.keep hk9 (by omega)
  replace u4 := u4.keep hk9 (by omega)
  replace bb := bb.trans (hk9.below (by omega) bb.size)
  clear hb9 hk9
  go_wp2_with fail
  refine (eqItemS_true _ _ n n n _ _ _ _ xs w9 u3.rt u5.rt).mono ?_
  rintro e w10 ⟨rfl, hk10⟩
  have hz10 := hk10.size
  replace h := h.keep hk10 (by omega)
  replace h' := h'.keep hk10 (by omega)
  replace u3 := u3.keep hk10 (by omega)
  replace u4 := u4.keep hk10 (by omega)
  replace u5 := u5.keep hk10 (by omega)
  replace bb := bb.trans (hk10.below (by omega) bb.size)
  clear hk10
  clear u5
  clear u3
  go_wp2_with fail
  refine (toItemS_any B m d _ ys w10 h' (by omega) HX2.out).mono ?_
  rintro e w11 ⟨g6, rfl, u6, hb11⟩
  have hk11 := Keep.of_below hb11 0 0
  have hz11 := hb11.size
  replace h := h.keep hk11 (by omega)
  replace h' := h'.keep hk11 (by omega)
  replace u4 := u4.keep hk11 (by omega)
  replace bb := bb.trans (hk11.below (by omega) bb.size)
  clear hb11 hk11
  go_wp2_with fail
  refine (eqItemS_true _ _ m m m _ _ _ _ ys w11 u4.rt u6.rt).mono ?_
  rintro e w12 ⟨rfl, hk12⟩
  have hz12 := hk12.size
  replace h := h.keep hk12 (by omega)
  replace h' := h'.keep hk12 (by omega)
  replace u4 := u4.keep hk12 (by omega)
  replace u6 := u6.keep hk12 (by omega)
  replace bb := bb.trans (hk12.below (by omega) bb.size)
  clear hk12
  go_wp2_with fail
  go_ret
  exact ⟨rfl, bb⟩

end Go.Proofs.Ytjibfncdkcmhcaa
