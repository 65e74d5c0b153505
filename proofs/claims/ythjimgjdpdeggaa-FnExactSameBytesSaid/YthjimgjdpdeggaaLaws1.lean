/-
  The walks of the exact laws of stage 1: SameBytes.
-/
import Derived.Test.YthjimgjdpdeggaaSame
namespace Go.Proofs.Ythjimgjdpdeggaa
open Go.RowKit

set_option maxHeartbeats 400000 in
theorem exactSameBytes (A : Option Addr) (n c : Nat) (A' : Option Addr) (m c' : Nat) (xs ys : List Int) (w : World) (h : Rd w 0 w.heap.size A n xs) (h' : Rd w 0 w.heap.size A' m ys) :
    Calls Try.prog 7 #[.slice A n c, .slice A' m c'] w fun e w' => e = .returned (.bool true) ∧ Below w.heap.size w w' := by
  have hint := h.int
  have hint' := h'.int
  by_cases hn : 1048576 < n
  · go_enter Try.func7, Try.ntmps7
    go_wp2_with fail
    go_ret
    exact ⟨rfl, Below.refl _ _⟩
  by_cases hm : 1048576 < m
  · go_enter Try.func7, Try.ntmps7
    go_wp2_with fail
    go_ret
    exact ⟨rfl, Below.refl _ _⟩
  go_enter Try.func7, Try.ntmps7
  go_wp2_with fail
  refine (toByteS_any A n c _ _ xs w h (by omega)).mono ?_
  rintro e w1 ⟨g1, rfl, hw1, hb1⟩
  have k1 := Keep.of_below hb1 0 0
  have h1 := h.keep k1 (by omega)
  have h1' := h'.keep k1 (by omega)
  go_wp2_with fail
  refine (toByteS_any A' m c' _ _ ys w1 h1' (by omega)).mono ?_
  rintro e w2 ⟨g2, rfl, hw2, hb2⟩
  have k2 := Keep.of_below hb2 0 0
  have hw12 := hw1.keep k2 (by omega)
  have h2 := h1.keep k2 (by omega)
  have h2' := h1'.keep k2 (by omega)
  go_wp2_with fail
  refine (specSame_any _ _ n n m m _ _ _ _ xs ys w2 hw12.1 hw2.1).mono ?_
  rintro e w2' ⟨rfl, rfl⟩
  go_wp2_with fail
  refine (toByteS_any A n c _ _ xs w2 h2 (by omega)).mono ?_
  rintro e w3 ⟨g3, rfl, hw3, hb3⟩
  have k3 := Keep.of_below hb3 0 0
  have h3 := h2.keep k3 (by omega)
  have h3' := h2'.keep k3 (by omega)
  go_wp2_with fail
  refine (toByteS_any A' m c' _ _ ys w3 h3' (by omega)).mono ?_
  rintro e w4 ⟨g4, rfl, hw4, hb4⟩
  have k4 := Keep.of_below hb4 0 0
  have hw34 := hw3.keep k4 (by omega)
  have h4 := h3.keep k4 (by omega)
  have h4' := h3'.keep k4 (by omega)
  go_wp2_with fail
  refine (implSame_any _ _ n n m m _ _ _ _ xs ys w4 hw34.1 hw4.1).mono ?_
  rintro e w4' ⟨rfl, rfl⟩
  go_wp2_with fail
  refine (toByteS_any A n c _ _ xs w4 h4 (by omega)).mono ?_
  rintro e w5 ⟨g5, rfl, hw5, hb5⟩
  have k5 := Keep.of_below hb5 0 0
  have hw35 := hw34.keep k5 (by omega)
  have hw45 := hw4.keep k5 (by omega)
  have h5' := h4'.keep k5 (by omega)
  go_wp2_with fail
  refine (eqByteS_true _ _ n n n _ _ _ _ xs w5 hw35.1 hw5.1).mono ?_
  rintro e w5' ⟨rfl, q, rfl⟩
  have h6' := h5'.keep ((Keep.refl 0 0 w5).drewN q) (by omega)
  have hw46 := hw45.keep ((Keep.refl 0 0 w5).drewN q) (by omega)
  go_wp2_with fail
  refine (toByteS_any A' m c' _ _ ys (w5.drewN q) h6' (by omega)).mono ?_
  rintro e w7 ⟨g7, rfl, hw7, hb7⟩
  have k7 := Keep.of_below hb7 0 0
  have hw47 := hw46.keep k7 (by omega)
  go_wp2_with fail
  refine (eqByteS_true _ _ m m m _ _ _ _ ys w7 hw47.1 hw7.1).mono ?_
  rintro e w7' ⟨rfl, q', rfl⟩
  go_wp2_with fail
  go_ret
  have hK : Keep 0 0 w (w7.drewN q') := ((((((k1.trans k2).trans k3).trans k4).trans k5).drewN q).trans k7).drewN q'
  exact ⟨rfl, hK.below (by omega) (Nat.le_refl _)⟩
end Go.Proofs.Ythjimgjdpdeggaa
