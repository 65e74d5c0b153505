/-
  The draws of chapter 2.
-/
import Derived.Test.YtiiihhfdgogmjaaDoorDraw
namespace Go.Proofs.YtiiihhfdgogmjaaDoor
open Go.RowKit
set_option linter.unusedVariables false

/-- Some bytes were drawn out of a source. -/
def DataDrawn (w : World) (s k : Nat) (A : Option Addr) (nc cc hi : Nat) (xs : List Int) (e : Ending) (w' : World) : Prop :=
  ∃ (g l cap k' : Nat) (zs : List Int), e = .returned (.slice (some ⟨g, 0, none⟩) l cap) ∧ l ≤ 301 ∧ k' ≤ k + 400 ∧ Wr w' w.heap.size w'.heap.size (some ⟨g, 0, none⟩) l zs ∧ Src w' s k' A nc cc hi xs ∧ Keep s (s + 1) w w'

set_option maxHeartbeats 1000000 in
theorem data_any (s k : Nat) (A : Option Addr) (n c hi : Nat) (xs : List Int) (v0 : World) (h0 : Src v0 s k A n c hi xs) (hk : k ≤ 1000000) :
    Calls Tryd.prog 23 #[.pointer (some ⟨s, 0, none⟩)] v0 (DataDrawn v0 s k A n c hi xs) := by
  have hs0 := h0.1
  go_enter Tryd.func23, Tryd.ntmps23
  go_wp2_with fail
  have h1a := h0.keep ((Keep.refl 0 0 v0).alloc (.cells ([0, 1, 3, 55, 56, 63, 64, 65, 119, 120].map (Value.int .i64)).toArray 2)) (by omega) (by omega)
  have n1 : v0.heap.size ≠ s := by have := h0.1; omega
  refine (pick_any s k v0.heap.size 10 A n c hi xs [0, 1, 3, 55, 56, 63, 64, 65, 119, 120] 10 _ h1a (by omega) rfl (by omega) (by omega) n1 (by simp) (row_cells v0 [0, 1, 3, 55, 56, 63, 64, 65, 119, 120] _ _ rfl)).mono ?_
  rintro e v1 ⟨r1, m1, rfl, h1, k1⟩
  have ka1 : Keep s (s + 1) v0 v1 := ((Keep.refl s (s + 1) v0).alloc (.cells ([0, 1, 3, 55, 56, 63, 64, 65, 119, 120].map (Value.int .i64)).toArray 2)).trans k1
  have y1 : 0 ≤ r1 ∧ r1 ≤ 301 := by simp at m1; omega
  clear m1
  go_wp2_with fail
  refine (chance_any s (k + 1) A n c hi xs 40 v1 h1 (by omega) (by omega)).mono ?_
  rintro e v2 ⟨t, rfl, h2, k2⟩
  have ka2 := ka1.trans k2
  rcases t with _ | _
  · go_wp2_with fail
    refine (some_any s (k + 1 + 1) A n c hi xs r1 v2 h2 (by omega) (by omega)).mono ?_
    rintro e v3 ⟨g, cap, zs, rfl, q3, h3, k3⟩
    have ka3 := ka2.trans k3
    have Q := Lib.hid (q3.wide ka2.size (Nat.le_refl _) (Nat.le_refl _))
    have H := Lib.hid h3
    have KK := Lib.hid ka3
    clear h0 h1a h1 h2 h3 k1 ka1 k2 ka2 k3 ka3 q3
    go_wp2_with fail
    go_ret
    exact ⟨g, _, cap, _, zs, rfl, by omega, by omega, Q.out, H.out, KK.out⟩
  · go_wp2_with fail
    have h4a := h2.keep ((Keep.refl 0 0 v2).alloc (.cells ([300, 301].map (Value.int .i64)).toArray 2)) (by omega) (by omega)
    have n4 : v2.heap.size ≠ s := by have := h2.1; omega
    refine (pick_any s (k + 1 + 1) v2.heap.size 2 A n c hi xs [300, 301] 2 _ h4a (by omega) rfl (by omega) (by omega) n4 (by simp) (row_cells v2 [300, 301] _ _ rfl)).mono ?_
    rintro e v4 ⟨r4, m4, rfl, h4, k4⟩
    have ka4 : Keep s (s + 1) v2 v4 := ((Keep.refl s (s + 1) v2).alloc (.cells ([300, 301].map (Value.int .i64)).toArray 2)).trans k4
    have y4 : 0 ≤ r4 ∧ r4 ≤ 301 := by simp at m4; omega
    have kb4 := ka2.trans ka4
    clear m4
    go_wp2_with fail
    refine (some_any s _ A n c hi xs r4 v4 h4 (by omega) (by omega)).mono ?_
    rintro e v3 ⟨g, cap, zs, rfl, q3, h3, k3⟩
    have ka3 := kb4.trans k3
    have Q := Lib.hid (q3.wide kb4.size (Nat.le_refl _) (Nat.le_refl _))
    have H := Lib.hid h3
    have KK := Lib.hid ka3
    clear h0 h1a h1 h2 h3 h4 h4a k1 ka1 k2 ka2 k3 ka3 k4 ka4 kb4 q3
    go_wp2_with fail
    go_ret
    exact ⟨g, _, cap, _, zs, rfl, by omega, by omega, Q.out, H.out, KK.out⟩


set_option maxHeartbeats 1000000 in
theorem drawHash_any (A : Option Addr) (n c hi : Nat) (xs : List Int) (w : World) (h : Rd w 0 hi A n xs) :
    Calls Tryd.prog 7 #[.slice A n c] w (OneList w 301) := by
  have htop := h.top
  go_enter Tryd.func7, Tryd.ntmps7
  go_wp2_with fail
  refine (source_any A n c hi xs w h).mono ?_
  rintro e v0 ⟨s, rfl, h0, s0, b0⟩
  have z0 := b0.size
  go_wp2_with fail
  refine (data_any s 0 A n c hi xs v0 h0 (by omega)).mono ?_
  rintro e v1 ⟨g, l, cap, k', zs, rfl, hl, _, q1, h1, k1⟩
  have B := Lib.hid (b0.trans (k1.below (by omega) z0))
  have Q := Lib.hid (q1.wide z0 (Nat.le_refl _) (Nat.le_refl _))
  clear b0 h0 h1 k1 q1 h
  go_wp2_with fail
  go_ret
  exact ⟨g, l, cap, zs, rfl, hl, Q.out, B.out⟩

set_option maxHeartbeats 1000000 in
theorem drawMac_any (A : Option Addr) (n c hi : Nat) (xs : List Int) (w : World) (h : Rd w 0 hi A n xs) :
    Calls Tryd.prog 10 #[.slice A n c] w (TwoLists w 301) := by
  have htop := h.top
  go_enter Tryd.func10, Tryd.ntmps10
  go_wp2_with fail
  refine (source_any A n c hi xs w h).mono ?_
  rintro e v0 ⟨s, rfl, h0, s0, b0⟩
  have z0 := b0.size
  go_wp2_with fail
  have h1a := h0.keep ((Keep.refl 0 0 v0).alloc (.cells ([0, 1, 32, 64, 65].map (Value.int .i64)).toArray 2)) (by omega) (by omega)
  have n1 : v0.heap.size ≠ s := by have := h0.1; omega
  refine (pick_any s 0 v0.heap.size 5 A n c hi xs [0, 1, 32, 64, 65] 5 _ h1a (by omega) rfl (by omega) (by omega) n1 (by simp) (row_cells v0 [0, 1, 32, 64, 65] _ _ rfl)).mono ?_
  rintro e v1 ⟨r1, m1, rfl, h1, k1⟩
  have ka1 : Keep s (s + 1) v0 v1 := ((Keep.refl s (s + 1) v0).alloc (.cells ([0, 1, 32, 64, 65].map (Value.int .i64)).toArray 2)).trans k1
  have y1 : 0 ≤ r1 ∧ r1 ≤ 301 := by simp at m1; omega
  have z1 := ka1.size
  have b1 := b0.trans (ka1.below (by omega) z0)
  clear m1
  go_wp2_with fail
  refine (some_any s _ A n c hi xs r1 v1 h1 (by omega) (by omega)).mono ?_
  rintro e v2 ⟨g, cap, zs, rfl, q2, h2, k2⟩
  have z2 := k2.size
  have b2 := b1.trans (k2.below (by omega) b1.size)
  have n1 : s < v1.heap.size := h1.1
  go_wp2_with fail
  refine (data_any s _ A n c hi xs v2 h2 (by omega)).mono ?_
  rintro e v3 ⟨g', l', cap', k', zs', rfl, hl', _, q3, h3, k3⟩
  have q2a := q2.keep k3 (by omega)
  have z3 := k3.size
  have b3 := b2.trans (k3.below (by omega) b2.size)
  have Q := Lib.hid (q2a.wide b1.size (by omega) (Nat.le_refl _))
  have Q' := Lib.hid (q3.wide b2.size (Nat.le_refl _) (Nat.le_refl _))
  have B := Lib.hid b3
  clear b0 b1 b2 b3 h0 h1a h1 h2 h3 k1 ka1 k2 k3 q2 q2a q3 h
  go_wp2_with fail
  go_ret2
  exact ⟨g, _, cap, g', l', cap', zs, zs', rfl, by omega, hl', Q.out, Q'.out, B.out⟩
end Go.Proofs.YtiiihhfdgogmjaaDoor
