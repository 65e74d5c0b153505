/-
  The draws of chapter 1.
-/
import Derived.Test.YthjimgjdpdeggaaDraw
namespace Go.Proofs.Ythjimgjdpdeggaa
open Go.RowKit
set_option linter.unusedVariables false

/-- Two numbers were drawn. -/
def TwoNums (w : World) (e : Ending) (w' : World) : Prop :=
  ∃ a b : Int, e = .returned (.tuple #[.int .i64 a, .int .i64 b]) ∧ (-9223372036854775808 ≤ a ∧ a ≤ 9223372036854775807) ∧ (-9223372036854775808 ≤ b ∧ b ≤ 9223372036854775807) ∧ Below w.heap.size w w'
/-- A list of bytes was drawn. -/
def OneList (w : World) (m : Nat) (e : Ending) (w' : World) : Prop :=
  ∃ (g l cap : Nat) (zs : List Int), e = .returned (.slice (some ⟨g, 0, none⟩) l cap) ∧ l ≤ m ∧ Wr w' w.heap.size w'.heap.size (some ⟨g, 0, none⟩) l zs ∧ Below w.heap.size w w'
/-- Two lists of bytes were drawn. -/
def TwoLists (w : World) (m : Nat) (e : Ending) (w' : World) : Prop :=
  ∃ (g l cap g' l' cap' : Nat) (zs zs' : List Int), e = .returned (.tuple #[.slice (some ⟨g, 0, none⟩) l cap, .slice (some ⟨g', 0, none⟩) l' cap']) ∧ l ≤ m ∧ l' ≤ m ∧ Wr w' w.heap.size w'.heap.size (some ⟨g, 0, none⟩) l zs ∧ Wr w' w.heap.size w'.heap.size (some ⟨g', 0, none⟩) l' zs' ∧ Below w.heap.size w w'

set_option maxHeartbeats 1000000 in
theorem drawPut_any (A : Option Addr) (n c hi : Nat) (xs : List Int) (w : World) (h : Rd w 0 hi A n xs) :
    Calls Try.prog 9 #[.slice A n c] w (TwoNums w) := by
  have htop := h.top
  go_enter Try.func9, Try.ntmps9
  go_wp2_with fail
  refine (source_any A n c hi xs w h).mono ?_
  rintro e v0 ⟨s, rfl, h0, s0, b0⟩
  have z0 := b0.size
  go_wp2_with fail
  have h1a := h0.keep ((Keep.refl 0 0 v0).alloc (.cells ([0, 1, 255, 256, 65535, 4294967295, 72057594037927935, 72057594037927936, -1].map (Value.int .i64)).toArray 2)) (by omega) (by omega)
  have n1 : v0.heap.size ≠ s := by have := h0.1; omega
  refine (pick_any s 0 v0.heap.size 9 A n c hi xs [0, 1, 255, 256, 65535, 4294967295, 72057594037927935, 72057594037927936, -1] 9 _ h1a (by omega) rfl (by omega) (by omega) n1 (by simp) (row_cells v0 [0, 1, 255, 256, 65535, 4294967295, 72057594037927935, 72057594037927936, -1] _ _ rfl)).mono ?_
  rintro e v1 ⟨r1, m1, rfl, h1, k1⟩
  have z1 := k1.size
  simp only [World.size_alloc] at z1
  have b1 : Below w.heap.size w v1 := b0.trans (((Below.refl _ _).alloc b0.size _).trans (k1.below (by omega) (by simp; omega)))
  go_wp2_with fail
  have h2a := h1.keep ((Keep.refl 0 0 v1).alloc (.cells ([1, 2, 4, 7, 0, 8].map (Value.int .i64)).toArray 2)) (by omega) (by omega)
  have n2 : v1.heap.size ≠ s := by have := h1.1; omega
  refine (pick_any s 1 v1.heap.size 6 A n c hi xs [1, 2, 4, 7, 0, 8] 6 _ h2a (by omega) rfl (by omega) (by omega) n2 (by simp) (row_cells v1 [1, 2, 4, 7, 0, 8] _ _ rfl)).mono ?_
  rintro e v2 ⟨r2, m2, rfl, h2, k2⟩
  have z2 := k2.size
  simp only [World.size_alloc] at z2
  have b2 : Below w.heap.size w v2 := b1.trans (((Below.refl _ _).alloc b1.size _).trans (k2.below (by omega) (by simp; omega)))
  have y1 : -9223372036854775808 ≤ r1 ∧ r1 ≤ 9223372036854775807 := by simp at m1; omega
  have y2 : -9223372036854775808 ≤ r2 ∧ r2 ≤ 9223372036854775807 := by simp at m2; omega
  have B := Lib.hid b2
  clear m1 m2 b0 b1 b2 h0 h1a h1 h2a h2 k1 k2 h
  go_wp2_with fail
  go_ret2
  exact ⟨r1, r2, rfl, y1, y2, B.out⟩

set_option maxHeartbeats 1000000 in
theorem drawGet_any (A : Option Addr) (n c hi : Nat) (xs : List Int) (w : World) (h : Rd w 0 hi A n xs) :
    Calls Try.prog 11 #[.slice A n c] w (OneList w 8) := by
  have htop := h.top
  go_enter Try.func11, Try.ntmps11
  go_wp2_with fail
  refine (source_any A n c hi xs w h).mono ?_
  rintro e v0 ⟨s, rfl, h0, s0, b0⟩
  have z0 := b0.size
  go_wp2_with fail
  have h1a := h0.keep ((Keep.refl 0 0 v0).alloc (.cells ([1, 2, 4, 7, 0, 8].map (Value.int .i64)).toArray 2)) (by omega) (by omega)
  have n1 : v0.heap.size ≠ s := by have := h0.1; omega
  refine (pick_any s 0 v0.heap.size 6 A n c hi xs [1, 2, 4, 7, 0, 8] 6 _ h1a (by omega) rfl (by omega) (by omega) n1 (by simp) (row_cells v0 [1, 2, 4, 7, 0, 8] _ _ rfl)).mono ?_
  rintro e v1 ⟨r1, m1, rfl, h1, k1⟩
  have z1 := k1.size
  simp only [World.size_alloc] at z1
  have b1 : Below w.heap.size w v1 := b0.trans (((Below.refl _ _).alloc b0.size _).trans (k1.below (by omega) (by simp; omega)))
  have y1 : 0 ≤ r1 ∧ r1 ≤ 8 := by simp at m1; omega
  clear m1
  go_wp2_with fail
  refine (some_any s 1 A n c hi xs r1 v1 h1 (by omega) (by omega)).mono ?_
  rintro e v2 ⟨g, cap, zs, rfl, q2, h2, k2⟩
  have b2 : Below w.heap.size w v2 := b1.trans (k2.below (by omega) b1.size)
  have Q := Lib.hid (q2.wide b1.size (Nat.le_refl _) (Nat.le_refl _))
  have B := Lib.hid b2
  clear b0 b1 b2 h0 h1a h1 h2 k1 k2 h q2
  go_wp2_with fail
  go_ret
  exact ⟨g, _, cap, zs, rfl, by omega, Q.out, B.out⟩

set_option maxHeartbeats 1000000 in
theorem drawMix_any (A : Option Addr) (n c hi : Nat) (xs : List Int) (w : World) (h : Rd w 0 hi A n xs) :
    Calls Try.prog 13 #[.slice A n c] w (TwoLists w 301) := by
  have htop := h.top
  go_enter Try.func13, Try.ntmps13
  go_wp2_with fail
  refine (source_any A n c hi xs w h).mono ?_
  rintro e v0 ⟨s, rfl, h0, s0, b0⟩
  have z0 := b0.size
  go_wp2_with fail
  have h1a := h0.keep ((Keep.refl 0 0 v0).alloc (.cells ([0, 1, 9, 32, 300, 301].map (Value.int .i64)).toArray 2)) (by omega) (by omega)
  have n1 : v0.heap.size ≠ s := by have := h0.1; omega
  refine (pick_any s 0 v0.heap.size 6 A n c hi xs [0, 1, 9, 32, 300, 301] 6 _ h1a (by omega) rfl (by omega) (by omega) n1 (by simp) (row_cells v0 [0, 1, 9, 32, 300, 301] _ _ rfl)).mono ?_
  rintro e v1 ⟨r1, m1, rfl, h1, k1⟩
  have z1 := k1.size
  simp only [World.size_alloc] at z1
  have b1 : Below w.heap.size w v1 := b0.trans (((Below.refl _ _).alloc b0.size _).trans (k1.below (by omega) (by simp; omega)))
  have y1 : 0 ≤ r1 ∧ r1 ≤ 301 := by simp at m1; omega
  clear m1
  go_wp2_with fail
  refine (some_any s 1 A n c hi xs r1 v1 h1 (by omega) (by omega)).mono ?_
  rintro e v2 ⟨g, cap, zs, rfl, q2, h2, k2⟩
  have b2 : Below w.heap.size w v2 := b1.trans (k2.below (by omega) b1.size)
  have z2 := k2.size
  have n2 : s < v1.heap.size := h1.1
  have f2 : g < v2.heap.size ∨ r1.toNat = 0 := by
    by_cases hr : r1.toNat = 0
    · exact .inr hr
    · obtain ⟨b, off, e, _, hb, _⟩ := q2.1.at_ (by omega)
      injection e with e
      injection e with e1 e2
      subst e1
      exact .inl hb
  go_wp2_with fail
  have h3a := h2.keep ((Keep.refl 0 0 v2).alloc (.cells ([9, 32, 301].map (Value.int .i64)).toArray 2)) (by omega) (by omega)
  have n3 : v2.heap.size ≠ s := by have := h2.1; omega
  refine (pick_any s (1 + r1.toNat) v2.heap.size 3 A n c hi xs [9, 32, 301] 3 _ h3a (by omega) rfl (by omega) (by omega) n3 (by simp) (row_cells v2 [9, 32, 301] _ _ rfl)).mono ?_
  rintro e v3 ⟨r3, m3, rfl, h3, k3⟩
  have z3 := k3.size
  simp only [World.size_alloc] at z3
  have b3 : Below w.heap.size w v3 := b2.trans (((Below.refl _ _).alloc b2.size _).trans (k3.below (by omega) (by simp; omega)))
  have y3 : 0 ≤ r3 ∧ r3 ≤ 301 := by simp at m3; omega
  clear m3
  have q2a := (q2.keep ((Keep.refl 0 0 v2).alloc (.cells (([9, 32, 301] : List Int).map (Value.int .i64)).toArray 2)) (by omega)).keep k3 (by omega)
  go_wp2_with fail
  refine (some_any s _ A n c hi xs r3 v3 h3 (by omega) (by omega)).mono ?_
  rintro e v4 ⟨g', cap', zs', rfl, q4, h4, k4⟩
  have q2b := q2a.keep k4 (by omega)
  have z4 := k4.size
  have b4 : Below w.heap.size w v4 := b3.trans (k4.below (by omega) b3.size)
  have Q := Lib.hid (q2b.wide b1.size (by omega) (Nat.le_refl _))
  have Q' := Lib.hid (q4.wide b3.size (Nat.le_refl _) (Nat.le_refl _))
  have B := Lib.hid b4
  clear b0 b1 b2 b3 b4 h0 h1a h1 h2 h3 h3a h4 k1 k2 k3 k4 h q2 q2a q2b q4 f2
  go_wp2_with fail
  go_ret2
  exact ⟨g, _, cap, g', _, cap', zs, zs', rfl, by omega, by omega, Q.out, Q'.out, B.out⟩

theorem Wr.set_ {w : World} {lo hi n g j : Nat} {zs : List Int} (h : Wr w lo hi (some ⟨g, 0, none⟩) n zs) (hj : j < n) (v : Int) (hv : 0 ≤ v ∧ v ≤ 255) : Wr (w.setCell ⟨g, j, none⟩ (.int .u8 v)) lo hi (some ⟨g, 0, none⟩) n (zs.set j v) := by
  obtain ⟨b, off, e, h1, h2, hc⟩ := h.1.at_ (by omega)
  have hf := h.2 g 0 rfl
  injection e with e
  injection e with e1 e2
  subst e1 e2
  refine ⟨⟨by rw [List.length_set]; exact h.1.len, h.1.max, by simpa [World.setCell] using h.1.top, fun x hx => ?_, fun _ => ⟨g, 0, rfl, h1, h2, fun i hi => ?_⟩⟩, fun b off e i hi => ?_⟩
  · rcases List.mem_or_eq_of_mem_set hx with hx | hx
    · exact h.1.byte x hx
    · rw [hx]; exact hv
  · have hci := hc i hi
    simp only [Nat.zero_add] at hci ⊢
    by_cases e : j = i
    · subst e
      rw [World.cell?_setCell_same _ _ _ hci]
      simp [List.getD_eq_getElem?_getD, h.1.len, hj]
    · rw [World.cell?_setCell_other _ _ _ _ (by simp), hci]
      simp [List.getD_eq_getElem?_getD, e]
  · injection e with e
    injection e with e1 e2
    subst e1 e2
    rw [World.frozen?_setCell]
    exact hf i hi

set_option maxHeartbeats 1000000 in
theorem drawSame_any (A : Option Addr) (n c hi : Nat) (xs : List Int) (w : World) (h : Rd w 0 hi A n xs) :
    Calls Try.prog 15 #[.slice A n c] w (TwoLists w 8) := by
  have htop := h.top
  go_enter Try.func15, Try.ntmps15
  go_wp2_with fail
  refine (source_any A n c hi xs w h).mono ?_
  rintro e v0 ⟨s, rfl, h0, s0, b0⟩
  have z0 := b0.size
  go_wp2_with fail
  refine (next_any s 0 A n c hi xs 9 v0 h0 (by omega) (by omega)).mono ?_
  rintro e v1 ⟨r, rfl, r0, r1, _, h1, k1⟩
  have r1' := r1 (by omega)
  clear r1
  have z1 := k1.size
  have b1 : Below w.heap.size w v1 := b0.trans (k1.below (by omega) b0.size)
  go_wp2_with fail
  refine (some_any s 1 A n c hi xs r v1 h1 (by omega) (by omega)).mono ?_
  rintro e v2 ⟨g, cap, zs, rfl, q2, h2, k2⟩
  generalize hl : r.toNat = l at *
  have hl8 : l ≤ 8 := by omega
  clear hl
  have n1 : s < v1.heap.size := h1.1
  have z2 := k2.size
  have b2 : Below w.heap.size w v2 := b1.trans (k2.below (by omega) b1.size)
  go_wp2_with fail
  refine (copy_any (some ⟨g, 0, none⟩) l cap _ _ zs v2 q2.1 (by omega) (fun h => by cases h)).mono ?_
  rintro e v3 ⟨g', cap', rfl, q3, c3⟩
  have k3 := Keep.of_below c3 0 0
  have z3 := k3.size
  have q2a := q2.keep k3 (by omega)
  have h3 := h2.keep k3 (by omega) (by omega)
  have b3 : Below w.heap.size w v3 := b2.trans (k3.below (by omega) b2.size)
  clear c3
  by_cases hz : l = 0
  · subst hz
    have Q := Lib.hid (q2a.wide b1.size (by omega) (Nat.le_refl _))
    have Q' := Lib.hid (q3.wide b2.size (Nat.le_refl _) (Nat.le_refl _))
    have B := Lib.hid b3
    clear b0 b1 b2 b3 h0 h1 h2 h3 k1 k2 k3 h q2 q2a q3
    go_wp2_with fail
    go_ret2
    exact ⟨g, _, cap, g', _, cap', zs, zs, rfl, by omega, by omega, Q.out, Q'.out, B.out⟩
  · have hpos : 0 < (l : Int) := by omega
    go_wp2_with fail
    refine (chance_any s _ A n c hi xs 2 v3 h3 (by omega) (by omega)).mono ?_
    rintro e v4 ⟨t, rfl, h4, k4⟩
    have z4 := k4.size
    have q2b := q2a.keep k4 (by omega)
    have q3b := q3.keep k4 (by omega)
    have b4 : Below w.heap.size w v4 := b3.trans (k4.below (by omega) b3.size)
    rcases t with _ | _
    · have Q := Lib.hid (q2b.wide b1.size (by omega) (Nat.le_refl _))
      have Q' := Lib.hid (q3b.wide b2.size (by omega) (Nat.le_refl _))
      have B := Lib.hid b4
      clear b0 b1 b2 b3 b4 h0 h1 h2 h3 h4 k1 k2 k3 k4 h q2 q2a q2b q3 q3b
      go_wp2_with fail
      go_ret2
      exact ⟨g, _, cap, g', _, cap', zs, zs, rfl, by omega, by omega, Q.out, Q'.out, B.out⟩
    · go_wp2_with fail
      refine (next_any s _ A n c hi xs (l : Int) v4 h4 (by omega) (by omega)).mono ?_
      rintro e v5 ⟨j, rfl, j0, j1, _, h5, k5⟩
      have j1' := j1 (by omega)
      clear j1
      obtain ⟨j, rfl⟩ := Int.eq_ofNat_of_zero_le j0
      have hjl : j < l := by omega
      have z5 := k5.size
      have q2c := q2b.keep k5 (by omega)
      have q3c := q3b.keep k5 (by omega)
      have b5 : Below w.heap.size w v5 := b4.trans (k5.below (by omega) b4.size)
      obtain ⟨bb, off, e, i1, i2, hc⟩ := q3c.1.at_ (by omega)
      injection e with e
      injection e with e1 e2
      subst e1 e2
      have c1 := hc j hjl
      have f1 := q3c.2 g' 0 rfl j hjl
      rw [Nat.zero_add] at c1 f1
      have hx := wf_bits .xor .u8 (zs.getD j 0) 1
      have hx' : 0 ≤ bits .xor .u8 (zs.getD j 0) 1 ∧ bits .xor .u8 (zs.getD j 0) 1 ≤ 255 := by
        simpa [Lit.wf, IntKind.min, IntKind.max, IntKind.signed, IntKind.bits] using hx
      have q3d := q3c.set_ hjl _ hx'
      have kk : Keep g' (g' + 1) v5 (v5.setCell ⟨g', j, none⟩ (.int .u8 (bits .xor .u8 (zs.getD j 0) 1))) := (Keep.refl _ _ v5).setCell (p := ⟨g', j, none⟩) ⟨Nat.le_refl _, Nat.lt_succ_self _⟩ _
      have q2d := q2c.keep kk (by omega)
      have b6 : Below w.heap.size w (v5.setCell ⟨g', j, none⟩ (.int .u8 (bits .xor .u8 (zs.getD j 0) 1))) := b5.trans (kk.below (by omega) b5.size)
      have sz := kk.size
      generalize hd : zs.getD j 0 = d at *
      have Q := Lib.hid (q2d.wide b1.size (by omega) (Nat.le_refl _))
      have Q' := Lib.hid (q3d.wide b2.size (by omega) (Nat.le_refl _))
      have B := Lib.hid b6
      clear b0 b1 b2 b3 b4 b5 b6 h0 h1 h2 h3 h4 h5 k1 k2 k3 k4 k5 kk h q2 q2a q2b q2c q2d q3 q3b q3c q3d hc hd hx hx'
      go_wp2_with fail
      go_ret2
      exact ⟨g, _, cap, g', _, cap', zs, _, rfl, by omega, by omega, Q.out, Q'.out, B.out⟩
end Go.Proofs.Ythjimgjdpdeggaa
