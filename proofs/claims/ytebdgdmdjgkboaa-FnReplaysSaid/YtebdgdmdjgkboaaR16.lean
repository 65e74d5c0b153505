/-
  The draws of chapter 4: DrawSameReplays.
-/
import Derived.Test.YtebdgdmdjgkboaaR14
namespace Go.Proofs.Ytebdgdmdjgkboaa
open Go.RowKit
set_option linter.unusedVariables false
set_option maxRecDepth 100000


/-- Two windows were drawn. -/
def DrawnQ (w : World) (e : Ending) (w' : World) : Prop :=
  ∃ (t t' : Int) (G G' : Option Addr) (cap cap' : Nat) (zs zs' : List Int), e = .returned (.tuple #[.agg #[.int .i64 t, .slice G zs.length cap], .agg #[.int .i64 t', .slice G' zs'.length cap']]) ∧ (-2 ≤ t ∧ t ≤ 10000) ∧ (-2 ≤ t' ∧ t' ≤ 10000) ∧ zs.length ≤ 11 ∧ zs'.length ≤ 11 ∧
    OwnI w' w.heap.size G zs.length cap zs ∧ OwnI w' w.heap.size G' zs'.length cap' zs' ∧ Below w.heap.size w w'
theorem cells_other {W : World} {R b k : Nat} {x : Option Value} (h : W.cell? ⟨b, k, none⟩ = x) (hn : b ≠ R) (u v : Value) : ((W.setCell ⟨R, 0, none⟩ u).setCell ⟨R, 1, none⟩ v).cell? ⟨b, k, none⟩ = x := by
  have e : ∀ (W : World) (j : Nat) (u : Value), (W.setCell ⟨R, j, none⟩ u).cell? ⟨b, k, none⟩ = W.cell? ⟨b, k, none⟩ := fun W j u => World.cell?_of_block (w := W) (Below.heap_setCell _ _ _ _ (fun e => hn (show b = R from e)))
  rw [e, e]; exact h
theorem cells_other_d {W : World} {R b k : Nat} {x : Option Value} (h : W.cell? ⟨b, k, none⟩ = x) (hn : b ≠ R) (u v : Value) : ((W.setCell ⟨R, 0, none⟩ u).setCell ⟨R, 1, none⟩ v).drew.cell? ⟨b, k, none⟩ = x := cells_other h hn u v
theorem cells_other_d2 {W : World} {R R' b k : Nat} {x : Option Value} (h : W.cell? ⟨b, k, none⟩ = x) (hn : b ≠ R) (hn' : b ≠ R') (u v u' v' : Value) : ((((W.setCell ⟨R, 0, none⟩ u).setCell ⟨R, 1, none⟩ v).setCell ⟨R', 0, none⟩ u').setCell ⟨R', 1, none⟩ v').drew.cell? ⟨b, k, none⟩ = x := cells_other (cells_other h hn u v) hn' u' v'

set_option maxHeartbeats 4000000 in
theorem drawSame_any (A : Option Addr) (n c hi : Nat) (xs : List Int) (w : World) (h : Rd w 0 hi A n xs) :
    Calls Try.prog 13 #[.slice A n c] w (DrawnQ w) := by
  have htop := h.top
  go_enter Try.func13, Try.ntmps13
  go_wp2_with fail
  have hQ : QB ((w.alloc (.cells #[.int .i64 0, .slice none 0 0] 26)).alloc (.cells #[.int .i64 0, .slice none 0 0] 26)) w.heap.size := ⟨by simp; omega, ⟨.int .i64 0, by simp [go_sem]⟩, ⟨.slice none 0 0, by simp [go_sem]⟩, by simp [go_sem], by simp [go_sem]⟩
  have hP : QB ((w.alloc (.cells #[.int .i64 0, .slice none 0 0] 26)).alloc (.cells #[.int .i64 0, .slice none 0 0] 26)) (w.heap.size + 1) := ⟨by simp, ⟨.int .i64 0, by simp [go_sem]⟩, ⟨.slice none 0 0, by simp [go_sem]⟩, by simp [go_sem], by simp [go_sem]⟩
  have bb : Below w.heap.size w ((w.alloc (.cells #[.int .i64 0, .slice none 0 0] 26)).alloc (.cells #[.int .i64 0, .slice none 0 0] 26)) := ((Below.refl _ w).alloc (Nat.le_refl _) _).alloc (by simp) _
  have h0 := h.keep (((Keep.refl 0 0 w).alloc (.cells #[.int .i64 0, .slice none 0 0] 26)).alloc (.cells #[.int .i64 0, .slice none 0 0] 26)) (by omega)
  have z0 : w.heap.size + 2 ≤ ((w.alloc (.cells #[.int .i64 0, .slice none 0 0] 26)).alloc (.cells #[.int .i64 0, .slice none 0 0] 26)).heap.size := by simp
  generalize ((w.alloc (.cells #[.int .i64 0, .slice none 0 0] 26)).alloc (.cells #[.int .i64 0, .slice none 0 0] 26)) = w1 at *
  refine (source_any A n c hi xs w1 h0).mono ?_
  rintro e w2 ⟨s, rfl, hs, s0, b2⟩
  have k2 := Keep.of_below b2 0 0
  replace hQ := hQ.keep k2 (by omega)
  replace hP := hP.keep k2 (by omega)
  replace bb := bb.trans (b2.mono bb.size)
  have z2 := b2.size
  have hs2 := hs.1
  clear b2 k2 h0
  go_wp2_with fail
  refine (l4Draw_any s 0 A n c hi xs w2 hs (by omega)).mono ?_
  rintro e w3 ⟨t, G, cap, k3, zs, rfl, ht, hzl, ho, hs3, hk3, ke3⟩
  have hnb : ∀ q, Value.ownBlock (.slice G zs.length cap) = some q → q < w3.heap.size := fun q e => (ho.1.lt q e).2
  replace hQ := hQ.keep ke3 (by omega)
  replace hP := hP.keep ke3 (by omega)
  replace bb := bb.trans (ke3.below (by omega) bb.size)
  have z3 := ke3.size
  clear hs ke3
  have kb := (Keep.refl 0 0 w3).alloc (.cells #[.int .i64 t, .slice G zs.length cap] 26)
  have bx := Box2.new w3 (.int .i64 t) (.slice G zs.length cap) 26
  replace hQ := hQ.keep kb (by omega)
  replace hP := hP.keep kb (by omega)
  replace bb := bb.trans (kb.below (by omega) bb.size)
  replace hs3 := hs3.keep kb (by omega) (by omega)
  replace ho := ho.keep kb (by omega)
  have z4 : w3.heap.size + 1 ≤ (w3.alloc (.cells #[.int .i64 t, .slice G zs.length cap] 26)).heap.size := by simp
  clear kb
  go_upto_region 3 with fail
  generalize w3.alloc (.cells #[.int .i64 t, .slice G zs.length cap] 26) = w4 at *
  go_wp2_with fail
  refine (l4Copy_any w3.heap.size t G zs.length cap _ _ zs w4 bx.1 bx.2.1 bx.2.2 ho.wi.1 (by omega) ho.bare).mono ?_
  rintro e w5 ⟨H, cap5, rfl, hc5, b5⟩
  have k5 := Keep.of_below b5 0 0
  replace hQ := hQ.keep k5 (by omega)
  replace hP := hP.keep k5 (by omega)
  replace bb := bb.trans (b5.mono bb.size)
  replace hs3 := hs3.keep k5 (by omega) (by omega)
  replace ho := ho.keep k5 (by omega)
  replace bx := bx.keep k5 (by omega)
  have z5 := b5.size
  clear b5 k5
  have kb := (Keep.refl 0 0 w5).alloc (.cells #[.int .i64 t, .slice H zs.length cap5] 26)
  have by_ := Box2.new w5 (.int .i64 t) (.slice H zs.length cap5) 26
  have fy : (w5.alloc (.cells #[.int .i64 t, .slice H zs.length cap5] 26)).frozen? ⟨w5.heap.size, 0, none⟩ = false ∧ (w5.alloc (.cells #[.int .i64 t, .slice H zs.length cap5] 26)).frozen? ⟨w5.heap.size, 1, none⟩ = false := ⟨by simp [go_sem], by simp [go_sem]⟩
  replace hQ := hQ.keep kb (by omega)
  replace hP := hP.keep kb (by omega)
  replace bb := bb.trans (kb.below (by omega) bb.size)
  replace hs3 := hs3.keep kb (by omega) (by omega)
  replace ho := ho.keep kb (by omega)
  replace hc5 := (hc5.keep kb (by omega)).down (show w2.heap.size ≤ w4.heap.size by omega)
  replace bx := bx.keep kb (by omega)
  have z6 : w5.heap.size + 1 ≤ (w5.alloc (.cells #[.int .i64 t, .slice H zs.length cap5] 26)).heap.size := by simp
  clear kb
  go_upto_region 4 with fail
  generalize w5.alloc (.cells #[.int .i64 t, .slice H zs.length cap5] 26) = w6 at *
  go_wp2_with fail
  refine (chance_any s k3 A n c hi xs 2 w6 hs3 (by omega) (by omega)).mono ?_
  rintro e w7 ⟨ch, rfl, hs7, k7⟩
  replace hQ := hQ.keep k7 (by omega)
  replace hP := hP.keep k7 (by omega)
  replace bb := bb.trans (k7.below (by omega) bb.size)
  replace ho := ho.keep k7 (by omega)
  replace hc5 := hc5.keep k7 (by omega)
  replace bx := bx.keep k7 (by omega)
  have fy7 := And.intro ((k7.frozen (p := ⟨w5.heap.size, 0, none⟩) (by show w5.heap.size < _; omega) (by show w5.heap.size < s ∨ s + 1 ≤ w5.heap.size; omega)).trans fy.1) ((k7.frozen (p := ⟨w5.heap.size, 1, none⟩) (by show w5.heap.size < _; omega) (by show w5.heap.size < s ∨ s + 1 ≤ w5.heap.size; omega)).trans fy.2)
  replace by_ := by_.keep k7 (by omega)
  have z7 := k7.size
  clear hs3 k7 fy
  cases ch
  · clear fy7 hs7
    go_upto_region 6 with fail
    obtain ⟨p0, ⟨v0, p1'⟩, ⟨v1, p2'⟩, p3', p4'⟩ := hQ
    obtain ⟨q0, ⟨u0, q1'⟩, ⟨u1, q2'⟩, q3', q4'⟩ := hP
    have p1 : w7.drew.cell? ⟨w.heap.size, 0, none⟩ = some v0 := p1'
    have p2 : w7.drew.cell? ⟨w.heap.size, 1, none⟩ = some v1 := p2'
    have p3 : w7.drew.frozen? ⟨w.heap.size, 0, none⟩ = false := p3'
    have p4 : w7.drew.frozen? ⟨w.heap.size, 1, none⟩ = false := p4'
    have q1 : w7.drew.cell? ⟨w.heap.size + 1, 0, none⟩ = some u0 := q1'
    have q2 : w7.drew.cell? ⟨w.heap.size + 1, 1, none⟩ = some u1 := q2'
    have q3 : w7.drew.frozen? ⟨w.heap.size + 1, 0, none⟩ = false := q3'
    have q4 : w7.drew.frozen? ⟨w.heap.size + 1, 1, none⟩ = false := q4'
    have a0 : w7.drew.cell? ⟨w3.heap.size, 0, none⟩ = some (.int .i64 t) := bx.2.1
    have a1 : w7.drew.cell? ⟨w3.heap.size, 1, none⟩ = some (.slice G zs.length cap) := bx.2.2
    have b0 : w7.drew.cell? ⟨w5.heap.size, 0, none⟩ = some (.int .i64 t) := by_.2.1
    have b1 : w7.drew.cell? ⟨w5.heap.size, 1, none⟩ = some (.slice H zs.length cap5) := by_.2.2
    have a0' := bx.2.1
    have a1' := bx.2.2
    have b0' := by_.2.1
    have b1' := by_.2.2
    have n1 : w3.heap.size ≠ w.heap.size := by omega
    have n2 : w3.heap.size ≠ w.heap.size + 1 := by omega
    have n3 : w5.heap.size ≠ w.heap.size := by omega
    have n4 : w5.heap.size ≠ w.heap.size + 1 := by omega
    have HF : Hid (∀ x0 x1 y0 y1, DrawnQ w (.returned (.tuple #[.agg #[.int .i64 t, .slice G zs.length cap], .agg #[.int .i64 t, .slice H zs.length cap5]])) ((((w7.setCell ⟨w.heap.size, 0, none⟩ x0).setCell ⟨w.heap.size, 1, none⟩ x1).setCell ⟨w.heap.size + 1, 0, none⟩ y0).setCell ⟨w.heap.size + 1, 1, none⟩ y1).drew) := fun x0 x1 y0 y1 => by
      have kk : Keep w.heap.size (w.heap.size + 2) w7 ((((w7.setCell ⟨w.heap.size, 0, none⟩ x0).setCell ⟨w.heap.size, 1, none⟩ x1).setCell ⟨w.heap.size + 1, 0, none⟩ y0).setCell ⟨w.heap.size + 1, 1, none⟩ y1).drew :=
        ((Keep.refl _ _ w7).setCell (p := ⟨w.heap.size, 0, none⟩) ⟨Nat.le_refl _, by show w.heap.size < _; omega⟩ _).setCell (p := ⟨w.heap.size, 1, none⟩) ⟨Nat.le_refl _, by show w.heap.size < _; omega⟩ _ |>.setCell (p := ⟨w.heap.size + 1, 0, none⟩) ⟨by show w.heap.size ≤ w.heap.size + 1; omega, by show w.heap.size + 1 < _; omega⟩ _ |>.setCell (p := ⟨w.heap.size + 1, 1, none⟩) ⟨by show w.heap.size ≤ w.heap.size + 1; omega, by show w.heap.size + 1 < _; omega⟩ _ |>.trans ⟨rfl, rfl, rfl, Nat.le_refl _, fun _ _ _ => rfl⟩
      exact ⟨t, t, G, H, cap, cap5, zs, zs, rfl, ht, ht, by omega, by omega, (ho.keep kk (by omega)).down (by omega), (hc5.keep kk (by omega)).down (by omega), bb.trans (kk.below (by omega) bb.size)⟩
    clear ho hc5 bb
    go_region
    all_goals
      go_wp2_with fail
      have d01 := two_cells p1' p2' (.int .i64 t) (.slice G zs.length cap)
      have d00 : ((w7.setCell ⟨w.heap.size, 0, none⟩ (.int .i64 t)).setCell ⟨w.heap.size, 1, none⟩ (.slice G zs.length cap)).cell? ⟨w.heap.size, 0, none⟩ = some (.int .i64 t) := (World.cell?_setCell_other _ _ _ _ (by simp)).trans d01.1
      have d0 := cells_other d00 (show w.heap.size ≠ w.heap.size + 1 by omega) (.int .i64 t) (.slice H zs.length cap5)
      have d1 := cells_other d01.2 (show w.heap.size ≠ w.heap.size + 1 by omega) (.int .i64 t) (.slice H zs.length cap5)
      have e01 := two_cells (cells_other q1' (show w.heap.size + 1 ≠ w.heap.size by omega) (.int .i64 t) (.slice G zs.length cap)) (cells_other q2' (show w.heap.size + 1 ≠ w.heap.size by omega) (.int .i64 t) (.slice G zs.length cap)) (.int .i64 t) (.slice H zs.length cap5)
      exact bodyPost_ret (v := .tuple #[.agg #[.int .i64 t, .slice G zs.length cap], .agg #[.int .i64 t, .slice H zs.length cap5]]) (by simp [results, Try.results13, go_sem, d0, d1, e01.1, e01.2]) rfl (HF.out _ _ _ _)
  · go_wp2_with fail
    refine (l4Draw_any s (k3 + 1) A n c hi xs w7 hs7 (by omega)).mono ?_
    rintro e w8 ⟨t8, G8, cap8, k8, z8s, rfl, ht8, hzl8, ho8, hs8, hk8, ke8⟩
    replace hQ := hQ.keep ke8 (by omega)
    replace hP := hP.keep ke8 (by omega)
    replace bb := bb.trans (ke8.below (by omega) bb.size)
    replace ho := ho.keep ke8 (by omega)
    replace bx := bx.keep ke8 (by omega)
    have f0 := (ke8.frozen (p := ⟨w5.heap.size, 0, none⟩) (by show w5.heap.size < _; omega) (by show w5.heap.size < s ∨ s + 1 ≤ w5.heap.size; omega)).trans fy7.1
    have f1 := (ke8.frozen (p := ⟨w5.heap.size, 1, none⟩) (by show w5.heap.size < _; omega) (by show w5.heap.size < s ∨ s + 1 ≤ w5.heap.size; omega)).trans fy7.2
    replace by_ := by_.keep ke8 (by omega)
    have c0 := by_.2.1
    have c1 := by_.2.2
    have z8 := ke8.size
    have g01 := two_cells c0 c1 (.int .i64 t8) (.slice G8 z8s.length cap8)
    have kk : Keep w5.heap.size (w5.heap.size + 1) w8 ((w8.setCell ⟨w5.heap.size, 0, none⟩ (.int .i64 t8)).setCell ⟨w5.heap.size, 1, none⟩ (.slice G8 z8s.length cap8)) :=
      ((Keep.refl _ _ w8).setCell (p := ⟨w5.heap.size, 0, none⟩) ⟨Nat.le_refl _, Nat.lt_succ_self _⟩ _).setCell (p := ⟨w5.heap.size, 1, none⟩) ⟨Nat.le_refl _, Nat.lt_succ_self _⟩ _
    have by2 : Box2 ((w8.setCell ⟨w5.heap.size, 0, none⟩ (.int .i64 t8)).setCell ⟨w5.heap.size, 1, none⟩ (.slice G8 z8s.length cap8)) w5.heap.size (.int .i64 t8) (.slice G8 z8s.length cap8) :=
      ⟨by have := by_.1; have := kk.size; omega, (World.cell?_setCell_other _ _ _ _ (by simp)).trans g01.1, g01.2⟩
    replace ho := ho.keep2 kk (fun q e => by have := hnb q e; omega)
    have ho9 := (ho8.keep kk (by omega)).down (show w2.heap.size ≤ w7.heap.size by omega)
    replace hQ := hQ.keep kk (by omega)
    replace hP := hP.keep kk (by omega)
    replace bb := bb.trans (kk.below (by omega) bb.size)
    replace bx := bx.keep kk (by omega)
    have z9 := kk.size
    clear ho8 hs8 hs7 ke8 kk by_ fy7 hc5 g01
    go_upto_region 6 with fail
    clear f0 f1 c0 c1
    generalize (w8.setCell ⟨w5.heap.size, 0, none⟩ (.int .i64 t8)).setCell ⟨w5.heap.size, 1, none⟩ (.slice G8 z8s.length cap8) = w9 at *
    obtain ⟨p0, ⟨v0, p1'⟩, ⟨v1, p2'⟩, p3', p4'⟩ := hQ
    obtain ⟨q0, ⟨u0, q1'⟩, ⟨u1, q2'⟩, q3', q4'⟩ := hP
    have p1 : w9.drew.cell? ⟨w.heap.size, 0, none⟩ = some v0 := p1'
    have p2 : w9.drew.cell? ⟨w.heap.size, 1, none⟩ = some v1 := p2'
    have p3 : w9.drew.frozen? ⟨w.heap.size, 0, none⟩ = false := p3'
    have p4 : w9.drew.frozen? ⟨w.heap.size, 1, none⟩ = false := p4'
    have q1 : w9.drew.cell? ⟨w.heap.size + 1, 0, none⟩ = some u0 := q1'
    have q2 : w9.drew.cell? ⟨w.heap.size + 1, 1, none⟩ = some u1 := q2'
    have q3 : w9.drew.frozen? ⟨w.heap.size + 1, 0, none⟩ = false := q3'
    have q4 : w9.drew.frozen? ⟨w.heap.size + 1, 1, none⟩ = false := q4'
    have a0 : w9.drew.cell? ⟨w3.heap.size, 0, none⟩ = some (.int .i64 t) := bx.2.1
    have a1 : w9.drew.cell? ⟨w3.heap.size, 1, none⟩ = some (.slice G zs.length cap) := bx.2.2
    have b0 : w9.drew.cell? ⟨w5.heap.size, 0, none⟩ = some (.int .i64 t8) := by2.2.1
    have b1 : w9.drew.cell? ⟨w5.heap.size, 1, none⟩ = some (.slice G8 z8s.length cap8) := by2.2.2
    have a0' := bx.2.1
    have a1' := bx.2.2
    have b0' := by2.2.1
    have b1' := by2.2.2
    have n1 : w3.heap.size ≠ w.heap.size := by omega
    have n2 : w3.heap.size ≠ w.heap.size + 1 := by omega
    have n3 : w5.heap.size ≠ w.heap.size := by omega
    have n4 : w5.heap.size ≠ w.heap.size + 1 := by omega
    have HF : Hid (∀ x0 x1 y0 y1, DrawnQ w (.returned (.tuple #[.agg #[.int .i64 t, .slice G zs.length cap], .agg #[.int .i64 t8, .slice G8 z8s.length cap8]])) ((((w9.setCell ⟨w.heap.size, 0, none⟩ x0).setCell ⟨w.heap.size, 1, none⟩ x1).setCell ⟨w.heap.size + 1, 0, none⟩ y0).setCell ⟨w.heap.size + 1, 1, none⟩ y1).drew) := fun x0 x1 y0 y1 => by
      have kk : Keep w.heap.size (w.heap.size + 2) w9 ((((w9.setCell ⟨w.heap.size, 0, none⟩ x0).setCell ⟨w.heap.size, 1, none⟩ x1).setCell ⟨w.heap.size + 1, 0, none⟩ y0).setCell ⟨w.heap.size + 1, 1, none⟩ y1).drew :=
        ((Keep.refl _ _ w9).setCell (p := ⟨w.heap.size, 0, none⟩) ⟨Nat.le_refl _, by show w.heap.size < _; omega⟩ _).setCell (p := ⟨w.heap.size, 1, none⟩) ⟨Nat.le_refl _, by show w.heap.size < _; omega⟩ _ |>.setCell (p := ⟨w.heap.size + 1, 0, none⟩) ⟨by show w.heap.size ≤ w.heap.size + 1; omega, by show w.heap.size + 1 < _; omega⟩ _ |>.setCell (p := ⟨w.heap.size + 1, 1, none⟩) ⟨by show w.heap.size ≤ w.heap.size + 1; omega, by show w.heap.size + 1 < _; omega⟩ _ |>.trans ⟨rfl, rfl, rfl, Nat.le_refl _, fun _ _ _ => rfl⟩
      exact ⟨t, t8, G, G8, cap, cap8, zs, z8s, rfl, ht, ht8, by omega, by omega, (ho.keep kk (by omega)).down (by omega), (ho9.keep kk (by omega)).down (by omega), bb.trans (kk.below (by omega) bb.size)⟩
    clear ho ho9 bb
    go_region
    all_goals
      go_wp2_with fail
      have d01 := two_cells p1' p2' (.int .i64 t) (.slice G zs.length cap)
      have d00 : ((w9.setCell ⟨w.heap.size, 0, none⟩ (.int .i64 t)).setCell ⟨w.heap.size, 1, none⟩ (.slice G zs.length cap)).cell? ⟨w.heap.size, 0, none⟩ = some (.int .i64 t) := (World.cell?_setCell_other _ _ _ _ (by simp)).trans d01.1
      have d0 := cells_other d00 (show w.heap.size ≠ w.heap.size + 1 by omega) (.int .i64 t8) (.slice G8 z8s.length cap8)
      have d1 := cells_other d01.2 (show w.heap.size ≠ w.heap.size + 1 by omega) (.int .i64 t8) (.slice G8 z8s.length cap8)
      have e01 := two_cells (cells_other q1' (show w.heap.size + 1 ≠ w.heap.size by omega) (.int .i64 t) (.slice G zs.length cap)) (cells_other q2' (show w.heap.size + 1 ≠ w.heap.size by omega) (.int .i64 t) (.slice G zs.length cap)) (.int .i64 t8) (.slice G8 z8s.length cap8)
      exact bodyPost_ret (v := .tuple #[.agg #[.int .i64 t, .slice G zs.length cap], .agg #[.int .i64 t8, .slice G8 z8s.length cap8]]) (by simp [results, Try.results13, go_sem, d0, d1, e01.1, e01.2]) rfl (HF.out _ _ _ _)
end Go.Proofs.Ytebdgdmdjgkboaa
