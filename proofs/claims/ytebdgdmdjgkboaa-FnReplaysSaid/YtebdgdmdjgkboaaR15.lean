/-
  The draws of chapter 4: DrawCheckReplay, DrawTakeReplay, DrawSameReplays.
-/
import Derived.Test.YtebdgdmdjgkboaaR14
namespace Go.Proofs.Ytebdgdmdjgkboaa
open Go.RowKit
set_option linter.unusedVariables false
set_option maxRecDepth 100000

/-- A window and a number were drawn. -/
def DrawnP (w : World) (e : Ending) (w' : World) : Prop :=
  ∃ (t sq : Int) (G : Option Addr) (cap : Nat) (zs : List Int), e = .returned (.tuple #[.agg #[.int .i64 t, .slice G zs.length cap], .int .i64 sq]) ∧ (-2 ≤ t ∧ t ≤ 10000) ∧ (-9223372036854775808 ≤ sq ∧ sq ≤ 9223372036854775807) ∧ zs.length ≤ 11 ∧ OwnI w' w.heap.size G zs.length cap zs ∧ Below w.heap.size w w'

set_option maxHeartbeats 4000000 in
theorem drawCheck_any (A : Option Addr) (n c hi : Nat) (xs : List Int) (w : World) (h : Rd w 0 hi A n xs) :
    Calls Try.prog 12 #[.slice A n c] w (DrawnP w) := by
  have htop := h.top
  go_enter Try.func12, Try.ntmps12
  go_wp2_with fail
  have hQ : QB (w.alloc (.cells #[.int .i64 0, .slice none 0 0] 26)) w.heap.size := ⟨by simp, ⟨.int .i64 0, by simp [go_sem]⟩, ⟨.slice none 0 0, by simp [go_sem]⟩, by simp [go_sem], by simp [go_sem]⟩
  have bb : Below w.heap.size w (w.alloc (.cells #[.int .i64 0, .slice none 0 0] 26)) := (Below.refl _ w).alloc (Nat.le_refl _) _
  have h0 := h.keep ((Keep.refl 0 0 w).alloc (.cells #[.int .i64 0, .slice none 0 0] 26)) (by omega)
  have z0 : (w.alloc (.cells #[.int .i64 0, .slice none 0 0] 26)).heap.size = w.heap.size + 1 := by simp
  generalize (w.alloc (.cells #[.int .i64 0, .slice none 0 0] 26)) = w1 at *
  refine (source_any A n c hi xs w1 h0).mono ?_
  rintro e w2 ⟨s, rfl, hs, s0, b2⟩
  have k2 := Keep.of_below b2 0 0
  replace hQ := hQ.keep k2 (by omega)
  replace bb := bb.trans (b2.mono bb.size)
  have z2 := b2.size
  clear b2 k2 h0
  go_wp2_with fail
  refine (l4Bent_any s 0 A n c hi xs w2 hs (by omega)).mono ?_
  rintro e w3 ⟨t, G, cap, k3, zs, rfl, ht, hzl, ho, hs3, hk3, ke3⟩
  replace hQ := hQ.keep ke3 (by omega)
  replace bb := bb.trans (ke3.below (by omega) bb.size)
  have z3 := ke3.size
  have hs3' := hs3.1
  have hs2 := hs.1
  clear hs ke3
  have kb := (Keep.refl 0 0 w3).alloc (.cells #[.int .i64 t, .slice G zs.length cap] 26)
  have c0 : (w3.alloc (.cells #[.int .i64 t, .slice G zs.length cap] 26)).cell? ⟨w3.heap.size, 0, none⟩ = some (.int .i64 t) := by simp [go_sem]
  have c1 : (w3.alloc (.cells #[.int .i64 t, .slice G zs.length cap] 26)).cell? ⟨w3.heap.size, 1, none⟩ = some (.slice G zs.length cap) := by simp [go_sem]
  replace hQ := hQ.keep kb (by omega)
  replace bb := bb.trans (kb.below (by omega) bb.size)
  have hs4 := hs3.keep kb (by omega) (by omega)
  have ho4 := ho.keep kb (by omega)
  have z4 : (w3.alloc (.cells #[.int .i64 t, .slice G zs.length cap] 26)).heap.size = w3.heap.size + 1 := by simp
  clear kb ho hs3
  go_upto_region 3 with fail
  generalize w3.alloc (.cells #[.int .i64 t, .slice G zs.length cap] 26) = w4 at *
  replace z4 : w3.heap.size + 1 ≤ w4.heap.size := by omega
  obtain ⟨t1, hw1, b1⟩ : ∃ t1, IntKind.i64.wrap (t + 1) = t1 ∧ (-2000 ≤ t1 ∧ t1 ≤ 20000) := ⟨_, rfl, by rw [IntKind.wrap_i64]; omega⟩
  obtain ⟨t31, hw2, b2⟩ : ∃ t1, IntKind.i64.wrap (t - 31) = t1 ∧ (-2000 ≤ t1 ∧ t1 ≤ 20000) := ⟨_, rfl, by rw [IntKind.wrap_i64]; omega⟩
  obtain ⟨t32, hw3, b3⟩ : ∃ t1, IntKind.i64.wrap (t - 32) = t1 ∧ (-2000 ≤ t1 ∧ t1 ≤ 20000) := ⟨_, rfl, by rw [IntKind.wrap_i64]; omega⟩
  obtain ⟨tm, hw4, b4⟩ : ∃ t1, IntKind.i64.wrap (t - 1) = t1 ∧ (-2000 ≤ t1 ∧ t1 ≤ 20000) := ⟨_, rfl, by rw [IntKind.wrap_i64]; omega⟩
  have hkd : Keep 0 0 w4 w4.drew := ⟨rfl, rfl, rfl, Nat.le_refl _, fun _ _ _ => rfl⟩
  have ka := (Keep.refl 0 0 w4).alloc (.cells ([0, t, t1, t31, t32, tm, 10000, -1].map (Value.int .i64)).toArray 2)
  have kd : Keep 0 0 w4 (w4.alloc (.cells ([0, t, t1, t31, t32, tm, 10000, -1].map (Value.int .i64)).toArray 2)).drew := ka.trans ⟨rfl, rfl, rfl, Nat.le_refl _, fun _ _ _ => rfl⟩
  have hsd := hs4.keep kd (by omega) (by omega)
  have n1 : w4.heap.size ≠ s := by omega
  have cd0 := (hkd.cell (p := ⟨w3.heap.size, 0, none⟩) (by show w3.heap.size < _; omega) (by show w3.heap.size < 0 ∨ 0 ≤ w3.heap.size; omega)).trans c0
  have cd1 := (hkd.cell (p := ⟨w3.heap.size, 1, none⟩) (by show w3.heap.size < _; omega) (by show w3.heap.size < 0 ∨ 0 ≤ w3.heap.size; omega)).trans c1
  have ca0 := (kd.cell (p := ⟨w3.heap.size, 0, none⟩) (by show w3.heap.size < _; omega) (by show w3.heap.size < 0 ∨ 0 ≤ w3.heap.size; omega)).trans c0
  have ca1 := (kd.cell (p := ⟨w3.heap.size, 1, none⟩) (by show w3.heap.size < _; omega) (by show w3.heap.size < 0 ∨ 0 ≤ w3.heap.size; omega)).trans c1
  have hQd := hQ.keep kd (by omega)
  have bbd := bb.trans (kd.below (B := w.heap.size) (by omega) bb.size)
  have hod := ho4.keep kd (by omega)
  have hzd : w4.heap.size + 1 = ((w4.alloc (.cells ([0, t, t1, t31, t32, tm, 10000, -1].map (Value.int .i64)).toArray 2)).drew).heap.size := by simp
  have hrc : ∀ j, j < 8 → ((w4.alloc (.cells ([0, t, t1, t31, t32, tm, 10000, -1].map (Value.int .i64)).toArray 2)).drew).cell? ⟨w4.heap.size, j, none⟩ = some (.int .i64 ([0, t, t1, t31, t32, tm, 10000, -1].getD j 0)) := fun j hj => row_cells w4 [0, t, t1, t31, t32, tm, 10000, -1] _ _ rfl j hj
  go_region_held3 (fun w' => w'.cell? ⟨w3.heap.size, 0, none⟩ = some (.int .i64 t) ∧ w'.cell? ⟨w3.heap.size, 1, none⟩ = some (.slice G zs.length cap))
    (first
      | go_keep
      | exact ⟨e0, e1⟩
      | exact ⟨(World.cell?_setCell_other _ _ _ _ (by first | (simp; done) | (simp; omega))).trans ((World.cell?_setCell_other _ _ _ _ (by first | (simp; done) | (simp; omega))).trans e0), (World.cell?_setCell_other _ _ _ _ (by first | (simp; done) | (simp; omega))).trans ((World.cell?_setCell_other _ _ _ _ (by first | (simp; done) | (simp; omega))).trans e1)⟩)
    ((go_at_call 36; refine (pick_any s k3 w4.heap.size 8 A n c hi xs [0, t, t1, t31, t32, tm, 10000, -1] 8 _ hsd (by omega) rfl (by omega) (by omega) n1 (by omega) hrc).mono ?_; rintro e w5 ⟨r, m1, rfl, hs5, k5⟩; have z5 := k5.size; have e0 := (k5.cell (p := ⟨w3.heap.size, 0, none⟩) (by show w3.heap.size < _; omega) (by show w3.heap.size < s ∨ s + 1 ≤ w3.heap.size; omega)).trans ca0; have e1 := (k5.cell (p := ⟨w3.heap.size, 1, none⟩) (by show w3.heap.size < _; omega) (by show w3.heap.size < s ∨ s + 1 ≤ w3.heap.size; omega)).trans ca1; obtain ⟨q0, ⟨v0, q1⟩, ⟨v1, q2⟩, q3, q4⟩ := hQd.keep k5 (by omega); have bb5 := bbd.trans (k5.below (B := w.heap.size) (by omega) bbd.size); have ho5 := hod.keep k5 (by omega)))
  have HF : Hid (∀ x0 x1, DrawnP w (.returned (.tuple #[.agg #[.int .i64 t, .slice G zs.length cap], .int .i64 r])) ((w5.setCell ⟨w.heap.size, 0, none⟩ x0).setCell ⟨w.heap.size, 1, none⟩ x1)) := fun x0 x1 => by
    have kk : Keep w.heap.size (w.heap.size + 1) w5 ((w5.setCell ⟨w.heap.size, 0, none⟩ x0).setCell ⟨w.heap.size, 1, none⟩ x1) :=
      ((Keep.refl _ _ w5).setCell (p := ⟨w.heap.size, 0, none⟩) ⟨Nat.le_refl _, Nat.lt_succ_self _⟩ _).setCell (p := ⟨w.heap.size, 1, none⟩) ⟨Nat.le_refl _, Nat.lt_succ_self _⟩ _
    exact ⟨t, r, G, cap, zs, rfl, ht, by simp at m1; omega, hzl, (ho5.keep kk (by omega)).down (by omega), bb5.trans (kk.below (by omega) bb5.size)⟩
  clear ho5 bb5 hQd bbd hod hsd m1 hs5 k5
  go_wp2_with fail
  obtain ⟨g0, g1⟩ := two_cells q1 q2 (.int .i64 t) (.slice G zs.length cap)
  exact bodyPost_ret (v := .tuple #[.agg #[.int .i64 t, .slice G zs.length cap], .int .i64 r]) (by simp [results, Try.results12, go_sem, g0, g1]) rfl (HF.out _ _)

set_option maxHeartbeats 1000000 in
theorem drawTake_any (A : Option Addr) (n c hi : Nat) (xs : List Int) (w : World) (h : Rd w 0 hi A n xs) :
    Calls Try.prog 10 #[.slice A n c] w (DrawnP w) := by
  have htop := h.top
  go_enter Try.func10, Try.ntmps10
  go_wp2_with fail
  have hQ : QB (w.alloc (.cells #[.int .i64 0, .slice none 0 0] 26)) w.heap.size := ⟨by simp, ⟨.int .i64 0, by simp [go_sem]⟩, ⟨.slice none 0 0, by simp [go_sem]⟩, by simp [go_sem], by simp [go_sem]⟩
  have bb : Below w.heap.size w (w.alloc (.cells #[.int .i64 0, .slice none 0 0] 26)) := (Below.refl _ w).alloc (Nat.le_refl _) _
  have h0 := h.keep ((Keep.refl 0 0 w).alloc (.cells #[.int .i64 0, .slice none 0 0] 26)) (by omega)
  have z0 : w.heap.size + 1 ≤ (w.alloc (.cells #[.int .i64 0, .slice none 0 0] 26)).heap.size := by simp
  generalize (w.alloc (.cells #[.int .i64 0, .slice none 0 0] 26)) = w1 at *
  refine (drawCheck_any A n c hi xs w1 h0).mono ?_
  rintro e w5 ⟨t, r, G, cap, zs, rfl, ht, hr, hzl, ho5, b5⟩
  replace hQ := hQ.keep (Keep.of_below b5 0 0) (by omega)
  have bb5 := bb.trans (b5.mono bb.size)
  obtain ⟨q0, ⟨v0, q1⟩, ⟨v1, q2⟩, q3, q4⟩ := hQ
  have HF : Hid (∀ x0 x1, DrawnP w (.returned (.tuple #[.agg #[.int .i64 t, .slice G zs.length cap], .int .i64 r])) ((w5.setCell ⟨w.heap.size, 0, none⟩ x0).setCell ⟨w.heap.size, 1, none⟩ x1)) := fun x0 x1 => by
    have kk : Keep w.heap.size (w.heap.size + 1) w5 ((w5.setCell ⟨w.heap.size, 0, none⟩ x0).setCell ⟨w.heap.size, 1, none⟩ x1) :=
      ((Keep.refl _ _ w5).setCell (p := ⟨w.heap.size, 0, none⟩) ⟨Nat.le_refl _, Nat.lt_succ_self _⟩ _).setCell (p := ⟨w.heap.size, 1, none⟩) ⟨Nat.le_refl _, Nat.lt_succ_self _⟩ _
    exact ⟨t, r, G, cap, zs, rfl, ht, hr, hzl, (ho5.keep kk (by omega)).down (by omega), bb5.trans (kk.below (by omega) bb5.size)⟩
  clear ho5 bb5 b5 bb
  go_wp2_with fail
  obtain ⟨g0, g1⟩ := two_cells q1 q2 (.int .i64 t) (.slice G zs.length cap)
  exact bodyPost_ret (v := .tuple #[.agg #[.int .i64 t, .slice G zs.length cap], .int .i64 r]) (by simp [results, Try.results10, go_sem, g0, g1]) rfl (HF.out _ _)
end Go.Proofs.Ytebdgdmdjgkboaa
