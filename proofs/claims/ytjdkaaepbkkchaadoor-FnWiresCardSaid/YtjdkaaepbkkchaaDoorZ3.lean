/-
  ED, in one text.
-/
import Derived.Test.YtjdkaaepbkkchaaDoorZ1
import Derived.Test.YtjdkaaepbkkchaaDoorDraw
import Derived.Deep.Cut
import Derived.Test.YtjdkaaepbkkchaaDoorZ2
import Derived.Deep.RegionLaw
import Derived.Deep.RegionHeld3
import Derived.Test.YtjdkaaepbkkchaaDoorLwS
import Derived.Test.YtjdkaaepbkkchaaDoorSrc
namespace Go.Proofs.YtjdkaaepbkkchaaDoor
open Go.RowKit
set_option linter.unusedVariables false
set_option maxRecDepth 100000

theorem keep_new {W W' : World} {s lo hi : Nat} {w : World} (h : Keep s (s + 1) w W) (k : Keep lo hi W W') (ho : (lo = s ∧ hi = s + 1) ∨ w.heap.size ≤ lo ∨ hi ≤ lo) : Keep s (s + 1) w W' :=
  ⟨k.os.trans h.os, k.tape.trans h.tape, k.output.trans h.output, Nat.le_trans h.size k.size, fun i h1 h2 => (k.block i (Nat.lt_of_lt_of_le h1 h.size) (by omega)).trans (h.block i h1 h2)⟩
/-- Four cells that may be written. -/
def V4 (w : World) (b : Nat) (u0 u1 u2 u3 : Value) : Prop := Box4 w b u0 u1 u2 u3 ∧ ∀ j, w.frozen? ⟨b, j, none⟩ = false
theorem V4.keep {w w' : World} {b lo hi : Nat} {u0 u1 u2 u3 : Value} (h : V4 w b u0 u1 u2 u3) (k : Keep lo hi w w') (ho : b < lo ∨ hi ≤ b) : V4 w' b u0 u1 u2 u3 :=
  ⟨h.1.keep k ho, fun j => (k.frozen (p := ⟨b, j, none⟩) h.1.1 ho).trans (h.2 j)⟩
theorem V4.new (w : World) (u0 u1 u2 u3 : Value) (t : TypeId) : V4 (w.alloc (.cells #[u0, u1, u2, u3] t)) w.heap.size u0 u1 u2 u3 :=
  ⟨Box4.new w u0 u1 u2 u3 t, fun j => by simp [go_sem]⟩
theorem V4.all {w : World} {b : Nat} {u0 u1 u2 u3 : Value} (h : V4 w b u0 u1 u2 u3) (a0 a1 a2 a3 : Value) : V4 ((((w.setCell ⟨b, 0, none⟩ a0).setCell ⟨b, 1, none⟩ a1).setCell ⟨b, 2, none⟩ a2).setCell ⟨b, 3, none⟩ a3) b a0 a1 a2 a3 :=
  ⟨four_cells h.1.2.1 h.1.2.2.1 h.1.2.2.2.1 h.1.2.2.2.2 a0 a1 a2 a3, fun j => by simp only [World.frozen?_setCell]; exact h.2 j⟩
theorem V4.set0 {w : World} {b : Nat} {u0 u1 u2 u3 : Value} (h : V4 w b u0 u1 u2 u3) (a : Value) : V4 (w.setCell ⟨b, 0, none⟩ a) b a u1 u2 u3 := by
  refine ⟨⟨by simpa [World.setCell] using h.1.1, World.cell?_setCell_same _ _ _ h.1.2.1, ?_, ?_, ?_⟩, fun j => by rw [World.frozen?_setCell]; exact h.2 j⟩
  · rw [World.cell?_setCell_other _ _ _ _ (by simp)]; exact h.1.2.2.1
  · rw [World.cell?_setCell_other _ _ _ _ (by simp)]; exact h.1.2.2.2.1
  · rw [World.cell?_setCell_other _ _ _ _ (by simp)]; exact h.1.2.2.2.2
theorem V4.set1 {w : World} {b : Nat} {u0 u1 u2 u3 : Value} (h : V4 w b u0 u1 u2 u3) (a : Value) : V4 (w.setCell ⟨b, 1, none⟩ a) b u0 a u2 u3 := by
  refine ⟨⟨by simpa [World.setCell] using h.1.1, ?_, World.cell?_setCell_same _ _ _ h.1.2.2.1, ?_, ?_⟩, fun j => by rw [World.frozen?_setCell]; exact h.2 j⟩
  · rw [World.cell?_setCell_other _ _ _ _ (by simp)]; exact h.1.2.1
  · rw [World.cell?_setCell_other _ _ _ _ (by simp)]; exact h.1.2.2.2.1
  · rw [World.cell?_setCell_other _ _ _ _ (by simp)]; exact h.1.2.2.2.2
theorem V4.set2 {w : World} {b : Nat} {u0 u1 u2 u3 : Value} (h : V4 w b u0 u1 u2 u3) (a : Value) : V4 (w.setCell ⟨b, 2, none⟩ a) b u0 u1 a u3 := by
  refine ⟨⟨by simpa [World.setCell] using h.1.1, ?_, ?_, World.cell?_setCell_same _ _ _ h.1.2.2.2.1, ?_⟩, fun j => by rw [World.frozen?_setCell]; exact h.2 j⟩
  · rw [World.cell?_setCell_other _ _ _ _ (by simp)]; exact h.1.2.1
  · rw [World.cell?_setCell_other _ _ _ _ (by simp)]; exact h.1.2.2.1
  · rw [World.cell?_setCell_other _ _ _ _ (by simp)]; exact h.1.2.2.2.2
theorem V4.set3 {w : World} {b : Nat} {u0 u1 u2 u3 : Value} (h : V4 w b u0 u1 u2 u3) (a : Value) : V4 (w.setCell ⟨b, 3, none⟩ a) b u0 u1 u2 a := by
  refine ⟨⟨by simpa [World.setCell] using h.1.1, ?_, ?_, ?_, World.cell?_setCell_same _ _ _ h.1.2.2.2.2⟩, fun j => by rw [World.frozen?_setCell]; exact h.2 j⟩
  · rw [World.cell?_setCell_other _ _ _ _ (by simp)]; exact h.1.2.1
  · rw [World.cell?_setCell_other _ _ _ _ (by simp)]; exact h.1.2.2.1
  · rw [World.cell?_setCell_other _ _ _ _ (by simp)]; exact h.1.2.2.2.1
/-- A drawn item is small. -/
def ItSm (x : Itm) : Prop := x.2.1.length ≤ 9 ∧ (-1 ≤ x.2.2.1 ∧ x.2.2.1 ≤ 1000) ∧ (-1 ≤ x.2.2.2 ∧ x.2.2.2 ≤ 1000)
/-- What an item's draw leaves. -/
def ItemD (N : Nat) (w : World) (s k : Nat) (A : Option Addr) (nc cc hi : Nat) (xs : List Int) (e : Ending) (w' : World) : Prop :=
  ∃ (x : Itm) (GB : Option Addr) (cb k' : Nat), e = .returned (.agg #[.int .i64 x.1, .slice GB x.2.1.length cb, .int .i64 x.2.2.1, .int .i64 x.2.2.2]) ∧ (GB = none → cb = 0) ∧ Wr w' w.heap.size w'.heap.size GB x.2.1.length x.2.1 ∧ ItSm x ∧ k' ≤ k + N ∧
    Src w' s k' A nc cc hi xs ∧ Keep s (s + 1) w w'
theorem Wr.nothing (w : World) (B : Nat) (h : B ≤ w.heap.size) : Wr w B w.heap.size none 0 [] := ⟨⟨rfl, Nat.zero_le _, Nat.le_refl _, by simp, fun h => absurd h (by omega)⟩, fun _ _ _ j hj => by omega⟩

set_option maxHeartbeats 4000000 in
theorem drawItem_any (s k : Nat) (A : Option Addr) (nc cc hi : Nat) (xs : List Int) (w : World) (h : Src w s k A nc cc hi xs) (hk : k ≤ 100000) :
    Calls Tryd.prog 81 #[.pointer (some ⟨s, 0, none⟩)] w (ItemD 20 w s k A nc cc hi xs) := by
  have hsb := h.1
  have hhi := h.2.1
  have hs := h.keep ((Keep.refl 0 0 w).alloc (.cells #[.int .i64 0, .slice none 0 0, .int .i64 0, .int .i64 0] 55)) (by omega) (by omega)
  have hR := V4.new w (.int .i64 0) (.slice none 0 0) (.int .i64 0) (.int .i64 0) 55
  have hke : Keep s (s + 1) w (w.alloc (.cells #[.int .i64 0, .slice none 0 0, .int .i64 0, .int .i64 0] 55)) := (Keep.refl _ _ w).alloc _
  have z0 : (w.alloc (.cells #[.int .i64 0, .slice none 0 0, .int .i64 0, .int .i64 0] 55)).heap.size = w.heap.size + 1 := by simp
  go_enter Tryd.func81, Tryd.ntmps81
  go_wp2_with fail
  generalize (w.alloc (.cells #[.int .i64 0, .slice none 0 0, .int .i64 0, .int .i64 0] 55)) = w1 at *
  clear h
  refine (chance_any s k A nc cc hi xs 4 w1 hs (by omega) (by omega)).mono ?_
  rintro e w2 ⟨rb, rfl, h_w2, k_w2⟩
  replace hR := hR.keep k_w2 (by omega)
  replace hke := hke.trans k_w2
  have z_w2 := k_w2.size
  clear k_w2 hs
  have hs := h_w2
  clear h_w2
  cases rb with
  | true =>
    go_wp2_with fail
    have ha_w3 := hs.keep ((Keep.refl 0 0 w2).alloc (.cells ([1, 80, 999].map (Value.int .i64)).toArray 2)) (by omega) (by omega)
    have n_w3 : w2.heap.size ≠ s := by have := hs.1; omega
    refine (pick_any s (k + 1) w2.heap.size 3 A nc cc hi xs [1, 80, 999] 3 _ ha_w3 (by omega) rfl (by omega) (by omega) n_w3 (by simp) (row_cells w2 [1, 80, 999] _ _ rfl)).mono ?_
    rintro e w3 ⟨cols, m_w3, rfl, h_w3, k_w3⟩
    have kk_w3 := ((Keep.refl s (s + 1) w2).alloc (.cells ([1, 80, 999].map (Value.int .i64)).toArray 2)).trans k_w3
    have y_cols : 1 ≤ cols ∧ cols ≤ 999 := by simp at m_w3; omega
    replace hR := hR.keep kk_w3 (by omega)
    replace hke := hke.trans kk_w3
    have z_w3 := kk_w3.size
    clear ha_w3 n_w3 m_w3 kk_w3 k_w3 hs
    have hs := h_w3
    clear h_w3
    go_wp2_with fail
    have ha_w4 := hs.keep ((Keep.refl 0 0 w3).alloc (.cells ([1, 24, 999].map (Value.int .i64)).toArray 2)) (by omega) (by omega)
    have n_w4 : w3.heap.size ≠ s := by have := hs.1; omega
    refine (pick_any s (k + 1 + 1) w3.heap.size 3 A nc cc hi xs [1, 24, 999] 3 _ ha_w4 (by omega) rfl (by omega) (by omega) n_w4 (by simp) (row_cells w3 [1, 24, 999] _ _ rfl)).mono ?_
    rintro e w4 ⟨rows, m_w4, rfl, h_w4, k_w4⟩
    have kk_w4 := ((Keep.refl s (s + 1) w3).alloc (.cells ([1, 24, 999].map (Value.int .i64)).toArray 2)).trans k_w4
    have y_rows : 1 ≤ rows ∧ rows ≤ 999 := by simp at m_w4; omega
    replace hR := hR.keep kk_w4 (by omega)
    replace hke := hke.trans kk_w4
    have z_w4 := kk_w4.size
    clear ha_w4 n_w4 m_w4 kk_w4 k_w4 hs
    have hs := h_w4
    clear h_w4
    have hF := hR.all (.int .i64 2) (.slice none 0 0) (.int .i64 cols) (.int .i64 rows)
    have kR : Keep w.heap.size (w.heap.size + 1) w4 ((((w4.setCell ⟨w.heap.size, 0, none⟩ (.int .i64 2)).setCell ⟨w.heap.size, 1, none⟩ (.slice none 0 0)).setCell ⟨w.heap.size, 2, none⟩ (.int .i64 cols)).setCell ⟨w.heap.size, 3, none⟩ (.int .i64 rows)) :=
      ((((Keep.refl _ _ w4).setCell (p := ⟨w.heap.size, 0, none⟩) ⟨Nat.le_refl _, Nat.lt_succ_self _⟩ _).setCell (p := ⟨w.heap.size, 1, none⟩) ⟨Nat.le_refl _, Nat.lt_succ_self _⟩ _).setCell (p := ⟨w.heap.size, 2, none⟩) ⟨Nat.le_refl _, Nat.lt_succ_self _⟩ _).setCell (p := ⟨w.heap.size, 3, none⟩) ⟨Nat.le_refl _, Nat.lt_succ_self _⟩ _
    have HF : Hid (ItemD 20 w s k A nc cc hi xs (.returned (.agg #[.int .i64 2, .slice none 0 0, .int .i64 cols, .int .i64 rows])) ((((w4.setCell ⟨w.heap.size, 0, none⟩ (.int .i64 2)).setCell ⟨w.heap.size, 1, none⟩ (.slice none 0 0)).setCell ⟨w.heap.size, 2, none⟩ (.int .i64 cols)).setCell ⟨w.heap.size, 3, none⟩ (.int .i64 rows))) :=
      ⟨(2, [], cols, rows), none, 0, _, rfl, fun _ => rfl, Wr.nothing _ _ (by have := kR.size; omega), ⟨by simp, by simp only []; omega, by simp only []; omega⟩, by omega, hs.keep kR (by omega) (by omega), keep_new hke kR (by omega)⟩
    obtain ⟨_, q0, q1, q2, q3⟩ := hF.1
    obtain ⟨⟨_, b0, b1, b2, b3⟩, bf⟩ := hR
    have f0 := bf 0
    have f1 := bf 1
    have f2 := bf 2
    have f3 := bf 3
    clear hF kR bf hke hs
    go_wp2_with fail
    exact bodyPost_ret (v := .agg #[.int .i64 2, .slice none 0 0, .int .i64 cols, .int .i64 rows]) (by simp [results, Tryd.results81, go_sem, q0, q1, q2, q3]) rfl HF.out
  | false =>
    go_wp2_with fail
    have ha_w3 := hs.keep ((Keep.refl 0 0 w2).alloc (.cells ([1, 1, 1, 2, 3, 8].map (Value.int .i64)).toArray 2)) (by omega) (by omega)
    have n_w3 : w2.heap.size ≠ s := by have := hs.1; omega
    refine (pick_any s (k + 1) w2.heap.size 6 A nc cc hi xs [1, 1, 1, 2, 3, 8] 6 _ ha_w3 (by omega) rfl (by omega) (by omega) n_w3 (by simp) (row_cells w2 [1, 1, 1, 2, 3, 8] _ _ rfl)).mono ?_
    rintro e w3 ⟨m, m_w3, rfl, h_w3, k_w3⟩
    have kk_w3 := ((Keep.refl s (s + 1) w2).alloc (.cells ([1, 1, 1, 2, 3, 8].map (Value.int .i64)).toArray 2)).trans k_w3
    have y_m : 1 ≤ m ∧ m ≤ 8 := by simp at m_w3; omega
    replace hR := hR.keep kk_w3 (by omega)
    replace hke := hke.trans kk_w3
    have z_w3 := kk_w3.size
    clear ha_w3 n_w3 m_w3 kk_w3 k_w3 hs
    have hs := h_w3
    clear h_w3
    go_wp2_with fail
    refine (some_any s (k + 1 + 1) A nc cc hi xs m w3 hs (by omega) (by omega)).mono ?_
    rintro e w4 ⟨g, cap, zs, rfl, hwz, h4, k4⟩
    replace hR := hR.keep k4 (by omega)
    replace hke := hke.trans k4
    have z4 := k4.size
    obtain ⟨l, hl⟩ : ∃ l, m.toNat = l := ⟨_, rfl⟩
    have hl8 : l ≤ 8 := by omega
    rw [hl] at hwz h4 ⊢
    obtain rfl : zs.length = l := hwz.1.len
    have HL := Lib.hid hl
    clear k4 hs hl
    have hF := hR.all (.int .i64 1) (.slice (some ⟨g, 0, none⟩) zs.length cap) (.int .i64 0) (.int .i64 0)
    have kR : Keep w.heap.size (w.heap.size + 1) w4 ((((w4.setCell ⟨w.heap.size, 0, none⟩ (.int .i64 1)).setCell ⟨w.heap.size, 1, none⟩ (.slice (some ⟨g, 0, none⟩) zs.length cap)).setCell ⟨w.heap.size, 2, none⟩ (.int .i64 0)).setCell ⟨w.heap.size, 3, none⟩ (.int .i64 0)) :=
      ((((Keep.refl _ _ w4).setCell (p := ⟨w.heap.size, 0, none⟩) ⟨Nat.le_refl _, Nat.lt_succ_self _⟩ _).setCell (p := ⟨w.heap.size, 1, none⟩) ⟨Nat.le_refl _, Nat.lt_succ_self _⟩ _).setCell (p := ⟨w.heap.size, 2, none⟩) ⟨Nat.le_refl _, Nat.lt_succ_self _⟩ _).setCell (p := ⟨w.heap.size, 3, none⟩) ⟨Nat.le_refl _, Nat.lt_succ_self _⟩ _
    have HF : Hid (ItemD 20 w s k A nc cc hi xs (.returned (.agg #[.int .i64 1, .slice (some ⟨g, 0, none⟩) zs.length cap, .int .i64 0, .int .i64 0])) ((((w4.setCell ⟨w.heap.size, 0, none⟩ (.int .i64 1)).setCell ⟨w.heap.size, 1, none⟩ (.slice (some ⟨g, 0, none⟩) zs.length cap)).setCell ⟨w.heap.size, 2, none⟩ (.int .i64 0)).setCell ⟨w.heap.size, 3, none⟩ (.int .i64 0))) :=
      ⟨(1, zs, 0, 0), _, cap, _, rfl, (fun e => by cases e), (hwz.keep kR (by omega)).wide (by omega) kR.size (Nat.le_refl _), ⟨by simp only []; omega, by simp only []; omega, by simp only []; omega⟩, by omega, h4.keep kR (by omega) (by omega), keep_new hke kR (by omega)⟩
    obtain ⟨_, q0, q1, q2, q3⟩ := hF.1
    obtain ⟨⟨_, b0, b1, b2, b3⟩, bf⟩ := hR
    have f0 := bf 0
    have f1 := bf 1
    have f2 := bf 2
    have f3 := bf 3
    clear hF kR bf hke h4 hwz
    go_wp2_with fail
    exact bodyPost_ret (v := .agg #[.int .i64 1, .slice (some ⟨g, 0, none⟩) zs.length cap, .int .i64 0, .int .i64 0]) (by simp [results, Tryd.results81, go_sem, q0, q1, q2, q3]) rfl HF.out
end Go.Proofs.YtjdkaaepbkkchaaDoor
namespace Go.Proofs.YtjdkaaepbkkchaaDoor
open Go.RowKit
set_option linter.unusedVariables false
set_option maxRecDepth 100000

theorem item_done {N R L U k k' s nc cc hi cb : Nat} {A GB : Option Addr} {xs : List Int} {x : Itm} {w wz : World} {u0 u1 u2 u3 : Value} (hR : V4 wz R u0 u1 u2 u3) (hlo : w.heap.size ≤ R) (hs : Src wz s k' A nc cc hi xs) (hsw : s < w.heap.size)
    (hke : Keep s (s + 1) w wz) (hw : Wr wz L U GB x.2.1.length x.2.1) (hL : w.heap.size ≤ L ∧ U ≤ wz.heap.size ∧ (R < L ∨ U ≤ R)) (hgz : GB = none → cb = 0) (hsm : ItSm x) (hk : k' ≤ k + N) :
    ItemD N w s k A nc cc hi xs (.returned (.agg #[.int .i64 x.1, .slice GB x.2.1.length cb, .int .i64 x.2.2.1, .int .i64 x.2.2.2])) ((((wz.setCell ⟨R, 0, none⟩ (.int .i64 x.1)).setCell ⟨R, 1, none⟩ (.slice GB x.2.1.length cb)).setCell ⟨R, 2, none⟩ (.int .i64 x.2.2.1)).setCell ⟨R, 3, none⟩ (.int .i64 x.2.2.2)) := by
  have hhi := hs.2.1
  have kR : Keep R (R + 1) wz ((((wz.setCell ⟨R, 0, none⟩ (.int .i64 x.1)).setCell ⟨R, 1, none⟩ (.slice GB x.2.1.length cb)).setCell ⟨R, 2, none⟩ (.int .i64 x.2.2.1)).setCell ⟨R, 3, none⟩ (.int .i64 x.2.2.2)) :=
    ((((Keep.refl _ _ wz).setCell (p := ⟨R, 0, none⟩) ⟨Nat.le_refl _, Nat.lt_succ_self _⟩ _).setCell (p := ⟨R, 1, none⟩) ⟨Nat.le_refl _, Nat.lt_succ_self _⟩ _).setCell (p := ⟨R, 2, none⟩) ⟨Nat.le_refl _, Nat.lt_succ_self _⟩ _).setCell (p := ⟨R, 3, none⟩) ⟨Nat.le_refl _, Nat.lt_succ_self _⟩ _
  have hz := kR.size
  exact ⟨x, GB, cb, k', rfl, hgz, (hw.keep kR (by omega)).wide hL.1 (by omega) (Nat.le_refl _), hsm, hk, hs.keep kR (by omega) (by omega), keep_new hke kR (by omega)⟩

set_option maxHeartbeats 4000000 in
theorem bentItem_any (s k : Nat) (A : Option Addr) (nc cc hi : Nat) (xs : List Int) (w : World) (h : Src w s k A nc cc hi xs) (hk : k ≤ 90000) :
    Calls Tryd.prog 62 #[.pointer (some ⟨s, 0, none⟩)] w (ItemD 40 w s k A nc cc hi xs) := by
  have hsb := h.1
  have hhi := h.2.1
  have hs := h.keep ((Keep.refl 0 0 w).alloc (.cells #[.int .i64 0, .slice none 0 0, .int .i64 0, .int .i64 0] 55)) (by omega) (by omega)
  have hR := V4.new w (.int .i64 0) (.slice none 0 0) (.int .i64 0) (.int .i64 0) 55
  have hke : Keep s (s + 1) w (w.alloc (.cells #[.int .i64 0, .slice none 0 0, .int .i64 0, .int .i64 0] 55)) := (Keep.refl _ _ w).alloc _
  have z0 : (w.alloc (.cells #[.int .i64 0, .slice none 0 0, .int .i64 0, .int .i64 0] 55)).heap.size = w.heap.size + 1 := by simp
  go_enter Tryd.func62, Tryd.ntmps62
  go_wp2_with fail
  generalize (w.alloc (.cells #[.int .i64 0, .slice none 0 0, .int .i64 0, .int .i64 0] 55)) = w1 at *
  clear h
  refine (drawItem_any s k A nc cc hi xs w1 hs (by omega)).mono ?_
  rintro e w2 ⟨x, GB, cb, k2, rfl, hgz, hw, hsm, hk2, h2, k_2⟩
  replace hR := hR.keep k_2 (by omega)
  replace hke := hke.trans k_2
  have z2 := k_2.size
  clear hs k_2
  have hs := h2
  clear h2
  obtain ⟨xk, ys, xp, xq⟩ := x
  simp only at hw ⊢
  obtain ⟨hy9, hpr, hqr⟩ := hsm
  simp only at hy9 hpr hqr
  have kb := (Keep.refl 0 0 w2).alloc (.cells #[.int .i64 xk, .slice GB ys.length cb, .int .i64 xp, .int .i64 xq] 55)
  have hX := V4.new w2 (.int .i64 xk) (.slice GB ys.length cb) (.int .i64 xp) (.int .i64 xq) 55
  replace hR := hR.keep kb (by omega)
  replace hke := keep_new hke kb (by omega)
  replace hs := hs.keep kb (by omega) (by omega)
  replace hw := hw.keep kb (by omega)
  have z3 : (w2.alloc (.cells #[.int .i64 xk, .slice GB ys.length cb, .int .i64 xp, .int .i64 xq] 55)).heap.size = w2.heap.size + 1 := by simp
  clear kb
  go_upto_region 2 with fail
  generalize w2.alloc (.cells #[.int .i64 xk, .slice GB ys.length cb, .int .i64 xp, .int .i64 xq] 55) = w3 at *
  obtain ⟨BX, hBX⟩ : ∃ BX, BX = w2.heap.size := ⟨_, rfl⟩
  rw [← hBX] at hX hw z3
  simp only [← hBX]
  have hbx : w1.heap.size ≤ BX := by omega
  clear z2 hBX
  go_wp2_with fail
  refine (next_any s k2 A nc cc hi xs 12 w3 hs (by omega) (by omega)).mono ?_
  rintro e w4 ⟨c12, rfl, r0, r1, _, h4, k_4⟩
  replace hR := hR.keep k_4 (by omega)
  replace hX := hX.keep k_4 (by omega)
  replace hw := hw.keep k_4 (by omega)
  replace hke := hke.trans k_4
  have z4 := k_4.size
  clear hs k_4 r1
  have hs := h4
  clear h4
  rcases (show c12 = 0 ∨ c12 = 1 ∨ c12 = 2 ∨ c12 = 3 ∨ 4 ≤ c12 by omega) with rfl | rfl | rfl | rfl | hc12
  · go_wp2_with fail
    have ha_w5 := hs.keep ((Keep.refl 0 0 w4).alloc (.cells ([0, 1, 2, 3].map (Value.int .i64)).toArray 2)) (by omega) (by omega)
    have n_w5 : w4.heap.size ≠ s := by have := hs.1; omega
    refine (pick_any s (k2 + 1) w4.heap.size 4 A nc cc hi xs [0, 1, 2, 3] 4 _ ha_w5 (by omega) rfl (by omega) (by omega) n_w5 (by simp) (row_cells w4 [0, 1, 2, 3] _ _ rfl)).mono ?_
    rintro e w5 ⟨v, m_w5, rfl, h_w5, k_w5⟩
    have kk_w5 := ((Keep.refl s (s + 1) w4).alloc (.cells ([0, 1, 2, 3].map (Value.int .i64)).toArray 2)).trans k_w5
    have y_v : 0 ≤ v ∧ v ≤ 3 := by simp at m_w5; omega
    replace hR := hR.keep kk_w5 (by omega)
    replace hX := hX.keep kk_w5 (by omega)
    replace hw := hw.keep kk_w5 (by omega)
    replace hke := hke.trans kk_w5
    have z_w5 := kk_w5.size
    clear ha_w5 n_w5 m_w5 kk_w5 k_w5 hs
    have hs := h_w5
    clear h_w5
    have hX' := hX.set0 (.int .i64 v)
    have kX : Keep BX (BX + 1) w5 (w5.setCell ⟨BX, 0, none⟩ (.int .i64 v)) := (Keep.refl _ _ w5).setCell (p := ⟨BX, 0, none⟩) ⟨Nat.le_refl _, Nat.lt_succ_self _⟩ _
    replace hR := hR.keep kX (by omega)
    replace hs := hs.keep kX (by omega) (by omega)
    replace hke := keep_new hke kX (by omega)
    replace hw := hw.keep kX (by omega)
    have zX := kX.size
    obtain ⟨⟨_, x0, x1, x2, x3⟩, xf⟩ := hX
    have xfj := xf 0
    go_upto_region 11 with fail
    clear x0 x1 x2 x3 xf xfj kX
    generalize w5.setCell ⟨BX, 0, none⟩ (.int .i64 v) = wy at *
    have hX := hX'
    clear hX'
    have hsm : ItSm (v, ys, xp, xq) := ⟨hy9, by simp only []; omega, by simp only []; omega⟩
    have HF := Lib.hid (item_done (N := 40) (k := k) (x := (v, ys, xp, xq)) (cb := cb) hR (Nat.le_refl _) hs hsb hke hw (by omega) hgz hsm (by omega))
    have hF := hR.all (.int .i64 v) (.slice GB ys.length cb) (.int .i64 xp) (.int .i64 xq)
    obtain ⟨_, q0', q1', q2', q3'⟩ := hF.1
    obtain ⟨⟨_, b0, b1, b2, b3⟩, bf⟩ := hR
    obtain ⟨⟨_, x0, x1, x2, x3⟩, xf⟩ := hX
    have f0 := bf 0
    have f1 := bf 1
    have f2 := bf 2
    have f3 := bf 3
    clear hF bf hke hs hw xf hgz
    go_wp2_with fail
    exact bodyPost_ret (v := .agg #[.int .i64 v, .slice GB ys.length cb, .int .i64 xp, .int .i64 xq]) (by simp [results, Tryd.results62, go_sem, q0', q1', q2', q3']) rfl HF.out
  · go_wp2_with fail
    have ha_w5 := hs.keep ((Keep.refl 0 0 w4).alloc (.cells ([-1, 0, 1000, 5].map (Value.int .i64)).toArray 2)) (by omega) (by omega)
    have n_w5 : w4.heap.size ≠ s := by have := hs.1; omega
    refine (pick_any s (k2 + 1) w4.heap.size 4 A nc cc hi xs [-1, 0, 1000, 5] 4 _ ha_w5 (by omega) rfl (by omega) (by omega) n_w5 (by simp) (row_cells w4 [-1, 0, 1000, 5] _ _ rfl)).mono ?_
    rintro e w5 ⟨v, m_w5, rfl, h_w5, k_w5⟩
    have kk_w5 := ((Keep.refl s (s + 1) w4).alloc (.cells ([-1, 0, 1000, 5].map (Value.int .i64)).toArray 2)).trans k_w5
    have y_v : -1 ≤ v ∧ v ≤ 1000 := by simp at m_w5; omega
    replace hR := hR.keep kk_w5 (by omega)
    replace hX := hX.keep kk_w5 (by omega)
    replace hw := hw.keep kk_w5 (by omega)
    replace hke := hke.trans kk_w5
    have z_w5 := kk_w5.size
    clear ha_w5 n_w5 m_w5 kk_w5 k_w5 hs
    have hs := h_w5
    clear h_w5
    have hX' := hX.set2 (.int .i64 v)
    have kX : Keep BX (BX + 1) w5 (w5.setCell ⟨BX, 2, none⟩ (.int .i64 v)) := (Keep.refl _ _ w5).setCell (p := ⟨BX, 2, none⟩) ⟨Nat.le_refl _, Nat.lt_succ_self _⟩ _
    replace hR := hR.keep kX (by omega)
    replace hs := hs.keep kX (by omega) (by omega)
    replace hke := keep_new hke kX (by omega)
    replace hw := hw.keep kX (by omega)
    have zX := kX.size
    obtain ⟨⟨_, x0, x1, x2, x3⟩, xf⟩ := hX
    have xfj := xf 2
    go_upto_region 11 with fail
    clear x0 x1 x2 x3 xf xfj kX
    generalize w5.setCell ⟨BX, 2, none⟩ (.int .i64 v) = wy at *
    have hX := hX'
    clear hX'
    have hsm : ItSm (xk, ys, v, xq) := ⟨hy9, by simp only []; omega, by simp only []; omega⟩
    have HF := Lib.hid (item_done (N := 40) (k := k) (x := (xk, ys, v, xq)) (cb := cb) hR (Nat.le_refl _) hs hsb hke hw (by omega) hgz hsm (by omega))
    have hF := hR.all (.int .i64 xk) (.slice GB ys.length cb) (.int .i64 v) (.int .i64 xq)
    obtain ⟨_, q0', q1', q2', q3'⟩ := hF.1
    obtain ⟨⟨_, b0, b1, b2, b3⟩, bf⟩ := hR
    obtain ⟨⟨_, x0, x1, x2, x3⟩, xf⟩ := hX
    have f0 := bf 0
    have f1 := bf 1
    have f2 := bf 2
    have f3 := bf 3
    clear hF bf hke hs hw xf hgz
    go_wp2_with fail
    exact bodyPost_ret (v := .agg #[.int .i64 xk, .slice GB ys.length cb, .int .i64 v, .int .i64 xq]) (by simp [results, Tryd.results62, go_sem, q0', q1', q2', q3']) rfl HF.out
  · go_wp2_with fail
    have ha_w5 := hs.keep ((Keep.refl 0 0 w4).alloc (.cells ([-1, 0, 1000, 5].map (Value.int .i64)).toArray 2)) (by omega) (by omega)
    have n_w5 : w4.heap.size ≠ s := by have := hs.1; omega
    refine (pick_any s (k2 + 1) w4.heap.size 4 A nc cc hi xs [-1, 0, 1000, 5] 4 _ ha_w5 (by omega) rfl (by omega) (by omega) n_w5 (by simp) (row_cells w4 [-1, 0, 1000, 5] _ _ rfl)).mono ?_
    rintro e w5 ⟨v, m_w5, rfl, h_w5, k_w5⟩
    have kk_w5 := ((Keep.refl s (s + 1) w4).alloc (.cells ([-1, 0, 1000, 5].map (Value.int .i64)).toArray 2)).trans k_w5
    have y_v : -1 ≤ v ∧ v ≤ 1000 := by simp at m_w5; omega
    replace hR := hR.keep kk_w5 (by omega)
    replace hX := hX.keep kk_w5 (by omega)
    replace hw := hw.keep kk_w5 (by omega)
    replace hke := hke.trans kk_w5
    have z_w5 := kk_w5.size
    clear ha_w5 n_w5 m_w5 kk_w5 k_w5 hs
    have hs := h_w5
    clear h_w5
    have hX' := hX.set3 (.int .i64 v)
    have kX : Keep BX (BX + 1) w5 (w5.setCell ⟨BX, 3, none⟩ (.int .i64 v)) := (Keep.refl _ _ w5).setCell (p := ⟨BX, 3, none⟩) ⟨Nat.le_refl _, Nat.lt_succ_self _⟩ _
    replace hR := hR.keep kX (by omega)
    replace hs := hs.keep kX (by omega) (by omega)
    replace hke := keep_new hke kX (by omega)
    replace hw := hw.keep kX (by omega)
    have zX := kX.size
    obtain ⟨⟨_, x0, x1, x2, x3⟩, xf⟩ := hX
    have xfj := xf 3
    go_upto_region 11 with fail
    clear x0 x1 x2 x3 xf xfj kX
    generalize w5.setCell ⟨BX, 3, none⟩ (.int .i64 v) = wy at *
    have hX := hX'
    clear hX'
    have hsm : ItSm (xk, ys, xp, v) := ⟨hy9, by simp only []; omega, by simp only []; omega⟩
    have HF := Lib.hid (item_done (N := 40) (k := k) (x := (xk, ys, xp, v)) (cb := cb) hR (Nat.le_refl _) hs hsb hke hw (by omega) hgz hsm (by omega))
    have hF := hR.all (.int .i64 xk) (.slice GB ys.length cb) (.int .i64 xp) (.int .i64 v)
    obtain ⟨_, q0', q1', q2', q3'⟩ := hF.1
    obtain ⟨⟨_, b0, b1, b2, b3⟩, bf⟩ := hR
    obtain ⟨⟨_, x0, x1, x2, x3⟩, xf⟩ := hX
    have f0 := bf 0
    have f1 := bf 1
    have f2 := bf 2
    have f3 := bf 3
    clear hF bf hke hs hw xf hgz
    go_wp2_with fail
    exact bodyPost_ret (v := .agg #[.int .i64 xk, .slice GB ys.length cb, .int .i64 xp, .int .i64 v]) (by simp [results, Tryd.results62, go_sem, q0', q1', q2', q3']) rfl HF.out
  · go_wp2_with fail
    have ha_w5 := hs.keep ((Keep.refl 0 0 w4).alloc (.cells ([0, 9].map (Value.int .i64)).toArray 2)) (by omega) (by omega)
    have n_w5 : w4.heap.size ≠ s := by have := hs.1; omega
    refine (pick_any s (k2 + 1) w4.heap.size 2 A nc cc hi xs [0, 9] 2 _ ha_w5 (by omega) rfl (by omega) (by omega) n_w5 (by simp) (row_cells w4 [0, 9] _ _ rfl)).mono ?_
    rintro e w5 ⟨v, m_w5, rfl, h_w5, k_w5⟩
    have kk_w5 := ((Keep.refl s (s + 1) w4).alloc (.cells ([0, 9].map (Value.int .i64)).toArray 2)).trans k_w5
    have y_v : 0 ≤ v ∧ v ≤ 9 := by simp at m_w5; omega
    replace hR := hR.keep kk_w5 (by omega)
    replace hX := hX.keep kk_w5 (by omega)
    replace hw := hw.keep kk_w5 (by omega)
    replace hke := hke.trans kk_w5
    have z_w5 := kk_w5.size
    clear ha_w5 n_w5 m_w5 kk_w5 k_w5 hs
    have hs := h_w5
    clear h_w5
    go_wp2_with fail
    refine (some_any s (k2 + 1 + 1) A nc cc hi xs v w5 hs (by omega) (by omega)).mono ?_
    rintro e w6 ⟨g, cap, zs, rfl, hwz, h6, k_6⟩
    replace hR := hR.keep k_6 (by omega)
    replace hX := hX.keep k_6 (by omega)
    replace hke := hke.trans k_6
    have z6 := k_6.size
    obtain ⟨l, hl⟩ : ∃ l, v.toNat = l := ⟨_, rfl⟩
    have hl9 : l ≤ 9 := by omega
    rw [hl] at hwz h6 ⊢
    obtain rfl : zs.length = l := hwz.1.len
    have HL := Lib.hid hl
    clear k_6 hs hl hw hgz hy9
    have hs := h6
    have hw := hwz
    have hgz : some (⟨g, 0, none⟩ : Addr) = none → cap = 0 := fun e => by cases e
    clear h6 hwz
    have hX' := hX.set1 (.slice (some ⟨g, 0, none⟩) zs.length cap)
    have kX : Keep BX (BX + 1) w6 (w6.setCell ⟨BX, 1, none⟩ (.slice (some ⟨g, 0, none⟩) zs.length cap)) := (Keep.refl _ _ w6).setCell (p := ⟨BX, 1, none⟩) ⟨Nat.le_refl _, Nat.lt_succ_self _⟩ _
    replace hR := hR.keep kX (by omega)
    replace hs := hs.keep kX (by omega) (by omega)
    replace hke := keep_new hke kX (by omega)
    replace hw := hw.keep kX (by omega)
    have zX := kX.size
    obtain ⟨⟨_, x0, x1, x2, x3⟩, xf⟩ := hX
    have xfj := xf 1
    go_upto_region 11 with fail
    clear x0 x1 x2 x3 xf xfj kX
    generalize w6.setCell ⟨BX, 1, none⟩ (.slice (some ⟨g, 0, none⟩) zs.length cap) = wy at *
    have hX := hX'
    clear hX'
    have hsm : ItSm (xk, zs, xp, xq) := ⟨hl9, hpr, hqr⟩
    have HF := Lib.hid (item_done (N := 40) (k := k) (x := (xk, zs, xp, xq)) (cb := cap) hR (Nat.le_refl _) hs hsb hke hw (by omega) hgz hsm (by omega))
    have hF := hR.all (.int .i64 xk) (.slice (some ⟨g, 0, none⟩) zs.length cap) (.int .i64 xp) (.int .i64 xq)
    obtain ⟨_, q0', q1', q2', q3'⟩ := hF.1
    obtain ⟨⟨_, b0, b1, b2, b3⟩, bf⟩ := hR
    obtain ⟨⟨_, x0, x1, x2, x3⟩, xf⟩ := hX
    have f0 := bf 0
    have f1 := bf 1
    have f2 := bf 2
    have f3 := bf 3
    clear hF bf hke hs hw xf hgz
    go_wp2_with fail
    exact bodyPost_ret (v := .agg #[.int .i64 xk, .slice (some ⟨g, 0, none⟩) zs.length cap, .int .i64 xp, .int .i64 xq]) (by simp [results, Tryd.results62, go_sem, q0', q1', q2', q3']) rfl HF.out
  · have n0 : (c12 == 0) = false := by simp; omega
    have n1 : (c12 == 1) = false := by simp; omega
    have n2 : (c12 == 2) = false := by simp; omega
    have n3 : (c12 == 3) = false := by simp; omega
    have hsm : ItSm (xk, ys, xp, xq) := ⟨hy9, hpr, hqr⟩
    go_upto_region 11 with fail
    have HF := Lib.hid (item_done (N := 40) (k := k) (x := (xk, ys, xp, xq)) (cb := cb) hR (Nat.le_refl _) hs hsb hke hw (by omega) hgz hsm (by omega))
    have hF := hR.all (.int .i64 xk) (.slice GB ys.length cb) (.int .i64 xp) (.int .i64 xq)
    obtain ⟨_, q0', q1', q2', q3'⟩ := hF.1
    obtain ⟨⟨_, b0, b1, b2, b3⟩, bf⟩ := hR
    obtain ⟨⟨_, x0, x1, x2, x3⟩, xf⟩ := hX
    have f0 := bf 0
    have f1 := bf 1
    have f2 := bf 2
    have f3 := bf 3
    clear hF bf hke hs hw xf hgz
    go_wp2_with fail
    exact bodyPost_ret (v := .agg #[.int .i64 xk, .slice GB ys.length cb, .int .i64 xp, .int .i64 xq]) (by simp [results, Tryd.results62, go_sem, q0', q1', q2', q3']) rfl HF.out
end Go.Proofs.YtjdkaaepbkkchaaDoor
namespace Go.Proofs.YtjdkaaepbkkchaaDoor
open Go.RowKit
set_option linter.unusedVariables false
set_option maxRecDepth 100000

theorem OwnY.push_src {w wa W1 : World} {base n c g1 cap cb : Nat} {G GB : Option Addr} {ys : List Lit} {x : Itm} {o : Obj} (h : OwnY w base G n c ys) (hbase : base ≤ w.heap.size) {lo hi : Nat} (hb : Keep lo hi w wa) (hob : hi ≤ base)
    (hw : Wr wa w.heap.size wa.heap.size GB x.2.1.length x.2.1) (hgz : GB = none → cb = 0)
    (own1 : W1.ownsRow base 55 4 (.slice (some ⟨g1, 0, none⟩) (n + 1) cap) (n + 1) (ys.flatMap cell4 ++ cell4 (x, GB, cb, w.heap.size, wa.heap.size)))
    (hg : (wa.alloc o).grownBy W1 (Value.ownBlock (.slice G n c))) (hat : Value.ownBlock (.slice G n c) = some g1 ∨ g1 = wa.heap.size + 1) :
    OwnY W1 base (some ⟨g1, 0, none⟩) (n + 1) cap (ys ++ [(x, GB, cb, w.heap.size, wa.heap.size)]) := by
  have hz := hb.size
  have ha : Keep 0 0 wa (wa.alloc o) := (Keep.refl 0 0 wa).alloc o
  have hz1 := hg.size
  simp only [World.size_alloc] at hz1
  have hlt := h.1.lt
  have hkg : ∀ gq, Value.ownBlock (.slice G n c) = some gq → Keep gq (gq + 1) (wa.alloc o) W1 := fun gq e => ⟨hg.os, hg.tape, hg.output, hg.size, fun q hq ho => hg.block q hq (by rw [e]; intro e2; injection e2 with e2; omega)⟩
  have hkn : Value.ownBlock (.slice G n c) = none → Keep 0 0 (wa.alloc o) W1 := fun e => ⟨hg.os, hg.tape, hg.output, hg.size, fun q hq ho => hg.block q hq (by rw [e]; simp)⟩
  refine ⟨by rw [List.flatMap_append]; simpa using own1, by simp [h.2.1], ?_, fun y hy => ?_⟩
  · rw [List.pairwise_append]
    refine ⟨h.2.2.1, by simp, fun a ha b hb2 => ?_⟩
    rw [List.mem_singleton] at hb2
    subst hb2
    exact (h.2.2.2 a ha).2.1
  · rcases List.mem_append.1 hy with hy | hy
    · have hok := h.2.2.2 y hy
      have hok1 := hok.1
      have h2 := (hok.keep (hb) (by omega)).keep ha (by omega)
      have h3 : LitOk W1 base (Value.ownBlock (.slice G n c)) y := by
        cases e : Value.ownBlock (.slice G n c) with
        | none => rw [e] at h2; exact h2.keep (hkn e) (by omega)
        | some gq =>
          have := hok.2.2.2.2 gq e
          rw [e] at h2
          exact h2.keep (hkg gq e) (by omega)
      refine ⟨h3.1, h3.2.1, h3.2.2.1, h3.2.2.2.1, fun g e => ?_⟩
      have e2 : g1 = g := by simpa [Value.ownBlock] using e
      subst e2
      rcases hat with e3 | e3
      · exact hok.2.2.2.2 _ e3
      · exact .inr (by have := hok.2.1; omega)
    · rw [List.mem_singleton] at hy
      subst hy
      refine ⟨hbase, by show wa.heap.size ≤ W1.heap.size; omega, ?_, hgz, fun g e => ?_⟩
      · have hw2 := hw.keep ha (by omega)
        cases e : Value.ownBlock (.slice G n c) with
        | none => exact hw2.keep (hkn e) (by omega)
        | some gq =>
          have := (hlt gq e).2
          exact hw2.keep (hkg gq e) (by omega)
      · have e2 : g1 = g := by simpa [Value.ownBlock] using e
        subst e2
        rcases hat with e3 | e3
        · have := (hlt _ e3).2
          exact .inl this
        · exact .inr (by show wa.heap.size ≤ g1; omega)


theorem OwnY.keep {w w' : World} {base n c lo hi : Nat} {G : Option Addr} {ys : List Lit} (h : OwnY w base G n c ys) (k : Keep lo hi w w') (ho : hi ≤ base ∨ hi ≤ lo) : OwnY w' base G n c ys := by
  refine ⟨⟨h.1.1, ?_⟩, h.2.1, h.2.2.1, fun y hy => (h.2.2.2 y hy).keep k (by have := (h.2.2.2 y hy).1; omega)⟩
  rcases h.1.2 with h0 | ⟨g, cap, cur, e1, hg, hh, r⟩
  · exact .inl h0
  · have hlt := (Array.getElem?_eq_some_iff.1 hh).1
    exact .inr ⟨g, cap, cur, e1, hg, (k.block g hlt (by omega)).trans hh, r⟩
theorem OwnT.keep {w w' : World} {base n c lo hi : Nat} {G : Option Addr} {xs : List Itm} (h : OwnT w base G n c xs) (k : Keep lo hi w w') (ho : hi ≤ base ∨ hi ≤ lo) : OwnT w' base G n c xs := by
  obtain ⟨ys, e, hy⟩ := h
  exact ⟨ys, e, hy.keep k ho⟩
theorem OwnT.len {w : World} {base n c : Nat} {G : Option Addr} {xs : List Itm} (h : OwnT w base G n c xs) : xs.length = n := by
  obtain ⟨ys, rfl, hy⟩ := h
  simpa using hy.2.1
theorem OwnT.down {w : World} {base base' n c : Nat} {G : Option Addr} {xs : List Itm} (h : OwnT w base G n c xs) (hb : base' ≤ base) : OwnT w base' G n c xs := by
  obtain ⟨ys, e, hr, h2, h3, h4⟩ := h
  refine ⟨ys, e, ⟨hr.1, ?_⟩, h2, h3, fun y hy => ⟨Nat.le_trans hb (h4 y hy).1, (h4 y hy).2⟩⟩
  rcases hr.2 with h0 | ⟨g, cap, cur, e1, hg, r⟩
  · exact .inl h0
  · exact .inr ⟨g, cap, cur, e1, Nat.le_trans hb hg, r⟩
theorem OwnT.cap {w : World} {base n c : Nat} {a : Addr} {xs : List Itm} (h : OwnT w base (some a) n c xs) : n ≤ c ∧ c ≤ maxLen := by
  obtain ⟨ys, _, hy⟩ := h
  rcases hy.1.2 with ⟨hv, _⟩ | ⟨_, cap, _, hv, _, _, hnc, hcm, _⟩
  · cases hv
  · injection hv with _ _ e
    omega
theorem keep_row {W W1 : World} {o : Obj} {v : Value} {base : Nat} (hg : (W.alloc o).grownBy W1 (Value.ownBlock v)) (hb : ∀ q, Value.ownBlock v = some q → base ≤ q) : Keep base W.heap.size W W1 :=
  ⟨hg.os, hg.tape, hg.output, by have := hg.size; simp at this; omega, fun i h1 h2 => by
    rw [hg.block i (by simp; omega) (fun e => by have := hb i e.symm; omega)]
    exact Below.heap_alloc _ _ _ h1⟩
theorem far_row3 {W W1 : World} {o : Obj} {v : Value} (hg : (W.alloc o).grownBy W1 (Value.ownBlock v)) {p : Addr} (hp : p.block < W.heap.size) (hn : Value.ownBlock v ≠ some p.block) : W1.cell? p = W.cell? p ∧ W1.frozen? p = W.frozen? p := by
  have kB : W1.heap[p.block]? = W.heap[p.block]? := by
    rw [hg.block p.block (by simp; omega) (fun e => hn e.symm)]
    exact Below.heap_alloc _ _ _ hp
  exact ⟨World.cell?_of_block (w := W) kB, World.frozen?_of_block (w := W) kB⟩
/-- What a list's draw leaves. -/
def ListD (M : Nat) (w : World) (s k : Nat) (A : Option Addr) (nc cc hi : Nat) (xs : List Int) (e : Ending) (w' : World) : Prop :=
  ∃ (G : Option Addr) (n cap k' : Nat) (zs : List Itm), e = .returned (.slice G n cap) ∧ OwnT w' w.heap.size G n cap zs ∧ (∃ g, G = some ⟨g, 0, none⟩) ∧ (∀ x ∈ zs, ItSm x) ∧ n ≤ M ∧ k' ≤ k + 1 + 20 * M ∧ Src w' s k' A nc cc hi xs ∧ Keep s (s + 1) w w'

set_option maxHeartbeats 4000000 in
theorem l5Draw_any (s k M : Nat) (A : Option Addr) (nc cc hi : Nat) (xs : List Int) (w : World) (h : Src w s k A nc cc hi xs) (hk : k ≤ 50000) (hM : M ≤ 1000) :
    Calls Tryd.prog 64 #[.pointer (some ⟨s, 0, none⟩), .int .i64 (M : Int)] w (ListD M w s k A nc cc hi xs) := by
  have hsb := h.1
  have hhi := h.2.1
  obtain ⟨I0, hi0, iz0, iz1, iz2⟩ := info_parts info_item
  have hs := h.keep ((Keep.refl 0 0 w).alloc (.cells #[] 55)) (by omega) (by omega)
  have hO : OwnT (w.alloc (.cells #[] 55)) w.heap.size (some ⟨w.heap.size, 0, none⟩) 0 0 [] := OwnT.nil w (Nat.zero_le _)
  have hke : Keep s (s + 1) w (w.alloc (.cells #[] 55)) := (Keep.refl _ _ w).alloc _
  go_enter Tryd.func64, Tryd.ntmps64
  go_wp2_with fail
  generalize (w.alloc (.cells #[] 55)) = w1 at *
  clear h
  refine (next_any s k A nc cc hi xs ((M : Int) + 1) w1 hs (by omega) (by omega)).mono ?_
  rintro e w2 ⟨r, rfl, r0, r1, _, h2, k2⟩
  have r1' := r1 (by omega)
  replace hO := hO.keep k2 (by omega)
  replace hke := hke.trans k2
  obtain ⟨rn, rfl⟩ := Int.eq_ofNat_of_zero_le r0
  clear hs k2 r1
  go_wp2_with fail
  go_loopw [5, 6] (fun ov nv wr => ∃ (r : Nat) (G : Option Addr) (n c k' : Nat) (zs : List Itm), nv = .int .i64 (r : Int) ∧ ov = .slice G n c ∧ n + r ≤ M ∧ k' + 20 * r ≤ k + 1 + 20 * M ∧ OwnT wr w.heap.size G n c zs ∧ (∃ g, G = some ⟨g, 0, none⟩) ∧ (∀ x ∈ zs, ItSm x) ∧ Src wr s k' A nc cc hi xs ∧ Keep s (s + 1) w wr) (fun _ nv _ => (intOf nv).toNat)
  case atStart => exact ⟨rn, _, 0, _, k + 1, [], rfl, rfl, by omega, by omega, hO, ⟨_, rfl⟩, (fun x hx => by simp at hx), h2, hke⟩
  case round =>
    clear hO hke h2
    obtain ⟨r, G, n, c, k', zs, rfl, rfl, hnr, hkr, hO, hGs, hsm, hs, hke⟩ := hrel
    have zr := hke.size
    by_cases hpos : 0 < r
    · have hp1 : (0 : Int) < (r : Int) := by omega
      go_wp2_with fail
      refine (drawItem_any s k' A nc cc hi xs wr hs (by omega)).mono ?_
      rintro e wa ⟨x, GB, cb, k2, rfl, hgz, hw, hxs, hk2, h3, ka⟩
      have za := ka.size
      obtain ⟨ys, hys, hY⟩ := hO
      have hYa := hY.keep ka (.inl (by omega))
      have own0 := hYa.1
      have hkea := hke.trans ka
      have hml : n + 1 ≤ maxLen := by unfold maxLen; omega
      have hmb : (n + 1) * 48 ≤ 140737488355328 := by omega
      go_wp2_with (at_builtin; refine wpList_append_lies _ rfl (.tmp 16) (.tmp 19) 24 rfl w.heap.size 55 I0 (.agg #[.int .i64 0, .slice none 0 0, .int .i64 0, .int .i64 0]) 4 48 Tryd.underlying24 hi0 iz0 iz1 iz2 rfl (by decide) _ _ _ rfl (own0.alloc _) ⟨wa.heap.size, 0, none⟩ 1 1 (cell4 (x, GB, cb, wr.heap.size, wa.heap.size)) rfl rfl (World.news_of_block (cs := #[.int .i64 x.1, .slice GB x.2.1.length cb, .int .i64 x.2.2.1, .int .i64 x.2.2.2]) (t := 55) (fr := (0, 0)) (heap_alloc_new wa _)) (by simp [Value.oneCell', cell4]) (by omega) hml hmb ?c5 (wa.heap.size + 1) (by simp) ?_)
      case c5 => simp; omega
      intro g1 cap1 W1 own1 hgrow hat hgl
      have hY1 := hY.push_src zr ka (by omega) hw hgz own1 hgrow hat
      have hO1 : OwnT W1 w.heap.size (some ⟨g1, 0, none⟩) (n + 1) cap1 (zs ++ [x]) := ⟨_, by rw [List.map_append, hys]; rfl, hY1⟩
      have kr := keep_row hgrow (base := w.heap.size) (fun q e => (own0.lt q e).1)
      have hke1 := keep_new hkea kr (by omega)
      have hs1 := h3.keep kr (by omega) (by omega)
      have hsm1 : ∀ y ∈ zs ++ [x], ItSm y := fun y hy => by
        rcases List.mem_append.1 hy with hy | hy
        · exact hsm y hy
        · rw [List.mem_singleton.1 hy]; exact hxs
      have HO1 := Lib.hid hO1
      have HK1 := Lib.hid hke1
      have HS1 := Lib.hid hs1
      have HM1 := Lib.hid hsm1
      have hw1 : IntKind.i64.wrap ((r : Int) - 1) = ((r - 1 : Nat) : Int) := by rw [IntKind.wrap_i64]; omega
      clear own0 own1 hgrow hat hY hYa hY1 hO1 hke1 hs1 hsm1 kr hkea hke h3 ka hs hw hgz
      go_wp2_with fail
      go_roundw
      case rel => exact ⟨r - 1, _, n + 1, _, k2, zs ++ [x], by first | rfl | (congr 1; omega), rfl, by omega, by omega, HO1.out, ⟨_, rfl⟩, HM1.out, HS1.out, HK1.out⟩
      case measure => simp [intOf]; omega
    · have hp1 : ¬ (0 : Int) < (r : Int) := by omega
      go_wp2_with fail
      go_ret
      exact ⟨G, n, c, k', zs, rfl, hO, hGs, hsm, by omega, by omega, hs, hke⟩
end Go.Proofs.YtjdkaaepbkkchaaDoor
namespace Go.Proofs.YtjdkaaepbkkchaaDoor
open Go.RowKit
set_option linter.unusedVariables false
set_option maxRecDepth 100000

/-- A row of items that nowhere touches block b. -/
def OwnV (w : World) (base b : Nat) (G : Option Addr) (n c : Nat) (xs : List Itm) : Prop :=
  ∃ ys : List Lit, ys.map (·.1) = xs ∧ OwnY w base G n c ys ∧ (∀ y ∈ ys, y.2.2.2.2 ≤ b ∨ b < y.2.2.2.1) ∧ ∀ g, Value.ownBlock (.slice G n c) = some g → g ≠ b
theorem OwnT.apart {w : World} {base n c : Nat} {G : Option Addr} {xs : List Itm} (h : OwnT w base G n c xs) : OwnV w base w.heap.size G n c xs := by
  obtain ⟨ys, e, hy⟩ := h
  exact ⟨ys, e, hy, fun y hm => .inl (hy.2.2.2 y hm).2.1, fun g eg => by have := (hy.1.lt g eg).2; omega⟩
theorem OwnV.t {w : World} {base b n c : Nat} {G : Option Addr} {xs : List Itm} (h : OwnV w base b G n c xs) : OwnT w base G n c xs := by
  obtain ⟨ys, e, hy, _⟩ := h
  exact ⟨ys, e, hy⟩
theorem OwnV.keep {w w' : World} {base b n c lo hi : Nat} {G : Option Addr} {xs : List Itm} (h : OwnV w base b G n c xs) (k : Keep lo hi w w') (ho : hi ≤ base ∨ hi ≤ lo ∨ (lo = b ∧ hi = b + 1)) : OwnV w' base b G n c xs := by
  obtain ⟨ys, e, hy, h1, h2⟩ := h
  refine ⟨ys, e, ⟨⟨hy.1.1, ?_⟩, hy.2.1, hy.2.2.1, fun y hm => (hy.2.2.2 y hm).keep k (by have := (hy.2.2.2 y hm).1; have := h1 y hm; omega)⟩, h1, h2⟩
  rcases hy.1.2 with h0 | ⟨g, cap, cur, e1, hg, hh, r⟩
  · exact .inl h0
  · have hlt := (Array.getElem?_eq_some_iff.1 hh).1
    have := h2 g (by rw [e1]; rfl)
    exact .inr ⟨g, cap, cur, e1, hg, (k.block g hlt (by omega)).trans hh, r⟩
/-- Two cells that may be written. -/
def V2 (w : World) (b : Nat) (u0 u1 : Value) : Prop := Box2 w b u0 u1 ∧ ∀ j, w.frozen? ⟨b, j, none⟩ = false
theorem V2.keep {w w' : World} {b lo hi : Nat} {u0 u1 : Value} (h : V2 w b u0 u1) (k : Keep lo hi w w') (ho : b < lo ∨ hi ≤ b) : V2 w' b u0 u1 :=
  ⟨h.1.keep k ho, fun j => (k.frozen (p := ⟨b, j, none⟩) h.1.1 ho).trans (h.2 j)⟩
theorem V2.new (w : World) (u0 u1 : Value) (t : TypeId) : V2 (w.alloc (.cells #[u0, u1] t)) w.heap.size u0 u1 := ⟨Box2.new w u0 u1 t, fun j => by simp [go_sem]⟩
theorem V2.far {W W1 : World} {o : Obj} {v : Value} {b : Nat} {u0 u1 : Value} (h : V2 W b u0 u1) (hg : (W.alloc o).grownBy W1 (Value.ownBlock v)) (hn : Value.ownBlock v ≠ some b) : V2 W1 b u0 u1 :=
  have f := fun (j : Nat) => far_row3 hg (p := ⟨b, j, none⟩) h.1.1 hn
  ⟨⟨by have := hg.size; simp at this; have := h.1.1; omega, (f 0).1.trans h.1.2.1, (f 1).1.trans h.1.2.2⟩, fun j => (f j).2.trans (h.2 j)⟩
theorem V2.set0 {w : World} {b : Nat} {u0 u1 : Value} (h : V2 w b u0 u1) (a : Value) : V2 (w.setCell ⟨b, 0, none⟩ a) b a u1 :=
  ⟨⟨by simpa [World.setCell] using h.1.1, World.cell?_setCell_same _ _ _ h.1.2.1, by rw [World.cell?_setCell_other _ _ _ _ (by simp)]; exact h.1.2.2⟩, fun j => by rw [World.frozen?_setCell]; exact h.2 j⟩
theorem V2.set1 {w : World} {b : Nat} {u0 u1 : Value} (h : V2 w b u0 u1) (a : Value) : V2 (w.setCell ⟨b, 1, none⟩ a) b u0 a :=
  ⟨⟨by simpa [World.setCell] using h.1.1, by rw [World.cell?_setCell_other _ _ _ _ (by simp)]; exact h.1.2.1, World.cell?_setCell_same _ _ _ h.1.2.2⟩, fun j => by rw [World.frozen?_setCell]; exact h.2 j⟩
/-- What a log's draw leaves. -/
def LogD (w : World) (s k : Nat) (A : Option Addr) (nc cc hi : Nat) (xs : List Int) (e : Ending) (w' : World) : Prop :=
  ∃ (bs room : Int) (G : Option Addr) (n cap k' : Nat) (zs : List Itm), e = .returned (.tuple #[.agg #[.int .i64 bs, .slice G n cap], .int .i64 room]) ∧ (-1 ≤ bs ∧ bs ≤ 9001) ∧ (0 ≤ room ∧ room ≤ 17) ∧ n ≤ 9 ∧ OwnT w' w.heap.size G n cap zs ∧ (∃ g, G = some ⟨g, 0, none⟩) ∧ (∀ x ∈ zs, ItSm x) ∧
    k' ≤ k + 300 ∧ Src w' s k' A nc cc hi xs ∧ Keep s (s + 1) w w'
theorem log_done {R nc cc hi s k k' n cap : Nat} {A G : Option Addr} {xs : List Int} {bs room : Int} {zs : List Itm} {w wz : World} {u0 u1 : Value} (hR : V2 wz R u0 u1) (hlo : w.heap.size ≤ R) (hs : Src wz s k' A nc cc hi xs) (hsw : s < w.heap.size) (hke : Keep s (s + 1) w wz)
    (hO : OwnT wz (R + 1) G n cap zs) (hG : ∃ g, G = some ⟨g, 0, none⟩) (hsm : ∀ x ∈ zs, ItSm x) (hb : -1 ≤ bs ∧ bs ≤ 9001) (hr : 0 ≤ room ∧ room ≤ 17) (hn : n ≤ 9) (hk : k' ≤ k + 300) :
    LogD w s k A nc cc hi xs (.returned (.tuple #[.agg #[.int .i64 bs, .slice G n cap], .int .i64 room])) ((wz.setCell ⟨R, 0, none⟩ (.int .i64 bs)).setCell ⟨R, 1, none⟩ (.slice G n cap)) := by
  have hhi := hs.2.1
  have kR : Keep R (R + 1) wz ((wz.setCell ⟨R, 0, none⟩ (.int .i64 bs)).setCell ⟨R, 1, none⟩ (.slice G n cap)) :=
    ((Keep.refl _ _ wz).setCell (p := ⟨R, 0, none⟩) ⟨Nat.le_refl _, Nat.lt_succ_self _⟩ _).setCell (p := ⟨R, 1, none⟩) ⟨Nat.le_refl _, Nat.lt_succ_self _⟩ _
  exact ⟨bs, room, G, n, cap, k', zs, rfl, hb, hr, hn, (hO.keep kR (.inl (by omega))).down (by omega), hG, hsm, hk, hs.keep kR (by omega) (by omega), keep_new hke kR (by omega)⟩

end Go.Proofs.YtjdkaaepbkkchaaDoor
namespace Go.Proofs.YtjdkaaepbkkchaaDoor
open Go.RowKit
set_option linter.unusedVariables false
set_option maxRecDepth 100000

/-- A log, a number and an item were drawn. -/
def AddD (w : World) (e : Ending) (w' : World) : Prop :=
  ∃ (bs room : Int) (g n cap : Nat) (zs : List Itm) (x : Itm) (GB : Option Addr) (cb : Nat), e = .returned (.tuple #[.agg #[.int .i64 bs, .slice (some ⟨g, 0, none⟩) n cap], .int .i64 room, .agg #[.int .i64 x.1, .slice GB x.2.1.length cb, .int .i64 x.2.2.1, .int .i64 x.2.2.2]]) ∧
    (-1 ≤ bs ∧ bs ≤ 9001) ∧ Rt w' 0 w'.heap.size (some ⟨g, 0, none⟩) n zs ∧ Rd w' 0 w'.heap.size GB x.2.1.length x.2.1 ∧ (GB = none → cb = 0) ∧ n ≤ 9 ∧ Below w.heap.size w w'
/-- A log and two numbers were drawn. -/
def TrimD (w : World) (e : Ending) (w' : World) : Prop :=
  ∃ (bs room tt : Int) (g n cap : Nat) (zs : List Itm), e = .returned (.tuple #[.agg #[.int .i64 bs, .slice (some ⟨g, 0, none⟩) n cap], .int .i64 room, .int .i64 tt]) ∧ (-1 ≤ bs ∧ bs ≤ 9001) ∧ Rt w' 0 w'.heap.size (some ⟨g, 0, none⟩) n zs ∧ (n ≤ cap ∧ cap ≤ maxLen) ∧ n ≤ 9 ∧ Below w.heap.size w w'

end Go.Proofs.YtjdkaaepbkkchaaDoor
namespace Go.Proofs.YtjdkaaepbkkchaaDoor
open Go.RowKit
set_option linter.unusedVariables false
set_option maxRecDepth 100000

def sliceN : Value → Nat
  | .slice _ n _ => n
  | _ => 0
/-- A list of items was drawn. -/
def AtomsD (w : World) (e : Ending) (w' : World) : Prop :=
  ∃ (g n cap : Nat) (zs : List Itm), e = .returned (.slice (some ⟨g, 0, none⟩) n cap) ∧ Rt w' 0 w'.heap.size (some ⟨g, 0, none⟩) n zs ∧ (n ≤ cap ∧ cap ≤ maxLen) ∧ n ≤ 200 ∧ Below w.heap.size w w'
theorem Wr.seven (wr : World) : Wr (wr.alloc (.cells #[.int .u8 7] 5)) wr.heap.size (wr.alloc (.cells #[.int .u8 7] 5)).heap.size (some ⟨wr.heap.size, 0, none⟩) 1 [7] := by
  refine ⟨⟨rfl, by decide, Nat.le_refl _, by simp, fun _ => ⟨wr.heap.size, 0, rfl, Nat.le_refl _, by simp, fun j hj => ?_⟩⟩, fun b off e j hj => ?_⟩
  · obtain rfl : j = 0 := by omega
    simp [go_sem]
  · injection e with e
    injection e with e1 e2
    subst e1 e2
    simp [go_sem]

end Go.Proofs.YtjdkaaepbkkchaaDoor
namespace Go.Proofs.YtjdkaaepbkkchaaDoor
open Go.RowKit
set_option linter.unusedVariables false
set_option maxRecDepth 100000

/-- Two lists of items were drawn. -/
def TwoT (w : World) (e : Ending) (w' : World) : Prop :=
  ∃ (A : Option Addr) (n c : Nat) (zs : List Itm) (B : Option Addr) (m d : Nat) (ys : List Itm), e = .returned (.tuple #[.slice A n c, .slice B m d]) ∧ Rt w' 0 w'.heap.size A n zs ∧ Rt w' 0 w'.heap.size B m ys ∧ Below w.heap.size w w'
theorem Wt.set2 {w : World} {lo hi n b off i : Nat} {xs : List Itm} (h : Wt w lo hi (some ⟨b, off, none⟩) n xs) (hi' : i < n) (v : Int) :
    Rt (w.setCell ⟨b, off + i * 4 + 2, none⟩ (.int .i64 v)) lo hi (some ⟨b, off, none⟩) n (xs.set i ((xs.getD i it0).1, (xs.getD i it0).2.1, v, (xs.getD i it0).2.2.2)) := by
  obtain ⟨h1, h2, h3, h4⟩ := h
  obtain ⟨b', off', e, l1, l2, L, U, hL, hm, hc⟩ := h4 (by omega)
  injection e with e
  injection e with e1 e2
  subst e1 e2
  have hz : (w.setCell ⟨b, off + i * 4 + 2, none⟩ (.int .i64 v)).heap.size = w.heap.size := by simp [World.setCell]
  have kk : Keep b (b + 1) w (w.setCell ⟨b, off + i * 4 + 2, none⟩ (.int .i64 v)) := (Keep.refl _ _ w).setCell (p := ⟨b, off + i * 4 + 2, none⟩) ⟨Nat.le_refl _, Nat.lt_succ_self _⟩ _
  refine ⟨by simp [h1], h2, by rw [hz]; exact h3, fun _ => ⟨b, off, rfl, l1, l2, fun j hj => ?_⟩⟩
  by_cases hij : j = i
  · subst hij
    have e3 : (xs.set j ((xs.getD j it0).1, (xs.getD j it0).2.1, v, (xs.getD j it0).2.2.2)).getD j it0 = ((xs.getD j it0).1, (xs.getD j it0).2.1, v, (xs.getD j it0).2.2.2) := by
      rw [List.getD_eq_getElem?_getD, List.getElem?_set_self (by omega)]
      rfl
    rw [e3]
    obtain ⟨⟨c0, ⟨G, c, c1, hw, gz⟩, c2, c3⟩, hf, hx⟩ := hc j hj
    have hlj := hL j hj
    refine ⟨?_, ⟨G, c, ?_, (hw.1.keep kk (by omega)).wide hlj.1 hlj.2 (by rw [hz]; exact h3), gz⟩, ?_, ?_⟩
    · rw [World.cell?_setCell_other _ _ _ _ (by simp)]; exact c0
    · rw [World.cell?_setCell_other _ _ _ _ (by simp)]; exact c1
    · exact World.cell?_setCell_same _ _ _ c2
    · rw [World.cell?_setCell_other _ _ _ _ (by simp)]; exact c3
  · have e3 : (xs.set i ((xs.getD i it0).1, (xs.getD i it0).2.1, v, (xs.getD i it0).2.2.2)).getD j it0 = xs.getD j it0 := by
      rw [List.getD_eq_getElem?_getD, List.getElem?_set_ne (by omega), ← List.getD_eq_getElem?_getD]
    rw [e3]
    have h5 := (hc j hj).other (q := off + i * 4 + 2) (by omega) (.int .i64 v)
    have hlj := hL j hj
    obtain ⟨g0, ⟨G, c, g1, g2, gz⟩, g3, g4⟩ := h5.1
    exact ⟨g0, ⟨G, c, g1, g2.1.wide hlj.1 hlj.2 (by rw [hz]; exact h3), gz⟩, g3, g4⟩

end Go.Proofs.YtjdkaaepbkkchaaDoor
namespace Go.Proofs.YtjdkaaepbkkchaaDoor
open Go.RowKit
set_option linter.unusedVariables false
set_option maxRecDepth 100000

theorem small_sum {zs : List Itm} (h : ∀ x ∈ zs, ItSm x) : sumLen zs ≤ 9 * zs.length := by
  induction zs with
  | nil => simp [sumLen]
  | cons x zs ih =>
    have e : sumLen (x :: zs) = x.2.1.length + sumLen zs := by simp [sumLen]
    have h1 := (h x (by simp)).1
    have h2 := ih (fun y hy => h y (by simp [hy]))
    rw [e, List.length_cons]
    omega
/-- Two lists of atoms were drawn. -/
def TwoA (w : World) (e : Ending) (w' : World) : Prop :=
  ∃ (A : Option Addr) (n c : Nat) (fs : List Int) (B : Option Addr) (m d : Nat) (gs : List Int), e = .returned (.tuple #[.slice A n c, .slice B m d]) ∧ Ri w' 0 w'.heap.size A (n * 3) fs ∧ Ri w' 0 w'.heap.size B (m * 3) gs ∧ n ≤ 1000 ∧ m ≤ 1000 ∧ Below w.heap.size w w'
theorem Wi.set_ {w : World} {lo hi n b off j : Nat} {xs : List Int} (h : Wi w lo hi (some ⟨b, off, none⟩) n xs) (hj : j < n) (v : Int) (hv : -9223372036854775808 ≤ v ∧ v ≤ 9223372036854775807) :
    Ri (w.setCell ⟨b, off + j, none⟩ (.int .i64 v)) lo hi (some ⟨b, off, none⟩) n (xs.set j v) := by
  obtain ⟨h1, h2, h3, h4, h5⟩ := h.1
  obtain ⟨b', off', e, l1, l2, hc⟩ := h5 (by omega)
  injection e with e
  injection e with e1 e2
  subst e1 e2
  refine ⟨by simp [h1], h2, by simpa [World.setCell] using h3, fun x hx => ?_, fun _ => ⟨b, off, rfl, l1, l2, fun k hk => ?_⟩⟩
  · rcases List.mem_or_eq_of_mem_set hx with hx | rfl
    · exact h4 x hx
    · exact hv
  · by_cases e : k = j
    · subst e
      rw [World.cell?_setCell_same _ _ _ (hc k hk), List.getD_eq_getElem?_getD, List.getElem?_set_self (by omega)]
      rfl
    · rw [World.cell?_setCell_other _ _ _ _ (by first | (simp; done) | (simp; omega)), hc k hk, List.getD_eq_getElem?_getD, List.getD_eq_getElem?_getD, List.getElem?_set_ne (by omega)]

end Go.Proofs.YtjdkaaepbkkchaaDoor
namespace Go.Proofs.YtjdkaaepbkkchaaDoor
open Go.RowKit
set_option linter.unusedVariables false
set_option maxRecDepth 100000

set_option maxHeartbeats 400000 in
theorem lwBig_any (A : Option Addr) (n c : Nat) (w : World) (r : Bool) (hr : decide (1048576 < n) = r) :
    Calls Tryd.prog 6 #[.slice A n c] w fun e w' => e = .returned (.bool r) ∧ w = w' := by
  subst hr
  go_enter Tryd.func6, Tryd.ntmps6
  go_wp2_with fail
  go_ret
  exact ⟨ret_bool (by simp; omega), rfl⟩

set_option maxHeartbeats 400000 in
theorem lwBytes_true (x : Int) (A A' : Option Addr) (n c c' lo hi lo' hi' : Nat) (xs : List Int) (w : World) (h : Rd w lo hi A n xs) (h' : Rd w lo' hi' A' n xs) :
    Calls Tryd.prog 15 #[.agg #[.int .i64 x, .slice A n c], .agg #[.int .i64 x, .slice A' n c']] w fun e w' => e = .returned (.bool true) ∧ Below w.heap.size w w' := by
  have k1 := ((Keep.refl 0 0 w).alloc (.cells #[.int .i64 x, .slice A n c] 29)).alloc (.cells #[.int .i64 x, .slice A' n c'] 29)
  have r := h.keep k1 (by omega)
  have r' := h'.keep k1 (by omega)
  have hb : Below w.heap.size w ((w.alloc (.cells #[.int .i64 x, .slice A n c] 29)).alloc (.cells #[.int .i64 x, .slice A' n c'] 29)) := ((Below.refl _ w).alloc (Nat.le_refl _) _).alloc (by simp) _
  have HB := Lib.hid hb
  clear k1 hb
  go_enter Tryd.func15, Tryd.ntmps15
  go_wp2_with fail
  refine (lwSame_any _ _ n c n c' _ _ _ _ xs xs _ r r').mono ?_
  rintro e w1 ⟨rfl, rfl⟩
  go_wp2_with fail
  go_ret
  exact ⟨ret_bool (by simp), HB.out⟩

theorem field_bytes (x : Int) (G : Option Addr) (n c : Nat) : ∀ w : World, (Instr.field 29 (.agg #[.int .i64 x, .slice G n c]) 1).run Tryd.prog w = .ok (.slice G n c) w := fun _ => by kernel_rfl
end Go.Proofs.YtjdkaaepbkkchaaDoor
namespace Go.Proofs.YtjdkaaepbkkchaaDoor
open Go.RowKit
set_option linter.unusedVariables false
set_option maxRecDepth 100000

end Go.Proofs.YtjdkaaepbkkchaaDoor
namespace Go.Proofs.YtjdkaaepbkkchaaDoor
set_option linter.unusedVariables false

theorem itemsCode_app : ∀ (xs ys : List Itm), itemsCode xs = 0 → itemsCode (xs ++ ys) = itemsCode ys
  | [], ys, _ => rfl
  | x :: xs, ys, h => by
    unfold itemsCode at h
    by_cases hx : cdOf x = 0
    · rw [if_pos hx] at h
      rw [List.cons_append]
      show (if cdOf x = 0 then itemsCode (xs ++ ys) else cdOf x) = _
      rw [if_pos hx]
      exact itemsCode_app xs ys h
    · rw [if_neg hx] at h
      exact absurd h hx
theorem itemsCode_drop (xs : List Itm) (k : Nat) (h : itemsCode xs = 0) : itemsCode (xs.drop k) = 0 := by
  refine itemsCode_none _ fun j hj => ?_
  rw [List.length_drop] at hj
  have := itemsCode_each h (xs.getD (k + j) it0) (by
    rw [List.getD_eq_getElem?_getD, List.getElem?_eq_getElem (by omega : k + j < xs.length)]
    simp)
  rwa [List.getD_eq_getElem?_getD, List.getElem?_drop, ← List.getD_eq_getElem?_getD]
theorem itemsCode_take (xs : List Itm) (k : Nat) (h : itemsCode xs = 0) : itemsCode (xs.take k) = 0 := by
  refine itemsCode_none _ fun j hj => ?_
  rw [List.length_take] at hj
  have := itemsCode_each h (xs.getD j it0) (by
    rw [List.getD_eq_getElem?_getD, List.getElem?_eq_getElem (by omega : j < xs.length)]
    simp)
  rwa [List.getD_eq_getElem?_getD, List.getElem?_take_of_lt (by omega), ← List.getD_eq_getElem?_getD]
theorem add_ok {bs room : Int} {xs : List Itm} {x : Itm} (h : addCode bs room xs x = 0) : addBase bs room xs x = bs ∧ addOut bs room xs x = xs ++ [x] ∧ logCode bs room (xs ++ [x]) = 0 := by
  have hb : addBase bs room xs x = bs := by unfold addBase; rw [if_pos h]
  have ho : addOut bs room xs x = xs ++ [x] := by unfold addOut; rw [if_pos h]
  refine ⟨hb, ho, ?_⟩
  unfold addCode at h
  by_cases h1 : logCode bs room xs ≠ 0
  · rw [if_pos h1] at h; exact absurd h h1
  · rw [if_neg h1] at h
    by_cases h2 : cdOf x ≠ 0
    · rw [if_pos h2] at h; exact absurd h h2
    · rw [if_neg h2] at h
      by_cases h3 : 9000 ≤ bs + (xs.length : Int)
      · rw [if_pos h3] at h; omega
      · rw [if_neg h3] at h
        by_cases h4 : room ≤ (xs.length : Int)
        · rw [if_pos h4] at h; omega
        · obtain ⟨hr, hbb, hm, hi, hf⟩ := logCode_ok (show logCode bs room xs = 0 by omega)
          have e1 : itemsCode (xs ++ [x]) = 0 := by
            rw [itemsCode_app xs [x] hi]
            show (if cdOf x = 0 then 0 else cdOf x) = 0
            split
            · rfl
            · omega
          have e2 : ((xs ++ [x]).length : Int) = xs.length + 1 := by simp
          unfold logCode
          rw [if_neg (by omega), e2, if_neg (by omega), if_neg (by simp [e1]), if_neg (by omega)]
theorem trim_ok {bs room tp : Int} {xs : List Itm} (h : trimCode bs room tp xs = 0) : trimBase bs room tp xs = tp ∧ trimOut bs room tp xs = xs.drop (tp - bs).toNat ∧ (bs ≤ tp ∧ tp ≤ bs + (xs.length : Int)) ∧ logCode tp room (xs.drop (tp - bs).toNat) = 0 := by
  have hb : trimBase bs room tp xs = tp := by unfold trimBase; rw [if_pos h]
  have ho : trimOut bs room tp xs = xs.drop (tp - bs).toNat := by unfold trimOut; rw [if_pos h]
  unfold trimCode at h
  by_cases h1 : logCode bs room xs ≠ 0
  · rw [if_pos h1] at h; exact absurd h h1
  · rw [if_neg h1] at h
    by_cases h2 : ¬ (bs ≤ tp ∧ tp ≤ bs + (xs.length : Int))
    · rw [if_pos h2] at h; omega
    · obtain ⟨hr, hbb, hm, hi, hf⟩ := logCode_ok (show logCode bs room xs = 0 by omega)
      refine ⟨hb, ho, by omega, ?_⟩
      have e1 := itemsCode_drop xs (tp - bs).toNat hi
      have e2 : (((xs.drop (tp - bs).toNat).length : Nat) : Int) = xs.length - (tp - bs) := by rw [List.length_drop]; omega
      unfold logCode
      rw [if_neg (by omega), e2, if_neg (by omega), if_neg (by simp [e1]), if_neg (by omega)]
theorem atomsL_app (xs ys : List Itm) : atomsL (xs ++ ys) = atomsL xs ++ atomsL ys := by simp [atomsL]
theorem atoms_ok {xs : List Itm} (h : atomsCode xs = 0) (k : Nat) : xs.length ≤ 100 ∧ atomsCode (xs.take k) = 0 ∧ atomsCode (xs.drop k) = 0 ∧ atomsOut (xs.take k) ++ atomsOut (xs.drop k) = atomsOut xs := by
  have hl : ¬ 100 < xs.length := fun e => by unfold atomsCode at h; rw [if_pos e] at h; omega
  have hi : itemsCode xs = 0 := by unfold atomsCode at h; rw [if_neg hl] at h; exact h
  have h1 : atomsCode (xs.take k) = 0 := by unfold atomsCode; rw [if_neg (by rw [List.length_take]; omega)]; exact itemsCode_take xs k hi
  have h2 : atomsCode (xs.drop k) = 0 := by unfold atomsCode; rw [if_neg (by rw [List.length_drop]; omega)]; exact itemsCode_drop xs k hi
  refine ⟨by omega, h1, h2, ?_⟩
  unfold atomsOut
  rw [if_pos h1, if_pos h2, if_pos h, ← atomsL_app, List.take_append_drop]
end Go.Proofs.YtjdkaaepbkkchaaDoor
