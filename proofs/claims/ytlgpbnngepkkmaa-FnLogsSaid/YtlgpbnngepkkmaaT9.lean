/-
  Marks on items.
-/
import Derived.Test.YtlgpbnngepkkmaaT8
namespace Go.Proofs.Ytlgpbnngepkkmaa
open Go.RowKit
set_option linter.unusedVariables false
set_option maxRecDepth 100000

/-- How many marks lie ahead of the j-th item. -/
def offT (xs : List Itm) (j : Nat) : Nat := 3 * j + sumLen (xs.take j)
theorem offT_succ {xs : List Itm} {k : Nat} (hk : k < xs.length) : offT xs (k + 1) = offT xs k + 3 + (xs.getD k it0).2.1.length := by
  have := sumLen_take xs k hk
  unfold offT
  omega
theorem offT_le (xs : List Itm) {k n : Nat} (hk : k ≤ n) : offT xs k ≤ 3 * n + sumLen xs := by
  have := sumLen_take_le xs k
  unfold offT
  omega
theorem offT_all (xs : List Itm) : offT xs xs.length = 3 * xs.length + sumLen xs := by simp [offT]
/-- What the marks leave of an item. -/
def markIt (K : Int) (l : Nat) : Itm := (K, marks (K + 1) l, K + 1 + l, K + 1 + l + 1)
theorem markIt_len (K : Int) (l : Nat) : (markIt K l).2.1.length = l := marks_len _ _
def markT (K : Int) (xs : List Itm) : List Itm := (List.range xs.length).map fun j => markIt (K + (offT xs j : Int)) (xs.getD j it0).2.1.length
theorem markT_len (K : Int) (xs : List Itm) : (markT K xs).length = xs.length := by simp [markT]
theorem markT_at (K : Int) (xs : List Itm) (j : Nat) (hj : j < xs.length) : (markT K xs).getD j it0 = markIt (K + (offT xs j : Int)) (xs.getD j it0).2.1.length := by
  simp [markT, List.getD_eq_getElem?_getD, hj]

theorem ItW.mark {w w2 : World} {b o l u c : Nat} {x : Itm} {G : Option Addr} {K v : Int} (h : ItW w b o x l u) (hk : Keep l u (w.setCell ⟨b, o, none⟩ (.int .i64 K)) w2)
    (hG : w.cell? ⟨b, o + 1, none⟩ = some (.slice G x.2.1.length c)) (hw : Wr w2 l u G x.2.1.length (marks (K + 1) x.2.1.length)) (hv : v = K + 1 + (x.2.1.length : Int)) (hgc : G = none → c = 0) :
    ItW ((w2.setCell ⟨b, o + 2, none⟩ (.int .i64 v)).setCell ⟨b, o + 3, none⟩ (.int .i64 (v + 1))) b o (markIt K x.2.1.length) l u := by
  subst hv
  obtain ⟨⟨h0, _, h3, h4⟩, hf, hx⟩ := h
  have hl := World.block_lt_of_cell? w _ h0
  have hl1 : b < (w.setCell ⟨b, o, none⟩ (.int .i64 K)).heap.size := by simpa [World.setCell] using hl
  have f : ∀ q, w2.cell? ⟨b, q, none⟩ = (w.setCell ⟨b, o, none⟩ (.int .i64 K)).cell? ⟨b, q, none⟩ := fun q => hk.cell (p := ⟨b, q, none⟩) hl1 hx
  have g : ∀ q, w2.frozen? ⟨b, q, none⟩ = w.frozen? ⟨b, q, none⟩ := fun q => (hk.frozen (p := ⟨b, q, none⟩) hl1 hx).trans (World.frozen?_setCell _ _ _ _)
  have c0 : w2.cell? ⟨b, o, none⟩ = some (.int .i64 K) := (f _).trans (World.cell?_setCell_same _ _ _ h0)
  have c1 : w2.cell? ⟨b, o + 1, none⟩ = some (.slice G x.2.1.length c) := (f _).trans ((World.cell?_setCell_other _ _ _ _ (by simp)).trans hG)
  have c2 : w2.cell? ⟨b, o + 2, none⟩ = some (.int .i64 x.2.2.1) := (f _).trans ((World.cell?_setCell_other _ _ _ _ (by simp)).trans h3)
  have c3 : w2.cell? ⟨b, o + 3, none⟩ = some (.int .i64 x.2.2.2) := (f _).trans ((World.cell?_setCell_other _ _ _ _ (by simp)).trans h4)
  have hk2 : Keep b (b + 1) w2 ((w2.setCell ⟨b, o + 2, none⟩ (.int .i64 (K + 1 + (x.2.1.length : Int)))).setCell ⟨b, o + 3, none⟩ (.int .i64 (K + 1 + (x.2.1.length : Int) + 1))) :=
    ((Keep.refl b (b + 1) w2).setCell (p := ⟨b, o + 2, none⟩) ⟨Nat.le_refl _, Nat.lt_succ_self _⟩ _).setCell (p := ⟨b, o + 3, none⟩) ⟨Nat.le_refl _, Nat.lt_succ_self _⟩ _
  refine ⟨⟨?_, ⟨G, c, ?_, ?_, hgc⟩, ?_, ?_⟩, fun j hj => ?_, hx⟩
  · rw [World.cell?_setCell_other _ _ _ _ (by simp), World.cell?_setCell_other _ _ _ _ (by simp)]
    exact c0
  · rw [World.cell?_setCell_other _ _ _ _ (by simp), World.cell?_setCell_other _ _ _ _ (by simp), markIt_len]
    exact c1
  · rw [markIt_len]
    exact hw.keep hk2 (by omega)
  · rw [World.cell?_setCell_other _ _ _ _ (by simp)]
    exact World.cell?_setCell_same _ _ _ c2
  · exact World.cell?_setCell_same _ _ _ ((World.cell?_setCell_other _ _ _ _ (by simp)).trans c3)
  · rw [World.frozen?_setCell, World.frozen?_setCell, g]
    exact hf j hj

/-- The first k items are marked. -/
def Mt (w : World) (b off n k : Nat) (K : Int) (xs : List Itm) (L U : Nat → Nat) : Prop :=
  ∀ j, j < n → ItW w b (off + j * 4) (if j < k then markIt (K + (offT xs j : Int)) (xs.getD j it0).2.1.length else xs.getD j it0) (L j) (U j)
theorem Mt.step {w w2 : World} {b off n k c : Nat} {K v : Int} {xs : List Itm} {L U : Nat → Nat} {G : Option Addr} (h : Mt w b off n k K xs L U) (hk : k < n) (hm : ∀ i j, i < j → j < n → U i ≤ L j)
    (ke : Keep (L k) (U k) (w.setCell ⟨b, off + k * 4, none⟩ (.int .i64 (K + (offT xs k : Int)))) w2)
    (hG : w.cell? ⟨b, off + k * 4 + 1, none⟩ = some (.slice G (xs.getD k it0).2.1.length c)) (hw : Wr w2 (L k) (U k) G (xs.getD k it0).2.1.length (marks (K + (offT xs k : Int) + 1) (xs.getD k it0).2.1.length)) (hv : v = K + (offT xs k : Int) + 1 + ((xs.getD k it0).2.1.length : Int)) (hgc : G = none → c = 0) :
    Mt ((w2.setCell ⟨b, off + k * 4 + 2, none⟩ (.int .i64 v)).setCell ⟨b, off + k * 4 + 3, none⟩ (.int .i64 (v + 1))) b off n (k + 1) K xs L U := by
  intro j hj
  have hkk := h k hk
  rw [if_neg (by omega)] at hkk
  by_cases e : j = k
  · subst e
    rw [if_pos (by omega)]
    exact hkk.mark ke hG hw hv hgc
  · have hjj := h j hj
    have e2 : (if j < k + 1 then markIt (K + (offT xs j : Int)) (xs.getD j it0).2.1.length else xs.getD j it0) = if j < k then markIt (K + (offT xs j : Int)) (xs.getD j it0).2.1.length else xs.getD j it0 := by
      by_cases h2 : j < k
      · rw [if_pos h2, if_pos (by omega)]
      · rw [if_neg h2, if_neg (by omega)]
    rw [e2]
    have d : U j ≤ L k ∨ U k ≤ L j := by
      rcases Nat.lt_or_gt_of_ne e with h3 | h3
      · exact .inl (hm j k h3 hk)
      · exact .inr (hm k j h3 hj)
    exact (((hjj.other (by omega) _).keep ke hkk.2.2 (by omega)).other (by omega) _).other (by omega) _
theorem Mt.done {w : World} {b off n lo hi : Nat} {K : Int} {xs : List Itm} {L U : Nat → Nat} (h : Mt w b off n n K xs L U) (hl : xs.length = n) (hm : n ≤ maxLen) (h1 : lo ≤ b) (h2 : b < hi) (ht : hi ≤ w.heap.size)
    (hL : ∀ j, j < n → lo ≤ L j ∧ U j ≤ hi) (hmm : ∀ i j, i < j → j < n → U i ≤ L j) : Wt w lo hi (some ⟨b, off, none⟩) n (markT K xs) :=
  ⟨(markT_len _ _).trans hl, hm, ht, fun _ => ⟨b, off, rfl, h1, h2, L, U, hL, hmm, fun j hj => by
    have := h j hj
    rw [if_pos hj] at this
    rw [markT_at K xs j (by omega)]
    exact this⟩⟩

end Go.Proofs.Ytlgpbnngepkkmaa
