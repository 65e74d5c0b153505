/-
  Rows of items that may be written; toItemS.
-/
import Derived.Test.YtjdkaaepbkkchaaT3
namespace Go.Proofs.Ytjdkaaepbkkchaa
open Go.RowKit
set_option linter.unusedVariables false
set_option maxRecDepth 100000

/-- At this place of block b lies the item x, and may be written; its bytes lie in the blocks l to u, of which b is none. -/
def ItW (w : World) (b o : Nat) (x : Itm) (l u : Nat) : Prop :=
  (w.cell? ⟨b, o, none⟩ = some (.int .i64 x.1) ∧ (∃ G c, w.cell? ⟨b, o + 1, none⟩ = some (.slice G x.2.1.length c) ∧ Wr w l u G x.2.1.length x.2.1 ∧ (G = none → c = 0)) ∧
    w.cell? ⟨b, o + 2, none⟩ = some (.int .i64 x.2.2.1) ∧ w.cell? ⟨b, o + 3, none⟩ = some (.int .i64 x.2.2.2)) ∧
    (∀ j, j < 4 → w.frozen? ⟨b, o + j, none⟩ = false) ∧ (b < l ∨ u ≤ b)
def Wt (w : World) (lo hi : Nat) (A : Option Addr) (n : Nat) (xs : List Itm) : Prop :=
  xs.length = n ∧ n ≤ maxLen ∧ hi ≤ w.heap.size ∧ (0 < n → ∃ b off, A = some ⟨b, off, none⟩ ∧ lo ≤ b ∧ b < hi ∧ ∃ L U : Nat → Nat,
    (∀ j, j < n → lo ≤ L j ∧ U j ≤ hi) ∧ (∀ i j, i < j → j < n → U i ≤ L j) ∧ ∀ j, j < n → ItW w b (off + j * 4) (xs.getD j it0) (L j) (U j))
section
variable {w w' : World} {lo hi lo' hi' n b o l u : Nat} {A : Option Addr} {xs : List Itm} {x : Itm}
theorem ItW.keep (h : ItW w b o x l u) (k : Keep lo' hi' w w') (hb : b < lo' ∨ hi' ≤ b) (ho : u ≤ lo' ∨ hi' ≤ l ∨ hi' ≤ lo') : ItW w' b o x l u := by
  obtain ⟨⟨h0, ⟨G, c, h1, h2, gz⟩, h3, h4⟩, hf, hx⟩ := h
  have hl := World.block_lt_of_cell? w _ h0
  have f : ∀ q, w'.cell? ⟨b, q, none⟩ = w.cell? ⟨b, q, none⟩ := fun q => k.cell (p := ⟨b, q, none⟩) hl hb
  exact ⟨⟨(f _).trans h0, ⟨G, c, (f _).trans h1, h2.keep k ho, gz⟩, (f _).trans h3, (f _).trans h4⟩, fun j hj => (k.frozen (p := ⟨b, o + j, none⟩) hl hb).trans (hf j hj), hx⟩
theorem ItW.other (h : ItW w b o x l u) {q : Nat} (hq : q < o ∨ o + 4 ≤ q) (v : Value) : ItW (w.setCell ⟨b, q, none⟩ v) b o x l u := by
  obtain ⟨⟨h0, ⟨G, c, h1, h2, gz⟩, h3, h4⟩, hf, hx⟩ := h
  have f : ∀ p, o ≤ p → p < o + 4 → (w.setCell ⟨b, q, none⟩ v).cell? ⟨b, p, none⟩ = w.cell? ⟨b, p, none⟩ := fun p h1 h2 => World.cell?_setCell_other _ _ _ _ (by simp <;> omega)
  exact ⟨⟨(f _ (by omega) (by omega)).trans h0, ⟨G, c, (f _ (by omega) (by omega)).trans h1, h2.keep ((Keep.refl b (b + 1) w).setCell (p := ⟨b, q, none⟩) ⟨Nat.le_refl _, Nat.lt_succ_self _⟩ v) (by omega), gz⟩, (f _ (by omega) (by omega)).trans h3, (f _ (by omega) (by omega)).trans h4⟩,
    fun j hj => by rw [World.frozen?_setCell]; exact hf j hj, hx⟩
theorem ItW.at_ (h : ItW w b o x l u) (hu : u ≤ w.heap.size) : ItAt w l u b o x := by
  obtain ⟨⟨h0, ⟨G, c, h1, h2, gz⟩, h3, h4⟩, hf, hx⟩ := h
  exact ⟨h0, ⟨G, c, h1, h2.1, gz⟩, h3, h4⟩
theorem Wt.len (h : Wt w lo hi A n xs) : xs.length = n := h.1
theorem Wt.max (h : Wt w lo hi A n xs) : n ≤ maxLen := h.2.1
theorem Wt.top (h : Wt w lo hi A n xs) : hi ≤ w.heap.size := h.2.2.1
theorem Wt.rt (h : Wt w lo hi A n xs) : Rt w lo hi A n xs := by
  refine ⟨h.1, h.2.1, h.2.2.1, fun hn => ?_⟩
  obtain ⟨b, off, e, h1, h2, L, U, hL, _, hc⟩ := h.2.2.2 hn
  refine ⟨b, off, e, h1, h2, fun j hj => ?_⟩
  obtain ⟨g0, ⟨G, c, g1, g2, gz⟩, g3, g4⟩ := (hc j hj).1
  exact ⟨g0, ⟨G, c, g1, g2.1.wide (hL j hj).1 (hL j hj).2 h.top, gz⟩, g3, g4⟩
theorem Wt.keep (h : Wt w lo hi A n xs) (k : Keep lo' hi' w w') (ho : hi ≤ lo' ∨ hi' ≤ lo ∨ hi' ≤ lo') : Wt w' lo hi A n xs := by
  refine ⟨h.1, h.2.1, Nat.le_trans h.top k.size, fun hn => ?_⟩
  obtain ⟨b, off, e, h1, h2, L, U, hL, hm, hc⟩ := h.2.2.2 hn
  exact ⟨b, off, e, h1, h2, L, U, hL, hm, fun j hj => (hc j hj).keep k (by omega) (by have := hL j hj; omega)⟩
theorem Wt.wide (h : Wt w lo hi A n xs) (hl : lo' ≤ lo) (hh : hi ≤ hi') (ht : hi' ≤ w.heap.size) : Wt w lo' hi' A n xs := by
  refine ⟨h.1, h.2.1, ht, fun hn => ?_⟩
  obtain ⟨b, off, e, h1, h2, L, U, hL, hm, hc⟩ := h.2.2.2 hn
  exact ⟨b, off, e, by omega, by omega, L, U, fun j hj => by have := hL j hj; omega, hm, hc⟩
theorem Wt.empty_top {B : Nat} (w : World) (A : Option Addr) : Wt w B w.heap.size A 0 [] := ⟨rfl, Nat.zero_le _, Nat.le_refl _, fun h => absurd h (by omega)⟩
end

/-- Four cells in a row are written. -/
theorem four_at {w : World} {g q : Nat} {u v x y : Value} (h0 : w.cell? ⟨g, q, none⟩ = some u) (h1 : w.cell? ⟨g, q + 1, none⟩ = some v) (h2 : w.cell? ⟨g, q + 2, none⟩ = some x) (h3 : w.cell? ⟨g, q + 3, none⟩ = some y) (a b c d : Value) :
    ∀ w', w' = ((((w.setCell ⟨g, q, none⟩ a).setCell ⟨g, q + 1, none⟩ b).setCell ⟨g, q + 2, none⟩ c).setCell ⟨g, q + 3, none⟩ d) → w'.cell? ⟨g, q, none⟩ = some a ∧ w'.cell? ⟨g, q + 1, none⟩ = some b ∧ w'.cell? ⟨g, q + 2, none⟩ = some c ∧ w'.cell? ⟨g, q + 3, none⟩ = some d := by
  rintro w' rfl
  refine ⟨?_, ?_, ?_, ?_⟩
  · rw [World.cell?_setCell_other _ _ _ _ (by simp), World.cell?_setCell_other _ _ _ _ (by simp), World.cell?_setCell_other _ _ _ _ (by simp)]
    exact World.cell?_setCell_same _ _ _ h0
  · rw [World.cell?_setCell_other _ _ _ _ (by simp), World.cell?_setCell_other _ _ _ _ (by simp)]
    exact World.cell?_setCell_same _ _ _ ((World.cell?_setCell_other _ _ _ _ (by simp)).trans h1)
  · rw [World.cell?_setCell_other _ _ _ _ (by simp)]
    exact World.cell?_setCell_same _ _ _ ((World.cell?_setCell_other _ _ _ _ (by simp)).trans ((World.cell?_setCell_other _ _ _ _ (by simp)).trans h2))
  · exact World.cell?_setCell_same _ _ _ ((World.cell?_setCell_other _ _ _ _ (by simp)).trans ((World.cell?_setCell_other _ _ _ _ (by simp)).trans ((World.cell?_setCell_other _ _ _ _ (by simp)).trans h3)))

/-- Block g, made by the call, has n items' cells; the first k are those of xs, their bytes in blocks behind g. -/
def Ft (w : World) (g n k : Nat) (xs : List Itm) : Prop :=
  (∃ cs t, w.heap[g]? = some (.cells cs t (0, 0)) ∧ cs.size = n * 4) ∧ ∃ L U : Nat → Nat,
    (∀ j, j < k → g < L j ∧ L j ≤ U j ∧ U j ≤ w.heap.size) ∧ (∀ i j, i < j → j < k → U i ≤ L j) ∧ ∀ j, j < k → ItW w g (j * 4) (xs.getD j it0) (L j) (U j)
section
variable {w w' : World} {g n k : Nat} {xs : List Itm}
theorem Ft.lt (h : Ft w g n k xs) : g < w.heap.size := by
  obtain ⟨⟨cs, t, h1, _⟩, _⟩ := h
  rcases Nat.lt_or_ge g w.heap.size with hlt | hge
  · exact hlt
  · rw [Array.getElem?_eq_none hge] at h1; cases h1
theorem Ft.start (w : World) (cs : Array Value) (t : TypeId) (hs : cs.size = n * 4) (xs : List Itm) : Ft (w.alloc (.cells cs t)) w.heap.size n 0 xs := by
  refine ⟨⟨cs, t, ?_, hs⟩, fun _ => 0, fun _ => 0, fun j hj => absurd hj (by omega), fun i j _ hj => absurd hj (by omega), fun j hj => absurd hj (by omega)⟩
  show (w.heap.push _)[w.heap.size]? = _
  simp
theorem Ft.cell (h : Ft w g n k xs) {j : Nat} (hj : j < n * 4) : ∃ v, w.cell? ⟨g, j, none⟩ = some v := by
  obtain ⟨⟨cs, t, h1, h2⟩, _⟩ := h
  refine ⟨cs[j]'(by omega), ?_⟩
  simp [World.cell?, h1, h2, hj]
theorem Ft.frozen (h : Ft w g n k xs) (j : Nat) : w.frozen? ⟨g, j, none⟩ = false := by
  obtain ⟨⟨cs, t, h1, _⟩, _⟩ := h
  simp [World.frozen?, h1]
theorem Ft.keep {lo hi : Nat} (h : Ft w g n k xs) (ke : Keep lo hi w w') (ho : hi ≤ lo) : Ft w' g n k xs := by
  have hl := h.lt
  obtain ⟨⟨cs, t, h1, h2⟩, L, U, hL, hm, hc⟩ := h
  exact ⟨⟨cs, t, (ke.block g hl (by omega)).trans h1, h2⟩, L, U, fun j hj => by have := hL j hj; have := ke.size; omega, hm, fun j hj => (hc j hj).keep ke (by omega) (by omega)⟩
theorem Ft.below (h : Ft w g n k xs) (hb : Below w.heap.size w w') : Ft w' g n k xs := h.keep (Keep.of_below hb 0 0) (Nat.le_refl _)
/-- One more item is laid. -/
theorem Ft.step {G : Option Addr} {c l : Nat} (h : Ft w g n k xs) (hk : k < n) (hg : g < l)
    (hw : Wr w l w.heap.size G (xs.getD k it0).2.1.length (xs.getD k it0).2.1) (hlu : l ≤ w.heap.size) (hgc : G = none → c = 0)
    (hpast : ∃ w0 : World, Ft w0 g n k xs ∧ w0.heap.size ≤ l ∧ Below w0.heap.size w0 w) :
    Ft ((((w.setCell ⟨g, k * 4, none⟩ (.int .i64 (xs.getD k it0).1)).setCell ⟨g, k * 4 + 1, none⟩ (.slice G (xs.getD k it0).2.1.length c)).setCell ⟨g, k * 4 + 2, none⟩ (.int .i64 (xs.getD k it0).2.2.1)).setCell ⟨g, k * 4 + 3, none⟩ (.int .i64 (xs.getD k it0).2.2.2)) g n (k + 1) xs := by
  obtain ⟨w0, hf0, hs0, hb0⟩ := hpast
  have hfw := hf0.below hb0
  obtain ⟨v0, c0⟩ := hfw.cell (show k * 4 < n * 4 by omega)
  obtain ⟨v1, c1⟩ := hfw.cell (show k * 4 + 1 < n * 4 by omega)
  obtain ⟨v2, c2⟩ := hfw.cell (show k * 4 + 2 < n * 4 by omega)
  obtain ⟨v3, c3⟩ := hfw.cell (show k * 4 + 3 < n * 4 by omega)
  obtain ⟨⟨cs, t, h1, h2⟩, L, U, hL, hm, hc⟩ := hf0
  have hgs : g < w0.heap.size := (Array.getElem?_eq_some_iff.1 h1).1
  have h1w : w.heap[g]? = some (.cells cs t (0, 0)) := ((Keep.of_below hb0 0 0).block g hgs (by omega)).trans h1
  have hk0 : Keep g (g + 1) w ((((w.setCell ⟨g, k * 4, none⟩ (.int .i64 (xs.getD k it0).1)).setCell ⟨g, k * 4 + 1, none⟩ (.slice G (xs.getD k it0).2.1.length c)).setCell ⟨g, k * 4 + 2, none⟩ (.int .i64 (xs.getD k it0).2.2.1)).setCell ⟨g, k * 4 + 3, none⟩ (.int .i64 (xs.getD k it0).2.2.2)) :=
    ((((Keep.refl g (g + 1) w).setCell (p := ⟨g, k * 4, none⟩) ⟨Nat.le_refl _, Nat.lt_succ_self _⟩ _).setCell (p := ⟨g, k * 4 + 1, none⟩) ⟨Nat.le_refl _, Nat.lt_succ_self _⟩ _).setCell (p := ⟨g, k * 4 + 2, none⟩) ⟨Nat.le_refl _, Nat.lt_succ_self _⟩ _).setCell (p := ⟨g, k * 4 + 3, none⟩) ⟨Nat.le_refl _, Nat.lt_succ_self _⟩ _
  have hz : ∀ j, w.frozen? ⟨g, j, none⟩ = false := fun j => by simp [World.frozen?, h1w]
  refine ⟨⟨(((cs.setIfInBounds (k * 4) (.int .i64 (xs.getD k it0).1)).setIfInBounds (k * 4 + 1) (.slice G (xs.getD k it0).2.1.length c)).setIfInBounds (k * 4 + 2) (.int .i64 (xs.getD k it0).2.2.1)).setIfInBounds (k * 4 + 3) (.int .i64 (xs.getD k it0).2.2.2), t,
    by simp [World.setCell, Array.getElem?_modify, h1w], by simpa using h2⟩, fun j => if j = k then l else L j, fun j => if j = k then w.heap.size else U j, fun j hj => ?_, fun i j hij hj => ?_, fun j hj => ?_⟩
  · have hsz := hk0.size
    by_cases e : j = k
    · simp only [e, if_true]
      omega
    · simp only [if_neg e]
      have := hL j (by omega)
      omega
  · have ei : i ≠ k := by omega
    simp only [if_neg ei]
    by_cases e : j = k
    · simp only [e, if_true]
      have := hL i (by omega)
      omega
    · simp only [if_neg e]
      exact hm i j hij (by omega)
  · by_cases e : j = k
    · subst e
      simp only [if_true]
      obtain ⟨d0, d1, d2, d3⟩ := four_at c0 c1 c2 c3 (.int .i64 (xs.getD j it0).1) (.slice G (xs.getD j it0).2.1.length c) (.int .i64 (xs.getD j it0).2.2.1) (.int .i64 (xs.getD j it0).2.2.2) _ rfl
      exact ⟨⟨d0, ⟨G, c, d1, hw.keep hk0 (by omega), hgc⟩, d2, d3⟩, fun i hi => by simp only [World.frozen?_setCell]; exact hz _, by omega⟩
    · simp only [if_neg e]
      have h3 : ItW w g (j * 4) (xs.getD j it0) (L j) (U j) := (hc j (by omega)).keep (Keep.of_below hb0 0 0) (by omega) (by omega)
      exact (((h3.other (by omega) _).other (by omega) _).other (by omega) _).other (by omega) _
theorem Ft.done (h : Ft w g n n xs) (hl : xs.length = n) (hm : n ≤ maxLen) : Wt w g w.heap.size (some ⟨g, 0, none⟩) n xs := by
  have hlt := h.lt
  obtain ⟨_, L, U, hL, hmm, hc⟩ := h
  exact ⟨hl, hm, Nat.le_refl _, fun _ => ⟨g, 0, rfl, Nat.le_refl _, hlt, L, U, fun j hj => by have := hL j hj; omega, hmm, fun j hj => by rw [Nat.zero_add]; exact hc j hj⟩⟩
end

theorem info_item : (Try.prog.info? 62).map (fun i => (i.zero, i.size, i.bytes)) = some (some (.agg #[.int .i64 0, .slice none 0 0, .int .i64 0, .int .i64 0]), 4, 48) := by kernel_rfl
theorem run_make_item (n : Nat) (hn : n ≤ 1099511627776) (w : World) : (Instr.makeSlice 27 (.int .i64 (n : Int)) (.int .i64 (n : Int))).run Try.prog w =
    .ok (.slice (some ⟨w.heap.size, 0, none⟩) n n) (w.alloc (.cells (madeCells #[.int .i64 0, .slice none 0 0, .int .i64 0, .int .i64 0] (n * 4)) 62)) := by
  obtain ⟨i, hi, hz, hs, hb⟩ := info_parts info_item
  have hr := run_make (P := Try.prog) w 27 62 i (.agg #[.int .i64 0, .slice none 0 0, .int .i64 0, .int .i64 0]) Try.underlying27 hi hz .i64 .i64 n n (by omega) (by omega) (by rw [hb]; omega) (by omega)
  simp only [Int.toNat_natCast, hs] at hr
  exact hr

set_option maxHeartbeats 2000000 in
theorem toItemS_any (A : Option Addr) (n c hi : Nat) (xs : List Itm) (w : World) (h : Rt w 0 hi A n xs) (hn : n ≤ 1099511627776) (hs : ∀ x ∈ xs, x.2.1.length ≤ 281474976710656) :
    Calls Try.prog 27 #[.slice A n c] w fun e w' => ∃ g, e = .returned (.slice (some ⟨g, 0, none⟩) n n) ∧ Wt w' w.heap.size w'.heap.size (some ⟨g, 0, none⟩) n xs ∧ Below w.heap.size w w' := by
  have hmk := run_make_item n hn
  have hint := h.int
  have hl := h.len
  have htop := h.top
  go_enter Try.func27, Try.ntmps27
  go_wp2
  go_loopw [4] (fun i wr => ∃ k : Nat, k ≤ n ∧ i = .int .i64 (k : Int) ∧ Ft wr w.heap.size n k xs ∧ Below w.heap.size w wr) (fun i _ => n - (intOf i).toNat)
  case atStart => exact ⟨0, Nat.zero_le _, rfl, Ft.start w _ _ (size_madeCells _ _) xs, (Below.refl _ _).alloc (Nat.le_refl _) _⟩
  case round =>
    obtain ⟨k, hk, rfl, hf, hb⟩ := hrel
    by_cases hlt : k < n
    · obtain ⟨b, off, rfl, h1, h2, hc⟩ := h.at_ (by omega)
      have hit := (hc k hlt).keep (Keep.of_below hb 0 0) h2 (Nat.zero_le _) htop (by omega)
      have hxm : xs.getD k it0 ∈ xs := by
        rw [List.getD_eq_getElem?_getD, List.getElem?_eq_getElem (by omega : k < xs.length)]
        simp
      have hsx := hs _ hxm
      obtain ⟨x, hx⟩ : ∃ x, xs.getD k it0 = x := ⟨_, rfl⟩
      rw [hx] at hit hsx
      obtain ⟨a0, ⟨G, cg, a1, rg, _⟩, a2, a3⟩ := hit
      have HX := Lib.hid hx
      have i0 : (0 : Int) ≤ (k : Int) := by omega
      have i1 : (k : Int) < (n : Int) := by omega
      have hz := hb.size
      have HF := Lib.hid hf
      have HB := Lib.hid hb
      obtain ⟨xk, xb, xp, xq⟩ := x
      simp only at a0 a1 a2 a3 rg hsx
      have hgl := hf.lt
      clear hc hs h hmk hx hf hb hxm
      go_wp2_with fail
      refine (toItem_any xk xp xq G xb.length cg 0 hi xb wr rg hsx).mono ?_
      rintro e w1 ⟨g1, rfl, hw1, hb1⟩
      have hf1 := HF.out.below hb1
      have hb2 := HB.out.trans (hb1.mono hz)
      have hz1 := hb1.size
      have HS := Lib.hid (hf1.step (w := w1) (G := some ⟨g1, 0, none⟩) (c := xb.length) (l := wr.heap.size) hlt hgl (by rw [HX.out]; exact hw1) hz1 (fun e => by cases e) ⟨wr, HF.out, Nat.le_refl _, hb1⟩)
      rw [HX.out] at HS
      have HB2 := Lib.hid ((((hb2.setCell (p := ⟨w.heap.size, k * 4, none⟩) (Nat.le_refl _) (.int .i64 xk)).setCell (p := ⟨w.heap.size, k * 4 + 1, none⟩) (Nat.le_refl _) (.slice (some ⟨g1, 0, none⟩) xb.length xb.length)).setCell (p := ⟨w.heap.size, k * 4 + 2, none⟩) (Nat.le_refl _) (.int .i64 xp)).setCell (p := ⟨w.heap.size, k * 4 + 3, none⟩) (Nat.le_refl _) (.int .i64 xq))
      obtain ⟨v0, d0⟩ := hf1.cell (show k * 4 < n * 4 by omega)
      obtain ⟨v1, d1⟩ := hf1.cell (show k * 4 + 1 < n * 4 by omega)
      obtain ⟨v2, d2⟩ := hf1.cell (show k * 4 + 2 < n * 4 by omega)
      obtain ⟨v3, d3⟩ := hf1.cell (show k * 4 + 3 < n * 4 by omega)
      have z0 := hf1.frozen (k * 4)
      have z1 := hf1.frozen (k * 4 + 1)
      have z2 := hf1.frozen (k * 4 + 2)
      have z3 := hf1.frozen (k * 4 + 3)
      clear hf1 hb2 hb1 hw1 a0 a1 a2 a3 rg
      go_wp2_with fail
      go_roundw
      case rel => exact ⟨k + 1, by omega, by go_num, HS.out, HB2.out⟩
      case measure => simp [intOf]; omega
    · obtain rfl : k = n := by omega
      have hw := hf.done hl h.max
      have hb2 := hb
      go_wp2
      go_ret
      exact ⟨_, rfl, hw, hb2⟩
end Go.Proofs.Ytjdkaaepbkkchaa
