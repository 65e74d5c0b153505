/-
  Rows of int64 (as XMem has rows of bytes).
-/
import Derived.Test.YtjdkaaepbkkchaaDoorMem
namespace Go.Proofs.YtjdkaaepbkkchaaDoor
open Go.RowKit
set_option linter.unusedVariables false
set_option maxRecDepth 100000

/-- The slice value '.slice A n c' reads as the bytes xs; its row lies in the blocks from lo to below hi. -/
def Ri (w : World) (lo hi : Nat) (A : Option Addr) (n : Nat) (xs : List Int) : Prop :=
  xs.length = n ∧ n ≤ maxLen ∧ hi ≤ w.heap.size ∧ (∀ x ∈ xs, -9223372036854775808 ≤ x ∧ x ≤ 9223372036854775807) ∧
    (0 < n → ∃ b off, A = some ⟨b, off, none⟩ ∧ lo ≤ b ∧ b < hi ∧ ∀ j, j < n → w.cell? ⟨b, off + j, none⟩ = some (.int .i64 (xs.getD j 0)))

/-- And none of its cells is frozen. -/
def Wi (w : World) (lo hi : Nat) (A : Option Addr) (n : Nat) (xs : List Int) : Prop :=
  Ri w lo hi A n xs ∧ ∀ b off, A = some ⟨b, off, none⟩ → ∀ j, j < n → w.frozen? ⟨b, off + j, none⟩ = false

section
variable {w w' : World} {lo hi lo' hi' n : Nat} {A : Option Addr} {xs : List Int}
theorem Ri.len (h : Ri w lo hi A n xs) : xs.length = n := h.1
theorem Ri.max (h : Ri w lo hi A n xs) : n ≤ maxLen := h.2.1
theorem Ri.int (h : Ri w lo hi A n xs) : n ≤ 9223372036854775807 := by
  have := h.2.1
  unfold maxLen at this
  omega
theorem Ri.top (h : Ri w lo hi A n xs) : hi ≤ w.heap.size := h.2.2.1
theorem Ri.byte (h : Ri w lo hi A n xs) : ∀ x ∈ xs, -9223372036854775808 ≤ x ∧ x ≤ 9223372036854775807 := h.2.2.2.1
theorem Ri.byteAt (h : Ri w lo hi A n xs) {j : Nat} (hj : j < n) : -9223372036854775808 ≤ xs.getD j 0 ∧ xs.getD j 0 ≤ 9223372036854775807 :=
  h.byte _ (getD_mem xs j (by rw [h.len]; exact hj))
theorem Ri.at_ (h : Ri w lo hi A n xs) (hn : 0 < n) :
    ∃ b off, A = some ⟨b, off, none⟩ ∧ lo ≤ b ∧ b < hi ∧ ∀ j, j < n → w.cell? ⟨b, off + j, none⟩ = some (.int .i64 (xs.getD j 0)) := h.2.2.2.2 hn
theorem Ri.keep (h : Ri w lo hi A n xs) (k : Keep lo' hi' w w') (ho : hi ≤ lo' ∨ hi' ≤ lo ∨ hi' ≤ lo') : Ri w' lo hi A n xs := by
  refine ⟨h.1, h.2.1, Nat.le_trans h.top k.size, h.byte, fun hn => ?_⟩
  obtain ⟨b, off, e, h1, h2, hc⟩ := h.at_ hn
  have ht := h.top
  exact ⟨b, off, e, h1, h2, fun j hj => (k.cell (p := ⟨b, off + j, none⟩) (by show b < _; omega) (by show b < lo' ∨ hi' ≤ b; omega)).trans (hc j hj)⟩
theorem Wi.keep (h : Wi w lo hi A n xs) (k : Keep lo' hi' w w') (ho : hi ≤ lo' ∨ hi' ≤ lo ∨ hi' ≤ lo') : Wi w' lo hi A n xs := by
  refine ⟨h.1.keep k ho, fun b off e j hj => ?_⟩
  obtain ⟨b', off', e', h1, h2, _⟩ := h.1.at_ (by omega)
  rw [e] at e'
  injection e' with e'
  injection e' with e1 e2
  subst e1 e2
  have ht := h.1.top
  exact (k.frozen (p := ⟨b, off + j, none⟩) (by show b < _; omega) (by show b < lo' ∨ hi' ≤ b; omega)).trans (h.2 b off e j hj)
theorem Ri.wide (h : Ri w lo hi A n xs) (hl : lo' ≤ lo) (hh : hi ≤ hi') (ht : hi' ≤ w.heap.size) : Ri w lo' hi' A n xs := by
  refine ⟨h.1, h.2.1, ht, h.byte, fun hn => ?_⟩
  obtain ⟨b, off, e, h1, h2, hc⟩ := h.at_ hn
  exact ⟨b, off, e, by omega, by omega, hc⟩
theorem Wi.wide (h : Wi w lo hi A n xs) (hl : lo' ≤ lo) (hh : hi ≤ hi') (ht : hi' ≤ w.heap.size) : Wi w lo' hi' A n xs := ⟨h.1.wide hl hh ht, h.2⟩
theorem Ri.nil_ (w : World) (lo : Nat) (A : Option Addr) : Ri w lo lo A 0 [] → Ri w lo lo A 0 [] := id
theorem Ri.empty (w : World) (A : Option Addr) (h : lo ≤ w.heap.size) : Ri w lo lo A 0 [] := ⟨rfl, by simp, h, by simp, fun h => by omega⟩
theorem Wi.empty_top {B : Nat} (w : World) (A : Option Addr) : Wi w B w.heap.size A 0 [] := ⟨⟨rfl, Nat.zero_le _, Nat.le_refl _, by simp, fun h => by omega⟩, fun _ _ _ j hj => by omega⟩
theorem Wi.empty (w : World) (A : Option Addr) (h : lo ≤ w.heap.size) : Wi w lo lo A 0 [] := ⟨Ri.empty w A h, fun _ _ _ j hj => by omega⟩
end

theorem Ri.byteAt' {w : World} {lo hi n : Nat} {A : Option Addr} {xs : List Int} (h : Ri w lo hi A n xs) {j : Nat} (hj : j < n) : -9223372036854775808 ≤ xs[j]?.getD 0 ∧ xs[j]?.getD 0 ≤ 9223372036854775807 := h.byteAt hj
/-- The cells that are to be appended. -/
theorem Ri.news {w : World} {lo hi n b off : Nat} {xs : List Int} (h : Ri w lo hi (some ⟨b, off, none⟩) n xs) : ∀ j u, (xs.map (Value.int .i64))[j]? = some u → w.cell? ((⟨b, off, none⟩ : Addr).add j) = some u := by
  intro j u hu
  have hl := h.len
  have hj : j < n := by
    have := (List.getElem?_eq_some_iff.1 hu).1
    simpa [hl] using this
  obtain ⟨bb, oo, e, _, _, hc⟩ := h.at_ (by omega)
  injection e with e
  injection e with e1 e2
  subst e1 e2
  have hadd : (⟨b, off, none⟩ : Addr).add j = ⟨b, off + j, none⟩ := by unfold Addr.add; split <;> simp_all
  rw [hadd, hc j hj, ← hu, List.getElem?_map, List.getD_eq_getElem?_getD, List.getElem?_eq_getElem (by omega : j < xs.length)]
  rfl

/-- An argument, as the row opens it. -/
theorem Ri.of_row {w : World} {a : Option Addr} {len cap : Nat} {zs : List Int}
    (h : (a = none ∧ len = 0 ∧ cap = 0 ∧ zs = []) ∨
      ∃ x, a = some x ∧ len ≤ cap ∧ cap ≤ maxLen ∧ zs.length = cap ∧ (∀ i, i < zs.length → w.cell? (x.add i) = some (.int .i64 (zs.getD i 0))) ∧ ∀ n ∈ zs, (Lit.int .i64 n).wf = true) :
    Ri w 0 w.heap.size a len (zs.take len) := by
  rcases h with ⟨rfl, rfl, rfl, rfl⟩ | ⟨x, rfl, hl, hm, hz, hc, hw⟩
  · exact ⟨rfl, Nat.zero_le _, Nat.le_refl _, by simp, fun h => by omega⟩
  · refine ⟨by rw [List.length_take]; omega, Nat.le_trans hl hm, Nat.le_refl _, fun y hy => ?_, fun hn => ?_⟩
    · have := hw y (List.mem_of_mem_take hy)
      simpa [Lit.wf, IntKind.min, IntKind.max, IntKind.signed, IntKind.bits] using this
    · obtain ⟨b, off, spot⟩ := x
      have h0 := hc 0 (by omega)
      have hspot : spot = none := by simpa [Addr.add] using World.cell?_spot h0
      subst hspot
      have hadd : ∀ j, (⟨b, off, none⟩ : Addr).add j = ⟨b, off + j, none⟩ := fun j => by unfold Addr.add; split <;> simp_all
      refine ⟨b, off, rfl, Nat.zero_le _, ?_, fun j hj => ?_⟩
      · rcases Nat.lt_or_ge b w.heap.size with hlt | hge
        · exact hlt
        · rw [hadd] at h0
          simp [World.cell?, Array.getElem?_eq_none hge] at h0
      · rw [← hadd, hc j (by omega)]
        simp [List.getD_eq_getElem?_getD, hj]

/-- Block g, made by the call, has n cells of its own; the first k are the first bytes of xs. -/
def Fi (w : World) (g n k : Nat) (xs : List Int) : Prop :=
  ∃ cs t, w.heap[g]? = some (.cells cs t (0, 0)) ∧ cs.size = n ∧ ∀ j, j < k → cs[j]? = some (.int .i64 (xs.getD j 0))

section
variable {w w' : World} {g n k : Nat} {xs : List Int}
theorem Fi.lt (h : Fi w g n k xs) : g < w.heap.size := by
  obtain ⟨cs, t, h1, _⟩ := h
  rcases Nat.lt_or_ge g w.heap.size with hlt | hge
  · exact hlt
  · rw [Array.getElem?_eq_none hge] at h1; cases h1
theorem Fi.start (w : World) (cs : Array Value) (t : TypeId) (hs : cs.size = n) (xs : List Int) : Fi (w.alloc (.cells cs t)) w.heap.size n 0 xs := by
  refine ⟨cs, t, ?_, hs, fun j hj => by omega⟩
  show (w.heap.push _)[w.heap.size]? = _
  simp
theorem Fi.cell (h : Fi w g n k xs) {j : Nat} (hj : j < n) : ∃ v, w.cell? ⟨g, j, none⟩ = some v := by
  obtain ⟨cs, t, h1, h2, _⟩ := h
  refine ⟨cs[j]'(by omega), ?_⟩
  simp [World.cell?, h1, h2, hj]
theorem Fi.frozen (h : Fi w g n k xs) (j : Nat) : w.frozen? ⟨g, j, none⟩ = false := by
  obtain ⟨cs, t, h1, _⟩ := h
  simp [World.frozen?, h1]
theorem Fi.cellAt (h : Fi w g n k xs) {j : Nat} (hj : j < k) : w.cell? ⟨g, j, none⟩ = some (.int .i64 (xs.getD j 0)) := by
  obtain ⟨cs, t, h1, _, h3⟩ := h
  simp only [World.cell?, h1]
  exact h3 j hj
theorem Fi.step (h : Fi w g n k xs) (hk : k < n) : Fi (w.setCell ⟨g, k, none⟩ (.int .i64 (xs.getD k 0))) g n (k + 1) xs := by
  obtain ⟨cs, t, h1, h2, h3⟩ := h
  refine ⟨cs.setIfInBounds k (.int .i64 (xs.getD k 0)), t, by simp [World.setCell, Array.getElem?_modify, h1], by simpa using h2, fun j hj => ?_⟩
  rw [Array.getElem?_setIfInBounds]
  by_cases e : k = j
  · subst e; simp [h2, hk]
  · rw [if_neg e]; exact h3 j (by omega)
theorem Fi.keep {lo hi : Nat} (h : Fi w g n k xs) (ke : Keep lo hi w w') (ho : g < lo ∨ hi ≤ g) : Fi w' g n k xs := by
  have hl := h.lt
  obtain ⟨cs, t, h1, h2, h3⟩ := h
  exact ⟨cs, t, (ke.block g hl ho).trans h1, h2, h3⟩
theorem Fi.done (h : Fi w g n k xs) (hl : xs.length = k) (hm : k ≤ maxLen) (hb : ∀ x ∈ xs, -9223372036854775808 ≤ x ∧ x ≤ 9223372036854775807) {lo hi : Nat} (hlo : lo ≤ g) (hhi : g < hi) (ht : hi ≤ w.heap.size) : Wi w lo hi (some ⟨g, 0, none⟩) k xs := by
  refine ⟨⟨hl, hm, ht, hb, fun _ => ⟨g, 0, rfl, hlo, hhi, fun j hj => ?_⟩⟩, fun b off e j hj => ?_⟩
  · rw [Nat.zero_add]; exact h.cellAt hj
  · injection e with e
    injection e with e1 e2
    subst e1 e2
    exact h.frozen _
end

/-- A row of the call's own reads as its bytes, and may be written. -/
theorem Wi.of_own {w : World} {base n c : Nat} {e : TypeId} {A : Option Addr} {xs : List Int} (h : w.ownsRow base e 1 (.slice A n c) n (xs.map (Value.int .i64))) (hm : n ≤ maxLen) (hb : ∀ x ∈ xs, -9223372036854775808 ≤ x ∧ x ≤ 9223372036854775807) : Wi w base w.heap.size A n xs := by
  have hl : xs.length = n := by simpa using h.1
  rcases h.2 with ⟨hv, rfl⟩ | ⟨g, cap, cur, hv, hg, hh, hnc, _, hcs, ht⟩
  · exact ⟨⟨hl, hm, Nat.le_refl _, hb, fun h => by omega⟩, fun _ _ _ j hj => by omega⟩
  · injection hv with hA _ _
    subst hA
    have hlt : g < w.heap.size := by
      rcases Nat.lt_or_ge g w.heap.size with hlt | hge
      · exact hlt
      · rw [Array.getElem?_eq_none hge] at hh; cases hh
    refine ⟨⟨hl, hm, Nat.le_refl _, hb, fun _ => ⟨g, 0, rfl, hg, hlt, fun j hj => ?_⟩⟩, fun b off e j hj => ?_⟩
    · have h1 : (xs.map (Value.int .i64))[j]? = some (.int .i64 (xs.getD j 0)) := by
        rw [List.getElem?_map, List.getD_eq_getElem?_getD, List.getElem?_eq_getElem (by omega : j < xs.length)]; rfl
      rw [← ht, Nat.mul_one, List.getElem?_take_of_lt hj, Array.getElem?_toList] at h1
      simp only [World.cell?, hh, Nat.zero_add]
      exact h1
    · injection e with e
      injection e with e1 e2
      subst e1 e2
      simp [World.frozen?, hh]
/-- And behind its two stores. -/
theorem resI_done {w w1 : World} (hb : Below w.heap.size w w1) (hz : w.heap.size < w1.heap.size) (x y : Value) {lo n : Nat} {G : Option Addr} {xs : List Int} (hw : Wi w1 lo w1.heap.size G n xs) (hlo : w.heap.size < lo) :
    Wi ((w1.setCell ⟨w.heap.size, 0, none⟩ x).setCell ⟨w.heap.size, 1, none⟩ y) w.heap.size ((w1.setCell ⟨w.heap.size, 0, none⟩ x).setCell ⟨w.heap.size, 1, none⟩ y).heap.size G n xs ∧
      Below w.heap.size w ((w1.setCell ⟨w.heap.size, 0, none⟩ x).setCell ⟨w.heap.size, 1, none⟩ y) := by
  have hk : Keep w.heap.size (w.heap.size + 1) w1 ((w1.setCell ⟨w.heap.size, 0, none⟩ x).setCell ⟨w.heap.size, 1, none⟩ y) :=
    ((Keep.refl _ _ w1).setCell (p := ⟨w.heap.size, 0, none⟩) ⟨Nat.le_refl _, Nat.lt_succ_self _⟩ x).setCell (p := ⟨w.heap.size, 1, none⟩) ⟨Nat.le_refl _, Nat.lt_succ_self _⟩ y
  exact ⟨(hw.keep hk (by omega)).wide (by omega) hk.size (Nat.le_refl _), (hb.setCell (Nat.le_refl _) _).setCell (Nat.le_refl _) _⟩
end Go.Proofs.YtjdkaaepbkkchaaDoor
