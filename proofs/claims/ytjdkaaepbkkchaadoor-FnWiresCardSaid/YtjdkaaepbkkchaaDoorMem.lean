/-
  Plain lemmas on memory, of my own: 'Keep' (all old blocks but those of one interval are as they were), 'Rd' (a slice value reads as a list of bytes), 'Wr' (and its cells may be written), 'Fill' (a new row is filled from the front).
-/
import Derived.Test.YtjdkaaepbkkchaaDoorRows
import Derived.WalkKit
import Derived.WalkSpells
import Derived.WalkLawsBesides
import Derived.Handy
import Derived.Deep.Draws
import Derived.Lib.Hide
namespace Go.Proofs.YtjdkaaepbkkchaaDoor
open Go.RowKit
set_option linter.unusedVariables false
set_option maxRecDepth 100000

structure Keep (lo hi : Nat) (w w' : World) : Prop where
  os : w'.os = w.os
  tape : w'.tape = w.tape
  output : w'.output = w.output
  size : w.heap.size ≤ w'.heap.size
  block : ∀ k, k < w.heap.size → (k < lo ∨ hi ≤ k) → w'.heap[k]? = w.heap[k]?

section
variable {lo hi lo' hi' : Nat} {w w' w'' : World}
theorem Keep.refl (lo hi : Nat) (w : World) : Keep lo hi w w := ⟨rfl, rfl, rfl, Nat.le_refl _, fun _ _ _ => rfl⟩
theorem Keep.trans (h : Keep lo hi w w') (k : Keep lo hi w' w'') : Keep lo hi w w'' :=
  ⟨k.os.trans h.os, k.tape.trans h.tape, k.output.trans h.output, Nat.le_trans h.size k.size,
    fun i hi' ho => (k.block i (Nat.lt_of_lt_of_le hi' h.size) ho).trans (h.block i hi' ho)⟩
theorem Keep.wide (h : Keep lo hi w w') (hl : lo' ≤ lo) (hh : hi ≤ hi') : Keep lo' hi' w w' :=
  ⟨h.os, h.tape, h.output, h.size, fun i h1 h2 => h.block i h1 (by omega)⟩
theorem Keep.none_ (h : Keep lo lo w w') (lo' hi' : Nat) : Keep lo' hi' w w' :=
  ⟨h.os, h.tape, h.output, h.size, fun i h1 _ => h.block i h1 (by omega)⟩
theorem Keep.below (h : Keep lo hi w w') {B : Nat} (hB : B ≤ lo ∨ hi ≤ lo) (hw : B ≤ w.heap.size) : Below B w w' :=
  ⟨h.os, h.tape, h.output, h.size, fun i hi' => h.block i (by omega) (by omega)⟩
theorem Keep.of_below (h : Below w.heap.size w w') (lo hi : Nat) : Keep lo hi w w' :=
  ⟨h.os, h.tape, h.output, h.size, fun i hi' _ => h.block i hi'⟩
theorem Keep.cell (h : Keep lo hi w w') {p : Addr} (hp : p.block < w.heap.size) (ho : p.block < lo ∨ hi ≤ p.block) : w'.cell? p = w.cell? p :=
  World.cell?_of_block (w := w) (h.block p.block hp ho)
theorem Keep.frozen (h : Keep lo hi w w') {p : Addr} (hp : p.block < w.heap.size) (ho : p.block < lo ∨ hi ≤ p.block) : w'.frozen? p = w.frozen? p :=
  World.frozen?_of_block (w := w) (h.block p.block hp ho)
end

/-- All old cells and marks read as before: two rules for the walk. -/
theorem bcell {W w1 : World} (hb : Below W.heap.size W w1) : (∀ b o, b < W.heap.size → w1.cell? ⟨b, o, none⟩ = W.cell? ⟨b, o, none⟩) ∧ (∀ b o, b < W.heap.size → w1.frozen? ⟨b, o, none⟩ = W.frozen? ⟨b, o, none⟩) :=
  ⟨fun b o h => hb.cell (p := ⟨b, o, none⟩) h, fun b o h => hb.frozen (p := ⟨b, o, none⟩) h⟩

/-- A result of two cells behind its two stores. -/
theorem two_cells {w : World} {g : Nat} {u v : Value} (h0 : w.cell? ⟨g, 0, none⟩ = some u) (h1 : w.cell? ⟨g, 1, none⟩ = some v) (x y : Value) :
    (w.setCell ⟨g, 0, none⟩ x).cell? ⟨g, 0, none⟩ = some x ∧ ((w.setCell ⟨g, 0, none⟩ x).setCell ⟨g, 1, none⟩ y).cell? ⟨g, 1, none⟩ = some y :=
  ⟨World.cell?_setCell_same _ _ _ h0, World.cell?_setCell_same _ _ _ ((World.cell?_setCell_other _ _ _ _ (by simp)).trans h1)⟩

/-- Block b holds the two cells u, v. -/
def Box2 (w : World) (b : Nat) (u v : Value) : Prop := b < w.heap.size ∧ w.cell? ⟨b, 0, none⟩ = some u ∧ w.cell? ⟨b, 1, none⟩ = some v
theorem Box2.keep {w w' : World} {b lo hi : Nat} {u v : Value} (h : Box2 w b u v) (k : Keep lo hi w w') (ho : b < lo ∨ hi ≤ b) : Box2 w' b u v :=
  ⟨Nat.lt_of_lt_of_le h.1 k.size, (k.cell (p := ⟨b, 0, none⟩) h.1 ho).trans h.2.1, (k.cell (p := ⟨b, 1, none⟩) h.1 ho).trans h.2.2⟩
theorem Box2.new (w : World) (u v : Value) (t : TypeId) : Box2 (w.alloc (.cells #[u, v] t)) w.heap.size u v := by
  refine ⟨by simp, ?_, ?_⟩
  · show (match (w.heap.push _)[w.heap.size]? with | some (.cells c _ _) => _ | _ => none) = _; simp
  · show (match (w.heap.push _)[w.heap.size]? with | some (.cells c _ _) => _ | _ => none) = _; simp
theorem Keep.alloc {lo hi : Nat} {a w : World} (h : Keep lo hi a w) (o : Obj) : Keep lo hi a (w.alloc o) :=
  h.trans (Keep.of_below ((Below.refl _ _).alloc (Nat.le_refl _) o) lo hi)

/-- The slice value '.slice A n c' reads as the bytes xs; its row lies in the blocks from lo to below hi. -/
def Rd (w : World) (lo hi : Nat) (A : Option Addr) (n : Nat) (xs : List Int) : Prop :=
  xs.length = n ∧ n ≤ maxLen ∧ hi ≤ w.heap.size ∧ (∀ x ∈ xs, 0 ≤ x ∧ x ≤ 255) ∧
    (0 < n → ∃ b off, A = some ⟨b, off, none⟩ ∧ lo ≤ b ∧ b < hi ∧ ∀ j, j < n → w.cell? ⟨b, off + j, none⟩ = some (.int .u8 (xs.getD j 0)))

/-- And none of its cells is frozen. -/
def Wr (w : World) (lo hi : Nat) (A : Option Addr) (n : Nat) (xs : List Int) : Prop :=
  Rd w lo hi A n xs ∧ ∀ b off, A = some ⟨b, off, none⟩ → ∀ j, j < n → w.frozen? ⟨b, off + j, none⟩ = false

section
variable {w w' : World} {lo hi lo' hi' n : Nat} {A : Option Addr} {xs : List Int}
theorem Rd.len (h : Rd w lo hi A n xs) : xs.length = n := h.1
theorem Rd.max (h : Rd w lo hi A n xs) : n ≤ maxLen := h.2.1
theorem Rd.int (h : Rd w lo hi A n xs) : n ≤ 9223372036854775807 := by
  have := h.2.1
  unfold maxLen at this
  omega
theorem Rd.top (h : Rd w lo hi A n xs) : hi ≤ w.heap.size := h.2.2.1
theorem Rd.byte (h : Rd w lo hi A n xs) : ∀ x ∈ xs, 0 ≤ x ∧ x ≤ 255 := h.2.2.2.1
theorem getD_mem (xs : List Int) (j : Nat) (h : j < xs.length) : xs.getD j 0 ∈ xs := by
  rw [List.getD_eq_getElem?_getD, List.getElem?_eq_getElem h]
  exact List.getElem_mem h
theorem Rd.byteAt (h : Rd w lo hi A n xs) {j : Nat} (hj : j < n) : 0 ≤ xs.getD j 0 ∧ xs.getD j 0 ≤ 255 :=
  h.byte _ (getD_mem xs j (by rw [h.len]; exact hj))
theorem Rd.at_ (h : Rd w lo hi A n xs) (hn : 0 < n) :
    ∃ b off, A = some ⟨b, off, none⟩ ∧ lo ≤ b ∧ b < hi ∧ ∀ j, j < n → w.cell? ⟨b, off + j, none⟩ = some (.int .u8 (xs.getD j 0)) := h.2.2.2.2 hn
theorem Rd.keep (h : Rd w lo hi A n xs) (k : Keep lo' hi' w w') (ho : hi ≤ lo' ∨ hi' ≤ lo ∨ hi' ≤ lo') : Rd w' lo hi A n xs := by
  refine ⟨h.1, h.2.1, Nat.le_trans h.top k.size, h.byte, fun hn => ?_⟩
  obtain ⟨b, off, e, h1, h2, hc⟩ := h.at_ hn
  have ht := h.top
  exact ⟨b, off, e, h1, h2, fun j hj => (k.cell (p := ⟨b, off + j, none⟩) (by show b < _; omega) (by show b < lo' ∨ hi' ≤ b; omega)).trans (hc j hj)⟩
theorem Wr.keep (h : Wr w lo hi A n xs) (k : Keep lo' hi' w w') (ho : hi ≤ lo' ∨ hi' ≤ lo ∨ hi' ≤ lo') : Wr w' lo hi A n xs := by
  refine ⟨h.1.keep k ho, fun b off e j hj => ?_⟩
  obtain ⟨b', off', e', h1, h2, _⟩ := h.1.at_ (by omega)
  rw [e] at e'
  injection e' with e'
  injection e' with e1 e2
  subst e1 e2
  have ht := h.1.top
  exact (k.frozen (p := ⟨b, off + j, none⟩) (by show b < _; omega) (by show b < lo' ∨ hi' ≤ b; omega)).trans (h.2 b off e j hj)
theorem Rd.wide (h : Rd w lo hi A n xs) (hl : lo' ≤ lo) (hh : hi ≤ hi') (ht : hi' ≤ w.heap.size) : Rd w lo' hi' A n xs := by
  refine ⟨h.1, h.2.1, ht, h.byte, fun hn => ?_⟩
  obtain ⟨b, off, e, h1, h2, hc⟩ := h.at_ hn
  exact ⟨b, off, e, by omega, by omega, hc⟩
theorem Wr.wide (h : Wr w lo hi A n xs) (hl : lo' ≤ lo) (hh : hi ≤ hi') (ht : hi' ≤ w.heap.size) : Wr w lo' hi' A n xs := ⟨h.1.wide hl hh ht, h.2⟩
theorem Rd.nil_ (w : World) (lo : Nat) (A : Option Addr) : Rd w lo lo A 0 [] → Rd w lo lo A 0 [] := id
theorem Rd.empty (w : World) (A : Option Addr) (h : lo ≤ w.heap.size) : Rd w lo lo A 0 [] := ⟨rfl, by simp, h, by simp, fun h => by omega⟩
theorem Wr.empty_top {B : Nat} (w : World) (A : Option Addr) : Wr w B w.heap.size A 0 [] := ⟨⟨rfl, Nat.zero_le _, Nat.le_refl _, by simp, fun h => by omega⟩, fun _ _ _ j hj => by omega⟩
theorem Wr.empty (w : World) (A : Option Addr) (h : lo ≤ w.heap.size) : Wr w lo lo A 0 [] := ⟨Rd.empty w A h, fun _ _ _ j hj => by omega⟩
end

theorem Rd.byteAt' {w : World} {lo hi n : Nat} {A : Option Addr} {xs : List Int} (h : Rd w lo hi A n xs) {j : Nat} (hj : j < n) : 0 ≤ xs[j]?.getD 0 ∧ xs[j]?.getD 0 ≤ 255 := h.byteAt hj
/-- The cells that are to be appended. -/
theorem Rd.news {w : World} {lo hi n b off : Nat} {xs : List Int} (h : Rd w lo hi (some ⟨b, off, none⟩) n xs) : ∀ j u, (xs.map (Value.int .u8))[j]? = some u → w.cell? ((⟨b, off, none⟩ : Addr).add j) = some u := by
  intro j u hu
  have hl := h.len
  have hj : j < n := by
    have := (List.getElem?_eq_some_iff.1 hu).1
    simpa [hl] using this
  obtain ⟨bb, oo, e, _, _, hc⟩ := h.at_ (by omega)
  injection e with e
  injection e with e1 e2
  subst e1 e2
  have hadd : (⟨b, off, none⟩ : Addr).add j = ⟨b, off + j, none⟩ := by unfold Addr.add; split <;> simp_all
  rw [hadd, hc j hj, ← hu, List.getElem?_map, List.getD_eq_getElem?_getD, List.getElem?_eq_getElem (by omega : j < xs.length)]
  rfl

/-- An argument, as the row opens it. -/
theorem Rd.of_row {w : World} {a : Option Addr} {len cap : Nat} {zs : List Int}
    (h : (a = none ∧ len = 0 ∧ cap = 0 ∧ zs = []) ∨
      ∃ x, a = some x ∧ len ≤ cap ∧ cap ≤ maxLen ∧ zs.length = cap ∧ (∀ i, i < zs.length → w.cell? (x.add i) = some (.int .u8 (zs.getD i 0))) ∧ ∀ n ∈ zs, (Lit.int .u8 n).wf = true) :
    Rd w 0 w.heap.size a len (zs.take len) := by
  rcases h with ⟨rfl, rfl, rfl, rfl⟩ | ⟨x, rfl, hl, hm, hz, hc, hw⟩
  · exact ⟨rfl, Nat.zero_le _, Nat.le_refl _, by simp, fun h => by omega⟩
  · refine ⟨by rw [List.length_take]; omega, Nat.le_trans hl hm, Nat.le_refl _, fun y hy => ?_, fun hn => ?_⟩
    · have := hw y (List.mem_of_mem_take hy)
      simpa [Lit.wf, IntKind.min, IntKind.max, IntKind.signed, IntKind.bits] using this
    · obtain ⟨b, off, spot⟩ := x
      have h0 := hc 0 (by omega)
      have hspot : spot = none := by simpa [Addr.add] using World.cell?_spot h0
      subst hspot
      have hadd : ∀ j, (⟨b, off, none⟩ : Addr).add j = ⟨b, off + j, none⟩ := fun j => by unfold Addr.add; split <;> simp_all
      refine ⟨b, off, rfl, Nat.zero_le _, ?_, fun j hj => ?_⟩
      · rcases Nat.lt_or_ge b w.heap.size with hlt | hge
        · exact hlt
        · rw [hadd] at h0
          simp [World.cell?, Array.getElem?_eq_none hge] at h0
      · rw [← hadd, hc j (by omega)]
        simp [List.getD_eq_getElem?_getD, hj]

/-- Block g, made by the call, has n cells of its own; the first k are the first bytes of xs. -/
def Fill (w : World) (g n k : Nat) (xs : List Int) : Prop :=
  ∃ cs t, w.heap[g]? = some (.cells cs t (0, 0)) ∧ cs.size = n ∧ ∀ j, j < k → cs[j]? = some (.int .u8 (xs.getD j 0))

section
variable {w w' : World} {g n k : Nat} {xs : List Int}
theorem Fill.lt (h : Fill w g n k xs) : g < w.heap.size := by
  obtain ⟨cs, t, h1, _⟩ := h
  rcases Nat.lt_or_ge g w.heap.size with hlt | hge
  · exact hlt
  · rw [Array.getElem?_eq_none hge] at h1; cases h1
theorem Fill.start (w : World) (cs : Array Value) (t : TypeId) (hs : cs.size = n) (xs : List Int) : Fill (w.alloc (.cells cs t)) w.heap.size n 0 xs := by
  refine ⟨cs, t, ?_, hs, fun j hj => by omega⟩
  show (w.heap.push _)[w.heap.size]? = _
  simp
theorem Fill.cell (h : Fill w g n k xs) {j : Nat} (hj : j < n) : ∃ v, w.cell? ⟨g, j, none⟩ = some v := by
  obtain ⟨cs, t, h1, h2, _⟩ := h
  refine ⟨cs[j]'(by omega), ?_⟩
  simp [World.cell?, h1, h2, hj]
theorem Fill.frozen (h : Fill w g n k xs) (j : Nat) : w.frozen? ⟨g, j, none⟩ = false := by
  obtain ⟨cs, t, h1, _⟩ := h
  simp [World.frozen?, h1]
theorem Fill.cellAt (h : Fill w g n k xs) {j : Nat} (hj : j < k) : w.cell? ⟨g, j, none⟩ = some (.int .u8 (xs.getD j 0)) := by
  obtain ⟨cs, t, h1, _, h3⟩ := h
  simp only [World.cell?, h1]
  exact h3 j hj
theorem Fill.step (h : Fill w g n k xs) (hk : k < n) : Fill (w.setCell ⟨g, k, none⟩ (.int .u8 (xs.getD k 0))) g n (k + 1) xs := by
  obtain ⟨cs, t, h1, h2, h3⟩ := h
  refine ⟨cs.setIfInBounds k (.int .u8 (xs.getD k 0)), t, by simp [World.setCell, Array.getElem?_modify, h1], by simpa using h2, fun j hj => ?_⟩
  rw [Array.getElem?_setIfInBounds]
  by_cases e : k = j
  · subst e; simp [h2, hk]
  · rw [if_neg e]; exact h3 j (by omega)
theorem Fill.keep {lo hi : Nat} (h : Fill w g n k xs) (ke : Keep lo hi w w') (ho : g < lo ∨ hi ≤ g) : Fill w' g n k xs := by
  have hl := h.lt
  obtain ⟨cs, t, h1, h2, h3⟩ := h
  exact ⟨cs, t, (ke.block g hl ho).trans h1, h2, h3⟩
theorem Fill.done (h : Fill w g n k xs) (hl : xs.length = k) (hm : k ≤ maxLen) (hb : ∀ x ∈ xs, 0 ≤ x ∧ x ≤ 255) {lo hi : Nat} (hlo : lo ≤ g) (hhi : g < hi) (ht : hi ≤ w.heap.size) : Wr w lo hi (some ⟨g, 0, none⟩) k xs := by
  refine ⟨⟨hl, hm, ht, hb, fun _ => ⟨g, 0, rfl, hlo, hhi, fun j hj => ?_⟩⟩, fun b off e j hj => ?_⟩
  · rw [Nat.zero_add]; exact h.cellAt hj
  · injection e with e
    injection e with e1 e2
    subst e1 e2
    exact h.frozen _
end

/-- Block g, made by the call, has n cells of its own; from the k-th on they are the bytes of xs (it is filled from the back). -/
def FillB (w : World) (g n k : Nat) (xs : List Int) : Prop :=
  ∃ cs t, w.heap[g]? = some (.cells cs t (0, 0)) ∧ cs.size = n ∧ ∀ j, k ≤ j → j < n → cs[j]? = some (.int .u8 (xs.getD j 0))
section
variable {w w' : World} {g n k : Nat} {xs : List Int}
theorem FillB.start (w : World) (cs : Array Value) (t : TypeId) (hs : cs.size = n) (xs : List Int) : FillB (w.alloc (.cells cs t)) w.heap.size n n xs := by
  refine ⟨cs, t, ?_, hs, fun j hj hj' => by omega⟩
  show (w.heap.push _)[w.heap.size]? = _
  simp
theorem FillB.cell (h : FillB w g n k xs) {j : Nat} (hj : j < n) : ∃ v, w.cell? ⟨g, j, none⟩ = some v := by
  obtain ⟨cs, t, h1, h2, _⟩ := h
  refine ⟨cs[j]'(by omega), ?_⟩
  simp [World.cell?, h1, h2, hj]
theorem FillB.frozen (h : FillB w g n k xs) (j : Nat) : w.frozen? ⟨g, j, none⟩ = false := by
  obtain ⟨cs, t, h1, _⟩ := h
  simp [World.frozen?, h1]
theorem FillB.step (h : FillB w g n (k + 1) xs) (hk : k < n) : FillB (w.setCell ⟨g, k, none⟩ (.int .u8 (xs.getD k 0))) g n k xs := by
  obtain ⟨cs, t, h1, h2, h3⟩ := h
  refine ⟨cs.setIfInBounds k (.int .u8 (xs.getD k 0)), t, by simp [World.setCell, Array.getElem?_modify, h1], by simpa using h2, fun j hj hj' => ?_⟩
  rw [Array.getElem?_setIfInBounds]
  by_cases e : k = j
  · subst e; simp [h2, hk]
  · rw [if_neg e]; exact h3 j (by omega) hj'
theorem FillB.full (h : FillB w g n 0 xs) : Fill w g n n xs := by
  obtain ⟨cs, t, h1, h2, h3⟩ := h
  exact ⟨cs, t, h1, h2, fun j hj => h3 j (Nat.zero_le _) hj⟩
end

/-- A row of the call's own reads as its bytes, and may be written. -/
theorem Wr.of_own {w : World} {base n c : Nat} {e : TypeId} {A : Option Addr} {xs : List Int} (h : w.ownsRow base e 1 (.slice A n c) n (xs.map (Value.int .u8))) (hm : n ≤ maxLen) (hb : ∀ x ∈ xs, 0 ≤ x ∧ x ≤ 255) : Wr w base w.heap.size A n xs := by
  have hl : xs.length = n := by simpa using h.1
  rcases h.2 with ⟨hv, rfl⟩ | ⟨g, cap, cur, hv, hg, hh, hnc, _, hcs, ht⟩
  · exact ⟨⟨hl, hm, Nat.le_refl _, hb, fun h => by omega⟩, fun _ _ _ j hj => by omega⟩
  · injection hv with hA _ _
    subst hA
    have hlt : g < w.heap.size := by
      rcases Nat.lt_or_ge g w.heap.size with hlt | hge
      · exact hlt
      · rw [Array.getElem?_eq_none hge] at hh; cases hh
    refine ⟨⟨hl, hm, Nat.le_refl _, hb, fun _ => ⟨g, 0, rfl, hg, hlt, fun j hj => ?_⟩⟩, fun b off e j hj => ?_⟩
    · have h1 : (xs.map (Value.int .u8))[j]? = some (.int .u8 (xs.getD j 0)) := by
        rw [List.getElem?_map, List.getD_eq_getElem?_getD, List.getElem?_eq_getElem (by omega : j < xs.length)]; rfl
      rw [← ht, Nat.mul_one, List.getElem?_take_of_lt hj, Array.getElem?_toList] at h1
      simp only [World.cell?, hh, Nat.zero_add]
      exact h1
    · injection e with e
      injection e with e1 e2
      subst e1 e2
      simp [World.frozen?, hh]
theorem Keep.setCell {lo hi : Nat} {a w : World} (h : Keep lo hi a w) {p : Addr} (hp : lo ≤ p.block ∧ p.block < hi) (u : Value) : Keep lo hi a (w.setCell p u) :=
  h.trans ⟨rfl, rfl, rfl, by simp [World.setCell], fun k hk ho => Below.heap_setCell _ _ _ _ (by omega)⟩
/-- A result's own block of two cells, behind a call. -/
theorem res_cells {w w1 : World} {u v : Value} {t : TypeId} (hb1 : Below (w.alloc (.cells #[u, v] t)).heap.size (w.alloc (.cells #[u, v] t)) w1) :
    w1.cell? ⟨w.heap.size, 0, none⟩ = some u ∧ w1.cell? ⟨w.heap.size, 1, none⟩ = some v ∧ w1.frozen? ⟨w.heap.size, 0, none⟩ = false ∧ w1.frozen? ⟨w.heap.size, 1, none⟩ = false ∧ Below w.heap.size w w1 ∧ w.heap.size < w1.heap.size := by
  have d0 := hb1.cell (p := ⟨w.heap.size, 0, none⟩) (by simp)
  have d1 := hb1.cell (p := ⟨w.heap.size, 1, none⟩) (by simp)
  have f0 := hb1.frozen (p := ⟨w.heap.size, 0, none⟩) (by simp)
  have f1 := hb1.frozen (p := ⟨w.heap.size, 1, none⟩) (by simp)
  simp [go_sem] at d0 d1 f0 f1
  have hz := hb1.size
  simp only [World.size_alloc] at hz
  exact ⟨d0, d1, f0, f1, ((Below.refl w.heap.size w).alloc (Nat.le_refl _) _).trans (hb1.mono (by simp)), by omega⟩
/-- The same where one more block stands behind it. -/
theorem res_cells2 {w w1 : World} {u v : Value} {t : TypeId} {o : Obj} (hb1 : Below ((w.alloc (.cells #[u, v] t)).alloc o).heap.size ((w.alloc (.cells #[u, v] t)).alloc o) w1) :
    w1.cell? ⟨w.heap.size, 0, none⟩ = some u ∧ w1.cell? ⟨w.heap.size, 1, none⟩ = some v ∧ w1.frozen? ⟨w.heap.size, 0, none⟩ = false ∧ w1.frozen? ⟨w.heap.size, 1, none⟩ = false ∧ Below w.heap.size w w1 ∧ w.heap.size < w1.heap.size := by
  refine res_cells (t := t) ?_
  exact ((Below.refl _ _).alloc (Nat.le_refl _) o).trans (hb1.mono (by simp))
/-- And behind its two stores. -/
theorem res_done {w w1 : World} (hb : Below w.heap.size w w1) (hz : w.heap.size < w1.heap.size) (x y : Value) {lo n : Nat} {G : Option Addr} {xs : List Int} (hw : Wr w1 lo w1.heap.size G n xs) (hlo : w.heap.size < lo) :
    Wr ((w1.setCell ⟨w.heap.size, 0, none⟩ x).setCell ⟨w.heap.size, 1, none⟩ y) w.heap.size ((w1.setCell ⟨w.heap.size, 0, none⟩ x).setCell ⟨w.heap.size, 1, none⟩ y).heap.size G n xs ∧
      Below w.heap.size w ((w1.setCell ⟨w.heap.size, 0, none⟩ x).setCell ⟨w.heap.size, 1, none⟩ y) := by
  have hk : Keep w.heap.size (w.heap.size + 1) w1 ((w1.setCell ⟨w.heap.size, 0, none⟩ x).setCell ⟨w.heap.size, 1, none⟩ y) :=
    ((Keep.refl _ _ w1).setCell (p := ⟨w.heap.size, 0, none⟩) ⟨Nat.le_refl _, Nat.lt_succ_self _⟩ x).setCell (p := ⟨w.heap.size, 1, none⟩) ⟨Nat.le_refl _, Nat.lt_succ_self _⟩ y
  exact ⟨(hw.keep hk (by omega)).wide (by omega) hk.size (Nat.le_refl _), (hb.setCell (Nat.le_refl _) _).setCell (Nat.le_refl _) _⟩
theorem Below.of_grown {B : Nat} {w w1 w' : World} {row : Option Nat} (h : Below B w w1) (hg : w1.grownBy w' row) (hB : B ≤ w1.heap.size) (hr : ∀ k, row = some k → B ≤ k) : Below B w w' := h.grown hg hB hr

end Go.Proofs.YtjdkaaepbkkchaaDoor
