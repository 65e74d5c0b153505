/-
  Rows of words (uint32) in a block of the call's own, as functions of the place.
-/
import Derived.Test.YtjdkaaepbkkchaaDoorBase
namespace Go.Proofs.YtjdkaaepbkkchaaDoor
open Go.RowKit
set_option linter.unusedVariables false
set_option maxRecDepth 100000

def upd (V : Nat → Int) (i : Nat) (x : Int) : Nat → Int := fun j => if j = i then x else V j
theorem upd_same (V : Nat → Int) (i : Nat) (x : Int) : upd V i x i = x := by simp [upd]
theorem upd_other (V : Nat → Int) (i j : Nat) (x : Int) (h : j ≠ i) : upd V i x j = V j := by simp [upd, h]

/-- The first n cells of block g are the words V. -/
def Wd (w : World) (g n : Nat) (V : Nat → Int) : Prop :=
  ∃ cs t, w.heap[g]? = some (.cells cs t (0, 0)) ∧ n ≤ cs.size ∧ ∀ j, j < n → cs[j]? = some (.int .u32 (V j))

section
variable {w w' : World} {g n : Nat} {V V' : Nat → Int}
theorem Wd.lt (h : Wd w g n V) : g < w.heap.size := by
  obtain ⟨cs, t, h1, _⟩ := h
  rcases Nat.lt_or_ge g w.heap.size with hlt | hge
  · exact hlt
  · rw [Array.getElem?_eq_none hge] at h1; cases h1
theorem Wd.cell (h : Wd w g n V) {j : Nat} (hj : j < n) : w.cell? ⟨g, j, none⟩ = some (.int .u32 (V j)) := by
  obtain ⟨cs, t, h1, _, h3⟩ := h
  simp only [World.cell?, h1]
  exact h3 j hj
theorem Wd.frozen (h : Wd w g n V) (j : Nat) : w.frozen? ⟨g, j, none⟩ = false := by
  obtain ⟨cs, t, h1, _⟩ := h
  simp [World.frozen?, h1]
theorem Wd.set_ (h : Wd w g n V) {i : Nat} (hi : i < n) (x : Int) : Wd (w.setCell ⟨g, i, none⟩ (.int .u32 x)) g n (upd V i x) := by
  obtain ⟨cs, t, h1, h2, h3⟩ := h
  refine ⟨cs.setIfInBounds i (.int .u32 x), t, by simp [World.setCell, Array.getElem?_modify, h1], by simpa using h2, fun j hj => ?_⟩
  rw [Array.getElem?_setIfInBounds]
  by_cases e : i = j
  · subst e; simp [upd, show i < cs.size by omega]
  · rw [if_neg e, upd_other V i j x (fun h => e h.symm)]; exact h3 j hj
theorem Wd.keep {lo hi : Nat} (h : Wd w g n V) (k : Keep lo hi w w') (ho : g < lo ∨ hi ≤ g) : Wd w' g n V := by
  have hl := h.lt
  obtain ⟨cs, t, h1, h2, h3⟩ := h
  exact ⟨cs, t, (k.block g hl ho).trans h1, h2, h3⟩
theorem Wd.drew (h : Wd w g n V) : Wd w.drew g n V := h
theorem Wd.congr (h : Wd w g n V) (he : ∀ j, j < n → V j = V' j) : Wd w g n V' := by
  obtain ⟨cs, t, h1, h2, h3⟩ := h
  exact ⟨cs, t, h1, h2, fun j hj => by rw [h3 j hj, he j hj]⟩
theorem Wd.new (w : World) (cs : Array Value) (t : TypeId) (fs : List Int) (h : cs = (fs.map (Value.int .u32)).toArray) : Wd (w.alloc (.cells cs t)) w.heap.size fs.length (fun j => fs.getD j 0) := by
  refine ⟨cs, t, ?_, by simp [h], fun j hj => ?_⟩
  · show (w.heap.push _)[w.heap.size]? = _; simp
  · rw [h]
    simp [List.getD_eq_getElem?_getD, List.getElem?_eq_getElem hj]
end

/-- A part of a list of bytes. -/
def part (xs : List Int) (k m : Nat) : List Int := (xs.drop k).take m
theorem part_getD (xs : List Int) (k m j : Nat) (h : j < m) : (part xs k m).getD j 0 = xs.getD (k + j) 0 := by
  simp [part, List.getD_eq_getElem?_getD, List.getElem?_take_of_lt h, List.getElem?_drop]
theorem Rd.part_ {w : World} {lo hi n b off : Nat} {xs : List Int} (h : Rd w lo hi (some ⟨b, off, none⟩) n xs) (k m : Nat) (hk : k + m ≤ n) : Rd w lo hi (some ⟨b, off + k, none⟩) m (part xs k m) := by
  have hl := h.len
  refine ⟨by simp [part, hl]; omega, Nat.le_trans (by omega) h.max, h.top, fun x hx => h.byte x ?_, fun hm => ?_⟩
  · exact List.mem_of_mem_drop (List.mem_of_mem_take hx)
  · obtain ⟨b', off', e, h1, h2, hc⟩ := h.at_ (by omega)
    injection e with e
    injection e with e1 e2
    subst e1 e2
    refine ⟨b, off + k, rfl, h1, h2, fun j hj => ?_⟩
    rw [Nat.add_assoc, hc (k + j) (by omega), part_getD xs k m j hj]
end Go.Proofs.YtjdkaaepbkkchaaDoor
