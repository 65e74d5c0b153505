/-
  l1Source, l1Pick, l1Chance, l1Some, l1Copy.
-/
import Derived.Test.YtjdkaaepbkkchaaSrc
namespace Go.Proofs.Ytjdkaaepbkkchaa
open Go.RowKit
set_option linter.unusedVariables false
set_option maxRecDepth 100000

theorem own_keep {w w' : World} {base size n lo hi : Nat} {e : TypeId} {v : Value} {xs : List Value} (h : w.ownsRow base e size v n xs) (k : Keep lo hi w w') (ho : hi ≤ base) : w'.ownsRow base e size v n xs := by
  refine ⟨h.1, ?_⟩
  rcases h.2 with h2 | ⟨g, cap, cur, hv, hg, hh, r⟩
  · exact .inl h2
  · have hlt : g < w.heap.size := by
      rcases Nat.lt_or_ge g w.heap.size with hlt | hge
      · exact hlt
      · rw [Array.getElem?_eq_none hge] at hh; cases hh
    exact .inr ⟨g, cap, cur, hv, hg, (k.block g hlt (by omega)).trans hh, r⟩

/-- The cells of a new row of numbers. -/
theorem row_cells (w : World) (fs : List Int) (cs : Array Value) (t : TypeId) (h : cs = (fs.map (Value.int .i64)).toArray) : ∀ j, j < fs.length → (w.alloc (.cells cs t)).cell? ⟨w.heap.size, j, none⟩ = some (.int .i64 (fs.getD j 0)) := by
  intro j hj
  rw [World.cell?_alloc_at (w := w) cs t _ j rfl, h]
  simp [List.getD_eq_getElem?_getD, List.getElem?_eq_getElem hj]


/-- What a pick leaves: one of the numbers; the source one further on. -/
def Picked (w : World) (s k : Nat) (A : Option Addr) (nc cc hi : Nat) (xs : List Int) (fs : List Int) (e : Ending) (w' : World) : Prop :=
  ∃ r : Int, r ∈ fs ∧ e = .returned (.int .i64 r) ∧ Src w' s (k + 1) A nc cc hi xs ∧ Keep s (s + 1) w w'

/-- What a chance leaves. -/
def Chanced (w : World) (s k : Nat) (A : Option Addr) (nc cc hi : Nat) (xs : List Int) (e : Ending) (w' : World) : Prop :=
  ∃ r : Bool, e = .returned (.bool r) ∧ Src w' s (k + 1) A nc cc hi xs ∧ Keep s (s + 1) w w'

/-- What l1Some leaves: so many bytes of its own, the source so many further on. -/
def Somed (w : World) (s k : Nat) (A : Option Addr) (nc cc hi : Nat) (xs : List Int) (l : Nat) (e : Ending) (w' : World) : Prop :=
  ∃ (g cap : Nat) (zs : List Int), e = .returned (.slice (some ⟨g, 0, none⟩) l cap) ∧ Wr w' w.heap.size w'.heap.size (some ⟨g, 0, none⟩) l zs ∧ Src w' s (k + l) A nc cc hi xs ∧ Keep s (s + 1) w w'

theorem info_u8s : (Try.prog.info? 5).map (fun i => (i.zero, i.size, i.bytes)) = some (some (.int .u8 0), 1, 1) := by kernel_rfl

/-- The same, with the capacity. -/
def SomedC (w : World) (s k : Nat) (A : Option Addr) (nc cc hi : Nat) (xs : List Int) (l : Nat) (e : Ending) (w' : World) : Prop :=
  ∃ (g cap : Nat) (zs : List Int), e = .returned (.slice (some ⟨g, 0, none⟩) l cap) ∧ l ≤ cap ∧ Wr w' w.heap.size w'.heap.size (some ⟨g, 0, none⟩) l zs ∧ Src w' s (k + l) A nc cc hi xs ∧ Keep s (s + 1) w w'
theorem own_le {w : World} {base n c g : Nat} {e : TypeId} {vs : List Value} (h : w.ownsRow base e 1 (.slice (some ⟨g, 0, none⟩) n c) n vs) : n ≤ c := by
  rcases h.2 with ⟨hv, _⟩ | ⟨_, cap, _, hv, _, _, hnc, _⟩
  · cases hv
  · injection hv with _ _ e
    omega

/-- What l1Copy leaves. -/
def Copied (w : World) (n : Nat) (xs : List Int) (e : Ending) (w' : World) : Prop :=
  ∃ g cap, e = .returned (.slice (some ⟨g, 0, none⟩) n cap) ∧ w'.ownsRow w.heap.size 5 1 (.slice (some ⟨g, 0, none⟩) n cap) n (xs.map (Value.int .u8)) ∧ Wr w' w.heap.size w'.heap.size (some ⟨g, 0, none⟩) n xs ∧ Below w.heap.size w w'

/-- Two numbers were drawn. -/
def TwoNums (w : World) (e : Ending) (w' : World) : Prop :=
  ∃ a b : Int, e = .returned (.tuple #[.int .i64 a, .int .i64 b]) ∧ (-9223372036854775808 ≤ a ∧ a ≤ 9223372036854775807) ∧ (-9223372036854775808 ≤ b ∧ b ≤ 9223372036854775807) ∧ Below w.heap.size w w'
/-- A list of bytes was drawn. -/
def OneList (w : World) (m : Nat) (e : Ending) (w' : World) : Prop :=
  ∃ (g l cap : Nat) (zs : List Int), e = .returned (.slice (some ⟨g, 0, none⟩) l cap) ∧ l ≤ m ∧ Wr w' w.heap.size w'.heap.size (some ⟨g, 0, none⟩) l zs ∧ Below w.heap.size w w'
/-- Two lists of bytes were drawn. -/
def TwoLists (w : World) (m : Nat) (e : Ending) (w' : World) : Prop :=
  ∃ (g l cap g' l' cap' : Nat) (zs zs' : List Int), e = .returned (.tuple #[.slice (some ⟨g, 0, none⟩) l cap, .slice (some ⟨g', 0, none⟩) l' cap']) ∧ l ≤ m ∧ l' ≤ m ∧ Wr w' w.heap.size w'.heap.size (some ⟨g, 0, none⟩) l zs ∧ Wr w' w.heap.size w'.heap.size (some ⟨g', 0, none⟩) l' zs' ∧ Below w.heap.size w w'

theorem Wr.set_ {w : World} {lo hi n g j : Nat} {zs : List Int} (h : Wr w lo hi (some ⟨g, 0, none⟩) n zs) (hj : j < n) (v : Int) (hv : 0 ≤ v ∧ v ≤ 255) : Wr (w.setCell ⟨g, j, none⟩ (.int .u8 v)) lo hi (some ⟨g, 0, none⟩) n (zs.set j v) := by
  obtain ⟨b, off, e, h1, h2, hc⟩ := h.1.at_ (by omega)
  have hf := h.2 g 0 rfl
  injection e with e
  injection e with e1 e2
  subst e1 e2
  refine ⟨⟨by rw [List.length_set]; exact h.1.len, h.1.max, by simpa [World.setCell] using h.1.top, fun x hx => ?_, fun _ => ⟨g, 0, rfl, h1, h2, fun i hi => ?_⟩⟩, fun b off e i hi => ?_⟩
  · rcases List.mem_or_eq_of_mem_set hx with hx | hx
    · exact h.1.byte x hx
    · rw [hx]; exact hv
  · have hci := hc i hi
    simp only [Nat.zero_add] at hci ⊢
    by_cases e : j = i
    · subst e
      rw [World.cell?_setCell_same _ _ _ hci]
      simp [List.getD_eq_getElem?_getD, h.1.len, hj]
    · rw [World.cell?_setCell_other _ _ _ _ (by simp), hci]
      simp [List.getD_eq_getElem?_getD, e]
  · injection e with e
    injection e with e1 e2
    subst e1 e2
    rw [World.frozen?_setCell]
    exact hf i hi

end Go.Proofs.Ytjdkaaepbkkchaa
