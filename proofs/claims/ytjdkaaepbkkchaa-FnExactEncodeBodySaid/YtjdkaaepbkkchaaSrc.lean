/-
  The draws' source: l1Source, l1Next, l1Pick, l1Chance, l1Some, l1Copy: they answer, and what they answer lies in its bounds.
-/
import Derived.Test.YtjdkaaepbkkchaaBase
import Derived.OpenShut
import Derived.StillTactics
import Derived.Laws.Pointers
import Derived.Deep.RegionHeld3
import Derived.Deep.AppendLies
namespace Go.Proofs.Ytjdkaaepbkkchaa
open Go.RowKit
set_option linter.unusedVariables false
set_option maxRecDepth 100000

/-- Block s holds a source: the bytes that are read, and how many were read. -/
def Src (w : World) (s k : Nat) (A : Option Addr) (nc cc hi : Nat) (xs : List Int) : Prop :=
  s < w.heap.size ∧ hi ≤ s ∧ w.cell? ⟨s, 0, none⟩ = some (.slice A nc cc) ∧ w.cell? ⟨s, 1, none⟩ = some (.int .i64 (k : Int)) ∧ w.frozen? ⟨s, 1, none⟩ = false ∧ Rd w 0 hi A nc xs

theorem Src.keep {w w' : World} {s k : Nat} {A : Option Addr} {nc cc hi lo' hi' : Nat} {xs : List Int} (h : Src w s k A nc cc hi xs) (ke : Keep lo' hi' w w') (ho : s < lo' ∨ hi' ≤ s) (hc : hi ≤ lo' ∨ hi' ≤ lo') : Src w' s k A nc cc hi xs :=
  ⟨Nat.lt_of_lt_of_le h.1 ke.size, h.2.1, (ke.cell (p := ⟨s, 0, none⟩) h.1 ho).trans h.2.2.1, (ke.cell (p := ⟨s, 1, none⟩) h.1 ho).trans h.2.2.2.1, (ke.frozen (p := ⟨s, 1, none⟩) h.1 ho).trans h.2.2.2.2.1, h.2.2.2.2.2.keep ke (by omega)⟩

/-- What a draw leaves: a number in its bounds, the source one further on. -/
def Drawn (w : World) (s k : Nat) (A : Option Addr) (nc cc hi : Nat) (xs : List Int) (m : Int) (e : Ending) (w' : World) : Prop :=
  ∃ r : Int, e = .returned (.int .i64 r) ∧ 0 ≤ r ∧ (1 ≤ m → r < m) ∧ (m < 1 → r = 0) ∧ Src w' s (k + 1) A nc cc hi xs ∧ Keep s (s + 1) w w'

theorem Src.step {w : World} {s k : Nat} {A : Option Addr} {nc cc hi : Nat} {xs : List Int} (h : Src w s k A nc cc hi xs) : Src (w.setCell ⟨s, 1, none⟩ (.int .i64 ((k : Int) + 1))) s (k + 1) A nc cc hi xs ∧ Keep s (s + 1) w (w.setCell ⟨s, 1, none⟩ (.int .i64 ((k : Int) + 1))) := by
  have hk : Keep s (s + 1) w (w.setCell ⟨s, 1, none⟩ (.int .i64 ((k : Int) + 1))) := (Keep.refl s (s + 1) w).setCell (p := ⟨s, 1, none⟩) ⟨Nat.le_refl _, Nat.lt_succ_self _⟩ _
  refine ⟨⟨Nat.lt_of_lt_of_le h.1 hk.size, h.2.1, (World.cell?_setCell_other _ _ _ _ (by simp)).trans h.2.2.1, World.cell?_setCell_same _ _ _ h.2.2.2.1, by rw [World.frozen?_setCell]; exact h.2.2.2.2.1, h.2.2.2.2.2.keep hk (by have := h.2.1; omega)⟩, hk⟩

theorem quo_le (k n : Nat) : (0 : Int) ≤ (k : Int) / (n : Int) ∧ (k : Int) / (n : Int) ≤ (k : Int) :=
  ⟨Int.ediv_nonneg (Int.natCast_nonneg _) (Int.natCast_nonneg _), Int.ediv_le_self _ (Int.natCast_nonneg _)⟩
theorem rem_lt (k n : Nat) (h : 0 < n) : (0 : Int) ≤ (k : Int) % (n : Int) ∧ (k : Int) % (n : Int) < (n : Int) :=
  ⟨Int.emod_nonneg _ (by omega), Int.emod_lt_of_pos _ (by omega)⟩







end Go.Proofs.Ytjdkaaepbkkchaa
