/-
  Rows of items.
-/
import Derived.Test.YtlgpbnngepkkmaaT1
import Derived.Deep.RegionHeld3
namespace Go.Proofs.Ytlgpbnngepkkmaa
open Go.RowKit
set_option linter.unusedVariables false
set_option maxRecDepth 100000

/-- An item: its Kind, its Bytes, its Cols, its Rows. -/
abbrev Itm := Int × List Int × Int × Int
def it0 : Itm := (0, [], 0, 0)
/-- At this place of block b lies the item x; its bytes lie in the blocks lo to hi. -/
def ItAt (w : World) (lo hi b off : Nat) (x : Itm) : Prop :=
  w.cell? ⟨b, off, none⟩ = some (.int .i64 x.1) ∧ (∃ G c, w.cell? ⟨b, off + 1, none⟩ = some (.slice G x.2.1.length c) ∧ Rd w lo hi G x.2.1.length x.2.1 ∧ (G = none → c = 0)) ∧
    w.cell? ⟨b, off + 2, none⟩ = some (.int .i64 x.2.2.1) ∧ w.cell? ⟨b, off + 3, none⟩ = some (.int .i64 x.2.2.2)
/-- The slice value '.slice A n c' reads as these items; all of it lies in the blocks lo to hi. -/
def Rt (w : World) (lo hi : Nat) (A : Option Addr) (n : Nat) (xs : List Itm) : Prop :=
  xs.length = n ∧ n ≤ maxLen ∧ hi ≤ w.heap.size ∧ (0 < n → ∃ b off, A = some ⟨b, off, none⟩ ∧ lo ≤ b ∧ b < hi ∧ ∀ j, j < n → ItAt w lo hi b (off + j * 4) (xs.getD j it0))
section
variable {w w' : World} {lo hi lo' hi' n : Nat} {A : Option Addr} {xs : List Itm}
theorem ItAt.keep {b off : Nat} {x : Itm} (h : ItAt w lo hi b off x) (k : Keep lo' hi' w w') (hb : b < hi) (hlb : lo ≤ b) (ht : hi ≤ w.heap.size) (ho : hi ≤ lo' ∨ hi' ≤ lo ∨ hi' ≤ lo') : ItAt w' lo hi b off x := by
  obtain ⟨h0, ⟨G, c, h1, h2, gz⟩, h3, h4⟩ := h
  have f : ∀ o, w'.cell? ⟨b, o, none⟩ = w.cell? ⟨b, o, none⟩ := fun o => k.cell (p := ⟨b, o, none⟩) (by show b < _; omega) (by show b < lo' ∨ hi' ≤ b; omega)
  exact ⟨(f _).trans h0, ⟨G, c, (f _).trans h1, h2.keep k ho, gz⟩, (f _).trans h3, (f _).trans h4⟩
theorem Rt.len (h : Rt w lo hi A n xs) : xs.length = n := h.1
theorem Rt.max (h : Rt w lo hi A n xs) : n ≤ maxLen := h.2.1
theorem Rt.int (h : Rt w lo hi A n xs) : n ≤ 9223372036854775807 := by
  have := h.2.1
  unfold maxLen at this
  omega
theorem Rt.top (h : Rt w lo hi A n xs) : hi ≤ w.heap.size := h.2.2.1
theorem Rt.at_ (h : Rt w lo hi A n xs) (hn : 0 < n) : ∃ b off, A = some ⟨b, off, none⟩ ∧ lo ≤ b ∧ b < hi ∧ ∀ j, j < n → ItAt w lo hi b (off + j * 4) (xs.getD j it0) := h.2.2.2 hn
theorem Rt.keep (h : Rt w lo hi A n xs) (k : Keep lo' hi' w w') (ho : hi ≤ lo' ∨ hi' ≤ lo ∨ hi' ≤ lo') : Rt w' lo hi A n xs := by
  refine ⟨h.1, h.2.1, Nat.le_trans h.top k.size, fun hn => ?_⟩
  obtain ⟨b, off, e, h1, h2, hc⟩ := h.at_ hn
  exact ⟨b, off, e, h1, h2, fun j hj => (hc j hj).keep k h2 h1 h.top ho⟩
theorem Rt.empty (w : World) (A : Option Addr) (h : lo ≤ w.heap.size) : Rt w lo lo A 0 [] := ⟨rfl, Nat.zero_le _, h, fun h => absurd h (by omega)⟩
theorem Rt.wide (h : Rt w lo hi A n xs) (hl : lo' ≤ lo) (hh : hi ≤ hi') (ht : hi' ≤ w.heap.size) : Rt w lo' hi' A n xs := by
  refine ⟨h.1, h.2.1, ht, fun hn => ?_⟩
  obtain ⟨b, off, e, h1, h2, hc⟩ := h.at_ hn
  refine ⟨b, off, e, by omega, by omega, fun j hj => ?_⟩
  obtain ⟨g0, ⟨G, c, g1, g2, gz⟩, g3, g4⟩ := hc j hj
  exact ⟨g0, ⟨G, c, g1, g2.wide hl hh ht, gz⟩, g3, g4⟩
end

end Go.Proofs.Ytlgpbnngepkkmaa
