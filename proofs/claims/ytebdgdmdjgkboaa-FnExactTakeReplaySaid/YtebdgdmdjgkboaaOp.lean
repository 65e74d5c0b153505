/-
  A laws.Replay, as the row opens it.
-/
import Derived.Test.YtebdgdmdjgkboaaMem64
import Derived.Lib.SmallJoins
import Derived.ProofKit
import Derived.OpenShut
namespace Go.Proofs.Ytebdgdmdjgkboaa
open Go.ChangeShapes Go.WideShapes Go.ChangeAt Go.RowKit Go.Joins
set_option linter.unusedVariables false
set_option maxRecDepth 100000

theorem wf64' {x : Int} (h : (Lit.int .i64 x).wf = true) : -9223372036854775808 ≤ x ∧ x ≤ 9223372036854775807 := by
  simpa [Lit.wf, IntKind.min, IntKind.max, IntKind.signed, IntKind.bits] using h
theorem cellsReplay : Try.prog.cellsOf 38 = 2 := by kernel_rfl
/-- A slice of int64 behind its reading. -/
theorem row_of_trod {H : Type} {enc : TypeId × Value → H} {W : World} {base fuel : Nat} {held : Bool} {A : Option Addr} {n c : Nat} {y : DataW H × List MemPlace}
    (h : DataW.trod enc Try.prog W base (fun _ => true) held fuel 24 [.slice A n c] = some y) : ∃ xs, Ri W 0 W.heap.size A n xs := by
  rcases open_ints Try.underlying24 Try.underlying2 (by kernel_rfl) h with ⟨hcs, _⟩ | ⟨x, l, c', zs, hcs, _, hl, hm, hz, _, hcell, hwz⟩
  · simp at hcs
    obtain ⟨rfl, rfl, rfl⟩ := hcs
    exact ⟨_, Ri.of_row (zs := []) (cap := 0) (.inl ⟨rfl, rfl, rfl, rfl⟩)⟩
  · simp at hcs
    obtain ⟨rfl, rfl, rfl⟩ := hcs
    exact ⟨_, Ri.of_row (zs := zs) (cap := c) (.inr ⟨_, rfl, hl, hm, by simpa using hz, hcell, hwz⟩)⟩
theorem slice_of_trod {H : Type} {enc : TypeId × Value → H} {W : World} {base fuel : Nat} {held : Bool} {v : Value} {y : DataW H × List MemPlace}
    (h : DataW.trod enc Try.prog W base (fun _ => true) held fuel 24 [v] = some y) : ∃ A n c, v = .slice A n c := by
  rcases open_ints Try.underlying24 Try.underlying2 (by kernel_rfl) h with ⟨hcs, _⟩ | ⟨x, l, c', zs, hcs, _⟩
  · simp at hcs; exact ⟨_, _, _, hcs⟩
  · simp at hcs; exact ⟨_, _, _, hcs⟩
theorem open_replay {H : Type} {enc : TypeId × Value → H} {W : World} {base b0 : Nat} {held : Bool} {r : Reach} {v : Value} {d : DataW H} {p : List MemPlace} (hv : Value.okWide Try.prog W r b0 38 v)
    (h : DataW.Trod enc Try.prog W base (fun _ => true) held 38 v d p) :
    ∃ t A n c xs, v = .agg #[.int .i64 t, .slice A n c] ∧ (-9223372036854775808 ≤ t ∧ t ≤ 9223372036854775807) ∧ Ri W 0 W.heap.size A n xs := by
  obtain ⟨c0, c1, y0, y1, m, rfl, rfl, rfl, hy0, hy1⟩ := open_agg2 Try.underlying38 (by kernel_rfl) cellsReplay hv h
  obtain ⟨t, ht, _, hw⟩ := DataW.trod_int Try.underlying2 hy0
  simp at ht
  subst ht
  obtain ⟨A, n, c, rfl⟩ := slice_of_trod hy1
  obtain ⟨xs, hx⟩ := row_of_trod hy1
  exact ⟨t, A, n, c, xs, rfl, wf64' hw, hx⟩
end Go.Proofs.Ytebdgdmdjgkboaa
