/-
  What the row's list of package-level variables gives the walks: the sentinel for what cannot be read; and a world that bears it.
-/
import Derived.Test.YtjdkaaepbkkchaaDoorW13
import Derived.Test.YtjdkaaepbkkchaaDoorCards
import Derived.Test.YtjdkaaepbkkchaaDoorTie
import Derived.ProofKit
import Derived.OpenShut
import Derived.Deep.DeepHandedRow
import Derived.Lib.LaidTab
import Derived.OpenVars
import Derived.ChangeVars
import Derived.Stop.LaidErr
namespace Go.Proofs.YtjdkaaepbkkchaaDoor
open Go.RowKit
set_option linter.unusedVariables false
set_option maxRecDepth 100000

theorem gErrU : Tryd.prog.globalNamed "loop.example/g00799/impl.errUnreadable" = some 0 := by kernel_rfl
theorem gErrTypeU : (Tryd.prog.globals[0]?).map (·.type) = some 103 := by kernel_rfl
theorem cellsErrU : Tryd.prog.cellsOf 145 = 1 := by kernel_rfl
theorem cellsStrU : Tryd.prog.cellsOf 9 = 1 := by kernel_rfl
theorem starErrU : "*" ++ "errors.errorString" = "*errors.errorString" := by decide
theorem rowErrU (u : TypeId) (h : Tryd.prog.typeName? 3 u = some "*errors.errorString") : u = 126 :=
  typeName_ptr_named (nm := "errors.errorString") (by rw [starErrU]; kernel_rfl) (by kernel_rfl) (by decide) u (by rw [starErrU]; exact h)
/-- The list's condition gives the sentinel. -/
theorem tableU {W : World} (h : laidMetH Tryd.prog [("loop.example/g00799/impl.errUnreadable", Rows.laid_loop_example_g00799_impl_errUnreadable)] W) : ∃ a, Ke a W := by
  have h' : laidMet Tryd.prog [("loop.example/g00799/impl.errUnreadable", Rows.laid_loop_example_g00799_impl_errUnreadable)] W := h
  obtain ⟨a, s, hv, _, _, _⟩ := laid_sentinel h' gErrU gErrTypeU Tryd.underlying103 rowErrU Tryd.underlying126 Tryd.underlying145 rfl rfl Tryd.underlying9 cellsErrU cellsStrU
  have hce : W.cell? ⟨0, 0, none⟩ = some (.iface 126 (.pointer (some a))) := by simpa using World.var?_cell gErrU hv 0
  refine ⟨a, ?_, hce⟩
  rcases Nat.lt_or_ge 0 W.heap.size with hlt | hge
  · exact hlt
  · simp [World.cell?, Array.getElem?_eq_none hge] at hce
abbrev errTextU : ByteArray := { data := #[116, 104, 101, 115, 101, 32, 98, 121, 116, 101, 115, 32, 115, 97, 121, 32, 110, 111, 116, 104, 105, 110, 103] }
noncomputable def lowU : Nat := (World.holding Tryd.prog default ⟨#[], #[], []⟩).heap.size
/-- A world that bears the list. -/
noncomputable def laidWorldU (os : Os) : World :=
  let w0 := World.holding Tryd.prog os ⟨#[.cells #[.string errTextU] 145], #[], []⟩
  { w0 with heap := w0.heap.modify 0 fun
      | .cells _ t frozen => .cells #[.iface 126 (.pointer (some ⟨lowU, 0, none⟩))] t frozen
      | o => o }
theorem laid_metU (os : Os) (args : Array Value) : laidMet Tryd.prog [("loop.example/g00799/impl.errUnreadable", Rows.laid_loop_example_g00799_impl_errUnreadable)] ((laidWorldU os).forCall (fun _ _ => 0) ⟨#[], args, []⟩).memory :=
  laidMet_of_run' 8 (by kernel_rfl) (by kernel_rfl)
end Go.Proofs.YtjdkaaepbkkchaaDoor
