/-
  What the row's list of package-level variables gives the walks: the table of the round words; and a world that bears it.
-/
import Derived.Test.YtpnpjngaenlciaaDoorI3
import Derived.Test.YtpnpjngaenlciaaDoorCards
import Derived.Test.YtpnpjngaenlciaaDoorTie
import Derived.ProofKit
import Derived.OpenShut
import Derived.Deep.DeepHandedRow
import Derived.Lib.LaidTab
import Derived.OpenVars
import Derived.ChangeVars
namespace Go.Proofs.YtpnpjngaenlciaaDoor
open Go.RowKit
set_option linter.unusedVariables false
set_option maxRecDepth 100000

theorem gTab : Tryd.prog.globalNamed "loop.example/g00799/impl.roundWords" = some 1 := by kernel_rfl
theorem gTabType : (Tryd.prog.globals[1]?).map (·.type) = some 115 := by kernel_rfl
theorem cellsTab : Tryd.prog.cellsOf 115 = 64 := by kernel_rfl
theorem cellsU32 : Tryd.prog.cellsOf 103 = 1 := by kernel_rfl
theorem wf64 {n : Int} (h : (Lit.int .i64 n).wf = true) : -9223372036854775808 ≤ n ∧ n ≤ 9223372036854775807 := by
  simpa [Lit.wf, IntKind.min, IntKind.max, IntKind.signed, IntKind.bits] using h
/-- The list's condition gives the table. -/
theorem table {W : World} (h : laidMetH Tryd.prog [("loop.example/g00799/impl.roundWords", Rows.laid_loop_example_g00799_impl_roundWords)] W) : Kt W := by
  have ht : Lib.TabIs Tryd.prog W "loop.example/g00799/impl.roundWords" .u32 roundWords := Lib.tabIs_of_head (rest := []) gTab gTabType Tryd.underlying115 Tryd.underlying103 cellsU32 cellsTab h
  have hc : ∀ j, j < 64 → W.cell? ⟨1, j, none⟩ = some (.int .u32 (K j)) := fun j hj => ht.cell gTab j hj
  refine ⟨?_, hc⟩
  rcases Nat.lt_or_ge 1 W.heap.size with hlt | hge
  · exact hlt
  · have := hc 0 (by omega)
    simp [World.cell?, Array.getElem?_eq_none hge] at this
/-- A world that bears the list: the settled one, the table laid. -/
noncomputable def laidWorld (os : Os) : World :=
  { World.holding Tryd.prog os ⟨#[], #[], []⟩ with heap := (World.holding Tryd.prog os ⟨#[], #[], []⟩).heap.modify 1 fun
      | .cells _ t frozen => .cells (roundWords.map (Value.int .u32)).toArray t frozen
      | o => o }
theorem laid_met (os : Os) (args : Array Value) : laidMet Tryd.prog [("loop.example/g00799/impl.roundWords", Rows.laid_loop_example_g00799_impl_roundWords)] ((laidWorld os).forCall (fun _ _ => 0) ⟨#[], args, []⟩).memory :=
  laidMet_of_run' 8 (by kernel_rfl) (by kernel_rfl)
end Go.Proofs.YtpnpjngaenlciaaDoor
