/-
  Tab, TabE, in one text.
-/
import Derived.Test.YtpnpjngaenlciaaDoorI3
import Derived.Test.YtpnpjngaenlciaaDoorCards
import Derived.Test.YtpnpjngaenlciaaDoorTie
import Derived.ProofKit
import Derived.OpenShut
import Derived.Deep.DeepHandedRow
import Derived.Lib.LaidTab
import Derived.OpenVars
import Derived.ChangeVars
import Derived.Test.YtpnpjngaenlciaaDoorS4e
import Derived.Stop.LaidErr
namespace Go.Proofs.YtpnpjngaenlciaaDoor
open Go.RowKit
set_option linter.unusedVariables false
set_option maxRecDepth 100000

theorem gTab : Tryd.prog.globalNamed "loop.example/g00799/impl.roundWords" = some 1 := by kernel_rfl
theorem gTabType : (Tryd.prog.globals[1]?).map (·.type) = some 115 := by kernel_rfl
theorem cellsTab : Tryd.prog.cellsOf 115 = 64 := by kernel_rfl
theorem cellsU32 : Tryd.prog.cellsOf 103 = 1 := by kernel_rfl
theorem wf64 {n : Int} (h : (Lit.int .i64 n).wf = true) : -9223372036854775808 ≤ n ∧ n ≤ 9223372036854775807 := by
  simpa [Lit.wf, IntKind.min, IntKind.max, IntKind.signed, IntKind.bits] using h
/-- The list's condition gives the table. -/
theorem table {W : World} (h : laidMetH Tryd.prog [("loop.example/g00799/impl.roundWords", Rows.laid_loop_example_g00799_impl_roundWords)] W) : Kt W := by
  have ht : Lib.TabIs Tryd.prog W "loop.example/g00799/impl.roundWords" .u32 roundWords := Lib.tabIs_of_head (rest := []) gTab gTabType Tryd.underlying115 Tryd.underlying103 cellsU32 cellsTab h
  have hc : ∀ j, j < 64 → W.cell? ⟨1, j, none⟩ = some (.int .u32 (K j)) := fun j hj => ht.cell gTab j hj
  refine ⟨?_, hc⟩
  rcases Nat.lt_or_ge 1 W.heap.size with hlt | hge
  · exact hlt
  · have := hc 0 (by omega)
    simp [World.cell?, Array.getElem?_eq_none hge] at this
/-- A world that bears the list: the settled one, the table laid. -/
noncomputable def laidWorld (os : Os) : World :=
  { World.holding Tryd.prog os ⟨#[], #[], []⟩ with heap := (World.holding Tryd.prog os ⟨#[], #[], []⟩).heap.modify 1 fun
      | .cells _ t frozen => .cells (roundWords.map (Value.int .u32)).toArray t frozen
      | o => o }
theorem laid_met (os : Os) (args : Array Value) : laidMet Tryd.prog [("loop.example/g00799/impl.roundWords", Rows.laid_loop_example_g00799_impl_roundWords)] ((laidWorld os).forCall (fun _ _ => 0) ⟨#[], args, []⟩).memory :=
  laidMet_of_run' 8 (by kernel_rfl) (by kernel_rfl)
end Go.Proofs.YtpnpjngaenlciaaDoor
namespace Go.Proofs.YtpnpjngaenlciaaDoor
open Go.RowKit
set_option linter.unusedVariables false
set_option maxRecDepth 100000

theorem gErr : Tryd.prog.globalNamed "loop.example/g00799/impl.errWrongTag" = some 0 := by kernel_rfl
theorem gErrType : (Tryd.prog.globals[0]?).map (·.type) = some 59 := by kernel_rfl
theorem cellsErrS : Tryd.prog.cellsOf 147 = 1 := by kernel_rfl
theorem cellsStr : Tryd.prog.cellsOf 9 = 1 := by kernel_rfl
theorem starErr : "*" ++ "errors.errorString" = "*errors.errorString" := by decide
theorem rowErr (u : TypeId) (h : Tryd.prog.typeName? 3 u = some "*errors.errorString") : u = 122 :=
  typeName_ptr_named (nm := "errors.errorString") (by rw [starErr]; kernel_rfl) (by kernel_rfl) (by decide) u (by rw [starErr]; exact h)
/-- The list's condition gives both. -/
theorem table2 {W : World} (h : laidMetH Tryd.prog [("loop.example/g00799/impl.roundWords", Rows.laid_loop_example_g00799_impl_roundWords), ("loop.example/g00799/impl.errWrongTag", Rows.laid_loop_example_g00799_impl_errWrongTag)] W) : ∃ a, KtE a W := by
  have h' : laidMet Tryd.prog (("loop.example/g00799/impl.roundWords", Rows.laid_loop_example_g00799_impl_roundWords) :: [("loop.example/g00799/impl.errWrongTag", Rows.laid_loop_example_g00799_impl_errWrongTag)]) W := h
  have ht : Lib.TabIs Tryd.prog W "loop.example/g00799/impl.roundWords" .u32 roundWords := Lib.tabIs_of_head gTab gTabType Tryd.underlying115 Tryd.underlying103 cellsU32 cellsTab h'
  have hc : ∀ j, j < 64 → W.cell? ⟨1, j, none⟩ = some (.int .u32 (K j)) := fun j hj => ht.cell gTab j hj
  obtain ⟨a, s, hv, _, _, _⟩ := laid_sentinel h'.tail gErr gErrType Tryd.underlying59 rowErr Tryd.underlying122 Tryd.underlying147 rfl rfl Tryd.underlying9 cellsErrS cellsStr
  have hce : W.cell? ⟨0, 0, none⟩ = some (.iface 122 (.pointer (some a))) := by simpa using World.var?_cell gErr hv 0
  refine ⟨a, ⟨?_, hc⟩, ?_, hce⟩
  · rcases Nat.lt_or_ge 1 W.heap.size with hlt | hge
    · exact hlt
    · have := hc 0 (by omega)
      simp [World.cell?, Array.getElem?_eq_none hge] at this
  · rcases Nat.lt_or_ge 0 W.heap.size with hlt | hge
    · exact hlt
    · simp [World.cell?, Array.getElem?_eq_none hge] at hce
abbrev errText : ByteArray := { data := #[116, 104, 101, 32, 116, 97, 103, 32, 105, 115, 32, 110, 111, 116, 32, 116, 104, 101, 32, 111, 110, 101, 32, 111, 102, 32, 119, 104, 97, 116, 32, 105, 115, 32, 97, 104, 101, 97, 100, 32, 111, 102, 32, 105, 116] }
noncomputable def lowE : Nat := (World.holding Tryd.prog default ⟨#[], #[], []⟩).heap.size
/-- A world that bears the list. -/
noncomputable def laidWorld2 (os : Os) : World :=
  let w0 := World.holding Tryd.prog os ⟨#[.cells #[.string errText] 147], #[], []⟩
  { w0 with heap := (w0.heap.modify 1 fun
      | .cells _ t frozen => .cells (roundWords.map (Value.int .u32)).toArray t frozen
      | o => o).modify 0 fun
      | .cells _ t frozen => .cells #[.iface 122 (.pointer (some ⟨lowE, 0, none⟩))] t frozen
      | o => o }
theorem laid_met2 (os : Os) (args : Array Value) : laidMet Tryd.prog [("loop.example/g00799/impl.roundWords", Rows.laid_loop_example_g00799_impl_roundWords), ("loop.example/g00799/impl.errWrongTag", Rows.laid_loop_example_g00799_impl_errWrongTag)] ((laidWorld2 os).forCall (fun _ _ => 0) ⟨#[], args, []⟩).memory :=
  laidMet_of_run' 8 (by kernel_rfl) (by kernel_rfl)
theorem trodVars_pair {H : Type} {enc : TypeId × Value → H} {P : Program} {w : World} {sp : Nat → Bool} {n1 n2 : String} {gs : List (DataW H)} {ps : List MemPlace} (h : DataW.TrodVars enc P w sp [n1, n2] gs ps) : ∃ d1 d2, gs = [d1, d2] := by
  cases gs with
  | nil => simp [DataW.TrodVars] at h
  | cons d ds =>
    obtain ⟨_, _, _, _, _, _, _, _, _, _, hs, _⟩ := h
    cases ds with
    | nil => simp [DataW.TrodVars] at hs
    | cons d2 ds2 =>
      obtain ⟨_, _, _, _, _, _, _, _, _, _, hs2, _⟩ := hs
      cases ds2 with
      | nil => exact ⟨_, _, rfl⟩
      | cons _ _ => simp [DataW.TrodVars] at hs2
end Go.Proofs.YtpnpjngaenlciaaDoor
