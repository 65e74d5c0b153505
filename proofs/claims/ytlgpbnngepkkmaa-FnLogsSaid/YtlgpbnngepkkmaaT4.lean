/-
  Rows of atoms: three cells of int64 an atom.
-/
import Derived.Test.YtlgpbnngepkkmaaT1
import Derived.Test.YtlgpbnngepkkmaaBase64
import Derived.Deep.RegionHeld3
namespace Go.Proofs.Ytlgpbnngepkkmaa
open Go.RowKit
set_option linter.unusedVariables false
set_option maxRecDepth 100000

theorem info_atom : (Try.prog.info? 94).map (fun i => (i.zero, i.size, i.bytes)) = some (some (.agg #[.int .i64 0, .int .i64 0, .int .i64 0]), 3, 24) := by kernel_rfl
theorem run_make_atom (n : Nat) (hn : n ≤ 1099511627776) (w : World) : (Instr.makeSlice 38 (.int .i64 (n : Int)) (.int .i64 (n : Int))).run Try.prog w =
    .ok (.slice (some ⟨w.heap.size, 0, none⟩) n n) (w.alloc (.cells (madeCells #[.int .i64 0, .int .i64 0, .int .i64 0] (n * 3)) 94)) := by
  obtain ⟨i, hi, hz, hs, hb⟩ := info_parts info_atom
  have hr := run_make (P := Try.prog) w 38 94 i (.agg #[.int .i64 0, .int .i64 0, .int .i64 0]) Try.underlying38 hi hz .i64 .i64 n n (by omega) (by omega) (by rw [hb]; omega) (by omega)
  simp only [Int.toNat_natCast, hs] at hr
  exact hr







end Go.Proofs.Ytlgpbnngepkkmaa
