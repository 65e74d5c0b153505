/-
  What the laws' own helpers do to []int64 (as XBase says it of []byte).
-/
import Derived.Test.YtjdkaaepbkkchaaDoorMem64
import Derived.Test.YtjdkaaepbkkchaaDoorBase
namespace Go.Proofs.YtjdkaaepbkkchaaDoor
open Go.RowKit
set_option linter.unusedVariables false
set_option maxRecDepth 100000

theorem info_i64 : (Tryd.prog.info? 2).map (fun i => (i.zero, i.size, i.bytes)) = some (some (.int .i64 0), 1, 8) := by kernel_rfl

/-- The marksI that markInt64S writes. -/
def marksI (K : Int) (n : Nat) : List Int := (List.range n).map fun (j : Nat) => K + (j : Int)
theorem marksI_len (K : Int) (n : Nat) : (marksI K n).length = n := by simp [marksI]
theorem marksI_at (K : Int) (n j : Nat) (h : j < n) : (marksI K n).getD j 0 = K + (j : Int) := by
  simp [marksI, List.getD_eq_getElem?_getD, h]
theorem marksI_wf (K : Int) (n : Nat) (h0 : 0 ≤ K) (h1 : K + n ≤ 9223372036854775807) : ∀ x ∈ marksI K n, -9223372036854775808 ≤ x ∧ x ≤ 9223372036854775807 := by
  intro x hx
  simp only [marksI, List.mem_map, List.mem_range] at hx
  obtain ⟨j, _, rfl⟩ := hx
  omega

/-- n cells from an address on can be written; the first k hold the marksI. -/
def Pi (w : World) (b off n k : Nat) (K : Int) : Prop :=
  ∀ j, j < n → (∃ v, w.cell? ⟨b, off + j, none⟩ = some v) ∧ w.frozen? ⟨b, off + j, none⟩ = false ∧ (j < k → w.cell? ⟨b, off + j, none⟩ = some (.int .i64 (K + (j : Int))))
theorem Pi.step {w : World} {b off n k : Nat} {K : Int} (h : Pi w b off n k K) : Pi (w.setCell ⟨b, off + k, none⟩ (.int .i64 (K + (k : Int)))) b off n (k + 1) K := by
  intro j hj
  obtain ⟨⟨v, hv⟩, hf, hm⟩ := h j hj
  refine ⟨?_, by rw [World.frozen?_setCell]; exact hf, fun hlt => ?_⟩
  · by_cases e : k = j
    · subst e; exact ⟨_, World.cell?_setCell_same _ _ _ hv⟩
    · exact ⟨v, (World.cell?_setCell_other _ _ _ _ (by simp)).trans hv⟩
  · by_cases e : k = j
    · subst e; exact World.cell?_setCell_same _ _ _ hv
    · exact (World.cell?_setCell_other _ _ _ _ (by simp)).trans (hm (by omega))
theorem Pi.done {w : World} {b off n lo hi : Nat} {K : Int} (h : Pi w b off n n K) (h1 : lo ≤ b) (h2 : b < hi) (ht : hi ≤ w.heap.size) (hm : n ≤ maxLen) (h0 : 0 ≤ K) (hK : K + n ≤ 9223372036854775807) : Wi w lo hi (some ⟨b, off, none⟩) n (marksI K n) := by
  refine ⟨⟨marksI_len _ _, hm, ht, marksI_wf _ _ (by omega) (by omega), fun _ => ⟨b, off, rfl, h1, h2, fun j hj => ?_⟩⟩, fun b' off' e j hj => ?_⟩
  · rw [marksI_at K n j hj]; exact (h j hj).2.2 hj
  · injection e with e
    injection e with e1 e2
    subst e1 e2
    exact (h j hj).2.1

/-- 'make([]byte, n)': a new block. -/
theorem run_make_i64 (n : Nat) (hn : n ≤ 35184372088832) (w : World) : (Instr.makeSlice 106 (.int .i64 (n : Int)) (.int .i64 (n : Int))).run Tryd.prog w =
    .ok (.slice (some ⟨w.heap.size, 0, none⟩) n n) (w.alloc (.cells (madeCells #[.int .i64 0] n) 2)) := by
  obtain ⟨i, hi, hz, hs, hb⟩ := info_parts info_i64
  have hr := run_make (P := Tryd.prog) w 106 2 i (.int .i64 0) Tryd.underlying106 hi hz .i64 .i64 n n (by omega) (by omega) (by rw [hb]; omega) (by omega)
  simp only [Int.toNat_natCast, hs, Nat.mul_one] at hr
  exact hr




end Go.Proofs.YtjdkaaepbkkchaaDoor
