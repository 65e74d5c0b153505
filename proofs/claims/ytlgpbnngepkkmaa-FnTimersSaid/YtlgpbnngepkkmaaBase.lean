/-
  What the laws' own helpers do: toByteS makes a copy, eqByteS compares, markByteS writes marks, heldByteS looks whether they are there.
-/
import Derived.Test.YtlgpbnngepkkmaaMem
import Derived.BigQuiet
import Derived.Deep.QuietTactic
namespace Go.Proofs.Ytlgpbnngepkkmaa
open Go.RowKit
set_option linter.unusedVariables false
set_option maxRecDepth 100000

theorem info_u8 : (Try.prog.info? 5).map (fun i => (i.zero, i.size, i.bytes)) = some (some (.int .u8 0), 1, 1) := by kernel_rfl

/-- The marks that markByteS writes. -/
def marks (K : Int) (n : Nat) : List Int := (List.range n).map fun (j : Nat) => (K + (j : Int)) % 256
theorem marks_len (K : Int) (n : Nat) : (marks K n).length = n := by simp [marks]
theorem marks_at (K : Int) (n j : Nat) (h : j < n) : (marks K n).getD j 0 = (K + (j : Int)) % 256 := by
  simp [marks, List.getD_eq_getElem?_getD, h]
theorem marks_byte (K : Int) (n : Nat) : ∀ x ∈ marks K n, 0 ≤ x ∧ x ≤ 255 := by
  intro x hx
  simp only [marks, List.mem_map, List.mem_range] at hx
  obtain ⟨j, _, rfl⟩ := hx
  omega

/-- n cells from an address on can be written; the first k hold the marks. -/
def Part (w : World) (b off n k : Nat) (K : Int) : Prop :=
  ∀ j, j < n → (∃ v, w.cell? ⟨b, off + j, none⟩ = some v) ∧ w.frozen? ⟨b, off + j, none⟩ = false ∧ (j < k → w.cell? ⟨b, off + j, none⟩ = some (.int .u8 ((K + (j : Int)) % 256)))
theorem Part.step {w : World} {b off n k : Nat} {K : Int} (h : Part w b off n k K) : Part (w.setCell ⟨b, off + k, none⟩ (.int .u8 ((K + (k : Int)) % 256))) b off n (k + 1) K := by
  intro j hj
  obtain ⟨⟨v, hv⟩, hf, hm⟩ := h j hj
  refine ⟨?_, by rw [World.frozen?_setCell]; exact hf, fun hlt => ?_⟩
  · by_cases e : k = j
    · subst e; exact ⟨_, World.cell?_setCell_same _ _ _ hv⟩
    · exact ⟨v, (World.cell?_setCell_other _ _ _ _ (by simp)).trans hv⟩
  · by_cases e : k = j
    · subst e; exact World.cell?_setCell_same _ _ _ hv
    · exact (World.cell?_setCell_other _ _ _ _ (by simp)).trans (hm (by omega))
theorem Part.done {w : World} {b off n lo hi : Nat} {K : Int} (h : Part w b off n n K) (h1 : lo ≤ b) (h2 : b < hi) (ht : hi ≤ w.heap.size) (hm : n ≤ maxLen) : Wr w lo hi (some ⟨b, off, none⟩) n (marks K n) := by
  refine ⟨⟨marks_len _ _, hm, ht, marks_byte _ _, fun _ => ⟨b, off, rfl, h1, h2, fun j hj => ?_⟩⟩, fun b' off' e j hj => ?_⟩
  · rw [marks_at K n j hj]; exact (h j hj).2.2 hj
  · injection e with e
    injection e with e1 e2
    subst e1 e2
    exact (h j hj).2.1
theorem Keep.drewN {lo hi : Nat} {a w : World} (h : Keep lo hi a w) (q : Nat) : Keep lo hi a (w.drewN q) := ⟨h.os, h.tape, h.output, h.size, h.block⟩

/-- 'make([]byte, n)': a new block. -/
theorem run_make_u8 (n : Nat) (hn : n ≤ 281474976710656) (w : World) : (Instr.makeSlice 22 (.int .i64 (n : Int)) (.int .i64 (n : Int))).run Try.prog w =
    .ok (.slice (some ⟨w.heap.size, 0, none⟩) n n) (w.alloc (.cells (madeCells #[.int .u8 0] n) 5)) := by
  obtain ⟨i, hi, hz, hs, hb⟩ := info_parts info_u8
  have hr := run_make (P := Try.prog) w 22 5 i (.int .u8 0) Try.underlying22 hi hz .i64 .i64 n n (by omega) (by omega) (by rw [hb]; omega) (by omega)
  simp only [Int.toNat_natCast, hs, Nat.mul_one] at hr
  exact hr




end Go.Proofs.Ytlgpbnngepkkmaa
