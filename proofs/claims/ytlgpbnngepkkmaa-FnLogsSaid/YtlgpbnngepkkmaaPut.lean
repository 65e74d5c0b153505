/-
  Numbers into bytes: l1High, spec.PutNumber.
-/
import Derived.Test.YtlgpbnngepkkmaaBase
namespace Go.Proofs.Ytlgpbnngepkkmaa
open Go.RowKit
set_option linter.unusedVariables false
set_option maxRecDepth 100000

/-- What is left of n behind t divisions by 256. -/
def sh (n : Int) (t : Nat) : Int := n / 256 ^ t
theorem sh_zero (n : Int) : sh n 0 = n := by simp [sh]
theorem sh_succ (n : Int) (t : Nat) : sh n (t + 1) = sh n t / 256 := by
  unfold sh
  rw [Int.pow_succ, Int.ediv_ediv_of_nonneg (Int.pow_nonneg (by decide))]
theorem sh_nonneg (n : Int) (t : Nat) (h : 0 ≤ n) : 0 ≤ sh n t := Int.ediv_nonneg h (Int.pow_nonneg (by decide))
theorem sh_le (n : Int) (t : Nat) (h : 0 ≤ n) : sh n t ≤ n := by
  induction t with
  | zero => rw [sh_zero]; exact Int.le_refl _
  | succ t ih => rw [sh_succ]; have := sh_nonneg n t h; omega

/-- The s bytes of n, the highest one first. -/
def digs (n : Int) (s : Nat) : List Int := (List.range s).map fun (j : Nat) => sh n (s - 1 - j) % 256
theorem digs_len (n : Int) (s : Nat) : (digs n s).length = s := by simp [digs]
theorem digs_at (n : Int) (s j : Nat) (h : j < s) : (digs n s).getD j 0 = sh n (s - 1 - j) % 256 := by
  simp [digs, List.getD_eq_getElem?_getD, h]
theorem digs_byte (n : Int) (s : Nat) : ∀ x ∈ digs n s, 0 ≤ x ∧ x ≤ 255 := by
  intro x hx
  simp only [digs, List.mem_map] at hx
  obtain ⟨j, _, rfl⟩ := hx
  omega

end Go.Proofs.Ytlgpbnngepkkmaa
