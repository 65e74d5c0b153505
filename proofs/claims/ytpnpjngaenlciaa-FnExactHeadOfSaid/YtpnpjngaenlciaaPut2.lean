/-
  spec.PutNumber, impl.putWord, impl.PutNumber.
-/
import Derived.Test.YtpnpjngaenlciaaPut
import Derived.Test.YtpnpjngaenlciaaOut
namespace Go.Proofs.Ytpnpjngaenlciaa
open Go.RowKit
set_option linter.unusedVariables false
set_option maxRecDepth 100000

theorem sh_pow (n : Int) (t : Nat) : sh n t = n / 2 ^ (8 * t) := by
  unfold sh
  rw [Int.pow_mul]
  rfl
/-- Does n fit into so many bytes? -/
def PutOk (n sz : Int) : Prop := 1 ≤ sz ∧ sz ≤ 7 ∧ 0 ≤ n ∧ sh n sz.toNat = 0
instance (n sz : Int) : Decidable (PutOk n sz) := by unfold PutOk; infer_instance
def putCode (n sz : Int) : Int := if PutOk n sz then 0 else 3
def putLen (n sz : Int) : Nat := if PutOk n sz then sz.toNat else 0
theorem putCode_ok {n sz : Int} (h : PutOk n sz) : putCode n sz = 0 := if_pos h
theorem putLen_ok {n sz : Int} (h : PutOk n sz) : putLen n sz = sz.toNat := if_pos h
theorem putCode_no {n sz : Int} (h : ¬ PutOk n sz) : putCode n sz = 3 := if_neg h
theorem putLen_no {n sz : Int} (h : ¬ PutOk n sz) : putLen n sz = 0 := if_neg h
theorem putLen_le (n sz : Int) : putLen n sz ≤ 7 := by
  by_cases h : PutOk n sz
  · rw [putLen_ok h]; have := h.1; have := h.2.1; omega
  · rw [putLen_no h]; omega




theorem put_bound (n : Int) (s : Nat) (h1 : 1 ≤ s) (h7 : s ≤ 7) : (n < 0 ∨ wrap64 (wrap64 (2 ^ (8 * s)) - 1) < n) ↔ ¬ (0 ≤ n ∧ sh n s = 0) := by
  have : s = 1 ∨ s = 2 ∨ s = 3 ∨ s = 4 ∨ s = 5 ∨ s = 6 ∨ s = 7 := by omega
  rcases this with h | h | h | h | h | h | h <;> subst h <;> simp only [sh, wrap64, Nat.reduceMul, Int.reducePow] <;> omega

end Go.Proofs.Ytpnpjngaenlciaa
