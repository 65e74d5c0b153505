/-
  spec.PutNumber, impl.putWord, impl.PutNumber.
-/
import Derived.Test.YtlgpbnngepkkmaaPut
import Derived.Test.YtlgpbnngepkkmaaOut
namespace Go.Proofs.Ytlgpbnngepkkmaa
open Go.RowKit
set_option linter.unusedVariables false
set_option maxRecDepth 100000

theorem sh_pow (n : Int) (t : Nat) : sh n t = n / 2 ^ (8 * t) := by
  unfold sh
  rw [Int.pow_mul]
  rfl
/-- Does n fit into so many bytes? -/
def PutOk (n sz : Int) : Prop := 1 ≤ sz ∧ sz ≤ 7 ∧ 0 ≤ n ∧ sh n sz.toNat = 0
instance (n sz : Int) : Decidable (PutOk n sz) := by unfold PutOk; infer_instance
def putCode (n sz : Int) : Int := if PutOk n sz then 0 else 3
def putLen (n sz : Int) : Nat := if PutOk n sz then sz.toNat else 0
theorem putCode_ok {n sz : Int} (h : PutOk n sz) : putCode n sz = 0 := if_pos h
theorem putLen_ok {n sz : Int} (h : PutOk n sz) : putLen n sz = sz.toNat := if_pos h
theorem putCode_no {n sz : Int} (h : ¬ PutOk n sz) : putCode n sz = 3 := if_neg h
theorem putLen_no {n sz : Int} (h : ¬ PutOk n sz) : putLen n sz = 0 := if_neg h
theorem putLen_le (n sz : Int) : putLen n sz ≤ 7 := by
  by_cases h : PutOk n sz
  · rw [putLen_ok h]; have := h.1; have := h.2.1; omega
  · rw [putLen_no h]; omega

set_option maxHeartbeats 400000 in
theorem l1In_any (v a b : Int) (w : World) (r : Bool) (hr : decide (a ≤ v ∧ v ≤ b) = r) :
    Calls Try.prog 65 #[.int .i64 v, .int .i64 a, .int .i64 b] w fun e w' => e = .returned (.bool r) ∧ w = w' := by
  subst hr
  by_cases h1 : a ≤ v
  · by_cases h2 : v ≤ b
    · go_enter Try.func65, Try.ntmps65
      go_wp2_with fail
      go_ret
      exact ⟨by simp [h1, h2], rfl⟩
    · go_enter Try.func65, Try.ntmps65
      go_wp2_with fail
      go_ret
      exact ⟨by first | rfl | (simp; omega), rfl⟩
  · go_enter Try.func65, Try.ntmps65
    go_wp2_with fail
    go_ret
    exact ⟨by first | rfl | (simp; omega), rfl⟩



theorem put_bound (n : Int) (s : Nat) (h1 : 1 ≤ s) (h7 : s ≤ 7) : (n < 0 ∨ wrap64 (wrap64 (2 ^ (8 * s)) - 1) < n) ↔ ¬ (0 ≤ n ∧ sh n s = 0) := by
  have : s = 1 ∨ s = 2 ∨ s = 3 ∨ s = 4 ∨ s = 5 ∨ s = 6 ∨ s = 7 := by omega
  rcases this with h | h | h | h | h | h | h <;> subst h <;> simp only [sh, wrap64, Nat.reduceMul, Int.reducePow] <;> omega

end Go.Proofs.Ytlgpbnngepkkmaa
