/-
  Numbers out of bytes: l1ReadHigh.
-/
import Derived.Test.YtebdgdmdjgkboaaBase
namespace Go.Proofs.Ytebdgdmdjgkboaa
open Go.RowKit
set_option linter.unusedVariables false
set_option maxRecDepth 100000

/-- The number whose bytes these are, the highest one first. -/
def val (xs : List Int) : Int := xs.foldl (fun n b => n * 256 + b) 0
theorem val_snoc (xs : List Int) (b : Int) : val (xs ++ [b]) = val xs * 256 + b := by simp [val]
theorem take_snoc (xs : List Int) (k : Nat) (h : k < xs.length) : xs.take (k + 1) = xs.take k ++ [xs.getD k 0] := by
  rw [List.take_succ_eq_append_getElem h]
  simp [List.getD_eq_getElem?_getD, List.getElem?_eq_getElem h]
theorem val_take (xs : List Int) (k : Nat) (h : k < xs.length) : val (xs.take (k + 1)) = val (xs.take k) * 256 + xs.getD k 0 := by
  rw [take_snoc xs k h, val_snoc]
theorem val_take' (xs : List Int) (k : Nat) (h : k < xs.length) : val (xs.take (k + 1)) = val (xs.take k) * 256 + xs[k]?.getD 0 := val_take xs k h
theorem val_bound (xs : List Int) (hb : ∀ x ∈ xs, 0 ≤ x ∧ x ≤ 255) : ∀ k, k ≤ xs.length → 0 ≤ val (xs.take k) ∧ val (xs.take k) < 256 ^ k := by
  intro k
  induction k with
  | zero => intro _; simp [val]
  | succ k ih =>
    intro hk
    have h1 := ih (by omega)
    have h2 := hb _ (getD_mem xs k (by omega))
    rw [val_take xs k (by omega)]
    have h3 : (256 : Int) ^ (k + 1) = 256 ^ k * 256 := Int.pow_succ ..
    omega
theorem pow_le (k : Nat) (h : k ≤ 6) : (256 : Int) ^ k ≤ 281474976710656 := by
  have : k = 0 ∨ k = 1 ∨ k = 2 ∨ k = 3 ∨ k = 4 ∨ k = 5 ∨ k = 6 := by omega
  rcases this with h | h | h | h | h | h | h <;> subst h <;> decide
theorem val_small (xs : List Int) (hb : ∀ x ∈ xs, 0 ≤ x ∧ x ≤ 255) (k : Nat) (hk : k ≤ xs.length) (h6 : k ≤ 6) : 0 ≤ val (xs.take k) ∧ val (xs.take k) ≤ 281474976710655 := by
  have h1 := val_bound xs hb k hk
  have h2 := pow_le k h6
  omega

end Go.Proofs.Ytebdgdmdjgkboaa
