/-
  The words of a block: l2Words.
-/
import Derived.Test.YtpnpjngaenlciaaH1
namespace Go.Proofs.Ytpnpjngaenlciaa
open Go.RowKit
set_option linter.unusedVariables false
set_option maxRecDepth 100000

def sig0 (x : Int) : Int := bits .xor .u32 (bits .xor .u32 (turnR x 7) (turnR x 18)) (x / 8)
def sig1 (x : Int) : Int := bits .xor .u32 (bits .xor .u32 (turnR x 17) (turnR x 19)) (x / 1024)
theorem sig0_u32 (x : Int) : 0 ≤ sig0 x ∧ sig0 x ≤ 4294967295 := bits_u32 _ _ _
theorem sig1_u32 (x : Int) : 0 ≤ sig1 x ∧ sig1 x ≤ 4294967295 := bits_u32 _ _ _
/-- The first words of a block, read from its bytes. -/
def W1 (xs : List Int) (i : Nat) (j : Nat) : Int := if j < i then val (part xs (4 * j) 4) else 0
def nextW (V : Nat → Int) (t : Nat) : Int := (V (t - 16) + sig0 (V (t - 15)) + V (t - 7) + sig1 (V (t - 2))) % 4294967296
/-- The schedule behind m steps. -/
def Ws (xs : List Int) : Nat → Nat → Int
  | 0 => W1 xs 16
  | m + 1 => upd (Ws xs m) (16 + m) (nextW (Ws xs m) (16 + m))
theorem part_val (xs : List Int) (hb : ∀ x ∈ xs, 0 ≤ x ∧ x ≤ 255) (k : Nat) : 0 ≤ val (part xs k 4) ∧ val (part xs k 4) ≤ 4294967295 := by
  have hb' : ∀ x ∈ part xs k 4, 0 ≤ x ∧ x ≤ 255 := fun x hx => hb x (List.mem_of_mem_drop (List.mem_of_mem_take hx))
  have hl : (part xs k 4).length ≤ 4 := by simp [part]; omega
  have h := val_bound _ hb' (part xs k 4).length (Nat.le_refl _)
  rw [List.take_of_length_le (Nat.le_refl _)] at h
  have : ∀ k : Nat, k ≤ 4 → (256 : Int) ^ k ≤ 4294967296 := by
    intro k hk
    have : k = 0 ∨ k = 1 ∨ k = 2 ∨ k = 3 ∨ k = 4 := by omega
    rcases this with h | h | h | h | h <;> subst h <;> decide
  have := this _ hl
  omega
theorem W1_u32 (xs : List Int) (hb : ∀ x ∈ xs, 0 ≤ x ∧ x ≤ 255) (i j : Nat) : 0 ≤ W1 xs i j ∧ W1 xs i j ≤ 4294967295 := by
  unfold W1; split
  · exact part_val xs hb _
  · omega
theorem W1_step (xs : List Int) (i : Nat) : upd (W1 xs i) i (val (part xs (4 * i) 4)) = W1 xs (i + 1) := by
  funext j
  unfold upd W1
  by_cases h : j = i
  · subst h; simp
  · rw [if_neg h]
    by_cases h2 : j < i
    · rw [if_pos h2, if_pos (by omega)]
    · rw [if_neg h2, if_neg (by omega)]
theorem Ws_u32 (xs : List Int) (hb : ∀ x ∈ xs, 0 ≤ x ∧ x ≤ 255) : ∀ m j, 0 ≤ Ws xs m j ∧ Ws xs m j ≤ 4294967295 := by
  intro m
  induction m with
  | zero => exact W1_u32 xs hb 16
  | succ m ih =>
    intro j
    unfold Ws upd
    split
    · unfold nextW; omega
    · exact ih j

end Go.Proofs.Ytpnpjngaenlciaa
