/-
  The hash: l2Hash.
-/
import Derived.Test.YtpnpjngaenlciaaH4
namespace Go.Proofs.Ytpnpjngaenlciaa
open Go.RowKit
set_option linter.unusedVariables false
set_option maxRecDepth 100000

/-- One block more. -/
def blk (H : Nat → Int) (xs : List Int) : Nat → Int := fun j => (H j + st (Ws xs 48) H 64 j) % 4294967296
/-- The words behind m blocks. -/
def hst (ps : List Int) : Nat → Nat → Int
  | 0 => H0
  | m + 1 => blk (hst ps m) (part ps (64 * m) 64)
theorem hst_u32 (ps : List Int) : ∀ m, U32 (hst ps m) := fun m => by
  cases m with
  | zero => exact H0_u32
  | succ m => intro j; show 0 ≤ (_ : Int) % 4294967296 ∧ (_ : Int) % 4294967296 ≤ 4294967295; omega
/-- The bytes of k words. -/
def outB (h : Nat → Int) : Nat → List Int
  | 0 => []
  | k + 1 => outB h k ++ digs (h k) 4
theorem outB_len (h : Nat → Int) : ∀ k, (outB h k).length = 4 * k := fun k => by
  induction k with
  | zero => rfl
  | succ k ih => simp only [outB, List.length_append, ih, digs_len]; omega
theorem outB_byte (h : Nat → Int) : ∀ k, ∀ x ∈ outB h k, 0 ≤ x ∧ x ≤ 255 := fun k => by
  induction k with
  | zero => intro x hx; simp [outB] at hx
  | succ k ih =>
    intro x hx
    rcases List.mem_append.1 hx with hx | hx
    · exact ih x hx
    · exact digs_byte _ _ x hx
/-- SHA-256. -/
def hashL (xs : List Int) : List Int := outB (hst (padL xs) ((padL xs).length / 64)) 8
theorem hashL_len (xs : List Int) : (hashL xs).length = 32 := outB_len _ _
theorem hashL_byte (xs : List Int) : ∀ x ∈ hashL xs, 0 ≤ x ∧ x ≤ 255 := outB_byte _ _
theorem padL_blocks (xs : List Int) : (padL xs).length = 64 * ((padL xs).length / 64) := by
  rw [padL_len]
  have := padEnd_at xs.length
  omega

theorem own_less {w : World} {base base' n size : Nat} {e : TypeId} {v : Value} {vs : List Value} (h : w.ownsRow base e size v n vs) (hb : base' ≤ base) : w.ownsRow base' e size v n vs := by
  refine ⟨h.1, ?_⟩
  rcases h.2 with h2 | ⟨g, cap, cur, hv, hg, r⟩
  · exact .inl h2
  · exact .inr ⟨g, cap, cur, hv, by omega, r⟩

end Go.Proofs.Ytpnpjngaenlciaa
