/-
  Padding: l2Pad.
-/
import Derived.Test.YtpnpjngaenlciaaH3
import Derived.Test.YtpnpjngaenlciaaPut
import Derived.Test.YtpnpjngaenlciaaDraw
namespace Go.Proofs.Ytpnpjngaenlciaa
open Go.RowKit
set_option linter.unusedVariables false
set_option maxRecDepth 100000

/-- How long all is ahead of the eight bytes of the length. -/
def padEnd (n : Nat) : Nat := n + 1 + (119 - n % 64) % 64
/-- The bytes, a byte 128, zeros up to L. -/
def pads (xs : List Int) (L : Nat) : List Int := xs ++ 128 :: List.replicate (L - (xs.length + 1)) 0
def padL (xs : List Int) : List Int := pads xs (padEnd xs.length) ++ 0 :: digs (8 * (xs.length : Int)) 7
theorem pads_len (xs : List Int) (L : Nat) (h : xs.length + 1 ≤ L) : (pads xs L).length = L := by simp [pads]; omega
theorem pads_step (xs : List Int) (L : Nat) (h : xs.length + 1 ≤ L) : pads xs (L + 1) = pads xs L ++ [0] := by
  unfold pads
  rw [show L + 1 - (xs.length + 1) = L - (xs.length + 1) + 1 from by omega, List.replicate_succ']
  simp
theorem pads_first (xs : List Int) : pads xs (xs.length + 1) = xs ++ [128] := by simp [pads]
theorem padEnd_ge (n : Nat) : n + 1 ≤ padEnd n := by unfold padEnd; omega
theorem padEnd_le (n : Nat) : padEnd n ≤ n + 64 := by unfold padEnd; omega
theorem padEnd_at (n : Nat) : padEnd n % 64 = 56 := by unfold padEnd; omega
theorem padEnd_not (n L : Nat) (h1 : n + 1 ≤ L) (h2 : L < padEnd n) : L % 64 ≠ 56 := by unfold padEnd at h2; omega
theorem padL_len (xs : List Int) : (padL xs).length = padEnd xs.length + 8 := by
  unfold padL
  rw [List.length_append, pads_len xs _ (padEnd_ge _), List.length_cons, digs_len]
theorem padL_byte (xs : List Int) (hb : ∀ x ∈ xs, 0 ≤ x ∧ x ≤ 255) : ∀ x ∈ padL xs, 0 ≤ x ∧ x ≤ 255 := by
  intro x hx
  unfold padL pads at hx
  rcases List.mem_append.1 hx with hx | hx
  · rcases List.mem_append.1 hx with hx | hx
    · exact hb x hx
    · rcases List.mem_cons.1 hx with hx | hx
      · omega
      · have := List.eq_of_mem_replicate hx; omega
  · rcases List.mem_cons.1 hx with hx | hx
    · omega
    · exact digs_byte _ _ x hx
theorem ret_slice {A : Option Addr} {a b c : Nat} (h : a = b) : Ending.returned (.slice A a c) = .returned (.slice A b c) := by rw [h]
/-- How long a slice is. -/
def lenOf : Value → Nat | .slice _ n _ => n | _ => 0

/-- Padded. -/
def Padded (w : World) (ps : List Int) (e : Ending) (w' : World) : Prop :=
  ∃ g cap, e = .returned (.slice (some ⟨g, 0, none⟩) ps.length cap) ∧ ps.length ≤ cap ∧ w'.ownsRow w.heap.size 5 1 (.slice (some ⟨g, 0, none⟩) ps.length cap) ps.length (ps.map (Value.int .u8)) ∧ Below w.heap.size w w'

theorem own_cap {w : World} {base n c g : Nat} {e : TypeId} {vs : List Value} (h : w.ownsRow base e 1 (.slice (some ⟨g, 0, none⟩) n c) n vs) : n ≤ c := by
  rcases h.2 with ⟨hv, _⟩ | ⟨_, cap, _, hv, _, _, hnc, _⟩
  · cases hv
  · injection hv with _ _ e
    omega

end Go.Proofs.Ytpnpjngaenlciaa
