/-
  l1Mix, spec.MixBytes, impl.MixBytes.
-/
import Derived.Test.YtjdkaaepbkkchaaDoorOut
import Derived.OpenShut
import Derived.StillTactics
import Derived.Laws.Pointers
import Derived.Deep.RegionHeld3
import Derived.Deep.AppendLies
namespace Go.Proofs.YtjdkaaepbkkchaaDoor
open Go.RowKit
set_option linter.unusedVariables false
set_option maxRecDepth 100000

/-- Byte by byte: xor. -/
def mixAt (xs ys : List Int) (j : Nat) : Int := bits .xor .u8 (xs.getD j 0) (ys.getD j 0)
def mix (n : Nat) (xs ys : List Int) : List Int := (List.range n).map (mixAt xs ys)
theorem mix_len (n : Nat) (xs ys : List Int) : (mix n xs ys).length = n := by simp [mix]
theorem mix_snoc (n : Nat) (xs ys : List Int) : mix (n + 1) xs ys = mix n xs ys ++ [mixAt xs ys n] := by simp [mix, List.range_succ]
theorem mix_getD (n : Nat) (xs ys : List Int) (j : Nat) (h : j < n) : (mix n xs ys).getD j 0 = mixAt xs ys j := by
  simp [mix, List.getD_eq_getElem?_getD, h]
theorem mixAt_byte (xs ys : List Int) (j : Nat) : 0 ≤ mixAt xs ys j ∧ mixAt xs ys j ≤ 255 := by
  have := wf_bits .xor .u8 (xs.getD j 0) (ys.getD j 0)
  simpa [mixAt, Lit.wf, IntKind.min, IntKind.max, IntKind.signed, IntKind.bits] using this
theorem mix_byte (n : Nat) (xs ys : List Int) : ∀ x ∈ mix n xs ys, 0 ≤ x ∧ x ≤ 255 := by
  intro x hx
  simp only [mix, List.mem_map] at hx
  obtain ⟨j, _, rfl⟩ := hx
  exact mixAt_byte xs ys j

theorem own_le {w : World} {base n c g : Nat} {e : TypeId} {vs : List Value} (h : w.ownsRow base e 1 (.slice (some ⟨g, 0, none⟩) n c) n vs) : n ≤ c := by
  rcases h.2 with ⟨hv, _⟩ | ⟨_, cap, _, hv, _, _, hnc, _⟩
  · cases hv
  · injection hv with _ _ e
    omega

theorem info_u8' : (Tryd.prog.info? 5).map (fun i => (i.zero, i.size, i.bytes)) = some (some (.int .u8 0), 1, 1) := by kernel_rfl


/-- What MixBytes answers: its code, how many bytes, the bytes. -/
def mixCode (n m : Nat) : Int := if m < n ∨ 300 < n then 2 else 0
def mixLen (n m : Nat) : Nat := if m < n ∨ 300 < n then 0 else n
theorem mixCode_bad {n m : Nat} (h : m < n ∨ 300 < n) : mixCode n m = 2 := if_pos h
theorem mixLen_bad {n m : Nat} (h : m < n ∨ 300 < n) : mixLen n m = 0 := if_pos h
theorem mixCode_good {n m : Nat} (h : ¬ (m < n ∨ 300 < n)) : mixCode n m = 0 := if_neg h
theorem mixLen_good {n m : Nat} (h : ¬ (m < n ∨ 300 < n)) : mixLen n m = n := if_neg h

end Go.Proofs.YtjdkaaepbkkchaaDoor
