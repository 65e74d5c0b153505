/-
  Numbers into bytes: l1High, spec.PutNumber.
-/
import Derived.Test.YtjdkaaepbkkchaaDoorBase
namespace Go.Proofs.YtjdkaaepbkkchaaDoor
open Go.RowKit
set_option linter.unusedVariables false
set_option maxRecDepth 100000

/-- What is left of n behind t divisions by 256. -/
def sh (n : Int) (t : Nat) : Int := n / 256 ^ t
theorem sh_zero (n : Int) : sh n 0 = n := by simp [sh]
theorem sh_succ (n : Int) (t : Nat) : sh n (t + 1) = sh n t / 256 := by
  unfold sh
  rw [Int.pow_succ, Int.ediv_ediv_of_nonneg (Int.pow_nonneg (by decide))]
theorem sh_nonneg (n : Int) (t : Nat) (h : 0 ≤ n) : 0 ≤ sh n t := Int.ediv_nonneg h (Int.pow_nonneg (by decide))
theorem sh_le (n : Int) (t : Nat) (h : 0 ≤ n) : sh n t ≤ n := by
  induction t with
  | zero => rw [sh_zero]; exact Int.le_refl _
  | succ t ih => rw [sh_succ]; have := sh_nonneg n t h; omega

/-- The s bytes of n, the highest one first. -/
def digs (n : Int) (s : Nat) : List Int := (List.range s).map fun (j : Nat) => sh n (s - 1 - j) % 256
theorem digs_len (n : Int) (s : Nat) : (digs n s).length = s := by simp [digs]
theorem digs_at (n : Int) (s j : Nat) (h : j < s) : (digs n s).getD j 0 = sh n (s - 1 - j) % 256 := by
  simp [digs, List.getD_eq_getElem?_getD, h]
theorem digs_byte (n : Int) (s : Nat) : ∀ x ∈ digs n s, 0 ≤ x ∧ x ≤ 255 := by
  intro x hx
  simp only [digs, List.mem_map] at hx
  obtain ⟨j, _, rfl⟩ := hx
  omega

set_option maxHeartbeats 400000 in
theorem l1High_any (n : Int) (s : Nat) (w : World) (h0 : 0 ≤ n) (h1 : n ≤ 9223372036854775807) (hs : s ≤ 7) :
    Calls Tryd.prog 68 #[.int .i64 n, .int .i64 (s : Int)] w fun e w' => ∃ g, e = .returned (.slice (some ⟨g, 0, none⟩) s s) ∧ Wr w' w.heap.size w'.heap.size (some ⟨g, 0, none⟩) s (digs n s) ∧ Below w.heap.size w w' := by
  have hmk := run_make_u8 s (by omega)
  go_enter Tryd.func68, Tryd.ntmps68
  go_wp2_with fail
  go_loopw [0, 6] (fun a i wr => ∃ r : Nat, r ≤ s ∧ i = .int .i64 ((r : Int) - 1) ∧ a = .int .i64 (sh n (s - r)) ∧ FillB wr w.heap.size s r (digs n s) ∧ Below w.heap.size w wr) (fun _ i _ => (intOf i + 1).toNat)
  case atStart => exact ⟨s, Nat.le_refl _, rfl, by rw [Nat.sub_self, sh_zero], FillB.start w _ _ (size_madeCells _ _) _, (Below.refl _ _).alloc (Nat.le_refl _) _⟩
  case round =>
    obtain ⟨r, hr, rfl, rfl, hf, hb⟩ := hrel
    rcases r with _ | k
    · have hlt := hf.full.lt
      go_wp2_with fail
      go_ret
      exact ⟨_, rfl, hf.full.done (digs_len _ _) (by unfold maxLen; omega) (digs_byte _ _) (Nat.le_refl _) hlt (Nat.le_refl _), hb⟩
    · obtain ⟨v, hv⟩ := hf.cell (show k < s by omega)
      have hz := hf.frozen k
      have hst := hf.step (by omega)
      rw [digs_at n s k (by omega), show s - 1 - k = s - (k + 1) from by omega] at hst
      have hb2 := hb.setCell (p := ⟨w.heap.size, k, none⟩) (Nat.le_refl _) (.int .u8 (sh n (s - (k + 1)) % 256))
      have HS : Hid (sh n (s - k) = sh n (s - (k + 1)) / 256) := by
        show _ = _
        rw [show s - k = s - (k + 1) + 1 from by omega, sh_succ]
      have d0 := sh_nonneg n (s - (k + 1)) h0
      have d1 := sh_le n (s - (k + 1)) h0
      generalize sh n (s - (k + 1)) = d at *
      rw [show (((k + 1 : Nat) : Int) - 1) = (k : Int) from by omega]
      have HF := Lib.hid hst
      have HB := Lib.hid hb2
      have hks : (k : Int) < (s : Int) := by omega
      clear hst hb2 hf hb hmk
      go_wp2_with fail
      go_roundw
      case rel => exact ⟨k, by omega, rfl, by rw [HS.out], HF.out, HB.out⟩
      case measure => simp [intOf]
end Go.Proofs.YtjdkaaepbkkchaaDoor
