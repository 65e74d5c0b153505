/-
  spec.PutNumber, impl.putWord, impl.PutNumber.
-/
import Derived.Test.YtjdkaaepbkkchaaDoorPut
import Derived.Test.YtjdkaaepbkkchaaDoorOut
namespace Go.Proofs.YtjdkaaepbkkchaaDoor
open Go.RowKit
set_option linter.unusedVariables false
set_option maxRecDepth 100000

theorem sh_pow (n : Int) (t : Nat) : sh n t = n / 2 ^ (8 * t) := by
  unfold sh
  rw [Int.pow_mul]
  rfl
/-- Does n fit into so many bytes? -/
def PutOk (n sz : Int) : Prop := 1 ≤ sz ∧ sz ≤ 7 ∧ 0 ≤ n ∧ sh n sz.toNat = 0
instance (n sz : Int) : Decidable (PutOk n sz) := by unfold PutOk; infer_instance
def putCode (n sz : Int) : Int := if PutOk n sz then 0 else 3
def putLen (n sz : Int) : Nat := if PutOk n sz then sz.toNat else 0
theorem putCode_ok {n sz : Int} (h : PutOk n sz) : putCode n sz = 0 := if_pos h
theorem putLen_ok {n sz : Int} (h : PutOk n sz) : putLen n sz = sz.toNat := if_pos h
theorem putCode_no {n sz : Int} (h : ¬ PutOk n sz) : putCode n sz = 3 := if_neg h
theorem putLen_no {n sz : Int} (h : ¬ PutOk n sz) : putLen n sz = 0 := if_neg h
theorem putLen_le (n sz : Int) : putLen n sz ≤ 7 := by
  by_cases h : PutOk n sz
  · rw [putLen_ok h]; have := h.1; have := h.2.1; omega
  · rw [putLen_no h]; omega

set_option maxHeartbeats 400000 in
theorem l1In_any (v a b : Int) (w : World) (r : Bool) (hr : decide (a ≤ v ∧ v ≤ b) = r) :
    Calls Tryd.prog 65 #[.int .i64 v, .int .i64 a, .int .i64 b] w fun e w' => e = .returned (.bool r) ∧ w = w' := by
  subst hr
  by_cases h1 : a ≤ v
  · by_cases h2 : v ≤ b
    · go_enter Tryd.func65, Tryd.ntmps65
      go_wp2_with fail
      go_ret
      exact ⟨by simp [h1, h2], rfl⟩
    · go_enter Tryd.func65, Tryd.ntmps65
      go_wp2_with fail
      go_ret
      exact ⟨by first | rfl | (simp; omega), rfl⟩
  · go_enter Tryd.func65, Tryd.ntmps65
    go_wp2_with fail
    go_ret
    exact ⟨by first | rfl | (simp; omega), rfl⟩


set_option maxHeartbeats 400000 in
theorem putWord_any (n : Int) (s : Nat) (w : World) (h0 : 0 ≤ n) (h1 : n ≤ 9223372036854775807) (hs : s ≤ 7) :
    Calls Tryd.prog 34 #[.int .i64 n, .int .i64 (s : Int)] w fun e w' => ∃ g, e = .returned (.slice (some ⟨g, 0, none⟩) s s) ∧ Wr w' w.heap.size w'.heap.size (some ⟨g, 0, none⟩) s (digs n s) ∧ Below w.heap.size w w' := by
  have hmk := run_make_u8 s (by omega)
  go_enter Tryd.func34, Tryd.ntmps34
  go_wp2_with fail
  go_loopw [11] (fun i wr => ∃ t r : Nat, t + r = s ∧ i = .int .i64 (t : Int) ∧ FillB wr w.heap.size s r (digs n s) ∧ Below w.heap.size w wr) (fun i _ => s - (intOf i).toNat)
  case atStart => exact ⟨0, s, by omega, rfl, FillB.start w _ _ (size_madeCells _ _) _, (Below.refl _ _).alloc (Nat.le_refl _) _⟩
  case round =>
    obtain ⟨t, r, htr, rfl, hf, hb⟩ := hrel
    rcases r with _ | k
    · have hlt := hf.full.lt
      have hts : ¬ (t : Int) < (s : Int) := by omega
      go_wp2_with fail
      go_ret
      exact ⟨_, rfl, hf.full.done (digs_len _ _) (by unfold maxLen; omega) (digs_byte _ _) (Nat.le_refl _) hlt (Nat.le_refl _), hb⟩
    · obtain ⟨v, hv⟩ := hf.cell (show k < s by omega)
      have hz := hf.frozen k
      have hst := hf.step (by omega)
      rw [digs_at n s k (by omega), show s - 1 - k = t from by omega] at hst
      rw [sh_pow] at hst
      have hb2 := hb.setCell (p := ⟨w.heap.size, k, none⟩) (Nat.le_refl _) (.int .u8 (n / 2 ^ (8 * t) % 256))
      have hk : k = s - 1 - t := by omega
      have HF' : FillB (wr.setCell ⟨w.heap.size, s - 1 - t, none⟩ (.int .u8 (n / 2 ^ (8 * t) % 256))) w.heap.size s k (digs n s) := by rw [← hk]; exact hst
      have HB' : Below w.heap.size w (wr.setCell ⟨w.heap.size, s - 1 - t, none⟩ (.int .u8 (n / 2 ^ (8 * t) % 256))) := by rw [← hk]; exact hb2
      rw [hk] at hv hz
      have HF := Lib.hid HF'
      have HB := Lib.hid HB'
      have hts : (t : Int) < (s : Int) := by omega
      clear hst hb2 hf hb hmk HF' HB' hk
      go_wp2_with fail
      go_roundw
      case rel => exact ⟨t + 1, k, by omega, by go_num, HF.out, HB.out⟩
      case measure => simp [intOf]; omega

theorem put_bound (n : Int) (s : Nat) (h1 : 1 ≤ s) (h7 : s ≤ 7) : (n < 0 ∨ wrap64 (wrap64 (2 ^ (8 * s)) - 1) < n) ↔ ¬ (0 ≤ n ∧ sh n s = 0) := by
  have : s = 1 ∨ s = 2 ∨ s = 3 ∨ s = 4 ∨ s = 5 ∨ s = 6 ∨ s = 7 := by omega
  rcases this with h | h | h | h | h | h | h <;> subst h <;> simp only [sh, wrap64, Nat.reduceMul, Int.reducePow] <;> omega

end Go.Proofs.YtjdkaaepbkkchaaDoor
