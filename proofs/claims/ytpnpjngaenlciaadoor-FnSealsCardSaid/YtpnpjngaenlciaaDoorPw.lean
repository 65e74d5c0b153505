/-
  impl.putWord at its other instances: the highest byte first.
-/
import Derived.Test.YtpnpjngaenlciaaDoorPut2
namespace Go.Proofs.YtpnpjngaenlciaaDoor
open Go.RowKit
set_option linter.unusedVariables false
set_option maxRecDepth 100000

set_option maxHeartbeats 400000 in
theorem putWord64_any (n : Int) (s : Nat) (w : World) (h0 : 0 ≤ n) (h1 : n ≤ 18446744073709551615) (hs : s ≤ 8) :
    Calls Tryd.prog 86 #[.int .u64 n, .int .i64 (s : Int)] w fun e w' => ∃ g, e = .returned (.slice (some ⟨g, 0, none⟩) s s) ∧ Wr w' w.heap.size w'.heap.size (some ⟨g, 0, none⟩) s (digs n s) ∧ Below w.heap.size w w' := by
  have hmk := run_make_u8 s (by omega)
  go_enter Tryd.func86, Tryd.ntmps86
  go_wp2_with fail
  go_loopw [11] (fun i wr => ∃ t r : Nat, t + r = s ∧ i = .int .i64 (t : Int) ∧ FillB wr w.heap.size s r (digs n s) ∧ Below w.heap.size w wr) (fun i _ => s - (intOf i).toNat)
  case atStart => exact ⟨0, s, by omega, rfl, FillB.start w _ _ (size_madeCells _ _) _, (Below.refl _ _).alloc (Nat.le_refl _) _⟩
  case round =>
    obtain ⟨t, r, htr, rfl, hf, hb⟩ := hrel
    rcases r with _ | k
    · have hlt := hf.full.lt
      have hts : ¬ (t : Int) < (s : Int) := by omega
      go_wp2_with fail
      go_ret
      exact ⟨_, rfl, hf.full.done (digs_len _ _) (by unfold maxLen; omega) (digs_byte _ _) (Nat.le_refl _) hlt (Nat.le_refl _), hb⟩
    · obtain ⟨v, hv⟩ := hf.cell (show k < s by omega)
      have hz := hf.frozen k
      have hst := hf.step (by omega)
      rw [digs_at n s k (by omega), show s - 1 - k = t from by omega] at hst
      rw [sh_pow] at hst
      have hb2 := hb.setCell (p := ⟨w.heap.size, k, none⟩) (Nat.le_refl _) (.int .u8 (n / 2 ^ (8 * t) % 256))
      have hk : k = s - 1 - t := by omega
      have HF' : FillB (wr.setCell ⟨w.heap.size, s - 1 - t, none⟩ (.int .u8 (n / 2 ^ (8 * t) % 256))) w.heap.size s k (digs n s) := by rw [← hk]; exact hst
      have HB' : Below w.heap.size w (wr.setCell ⟨w.heap.size, s - 1 - t, none⟩ (.int .u8 (n / 2 ^ (8 * t) % 256))) := by rw [← hk]; exact hb2
      rw [hk] at hv hz
      have HF := Lib.hid HF'
      have HB := Lib.hid HB'
      have hts : (t : Int) < (s : Int) := by omega
      clear hst hb2 hf hb hmk HF' HB' hk
      go_wp2_with fail
      go_roundw
      case rel => exact ⟨t + 1, k, by omega, by go_num, HF.out, HB.out⟩
      case measure => simp [intOf]; omega
set_option maxHeartbeats 400000 in
theorem putWord32_any (n : Int) (s : Nat) (w : World) (h0 : 0 ≤ n) (h1 : n ≤ 4294967295) (hs : s ≤ 4) :
    Calls Tryd.prog 81 #[.int .u32 n, .int .i64 (s : Int)] w fun e w' => ∃ g, e = .returned (.slice (some ⟨g, 0, none⟩) s s) ∧ Wr w' w.heap.size w'.heap.size (some ⟨g, 0, none⟩) s (digs n s) ∧ Below w.heap.size w w' := by
  have hmk := run_make_u8 s (by omega)
  go_enter Tryd.func81, Tryd.ntmps81
  go_wp2_with fail
  go_loopw [11] (fun i wr => ∃ t r : Nat, t + r = s ∧ i = .int .i64 (t : Int) ∧ FillB wr w.heap.size s r (digs n s) ∧ Below w.heap.size w wr) (fun i _ => s - (intOf i).toNat)
  case atStart => exact ⟨0, s, by omega, rfl, FillB.start w _ _ (size_madeCells _ _) _, (Below.refl _ _).alloc (Nat.le_refl _) _⟩
  case round =>
    obtain ⟨t, r, htr, rfl, hf, hb⟩ := hrel
    rcases r with _ | k
    · have hlt := hf.full.lt
      have hts : ¬ (t : Int) < (s : Int) := by omega
      go_wp2_with fail
      go_ret
      exact ⟨_, rfl, hf.full.done (digs_len _ _) (by unfold maxLen; omega) (digs_byte _ _) (Nat.le_refl _) hlt (Nat.le_refl _), hb⟩
    · obtain ⟨v, hv⟩ := hf.cell (show k < s by omega)
      have hz := hf.frozen k
      have hst := hf.step (by omega)
      rw [digs_at n s k (by omega), show s - 1 - k = t from by omega] at hst
      rw [sh_pow] at hst
      have hb2 := hb.setCell (p := ⟨w.heap.size, k, none⟩) (Nat.le_refl _) (.int .u8 (n / 2 ^ (8 * t) % 256))
      have hk : k = s - 1 - t := by omega
      have HF' : FillB (wr.setCell ⟨w.heap.size, s - 1 - t, none⟩ (.int .u8 (n / 2 ^ (8 * t) % 256))) w.heap.size s k (digs n s) := by rw [← hk]; exact hst
      have HB' : Below w.heap.size w (wr.setCell ⟨w.heap.size, s - 1 - t, none⟩ (.int .u8 (n / 2 ^ (8 * t) % 256))) := by rw [← hk]; exact hb2
      rw [hk] at hv hz
      have HF := Lib.hid HF'
      have HB := Lib.hid HB'
      have hts : (t : Int) < (s : Int) := by omega
      clear hst hb2 hf hb hmk HF' HB' hk
      go_wp2_with fail
      go_roundw
      case rel => exact ⟨t + 1, k, by omega, by go_num, HF.out, HB.out⟩
      case measure => simp [intOf]; omega
end Go.Proofs.YtpnpjngaenlciaaDoor
