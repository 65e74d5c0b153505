/-
  impl.MixBytes.
-/
import Derived.Test.YtpnpjngaenlciaaDoorMix
namespace Go.Proofs.YtpnpjngaenlciaaDoor
open Go.RowKit
set_option linter.unusedVariables false
set_option maxRecDepth 100000

set_option maxHeartbeats 1000000 in
theorem implMix_some (A A' : Option Addr) (n c m c' lo hi lo' hi' : Nat) (xs ys : List Int) (w : World) (h : Rd w lo hi A n xs) (h' : Rd w lo' hi' A' m ys) (hbad : ¬ (m < n ∨ 300 < n)) :
    Calls Tryd.prog 63 #[.slice A n c, .slice A' m c'] w fun e w' => ∃ g, e = .returned (.agg #[.int .i64 0, .slice (some ⟨g, 0, none⟩) n n]) ∧ Wr w' w.heap.size w'.heap.size (some ⟨g, 0, none⟩) n (mix n xs ys) ∧ Below w.heap.size w w' := by
  have hint := h.int
  have hint' := h'.int
  have b1 : ¬ m < n := by omega
  have b2 : ¬ 300 < n := by omega
  have hmk := run_make_u8 n (by omega)
  go_enter Tryd.func63, Tryd.ntmps63
  go_wp2_with fail
  go_loopw [23] (fun i wr => ∃ k : Nat, k ≤ n ∧ i = .int .i64 k ∧ Fill wr (w.heap.size + 1) n k (mix n xs ys) ∧ Below (w.heap.size + 1) (w.alloc (.cells #[.int .i64 0, .slice none 0 0] 27)) wr) (fun i _ => n - (intOf i).toNat)
  case atStart =>
    refine ⟨0, Nat.zero_le _, rfl, ?_, ?_⟩
    · have := Fill.start (n := n) (w.alloc (.cells #[.int .i64 0, .slice none 0 0] 27)) (madeCells #[.int .u8 0] n) 5 (size_madeCells _ _) (mix n xs ys)
      simpa using this
    · exact (Below.refl _ _).alloc (by simp) _
  case round =>
    obtain ⟨k, hk, rfl, hf, hb⟩ := hrel
    by_cases hlt : k < n
    · obtain ⟨b, off, rfl, h1, h2, hc⟩ := h.at_ (by omega)
      obtain ⟨b', off', rfl, h1', h2', hc'⟩ := h'.at_ (by omega)
      have htop := h.top
      have htop' := h'.top
      have hbw : Below w.heap.size w wr := ((Below.refl _ w).alloc (Nat.le_refl _) _).trans (hb.mono (by omega))
      have q1 := (hbw.cell (p := ⟨b, off + k, none⟩) (by show b < _; omega)).trans (hc k hlt)
      have q2 := (hbw.cell (p := ⟨b', off' + k, none⟩) (by show b' < _; omega)).trans (hc' k (by omega))
      obtain ⟨v, hv⟩ := hf.cell hlt
      have hz := hf.frozen k
      have hs := hf.step hlt
      rw [mix_getD n xs ys k hlt] at hs
      have HV : Hid (mixAt xs ys k = bits .xor .u8 (xs.getD k 0) (ys.getD k 0)) := rfl
      rw [HV.out] at hs
      have hb2 : Below (w.heap.size + 1) (w.alloc (.cells #[.int .i64 0, .slice none 0 0] 27)) (wr.setCell ⟨w.heap.size + 1, k, none⟩ (.int .u8 (bits .xor .u8 (xs.getD k 0) (ys.getD k 0)))) := hb.setCell (Nat.le_refl _) _
      generalize xs.getD k 0 = x at q1 HV hs hb2
      generalize ys.getD k 0 = y at q2 HV hs hb2
      have i1 : (k : Int) < (n : Int) := by omega
      have i2 : (k : Int) < (m : Int) := by omega
      have i0' : (0 : Int) ≤ (k : Int) := by omega
      have n1 : b ≠ w.heap.size + 1 := by omega
      have n2 : b' ≠ w.heap.size + 1 := by omega
      have HF := Lib.hid hs
      have HB := Lib.hid hb2
      clear hs hb2 hf hb hc hc' hmk h h' hbw HV
      go_wp2_with fail
      go_region
      go_wp2_with fail
      go_roundw
      case rel => exact ⟨k + 1, by omega, by go_num, by exact HF.out, by exact HB.out.drew⟩
      case measure => simp [intOf]; omega
    · obtain rfl : k = n := by omega
      have hb1 : Below (w.alloc (.cells #[.int .i64 0, .slice none 0 0] 27)).heap.size (w.alloc (.cells #[.int .i64 0, .slice none 0 0] 27)) wr := by simpa using hb
      obtain ⟨d0, d1, f0, f1, hbb, hz⟩ := res_cells hb1
      have hlt' := hf.lt
      have hw := hf.done (mix_len _ _ _) h.max (mix_byte _ _ _) (Nat.le_refl _) hlt' (Nat.le_refl _)
      obtain ⟨e0, e1⟩ := two_cells d0 d1 (.int .i64 0) (.slice (some ⟨w.heap.size + 1, 0, none⟩) k k)
      obtain ⟨r2, hb2⟩ := res_done hbb hz (.int .i64 0) (.slice (some ⟨w.heap.size + 1, 0, none⟩) k k) hw (by omega)
      clear hb1 hw hb hbb hf h h' hmk
      go_wp2_with fail
      exact bodyPost_ret (v := .agg #[.int .i64 0, .slice (some ⟨w.heap.size + 1, 0, none⟩) k k]) (by simp [results, Tryd.results63, go_sem, e0, e1]) rfl ⟨w.heap.size + 1, rfl, r2, hb2⟩

set_option maxHeartbeats 1000000 in
theorem implMix_any (A A' : Option Addr) (n c m c' lo hi lo' hi' : Nat) (xs ys : List Int) (w : World) (h : Rd w lo hi A n xs) (h' : Rd w lo' hi' A' m ys) :
    Calls Tryd.prog 63 #[.slice A n c, .slice A' m c'] w fun e w' => ∃ G cap, e = .returned (.agg #[.int .i64 (mixCode n m), .slice G (mixLen n m) cap]) ∧ Wr w' w.heap.size w'.heap.size G (mixLen n m) (mix (mixLen n m) xs ys) ∧ Below w.heap.size w w' := by
  have hint := h.int
  have hint' := h'.int
  by_cases hbad : m < n ∨ 300 < n
  · rw [mixCode_bad hbad, mixLen_bad hbad]
    rcases hbad with hbad | hbad
    · go_enter Tryd.func63, Tryd.ntmps63
      go_wp2_with fail
      go_returns
      exact ⟨none, 0, rfl, Wr.empty_top _ none, by go_grown⟩
    · by_cases h2 : m < n
      all_goals
        go_enter Tryd.func63, Tryd.ntmps63
        go_wp2_with fail
        go_returns
        exact ⟨none, 0, rfl, Wr.empty_top _ none, by go_grown⟩
  · rw [mixCode_good hbad, mixLen_good hbad]
    exact (implMix_some A A' n c m c' lo hi lo' hi' xs ys w h h' hbad).mono fun e w' ⟨g, he, hw, hb⟩ => ⟨some ⟨g, 0, none⟩, n, he, hw, hb⟩
end Go.Proofs.YtpnpjngaenlciaaDoor
