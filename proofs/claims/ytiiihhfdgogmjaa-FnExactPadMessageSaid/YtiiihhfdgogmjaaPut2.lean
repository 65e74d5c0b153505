/-
  spec.PutNumber, impl.putWord, impl.PutNumber.
-/
import Derived.Test.YtiiihhfdgogmjaaPut
import Derived.Test.YtiiihhfdgogmjaaOut
namespace Go.Proofs.Ytiiihhfdgogmjaa
open Go.RowKit
set_option linter.unusedVariables false

theorem sh_pow (n : Int) (t : Nat) : sh n t = n / 2 ^ (8 * t) := by
  unfold sh
  rw [Int.pow_mul]
  rfl
/-- Does n fit into so many bytes? -/
def PutOk (n sz : Int) : Prop := 1 ≤ sz ∧ sz ≤ 7 ∧ 0 ≤ n ∧ sh n sz.toNat = 0
instance (n sz : Int) : Decidable (PutOk n sz) := by unfold PutOk; infer_instance
def putCode (n sz : Int) : Int := if PutOk n sz then 0 else 3
def putLen (n sz : Int) : Nat := if PutOk n sz then sz.toNat else 0
theorem putCode_ok {n sz : Int} (h : PutOk n sz) : putCode n sz = 0 := if_pos h
theorem putLen_ok {n sz : Int} (h : PutOk n sz) : putLen n sz = sz.toNat := if_pos h
theorem putCode_no {n sz : Int} (h : ¬ PutOk n sz) : putCode n sz = 3 := if_neg h
theorem putLen_no {n sz : Int} (h : ¬ PutOk n sz) : putLen n sz = 0 := if_neg h
theorem putLen_le (n sz : Int) : putLen n sz ≤ 7 := by
  by_cases h : PutOk n sz
  · rw [putLen_ok h]; have := h.1; have := h.2.1; omega
  · rw [putLen_no h]; omega

set_option maxHeartbeats 400000 in
theorem l1In_any (v a b : Int) (w : World) (r : Bool) (hr : decide (a ≤ v ∧ v ≤ b) = r) :
    Calls Try.prog 41 #[.int .i64 v, .int .i64 a, .int .i64 b] w fun e w' => e = .returned (.bool r) ∧ w = w' := by
  subst hr
  by_cases h1 : a ≤ v
  · by_cases h2 : v ≤ b
    · go_enter Try.func41, Try.ntmps41
      go_wp2_with fail
      go_ret
      exact ⟨by simp [h1, h2], rfl⟩
    · go_enter Try.func41, Try.ntmps41
      go_wp2_with fail
      go_ret
      exact ⟨by first | rfl | (simp; omega), rfl⟩
  · go_enter Try.func41, Try.ntmps41
    go_wp2_with fail
    go_ret
    exact ⟨by first | rfl | (simp; omega), rfl⟩

set_option maxHeartbeats 400000 in
theorem specPut_any (n sz : Int) (w : World) (hn : -9223372036854775808 ≤ n ∧ n ≤ 9223372036854775807) (hsz : -9223372036854775808 ≤ sz ∧ sz ≤ 9223372036854775807) :
    Calls Try.prog 18 #[.int .i64 n, .int .i64 sz] w fun e w' => ∃ G cap, e = .returned (.agg #[.int .i64 (putCode n sz), .slice G (putLen n sz) cap]) ∧ Wr w' w.heap.size w'.heap.size G (putLen n sz) (digs n (putLen n sz)) ∧ Below w.heap.size w w' := by
  by_cases hs : 1 ≤ sz ∧ sz ≤ 7
  · by_cases h0 : 0 ≤ n
    · obtain ⟨s, rfl⟩ := Int.eq_ofNat_of_zero_le (show 0 ≤ sz by omega)
      by_cases hz : sh n s = 0
      · have hok : PutOk n s := ⟨hs.1, hs.2, h0, by simpa using hz⟩
        rw [putCode_ok hok, putLen_ok hok, Int.toNat_natCast]
        have HZ := Lib.hid hz
        clear hz
        go_enter Try.func18, Try.ntmps18
        go_wp2_with fail
        refine (l1In_any (s : Int) 1 7 _ true (by simpa using hs)).mono ?_
        rintro e w1 ⟨rfl, rfl⟩
        have hnn : ¬ n < 0 := by omega
        go_wp2_with fail
        go_loop [5, 6] (fun a i => ∃ t : Nat, t ≤ s ∧ i = .int .i64 (t : Int) ∧ a = .int .i64 (sh n t)) (fun _ i => s - (intOf i).toNat)
        case atStart => exact ⟨0, Nat.zero_le _, rfl, by rw [sh_zero]⟩
        case round =>
          obtain ⟨t, ht, rfl, rfl⟩ := hrel
          have d0 := sh_nonneg n t h0
          have d1 := sh_le n t h0
          by_cases hts : (t : Int) < (s : Int)
          · have HS := Lib.hid (sh_succ n t)
            generalize sh n t = d at *
            go_wp2_with fail
            go_round
            case rel => exact ⟨t + 1, by omega, by go_num, by rw [HS.out]⟩
            case measure => simp [intOf]; omega
          · obtain rfl : t = s := by omega
            have hzz : (sh n t != 0) = false := by simp [HZ.out]
            generalize sh n t = d at *
            go_wp2_with fail
            refine (l1High_any n t _ h0 (by omega) (by omega)).mono ?_
            rintro e w1 ⟨g, rfl, hw1, hb1⟩
            obtain ⟨c0, c1, f0, f1, hb, hz⟩ := res_cells hb1
            obtain ⟨e0, e1⟩ := two_cells c0 c1 (.int .i64 0) (.slice (some ⟨g, 0, none⟩) t t)
            obtain ⟨r2, hb2⟩ := res_done hb hz (.int .i64 0) (.slice (some ⟨g, 0, none⟩) t t) hw1 (by simp)
            clear hb1 hw1 hb
            go_wp2_with fail
            exact bodyPost_ret (v := .agg #[.int .i64 0, .slice (some ⟨g, 0, none⟩) t t]) (by simp [results, Try.results18, go_sem, e0, e1]) rfl ⟨some ⟨g, 0, none⟩, t, rfl, r2, hb2⟩
      · have hno : ¬ PutOk n s := fun h => hz (by simpa using h.2.2.2)
        rw [putCode_no hno, putLen_no hno]
        have HZ := Lib.hid hz
        clear hz
        go_enter Try.func18, Try.ntmps18
        go_wp2_with fail
        refine (l1In_any (s : Int) 1 7 _ true (by simpa using hs)).mono ?_
        rintro e w1 ⟨rfl, rfl⟩
        have hnn : ¬ n < 0 := by omega
        go_wp2_with fail
        go_loop [5, 6] (fun a i => ∃ t : Nat, t ≤ s ∧ i = .int .i64 (t : Int) ∧ a = .int .i64 (sh n t)) (fun _ i => s - (intOf i).toNat)
        case atStart => exact ⟨0, Nat.zero_le _, rfl, by rw [sh_zero]⟩
        case round =>
          obtain ⟨t, ht, rfl, rfl⟩ := hrel
          have d0 := sh_nonneg n t h0
          have d1 := sh_le n t h0
          by_cases hts : (t : Int) < (s : Int)
          · have HS := Lib.hid (sh_succ n t)
            generalize sh n t = d at *
            go_wp2_with fail
            go_round
            case rel => exact ⟨t + 1, by omega, by go_num, by rw [HS.out]⟩
            case measure => simp [intOf]; omega
          · obtain rfl : t = s := by omega
            have hzz : (sh n t != 0) = true := by simpa using HZ.out
            generalize sh n t = d at *
            go_wp2_with fail
            go_returns
            exact ⟨none, ⟨0, rfl⟩, Wr.empty_top _ none, by go_grown⟩
    · have hno : ¬ PutOk n sz := fun h => h0 h.2.2.1
      rw [putCode_no hno, putLen_no hno]
      go_enter Try.func18, Try.ntmps18
      go_wp2_with fail
      refine (l1In_any sz 1 7 _ true (by simpa using hs)).mono ?_
      rintro e w1 ⟨rfl, rfl⟩
      go_wp2_with fail
      go_returns
      exact ⟨none, 0, rfl, Wr.empty_top _ none, by go_grown⟩
  · have hno : ¬ PutOk n sz := fun h => hs ⟨h.1, h.2.1⟩
    rw [putCode_no hno, putLen_no hno]
    go_enter Try.func18, Try.ntmps18
    go_wp2_with fail
    refine (l1In_any sz 1 7 _ false (by simpa using hs)).mono ?_
    rintro e w1 ⟨rfl, rfl⟩
    go_wp2_with fail
    go_returns
    exact ⟨none, 0, rfl, Wr.empty_top _ none, by go_grown⟩

set_option maxHeartbeats 400000 in
theorem putWord_any (n : Int) (s : Nat) (w : World) (h0 : 0 ≤ n) (h1 : n ≤ 9223372036854775807) (hs : s ≤ 7) :
    Calls Try.prog 36 #[.int .i64 n, .int .i64 (s : Int)] w fun e w' => ∃ g, e = .returned (.slice (some ⟨g, 0, none⟩) s s) ∧ Wr w' w.heap.size w'.heap.size (some ⟨g, 0, none⟩) s (digs n s) ∧ Below w.heap.size w w' := by
  have hmk := run_make_u8 s (by omega)
  go_enter Try.func36, Try.ntmps36
  go_wp2_with fail
  go_loopw [11] (fun i wr => ∃ t r : Nat, t + r = s ∧ i = .int .i64 (t : Int) ∧ FillB wr w.heap.size s r (digs n s) ∧ Below w.heap.size w wr) (fun i _ => s - (intOf i).toNat)
  case atStart => exact ⟨0, s, by omega, rfl, FillB.start w _ _ (size_madeCells _ _) _, (Below.refl _ _).alloc (Nat.le_refl _) _⟩
  case round =>
    obtain ⟨t, r, htr, rfl, hf, hb⟩ := hrel
    rcases r with _ | k
    · have hlt := hf.full.lt
      have hts : ¬ (t : Int) < (s : Int) := by omega
      go_wp2_with fail
      go_ret
      exact ⟨_, rfl, hf.full.done (digs_len _ _) (by unfold maxLen; omega) (digs_byte _ _) (Nat.le_refl _) hlt (Nat.le_refl _), hb⟩
    · obtain ⟨v, hv⟩ := hf.cell (show k < s by omega)
      have hz := hf.frozen k
      have hst := hf.step (by omega)
      rw [digs_at n s k (by omega), show s - 1 - k = t from by omega] at hst
      rw [sh_pow] at hst
      have hb2 := hb.setCell (p := ⟨w.heap.size, k, none⟩) (Nat.le_refl _) (.int .u8 (n / 2 ^ (8 * t) % 256))
      have hk : k = s - 1 - t := by omega
      have HF' : FillB (wr.setCell ⟨w.heap.size, s - 1 - t, none⟩ (.int .u8 (n / 2 ^ (8 * t) % 256))) w.heap.size s k (digs n s) := by rw [← hk]; exact hst
      have HB' : Below w.heap.size w (wr.setCell ⟨w.heap.size, s - 1 - t, none⟩ (.int .u8 (n / 2 ^ (8 * t) % 256))) := by rw [← hk]; exact hb2
      rw [hk] at hv hz
      have HF := Lib.hid HF'
      have HB := Lib.hid HB'
      have hts : (t : Int) < (s : Int) := by omega
      clear hst hb2 hf hb hmk HF' HB' hk
      go_wp2_with fail
      go_roundw
      case rel => exact ⟨t + 1, k, by omega, by go_num, HF.out, HB.out⟩
      case measure => simp [intOf]; omega

theorem put_bound (n : Int) (s : Nat) (h1 : 1 ≤ s) (h7 : s ≤ 7) : (n < 0 ∨ wrap64 (wrap64 (2 ^ (8 * s)) - 1) < n) ↔ ¬ (0 ≤ n ∧ sh n s = 0) := by
  have : s = 1 ∨ s = 2 ∨ s = 3 ∨ s = 4 ∨ s = 5 ∨ s = 6 ∨ s = 7 := by omega
  rcases this with h | h | h | h | h | h | h <;> subst h <;> simp only [sh, wrap64, Nat.reduceMul, Int.reducePow] <;> omega

set_option maxHeartbeats 1000000 in
theorem implPut_any (n sz : Int) (w : World) (hn : -9223372036854775808 ≤ n ∧ n ≤ 9223372036854775807) (hsz : -9223372036854775808 ≤ sz ∧ sz ≤ 9223372036854775807) :
    Calls Try.prog 11 #[.int .i64 n, .int .i64 sz] w fun e w' => ∃ G cap, e = .returned (.agg #[.int .i64 (putCode n sz), .slice G (putLen n sz) cap]) ∧ Wr w' w.heap.size w'.heap.size G (putLen n sz) (digs n (putLen n sz)) ∧ Below w.heap.size w w' := by
  by_cases hs : 1 ≤ sz ∧ sz ≤ 7
  · obtain ⟨s, rfl⟩ := Int.eq_ofNat_of_zero_le (show 0 ≤ sz by omega)
    have hs0 : 1 ≤ s := by omega
    have hs7 : s ≤ 7 := by omega
    clear hs
    by_cases hok : 0 ≤ n ∧ sh n s = 0
    · have hput : PutOk n s := ⟨by omega, by omega, hok.1, by simpa using hok.2⟩
      rw [putCode_ok hput, putLen_ok hput, Int.toNat_natCast]
      have HD : Hid (decide (n < 0 ∨ wrap64 (wrap64 (2 ^ (8 * s)) - 1) < n) = false) := decide_eq_false (fun h => (put_bound n s hs0 hs7).1 h hok)
      go_enter Try.func11, Try.ntmps11
      go_wp2_with fail
      refine (outside1 _ 1 (s : Int) 1 7 false _ ?_ ?_ ?_ ?_ ?_).mono ?_
      · simp
      · go_simp
      · go_simp
      · go_simp
      · simp; omega
      rintro e w1 ⟨rfl, hb1⟩
      go_wp2_with fail
      refine (outside1 _ 1 n 0 _ false _ ?_ ?_ ?_ ?_ HD.out).mono ?_
      · simp
      · go_simp
      · go_simp
      · go_simp
      rintro e w2 ⟨rfl, hb2⟩
      have hb12 := hb1.trans ((((Below.refl _ w1).alloc (Nat.le_refl _) _).trans (hb2.mono (by simp))).mono hb1.size)
      go_wp2_with fail
      refine (putWord_any n s w2 hok.1 hn.2 hs7).mono ?_
      rintro e w3 ⟨g, rfl, hw3, hb3⟩
      have hb13 := hb12.trans (hb3.mono hb12.size)
      have hlo : w.heap.size < w2.heap.size := by have := hb12.size; simp at this; omega
      obtain ⟨d0, d1, f0, f1, hb, hz⟩ := res_cells2 hb13
      obtain ⟨e0, e1⟩ := two_cells d0 d1 (.int .i64 0) (.slice (some ⟨g, 0, none⟩) s s)
      obtain ⟨r2, hbz⟩ := res_done hb hz (.int .i64 0) (.slice (some ⟨g, 0, none⟩) s s) hw3 hlo
      clear hb1 hb2 hb3 hb12 hb13 hb hw3
      go_wp2_with fail
      exact bodyPost_ret (v := .agg #[.int .i64 0, .slice (some ⟨g, 0, none⟩) s s]) (by simp [results, Try.results11, go_sem, e0, e1]) rfl ⟨some ⟨g, 0, none⟩, s, rfl, r2, hbz⟩
    · have hno : ¬ PutOk n s := fun h => hok ⟨h.2.2.1, by simpa using h.2.2.2⟩
      rw [putCode_no hno, putLen_no hno]
      have HD : Hid (decide (n < 0 ∨ wrap64 (wrap64 (2 ^ (8 * s)) - 1) < n) = true) := decide_eq_true ((put_bound n s hs0 hs7).2 hok)
      clear hok hno
      go_enter Try.func11, Try.ntmps11
      go_wp2_with fail
      refine (outside1 _ 1 (s : Int) 1 7 false _ ?_ ?_ ?_ ?_ ?_).mono ?_
      · simp
      · go_simp
      · go_simp
      · go_simp
      · simp; omega
      rintro e w1 ⟨rfl, hb1⟩
      go_wp2_with fail
      refine (outside1 _ 1 n 0 _ true _ ?_ ?_ ?_ ?_ HD.out).mono ?_
      · simp
      · go_simp
      · go_simp
      · go_simp
      rintro e w2 ⟨rfl, hb2⟩
      have hb12 := hb1.trans ((((Below.refl _ w1).alloc (Nat.le_refl _) _).trans (hb2.mono (by simp))).mono hb1.size)
      obtain ⟨d0, d1, f0, f1, hb, hz⟩ := res_cells2 hb12
      obtain ⟨e0, e1⟩ := two_cells d0 d1 (.int .i64 3) (.slice none 0 0)
      have hbz : Below w.heap.size w ((w2.setCell ⟨w.heap.size, 0, none⟩ (.int .i64 3)).setCell ⟨w.heap.size, 1, none⟩ (.slice none 0 0)) := (hb.setCell (Nat.le_refl _) _).setCell (Nat.le_refl _) _
      clear hb1 hb2 hb12 hb
      go_wp2_with fail
      exact bodyPost_ret (v := .agg #[.int .i64 3, .slice none 0 0]) (by simp [results, Try.results11, go_sem, e0, e1]) rfl ⟨none, 0, rfl, Wr.empty_top _ none, hbz⟩
  · have hno : ¬ PutOk n sz := fun h => hs ⟨h.1, h.2.1⟩
    rw [putCode_no hno, putLen_no hno]
    go_enter Try.func11, Try.ntmps11
    go_wp2_with fail
    refine (outside1 _ 1 sz 1 7 true _ ?_ ?_ ?_ ?_ ?_).mono ?_
    · simp
    · go_simp
    · go_simp
    · go_simp
    · simp; omega
    rintro e w1 ⟨rfl, hb1⟩
    obtain ⟨d0, d1, f0, f1, hb, hz⟩ := res_cells2 hb1
    obtain ⟨e0, e1⟩ := two_cells d0 d1 (.int .i64 3) (.slice none 0 0)
    have hz2 : Below w.heap.size w ((w1.setCell ⟨w.heap.size, 0, none⟩ (.int .i64 3)).setCell ⟨w.heap.size, 1, none⟩ (.slice none 0 0)) := (hb.setCell (Nat.le_refl _) _).setCell (Nat.le_refl _) _
    clear hb1 hb
    go_wp2_with fail
    exact bodyPost_ret (v := .agg #[.int .i64 3, .slice none 0 0]) (by simp [results, Try.results11, go_sem, e0, e1]) rfl ⟨none, 0, rfl, Wr.empty_top _ none, hz2⟩
end Go.Proofs.Ytiiihhfdgogmjaa
