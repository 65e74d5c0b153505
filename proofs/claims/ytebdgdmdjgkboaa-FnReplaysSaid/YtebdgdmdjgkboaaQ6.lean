/-
  impl.CheckReplay, impl.TakeReplay: the walks.
-/
import Derived.Test.YtebdgdmdjgkboaaQ5
namespace Go.Proofs.Ytebdgdmdjgkboaa
open Go.RowKit Go.Maps
set_option linter.unusedVariables false
set_option maxRecDepth 100000

theorem SetM.look {w : World} {b n : Nat} {ks : List Int} {x : Int} {r : Bool} (h : SetM w b n ks) (hx : -9223372036854775808 ≤ x ∧ x ≤ 9223372036854775807) (hr : decide (x ∈ ks) = r) :
    (Instr.lookup 48 (.map (some b)) (.int .i64 x) false).run Try.prog w = .ok (.bool r) w := by
  subst hr
  obtain ⟨D, ⟨es, clock, hb, F, _, rfl⟩, hk⟩ := h
  rcases Maps.fit_look false keyed64 Try.underlying48 (Try.zeroValue4 w) hb F (key64 hx) with ⟨hrun, _, hat⟩ | ⟨e0, y, _, _, hrun, hRv, hat, _⟩
  · have hh := Maps.has_false_of_atKey hat
    have : ¬ x ∈ ks := fun e => by rw [(hk x).2 e] at hh; cases hh
    rw [hrun, decide_eq_false this]
    rfl
  · have hh := Maps.has_true_of_atKey hat
    rw [hrun, decide_eq_true ((hk x).1 hh), (trueE_inv hRv).1]
    rfl

set_option maxHeartbeats 1000000 in
theorem implCheck_any (t sq : Int) (A : Option Addr) (n c lo hi : Nat) (xs : List Int) (w : World) (h : Ri w lo hi A n xs) (ht : -9223372036854775808 ≤ t ∧ t ≤ 9223372036854775807) :
    Calls Try.prog 17 #[.agg #[.int .i64 t, .slice A n c], .int .i64 sq] w fun e w' => e = .returned (.int .i64 (checkCode t xs sq)) ∧ Below w.heap.size w w' := by
  have htop := h.top
  have k1 := (Keep.refl 0 0 w).alloc (.cells #[.int .i64 t, .slice A n c] 26)
  have r1 := h.keep k1 (by omega)
  by_cases hf : faultCode t xs = 0
  · have htt : -1 ≤ t ∧ t ≤ 9999 := by have := fault_topOk hf; omega
    by_cases hin : 0 ≤ sq ∧ sq ≤ 9999
    · have hno : decide (sq < 0 ∨ 9999 < sq) = false := decide_eq_false (by omega)
      by_cases hlow : sq ≤ t - 32
      · have HR := Lib.hid (ret_i64 (check_old hf hin ((oldSeq_nil hf hin).2 (Or.inl hlow))).symm)
        have hto := decide_eq_true hlow
        go_enter Try.func17, Try.ntmps17
        go_wp2_with fail
        refine (implFault_any t A n c lo hi xs _ r1 ht).mono ?_
        rintro e w1 ⟨rfl, hb1⟩
        rw [hf]
        have z1 := hb1.size
        simp only [World.size_alloc] at z1
        have c0 := hb1.cell (p := ⟨w.heap.size, 0, none⟩) (by simp)
        have c1 := hb1.cell (p := ⟨w.heap.size, 1, none⟩) (by simp)
        simp [go_sem] at c0 c1
        have r2 := r1.keep (Keep.of_below hb1 0 0) (by omega)
        have B1 := Lib.hid (((Below.refl w.heap.size w).alloc (Nat.le_refl _) (.cells #[.int .i64 t, .slice A n c] 26)).trans (hb1.mono (by simp)))
        clear hb1
        go_wp2_with fail
        refine (outside1 w1.heap.size 1 sq 0 9999 false _ (by simp) (by simp [go_sem]) (by simp [go_sem]) (by simp [go_sem]) hno).mono ?_
        rintro e w2 ⟨rfl, hb2⟩
        have kx := (Keep.refl 0 0 w1).alloc (.cells #[.int .i64 sq, .int .i64 0, .int .i64 9999] 66)
        have ky := kx.trans (Keep.of_below hb2 0 0)
        have c0' := (ky.cell (p := ⟨w.heap.size, 0, none⟩) (by show w.heap.size < _; omega) (by show w.heap.size < 0 ∨ 0 ≤ w.heap.size; omega)).trans c0
        have c1' := (ky.cell (p := ⟨w.heap.size, 1, none⟩) (by show w.heap.size < _; omega) (by show w.heap.size < 0 ∨ 0 ≤ w.heap.size; omega)).trans c1
        have r3 := r2.keep ky (by omega)
        have BZ := Lib.hid (B1.out.trans (ky.below (B := w.heap.size) (by omega) (by omega)))
        clear hb2 kx ky c0 c1
        go_wp2_with fail
        refine (isTooOld_any t sq _ true htt hto).mono ?_
        rintro e w3 ⟨rfl, rfl⟩
        go_wp2_with fail
        go_ret
        exact ⟨HR.out, BZ.out⟩
      · have hto := decide_eq_false hlow
        by_cases hmem : sq ∈ xs
        · have HR := Lib.hid (ret_i64 (check_old hf hin ((oldSeq_nil hf hin).2 (Or.inr hmem))).symm)
          have hdm := decide_eq_true hmem
          go_enter Try.func17, Try.ntmps17
          go_wp2_with fail
          refine (implFault_any t A n c lo hi xs _ r1 ht).mono ?_
          rintro e w1 ⟨rfl, hb1⟩
          rw [hf]
          have z1 := hb1.size
          simp only [World.size_alloc] at z1
          have c0 := hb1.cell (p := ⟨w.heap.size, 0, none⟩) (by simp)
          have c1 := hb1.cell (p := ⟨w.heap.size, 1, none⟩) (by simp)
          simp [go_sem] at c0 c1
          have r2 := r1.keep (Keep.of_below hb1 0 0) (by omega)
          have B1 := Lib.hid (((Below.refl w.heap.size w).alloc (Nat.le_refl _) (.cells #[.int .i64 t, .slice A n c] 26)).trans (hb1.mono (by simp)))
          clear hb1
          go_wp2_with fail
          refine (outside1 w1.heap.size 1 sq 0 9999 false _ (by simp) (by simp [go_sem]) (by simp [go_sem]) (by simp [go_sem]) hno).mono ?_
          rintro e w2 ⟨rfl, hb2⟩
          have kx := (Keep.refl 0 0 w1).alloc (.cells #[.int .i64 sq, .int .i64 0, .int .i64 9999] 66)
          have ky := kx.trans (Keep.of_below hb2 0 0)
          have c0' := (ky.cell (p := ⟨w.heap.size, 0, none⟩) (by show w.heap.size < _; omega) (by show w.heap.size < 0 ∨ 0 ≤ w.heap.size; omega)).trans c0
          have c1' := (ky.cell (p := ⟨w.heap.size, 1, none⟩) (by show w.heap.size < _; omega) (by show w.heap.size < 0 ∨ 0 ≤ w.heap.size; omega)).trans c1
          have r3 := r2.keep ky (by omega)
          have BZ := Lib.hid (B1.out.trans (ky.below (B := w.heap.size) (by omega) (by omega)))
          clear hb2 kx ky c0 c1
          go_wp2_with fail
          refine (isTooOld_any t sq _ false htt hto).mono ?_
          rintro e w3 ⟨rfl, rfl⟩
          go_wp2_with fail
          refine (seenNumbers_any t A n c lo hi xs _ r3).mono ?_
          rintro e w4 ⟨b, rfl, hbl, hset, hb4⟩
          have hlk := hset.look (by omega) hdm
          have B4 := Lib.hid (BZ.out.trans (hb4.mono BZ.out.size))
          clear hb4 hset BZ
          go_wp2_with fail
          go_ret
          exact ⟨HR.out, B4.out⟩
        · have HR := Lib.hid (ret_i64 (check_ok hf hin (fun e => ((oldSeq_nil hf hin).1 e).elim hlow hmem)).symm)
          have hdm := decide_eq_false hmem
          go_enter Try.func17, Try.ntmps17
          go_wp2_with fail
          refine (implFault_any t A n c lo hi xs _ r1 ht).mono ?_
          rintro e w1 ⟨rfl, hb1⟩
          rw [hf]
          have z1 := hb1.size
          simp only [World.size_alloc] at z1
          have c0 := hb1.cell (p := ⟨w.heap.size, 0, none⟩) (by simp)
          have c1 := hb1.cell (p := ⟨w.heap.size, 1, none⟩) (by simp)
          simp [go_sem] at c0 c1
          have r2 := r1.keep (Keep.of_below hb1 0 0) (by omega)
          have B1 := Lib.hid (((Below.refl w.heap.size w).alloc (Nat.le_refl _) (.cells #[.int .i64 t, .slice A n c] 26)).trans (hb1.mono (by simp)))
          clear hb1
          go_wp2_with fail
          refine (outside1 w1.heap.size 1 sq 0 9999 false _ (by simp) (by simp [go_sem]) (by simp [go_sem]) (by simp [go_sem]) hno).mono ?_
          rintro e w2 ⟨rfl, hb2⟩
          have kx := (Keep.refl 0 0 w1).alloc (.cells #[.int .i64 sq, .int .i64 0, .int .i64 9999] 66)
          have ky := kx.trans (Keep.of_below hb2 0 0)
          have c0' := (ky.cell (p := ⟨w.heap.size, 0, none⟩) (by show w.heap.size < _; omega) (by show w.heap.size < 0 ∨ 0 ≤ w.heap.size; omega)).trans c0
          have c1' := (ky.cell (p := ⟨w.heap.size, 1, none⟩) (by show w.heap.size < _; omega) (by show w.heap.size < 0 ∨ 0 ≤ w.heap.size; omega)).trans c1
          have r3 := r2.keep ky (by omega)
          have BZ := Lib.hid (B1.out.trans (ky.below (B := w.heap.size) (by omega) (by omega)))
          clear hb2 kx ky c0 c1
          go_wp2_with fail
          refine (isTooOld_any t sq _ false htt hto).mono ?_
          rintro e w3 ⟨rfl, rfl⟩
          go_wp2_with fail
          refine (seenNumbers_any t A n c lo hi xs _ r3).mono ?_
          rintro e w4 ⟨b, rfl, hbl, hset, hb4⟩
          have hlk := hset.look (by omega) hdm
          have B4 := Lib.hid (BZ.out.trans (hb4.mono BZ.out.size))
          clear hb4 hset BZ
          go_wp2_with fail
          go_ret
          exact ⟨HR.out, B4.out⟩
    · have hno : decide (sq < 0 ∨ 9999 < sq) = true := decide_eq_true (by omega)
      have HR := Lib.hid (ret_i64 (check_range hf hin).symm)
      go_enter Try.func17, Try.ntmps17
      go_wp2_with fail
      refine (implFault_any t A n c lo hi xs _ r1 ht).mono ?_
      rintro e w1 ⟨rfl, hb1⟩
      rw [hf]
      have z1 := hb1.size
      simp only [World.size_alloc] at z1
      have c0 := hb1.cell (p := ⟨w.heap.size, 0, none⟩) (by simp)
      have c1 := hb1.cell (p := ⟨w.heap.size, 1, none⟩) (by simp)
      simp [go_sem] at c0 c1
      have r2 := r1.keep (Keep.of_below hb1 0 0) (by omega)
      have B1 := Lib.hid (((Below.refl w.heap.size w).alloc (Nat.le_refl _) (.cells #[.int .i64 t, .slice A n c] 26)).trans (hb1.mono (by simp)))
      clear hb1
      go_wp2_with fail
      refine (outside1 w1.heap.size 1 sq 0 9999 true _ (by simp) (by simp [go_sem]) (by simp [go_sem]) (by simp [go_sem]) hno).mono ?_
      rintro e w2 ⟨rfl, hb2⟩
      have kx := (Keep.refl 0 0 w1).alloc (.cells #[.int .i64 sq, .int .i64 0, .int .i64 9999] 66)
      have ky := kx.trans (Keep.of_below hb2 0 0)
      have c0' := (ky.cell (p := ⟨w.heap.size, 0, none⟩) (by show w.heap.size < _; omega) (by show w.heap.size < 0 ∨ 0 ≤ w.heap.size; omega)).trans c0
      have c1' := (ky.cell (p := ⟨w.heap.size, 1, none⟩) (by show w.heap.size < _; omega) (by show w.heap.size < 0 ∨ 0 ≤ w.heap.size; omega)).trans c1
      have r3 := r2.keep ky (by omega)
      have BZ := Lib.hid (B1.out.trans (ky.below (B := w.heap.size) (by omega) (by omega)))
      clear hb2 kx ky c0 c1
      go_wp2_with fail
      go_ret
      exact ⟨HR.out, BZ.out⟩
  · have HR := Lib.hid (ret_i64 (check_fault (sq := sq) hf).symm)
    have hfb : (faultCode t xs != 0) = true := by simp [hf]
    go_enter Try.func17, Try.ntmps17
    go_wp2_with fail
    refine (implFault_any t A n c lo hi xs _ r1 ht).mono ?_
    rintro e w1 ⟨rfl, hb1⟩
    have BZ := Lib.hid (((Below.refl w.heap.size w).alloc (Nat.le_refl _) (.cells #[.int .i64 t, .slice A n c] 26)).trans (hb1.mono (by simp)))
    clear hb1
    generalize faultCode t xs = fc at *
    go_wp2_with fail
    go_ret
    exact ⟨HR.out, BZ.out⟩
end Go.Proofs.Ytebdgdmdjgkboaa
