/-
  impl.ReplayFault.
-/
import Derived.Test.YtebdgdmdjgkboaaQ1
namespace Go.Proofs.Ytebdgdmdjgkboaa
open Go.RowKit
set_option linter.unusedVariables false
set_option maxRecDepth 100000

theorem _root_.Go.RowKit.Below.dN {B : Nat} {w w' : World} (h : Below B w w') (q : Nat) : Below B w (w'.drewN q) := ⟨h.os, h.tape, h.output, h.size, h.block⟩

set_option maxHeartbeats 1000000 in
theorem implFault_any (t : Int) (A : Option Addr) (n c lo hi : Nat) (xs : List Int) (w : World) (h : Ri w lo hi A n xs) (ht : -9223372036854775808 ≤ t ∧ t ≤ 9223372036854775807) :
    Calls Try.prog 20 #[.agg #[.int .i64 t, .slice A n c]] w fun e w' => e = .returned (.int .i64 (faultCode t xs)) ∧ Below w.heap.size w w' := by
  have hint := h.int
  have hl := h.len
  have htop := h.top
  by_cases htb : topBad t
  · have HR := Lib.hid (ret_i64 (fault_top (xs := xs) htb).symm)
    have htd : decide (t < 0 ∨ 9999 < t) = true := decide_eq_true (by unfold topBad at htb; omega)
    have hmb : (t != -1) = true := by simpa using htb.1
    have hmb' : ¬ t = -1 := htb.1
    clear htb
    go_enter Try.func20, Try.ntmps20
    go_wp2_with fail
    refine (outside1 (w.heap.size + 1) 1 t 0 9999 true _ (by simp) (by simp [go_sem]) (by simp [go_sem]) (by simp [go_sem]) htd).mono ?_
    rintro e w1 ⟨rfl, hb1⟩
    have hb := (((Below.refl w.heap.size w).alloc (Nat.le_refl _) (.cells #[.int .i64 t, .slice A n c] 26)).alloc (by simp) (.cells #[.int .i64 t, .int .i64 0, .int .i64 9999] 66)).trans (hb1.mono (by simp; omega))
    clear hb1
    go_wp2_with fail
    go_ret
    exact ⟨HR.out, hb⟩
  have htt : -1 ≤ t ∧ t ≤ 9999 := by unfold topBad at htb; omega
  by_cases hm : t = -1
  · have hmb : (t != -1) = false := by simp [hm]
    have HM := Lib.hid hm
    clear hm
    go_enter Try.func20, Try.ntmps20
    go_wp2_with fail
    have hb : ∀ w1, w1 = w.alloc (.cells #[.int .i64 t, .slice A n c] 26) → Below (w.alloc (.cells #[.int .i64 t, .slice A n c] 26)).heap.size (w.alloc (.cells #[.int .i64 t, .slice A n c] 26)) w1 := fun w1 e => by rw [e]; exact Below.refl _ _
    generalize hw1 : w.alloc (.cells #[.int .i64 t, .slice A n c] 26) = w1
    replace hb := hb w1 hw1.symm
    clear hw1
    have c0 := hb.cell (p := ⟨w.heap.size, 0, none⟩) (by simp)
    have c1 := hb.cell (p := ⟨w.heap.size, 1, none⟩) (by simp)
    simp [go_sem] at c0 c1
    have z1 := hb.size
    simp only [World.size_alloc] at z1
    have r1 := h.keep (((Keep.refl 0 0 w).alloc (.cells #[.int .i64 t, .slice A n c] 26)).trans (Keep.of_below hb 0 0)) (by omega)
    have bw : Below w.heap.size w w1 := ((Below.refl w.heap.size w).alloc (Nat.le_refl _) (.cells #[.int .i64 t, .slice A n c] 26)).trans (hb.mono (by simp))
    clear hb
    go_loopw [18, 4] (fun i _ wr => ∃ k : Nat, k ≤ n ∧ i = .int .i64 (k : Int) ∧ (∀ j, j < k → ¬ seenBad t (xs.getD j 0)) ∧ Below w1.heap.size w1 wr) (fun i _ _ => n - (intOf i).toNat)
    case atStart => exact ⟨0, Nat.zero_le _, rfl, fun j hj => by omega, Below.refl _ _⟩
    case round =>
      obtain ⟨k, hk, rfl, hgood, hbw⟩ := hrel
      have zr := hbw.size
      have d0 := (hbw.cell (p := ⟨w.heap.size, 0, none⟩) (by show w.heap.size < _; omega)).trans c0
      have d1 := (hbw.cell (p := ⟨w.heap.size, 1, none⟩) (by show w.heap.size < _; omega)).trans c1
      by_cases hlt : k < n
      · obtain ⟨ab, off, rfl, _, hab, hc⟩ := r1.at_ (by omega)
        have rt := r1.top
        have hck := (hbw.cell (p := ⟨ab, off + k, none⟩) (by show ab < _; omega)).trans (hc k hlt)
        have hbx := h.byteAt (j := k) hlt
        have i0 : (0 : Int) ≤ (k : Int) := by omega
        have i1 : (k : Int) < (n : Int) := by omega
        have hbad : seenBad t (xs.getD k 0) → AnyBad t xs := anyBad_at (by omega)
        have hstep : ¬ seenBad t (xs.getD k 0) → ∀ j, j < k + 1 → ¬ seenBad t (xs.getD j 0) := fun e j hj => by
          by_cases ej : j = k
          · rw [ej]; exact e
          · exact hgood j (by omega)
        generalize xs.getD k 0 = x at *
        have HB := Lib.hid hbad
        have HS := Lib.hid hstep
        clear hbad hstep hgood hc
        by_cases hin : 0 ≤ x ∧ x ≤ t
        · have hno : decide (x < 0 ∨ t < x) = false := decide_eq_false (by omega)
          by_cases hlow : x ≤ t - 32
          · have HR := Lib.hid (ret_i64 (show (3 : Int) = faultCode t xs by rw [fault_seen htb (by rw [show seenCode t xs = 3 from if_pos (HB.out (Or.inr hlow))]; omega)]; exact (if_pos (HB.out (Or.inr hlow))).symm))
            have hto := decide_eq_true hlow
            clear HB HS
            go_wp2_with fail
            refine (outside1 wr.heap.size 1 x 0 t false _ (by simp) (by simp [go_sem]) (by simp [go_sem]) (by simp [go_sem]) hno).mono ?_
            rintro e w2 ⟨rfl, hb2⟩
            have e0 := (hb2.cell (p := ⟨w.heap.size, 0, none⟩) (by simp; omega)).trans ((((Keep.refl 0 0 wr).alloc _).cell (p := ⟨w.heap.size, 0, none⟩) (by show w.heap.size < _; omega) (by show w.heap.size < 0 ∨ 0 ≤ w.heap.size; omega)).trans d0)
            have bz := (bw.trans (hbw.mono bw.size)).trans (((Below.refl wr.heap.size wr).alloc (Nat.le_refl _) (.cells #[.int .i64 x, .int .i64 0, .int .i64 t] 66)).trans (hb2.mono (by simp)) |>.mono (by omega))
            have BZ := Lib.hid bz
            clear bz hb2
            go_wp2_with fail
            refine (isTooOld_any t x _ true htt hto).mono ?_
            rintro e w3 ⟨rfl, rfl⟩
            go_wp2_with fail
            go_ret
            exact ⟨HR.out, BZ.out⟩
          · have hx : ¬ seenBad t x := fun e => e.elim (fun e => e hin) hlow
            have HS2 := Lib.hid (HS.out hx)
            have hto := decide_eq_false hlow
            clear HB HS
            go_wp2_with fail
            refine (outside1 wr.heap.size 1 x 0 t false _ (by simp) (by simp [go_sem]) (by simp [go_sem]) (by simp [go_sem]) hno).mono ?_
            rintro e w2 ⟨rfl, hb2⟩
            have e0 := (hb2.cell (p := ⟨w.heap.size, 0, none⟩) (by simp; omega)).trans ((((Keep.refl 0 0 wr).alloc _).cell (p := ⟨w.heap.size, 0, none⟩) (by show w.heap.size < _; omega) (by show w.heap.size < 0 ∨ 0 ≤ w.heap.size; omega)).trans d0)
            have bz := hbw.trans (((Below.refl wr.heap.size wr).alloc (Nat.le_refl _) (.cells #[.int .i64 x, .int .i64 0, .int .i64 t] 66)).trans (hb2.mono (by simp)) |>.mono (by omega))
            have BZ := Lib.hid bz
            clear bz hb2
            go_wp2_with fail
            refine (isTooOld_any t x _ false htt hto).mono ?_
            rintro e w3 ⟨rfl, rfl⟩
            go_wp2_with fail
            go_roundw
            case rel => exact ⟨k + 1, by omega, by go_num, HS2.out, BZ.out⟩
            case measure => simp [intOf]; omega
        · have hno : decide (x < 0 ∨ t < x) = true := decide_eq_true (by omega)
          have HR := Lib.hid (ret_i64 (show (3 : Int) = faultCode t xs by rw [fault_seen htb (by rw [show seenCode t xs = 3 from if_pos (HB.out (Or.inl hin))]; omega)]; exact (if_pos (HB.out (Or.inl hin))).symm))
          clear HB HS
          go_wp2_with fail
          refine (outside1 wr.heap.size 1 x 0 t true _ (by simp) (by simp [go_sem]) (by simp [go_sem]) (by simp [go_sem]) hno).mono ?_
          rintro e w2 ⟨rfl, hb2⟩
          have bz := (bw.trans (hbw.mono bw.size)).trans (((Below.refl wr.heap.size wr).alloc (Nat.le_refl _) (.cells #[.int .i64 x, .int .i64 0, .int .i64 t] 66)).trans (hb2.mono (by simp)) |>.mono (by omega))
          have BZ := Lib.hid bz
          clear bz hb2
          go_wp2_with fail
          go_ret
          exact ⟨HR.out, BZ.out⟩
      · have ek : k = n := by omega
        have hna : ¬ AnyBad t xs := not_anyBad (by rw [hl, ← ek]; exact hgood)
        have r2 := r1.keep (Keep.of_below hbw 0 0) (by omega)
        have bz := bw.trans (hbw.mono bw.size)
        have BZ := Lib.hid bz
        clear hgood ek bz hbw
        have hsc : seenCode t xs = if Rising xs then 0 else 1 := by unfold seenCode; rw [if_neg hna]
        by_cases hri : Rising xs
        · rw [if_pos hri] at hsc
          have hrb := decide_eq_true hri
          by_cases hlv : lastVal xs = t
          · have HR := Lib.hid (ret_i64 (fault_none htb hsc (fun e => (lastBad_iff hna).1 e hlv)).symm)
            clear hri hsc hna
            go_wp2_with fail
            refine (rises_any A n c lo hi xs _ true r2 hrb).mono ?_
            rintro e w2 ⟨rfl, q, rfl⟩
            have r3 := r2.keep ((Keep.refl 0 0 wr).drewN q) (by omega)
            have RQ : ∀ q', Ri (wr.drewN q') lo hi A n xs := fun q' => r2.keep ((Keep.refl 0 0 _).drewN q') (by omega)
            go_wp2_with fail
            go_quiet ((go_at_call 47; refine (lastSeen_any A n c lo hi xs _ t (RQ _) hlv).mono fun _ _ h => ⟨h.1, _, h.2.symm⟩))
            go_wp2_with fail
            go_ret
            exact ⟨HR.out, (BZ.out.dN q).dN nq⟩
          · have HR := Lib.hid (ret_i64 (fault_last htb hsc ((lastBad_iff hna).2 hlv)).symm)
            have hlb : (lastVal xs != t) = true := by simp [hlv]
            clear hri hsc hna
            go_wp2_with fail
            refine (rises_any A n c lo hi xs _ true r2 hrb).mono ?_
            rintro e w2 ⟨rfl, q, rfl⟩
            have r3 := r2.keep ((Keep.refl 0 0 wr).drewN q) (by omega)
            have RQ : ∀ q', Ri (wr.drewN q') lo hi A n xs := fun q' => r2.keep ((Keep.refl 0 0 _).drewN q') (by omega)
            generalize hlvv : lastVal xs = lv at *
            go_wp2_with fail
            go_quiet ((go_at_call 47; refine (lastSeen_any A n c lo hi xs _ lv (RQ _) hlvv).mono fun _ _ h => ⟨h.1, _, h.2.symm⟩))
            go_wp2_with fail
            go_ret
            exact ⟨HR.out, (BZ.out.dN q).dN nq⟩
        · rw [if_neg hri] at hsc
          have hrb := decide_eq_false hri
          have HR := Lib.hid (ret_i64 (show (1 : Int) = faultCode t xs by rw [fault_seen htb (by rw [hsc]; omega), hsc]))
          clear hri hsc hna
          go_wp2_with fail
          refine (rises_any A n c lo hi xs _ false r2 hrb).mono ?_
          rintro e w2 ⟨rfl, q, rfl⟩
          go_wp2_with fail
          go_ret
          exact ⟨HR.out, BZ.out.dN q⟩
  · have hmb : (t != -1) = true := by simp [hm]
    have htd : decide (t < 0 ∨ 9999 < t) = false := decide_eq_false (by omega)
    go_enter Try.func20, Try.ntmps20
    go_wp2_with fail
    refine (outside1 (w.heap.size + 1) 1 t 0 9999 false _ (by simp) (by simp [go_sem]) (by simp [go_sem]) (by simp [go_sem]) htd).mono ?_
    rintro e w1 ⟨rfl, hb1⟩
    have hb : Below (w.alloc (.cells #[.int .i64 t, .slice A n c] 26)).heap.size (w.alloc (.cells #[.int .i64 t, .slice A n c] 26)) w1 := ((Below.refl _ (w.alloc (.cells #[.int .i64 t, .slice A n c] 26))).alloc (Nat.le_refl _) (.cells #[.int .i64 t, .int .i64 0, .int .i64 9999] 66)).trans (hb1.mono (by simp))
    clear hb1
    have c0 := hb.cell (p := ⟨w.heap.size, 0, none⟩) (by simp)
    have c1 := hb.cell (p := ⟨w.heap.size, 1, none⟩) (by simp)
    simp [go_sem] at c0 c1
    have z1 := hb.size
    simp only [World.size_alloc] at z1
    go_wp2_with fail
    have r1 := h.keep (((Keep.refl 0 0 w).alloc (.cells #[.int .i64 t, .slice A n c] 26)).trans (Keep.of_below hb 0 0)) (by omega)
    have bw : Below w.heap.size w w1 := ((Below.refl w.heap.size w).alloc (Nat.le_refl _) (.cells #[.int .i64 t, .slice A n c] 26)).trans (hb.mono (by simp))
    clear hb
    go_loopw [18, 4] (fun i _ wr => ∃ k : Nat, k ≤ n ∧ i = .int .i64 (k : Int) ∧ (∀ j, j < k → ¬ seenBad t (xs.getD j 0)) ∧ Below w1.heap.size w1 wr) (fun i _ _ => n - (intOf i).toNat)
    case atStart => exact ⟨0, Nat.zero_le _, rfl, fun j hj => by omega, Below.refl _ _⟩
    case round =>
      obtain ⟨k, hk, rfl, hgood, hbw⟩ := hrel
      have zr := hbw.size
      have d0 := (hbw.cell (p := ⟨w.heap.size, 0, none⟩) (by show w.heap.size < _; omega)).trans c0
      have d1 := (hbw.cell (p := ⟨w.heap.size, 1, none⟩) (by show w.heap.size < _; omega)).trans c1
      by_cases hlt : k < n
      · obtain ⟨ab, off, rfl, _, hab, hc⟩ := r1.at_ (by omega)
        have rt := r1.top
        have hck := (hbw.cell (p := ⟨ab, off + k, none⟩) (by show ab < _; omega)).trans (hc k hlt)
        have hbx := h.byteAt (j := k) hlt
        have i0 : (0 : Int) ≤ (k : Int) := by omega
        have i1 : (k : Int) < (n : Int) := by omega
        have hbad : seenBad t (xs.getD k 0) → AnyBad t xs := anyBad_at (by omega)
        have hstep : ¬ seenBad t (xs.getD k 0) → ∀ j, j < k + 1 → ¬ seenBad t (xs.getD j 0) := fun e j hj => by
          by_cases ej : j = k
          · rw [ej]; exact e
          · exact hgood j (by omega)
        generalize xs.getD k 0 = x at *
        have HB := Lib.hid hbad
        have HS := Lib.hid hstep
        clear hbad hstep hgood hc
        by_cases hin : 0 ≤ x ∧ x ≤ t
        · have hno : decide (x < 0 ∨ t < x) = false := decide_eq_false (by omega)
          by_cases hlow : x ≤ t - 32
          · have HR := Lib.hid (ret_i64 (show (3 : Int) = faultCode t xs by rw [fault_seen htb (by rw [show seenCode t xs = 3 from if_pos (HB.out (Or.inr hlow))]; omega)]; exact (if_pos (HB.out (Or.inr hlow))).symm))
            have hto := decide_eq_true hlow
            clear HB HS
            go_wp2_with fail
            refine (outside1 wr.heap.size 1 x 0 t false _ (by simp) (by simp [go_sem]) (by simp [go_sem]) (by simp [go_sem]) hno).mono ?_
            rintro e w2 ⟨rfl, hb2⟩
            have e0 := (hb2.cell (p := ⟨w.heap.size, 0, none⟩) (by simp; omega)).trans ((((Keep.refl 0 0 wr).alloc _).cell (p := ⟨w.heap.size, 0, none⟩) (by show w.heap.size < _; omega) (by show w.heap.size < 0 ∨ 0 ≤ w.heap.size; omega)).trans d0)
            have bz := (bw.trans (hbw.mono bw.size)).trans (((Below.refl wr.heap.size wr).alloc (Nat.le_refl _) (.cells #[.int .i64 x, .int .i64 0, .int .i64 t] 66)).trans (hb2.mono (by simp)) |>.mono (by omega))
            have BZ := Lib.hid bz
            clear bz hb2
            go_wp2_with fail
            refine (isTooOld_any t x _ true htt hto).mono ?_
            rintro e w3 ⟨rfl, rfl⟩
            go_wp2_with fail
            go_ret
            exact ⟨HR.out, BZ.out⟩
          · have hx : ¬ seenBad t x := fun e => e.elim (fun e => e hin) hlow
            have HS2 := Lib.hid (HS.out hx)
            have hto := decide_eq_false hlow
            clear HB HS
            go_wp2_with fail
            refine (outside1 wr.heap.size 1 x 0 t false _ (by simp) (by simp [go_sem]) (by simp [go_sem]) (by simp [go_sem]) hno).mono ?_
            rintro e w2 ⟨rfl, hb2⟩
            have e0 := (hb2.cell (p := ⟨w.heap.size, 0, none⟩) (by simp; omega)).trans ((((Keep.refl 0 0 wr).alloc _).cell (p := ⟨w.heap.size, 0, none⟩) (by show w.heap.size < _; omega) (by show w.heap.size < 0 ∨ 0 ≤ w.heap.size; omega)).trans d0)
            have bz := hbw.trans (((Below.refl wr.heap.size wr).alloc (Nat.le_refl _) (.cells #[.int .i64 x, .int .i64 0, .int .i64 t] 66)).trans (hb2.mono (by simp)) |>.mono (by omega))
            have BZ := Lib.hid bz
            clear bz hb2
            go_wp2_with fail
            refine (isTooOld_any t x _ false htt hto).mono ?_
            rintro e w3 ⟨rfl, rfl⟩
            go_wp2_with fail
            go_roundw
            case rel => exact ⟨k + 1, by omega, by go_num, HS2.out, BZ.out⟩
            case measure => simp [intOf]; omega
        · have hno : decide (x < 0 ∨ t < x) = true := decide_eq_true (by omega)
          have HR := Lib.hid (ret_i64 (show (3 : Int) = faultCode t xs by rw [fault_seen htb (by rw [show seenCode t xs = 3 from if_pos (HB.out (Or.inl hin))]; omega)]; exact (if_pos (HB.out (Or.inl hin))).symm))
          clear HB HS
          go_wp2_with fail
          refine (outside1 wr.heap.size 1 x 0 t true _ (by simp) (by simp [go_sem]) (by simp [go_sem]) (by simp [go_sem]) hno).mono ?_
          rintro e w2 ⟨rfl, hb2⟩
          have bz := (bw.trans (hbw.mono bw.size)).trans (((Below.refl wr.heap.size wr).alloc (Nat.le_refl _) (.cells #[.int .i64 x, .int .i64 0, .int .i64 t] 66)).trans (hb2.mono (by simp)) |>.mono (by omega))
          have BZ := Lib.hid bz
          clear bz hb2
          go_wp2_with fail
          go_ret
          exact ⟨HR.out, BZ.out⟩
      · have ek : k = n := by omega
        have hna : ¬ AnyBad t xs := not_anyBad (by rw [hl, ← ek]; exact hgood)
        have r2 := r1.keep (Keep.of_below hbw 0 0) (by omega)
        have bz := bw.trans (hbw.mono bw.size)
        have BZ := Lib.hid bz
        clear hgood ek bz hbw
        have hsc : seenCode t xs = if Rising xs then 0 else 1 := by unfold seenCode; rw [if_neg hna]
        by_cases hri : Rising xs
        · rw [if_pos hri] at hsc
          have hrb := decide_eq_true hri
          by_cases hlv : lastVal xs = t
          · have HR := Lib.hid (ret_i64 (fault_none htb hsc (fun e => (lastBad_iff hna).1 e hlv)).symm)
            clear hri hsc hna
            go_wp2_with fail
            refine (rises_any A n c lo hi xs _ true r2 hrb).mono ?_
            rintro e w2 ⟨rfl, q, rfl⟩
            have r3 := r2.keep ((Keep.refl 0 0 wr).drewN q) (by omega)
            have RQ : ∀ q', Ri (wr.drewN q') lo hi A n xs := fun q' => r2.keep ((Keep.refl 0 0 _).drewN q') (by omega)
            go_wp2_with fail
            go_quiet ((go_at_call 47; refine (lastSeen_any A n c lo hi xs _ t (RQ _) hlv).mono fun _ _ h => ⟨h.1, _, h.2.symm⟩))
            go_wp2_with fail
            go_ret
            exact ⟨HR.out, (BZ.out.dN q).dN nq⟩
          · have HR := Lib.hid (ret_i64 (fault_last htb hsc ((lastBad_iff hna).2 hlv)).symm)
            have hlb : (lastVal xs != t) = true := by simp [hlv]
            clear hri hsc hna
            go_wp2_with fail
            refine (rises_any A n c lo hi xs _ true r2 hrb).mono ?_
            rintro e w2 ⟨rfl, q, rfl⟩
            have r3 := r2.keep ((Keep.refl 0 0 wr).drewN q) (by omega)
            have RQ : ∀ q', Ri (wr.drewN q') lo hi A n xs := fun q' => r2.keep ((Keep.refl 0 0 _).drewN q') (by omega)
            generalize hlvv : lastVal xs = lv at *
            go_wp2_with fail
            go_quiet ((go_at_call 47; refine (lastSeen_any A n c lo hi xs _ lv (RQ _) hlvv).mono fun _ _ h => ⟨h.1, _, h.2.symm⟩))
            go_wp2_with fail
            go_ret
            exact ⟨HR.out, (BZ.out.dN q).dN nq⟩
        · rw [if_neg hri] at hsc
          have hrb := decide_eq_false hri
          have HR := Lib.hid (ret_i64 (show (1 : Int) = faultCode t xs by rw [fault_seen htb (by rw [hsc]; omega), hsc]))
          clear hri hsc hna
          go_wp2_with fail
          refine (rises_any A n c lo hi xs _ false r2 hrb).mono ?_
          rintro e w2 ⟨rfl, q, rfl⟩
          go_wp2_with fail
          go_ret
          exact ⟨HR.out, BZ.out.dN q⟩
end Go.Proofs.Ytebdgdmdjgkboaa
