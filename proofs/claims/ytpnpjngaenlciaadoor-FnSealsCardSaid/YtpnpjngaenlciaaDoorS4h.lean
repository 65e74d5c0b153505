/-
  impl.HeadOf.
-/
import Derived.Test.YtpnpjngaenlciaaDoorS3
import Derived.Test.YtpnpjngaenlciaaDoorGet
namespace Go.Proofs.YtpnpjngaenlciaaDoor
open Go.RowKit
set_option linter.unusedVariables false
set_option maxRecDepth 100000

theorem outside2 (b c : Nat) (v f l v' f' l' : Int) (r : Bool) (w : World) (hb : b < w.heap.size) (h0 : w.cell? ⟨b, 0, none⟩ = some (.int .i64 v)) (h1 : w.cell? ⟨b, 1, none⟩ = some (.int .i64 f)) (h2 : w.cell? ⟨b, 2, none⟩ = some (.int .i64 l))
    (h3 : w.cell? ⟨b, 3, none⟩ = some (.int .i64 v')) (h4 : w.cell? ⟨b, 4, none⟩ = some (.int .i64 f')) (h5 : w.cell? ⟨b, 5, none⟩ = some (.int .i64 l')) (hr : decide ((v < f ∨ l < v) ∨ (v' < f' ∨ l' < v')) = r) :
    Calls Tryd.prog 51 #[.slice (some ⟨b, 0, none⟩) 2 c] w fun e w' => e = .returned (.bool r) ∧ Below w.heap.size w w' := by
  subst hr
  have hB : Bounds w b 2 fun j => if j = 0 then (v, f, l) else (v', f', l') := by
    intro j hj
    rcases (show j = 0 ∨ j = 1 by omega) with rfl | rfl
    · exact ⟨h0, h1, h2⟩
    · exact ⟨h3, h4, h5⟩
  by_cases e1 : v < f ∨ l < v
  · rw [decide_eq_true (Or.inl e1)]
    exact outside_yes b 2 c 0 _ w hb (by omega) hB (by omega) (fun j hj => by omega) (by simpa using e1)
  · by_cases e2 : v' < f' ∨ l' < v'
    · rw [decide_eq_true (Or.inr e2)]
      exact outside_yes b 2 c 1 _ w hb (by omega) hB (by omega) (fun j hj => by
        obtain rfl : j = 0 := (by omega)
        simp
        omega) (by simpa using e2)
    · rw [decide_eq_false (by omega)]
      exact outside_no b 2 c _ w hb (by omega) hB (fun j hj => by
        rcases (show j = 0 ∨ j = 1 by omega) with rfl | rfl
        · simp; omega
        · simp; omega)

set_option maxHeartbeats 1000000 in
theorem isNoHead_any (sd sq : Int) (w : World) (r : Bool) (hr : decide (¬ (sideOk sd ∧ (0 ≤ sq ∧ sq ≤ 9999))) = r) :
    Calls Tryd.prog 39 #[.int .i64 sd, .int .i64 sq] w fun e w' => e = .returned (.bool r) ∧ Below w.heap.size w w' := by
  have HR : Hid (decide ((sd < 0 ∨ 1 < sd) ∨ (sq < 0 ∨ 9999 < sq)) = r) := by
    show _ = _
    rw [← hr]
    unfold sideOk
    exact decide_eq_decide.2 (by omega)
  clear hr
  go_enter Tryd.func39, Tryd.ntmps39
  go_wp2_with fail
  refine (outside2 _ 2 sd 0 1 sq 0 9999 r _ ?_ ?_ ?_ ?_ ?_ ?_ ?_ HR.out).mono ?_
  · simp
  · go_simp
  · go_simp
  · go_simp
  · go_simp
  · go_simp
  · go_simp
  rintro e w1 ⟨rfl, hb1⟩
  have hb := ((Below.refl w.heap.size w).alloc (Nat.le_refl _) (.cells #[.int .i64 sd, .int .i64 0, .int .i64 1, .int .i64 sq, .int .i64 0, .int .i64 9999] 66)).trans (hb1.mono (by simp))
  clear hb1
  go_wp2_with fail
  go_ret
  exact ⟨rfl, hb⟩

theorem PAns.set4 {w v : World} (p sd sq : Int) (h : Below w.heap.size w v) (x0 x1 x2 x3 : Value) :
    PAns w p sd sq [] (.returned (.agg #[.int .i64 p, .int .i64 sd, .int .i64 sq, .slice none 0 0])) (set4 v w.heap.size x0 x1 x2 x3) :=
  PAns.fault (h.trans (((Keep.refl w.heap.size (w.heap.size + 1) v).set4 ⟨Nat.le_refl _, Nat.lt_succ_self _⟩ _ _ _ _).below (by omega) h.size))
theorem val_one (ps : List Int) (h : 0 < ps.length) : val (part ps 0 1) = ps.getD 0 0 := by
  cases ps with
  | nil => simp at h
  | cons x xs => simp [part, val]

set_option maxHeartbeats 1000000 in
theorem implHead_any (A : Option Addr) (n c hi : Nat) (ps : List Int) (w : World) (h : Rd w 0 hi A n ps) (hnc : n ≤ c) :
    Calls Tryd.prog 15 #[.slice A n c] w (PAns w (headCode ps) (zeroOr (headCode ps) (hdSide ps)) (zeroOr (headCode ps) (hdSeq ps)) []) := by
  have hint := h.int
  have hl := h.len
  have htop := h.top
  have k0 := (Keep.refl 0 0 w).alloc (.cells #[.int .i64 0, .int .i64 0, .int .i64 0, .slice none 0 0] 32)
  have r0 := h.keep k0 (by omega)
  have bx0 := Box4.new w (.int .i64 0) (.int .i64 0) (.int .i64 0) (.slice none 0 0) 32
  have bb0 : Below w.heap.size w (w.alloc (.cells #[.int .i64 0, .int .i64 0, .int .i64 0, .slice none 0 0] 32)) := (Below.refl _ w).alloc (Nat.le_refl _) _
  by_cases hn : n < 13 ∨ 133 < n
  · have e : headCode ps = 2 := by unfold headCode; rw [if_pos (by omega)]
    rw [e, zeroOr_bad (by omega), zeroOr_bad (by omega)]
    go_enter Tryd.func15, Tryd.ntmps15
    go_wp2_with fail
    refine (outside1 _ 1 (n : Int) 13 133 true _ ?_ ?_ ?_ ?_ ?_).mono ?_
    · simp
    · go_simp
    · go_simp
    · go_simp
    · simp; omega
    rintro e w1 ⟨rfl, hb1⟩
    have k1 := ((Keep.refl 0 0 _).alloc _).trans (Keep.of_below hb1 0 0)
    obtain ⟨c0, c1, c2, c3, f0, f1, f2, f3, lt1⟩ := bx0.keep k1 (by omega)
    have bb1 := bb0.trans (k1.below (by omega) bb0.size)
    have HF := Lib.hid (PAns.set4 2 0 0 bb1 (.int .i64 2) (.int .i64 0) (.int .i64 0) (.slice none 0 0))
    clear hb1 k1 k0 r0 bx0 bb0 h
    go_wp2_with fail
    exact bodyPost_ret (v := .agg #[.int .i64 2, .int .i64 0, .int .i64 0, .slice none 0 0]) (by simp [results, Tryd.results15, go_sem, c0, c1, c2, c3]) rfl HF.out
  · have e0 : ¬ (ps.length < 13 ∨ 133 < ps.length) := by omega
    have hb := hdSeq_bound ps h.byte
    have hs0 := h.byteAt (j := 0) (by omega)
    obtain ⟨b, off, rfl, hlo, hhi, _⟩ := h.at_ (by omega)
    have hv1 : val (part ps 0 1) = hdSide ps := val_one ps (by omega)
    have hg1 := fun (w' : World) (r : Rd w' 0 hi (some ⟨b, off, none⟩) n ps) => implGet_any (some ⟨b, off, none⟩) 1 c 0 hi (part ps 0 1) w' (r.part_ 0 1 (by omega))
    have hg2 := fun (w' : World) (r : Rd w' 0 hi (some ⟨b, off, none⟩) n ps) => implGet_any (some ⟨b, off + 1, none⟩) 4 (c - 1) 0 hi (part ps 1 4) w' (r.part_ 1 4 (by omega))
    simp only [show (1 ≤ 1 ∧ 1 ≤ 7) = True from by simp, show (1 ≤ 4 ∧ 4 ≤ 7) = True from by simp, if_true, hv1] at hg1 hg2
    have HQ : Hid (hdSeq ps = val (part ps 1 4)) := rfl
    have HD : Hid (hdSide ps = ps.getD 0 0) := rfl
    have hcode : headCode ps = if ¬ sideOk (hdSide ps) ∨ 9999 < hdSeq ps then 5 else 0 := by unfold headCode; rw [if_neg e0]
    rw [hcode]
    rw [← HQ.out] at hg2
    rw [← HD.out] at hs0
    generalize hdSide ps = sd at *
    generalize hdSeq ps = sq at *
    have HG1 := Lib.hid hg1
    have HG2 := Lib.hid hg2
    have hc5 : (5 : Int) ≤ (c : Int) := by omega
    have hc1' : (1 : Int) ≤ (c : Int) := by omega
    have hc1 : ¬ c = 1 := by omega
    have hfld : ∀ (x : Int) (w : World), (Instr.field 68 (.agg #[.int .i64 0, .int .i64 x]) 1).run Tryd.prog w = .ok (.int .i64 x) w := fun _ _ => by kernel_rfl
    clear hg1 hg2 hcode e0 hv1 h
    by_cases hs : sideOk sd ∧ (0 ≤ sq ∧ sq ≤ 9999)
    · rw [if_neg (show ¬ (¬ sideOk sd ∨ 9999 < sq) from fun h => h.elim (fun e => e hs.1) (fun e => by omega)), zeroOr_zero, zeroOr_zero]
      go_enter Tryd.func15, Tryd.ntmps15
      go_wp2_with fail
      refine (outside1 _ 1 (n : Int) 13 133 false _ ?_ ?_ ?_ ?_ ?_).mono ?_
      · simp
      · go_simp
      · go_simp
      · go_simp
      · simp; omega
      rintro e w1 ⟨rfl, hb1⟩
      have k1 := ((Keep.refl 0 0 _).alloc _).trans (Keep.of_below hb1 0 0)
      have bx1 := bx0.keep k1 (by omega)
      have r1 := r0.keep k1 (by omega)
      have bb1 := bb0.trans (k1.below (by omega) bb0.size)
      clear hb1 k1 k0 r0 bx0 bb0
      go_wp2_with fail
      refine (HG1.out _ r1).mono ?_
      rintro e w2 ⟨rfl, hb2⟩
      have k2 := Keep.of_below hb2 0 0
      have bx2 := bx1.keep k2 (by omega)
      have r2 := r1.keep k2 (by omega)
      have bb2 := bb1.trans (k2.below (by omega) bb1.size)
      clear hb2 k2 r1 bx1 bb1
      go_wp2_with fail
      refine (HG2.out _ r2).mono ?_
      rintro e w3 ⟨rfl, hb3⟩
      have k3 := Keep.of_below hb3 0 0
      have bx3 := bx2.keep k3 (by omega)
      have bb3 := bb2.trans (k3.below (by omega) bb2.size)
      clear hb3 k3 r2 bx2 bb2
      go_wp2_with fail
      refine (isNoHead_any sd sq _ false (decide_eq_false (by simpa using hs))).mono ?_
      rintro e w4 ⟨rfl, hb4⟩
      have k4 := Keep.of_below hb4 0 0
      obtain ⟨c0, c1, c2, c3, f0, f1, f2, f3, lt1⟩ := bx3.keep k4 (by omega)
      have bb4 := bb3.trans (k4.below (by omega) bb3.size)
      have HF := Lib.hid (PAns.set4 0 sd sq bb4 (.int .i64 0) (.int .i64 sd) (.int .i64 sq) (.slice none 0 0))
      clear hb4 k4 bx3 bb3
      go_wp2_with fail
      exact bodyPost_ret (v := .agg #[.int .i64 0, .int .i64 sd, .int .i64 sq, .slice none 0 0]) (by simp [results, Tryd.results15, go_sem, c0, c1, c2, c3]) rfl HF.out
    · rw [if_pos (show ¬ sideOk sd ∨ 9999 < sq from by
          by_cases e : sideOk sd
          · exact Or.inr (by have h9 : ¬ (0 ≤ sq ∧ sq ≤ 9999) := fun h => hs ⟨e, h⟩; omega)
          · exact Or.inl e), zeroOr_bad (by omega), zeroOr_bad (by omega)]
      go_enter Tryd.func15, Tryd.ntmps15
      go_wp2_with fail
      refine (outside1 _ 1 (n : Int) 13 133 false _ ?_ ?_ ?_ ?_ ?_).mono ?_
      · simp
      · go_simp
      · go_simp
      · go_simp
      · simp; omega
      rintro e w1 ⟨rfl, hb1⟩
      have k1 := ((Keep.refl 0 0 _).alloc _).trans (Keep.of_below hb1 0 0)
      have bx1 := bx0.keep k1 (by omega)
      have r1 := r0.keep k1 (by omega)
      have bb1 := bb0.trans (k1.below (by omega) bb0.size)
      clear hb1 k1 k0 r0 bx0 bb0
      go_wp2_with fail
      refine (HG1.out _ r1).mono ?_
      rintro e w2 ⟨rfl, hb2⟩
      have k2 := Keep.of_below hb2 0 0
      have bx2 := bx1.keep k2 (by omega)
      have r2 := r1.keep k2 (by omega)
      have bb2 := bb1.trans (k2.below (by omega) bb1.size)
      clear hb2 k2 r1 bx1 bb1
      go_wp2_with fail
      refine (HG2.out _ r2).mono ?_
      rintro e w3 ⟨rfl, hb3⟩
      have k3 := Keep.of_below hb3 0 0
      have bx3 := bx2.keep k3 (by omega)
      have bb3 := bb2.trans (k3.below (by omega) bb2.size)
      clear hb3 k3 r2 bx2 bb2
      go_wp2_with fail
      refine (isNoHead_any sd sq _ true (decide_eq_true hs)).mono ?_
      rintro e w4 ⟨rfl, hb4⟩
      have k4 := Keep.of_below hb4 0 0
      obtain ⟨c0, c1, c2, c3, f0, f1, f2, f3, lt1⟩ := bx3.keep k4 (by omega)
      have bb4 := bb3.trans (k4.below (by omega) bb3.size)
      have HF := Lib.hid (PAns.set4 5 0 0 bb4 (.int .i64 5) (.int .i64 0) (.int .i64 0) (.slice none 0 0))
      clear hb4 k4 bx3 bb3
      go_wp2_with fail
      exact bodyPost_ret (v := .agg #[.int .i64 5, .int .i64 0, .int .i64 0, .slice none 0 0]) (by simp [results, Tryd.results15, go_sem, c0, c1, c2, c3]) rfl HF.out
end Go.Proofs.YtpnpjngaenlciaaDoor
