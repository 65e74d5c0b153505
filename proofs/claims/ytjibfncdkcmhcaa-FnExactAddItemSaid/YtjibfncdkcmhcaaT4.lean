/-
  Rows of atoms: three cells of int64 an atom.
-/
import Derived.Test.YtjibfncdkcmhcaaT1
import Derived.Test.YtjibfncdkcmhcaaBase64
import Derived.Deep.RegionHeld3
namespace Go.Proofs.Ytjibfncdkcmhcaa
open Go.RowKit
set_option linter.unusedVariables false
set_option maxRecDepth 100000

theorem info_atom : (Try.prog.info? 98).map (fun i => (i.zero, i.size, i.bytes)) = some (some (.agg #[.int .i64 0, .int .i64 0, .int .i64 0]), 3, 24) := by kernel_rfl
theorem run_make_atom (n : Nat) (hn : n ≤ 1099511627776) (w : World) : (Instr.makeSlice 38 (.int .i64 (n : Int)) (.int .i64 (n : Int))).run Try.prog w =
    .ok (.slice (some ⟨w.heap.size, 0, none⟩) n n) (w.alloc (.cells (madeCells #[.int .i64 0, .int .i64 0, .int .i64 0] (n * 3)) 98)) := by
  obtain ⟨i, hi, hz, hs, hb⟩ := info_parts info_atom
  have hr := run_make (P := Try.prog) w 38 98 i (.agg #[.int .i64 0, .int .i64 0, .int .i64 0]) Try.underlying38 hi hz .i64 .i64 n n (by omega) (by omega) (by rw [hb]; omega) (by omega)
  simp only [Int.toNat_natCast, hs] at hr
  exact hr

set_option maxHeartbeats 1000000 in
theorem toAtom_any (k p q : Int) (w : World) :
    Calls Try.prog 83 #[.agg #[.int .i64 k, .int .i64 p, .int .i64 q]] w fun e w' => e = .returned (.agg #[.int .i64 k, .int .i64 p, .int .i64 q]) ∧ Keep 0 0 w w' := by
  go_enter Try.func83, Try.ntmps83
  go_wp2_with fail
  refine bodyPost_ret (v := .agg #[.int .i64 k, .int .i64 p, .int .i64 q]) (by simp [results, Try.results83, go_sem]) rfl ?_
  refine ⟨rfl, Keep.of_below ?_ 0 0⟩
  repeat first
    | exact Below.refl _ _
    | refine Below.setCell ?_ (by simp; try omega) _
    | refine Below.alloc ?_ (by simp; try omega) _

set_option maxHeartbeats 1000000 in
theorem eqAtom_true (k p q : Int) (w : World) :
    Calls Try.prog 84 #[.agg #[.int .i64 k, .int .i64 p, .int .i64 q], .agg #[.int .i64 k, .int .i64 p, .int .i64 q]] w fun e w' => e = .returned (.bool true) ∧ Keep 0 0 w w' := by
  have KA := Lib.hid (((Keep.refl 0 0 w).alloc (.cells #[.int .i64 k, .int .i64 p, .int .i64 q] 98)).alloc (.cells #[.int .i64 k, .int .i64 p, .int .i64 q] 98))
  go_enter Try.func84, Try.ntmps84
  go_wp2_with fail
  go_ret
  exact ⟨rfl, KA.out⟩

theorem szAtomS_any (A : Option Addr) (n c : Nat) (left : Int) (w : World) (h0 : 0 ≤ left) (h1 : left ≤ 1099511627776) (hn : n ≤ 9223372036854775807) :
    Calls Try.prog 50 #[.slice A n c, .int .i64 left] w fun e w' => e = .returned (.int .i64 (if left < (n : Int) then -1 else left - n)) ∧ w = w' := by
  by_cases h : left < (n : Int)
  · rw [if_pos h]
    have j1 : left - (n : Int) < 0 := by omega
    go_enter Try.func50, Try.ntmps50
    go_wp2_with fail
    go_ret
    exact ⟨rfl, rfl⟩
  · rw [if_neg h]
    have j1 : ¬ left - (n : Int) < 0 := by omega
    go_enter Try.func50, Try.ntmps50
    go_wp2_with fail
    go_ret
    exact ⟨rfl, rfl⟩

set_option maxHeartbeats 1000000 in
theorem toAtomS_any (A : Option Addr) (n c lo hi : Nat) (xs : List Int) (w : World) (h : Ri w lo hi A (n * 3) xs) (hn : n ≤ 1099511627776) :
    Calls Try.prog 51 #[.slice A n c] w fun e w' => ∃ g, e = .returned (.slice (some ⟨g, 0, none⟩) n n) ∧ Wi w' w.heap.size w'.heap.size (some ⟨g, 0, none⟩) (n * 3) xs ∧ Below w.heap.size w w' := by
  have hmk := run_make_atom n hn
  have hint : n ≤ 9223372036854775807 := by omega
  go_enter Try.func51, Try.ntmps51
  go_wp2
  go_loopw [4] (fun i wr => ∃ k : Nat, k ≤ n ∧ i = .int .i64 k ∧ Fi wr w.heap.size (n * 3) (k * 3) xs ∧ Below w.heap.size w wr) (fun i _ => n - (intOf i).toNat)
  case atStart => exact ⟨0, Nat.zero_le _, rfl, Fi.start w _ _ (size_madeCells _ _) xs, (Below.refl _ _).alloc (Nat.le_refl _) _⟩
  case round =>
    obtain ⟨k, hk, rfl, hf, hb⟩ := hrel
    by_cases hlt : k < n
    · obtain ⟨b, off, rfl, h1, h2, hc⟩ := h.at_ (by omega)
      have ht := h.top
      have hz := hb.size
      have cc : ∀ j, j < n * 3 → wr.cell? ⟨b, off + j, none⟩ = some (.int .i64 (xs.getD j 0)) := fun j hj => (hb.cell (p := ⟨b, off + j, none⟩) (by show b < _; omega)).trans (hc j hj)
      have c0 : wr.cell? ⟨b, off + k * 3, none⟩ = some (.int .i64 (xs.getD (k * 3) 0)) := cc (k * 3) (by omega)
      have c1 : wr.cell? ⟨b, off + k * 3 + 1, none⟩ = some (.int .i64 (xs.getD (k * 3 + 1) 0)) := cc (k * 3 + 1) (by omega)
      have c2 : wr.cell? ⟨b, off + k * 3 + 2, none⟩ = some (.int .i64 (xs.getD (k * 3 + 2) 0)) := cc (k * 3 + 2) (by omega)
      have HL := Lib.hid hf.lt
      have HB := Lib.hid hb
      have HF := Lib.hid hf
      have i0 : (0 : Int) ≤ (k : Int) := by omega
      have i1 : (k : Int) < (n : Int) := by omega
      obtain ⟨x0, hx0⟩ : ∃ x, xs.getD (k * 3) 0 = x := ⟨_, rfl⟩
      obtain ⟨x1, hx1⟩ : ∃ x, xs.getD (k * 3 + 1) 0 = x := ⟨_, rfl⟩
      obtain ⟨x2, hx2⟩ : ∃ x, xs.getD (k * 3 + 2) 0 = x := ⟨_, rfl⟩
      rw [hx0] at c0
      rw [hx1] at c1
      rw [hx2] at c2
      have X0 := Lib.hid hx0
      have X1 := Lib.hid hx1
      have X2 := Lib.hid (show xs.getD (k * 3 + 1 + 1) 0 = x2 from hx2)
      clear hc cc hf hb h hmk hx0 hx1 hx2
      go_wp2_with fail
      refine (toAtom_any _ _ _ _).mono ?_
      rintro e w1 ⟨rfl, k1⟩
      have hl := HL.out
      have f1 := HF.out.keep k1 (by omega)
      have s1 := f1.step (show k * 3 < n * 3 by omega)
      have s2 := s1.step (show k * 3 + 1 < n * 3 by omega)
      have s3 := s2.step (show k * 3 + 1 + 1 < n * 3 by omega)
      obtain ⟨v0, d0⟩ := f1.cell (show k * 3 < n * 3 by omega)
      obtain ⟨v1, d1⟩ := f1.cell (show k * 3 + 1 < n * 3 by omega)
      obtain ⟨v2, d2⟩ := f1.cell (show k * 3 + 2 < n * 3 by omega)
      have z0 := f1.frozen (k * 3)
      have z1 := f1.frozen (k * 3 + 1)
      have z2 := f1.frozen (k * 3 + 2)
      have b1 := (((HB.out.trans (k1.below (B := w.heap.size) (by omega) hz)).setCell (p := ⟨w.heap.size, k * 3, none⟩) (Nat.le_refl _) (.int .i64 x0)).setCell (p := ⟨w.heap.size, k * 3 + 1, none⟩) (Nat.le_refl _) (.int .i64 x1)).setCell (p := ⟨w.heap.size, k * 3 + 2, none⟩) (Nat.le_refl _) (.int .i64 x2)
      rw [X0.out, X1.out, X2.out] at s3
      have F3 := Lib.hid s3
      have B3 := Lib.hid b1
      clear f1 s1 s2 s3 b1 hl HF HB HL c0 c1 c2
      go_wp2_with fail
      go_roundw
      case rel => exact ⟨k + 1, by omega, by go_num, (show (k + 1) * 3 = k * 3 + 1 + 1 + 1 by omega) ▸ F3.out, B3.out⟩
      case measure => simp [intOf]; omega
    · obtain rfl : k = n := by omega
      have hlt' := hf.lt
      go_wp2
      go_ret
      exact ⟨_, rfl, hf.done h.len h.max h.byte (Nat.le_refl _) hlt' (Nat.le_refl _), hb⟩

set_option maxHeartbeats 1000000 in
theorem markAtomS_any (A : Option Addr) (n c lo hi : Nat) (K : Int) (xs : List Int) (w : World) (h : Wi w lo hi A (n * 3) xs) (hK0 : 0 ≤ K) (hK : K + ((n * 3 : Nat) : Int) ≤ 9223372036854775807) :
    Calls Try.prog 80 #[.slice A n c, .int .i64 K] w fun e w' => e = .returned (.int .i64 (K + ((n * 3 : Nat) : Int))) ∧ Wi w' lo hi A (n * 3) (marksI K (n * 3)) ∧ Keep lo hi w w' := by
  by_cases h0 : n = 0
  · subst h0
    go_enter Try.func80, Try.ntmps80
    go_wp2
    refine wp_loop_rounds 1 ?_
    rw [rounds_succ]
    go_wp2
    go_ret
    exact ⟨by simp, ⟨⟨marksI_len _ _, Nat.zero_le _, h.1.top, marksI_wf _ _ hK0 hK, fun h => absurd h (by omega)⟩, fun _ _ _ j hj => absurd hj (by omega)⟩, Keep.refl _ _ _⟩
  · obtain ⟨b, off, rfl, h1, h2, hc⟩ := h.1.at_ (by omega)
    have hfz := h.2 b off rfl
    have hmax := h.1.max
    have htop := h.1.top
    have hp : Pi w b off (n * 3) 0 K := fun j hj => ⟨⟨_, hc j hj⟩, hfz j hj, fun h => by omega⟩
    clear hc hfz h
    go_enter Try.func80, Try.ntmps80
    go_wp2
    go_loopw [1, 5] (fun m i wr => ∃ k : Nat, k ≤ n ∧ i = .int .i64 k ∧ m = .int .i64 (K + ((k * 3 : Nat) : Int)) ∧ Pi wr b off (n * 3) (k * 3) K ∧ Keep lo hi w wr) (fun _ i _ => n - (intOf i).toNat)
    case atStart => exact ⟨0, Nat.zero_le _, rfl, by simp, hp, Keep.refl _ _ _⟩
    case round =>
      obtain ⟨k, hk, rfl, rfl, hpt, hke⟩ := hrel
      by_cases hlt : k < n
      · obtain ⟨⟨v0, d0⟩, z0, _⟩ := hpt (k * 3) (by omega)
        obtain ⟨⟨v1, d1⟩, z1, _⟩ := hpt (k * 3 + 1) (by omega)
        obtain ⟨⟨v2, d2⟩, z2, _⟩ := hpt (k * 3 + 2) (by omega)
        have hs := hpt.step.step.step
        have hke2 := ((hke.setCell (p := ⟨b, off + (k * 3), none⟩) ⟨h1, h2⟩ (.int .i64 (K + ((k * 3 : Nat) : Int)))).setCell (p := ⟨b, off + (k * 3 + 1), none⟩) ⟨h1, h2⟩ (.int .i64 (K + ((k * 3 + 1 : Nat) : Int)))).setCell (p := ⟨b, off + (k * 3 + 1 + 1), none⟩) ⟨h1, h2⟩ (.int .i64 (K + ((k * 3 + 1 + 1 : Nat) : Int)))
        have e1 : K + ((k * 3 + 1 : Nat) : Int) = K + ((k * 3 : Nat) : Int) + 1 := by omega
        have e2 : K + ((k * 3 + 1 + 1 : Nat) : Int) = K + ((k * 3 : Nat) : Int) + 1 + 1 := by omega
        rw [e1, e2] at hs hke2
        simp only [← Nat.add_assoc] at hs hke2 d0 d1 d2 z0 z1 z2
        have HF := Lib.hid hs
        have HB := Lib.hid hke2
        clear hs hke2 hpt hke hp
        have i0 : (0 : Int) ≤ (k : Int) := by omega
        have i1 : (k : Int) < (n : Int) := by omega
        have b3 : K + ((k * 3 : Nat) : Int) + 1 + 1 + 1 ≤ 9223372036854775807 := by omega
        have b0 : 0 ≤ K + ((k * 3 : Nat) : Int) := by omega
        have HE := Lib.hid (show K + ((k * 3 : Nat) : Int) + 1 + 1 + 1 = K + (((k + 1) * 3 : Nat) : Int) by omega)
        generalize K + ((k * 3 : Nat) : Int) = M at *
        clear e1 e2
        go_wp2_with fail
        go_roundw
        case rel => exact ⟨k + 1, by omega, by go_num, by rw [← HE.out], (show (k + 1) * 3 = k * 3 + 1 + 1 + 1 by omega) ▸ HF.out, HB.out⟩
        case measure => simp [intOf]; omega
      · obtain rfl : k = n := by omega
        go_wp2
        go_ret
        exact ⟨rfl, hpt.done h1 h2 (Nat.le_trans htop hke.size) hmax hK0 hK, hke⟩

set_option maxHeartbeats 1000000 in
theorem heldAtomS_any (A : Option Addr) (n c lo hi : Nat) (K : Int) (w : World) (h : Ri w lo hi A (n * 3) (marksI K (n * 3))) (hK0 : 0 ≤ K) (hK : K + ((n * 3 : Nat) : Int) ≤ 9223372036854775807) :
    Calls Try.prog 81 #[.slice A n c, .int .i64 K] w fun e w' => e = .returned (.int .i64 (K + ((n * 3 : Nat) : Int))) ∧ w = w' := by
  go_enter Try.func81, Try.ntmps81
  go_wp2
  go_loop [1, 5] (fun m i => ∃ k : Nat, k ≤ n ∧ i = .int .i64 k ∧ m = .int .i64 (K + ((k * 3 : Nat) : Int))) (fun _ i => n - (intOf i).toNat)
  case atStart => exact ⟨0, Nat.zero_le _, rfl, by simp⟩
  case round =>
    obtain ⟨k, hk, rfl, rfl⟩ := hrel
    by_cases hlt : k < n
    · obtain ⟨b, off, rfl, h1, h2, hc⟩ := h.at_ (by omega)
      have c0 : w.cell? ⟨b, off + k * 3, none⟩ = _ := hc (k * 3) (by omega)
      have c1 : w.cell? ⟨b, off + k * 3 + 1, none⟩ = _ := hc (k * 3 + 1) (by omega)
      have c2 : w.cell? ⟨b, off + k * 3 + 2, none⟩ = _ := hc (k * 3 + 2) (by omega)
      rw [marksI_at K _ _ (by omega)] at c0 c1 c2
      rw [show K + ((k * 3 + 1 : Nat) : Int) = K + ((k * 3 : Nat) : Int) + 1 by omega] at c1
      rw [show K + ((k * 3 + 2 : Nat) : Int) = K + ((k * 3 : Nat) : Int) + 1 + 1 by omega] at c2
      have i0 : (0 : Int) ≤ (k : Int) := by omega
      have i1 : (k : Int) < (n : Int) := by omega
      have b3 : K + ((k * 3 : Nat) : Int) + 1 + 1 + 1 ≤ 9223372036854775807 := by omega
      have b0 : 0 ≤ K + ((k * 3 : Nat) : Int) := by omega
      have HE := Lib.hid (show K + ((k * 3 : Nat) : Int) + 1 + 1 + 1 = K + (((k + 1) * 3 : Nat) : Int) by omega)
      generalize K + ((k * 3 : Nat) : Int) = M at *
      clear hc h
      go_wp2_with fail
      go_round
      case rel => exact ⟨k + 1, by omega, by go_num, by rw [← HE.out]⟩
      case measure => simp [intOf]; omega
    · obtain rfl : k = n := by omega
      go_wp2
      go_ret
      exact ⟨rfl, rfl⟩

set_option maxHeartbeats 2000000 in
theorem eqAtomS_true (A A' : Option Addr) (n c c' lo hi lo' hi' : Nat) (xs : List Int) (w : World) (hint : n ≤ 9223372036854775807) (h : Ri w lo hi A (n * 3) xs) (h' : Ri w lo' hi' A' (n * 3) xs) :
    Calls Try.prog 52 #[.slice A n c, .slice A' n c'] w fun e w' => e = .returned (.bool true) ∧ Keep 0 0 w w' := by
  go_enter Try.func52, Try.ntmps52
  go_wp2_with fail
  go_loopw [5] (fun i wr => ∃ k : Nat, k ≤ n ∧ i = .int .i64 (k : Int) ∧ Keep 0 0 w wr) (fun i _ => n - (intOf i).toNat)
  case atStart => exact ⟨0, Nat.zero_le _, rfl, Keep.refl _ _ _⟩
  case round =>
    obtain ⟨k, hk, rfl, hke⟩ := hrel
    by_cases hlt : k < n
    · have hz := hke.size
      have hr := h.keep hke (by omega)
      have hr' := h'.keep hke (by omega)
      obtain ⟨b, off, rfl, h1, h2, hc⟩ := hr.at_ (by omega)
      obtain ⟨b', off', rfl, h1', h2', hc'⟩ := hr'.at_ (by omega)
      have t1 := hr.top
      have t1' := hr'.top
      have a0 : wr.cell? ⟨b, off + k * 3, none⟩ = _ := hc (k * 3) (by omega)
      have a1 : wr.cell? ⟨b, off + k * 3 + 1, none⟩ = _ := hc (k * 3 + 1) (by omega)
      have a2 : wr.cell? ⟨b, off + k * 3 + 2, none⟩ = _ := hc (k * 3 + 2) (by omega)
      have b0 : wr.cell? ⟨b', off' + k * 3, none⟩ = _ := hc' (k * 3) (by omega)
      have b1 : wr.cell? ⟨b', off' + k * 3 + 1, none⟩ = _ := hc' (k * 3 + 1) (by omega)
      have b2 : wr.cell? ⟨b', off' + k * 3 + 2, none⟩ = _ := hc' (k * 3 + 2) (by omega)
      have i0 : (0 : Int) ≤ (k : Int) := by omega
      have i1 : (k : Int) < (n : Int) := by omega
      generalize xs.getD (k * 3) 0 = xk at *
      generalize xs.getD (k * 3 + 1) 0 = xp at *
      generalize xs.getD (k * 3 + 2) 0 = xq at *
      have kd : Keep 0 0 wr wr.drew := ⟨rfl, rfl, rfl, Nat.le_refl _, fun _ _ _ => rfl⟩
      clear hr hr' hc hc' h h'
      go_wp2_with fail
      go_region_held3 (fun w' => w'.cell? ⟨b, off + k * 3, none⟩ = some (.int .i64 xk) ∧ w'.cell? ⟨b, off + k * 3 + 1, none⟩ = some (.int .i64 xp) ∧ w'.cell? ⟨b, off + k * 3 + 2, none⟩ = some (.int .i64 xq) ∧
          w'.cell? ⟨b', off' + k * 3, none⟩ = some (.int .i64 xk) ∧ w'.cell? ⟨b', off' + k * 3 + 1, none⟩ = some (.int .i64 xp) ∧ w'.cell? ⟨b', off' + k * 3 + 2, none⟩ = some (.int .i64 xq))
        (first
          | go_keep
          | (go_split_ands; refine ⟨?_, ?_, ?_, ?_, ?_, ?_⟩ <;> ((refine (hb.cell (by simp; omega)).trans ?_); assumption)))
        ((go_at_call 84; refine (eqAtom_true xk xp xq _).mono ?_; rintro e v ⟨rfl, kv⟩; have hb := kv.below (B := wr.heap.size) (by omega) (Nat.le_refl _); have kz := kd.trans kv))
      all_goals
        go_wp2_with fail
        go_roundw
        case rel => exact ⟨k + 1, by omega, by go_num, hke.trans kz⟩
        case measure => simp [intOf]; omega
    · have ek : k = n := by omega
      go_wp2_with fail
      go_ret
      exact ⟨rfl, hke⟩
end Go.Proofs.Ytjibfncdkcmhcaa
