/-
  The model's ReplayFault.
-/
import Derived.Test.YtebdgdmdjgkboaaR2
import Derived.Test.YtebdgdmdjgkboaaPut2
namespace Go.Proofs.Ytebdgdmdjgkboaa
open Go.RowKit
set_option linter.unusedVariables false
set_option maxRecDepth 100000

theorem ret_i64 {a b : Int} (h : a = b) : Ending.returned (.int .i64 a) = .returned (.int .i64 b) := by rw [h]
def seenBad (t x : Int) : Prop := ¬ (0 ≤ x ∧ x ≤ t) ∨ x ≤ t - 32
instance (t x : Int) : Decidable (seenBad t x) := by unfold seenBad; infer_instance
def Rising (xs : List Int) : Prop := ∀ i, i < xs.length - 1 → xs.getD i 0 < xs.getD (i + 1) 0
instance (xs : List Int) : Decidable (Rising xs) := by unfold Rising; infer_instance
def AnyBad (t : Int) (xs : List Int) : Prop := ∃ x ∈ xs, seenBad t x
instance (t : Int) (xs : List Int) : Decidable (AnyBad t xs) := by unfold AnyBad; infer_instance
/-- What is wrong with the numbers that were seen. -/
def seenCode (t : Int) (xs : List Int) : Int := if AnyBad t xs then 3 else if Rising xs then 0 else 1
theorem anyBad_at {t : Int} {xs : List Int} {j : Nat} (hj : j < xs.length) (h : seenBad t (xs.getD j 0)) : AnyBad t xs := ⟨_, getD_mem xs j hj, h⟩
theorem not_anyBad {t : Int} {xs : List Int} (h : ∀ j, j < xs.length → ¬ seenBad t (xs.getD j 0)) : ¬ AnyBad t xs := by
  rintro ⟨x, hx, hb⟩
  obtain ⟨j, hj, rfl⟩ := List.getElem_of_mem hx
  exact h j hj (by rw [List.getD_eq_getElem?_getD, List.getElem?_eq_getElem hj]; exact hb)

set_option maxHeartbeats 1000000 in
theorem l4Seen_any (b : Nat) (t : Int) (A : Option Addr) (n c lo hi : Nat) (xs : List Int) (w : World) (hb : b < w.heap.size) (c0 : w.cell? ⟨b, 0, none⟩ = some (.int .i64 t)) (c1 : w.cell? ⟨b, 1, none⟩ = some (.slice A n c)) (h : Ri w lo hi A n xs) (ht : -1 ≤ t ∧ t ≤ 9999) :
    Calls Try.prog 48 #[.pointer (some ⟨b, 0, none⟩)] w fun e w' => e = .returned (.int .i64 (seenCode t xs)) ∧ ∃ q, w' = w.drewN q := by
  have hint := h.int
  have hl := h.len
  go_enter Try.func48, Try.ntmps48
  go_wp2_with fail
  go_loopw [10, 3] (fun i _ wr => ∃ k : Nat, k ≤ n ∧ i = .int .i64 (k : Int) ∧ (∀ j, j < k → ¬ seenBad t (xs.getD j 0)) ∧ ∃ q, wr = w.drewN q) (fun i _ _ => n - (intOf i).toNat)
  case atStart => exact ⟨0, Nat.zero_le _, rfl, fun j hj => by omega, 0, rfl⟩
  case round =>
    obtain ⟨k, hk, rfl, hgood, q, rfl⟩ := hrel
    by_cases hlt : k < n
    · obtain ⟨ab, off, rfl, _, _, hc⟩ := h.at_ (by omega)
      have hck := hc k hlt
      have hbx := h.byteAt (j := k) hlt
      have i0 : (0 : Int) ≤ (k : Int) := by omega
      have i1 : (k : Int) < (n : Int) := by omega
      have hbad : seenBad t (xs.getD k 0) → AnyBad t xs := anyBad_at (by omega)
      have hstep : ¬ seenBad t (xs.getD k 0) → ∀ j, j < k + 1 → ¬ seenBad t (xs.getD j 0) := fun e j hj => by
        by_cases ej : j = k
        · rw [ej]; exact e
        · exact hgood j (by omega)
      generalize xs.getD k 0 = x at *
      have HB := Lib.hid hbad
      have HS := Lib.hid hstep
      clear hbad hstep hgood hc
      by_cases hin : 0 ≤ x ∧ x ≤ t
      · by_cases hlow : x ≤ t - 32
        · have hx : seenBad t x := Or.inr hlow
          go_wp2_with fail
          go_quiet ((go_at_call 44; refine (l1In_any x 0 t _ true (decide_eq_true hin)).mono fun _ _ h => ⟨h.1, _, h.2.symm⟩))
          go_wp2_with fail
          go_ret
          exact ⟨ret_i64 (show (3 : Int) = seenCode t xs from (if_pos (HB.out hx)).symm), q + nq, by simp only [World.drewN_drewN]⟩
        · have hx : ¬ seenBad t x := fun e => e.elim (fun e => e hin) hlow
          go_wp2_with fail
          go_quiet ((go_at_call 44; refine (l1In_any x 0 t _ true (decide_eq_true hin)).mono fun _ _ h => ⟨h.1, _, h.2.symm⟩))
          go_wp2_with fail
          go_roundw
          case rel => exact ⟨k + 1, by omega, by go_num, HS.out hx, _, rfl⟩
          case measure => simp [intOf]; omega
      · have hx : seenBad t x := Or.inl hin
        go_wp2_with fail
        go_quiet ((go_at_call 44; refine (l1In_any x 0 t _ false (decide_eq_false hin)).mono fun _ _ h => ⟨h.1, _, h.2.symm⟩))
        go_wp2_with fail
        go_ret
        exact ⟨ret_i64 (show (3 : Int) = seenCode t xs from (if_pos (HB.out hx)).symm), q + nq, by simp only [World.drewN_drewN]⟩
    · have ek : k = n := by omega
      have hno : ¬ AnyBad t xs := not_anyBad (by rw [hl, ← ek]; exact hgood)
      have HN := Lib.hid hno
      clear hno hgood ek
      go_wp2_with fail
      go_loopw [4] (fun i wr => ∃ k : Nat, 1 ≤ k ∧ (k ≤ n ∨ k = 1) ∧ i = .int .i64 (k : Int) ∧ (∀ j, j < k - 1 → xs.getD j 0 < xs.getD (j + 1) 0) ∧ ∃ q, wr = w.drewN q) (fun i _ => n - (intOf i).toNat)
      case atStart => exact ⟨1, Nat.le_refl _, Or.inr rfl, rfl, fun j hj => by omega, _, rfl⟩
      case round =>
        obtain ⟨m, hm1, hmn, rfl, hrise, q2, rfl⟩ := hrel
        by_cases hlt2 : m < n
        · obtain ⟨ab, off, rfl, _, _, hc⟩ := h.at_ (by omega)
          have hck := hc m hlt2
          have hck' := hc (m - 1) (by omega)
          have i0 : (0 : Int) ≤ (m : Int) := by omega
          have i1 : (m : Int) < (n : Int) := by omega
          have i2 : (0 : Int) ≤ ((m - 1 : Nat) : Int) := by omega
          have i3 : ((m - 1 : Nat) : Int) < (n : Int) := by omega
          have hw : IntKind.i64.wrap ((m : Int) - 1) = ((m - 1 : Nat) : Int) := by rw [IntKind.wrap_i64]; omega
          have hstep : xs.getD (m - 1) 0 < xs.getD m 0 → ∀ j, j < m + 1 - 1 → xs.getD j 0 < xs.getD (j + 1) 0 := fun e j hj => by
            by_cases ej : j = m - 1
            · rw [ej, show m - 1 + 1 = m from by omega]; exact e
            · exact hrise j (by omega)
          have hfall : ¬ xs.getD (m - 1) 0 < xs.getD m 0 → ¬ Rising xs := fun e hr => e (by
            have := hr (m - 1) (by omega)
            rw [show m - 1 + 1 = m from by omega] at this
            exact this)
          generalize xs.getD m 0 = x at *
          generalize xs.getD (m - 1) 0 = y at *
          have HS := Lib.hid hstep
          have HF := Lib.hid hfall
          clear hstep hfall hrise hc
          by_cases hxy : y < x
          · have hxy' : ¬ x ≤ y := by omega
            go_wp2_with fail
            go_quiet (fail)
            go_wp2_with fail
            go_roundw
            case rel => exact ⟨m + 1, by omega, Or.inl (by omega), by go_num, HS.out hxy, _, rfl⟩
            case measure => simp [intOf]; omega
          · have hxy' : x ≤ y := by omega
            go_wp2_with fail
            go_quiet (fail)
            go_wp2_with fail
            go_ret
            exact ⟨ret_i64 (show (1 : Int) = seenCode t xs from by unfold seenCode; rw [if_neg HN.out, if_neg (HF.out hxy)]), q2 + nq, by simp only [World.drewN_drewN]⟩
        · have hri : Rising xs := fun j hj => hrise j (by omega)
          have HR := Lib.hid hri
          clear hri hrise
          go_wp2_with fail
          go_ret
          exact ⟨ret_i64 (show (0 : Int) = seenCode t xs from by unfold seenCode; rw [if_neg HN.out, if_pos HR.out]), _, rfl⟩
end Go.Proofs.Ytebdgdmdjgkboaa
