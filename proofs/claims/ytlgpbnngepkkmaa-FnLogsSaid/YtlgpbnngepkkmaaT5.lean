/-
  The model's SameAtoms.
-/
import Derived.Test.YtlgpbnngepkkmaaT4
namespace Go.Proofs.Ytlgpbnngepkkmaa
open Go.RowKit
set_option linter.unusedVariables false
set_option maxRecDepth 100000

set_option maxHeartbeats 1000000 in
theorem specSameAtoms_any (A A' : Option Addr) (n c m c' lo hi lo' hi' : Nat) (xs ys : List Int) (w : World) (r : Bool) (hn : n ≤ 9223372036854775807) (hm : m ≤ 9223372036854775807) (h : Ri w lo hi A (n * 3) xs) (h' : Ri w lo' hi' A' (m * 3) ys) (hr : decide (xs = ys) = r) :
    Calls Try.prog 25 #[.slice A n c, .slice A' m c'] w fun e w' => e = .returned (.bool r) ∧ Keep 0 0 w w' := by
  have hl := h.len
  have hl' := h'.len
  by_cases hnm : n = m
  · subst hnm
    have HT : Hid ((∀ j, j < n * 3 → xs.getD j 0 = ys.getD j 0) → Ending.returned (.bool true) = .returned (.bool r)) := fun hj => by
      have : xs = ys := List.ext_getElem (by omega) fun i h1 h2 => by
        have := hj i (by omega)
        rwa [List.getD_eq_getElem?_getD, List.getD_eq_getElem?_getD, List.getElem?_eq_getElem h1, List.getElem?_eq_getElem h2] at this
      rw [← hr, decide_eq_true this]
    have HN : Hid (∀ j, xs.getD j 0 ≠ ys.getD j 0 → Ending.returned (.bool false) = .returned (.bool r)) := fun j hj => by
      have : ¬ xs = ys := fun e => hj (by rw [e])
      rw [← hr, decide_eq_false this]
    clear hr
    go_enter Try.func25, Try.ntmps25
    go_wp2_with fail
    go_loopw [13] (fun i wr => ∃ k : Nat, k ≤ n ∧ i = .int .i64 (k : Int) ∧ (∀ j, j < k * 3 → xs.getD j 0 = ys.getD j 0) ∧ ∃ q, wr = w.drewN q) (fun i _ => n - (intOf i).toNat)
    case atStart => exact ⟨0, Nat.zero_le _, rfl, fun j hj => absurd hj (by omega), 0, rfl⟩
    case round =>
      obtain ⟨k, hk, rfl, hj, q, rfl⟩ := hrel
      by_cases hlt : k < n
      · obtain ⟨b, off, rfl, h1, h2, hc⟩ := h.at_ (by omega)
        obtain ⟨b', off', rfl, h1', h2', hc'⟩ := h'.at_ (by omega)
        have a0 : w.cell? ⟨b, off + k * 3, none⟩ = _ := hc (k * 3) (by omega)
        have a1 : w.cell? ⟨b, off + k * 3 + 1, none⟩ = _ := hc (k * 3 + 1) (by omega)
        have a2 : w.cell? ⟨b, off + k * 3 + 2, none⟩ = _ := hc (k * 3 + 2) (by omega)
        have b0 : w.cell? ⟨b', off' + k * 3, none⟩ = _ := hc' (k * 3) (by omega)
        have b1 : w.cell? ⟨b', off' + k * 3 + 1, none⟩ = _ := hc' (k * 3 + 1) (by omega)
        have b2 : w.cell? ⟨b', off' + k * 3 + 2, none⟩ = _ := hc' (k * 3 + 2) (by omega)
        have i0 : (0 : Int) ≤ (k : Int) := by omega
        have i1 : (k : Int) < (n : Int) := by omega
        have HJ := Lib.hid hj
        by_cases he : xs.getD (k * 3) 0 = ys.getD (k * 3) 0 ∧ xs.getD (k * 3 + 1) 0 = ys.getD (k * 3 + 1) 0 ∧ xs.getD (k * 3 + 2) 0 = ys.getD (k * 3 + 2) 0
        · obtain ⟨e0, e1, e2⟩ := he
          have HK : Hid (∀ j, j < (k + 1) * 3 → xs.getD j 0 = ys.getD j 0) := fun j hj' => by
            by_cases g0 : j < k * 3
            · exact hj j g0
            · have g : j = k * 3 ∨ j = k * 3 + 1 ∨ j = k * 3 + 2 := by omega
              rcases g with rfl | rfl | rfl
              · exact e0
              · exact e1
              · exact e2
          rw [← e0] at b0
          rw [← e1] at b1
          rw [← e2] at b2
          clear hj e0 e1 e2 hc hc' h h'
          generalize xs.getD (k * 3) 0 = x0 at *
          generalize xs.getD (k * 3 + 1) 0 = x1 at *
          generalize xs.getD (k * 3 + 2) 0 = x2 at *
          go_wp2_with fail
          go_quiet (fail)
          go_wp2_with fail
          go_roundw
          case rel => exact ⟨k + 1, by omega, by go_num, HK.out, _, rfl⟩
          case measure => simp [intOf]; omega
        · have HR : Ending.returned (.bool false) = .returned (.bool r) := by
            by_cases g0 : xs.getD (k * 3) 0 = ys.getD (k * 3) 0
            · by_cases g1 : xs.getD (k * 3 + 1) 0 = ys.getD (k * 3 + 1) 0
              · exact HN.out _ fun g2 => he ⟨g0, g1, g2⟩
              · exact HN.out _ g1
            · exact HN.out _ g0
          have HR2 := Lib.hid HR
          clear HR hj hc hc' h h'
          generalize xs.getD (k * 3) 0 = x0 at *
          generalize xs.getD (k * 3 + 1) 0 = x1 at *
          generalize xs.getD (k * 3 + 2) 0 = x2 at *
          generalize ys.getD (k * 3) 0 = y0 at *
          generalize ys.getD (k * 3 + 1) 0 = y1 at *
          generalize ys.getD (k * 3 + 2) 0 = y2 at *
          by_cases g0 : x0 = y0
          · subst g0
            by_cases g1 : x1 = y1
            · subst g1
              have g2 : (x2 == y2) = false := by simp; exact fun g2 => he ⟨rfl, rfl, g2⟩
              go_wp2_with fail
              go_quiet (fail)
              go_wp2_with fail
              go_ret
              exact ⟨HR2.out, ((Keep.refl 0 0 w).drewN q).drewN _⟩
            · have g1b : (x1 == y1) = false := by simp [g1]
              go_wp2_with fail
              go_quiet (fail)
              go_wp2_with fail
              go_ret
              exact ⟨HR2.out, ((Keep.refl 0 0 w).drewN q).drewN _⟩
          · have g0b : (x0 == y0) = false := by simp [g0]
            go_wp2_with fail
            go_quiet (fail)
            go_wp2_with fail
            go_ret
            exact ⟨HR2.out, ((Keep.refl 0 0 w).drewN q).drewN _⟩
      · obtain rfl : k = n := by omega
        have HT2 := Lib.hid (HT.out hj)
        go_wp2_with fail
        go_ret
        exact ⟨HT2.out, (Keep.refl 0 0 w).drewN q⟩
  · have HR := Lib.hid (show Ending.returned (.bool false) = .returned (.bool r) from by
      have : ¬ xs = ys := fun e => hnm (by rw [e] at hl; omega)
      rw [← hr, decide_eq_false this])
    have hnb : ((n : Int) == (m : Int)) = false := by simp; omega
    clear hr
    go_enter Try.func25, Try.ntmps25
    go_wp2_with fail
    go_ret
    exact ⟨HR.out, Keep.refl _ _ _⟩
end Go.Proofs.Ytlgpbnngepkkmaa
