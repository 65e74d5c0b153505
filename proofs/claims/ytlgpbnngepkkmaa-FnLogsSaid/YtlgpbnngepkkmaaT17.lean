/-
  The model's SameItems.
-/
import Derived.Test.YtlgpbnngepkkmaaT16
import Derived.Test.YtlgpbnngepkkmaaStr
namespace Go.Proofs.Ytlgpbnngepkkmaa
open Go.RowKit
set_option linter.unusedVariables false
set_option maxRecDepth 100000

theorem l5Same_any (b o b' o' lo hi lo' hi' : Nat) (x y : Itm) (r : Bool) (w : World) (h : ItAt w lo hi b o x) (h' : ItAt w lo' hi' b' o' y) (hr : decide (x = y) = r) :
    Calls Try.prog 68 #[.pointer (some ⟨b, o, none⟩), .pointer (some ⟨b', o', none⟩)] w fun e w' => e = .returned (.bool r) ∧ ∃ m, w' = w.drewN m := by
  obtain ⟨k, xs, p, q⟩ := x
  obtain ⟨k', ys, p', q'⟩ := y
  obtain ⟨a0, ⟨G, c, a1, rg, gz⟩, a2, a3⟩ := h
  obtain ⟨b0, ⟨G', c', b1, rg', gz'⟩, b2, b3⟩ := h'
  refine l5Same_core b o b' o' _ c _ c' G G' k p q k' p' q' (strOfNums xs) (strOfNums ys) r w a0 a1 a2 a3 b0 b1 b2 b3 (fun m => Rd.string (rg.keep ((Keep.refl 0 0 w).drewN m) (by omega)) c) (fun m => Rd.string (rg'.keep ((Keep.refl 0 0 w).drewN m) (by omega)) c') ?_
  rw [str_beq rg.byte rg'.byte, ← hr]
  by_cases e0 : k = k' <;> by_cases e1 : xs = ys <;> by_cases e2 : p = p' <;> by_cases e3 : q = q' <;> simp [e0, e1, e2, e3]

set_option maxHeartbeats 1000000 in
theorem specSameItems_any (A A' : Option Addr) (n c m c' lo hi lo' hi' : Nat) (xs ys : List Itm) (w : World) (r : Bool) (h : Rt w lo hi A n xs) (h' : Rt w lo' hi' A' m ys) (hr : decide (xs = ys) = r) :
    Calls Try.prog 24 #[.slice A n c, .slice A' m c'] w fun e w' => e = .returned (.bool r) ∧ Keep 0 0 w w' := by
  have hl := h.len
  have hl' := h'.len
  have hn := h.int
  have hm := h'.int
  by_cases hnm : n = m
  · subst hnm
    have HT : Hid ((∀ j, j < n → xs.getD j it0 = ys.getD j it0) → Ending.returned (.bool true) = .returned (.bool r)) := fun hj => by
      have : xs = ys := List.ext_getElem (by omega) fun i h1 h2 => by
        have := hj i (by omega)
        rwa [List.getD_eq_getElem?_getD, List.getD_eq_getElem?_getD, List.getElem?_eq_getElem h1, List.getElem?_eq_getElem h2] at this
      rw [← hr, decide_eq_true this]
    have HN : Hid (∀ j, xs.getD j it0 ≠ ys.getD j it0 → Ending.returned (.bool false) = .returned (.bool r)) := fun j hj => by
      have : ¬ xs = ys := fun e => hj (by rw [e])
      rw [← hr, decide_eq_false this]
    clear hr
    go_enter Try.func24, Try.ntmps24
    go_wp2_with fail
    go_loopw [13] (fun i wr => ∃ k : Nat, k ≤ n ∧ i = .int .i64 (k : Int) ∧ (∀ j, j < k → xs.getD j it0 = ys.getD j it0) ∧ ∃ q, wr = w.drewN q) (fun i _ => n - (intOf i).toNat)
    case atStart => exact ⟨0, Nat.zero_le _, rfl, fun j hj => absurd hj (by omega), 0, rfl⟩
    case round =>
      obtain ⟨k, hk, rfl, hj, q, rfl⟩ := hrel
      by_cases hlt : k < n
      · obtain ⟨b, off, rfl, h1, h2, hc⟩ := h.at_ (by omega)
        obtain ⟨b', off', rfl, h1', h2', hc'⟩ := h'.at_ (by omega)
        have ht := h.top
        have ht' := h'.top
        have IX := Lib.hid (fun q' => (hc k hlt).keep ((Keep.refl 0 0 w).drewN q') h2 h1 ht (by omega))
        have IY := Lib.hid (fun q' => (hc' k hlt).keep ((Keep.refl 0 0 w).drewN q') h2' h1' ht' (by omega))
        have i0 : (0 : Int) ≤ (k : Int) := by omega
        have i1 : (k : Int) < (n : Int) := by omega
        by_cases he : xs.getD k it0 = ys.getD k it0
        · have HK : Hid (∀ j, j < k + 1 → xs.getD j it0 = ys.getD j it0) := fun j hj' => by
            by_cases g0 : j < k
            · exact hj j g0
            · obtain rfl : j = k := by omega
              exact he
          have hde : decide (xs.getD k it0 = ys.getD k it0) = true := decide_eq_true he
          clear hj hc hc' h h' he
          generalize xs.getD k it0 = x at *
          generalize ys.getD k it0 = y at *
          go_wp2_with fail
          go_quiet ((go_at_call 68; refine (l5Same_any _ _ _ _ _ _ _ _ x y true _ (IX.out _) (IY.out _) hde).mono fun _ _ h => ⟨h.1, by obtain ⟨m, e⟩ := h.2; exact ⟨_, e.trans ((by rw [World.drewN_drewN] : _ = w.drewN _).trans (congrArg w.drewN (Nat.add_assoc _ _ _)))⟩⟩))
          go_wp2_with fail
          go_roundw
          case rel => exact ⟨k + 1, by omega, by go_num, HK.out, _, rfl⟩
          case measure => simp [intOf]; omega
        · have HR := Lib.hid (HN.out k he)
          have hde : decide (xs.getD k it0 = ys.getD k it0) = false := decide_eq_false he
          clear hj hc hc' h h' he
          generalize xs.getD k it0 = x at *
          generalize ys.getD k it0 = y at *
          go_wp2_with fail
          go_quiet ((go_at_call 68; refine (l5Same_any _ _ _ _ _ _ _ _ x y false _ (IX.out _) (IY.out _) hde).mono fun _ _ h => ⟨h.1, by obtain ⟨m, e⟩ := h.2; exact ⟨_, e.trans ((by rw [World.drewN_drewN] : _ = w.drewN _).trans (congrArg w.drewN (Nat.add_assoc _ _ _)))⟩⟩))
          go_wp2_with fail
          go_ret
          exact ⟨HR.out, ((Keep.refl 0 0 w).drewN q).drewN _⟩
      · obtain rfl : k = n := by omega
        have HT2 := Lib.hid (HT.out hj)
        go_wp2_with fail
        go_ret
        exact ⟨HT2.out, (Keep.refl 0 0 w).drewN q⟩
  · have HR := Lib.hid (show Ending.returned (.bool false) = .returned (.bool r) from by
      have : ¬ xs = ys := fun e => hnm (by rw [e] at hl; omega)
      rw [← hr, decide_eq_false this])
    have hnb : ((n : Int) == (m : Int)) = false := by simp; omega
    clear hr
    go_enter Try.func24, Try.ntmps24
    go_wp2_with fail
    go_ret
    exact ⟨HR.out, Keep.refl _ _ _⟩
end Go.Proofs.Ytlgpbnngepkkmaa
