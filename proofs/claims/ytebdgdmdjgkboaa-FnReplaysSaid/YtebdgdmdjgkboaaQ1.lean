/-
  impl: isTooOld, rises, lastSeen, NewReplay, slices.Equal, SameReplays.
-/
import Derived.Test.YtebdgdmdjgkboaaR6
import Derived.Test.YtebdgdmdjgkboaaR4
import Derived.Test.YtebdgdmdjgkboaaOut
namespace Go.Proofs.Ytebdgdmdjgkboaa
open Go.RowKit
set_option linter.unusedVariables false
set_option maxRecDepth 100000

set_option maxHeartbeats 400000 in
theorem isTooOld_any (t x : Int) (w : World) (r : Bool) (ht : -1 ≤ t ∧ t ≤ 9999) (hr : decide (x ≤ t - 32) = r) :
    Calls Try.prog 43 #[.int .i64 t, .int .i64 x] w fun e w' => e = .returned (.bool r) ∧ w = w' := by
  have hw : IntKind.i64.wrap (t - 32) = t - 32 := by rw [IntKind.wrap_i64]; omega
  have HR := Lib.hid (ret_bool hr)
  clear hr
  go_enter Try.func43, Try.ntmps43
  go_wp2_with fail
  go_ret
  exact ⟨HR.out, rfl⟩

set_option maxHeartbeats 800000 in
theorem rises_any (A : Option Addr) (n c lo hi : Nat) (xs : List Int) (w : World) (r : Bool) (h : Ri w lo hi A n xs) (hr : decide (Rising xs) = r) :
    Calls Try.prog 46 #[.slice A n c] w fun e w' => e = .returned (.bool r) ∧ ∃ q, w' = w.drewN q := by
  have hint := h.int
  have hl := h.len
  have RT : Hid (Rising xs → true = r) := fun e => by rw [← hr]; exact (decide_eq_true e).symm
  have RF : Hid (¬ Rising xs → false = r) := fun e => by rw [← hr]; exact (decide_eq_false e).symm
  clear hr
  go_enter Try.func46, Try.ntmps46
  go_wp2_with fail
  go_loopw [3] (fun i wr => ∃ k : Nat, 1 ≤ k ∧ (k ≤ n ∨ k = 1) ∧ i = .int .i64 (k : Int) ∧ (∀ j, j < k - 1 → xs.getD j 0 < xs.getD (j + 1) 0) ∧ ∃ q, wr = w.drewN q) (fun i _ => n - (intOf i).toNat)
  case atStart => exact ⟨1, Nat.le_refl _, Or.inr rfl, rfl, fun j hj => by omega, 0, rfl⟩
  case round =>
    obtain ⟨m, hm1, hmn, rfl, hrise, q2, rfl⟩ := hrel
    by_cases hlt2 : m < n
    · obtain ⟨ab, off, rfl, _, _, hc⟩ := h.at_ (by omega)
      have hck := hc m hlt2
      have hck' := hc (m - 1) (by omega)
      have i0 : (0 : Int) ≤ (m : Int) := by omega
      have i1 : (m : Int) < (n : Int) := by omega
      have i2 : (0 : Int) ≤ ((m - 1 : Nat) : Int) := by omega
      have i3 : ((m - 1 : Nat) : Int) < (n : Int) := by omega
      have hw : IntKind.i64.wrap ((m : Int) - 1) = ((m - 1 : Nat) : Int) := by rw [IntKind.wrap_i64]; omega
      have hstep : xs.getD (m - 1) 0 < xs.getD m 0 → ∀ j, j < m + 1 - 1 → xs.getD j 0 < xs.getD (j + 1) 0 := fun e j hj => by
        by_cases ej : j = m - 1
        · rw [ej, show m - 1 + 1 = m from by omega]; exact e
        · exact hrise j (by omega)
      have hfall : ¬ xs.getD (m - 1) 0 < xs.getD m 0 → ¬ Rising xs := fun e hr => e (by
        have := hr (m - 1) (by omega)
        rw [show m - 1 + 1 = m from by omega] at this
        exact this)
      generalize xs.getD m 0 = x at *
      generalize xs.getD (m - 1) 0 = y at *
      have HS := Lib.hid hstep
      have HF := Lib.hid hfall
      clear hstep hfall hrise hc
      by_cases hxy : y < x
      · have hxy' : ¬ x ≤ y := by omega
        go_wp2_with fail
        go_quiet (fail)
        go_wp2_with fail
        go_roundw
        case rel => exact ⟨m + 1, by omega, Or.inl (by omega), by go_num, HS.out hxy, _, rfl⟩
        case measure => simp [intOf]; omega
      · have hxy' : x ≤ y := by omega
        go_wp2_with fail
        go_quiet (fail)
        go_wp2_with fail
        go_ret
        exact ⟨ret_bool (RF.out (HF.out hxy)), q2 + nq, by simp only [World.drewN_drewN]⟩
    · have hri : Rising xs := fun j hj => hrise j (by omega)
      have HR := Lib.hid hri
      clear hri hrise
      go_wp2_with fail
      go_ret
      exact ⟨ret_bool (RT.out HR.out), _, rfl⟩

def lastVal (xs : List Int) : Int := if xs.length = 0 then -1 else xs.getD (xs.length - 1) 0
theorem lastVal_nil {xs : List Int} (h : xs.length = 0) : lastVal xs = -1 := if_pos h
theorem lastVal_cons {xs : List Int} (h : xs.length ≠ 0) : lastVal xs = xs.getD (xs.length - 1) 0 := if_neg h
theorem lastBad_iff {t : Int} {xs : List Int} (h : ¬ AnyBad t xs) : lastBad t xs ↔ lastVal xs ≠ t := by
  by_cases hn : xs.length = 0
  · rw [lastVal_nil hn]
    unfold lastBad
    omega
  · rw [lastVal_cons hn]
    have hx : ¬ seenBad t (xs.getD (xs.length - 1) 0) := fun e => h (anyBad_at (by omega) e)
    unfold seenBad at hx
    unfold lastBad
    omega

set_option maxHeartbeats 400000 in
theorem lastSeen_any (A : Option Addr) (n c lo hi : Nat) (xs : List Int) (w : World) (v : Int) (h : Ri w lo hi A n xs) (hv : lastVal xs = v) :
    Calls Try.prog 47 #[.slice A n c] w fun e w' => e = .returned (.int .i64 v) ∧ w = w' := by
  have hint := h.int
  have hl := h.len
  by_cases hn : n = 0
  · have HV := Lib.hid (ret_i64 (show (-1 : Int) = v by rw [← hv]; exact (lastVal_nil (by omega)).symm))
    clear hv
    subst hn
    go_enter Try.func47, Try.ntmps47
    go_wp2_with fail
    go_ret
    exact ⟨HV.out, rfl⟩
  · obtain ⟨ab, off, rfl, _, _, hc⟩ := h.at_ (by omega)
    have hcl := hc (n - 1) (by omega)
    have hw : IntKind.i64.wrap ((n : Int) - 1) = ((n - 1 : Nat) : Int) := by rw [IntKind.wrap_i64]; omega
    have i2 : (0 : Int) ≤ ((n - 1 : Nat) : Int) := by omega
    have i3 : ((n - 1 : Nat) : Int) < (n : Int) := by omega
    have hn' : ¬ (n : Int) = 0 := by omega
    have hn0 : ((n : Int) == 0) = false := by simp; omega
    have HV := Lib.hid (ret_i64 (show xs.getD (n - 1) 0 = v by rw [← hv, lastVal_cons (by omega), hl]))
    generalize xs.getD (n - 1) 0 = x at *
    clear hv hc
    go_enter Try.func47, Try.ntmps47
    go_wp2_with fail
    go_ret
    exact ⟨HV.out, rfl⟩

set_option maxHeartbeats 400000 in
theorem implNewR_any (w : World) :
    Calls Try.prog 14 #[] w fun e w' => ∃ A c, e = .returned (.agg #[.int .i64 0, .int .i64 (-1), .slice A 0 c]) ∧ Below w.heap.size w w' := by
  go_enter Try.func14, Try.ntmps14
  go_wp2_with fail
  exact bodyPost_ret (v := .agg #[.int .i64 0, .int .i64 (-1), .slice none 0 0]) (by simp [results, Try.results14, go_sem]) rfl ⟨none, 0, rfl, (Below.refl _ w).alloc (Nat.le_refl _) _⟩

set_option maxHeartbeats 800000 in
theorem equal_any (A B : Option Addr) (n c m d lo hi lo' hi' : Nat) (xs ys : List Int) (w : World) (r : Bool) (h : Ri w lo hi A n xs) (h' : Ri w lo' hi' B m ys) (hr : decide (xs = ys) = r) :
    Calls Try.prog 41 #[.slice A n c, .slice B m d] w fun e w' => e = .returned (.bool r) ∧ ∃ q, w' = w.drewN q := by
  have hint := h.int
  have hint' := h'.int
  have hl := h.len
  have hl' := h'.len
  have RT : Hid (xs = ys → true = r) := fun e => by rw [← hr]; exact (decide_eq_true e).symm
  have RF : Hid (xs ≠ ys → false = r) := fun e => by rw [← hr]; exact (decide_eq_false e).symm
  clear hr
  by_cases hnm : n = m
  · subst hnm
    go_enter Try.func41, Try.ntmps41
    go_wp2_with fail
    go_loopw [13, 5] (fun i _ wr => ∃ k : Nat, k ≤ n ∧ i = .int .i64 (k : Int) ∧ (∀ j, j < k → xs.getD j 0 = ys.getD j 0) ∧ ∃ q, wr = w.drewN q) (fun i _ _ => n - (intOf i).toNat)
    case atStart => exact ⟨0, Nat.zero_le _, rfl, fun j hj => by omega, 0, rfl⟩
    case round =>
      obtain ⟨k, hk, rfl, hsame, q, rfl⟩ := hrel
      by_cases hlt : k < n
      · obtain ⟨ab, off, rfl, _, _, hc⟩ := h.at_ (by omega)
        obtain ⟨ab', off', rfl, _, _, hc'⟩ := h'.at_ (by omega)
        have hck := hc k hlt
        have hck' := hc' k hlt
        have i0 : (0 : Int) ≤ (k : Int) := by omega
        have i1 : (k : Int) < (n : Int) := by omega
        have hne : xs.getD k 0 ≠ ys.getD k 0 → xs ≠ ys := fun e e2 => e (by rw [e2])
        have hstep : xs.getD k 0 = ys.getD k 0 → ∀ j, j < k + 1 → xs.getD j 0 = ys.getD j 0 := fun e j hj => by
          by_cases ej : j = k
          · rw [ej]; exact e
          · exact hsame j (by omega)
        generalize xs.getD k 0 = x at *
        generalize ys.getD k 0 = y at *
        have HN := Lib.hid hne
        have HS := Lib.hid hstep
        clear hne hstep hsame hc hc'
        by_cases hxy : x = y
        · have HS' := Lib.hid (HS.out hxy)
          clear HN HS
          subst hxy
          go_wp2_with fail
          go_quiet (fail)
          go_wp2_with fail
          go_roundw
          case rel => exact ⟨k + 1, by omega, by go_num, HS'.out, _, rfl⟩
          case measure => simp [intOf]; omega
        · have hxb : (x != y) = true := by simp [hxy]
          go_wp2_with fail
          go_quiet (fail)
          go_wp2_with fail
          go_ret
          exact ⟨ret_bool (RF.out (HN.out hxy)), q + nq, by simp only [World.drewN_drewN]⟩
      · have he : xs = ys := list_ext_at (by omega) (fun j hj => hsame j (by omega))
        have HE := Lib.hid he
        clear he hsame
        go_wp2_with fail
        go_ret
        exact ⟨ret_bool (RT.out HE.out), q, rfl⟩
  · have hne : ¬ (n : Int) = (m : Int) := by omega
    have HX := Lib.hid (RF.out (fun e => hnm (by rw [← hl, ← hl', e])))
    clear RT RF
    go_enter Try.func41, Try.ntmps41
    go_wp2_with fail
    go_ret
    exact ⟨ret_bool HX.out, 0, rfl⟩

set_option maxHeartbeats 800000 in
theorem implSameR_any (t u : Int) (A B : Option Addr) (n c m d lo hi lo' hi' : Nat) (xs ys : List Int) (w : World) (r : Bool) (h : Ri w lo hi A n xs) (h' : Ri w lo' hi' B m ys) (hr : decide (t = u ∧ xs = ys) = r) :
    Calls Try.prog 16 #[.agg #[.int .i64 t, .slice A n c], .agg #[.int .i64 u, .slice B m d]] w fun e w' => e = .returned (.bool r) ∧ Keep 0 0 w w' := by
  have k1 := ((Keep.refl 0 0 w).alloc (.cells #[.int .i64 t, .slice A n c] 26)).alloc (.cells #[.int .i64 u, .slice B m d] 26)
  have r1 := h.keep k1 (by omega)
  have r2 := h'.keep k1 (by omega)
  have KA := Lib.hid k1
  clear k1 h h'
  by_cases htu : t = u
  · have hq : decide (xs = ys) = r := by rw [← hr]; simp [htu]
    subst htu
    go_enter Try.func16, Try.ntmps16
    go_wp2_with fail
    refine (equal_any A B n c m d lo hi lo' hi' xs ys _ r r1 r2 hq).mono ?_
    rintro e w1 ⟨rfl, q, rfl⟩
    go_wp2_with fail
    go_ret
    exact ⟨rfl, KA.out.drewN q⟩
  · have hq : false = r := by rw [← hr]; simp [htu]
    have HX := Lib.hid (ret_bool hq)
    have htb : (t == u) = false := by simp [htu]
    clear hq hr
    go_enter Try.func16, Try.ntmps16
    go_wp2_with fail
    go_ret
    exact ⟨HX.out, KA.out⟩
end Go.Proofs.Ytebdgdmdjgkboaa
