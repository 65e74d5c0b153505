/-
  The model's SameReplays, NewReplay.
-/
import Derived.Test.YtebdgdmdjgkboaaR2
import Derived.Test.YtebdgdmdjgkboaaStr
namespace Go.Proofs.Ytebdgdmdjgkboaa
open Go.RowKit
set_option linter.unusedVariables false
set_option maxRecDepth 100000

theorem list_ext_at {xs ys : List Int} (hl : xs.length = ys.length) (h : ∀ j, j < xs.length → xs.getD j 0 = ys.getD j 0) : xs = ys := by
  refine List.ext_getElem hl fun j h1 h2 => ?_
  have := h j h1
  rwa [List.getD_eq_getElem?_getD, List.getD_eq_getElem?_getD, List.getElem?_eq_getElem h1, List.getElem?_eq_getElem h2] at this

set_option maxHeartbeats 800000 in
theorem specSameR_any (t u : Int) (A B : Option Addr) (n c m d lo hi lo' hi' : Nat) (xs ys : List Int) (w : World) (r : Bool) (h : Ri w lo hi A n xs) (h' : Ri w lo' hi' B m ys) (hr : decide (t = u ∧ xs = ys) = r) :
    Calls Try.prog 19 #[.agg #[.int .i64 t, .slice A n c], .agg #[.int .i64 u, .slice B m d]] w fun e w' => e = .returned (.bool r) ∧ Keep 0 0 w w' := by
  have hint := h.int
  have hint' := h'.int
  have hl := h.len
  have hl' := h'.len
  have k1 := ((Keep.refl 0 0 w).alloc (.cells #[.int .i64 t, .slice A n c] 26)).alloc (.cells #[.int .i64 u, .slice B m d] 26)
  have r1 := h.keep k1 (by omega)
  have r2 := h'.keep k1 (by omega)
  have KA := Lib.hid k1
  have RT : Hid (t = u → xs = ys → true = r) := fun e1 e2 => by rw [← hr]; exact (decide_eq_true ⟨e1, e2⟩).symm
  have RF : Hid (¬ (t = u ∧ xs = ys) → false = r) := fun e => by rw [← hr]; exact (decide_eq_false e).symm
  clear k1 h h' hr
  by_cases htu : t = u
  · by_cases hnm : n = m
    · have RT' := Lib.hid (RT.out htu)
      have RF' : Hid (xs ≠ ys → false = r) := fun e => RF.out (fun e2 => e e2.2)
      clear RT RF
      subst htu
      subst hnm
      go_enter Try.func19, Try.ntmps19
      go_wp2_with fail
      have c01 : ((w.alloc (.cells #[.int .i64 t, .slice A n c] 26)).alloc (.cells #[.int .i64 t, .slice B n d] 26)).cell? ⟨w.heap.size, 1, none⟩ = some (.slice A n c) := by simp [go_sem]
      have c11 : ((w.alloc (.cells #[.int .i64 t, .slice A n c] 26)).alloc (.cells #[.int .i64 t, .slice B n d] 26)).cell? ⟨w.heap.size + 1, 1, none⟩ = some (.slice B n d) := by simp [go_sem]
      generalize hw2 : (w.alloc (.cells #[.int .i64 t, .slice A n c] 26)).alloc (.cells #[.int .i64 t, .slice B n d] 26) = w2 at *
      clear hw2
      go_loopw [23, 5] (fun i _ wr => ∃ k : Nat, k ≤ n ∧ i = .int .i64 (k : Int) ∧ (∀ j, j < k → xs.getD j 0 = ys.getD j 0) ∧ ∃ q, wr = w2.drewN q) (fun i _ _ => n - (intOf i).toNat)
      case atStart => exact ⟨0, Nat.zero_le _, rfl, fun j hj => by omega, 0, rfl⟩
      case round =>
        obtain ⟨k, hk, rfl, hsame, q, rfl⟩ := hrel
        by_cases hlt : k < n
        · obtain ⟨ab, off, rfl, _, _, hc⟩ := r1.at_ (by omega)
          obtain ⟨ab', off', rfl, _, _, hc'⟩ := r2.at_ (by omega)
          have hck := hc k hlt
          have hck' := hc' k hlt
          have i0 : (0 : Int) ≤ (k : Int) := by omega
          have i1 : (k : Int) < (n : Int) := by omega
          have hne : xs.getD k 0 ≠ ys.getD k 0 → xs ≠ ys := fun e e2 => e (by rw [e2])
          have hstep : xs.getD k 0 = ys.getD k 0 → ∀ j, j < k + 1 → xs.getD j 0 = ys.getD j 0 := fun e j hj => by
            by_cases ej : j = k
            · rw [ej]; exact e
            · exact hsame j (by omega)
          generalize xs.getD k 0 = x at *
          generalize ys.getD k 0 = y at *
          have HN := Lib.hid hne
          have HS := Lib.hid hstep
          clear hne hstep hsame hc hc'
          by_cases hxy : x = y
          · have HS' := Lib.hid (HS.out hxy)
            clear HN HS
            subst hxy
            go_wp2_with fail
            go_quiet (fail)
            go_wp2_with fail
            go_roundw
            case rel => exact ⟨k + 1, by omega, by go_num, HS'.out, _, rfl⟩
            case measure => simp [intOf]; omega
          · have hxb : (x != y) = true := by simp [hxy]
            go_wp2_with fail
            go_quiet (fail)
            go_wp2_with fail
            go_ret
            exact ⟨ret_bool (RF'.out (HN.out hxy)), (KA.out.drewN q).drewN nq⟩
        · have he : xs = ys := list_ext_at (by omega) (fun j hj => hsame j (by omega))
          have HE := Lib.hid he
          clear he hsame
          go_wp2_with fail
          go_ret
          exact ⟨ret_bool (RT'.out HE.out), KA.out.drewN q⟩
    · have hne : ¬ (n : Int) = (m : Int) := by omega
      have HX := Lib.hid (RF.out (fun e => hnm (by rw [← hl, ← hl', e.2])))
      clear RT RF
      subst htu
      go_enter Try.func19, Try.ntmps19
      go_wp2_with fail
      go_ret
      exact ⟨ret_bool HX.out, KA.out⟩
  · have htb : (t != u) = true := by simp [htu]
    go_enter Try.func19, Try.ntmps19
    go_wp2_with fail
    go_ret
    exact ⟨ret_bool (RF.out fun e => htu e.1), KA.out⟩

set_option maxHeartbeats 400000 in
theorem specNewR_any (w : World) :
    Calls Try.prog 22 #[] w fun e w' => e = .returned (.agg #[.int .i64 0, .int .i64 (-1), .slice none 0 0]) ∧ Keep 0 0 w w' := by
  go_enter Try.func22, Try.ntmps22
  go_wp2_with fail
  exact bodyPost_ret (v := .agg #[.int .i64 0, .int .i64 (-1), .slice none 0 0]) (by simp [results, Try.results22, go_sem]) rfl ⟨rfl, (Keep.refl 0 0 w).alloc _⟩
end Go.Proofs.Ytebdgdmdjgkboaa
