/-
  The model's CheckReplay.
-/
import Derived.Test.YtebdgdmdjgkboaaR4
import Derived.Test.YtebdgdmdjgkboaaStr
namespace Go.Proofs.Ytebdgdmdjgkboaa
open Go.RowKit
set_option linter.unusedVariables false
set_option maxRecDepth 100000

theorem mem_at {xs : List Int} {j : Nat} (hj : j < xs.length) : xs.getD j 0 ∈ xs := getD_mem xs j hj
theorem not_mem_of {xs : List Int} {v : Int} (h : ∀ j, j < xs.length → xs.getD j 0 ≠ v) : v ∉ xs := by
  intro hv
  obtain ⟨j, hj, e⟩ := List.getElem_of_mem hv
  exact h j hj (by rw [List.getD_eq_getElem?_getD, List.getElem?_eq_getElem hj]; exact e)

set_option maxHeartbeats 400000 in
theorem l4Has_any (A : Option Addr) (n c lo hi : Nat) (v : Int) (xs : List Int) (w : World) (r : Bool) (h : Ri w lo hi A n xs) (hr : decide (v ∈ xs) = r) :
    Calls Try.prog 45 #[.slice A n c, .int .i64 v] w fun e w' => e = .returned (.bool r) ∧ w = w' := by
  subst hr
  have hint := h.int
  have hl := h.len
  go_enter Try.func45, Try.ntmps45
  go_wp2_with fail
  go_loop [8, 5] (fun i _ => ∃ k : Nat, k ≤ n ∧ i = .int .i64 (k : Int) ∧ ∀ j, j < k → xs.getD j 0 ≠ v) (fun i _ => n - (intOf i).toNat)
  case atStart => exact ⟨0, Nat.zero_le _, rfl, fun j hj => by omega⟩
  case round =>
    obtain ⟨k, hk, rfl, hno⟩ := hrel
    by_cases hlt : k < n
    · obtain ⟨ab, off, rfl, _, _, hc⟩ := h.at_ (by omega)
      have hck := hc k hlt
      have i0 : (0 : Int) ≤ (k : Int) := by omega
      have i1 : (k : Int) < (n : Int) := by omega
      have hin : xs.getD k 0 = v → v ∈ xs := fun e => e ▸ mem_at (by omega)
      have hstep : xs.getD k 0 ≠ v → ∀ j, j < k + 1 → xs.getD j 0 ≠ v := fun e j hj => by
        by_cases ej : j = k
        · rw [ej]; exact e
        · exact hno j (by omega)
      generalize xs.getD k 0 = x at *
      have HI := Lib.hid hin
      have HS := Lib.hid hstep
      clear hin hstep hno hc
      by_cases hx : x = v
      · have HM := Lib.hid (HI.out hx)
        clear HI
        subst hx
        go_wp2_with fail
        go_ret
        exact ⟨ret_bool (decide_eq_true HM.out).symm, rfl⟩
      · go_wp2_with fail
        go_round
        case rel => exact ⟨k + 1, by omega, by go_num, HS.out hx⟩
        case measure => simp [intOf]; omega
    · have hnm : v ∉ xs := not_mem_of (fun j hj => hno j (by omega))
      have HN := Lib.hid hnm
      clear hnm hno
      go_wp2_with fail
      go_ret
      exact ⟨ret_bool (decide_eq_false HN.out).symm, rfl⟩

def oldSeq (t : Int) (xs : List Int) (sq : Int) : Prop := t ≠ -1 ∧ (sq ≤ t - 32 ∨ sq ∈ xs)
instance (t : Int) (xs : List Int) (sq : Int) : Decidable (oldSeq t xs sq) := by unfold oldSeq; infer_instance
def checkCode (t : Int) (xs : List Int) (sq : Int) : Int := if faultCode t xs ≠ 0 then faultCode t xs else if ¬ (0 ≤ sq ∧ sq ≤ 9999) then 3 else if oldSeq t xs sq then 9 else 0
theorem check_fault {t : Int} {xs : List Int} {sq : Int} (h : faultCode t xs ≠ 0) : checkCode t xs sq = faultCode t xs := if_pos h
theorem check_range {t : Int} {xs : List Int} {sq : Int} (h : faultCode t xs = 0) (hs : ¬ (0 ≤ sq ∧ sq ≤ 9999)) : checkCode t xs sq = 3 := by unfold checkCode; rw [if_neg (by omega), if_pos hs]
theorem check_old {t : Int} {xs : List Int} {sq : Int} (h : faultCode t xs = 0) (hs : 0 ≤ sq ∧ sq ≤ 9999) (ho : oldSeq t xs sq) : checkCode t xs sq = 9 := by unfold checkCode; rw [if_neg (by omega), if_neg (by simpa using hs), if_pos ho]
theorem check_ok {t : Int} {xs : List Int} {sq : Int} (h : faultCode t xs = 0) (hs : 0 ≤ sq ∧ sq ≤ 9999) (ho : ¬ oldSeq t xs sq) : checkCode t xs sq = 0 := by unfold checkCode; rw [if_neg (by omega), if_neg (by simpa using hs), if_neg ho]
theorem fault_topOk {t : Int} {xs : List Int} (h : faultCode t xs = 0) : t = -1 ∨ (0 ≤ t ∧ t ≤ 9999) := by
  by_cases hb : topBad t
  · rw [fault_top hb] at h; omega
  · unfold topBad at hb
    by_cases e : t = -1
    · exact Or.inl e
    · exact Or.inr (by
        by_cases e2 : 0 ≤ t ∧ t ≤ 9999
        · exact e2
        · exact absurd ⟨e, e2⟩ hb)

set_option maxHeartbeats 800000 in
theorem specCheck_any (t sq : Int) (A : Option Addr) (n c lo hi : Nat) (xs : List Int) (w : World) (h : Ri w lo hi A n xs) (ht : -9223372036854775808 ≤ t ∧ t ≤ 9223372036854775807) :
    Calls Try.prog 18 #[.agg #[.int .i64 t, .slice A n c], .int .i64 sq] w fun e w' => e = .returned (.int .i64 (checkCode t xs sq)) ∧ Keep 0 0 w w' := by
  have hint := h.int
  have hl := h.len
  have k1 := (Keep.refl 0 0 w).alloc (.cells #[.int .i64 t, .slice A n c] 26)
  have r1 := h.keep k1 (by omega)
  by_cases hf : faultCode t xs = 0
  · by_cases hin : 0 ≤ sq ∧ sq ≤ 9999
    · by_cases hm : t = -1
      · have HR := Lib.hid (ret_i64 (check_ok hf hin (fun e => e.1 hm)).symm)
        subst hm
        have KA := Lib.hid k1
        clear k1
        go_enter Try.func18, Try.ntmps18
        go_wp2_with fail
        refine (specFault_any (-1) A n c lo hi xs _ r1 (by omega)).mono ?_
        rintro e w1 ⟨rfl, k2⟩
        have c0 := (k2.cell (p := ⟨w.heap.size, 0, none⟩) (by simp) (by show w.heap.size < 0 ∨ 0 ≤ w.heap.size; omega))
        have c1 := (k2.cell (p := ⟨w.heap.size, 1, none⟩) (by simp) (by show w.heap.size < 0 ∨ 0 ≤ w.heap.size; omega))
        simp [go_sem] at c0 c1
        have r2 := r1.keep k2 (by omega)
        have KB := Lib.hid (KA.out.trans k2)
        clear k2 r1 h
        rw [hf]
        go_wp2_with fail
        refine (l1In_any sq 0 9999 _ true (decide_eq_true hin)).mono ?_
        rintro e w2 ⟨rfl, rfl⟩
        go_wp2_with fail
        go_ret
        exact ⟨HR.out, KB.out⟩
      · have htt := (fault_topOk hf).elim (fun e => absurd e hm) id
        have hmb' : (t != -1) = true := by simp [hm]
        by_cases hlow : sq ≤ t - 32
        · have HR := Lib.hid (ret_i64 (check_old hf hin ⟨hm, Or.inl hlow⟩).symm)
          have KA := Lib.hid k1
          clear k1
          go_enter Try.func18, Try.ntmps18
          go_wp2_with fail
          refine (specFault_any t A n c lo hi xs _ r1 (by omega)).mono ?_
          rintro e w1 ⟨rfl, k2⟩
          have c0 := (k2.cell (p := ⟨w.heap.size, 0, none⟩) (by simp) (by show w.heap.size < 0 ∨ 0 ≤ w.heap.size; omega))
          have c1 := (k2.cell (p := ⟨w.heap.size, 1, none⟩) (by simp) (by show w.heap.size < 0 ∨ 0 ≤ w.heap.size; omega))
          simp [go_sem] at c0 c1
          have r2 := r1.keep k2 (by omega)
          have KB := Lib.hid (KA.out.trans k2)
          clear k2 r1 h
          rw [hf]
          go_wp2_with fail
          refine (l1In_any sq 0 9999 _ true (decide_eq_true hin)).mono ?_
          rintro e w2 ⟨rfl, rfl⟩
          go_wp2_with fail
          go_ret
          exact ⟨HR.out, KB.out⟩
        · by_cases hmem : sq ∈ xs
          · have HR := Lib.hid (ret_i64 (check_old hf hin ⟨hm, Or.inr hmem⟩).symm)
            have KA := Lib.hid k1
            clear k1
            go_enter Try.func18, Try.ntmps18
            go_wp2_with fail
            refine (specFault_any t A n c lo hi xs _ r1 (by omega)).mono ?_
            rintro e w1 ⟨rfl, k2⟩
            have c0 := (k2.cell (p := ⟨w.heap.size, 0, none⟩) (by simp) (by show w.heap.size < 0 ∨ 0 ≤ w.heap.size; omega))
            have c1 := (k2.cell (p := ⟨w.heap.size, 1, none⟩) (by simp) (by show w.heap.size < 0 ∨ 0 ≤ w.heap.size; omega))
            simp [go_sem] at c0 c1
            have r2 := r1.keep k2 (by omega)
            have KB := Lib.hid (KA.out.trans k2)
            clear k2 r1 h
            rw [hf]
            go_wp2_with fail
            refine (l1In_any sq 0 9999 _ true (decide_eq_true hin)).mono ?_
            rintro e w2 ⟨rfl, rfl⟩
            go_wp2_with fail
            refine (l4Has_any A n c lo hi sq xs _ true r2 (decide_eq_true hmem)).mono ?_
            rintro e w3 ⟨rfl, rfl⟩
            go_wp2_with fail
            go_ret
            exact ⟨HR.out, KB.out⟩
          · have HR := Lib.hid (ret_i64 (check_ok hf hin (fun e => e.2.elim (fun e => hlow e) (fun e => hmem e))).symm)
            have KA := Lib.hid k1
            clear k1
            go_enter Try.func18, Try.ntmps18
            go_wp2_with fail
            refine (specFault_any t A n c lo hi xs _ r1 (by omega)).mono ?_
            rintro e w1 ⟨rfl, k2⟩
            have c0 := (k2.cell (p := ⟨w.heap.size, 0, none⟩) (by simp) (by show w.heap.size < 0 ∨ 0 ≤ w.heap.size; omega))
            have c1 := (k2.cell (p := ⟨w.heap.size, 1, none⟩) (by simp) (by show w.heap.size < 0 ∨ 0 ≤ w.heap.size; omega))
            simp [go_sem] at c0 c1
            have r2 := r1.keep k2 (by omega)
            have KB := Lib.hid (KA.out.trans k2)
            clear k2 r1 h
            rw [hf]
            go_wp2_with fail
            refine (l1In_any sq 0 9999 _ true (decide_eq_true hin)).mono ?_
            rintro e w2 ⟨rfl, rfl⟩
            go_wp2_with fail
            refine (l4Has_any A n c lo hi sq xs _ false r2 (decide_eq_false hmem)).mono ?_
            rintro e w3 ⟨rfl, rfl⟩
            go_wp2_with fail
            go_ret
            exact ⟨HR.out, KB.out⟩
    · have HR := Lib.hid (ret_i64 (check_range hf hin).symm)
      have KA := Lib.hid k1
      clear k1
      go_enter Try.func18, Try.ntmps18
      go_wp2_with fail
      refine (specFault_any t A n c lo hi xs _ r1 (by omega)).mono ?_
      rintro e w1 ⟨rfl, k2⟩
      have c0 := (k2.cell (p := ⟨w.heap.size, 0, none⟩) (by simp) (by show w.heap.size < 0 ∨ 0 ≤ w.heap.size; omega))
      have c1 := (k2.cell (p := ⟨w.heap.size, 1, none⟩) (by simp) (by show w.heap.size < 0 ∨ 0 ≤ w.heap.size; omega))
      simp [go_sem] at c0 c1
      have r2 := r1.keep k2 (by omega)
      have KB := Lib.hid (KA.out.trans k2)
      clear k2 r1 h
      rw [hf]
      go_wp2_with fail
      refine (l1In_any sq 0 9999 _ false (decide_eq_false hin)).mono ?_
      rintro e w2 ⟨rfl, rfl⟩
      go_wp2_with fail
      go_ret
      exact ⟨HR.out, KB.out⟩
  · have HR := Lib.hid (ret_i64 (check_fault (sq := sq) hf).symm)
    have KA := Lib.hid k1
    clear k1
    go_enter Try.func18, Try.ntmps18
    go_wp2_with fail
    refine (specFault_any t A n c lo hi xs _ r1 (by omega)).mono ?_
    rintro e w1 ⟨rfl, k2⟩
    have c0 := (k2.cell (p := ⟨w.heap.size, 0, none⟩) (by simp) (by show w.heap.size < 0 ∨ 0 ≤ w.heap.size; omega))
    have c1 := (k2.cell (p := ⟨w.heap.size, 1, none⟩) (by simp) (by show w.heap.size < 0 ∨ 0 ≤ w.heap.size; omega))
    simp [go_sem] at c0 c1
    have r2 := r1.keep k2 (by omega)
    have KB := Lib.hid (KA.out.trans k2)
    clear k2 r1 h
    go_wp2_with fail
    go_ret
    exact ⟨HR.out, KB.out⟩
end Go.Proofs.Ytebdgdmdjgkboaa
