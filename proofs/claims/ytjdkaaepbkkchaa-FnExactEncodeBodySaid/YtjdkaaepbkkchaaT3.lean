/-
  How much a list of items holds; the model's l5Items.
-/
import Derived.Test.YtjdkaaepbkkchaaT2
namespace Go.Proofs.Ytjdkaaepbkkchaa
open Go.RowKit
set_option linter.unusedVariables false
set_option maxRecDepth 100000

def sumLen (xs : List Itm) : Nat := (xs.map fun x => x.2.1.length).sum
theorem sumLen_take (xs : List Itm) (k : Nat) (hk : k < xs.length) : sumLen (xs.take (k + 1)) = sumLen (xs.take k) + (xs.getD k it0).2.1.length := by
  have h1 : xs.take (k + 1) = xs.take k ++ [xs.getD k it0] := by
    rw [List.take_succ_eq_append_getElem hk, List.getD_eq_getElem?_getD, List.getElem?_eq_getElem hk]
    rfl
  unfold sumLen
  rw [h1, List.map_append, List.sum_append]
  simp only [List.map_cons, List.map_nil, List.sum_cons, List.sum_nil, Nat.add_zero]
theorem sumLen_take_le (xs : List Itm) (k : Nat) : sumLen (xs.take k) ≤ sumLen xs := by
  have : sumLen (xs.take k ++ xs.drop k) = sumLen (xs.take k) + sumLen (xs.drop k) := by
    unfold sumLen
    rw [List.map_append, List.sum_append]
  rw [List.take_append_drop] at this
  omega
theorem sumLen_at (xs : List Itm) (k : Nat) (hk : k < xs.length) : (xs.getD k it0).2.1.length ≤ sumLen xs := by
  have h1 := sumLen_take xs k hk
  have h2 := sumLen_take_le xs (k + 1)
  omega
/-- What szItemS leaves. -/
def szT (left : Int) (xs : List Itm) : Int := if left < (xs.length : Int) + sumLen xs then -1 else left - xs.length - sumLen xs

set_option maxHeartbeats 1000000 in
theorem szItemS_any (A : Option Addr) (n c lo hi : Nat) (xs : List Itm) (left : Int) (w : World) (h : Rt w lo hi A n xs) (h0 : 0 ≤ left) (h1 : left ≤ 1099511627776) :
    Calls Try.prog 23 #[.slice A n c, .int .i64 left] w fun e w' => e = .returned (.int .i64 (szT left xs)) ∧ Keep 0 0 w w' := by
  have hint := h.int
  have hl := h.len
  by_cases hs : left - (n : Int) < 0
  · have HR := Lib.hid (ret_int (show (-1 : Int) = szT left xs from by unfold szT; rw [if_pos (by omega)]))
    go_enter Try.func23, Try.ntmps23
    go_wp2_with fail
    go_ret
    exact ⟨HR.out, Keep.refl _ _ _⟩
  · go_enter Try.func23, Try.ntmps23
    go_wp2_with fail
    go_loopw [1, 5] (fun m i wr => ∃ k : Nat, k ≤ n ∧ i = .int .i64 (k : Int) ∧ m = .int .i64 (left - (n : Int) - (sumLen (xs.take k) : Int)) ∧ 0 ≤ left - (n : Int) - (sumLen (xs.take k) : Int) ∧ Keep 0 0 w wr) (fun _ i _ => n - (intOf i).toNat)
    case atStart => exact ⟨0, Nat.zero_le _, rfl, by simp [sumLen], by simp [sumLen]; omega, Keep.refl _ _ _⟩
    case round =>
      obtain ⟨k, hk, rfl, rfl, hm, hke⟩ := hrel
      by_cases hlt : k < n
      · have hr := h.keep hke (by omega)
        obtain ⟨b, off, rfl, _, _, hc⟩ := hr.at_ (by omega)
        obtain ⟨a0, ⟨G, cg, a1, rg, _⟩, a2, a3⟩ := hc k hlt
        have i0 : (0 : Int) ≤ (k : Int) := by omega
        have i1 : (k : Int) < (n : Int) := by omega
        have hst := sumLen_take xs k (by omega)
        have hsl := sumLen_take_le xs (k + 1)
        have hzT : left - (n : Int) - (sumLen (xs.take k) : Int) < ((xs.getD k it0).2.1.length : Int) → szT left xs = -1 := fun e => by unfold szT; rw [if_pos (by omega)]
        generalize xs.getD k it0 = x at *
        obtain ⟨xk, xb, xp, xq⟩ := x
        simp only at a0 a1 a2 a3 rg hst hzT
        have hxl := rg.int
        generalize xb.length = ln at *
        generalize hsk : (sumLen (xs.take k) : Int) = sk at *
        generalize hsk1 : sumLen (xs.take (k + 1)) = sk1 at *
        have HST := Lib.hid hst
        have HSK := Lib.hid hsk
        have HS1 := Lib.hid hsk1
        have hml : 0 ≤ left - (n : Int) - sk ∧ left - (n : Int) - sk ≤ 1099511627776 := by omega
        generalize hmm : left - (n : Int) - sk = m at *
        have HMM := Lib.hid hmm
        clear hst hsk hsk1 hmm hr hc
        by_cases hneg : m < (ln : Int)
        · have HZ := Lib.hid (ret_int (hzT hneg).symm)
          clear hzT
          go_wp2_with fail
          have hz := szItem_any xk xp xq G ln cg m wr hml.1 hml.2 hxl
          rw [if_pos hneg] at hz
          refine hz.mono ?_
          rintro e w1 ⟨rfl, k1⟩
          go_wp2_with fail
          go_ret
          exact ⟨HZ.out, hke.trans k1⟩
        · clear hzT
          have hz := szItem_any xk xp xq G ln cg m wr hml.1 hml.2 hxl
          rw [if_neg hneg] at hz
          have hnn : ¬ m - (ln : Int) < 0 := by omega
          have HZ := Lib.hid hz
          clear hz
          go_wp2_with fail
          refine HZ.out.mono ?_
          rintro e w1 ⟨rfl, k1⟩
          go_wp2_with fail
          go_roundw
          case rel => exact ⟨k + 1, by omega, by go_num, by rw [HS1.out, HST.out, ← HMM.out, ← HSK.out]; congr 1; push_cast; omega, by rw [HS1.out, HST.out]; have := HMM.out; have := HSK.out; push_cast; omega, hke.trans k1⟩
          case measure => simp [intOf]; omega
      · have ek : k = n := by omega
        have hxt : xs.take k = xs := List.take_of_length_le (by omega)
        have HZ := Lib.hid (ret_int (show left - (n : Int) - (sumLen (xs.take k) : Int) = szT left xs from by rw [hxt] at hm ⊢; unfold szT; rw [if_neg (by omega), hl]))
        generalize left - (n : Int) - (sumLen (xs.take k) : Int) = m at *
        go_wp2_with fail
        go_ret
        exact ⟨HZ.out, hke⟩

/-- What is wrong with an item, one by one. -/
def cdOf (x : Itm) : Int := itemCode x.1 x.2.1.length x.2.2.1 x.2.2.2
def itemsCode : List Itm → Int
  | [] => 0
  | x :: xs => if cdOf x = 0 then itemsCode xs else cdOf x
theorem itemsCode_first : ∀ (xs : List Itm) (k : Nat), k < xs.length → (∀ j, j < k → cdOf (xs.getD j it0) = 0) → cdOf (xs.getD k it0) ≠ 0 → itemsCode xs = cdOf (xs.getD k it0) := by
  intro xs
  induction xs with
  | nil => intro k hk; simp at hk
  | cons x xs ih =>
    intro k hk h hc
    rcases k with _ | k
    · simp at hc ⊢
      rw [itemsCode, if_neg hc]
    · have h0 := h 0 (by omega)
      simp at h0 hc ⊢
      rw [itemsCode, if_pos h0]
      have := ih k (by simpa using hk) (fun j hj => by have := h (j + 1) (by omega); simpa using this) (by simpa using hc)
      simpa using this
theorem itemsCode_none : ∀ (xs : List Itm), (∀ j, j < xs.length → cdOf (xs.getD j it0) = 0) → itemsCode xs = 0 := by
  intro xs
  induction xs with
  | nil => intro _; rfl
  | cons x xs ih =>
    intro h
    have h0 := h 0 (by simp)
    simp at h0
    rw [itemsCode, if_pos h0]
    exact ih (fun j hj => by have := h (j + 1) (by simpa using hj); simpa using this)

set_option maxHeartbeats 1000000 in
theorem l5Items_any (A : Option Addr) (n c lo hi : Nat) (xs : List Itm) (w : World) (h : Rt w lo hi A n xs) :
    Calls Try.prog 26 #[.slice A n c] w fun e w' => e = .returned (.int .i64 (itemsCode xs)) ∧ Keep 0 0 w w' := by
  have hint := h.int
  have hl := h.len
  go_enter Try.func26, Try.ntmps26
  go_wp2_with fail
  go_loopw [7, 3, 4] (fun i _ _ wr => ∃ k : Nat, k ≤ n ∧ i = .int .i64 (k : Int) ∧ (∀ j, j < k → cdOf (xs.getD j it0) = 0) ∧ Keep 0 0 w wr) (fun i _ _ _ => n - (intOf i).toNat)
  case atStart => exact ⟨0, Nat.zero_le _, rfl, fun j hj => by omega, Keep.refl _ _ _⟩
  case round =>
    obtain ⟨k, hk, rfl, hz, hke⟩ := hrel
    by_cases hlt : k < n
    · have hr := h.keep hke (by omega)
      obtain ⟨b, off, rfl, _, _, hc⟩ := hr.at_ (by omega)
      obtain ⟨a0, ⟨G, cg, a1, rg, _⟩, a2, a3⟩ := hc k hlt
      have i0 : (0 : Int) ≤ (k : Int) := by omega
      have i1 : (k : Int) < (n : Int) := by omega
      have hf := itemsCode_first xs k (by omega) hz
      have hstep : cdOf (xs.getD k it0) = 0 → ∀ j, j < k + 1 → cdOf (xs.getD j it0) = 0 := fun e j hj => by
        by_cases ej : j = k
        · rw [ej]; exact e
        · exact hz j (by omega)
      generalize xs.getD k it0 = x at *
      obtain ⟨xk, xb, xp, xq⟩ := x
      simp only at a0 a1 a2 a3 rg
      have hxl := rg.int
      have hcd : cdOf (xk, xb, xp, xq) = itemCode xk xb.length xp xq := rfl
      rw [hcd] at hf hstep
      generalize hic : itemCode xk xb.length xp xq = ic at *
      have HI := Lib.hid hic
      have HF := Lib.hid hf
      have HS := Lib.hid hstep
      clear hic hf hstep hcd hz hr hc rg
      go_wp2_with fail
      refine (specItem_any xk xp xq G xb.length cg wr hxl).mono ?_
      rintro e w1 ⟨rfl, k1⟩
      rw [HI.out]
      by_cases hic : ic = 0
      · have HS2 := Lib.hid (HS.out hic)
        subst hic
        go_wp2_with fail
        go_roundw
        case rel => exact ⟨k + 1, by omega, by go_num, HS2.out, hke.trans k1⟩
        case measure => simp [intOf]; omega
      · have HR := Lib.hid (ret_int (HF.out hic).symm)
        have hib : (ic != 0) = true := by simp [hic]
        go_wp2_with fail
        go_ret
        exact ⟨HR.out, hke.trans k1⟩
    · have HR := Lib.hid (ret_int (itemsCode_none xs (fun j hj => hz j (by omega))).symm)
      go_wp2_with fail
      go_ret
      exact ⟨HR.out, hke⟩
end Go.Proofs.Ytjdkaaepbkkchaa
