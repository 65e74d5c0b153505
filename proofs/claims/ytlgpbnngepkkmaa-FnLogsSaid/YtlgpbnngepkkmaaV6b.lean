/-
  impl.sameItem; slices.EqualFunc over items; impl.SameItems.
-/
import Derived.Test.YtlgpbnngepkkmaaT2
import Derived.Test.YtlgpbnngepkkmaaSame
namespace Go.Proofs.Ytlgpbnngepkkmaa
open Go.RowKit
set_option linter.unusedVariables false
set_option maxRecDepth 100000

set_option maxHeartbeats 2000000 in
theorem sameItem_any (k p q k' p' q' : Int) (A A' : Option Addr) (n c n' c' lo hi lo' hi' : Nat) (xs ys : List Int) (w : World) (r : Bool) (h : Rd w lo hi A n xs) (h' : Rd w lo' hi' A' n' ys) (hr : decide (k = k' ∧ xs = ys ∧ p = p' ∧ q = q') = r) :
    Calls Try.prog 64 #[.agg #[.int .i64 k, .slice A n c, .int .i64 p, .int .i64 q], .agg #[.int .i64 k', .slice A' n' c', .int .i64 p', .int .i64 q']] w fun e w' => e = .returned (.bool r) ∧ Keep 0 0 w w' := by
  have ka := ((Keep.refl 0 0 w).alloc (.cells #[.int .i64 k, .slice A n c, .int .i64 p, .int .i64 q] 28)).alloc (.cells #[.int .i64 k', .slice A' n' c', .int .i64 p', .int .i64 q'] 28)
  have h1 := h.keep ka (by omega)
  have h2 := h'.keep ka (by omega)
  have KA := Lib.hid ka
  have HS := Lib.hid (implSame_any A A' n c n' c' lo hi lo' hi' xs ys _ h1 h2)
  clear ka h1 h2 h h'
  by_cases e0 : k = k'
  · by_cases e1 : xs = ys
    · have d1 : decide (xs = ys) = true := decide_eq_true e1
      rw [d1] at HS
      by_cases e2 : p = p'
      · by_cases e3 : q = q'
        · have HR := Lib.hid (ret_bool (show true = r from by rw [← hr]; exact (decide_eq_true ⟨e0, e1, e2, e3⟩).symm))
          clear hr
          subst e0 e2 e3
          go_enter Try.func64, Try.ntmps64
          go_wp2_with fail
          refine HS.out.mono ?_
          rintro e w1 ⟨rfl, rfl⟩
          go_wp2_with fail
          go_ret
          exact ⟨HR.out, KA.out⟩
        · have e3b : (q == q') = false := by simp [e3]
          have HR := Lib.hid (ret_bool (show false = r from by rw [← hr]; exact (decide_eq_false (fun h => e3 h.2.2.2)).symm))
          clear hr
          subst e0 e2
          go_enter Try.func64, Try.ntmps64
          go_wp2_with fail
          refine HS.out.mono ?_
          rintro e w1 ⟨rfl, rfl⟩
          go_wp2_with fail
          go_ret
          exact ⟨HR.out, KA.out⟩
      · have e2b : (p == p') = false := by simp [e2]
        have HR := Lib.hid (ret_bool (show false = r from by rw [← hr]; exact (decide_eq_false (fun h => e2 h.2.2.1)).symm))
        clear hr
        subst e0
        go_enter Try.func64, Try.ntmps64
        go_wp2_with fail
        refine HS.out.mono ?_
        rintro e w1 ⟨rfl, rfl⟩
        go_wp2_with fail
        go_ret
        exact ⟨HR.out, KA.out⟩
    · have d1 : decide (xs = ys) = false := decide_eq_false e1
      rw [d1] at HS
      have HR := Lib.hid (ret_bool (show false = r from by rw [← hr]; exact (decide_eq_false (fun h => e1 h.2.1)).symm))
      clear hr
      subst e0
      go_enter Try.func64, Try.ntmps64
      go_wp2_with fail
      refine HS.out.mono ?_
      rintro e w1 ⟨rfl, rfl⟩
      go_wp2_with fail
      go_ret
      exact ⟨HR.out, KA.out⟩
  · have e0b : (k == k') = false := by simp [e0]
    have HR := Lib.hid (ret_bool (show false = r from by rw [← hr]; exact (decide_eq_false (fun h => e0 h.1)).symm))
    clear hr
    go_enter Try.func64, Try.ntmps64
    go_wp2_with fail
    go_ret
    exact ⟨HR.out, KA.out⟩

set_option maxHeartbeats 2000000 in
theorem equalItems_any (A A' : Option Addr) (n c m c' hi hi' : Nat) (xs ys : List Itm) (w : World) (r : Bool) (h : Rt w 0 hi A n xs) (h' : Rt w 0 hi' A' m ys) (hr : decide (xs = ys) = r) :
    Calls Try.prog 63 #[.slice A n c, .slice A' m c', .func (.func 64) #[] #[]] w fun e w' => e = .returned (.bool r) ∧ Below w.heap.size w w' := by
  have hl := h.len
  have hl' := h'.len
  have hn := h.int
  have hm := h'.int
  have ht := h.top
  have ht' := h'.top
  by_cases hnm : n = m
  · subst hnm
    have HT : Hid ((∀ j, j < n → xs.getD j it0 = ys.getD j it0) → Ending.returned (.bool true) = .returned (.bool r)) := fun hj => by
      have : xs = ys := List.ext_getElem (by omega) fun i h1 h2 => by
        have := hj i (by omega)
        rwa [List.getD_eq_getElem?_getD, List.getD_eq_getElem?_getD, List.getElem?_eq_getElem h1, List.getElem?_eq_getElem h2] at this
      rw [← hr, decide_eq_true this]
    have HN : Hid (∀ j, xs.getD j it0 ≠ ys.getD j it0 → Ending.returned (.bool false) = .returned (.bool r)) := fun j hj => by
      have : ¬ xs = ys := fun e => hj (by rw [e])
      rw [← hr, decide_eq_false this]
    clear hr
    go_enter Try.func63, Try.ntmps63
    go_wp2_with fail
    go_loopw [17, 7, 8, 9] (fun i _ _ _ wr => ∃ k : Nat, k ≤ n ∧ i = .int .i64 (k : Int) ∧ (∀ j, j < k → xs.getD j it0 = ys.getD j it0) ∧ Below w.heap.size w wr) (fun i _ _ _ _ => n - (intOf i).toNat)
    case atStart => exact ⟨0, Nat.zero_le _, rfl, fun j hj => absurd hj (by omega), Below.refl _ _⟩
    case round =>
      obtain ⟨k, hk, rfl, hj, hke⟩ := hrel
      have hzz := hke.size
      by_cases hlt : k < n
      · obtain ⟨b, off, rfl, h1, h2, hc⟩ := h.at_ (by omega)
        obtain ⟨b', off', rfl, h1', h2', hc'⟩ := h'.at_ (by omega)
        obtain ⟨a0, ⟨G, cg, a1, rg, _⟩, a2, a3⟩ := (hc k hlt).keep (Keep.of_below hke 0 0) h2 h1 ht (by omega)
        obtain ⟨b0, ⟨G', cg', b1, rg', _⟩, b2, b3⟩ := (hc' k hlt).keep (Keep.of_below hke 0 0) h2' h1' ht' (by omega)
        have hbl : b < wr.heap.size := by omega
        have hbl' : b' < wr.heap.size := by omega
        have i0 : (0 : Int) ≤ (k : Int) := by omega
        have i1 : (k : Int) < (n : Int) := by omega
        obtain ⟨rr, hrr⟩ : ∃ rr, decide (xs.getD k it0 = ys.getD k it0) = rr := ⟨_, rfl⟩
        have HY : Hid (rr = true → ∀ j, j < k + 1 → xs.getD j it0 = ys.getD j it0) := fun e j hj' => by
          by_cases g0 : j < k
          · exact hj j g0
          · obtain rfl : j = k := by omega
            rw [← hrr] at e
            exact of_decide_eq_true e
        have HX : Hid (rr = false → Ending.returned (.bool false) = .returned (.bool r)) := fun e => HN.out k (by rw [← hrr] at e; exact of_decide_eq_false e)
        clear hj hc hc' h h'
        generalize xs.getD k it0 = x at *
        generalize ys.getD k it0 = y at *
        obtain ⟨xk, xb, xp, xq⟩ := x
        obtain ⟨yk, yb, yp, yq⟩ := y
        simp only at a0 a1 a2 a3 rg b0 b1 b2 b3 rg'
        have hrr2 : decide (xk = yk ∧ xb = yb ∧ xp = yp ∧ xq = yq) = rr := by
          rw [← hrr]
          exact decide_eq_decide.2 (by simp)
        have ka := ((Keep.refl 0 0 wr).alloc (.cells #[.int .i64 xk, .slice G xb.length cg, .int .i64 xp, .int .i64 xq] 28)).alloc (.cells #[.int .i64 yk, .slice G' yb.length cg', .int .i64 yp, .int .i64 yq] 28)
        have rg2 := rg.keep ka (by omega)
        have rg2' := rg'.keep ka (by omega)
        have HB0 := Lib.hid ((hke.alloc hzz (.cells #[.int .i64 xk, .slice G xb.length cg, .int .i64 xp, .int .i64 xq] 28)).alloc (by simp; omega) (.cells #[.int .i64 yk, .slice G' yb.length cg', .int .i64 yp, .int .i64 yq] 28))
        have HC := Lib.hid (sameItem_any xk xp xq yk yp yq G G' xb.length cg yb.length cg' _ _ _ _ xb yb _ rr rg2 rg2' hrr2)
        clear rg rg' rg2 rg2' hrr hrr2 ka
        go_wp2_with fail
        refine HC.out.mono ?_
        rintro e w1 ⟨rfl, k1⟩
        have HB := Lib.hid (HB0.out.trans (k1.below (by omega) HB0.out.size))
        clear k1
        cases rr with
        | true =>
          have HY2 := Lib.hid (HY.out rfl)
          go_wp2_with fail
          go_roundw
          case rel => exact ⟨k + 1, by omega, by go_num, HY2.out, HB.out⟩
          case measure => simp [intOf]; omega
        | false =>
          have HX2 := Lib.hid (HX.out rfl)
          go_wp2_with fail
          go_ret
          exact ⟨HX2.out, HB.out⟩
      · obtain rfl : k = n := by omega
        have HT2 := Lib.hid (HT.out hj)
        go_wp2_with fail
        go_ret
        exact ⟨HT2.out, hke⟩
  · have HR := Lib.hid (show Ending.returned (.bool false) = .returned (.bool r) from by
      have : ¬ xs = ys := fun e => hnm (by rw [e] at hl; omega)
      rw [← hr, decide_eq_false this])
    have hnb : ((n : Int) == (m : Int)) = false := by simp; omega
    clear hr
    go_enter Try.func63, Try.ntmps63
    go_wp2_with fail
    go_ret
    exact ⟨HR.out, Below.refl _ _⟩

set_option maxHeartbeats 400000 in
theorem implSameItems_any (A A' : Option Addr) (n c m c' hi hi' : Nat) (xs ys : List Itm) (w : World) (r : Bool) (h : Rt w 0 hi A n xs) (h' : Rt w 0 hi' A' m ys) (hr : decide (xs = ys) = r) :
    Calls Try.prog 20 #[.slice A n c, .slice A' m c'] w fun e w' => e = .returned (.bool r) ∧ Below w.heap.size w w' := by
  have HC := Lib.hid (equalItems_any A A' n c m c' hi hi' xs ys w r h h' hr)
  clear hr h h'
  go_enter Try.func20, Try.ntmps20
  go_wp2_with fail
  refine HC.out.mono ?_
  rintro e w1 ⟨rfl, k1⟩
  go_wp2_with fail
  go_ret
  exact ⟨rfl, k1⟩
end Go.Proofs.Ytlgpbnngepkkmaa
