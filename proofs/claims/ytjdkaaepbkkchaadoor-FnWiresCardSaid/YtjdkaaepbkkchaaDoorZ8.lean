/-
  V6b, W30, W31, W32, in one text.
-/
import Derived.Test.YtjdkaaepbkkchaaDoorZ1
import Derived.Test.YtjdkaaepbkkchaaDoorSame
import Derived.Test.YtjdkaaepbkkchaaDoorZ3
import Derived.Test.YtjdkaaepbkkchaaDoorZ4
import Derived.Test.YtjdkaaepbkkchaaDoorW13
namespace Go.Proofs.YtjdkaaepbkkchaaDoor
open Go.RowKit
set_option linter.unusedVariables false
set_option maxRecDepth 100000

set_option maxHeartbeats 2000000 in
theorem sameItem_any (k p q k' p' q' : Int) (A A' : Option Addr) (n c n' c' lo hi lo' hi' : Nat) (xs ys : List Int) (w : World) (r : Bool) (h : Rd w lo hi A n xs) (h' : Rd w lo' hi' A' n' ys) (hr : decide (k = k' ∧ xs = ys ∧ p = p' ∧ q = q') = r) :
    Calls Tryd.prog 52 #[.agg #[.int .i64 k, .slice A n c, .int .i64 p, .int .i64 q], .agg #[.int .i64 k', .slice A' n' c', .int .i64 p', .int .i64 q']] w fun e w' => e = .returned (.bool r) ∧ Keep 0 0 w w' := by
  have ka := ((Keep.refl 0 0 w).alloc (.cells #[.int .i64 k, .slice A n c, .int .i64 p, .int .i64 q] 55)).alloc (.cells #[.int .i64 k', .slice A' n' c', .int .i64 p', .int .i64 q'] 55)
  have h1 := h.keep ka (by omega)
  have h2 := h'.keep ka (by omega)
  have KA := Lib.hid ka
  have HS := Lib.hid (implSame_any A A' n c n' c' lo hi lo' hi' xs ys _ h1 h2)
  clear ka h1 h2 h h'
  by_cases e0 : k = k'
  · by_cases e1 : xs = ys
    · have d1 : decide (xs = ys) = true := decide_eq_true e1
      rw [d1] at HS
      by_cases e2 : p = p'
      · by_cases e3 : q = q'
        · have HR := Lib.hid (ret_bool (show true = r from by rw [← hr]; exact (decide_eq_true ⟨e0, e1, e2, e3⟩).symm))
          clear hr
          subst e0 e2 e3
          go_enter Tryd.func52, Tryd.ntmps52
          go_wp2_with fail
          refine HS.out.mono ?_
          rintro e w1 ⟨rfl, rfl⟩
          go_wp2_with fail
          go_ret
          exact ⟨HR.out, KA.out⟩
        · have e3b : (q == q') = false := by simp [e3]
          have HR := Lib.hid (ret_bool (show false = r from by rw [← hr]; exact (decide_eq_false (fun h => e3 h.2.2.2)).symm))
          clear hr
          subst e0 e2
          go_enter Tryd.func52, Tryd.ntmps52
          go_wp2_with fail
          refine HS.out.mono ?_
          rintro e w1 ⟨rfl, rfl⟩
          go_wp2_with fail
          go_ret
          exact ⟨HR.out, KA.out⟩
      · have e2b : (p == p') = false := by simp [e2]
        have HR := Lib.hid (ret_bool (show false = r from by rw [← hr]; exact (decide_eq_false (fun h => e2 h.2.2.1)).symm))
        clear hr
        subst e0
        go_enter Tryd.func52, Tryd.ntmps52
        go_wp2_with fail
        refine HS.out.mono ?_
        rintro e w1 ⟨rfl, rfl⟩
        go_wp2_with fail
        go_ret
        exact ⟨HR.out, KA.out⟩
    · have d1 : decide (xs = ys) = false := decide_eq_false e1
      rw [d1] at HS
      have HR := Lib.hid (ret_bool (show false = r from by rw [← hr]; exact (decide_eq_false (fun h => e1 h.2.1)).symm))
      clear hr
      subst e0
      go_enter Tryd.func52, Tryd.ntmps52
      go_wp2_with fail
      refine HS.out.mono ?_
      rintro e w1 ⟨rfl, rfl⟩
      go_wp2_with fail
      go_ret
      exact ⟨HR.out, KA.out⟩
  · have e0b : (k == k') = false := by simp [e0]
    have HR := Lib.hid (ret_bool (show false = r from by rw [← hr]; exact (decide_eq_false (fun h => e0 h.1)).symm))
    clear hr
    go_enter Tryd.func52, Tryd.ntmps52
    go_wp2_with fail
    go_ret
    exact ⟨HR.out, KA.out⟩

set_option maxHeartbeats 2000000 in
theorem equalItems_any (A A' : Option Addr) (n c m c' hi hi' : Nat) (xs ys : List Itm) (w : World) (r : Bool) (h : Rt w 0 hi A n xs) (h' : Rt w 0 hi' A' m ys) (hr : decide (xs = ys) = r) :
    Calls Tryd.prog 51 #[.slice A n c, .slice A' m c', .func (.func 52) #[] #[]] w fun e w' => e = .returned (.bool r) ∧ Below w.heap.size w w' := by
  have hl := h.len
  have hl' := h'.len
  have hn := h.int
  have hm := h'.int
  have ht := h.top
  have ht' := h'.top
  by_cases hnm : n = m
  · subst hnm
    have HT : Hid ((∀ j, j < n → xs.getD j it0 = ys.getD j it0) → Ending.returned (.bool true) = .returned (.bool r)) := fun hj => by
      have : xs = ys := List.ext_getElem (by omega) fun i h1 h2 => by
        have := hj i (by omega)
        rwa [List.getD_eq_getElem?_getD, List.getD_eq_getElem?_getD, List.getElem?_eq_getElem h1, List.getElem?_eq_getElem h2] at this
      rw [← hr, decide_eq_true this]
    have HN : Hid (∀ j, xs.getD j it0 ≠ ys.getD j it0 → Ending.returned (.bool false) = .returned (.bool r)) := fun j hj => by
      have : ¬ xs = ys := fun e => hj (by rw [e])
      rw [← hr, decide_eq_false this]
    clear hr
    go_enter Tryd.func51, Tryd.ntmps51
    go_wp2_with fail
    go_loopw [17, 7, 8, 9] (fun i _ _ _ wr => ∃ k : Nat, k ≤ n ∧ i = .int .i64 (k : Int) ∧ (∀ j, j < k → xs.getD j it0 = ys.getD j it0) ∧ Below w.heap.size w wr) (fun i _ _ _ _ => n - (intOf i).toNat)
    case atStart => exact ⟨0, Nat.zero_le _, rfl, fun j hj => absurd hj (by omega), Below.refl _ _⟩
    case round =>
      obtain ⟨k, hk, rfl, hj, hke⟩ := hrel
      have hzz := hke.size
      by_cases hlt : k < n
      · obtain ⟨b, off, rfl, h1, h2, hc⟩ := h.at_ (by omega)
        obtain ⟨b', off', rfl, h1', h2', hc'⟩ := h'.at_ (by omega)
        obtain ⟨a0, ⟨G, cg, a1, rg, _⟩, a2, a3⟩ := (hc k hlt).keep (Keep.of_below hke 0 0) h2 h1 ht (by omega)
        obtain ⟨b0, ⟨G', cg', b1, rg', _⟩, b2, b3⟩ := (hc' k hlt).keep (Keep.of_below hke 0 0) h2' h1' ht' (by omega)
        have hbl : b < wr.heap.size := by omega
        have hbl' : b' < wr.heap.size := by omega
        have i0 : (0 : Int) ≤ (k : Int) := by omega
        have i1 : (k : Int) < (n : Int) := by omega
        obtain ⟨rr, hrr⟩ : ∃ rr, decide (xs.getD k it0 = ys.getD k it0) = rr := ⟨_, rfl⟩
        have HY : Hid (rr = true → ∀ j, j < k + 1 → xs.getD j it0 = ys.getD j it0) := fun e j hj' => by
          by_cases g0 : j < k
          · exact hj j g0
          · obtain rfl : j = k := by omega
            rw [← hrr] at e
            exact of_decide_eq_true e
        have HX : Hid (rr = false → Ending.returned (.bool false) = .returned (.bool r)) := fun e => HN.out k (by rw [← hrr] at e; exact of_decide_eq_false e)
        clear hj hc hc' h h'
        generalize xs.getD k it0 = x at *
        generalize ys.getD k it0 = y at *
        obtain ⟨xk, xb, xp, xq⟩ := x
        obtain ⟨yk, yb, yp, yq⟩ := y
        simp only at a0 a1 a2 a3 rg b0 b1 b2 b3 rg'
        have hrr2 : decide (xk = yk ∧ xb = yb ∧ xp = yp ∧ xq = yq) = rr := by
          rw [← hrr]
          exact decide_eq_decide.2 (by simp)
        have ka := ((Keep.refl 0 0 wr).alloc (.cells #[.int .i64 xk, .slice G xb.length cg, .int .i64 xp, .int .i64 xq] 55)).alloc (.cells #[.int .i64 yk, .slice G' yb.length cg', .int .i64 yp, .int .i64 yq] 55)
        have rg2 := rg.keep ka (by omega)
        have rg2' := rg'.keep ka (by omega)
        have HB0 := Lib.hid ((hke.alloc hzz (.cells #[.int .i64 xk, .slice G xb.length cg, .int .i64 xp, .int .i64 xq] 55)).alloc (by simp; omega) (.cells #[.int .i64 yk, .slice G' yb.length cg', .int .i64 yp, .int .i64 yq] 55))
        have HC := Lib.hid (sameItem_any xk xp xq yk yp yq G G' xb.length cg yb.length cg' _ _ _ _ xb yb _ rr rg2 rg2' hrr2)
        clear rg rg' rg2 rg2' hrr hrr2 ka
        go_wp2_with fail
        refine HC.out.mono ?_
        rintro e w1 ⟨rfl, k1⟩
        have HB := Lib.hid (HB0.out.trans (k1.below (by omega) HB0.out.size))
        clear k1
        cases rr with
        | true =>
          have HY2 := Lib.hid (HY.out rfl)
          go_wp2_with fail
          go_roundw
          case rel => exact ⟨k + 1, by omega, by go_num, HY2.out, HB.out⟩
          case measure => simp [intOf]; omega
        | false =>
          have HX2 := Lib.hid (HX.out rfl)
          go_wp2_with fail
          go_ret
          exact ⟨HX2.out, HB.out⟩
      · obtain rfl : k = n := by omega
        have HT2 := Lib.hid (HT.out hj)
        go_wp2_with fail
        go_ret
        exact ⟨HT2.out, hke⟩
  · have HR := Lib.hid (show Ending.returned (.bool false) = .returned (.bool r) from by
      have : ¬ xs = ys := fun e => hnm (by rw [e] at hl; omega)
      rw [← hr, decide_eq_false this])
    have hnb : ((n : Int) == (m : Int)) = false := by simp; omega
    clear hr
    go_enter Tryd.func51, Tryd.ntmps51
    go_wp2_with fail
    go_ret
    exact ⟨HR.out, Below.refl _ _⟩

set_option maxHeartbeats 400000 in
theorem implSameItems_any (A A' : Option Addr) (n c m c' hi hi' : Nat) (xs ys : List Itm) (w : World) (r : Bool) (h : Rt w 0 hi A n xs) (h' : Rt w 0 hi' A' m ys) (hr : decide (xs = ys) = r) :
    Calls Tryd.prog 18 #[.slice A n c, .slice A' m c'] w fun e w' => e = .returned (.bool r) ∧ Below w.heap.size w w' := by
  have HC := Lib.hid (equalItems_any A A' n c m c' hi hi' xs ys w r h h' hr)
  clear hr h h'
  go_enter Tryd.func18, Tryd.ntmps18
  go_wp2_with fail
  refine HC.out.mono ?_
  rintro e w1 ⟨rfl, k1⟩
  go_wp2_with fail
  go_ret
  exact ⟨rfl, k1⟩
end Go.Proofs.YtjdkaaepbkkchaaDoor
namespace Go.Proofs.YtjdkaaepbkkchaaDoor
open Go.RowKit
set_option linter.unusedVariables false
set_option maxRecDepth 100000

theorem kset {w : World} (b j : Nat) (v : Value) : Keep b (b + 1) w (w.setCell ⟨b, j, none⟩ v) := (Keep.refl _ _ w).setCell (p := ⟨b, j, none⟩) ⟨Nat.le_refl _, Nat.lt_succ_self _⟩ _

set_option maxHeartbeats 2000000 in
theorem drawReply_any (A : Option Addr) (nc cc hi : Nat) (xs : List Int) (w : World) (h : Rd w 0 hi A nc xs) :
    Calls Tryd.prog 44 #[.slice A nc cc] w fun e w' => ∃ a b c : Int, e = .returned (.agg #[.int .i64 a, .int .i64 b, .int .i64 c]) ∧ Below w.heap.size w w' := by
  have htop := h.top
  go_enter Tryd.func44, Tryd.ntmps44
  go_wp2_with fail
  have hR := BoxL.new w [.int .i64 0, .int .i64 0, .int .i64 0] #[.int .i64 0, .int .i64 0, .int .i64 0] 36 rfl
  have bb : Below w.heap.size w (w.alloc (.cells #[.int .i64 0, .int .i64 0, .int .i64 0] 36)) := (Below.refl _ _).alloc (Nat.le_refl _) _
  have h0 := h.keep ((Keep.refl 0 0 w).alloc (.cells #[.int .i64 0, .int .i64 0, .int .i64 0] 36)) (by omega)
  have z0 : (w.alloc (.cells #[.int .i64 0, .int .i64 0, .int .i64 0] 36)).heap.size = w.heap.size + 1 := by simp
  generalize w.alloc (.cells #[.int .i64 0, .int .i64 0, .int .i64 0] 36) = w0 at *
  refine (source_any A nc cc hi xs w0 h0).mono ?_
  rintro e w1 ⟨s, rfl, hs, s0, b1⟩
  have k1 := Keep.of_below b1 0 0
  have z1 := b1.size
  replace hR := hR.keep k1 (by omega)
  replace bb := bb.trans (b1.mono bb.size)
  clear b1 k1
  go_wp2_with fail
  have ka := (Keep.refl 0 0 w1).alloc (.cells ([0, 5, 9000, 9001, -1, 7].map (Value.int .i64)).toArray 2)
  have ha := hs.keep ka (by have := hs.1; omega) (by omega)
  have n1 : w1.heap.size ≠ s := by have := hs.1; omega
  refine (pick_any s (0) w1.heap.size 6 A nc cc hi xs [0, 5, 9000, 9001, -1, 7] 6 _ ha (by omega) rfl (by omega) (by omega) n1 (by simp) (row_cells w1 [0, 5, 9000, 9001, -1, 7] _ _ rfl)).mono ?_
  rintro e w2 ⟨a, m_a, rfl, hs_a, kb⟩
  have kk := ((Keep.refl s (s + 1) w1).alloc (.cells ([0, 5, 9000, 9001, -1, 7].map (Value.int .i64)).toArray 2)).trans kb
  replace hR := hR.keep kk (by omega)
  replace bb := bb.trans (kk.below (by omega) bb.size)
  have z_a := kk.size
  clear ka ha n1 kb kk
  go_wp2_with fail
  have ka := (Keep.refl 0 0 w2).alloc (.cells ([0, 9, 65535, 65536, -1, 8].map (Value.int .i64)).toArray 2)
  have ha := hs_a.keep ka (by have := hs_a.1; omega) (by omega)
  have n1 : w2.heap.size ≠ s := by have := hs_a.1; omega
  refine (pick_any s (0 + 1) w2.heap.size 6 A nc cc hi xs [0, 9, 65535, 65536, -1, 8] 6 _ ha (by omega) rfl (by omega) (by omega) n1 (by simp) (row_cells w2 [0, 9, 65535, 65536, -1, 8] _ _ rfl)).mono ?_
  rintro e w3 ⟨b, m_b, rfl, hs_b, kb⟩
  have kk := ((Keep.refl s (s + 1) w2).alloc (.cells ([0, 9, 65535, 65536, -1, 8].map (Value.int .i64)).toArray 2)).trans kb
  replace hR := hR.keep kk (by omega)
  replace bb := bb.trans (kk.below (by omega) bb.size)
  have z_b := kk.size
  clear ka ha n1 kb kk
  go_wp2_with fail
  have ka := (Keep.refl 0 0 w3).alloc (.cells ([0, 9, 65536, 65537, -1, 7].map (Value.int .i64)).toArray 2)
  have ha := hs_b.keep ka (by have := hs_b.1; omega) (by omega)
  have n1 : w3.heap.size ≠ s := by have := hs_b.1; omega
  refine (pick_any s (0 + 1 + 1) w3.heap.size 6 A nc cc hi xs [0, 9, 65536, 65537, -1, 7] 6 _ ha (by omega) rfl (by omega) (by omega) n1 (by simp) (row_cells w3 [0, 9, 65536, 65537, -1, 7] _ _ rfl)).mono ?_
  rintro e w4 ⟨c, m_c, rfl, hs_c, kb⟩
  have kk := ((Keep.refl s (s + 1) w3).alloc (.cells ([0, 9, 65536, 65537, -1, 7].map (Value.int .i64)).toArray 2)).trans kb
  replace hR := hR.keep kk (by omega)
  replace bb := bb.trans (kk.below (by omega) bb.size)
  have z_c := kk.size
  clear ka ha n1 kb kk
  have z := (((hR.set 0 (.int .i64 a) (by simp)).set 1 (.int .i64 b) (by simp)).set 2 (.int .i64 c) (by simp))
  have e0 := z.at_ 0 _ rfl
  have c0 := hR.at_ 0 _ rfl
  have f0 := hR.fz 0
  have e1 := z.at_ 1 _ rfl
  have c1 := hR.at_ 1 _ rfl
  have f1 := hR.fz 1
  have e2 := z.at_ 2 _ rfl
  have c2 := hR.at_ 2 _ rfl
  have f2 := hR.fz 2
  have HF : Hid (∃ a' b' c' : Int, Ending.returned (.agg #[.int .i64 a, .int .i64 b, .int .i64 c]) = .returned (.agg #[.int .i64 a', .int .i64 b', .int .i64 c']) ∧ Below w.heap.size w (((w4.setCell ⟨w.heap.size, 0, none⟩ (.int .i64 a)).setCell ⟨w.heap.size, 1, none⟩ (.int .i64 b)).setCell ⟨w.heap.size, 2, none⟩ (.int .i64 c))) := ⟨a, b, c, rfl, (((bb.setCell (Nat.le_refl _) _).setCell (Nat.le_refl _) _).setCell (Nat.le_refl _) _)⟩
  clear bb hR
  clear z
  go_wp2_with fail
  exact bodyPost_ret (v := .agg #[.int .i64 a, .int .i64 b, .int .i64 c]) (by simp [results, Tryd.results44, go_sem, e0, e1, e2]) rfl HF.out

set_option maxHeartbeats 1000000 in
theorem drawEncReply_any (A : Option Addr) (nc cc hi : Nat) (xs : List Int) (w : World) (h : Rd w 0 hi A nc xs) :
    Calls Tryd.prog 11 #[.slice A nc cc] w fun e w' => ∃ a b c : Int, e = .returned (.agg #[.int .i64 a, .int .i64 b, .int .i64 c]) ∧ Below w.heap.size w w' := by
  have htop := h.top
  go_enter Tryd.func11, Tryd.ntmps11
  go_wp2_with fail
  have hR := BoxL.new w [.int .i64 0, .int .i64 0, .int .i64 0] #[.int .i64 0, .int .i64 0, .int .i64 0] 36 rfl
  have bb : Below w.heap.size w (w.alloc (.cells #[.int .i64 0, .int .i64 0, .int .i64 0] 36)) := (Below.refl _ _).alloc (Nat.le_refl _) _
  have h0 := h.keep ((Keep.refl 0 0 w).alloc (.cells #[.int .i64 0, .int .i64 0, .int .i64 0] 36)) (by omega)
  have z0 : (w.alloc (.cells #[.int .i64 0, .int .i64 0, .int .i64 0] 36)).heap.size = w.heap.size + 1 := by simp
  generalize w.alloc (.cells #[.int .i64 0, .int .i64 0, .int .i64 0] 36) = w0 at *
  refine (drawReply_any A nc cc hi xs w0 h0).mono ?_
  rintro e w1 ⟨a, b, c, rfl, b1⟩
  replace hR := hR.below b1
  replace bb := bb.trans (b1.mono bb.size)
  clear b1
  have z := (((hR.set 0 (.int .i64 a) (by simp)).set 1 (.int .i64 b) (by simp)).set 2 (.int .i64 c) (by simp))
  have e0 := z.at_ 0 _ rfl
  have c0 := hR.at_ 0 _ rfl
  have f0 := hR.fz 0
  have e1 := z.at_ 1 _ rfl
  have c1 := hR.at_ 1 _ rfl
  have f1 := hR.fz 1
  have e2 := z.at_ 2 _ rfl
  have c2 := hR.at_ 2 _ rfl
  have f2 := hR.fz 2
  have HF : Hid (∃ a' b' c' : Int, Ending.returned (.agg #[.int .i64 a, .int .i64 b, .int .i64 c]) = .returned (.agg #[.int .i64 a', .int .i64 b', .int .i64 c']) ∧ Below w.heap.size w (((w1.setCell ⟨w.heap.size, 0, none⟩ (.int .i64 a)).setCell ⟨w.heap.size, 1, none⟩ (.int .i64 b)).setCell ⟨w.heap.size, 2, none⟩ (.int .i64 c))) := ⟨a, b, c, rfl, (((bb.setCell (Nat.le_refl _) _).setCell (Nat.le_refl _) _).setCell (Nat.le_refl _) _)⟩
  clear bb hR
  clear z
  go_wp2_with fail
  exact bodyPost_ret (v := .agg #[.int .i64 a, .int .i64 b, .int .i64 c]) (by simp [results, Tryd.results11, go_sem, e0, e1, e2]) rfl HF.out
/-- A body was drawn from the source. -/
def BodD (w : World) (s k : Nat) (A : Option Addr) (nc cc hi : Nat) (xs : List Int) (e : Ending) (w' : World) : Prop :=
  ∃ (bs st ec : Int) (g n cap k' : Nat) (zs : List Itm), e = .returned (.agg #[.int .i64 bs, .int .i64 st, .int .i64 ec, .slice (some ⟨g, 0, none⟩) n cap]) ∧ n ≤ 4 ∧ OwnT w' w.heap.size (some ⟨g, 0, none⟩) n cap zs ∧ (∀ x ∈ zs, ItSm x) ∧ k' ≤ k + 100 ∧ Src w' s k' A nc cc hi xs ∧ Keep s (s + 1) w w'
/-- A body was drawn. -/
def BodR (w : World) (e : Ending) (w' : World) : Prop :=
  ∃ (bs st ec : Int) (g n cap : Nat) (zs : List Itm), e = .returned (.agg #[.int .i64 bs, .int .i64 st, .int .i64 ec, .slice (some ⟨g, 0, none⟩) n cap]) ∧ n ≤ 5 ∧ Rt w' w.heap.size w'.heap.size (some ⟨g, 0, none⟩) n zs ∧ (∀ x ∈ zs, ItSm x) ∧ Below w.heap.size w w'

set_option maxHeartbeats 1000000 in
theorem l7Draw_any (s k : Nat) (A : Option Addr) (nc cc hi : Nat) (xs : List Int) (w : World) (h : Src w s k A nc cc hi xs) (hk : k ≤ 1000) :
    Calls Tryd.prog 37 #[.pointer (some ⟨s, 0, none⟩)] w (BodD w s k A nc cc hi xs) := by
  have hsb := h.1
  have hhi := h.2.1
  go_enter Tryd.func37, Tryd.ntmps37
  go_wp2_with fail
  have hR := BoxL.new w [.int .i64 0, .int .i64 0, .int .i64 0, .slice none 0 0] #[.int .i64 0, .int .i64 0, .int .i64 0, .slice none 0 0] 26 rfl
  have hke : Keep s (s + 1) w (w.alloc (.cells #[.int .i64 0, .int .i64 0, .int .i64 0, .slice none 0 0] 26)) := (Keep.refl _ _ w).alloc _
  have hs := h.keep ((Keep.refl 0 0 w).alloc (.cells #[.int .i64 0, .int .i64 0, .int .i64 0, .slice none 0 0] 26)) (by omega) (by omega)
  have z0 : (w.alloc (.cells #[.int .i64 0, .int .i64 0, .int .i64 0, .slice none 0 0] 26)).heap.size = w.heap.size + 1 := by simp
  clear h
  generalize w.alloc (.cells #[.int .i64 0, .int .i64 0, .int .i64 0, .slice none 0 0] 26) = w1 at *
  simp only [show w.heap.size + 1 = w1.heap.size by omega]
  have ka := (Keep.refl 0 0 w1).alloc (.cells ([0, 5, 300, 8996, 9000].map (Value.int .i64)).toArray 2)
  have ha := hs.keep ka (by have := hs.1; omega) (by omega)
  have n1 : w1.heap.size ≠ s := by have := hs.1; omega
  refine (pick_any s (k) w1.heap.size 5 A nc cc hi xs [0, 5, 300, 8996, 9000] 5 _ ha (by omega) rfl (by omega) (by omega) n1 (by simp) (row_cells w1 [0, 5, 300, 8996, 9000] _ _ rfl)).mono ?_
  rintro e w2 ⟨bs, m_bs, rfl, hs_bs, kb⟩
  have kk := ((Keep.refl s (s + 1) w1).alloc (.cells ([0, 5, 300, 8996, 9000].map (Value.int .i64)).toArray 2)).trans kb
  replace hR := hR.keep kk (by omega)
  replace hke := hke.trans kk
  have z_bs := kk.size
  clear ka ha n1 kb kk
  go_wp2_with fail
  have ka := (Keep.refl 0 0 w2).alloc (.cells ([0, 9, 65535].map (Value.int .i64)).toArray 2)
  have ha := hs_bs.keep ka (by have := hs_bs.1; omega) (by omega)
  have n1 : w2.heap.size ≠ s := by have := hs_bs.1; omega
  refine (pick_any s (k + 1) w2.heap.size 3 A nc cc hi xs [0, 9, 65535] 3 _ ha (by omega) rfl (by omega) (by omega) n1 (by simp) (row_cells w2 [0, 9, 65535] _ _ rfl)).mono ?_
  rintro e w3 ⟨st, m_st, rfl, hs_st, kb⟩
  have kk := ((Keep.refl s (s + 1) w2).alloc (.cells ([0, 9, 65535].map (Value.int .i64)).toArray 2)).trans kb
  replace hR := hR.keep kk (by omega)
  replace hke := hke.trans kk
  have z_st := kk.size
  clear ka ha n1 kb kk
  go_wp2_with fail
  have ka := (Keep.refl 0 0 w3).alloc (.cells ([0, 9, 65535, 65536].map (Value.int .i64)).toArray 2)
  have ha := hs_st.keep ka (by have := hs_st.1; omega) (by omega)
  have n1 : w3.heap.size ≠ s := by have := hs_st.1; omega
  refine (pick_any s (k + 1 + 1) w3.heap.size 4 A nc cc hi xs [0, 9, 65535, 65536] 4 _ ha (by omega) rfl (by omega) (by omega) n1 (by simp) (row_cells w3 [0, 9, 65535, 65536] _ _ rfl)).mono ?_
  rintro e w4 ⟨ec, m_ec, rfl, hs_ec, kb⟩
  have kk := ((Keep.refl s (s + 1) w3).alloc (.cells ([0, 9, 65535, 65536].map (Value.int .i64)).toArray 2)).trans kb
  replace hR := hR.keep kk (by omega)
  replace hke := hke.trans kk
  have z_ec := kk.size
  clear ka ha n1 kb kk
  go_wp2_with fail
  refine (l5Draw_any s (k + 1 + 1 + 1) 4 A nc cc hi xs w4 hs_ec (by omega) (by omega)).mono ?_
  rintro e w5 ⟨G, n, cap, k5, zs, rfl, hO, ⟨g, rfl⟩, hsm, hn4, hk5, hs5, k_5⟩
  replace hR := hR.keep k_5 (by omega)
  replace hke := hke.trans k_5
  have z5 := k_5.size
  clear k_5 hs hs_bs hs_st hs_ec
  have z := ((((hR.set 0 (.int .i64 bs) (by simp)).set 1 (.int .i64 st) (by simp)).set 2 (.int .i64 ec) (by simp)).set 3 (.slice (some ⟨g, 0, none⟩) n cap) (by simp))
  have e0 := z.at_ 0 _ rfl
  have c0 := hR.at_ 0 _ rfl
  have f0 := hR.fz 0
  have e1 := z.at_ 1 _ rfl
  have c1 := hR.at_ 1 _ rfl
  have f1 := hR.fz 1
  have e2 := z.at_ 2 _ rfl
  have c2 := hR.at_ 2 _ rfl
  have f2 := hR.fz 2
  have e3 := z.at_ 3 _ rfl
  have c3 := hR.at_ 3 _ rfl
  have f3 := hR.fz 3
  have kR : Keep w.heap.size (w.heap.size + 1) w5 ((((w5.setCell ⟨w.heap.size, 0, none⟩ (.int .i64 bs)).setCell ⟨w.heap.size, 1, none⟩ (.int .i64 st)).setCell ⟨w.heap.size, 2, none⟩ (.int .i64 ec)).setCell ⟨w.heap.size, 3, none⟩ (.slice (some ⟨g, 0, none⟩) n cap)) := (((kset _ _ _).trans (kset _ _ _)).trans (kset _ _ _)).trans (kset _ _ _)
  have HF : Hid (BodD w s k A nc cc hi xs (.returned (.agg #[.int .i64 bs, .int .i64 st, .int .i64 ec, .slice (some ⟨g, 0, none⟩) n cap])) ((((w5.setCell ⟨w.heap.size, 0, none⟩ (.int .i64 bs)).setCell ⟨w.heap.size, 1, none⟩ (.int .i64 st)).setCell ⟨w.heap.size, 2, none⟩ (.int .i64 ec)).setCell ⟨w.heap.size, 3, none⟩ (.slice (some ⟨g, 0, none⟩) n cap))) := ⟨bs, st, ec, g, n, cap, k5, zs, rfl, hn4, (hO.keep kR (by omega)).down (by omega), hsm, by omega, hs5.keep kR (by omega) (by omega), keep_new hke kR (by omega)⟩
  clear kR hO hsm hs5 hke hR
  clear z
  go_wp2_with fail
  exact bodyPost_ret (v := .agg #[.int .i64 bs, .int .i64 st, .int .i64 ec, .slice (some ⟨g, 0, none⟩) n cap]) (by simp [results, Tryd.results37, go_sem, e0, e1, e2, e3]) rfl HF.out
end Go.Proofs.YtjdkaaepbkkchaaDoor
namespace Go.Proofs.YtjdkaaepbkkchaaDoor
open Go.RowKit
set_option linter.unusedVariables false
set_option maxRecDepth 100000

theorem BoxL.far {W W1 : World} {o : Obj} {v : Value} {b : Nat} {vs : List Value} (h : BoxL W b vs) (hg : (W.alloc o).grownBy W1 (Value.ownBlock v)) (hn : Value.ownBlock v ≠ some b) : BoxL W1 b vs :=
  ⟨by have := hg.size; simp at this; have := h.lt; omega, fun j u hj => (far_row3 hg (p := ⟨b, j, none⟩) h.lt hn).1.trans (h.at_ j u hj), fun j => (far_row3 hg (p := ⟨b, j, none⟩) h.lt hn).2.trans (h.fz j)⟩
set_option maxHeartbeats 2000000 in
theorem drawBody_any (A : Option Addr) (nc cc hi : Nat) (xs : List Int) (w : World) (h : Rd w 0 hi A nc xs) :
    Calls Tryd.prog 31 #[.slice A nc cc] w (BodR w) := by
  have htop := h.top
  obtain ⟨I0, hii, iz0, iz1, iz2⟩ := info_parts info_item
  go_enter Tryd.func31, Tryd.ntmps31
  go_wp2_with fail
  have hR := BoxL.new w [.int .i64 0, .int .i64 0, .int .i64 0, .slice none 0 0] #[.int .i64 0, .int .i64 0, .int .i64 0, .slice none 0 0] 26 rfl
  have bb : Below w.heap.size w (w.alloc (.cells #[.int .i64 0, .int .i64 0, .int .i64 0, .slice none 0 0] 26)) := (Below.refl _ _).alloc (Nat.le_refl _) _
  have h0 := h.keep ((Keep.refl 0 0 w).alloc (.cells #[.int .i64 0, .int .i64 0, .int .i64 0, .slice none 0 0] 26)) (by omega)
  have z0 : (w.alloc (.cells #[.int .i64 0, .int .i64 0, .int .i64 0, .slice none 0 0] 26)).heap.size = w.heap.size + 1 := by simp
  generalize w.alloc (.cells #[.int .i64 0, .int .i64 0, .int .i64 0, .slice none 0 0] 26) = w0 at *
  refine (source_any A nc cc hi xs w0 h0).mono ?_
  rintro e w1 ⟨s, rfl, hs, s0, b1⟩
  have k1 := Keep.of_below b1 0 0
  have z1 := b1.size
  replace hR := hR.keep k1 (by omega)
  replace bb := bb.trans (b1.mono bb.size)
  clear b1 k1
  go_wp2_with fail
  refine (l7Draw_any s 0 A nc cc hi xs w1 hs (by omega)).mono ?_
  rintro e w2 ⟨bs, st, ec, g, n, cap, k2, zs, rfl, hn4, hO, hsm, hk2, hs2, k_2⟩
  have hsb := hs.1
  have hhi := hs.2.1
  replace hR := hR.keep k_2 (by omega)
  replace bb := bb.trans (k_2.below (by omega) bb.size)
  have z2 := k_2.size
  clear hs k_2
  have hs := hs2
  clear hs2
  replace hO := hO.apart
  have kb := (Keep.refl 0 0 w2).alloc (.cells #[.int .i64 bs, .int .i64 st, .int .i64 ec, .slice (some ⟨g, 0, none⟩) n cap] 26)
  have hL := BoxL.new w2 [.int .i64 bs, .int .i64 st, .int .i64 ec, .slice (some ⟨g, 0, none⟩) n cap] #[.int .i64 bs, .int .i64 st, .int .i64 ec, .slice (some ⟨g, 0, none⟩) n cap] 26 rfl
  replace hR := hR.keep kb (by omega)
  replace bb := bb.trans (kb.below (by omega) bb.size)
  replace hs := hs.keep kb (by omega) (by omega)
  replace hO := hO.keep kb (.inr (.inl (Nat.le_refl _)))
  have z4 : (w2.alloc (.cells #[.int .i64 bs, .int .i64 st, .int .i64 ec, .slice (some ⟨g, 0, none⟩) n cap] 26)).heap.size = w2.heap.size + 1 := by simp
  clear kb
  go_upto_region 3 with fail
  generalize w2.alloc (.cells #[.int .i64 bs, .int .i64 st, .int .i64 ec, .slice (some ⟨g, 0, none⟩) n cap] 26) = w3 at *
  obtain ⟨BL, hBL⟩ : ∃ BL, BL = w2.heap.size := ⟨_, rfl⟩
  rw [← hBL] at hL hO z4
  simp only [← hBL]
  have hbl : w1.heap.size ≤ BL := by omega
  have z4' : BL + 1 ≤ w3.heap.size := by omega
  have hz1 : w.heap.size + 1 ≤ w1.heap.size := by omega
  clear z2 hBL z4 z1
  go_wp2_with fail
  refine (next_any s k2 A nc cc hi xs 8 w3 hs (by omega) (by omega)).mono ?_
  rintro e w4 ⟨c8, rfl, r0, r1, _, h6, k_6⟩
  replace hR := hR.keep k_6 (by omega)
  replace hL := hL.keep k_6 (by omega)
  replace hO := hO.keep k_6 (.inl (by omega))
  replace bb := bb.trans (k_6.below (by omega) bb.size)
  have z6 := k_6.size
  clear hs k_6 r1
  have hs := h6
  clear h6
  rcases (show c8 = 0 ∨ c8 = 1 ∨ c8 = 2 ∨ c8 = 3 ∨ 4 ≤ c8 by omega) with rfl | rfl | rfl | rfl | hc8
  · go_wp2_with fail
    have ka := (Keep.refl 0 0 w4).alloc (.cells ([-1, 9001].map (Value.int .i64)).toArray 2)
    have ha := hs.keep ka (by have := hs.1; omega) (by omega)
    have n1 : w4.heap.size ≠ s := by have := hs.1; omega
    refine (pick_any s (k2 + 1) w4.heap.size 2 A nc cc hi xs [-1, 9001] 2 _ ha (by omega) rfl (by omega) (by omega) n1 (by simp) (row_cells w4 [-1, 9001] _ _ rfl)).mono ?_
    rintro e w5 ⟨v, m_v, rfl, hs_v, kb⟩
    have kk := ((Keep.refl s (s + 1) w4).alloc (.cells ([-1, 9001].map (Value.int .i64)).toArray 2)).trans kb
    replace hR := hR.keep kk (by omega)
    replace hL := hL.keep kk (by omega)
    replace bb := bb.trans (kk.below (by omega) bb.size)
    replace hO := hO.keep kk (.inl (by omega))
    have z_v := kk.size
    clear ka ha n1 kb kk
    have hL' := hL.set 0 (.int .i64 v) (by simp)
    have kX : Keep BL (BL + 1) w5 (w5.setCell ⟨BL, 0, none⟩ (.int .i64 v)) := kset _ _ _
    have hR' := hR.keep kX (by omega)
    have bb' := bb.trans (kX.below (by omega) bb.size)
    have hO' := hO.keep kX (.inr (.inr ⟨rfl, rfl⟩))
    have x0 := hL.at_ 0 _ rfl
    have xf := hL.fz 0
    go_upto_region 12 with fail
    clear x0 xf kX hO hL hR bb
    generalize w5.setCell ⟨BL, 0, none⟩ (.int .i64 v) = wy at *
    have hL := hL'
    have hO := hO'
    have hR := hR'
    have bb := bb'
    clear hL' hO' hR' bb'
    have x0 := hL.at_ 0 _ rfl
    have x1 := hL.at_ 1 _ rfl
    have x2 := hL.at_ 2 _ rfl
    have x3 := hL.at_ 3 _ rfl
    have z := ((((hR.set 0 (.int .i64 v) (by simp)).set 1 (.int .i64 st) (by simp)).set 2 (.int .i64 ec) (by simp)).set 3 (.slice (some ⟨g, 0, none⟩) n cap) (by simp))
    have e0 := z.at_ 0 _ rfl
    have c0 := hR.at_ 0 _ rfl
    have f0 := hR.fz 0
    have e1 := z.at_ 1 _ rfl
    have c1 := hR.at_ 1 _ rfl
    have f1 := hR.fz 1
    have e2 := z.at_ 2 _ rfl
    have c2 := hR.at_ 2 _ rfl
    have f2 := hR.fz 2
    have e3 := z.at_ 3 _ rfl
    have c3 := hR.at_ 3 _ rfl
    have f3 := hR.fz 3
    have kR : Keep w.heap.size (w.heap.size + 1) wy ((((wy.setCell ⟨w.heap.size, 0, none⟩ (.int .i64 v)).setCell ⟨w.heap.size, 1, none⟩ (.int .i64 st)).setCell ⟨w.heap.size, 2, none⟩ (.int .i64 ec)).setCell ⟨w.heap.size, 3, none⟩ (.slice (some ⟨g, 0, none⟩) n cap)) := (((kset _ _ _).trans (kset _ _ _)).trans (kset _ _ _)).trans (kset _ _ _)
    have hRt := (hO.t.keep kR (.inl (by omega))).wt.rt.wide (lo' := w.heap.size) (by omega) (Nat.le_refl _) (Nat.le_refl _)
    have HF : Hid (BodR w (.returned (.agg #[.int .i64 v, .int .i64 st, .int .i64 ec, .slice (some ⟨g, 0, none⟩) n cap])) ((((wy.setCell ⟨w.heap.size, 0, none⟩ (.int .i64 v)).setCell ⟨w.heap.size, 1, none⟩ (.int .i64 st)).setCell ⟨w.heap.size, 2, none⟩ (.int .i64 ec)).setCell ⟨w.heap.size, 3, none⟩ (.slice (some ⟨g, 0, none⟩) n cap))) := ⟨_, _, _, g, n, cap, zs, rfl, by omega, hRt, hsm, bb.trans (kR.below (by omega) bb.size)⟩
    clear kR hRt hO bb hL hR
    clear z
    go_wp2_with fail
    exact bodyPost_ret (v := .agg #[.int .i64 v, .int .i64 st, .int .i64 ec, .slice (some ⟨g, 0, none⟩) n cap]) (by simp [results, Tryd.results31, go_sem, e0, e1, e2, e3]) rfl HF.out
  · go_wp2_with fail
    have ka := (Keep.refl 0 0 w4).alloc (.cells ([-1, 65536].map (Value.int .i64)).toArray 2)
    have ha := hs.keep ka (by have := hs.1; omega) (by omega)
    have n1 : w4.heap.size ≠ s := by have := hs.1; omega
    refine (pick_any s (k2 + 1) w4.heap.size 2 A nc cc hi xs [-1, 65536] 2 _ ha (by omega) rfl (by omega) (by omega) n1 (by simp) (row_cells w4 [-1, 65536] _ _ rfl)).mono ?_
    rintro e w5 ⟨v, m_v, rfl, hs_v, kb⟩
    have kk := ((Keep.refl s (s + 1) w4).alloc (.cells ([-1, 65536].map (Value.int .i64)).toArray 2)).trans kb
    replace hR := hR.keep kk (by omega)
    replace hL := hL.keep kk (by omega)
    replace bb := bb.trans (kk.below (by omega) bb.size)
    replace hO := hO.keep kk (.inl (by omega))
    have z_v := kk.size
    clear ka ha n1 kb kk
    have hL' := hL.set 1 (.int .i64 v) (by simp)
    have kX : Keep BL (BL + 1) w5 (w5.setCell ⟨BL, 1, none⟩ (.int .i64 v)) := kset _ _ _
    have hR' := hR.keep kX (by omega)
    have bb' := bb.trans (kX.below (by omega) bb.size)
    have hO' := hO.keep kX (.inr (.inr ⟨rfl, rfl⟩))
    have x0 := hL.at_ 1 _ rfl
    have xf := hL.fz 1
    go_upto_region 12 with fail
    clear x0 xf kX hO hL hR bb
    generalize w5.setCell ⟨BL, 1, none⟩ (.int .i64 v) = wy at *
    have hL := hL'
    have hO := hO'
    have hR := hR'
    have bb := bb'
    clear hL' hO' hR' bb'
    have x0 := hL.at_ 0 _ rfl
    have x1 := hL.at_ 1 _ rfl
    have x2 := hL.at_ 2 _ rfl
    have x3 := hL.at_ 3 _ rfl
    have z := ((((hR.set 0 (.int .i64 bs) (by simp)).set 1 (.int .i64 v) (by simp)).set 2 (.int .i64 ec) (by simp)).set 3 (.slice (some ⟨g, 0, none⟩) n cap) (by simp))
    have e0 := z.at_ 0 _ rfl
    have c0 := hR.at_ 0 _ rfl
    have f0 := hR.fz 0
    have e1 := z.at_ 1 _ rfl
    have c1 := hR.at_ 1 _ rfl
    have f1 := hR.fz 1
    have e2 := z.at_ 2 _ rfl
    have c2 := hR.at_ 2 _ rfl
    have f2 := hR.fz 2
    have e3 := z.at_ 3 _ rfl
    have c3 := hR.at_ 3 _ rfl
    have f3 := hR.fz 3
    have kR : Keep w.heap.size (w.heap.size + 1) wy ((((wy.setCell ⟨w.heap.size, 0, none⟩ (.int .i64 bs)).setCell ⟨w.heap.size, 1, none⟩ (.int .i64 v)).setCell ⟨w.heap.size, 2, none⟩ (.int .i64 ec)).setCell ⟨w.heap.size, 3, none⟩ (.slice (some ⟨g, 0, none⟩) n cap)) := (((kset _ _ _).trans (kset _ _ _)).trans (kset _ _ _)).trans (kset _ _ _)
    have hRt := (hO.t.keep kR (.inl (by omega))).wt.rt.wide (lo' := w.heap.size) (by omega) (Nat.le_refl _) (Nat.le_refl _)
    have HF : Hid (BodR w (.returned (.agg #[.int .i64 bs, .int .i64 v, .int .i64 ec, .slice (some ⟨g, 0, none⟩) n cap])) ((((wy.setCell ⟨w.heap.size, 0, none⟩ (.int .i64 bs)).setCell ⟨w.heap.size, 1, none⟩ (.int .i64 v)).setCell ⟨w.heap.size, 2, none⟩ (.int .i64 ec)).setCell ⟨w.heap.size, 3, none⟩ (.slice (some ⟨g, 0, none⟩) n cap))) := ⟨_, _, _, g, n, cap, zs, rfl, by omega, hRt, hsm, bb.trans (kR.below (by omega) bb.size)⟩
    clear kR hRt hO bb hL hR
    clear z
    go_wp2_with fail
    exact bodyPost_ret (v := .agg #[.int .i64 bs, .int .i64 v, .int .i64 ec, .slice (some ⟨g, 0, none⟩) n cap]) (by simp [results, Tryd.results31, go_sem, e0, e1, e2, e3]) rfl HF.out
  · go_wp2_with fail
    have ka := (Keep.refl 0 0 w4).alloc (.cells ([-1, 65537].map (Value.int .i64)).toArray 2)
    have ha := hs.keep ka (by have := hs.1; omega) (by omega)
    have n1 : w4.heap.size ≠ s := by have := hs.1; omega
    refine (pick_any s (k2 + 1) w4.heap.size 2 A nc cc hi xs [-1, 65537] 2 _ ha (by omega) rfl (by omega) (by omega) n1 (by simp) (row_cells w4 [-1, 65537] _ _ rfl)).mono ?_
    rintro e w5 ⟨v, m_v, rfl, hs_v, kb⟩
    have kk := ((Keep.refl s (s + 1) w4).alloc (.cells ([-1, 65537].map (Value.int .i64)).toArray 2)).trans kb
    replace hR := hR.keep kk (by omega)
    replace hL := hL.keep kk (by omega)
    replace bb := bb.trans (kk.below (by omega) bb.size)
    replace hO := hO.keep kk (.inl (by omega))
    have z_v := kk.size
    clear ka ha n1 kb kk
    have hL' := hL.set 2 (.int .i64 v) (by simp)
    have kX : Keep BL (BL + 1) w5 (w5.setCell ⟨BL, 2, none⟩ (.int .i64 v)) := kset _ _ _
    have hR' := hR.keep kX (by omega)
    have bb' := bb.trans (kX.below (by omega) bb.size)
    have hO' := hO.keep kX (.inr (.inr ⟨rfl, rfl⟩))
    have x0 := hL.at_ 2 _ rfl
    have xf := hL.fz 2
    go_upto_region 12 with fail
    clear x0 xf kX hO hL hR bb
    generalize w5.setCell ⟨BL, 2, none⟩ (.int .i64 v) = wy at *
    have hL := hL'
    have hO := hO'
    have hR := hR'
    have bb := bb'
    clear hL' hO' hR' bb'
    have x0 := hL.at_ 0 _ rfl
    have x1 := hL.at_ 1 _ rfl
    have x2 := hL.at_ 2 _ rfl
    have x3 := hL.at_ 3 _ rfl
    have z := ((((hR.set 0 (.int .i64 bs) (by simp)).set 1 (.int .i64 st) (by simp)).set 2 (.int .i64 v) (by simp)).set 3 (.slice (some ⟨g, 0, none⟩) n cap) (by simp))
    have e0 := z.at_ 0 _ rfl
    have c0 := hR.at_ 0 _ rfl
    have f0 := hR.fz 0
    have e1 := z.at_ 1 _ rfl
    have c1 := hR.at_ 1 _ rfl
    have f1 := hR.fz 1
    have e2 := z.at_ 2 _ rfl
    have c2 := hR.at_ 2 _ rfl
    have f2 := hR.fz 2
    have e3 := z.at_ 3 _ rfl
    have c3 := hR.at_ 3 _ rfl
    have f3 := hR.fz 3
    have kR : Keep w.heap.size (w.heap.size + 1) wy ((((wy.setCell ⟨w.heap.size, 0, none⟩ (.int .i64 bs)).setCell ⟨w.heap.size, 1, none⟩ (.int .i64 st)).setCell ⟨w.heap.size, 2, none⟩ (.int .i64 v)).setCell ⟨w.heap.size, 3, none⟩ (.slice (some ⟨g, 0, none⟩) n cap)) := (((kset _ _ _).trans (kset _ _ _)).trans (kset _ _ _)).trans (kset _ _ _)
    have hRt := (hO.t.keep kR (.inl (by omega))).wt.rt.wide (lo' := w.heap.size) (by omega) (Nat.le_refl _) (Nat.le_refl _)
    have HF : Hid (BodR w (.returned (.agg #[.int .i64 bs, .int .i64 st, .int .i64 v, .slice (some ⟨g, 0, none⟩) n cap])) ((((wy.setCell ⟨w.heap.size, 0, none⟩ (.int .i64 bs)).setCell ⟨w.heap.size, 1, none⟩ (.int .i64 st)).setCell ⟨w.heap.size, 2, none⟩ (.int .i64 v)).setCell ⟨w.heap.size, 3, none⟩ (.slice (some ⟨g, 0, none⟩) n cap))) := ⟨_, _, _, g, n, cap, zs, rfl, by omega, hRt, hsm, bb.trans (kR.below (by omega) bb.size)⟩
    clear kR hRt hO bb hL hR
    clear z
    go_wp2_with fail
    exact bodyPost_ret (v := .agg #[.int .i64 bs, .int .i64 st, .int .i64 v, .slice (some ⟨g, 0, none⟩) n cap]) (by simp [results, Tryd.results31, go_sem, e0, e1, e2, e3]) rfl HF.out
  · go_upto_region 11 with fail
    have kd0 : Keep 0 0 w4 w4.drew := ⟨rfl, rfl, rfl, Nat.le_refl _, fun _ _ _ => rfl⟩
    have hsd := hs.keep kd0 (by omega) (by omega)
    have hLd := hL.keep kd0 (by omega)
    have hRd := hR.keep kd0 (by omega)
    have bd := bb.trans (kd0.below (by omega) bb.size)
    have hOd := hO.keep kd0 (.inl (by omega))
    have zd : w4.drew.heap.size = w4.heap.size := rfl
    have d1 := hLd.at_ 3 _ rfl
    have hbw : BL < w4.heap.size := hL.lt
    go_region_law (first
      | (refine step_append_lies _ (by rfl) _ _ _ (by rfl) w1.heap.size 55 I0 (.agg #[.int .i64 0, .slice none 0 0, .int .i64 0, .int .i64 0]) 4 48 Tryd.underlying24 hii iz0 iz1 iz2 rfl (by decide) (.slice (some ⟨g, 0, none⟩) n cap) n _ (by rfl) (own0.alloc _) ⟨wa.heap.size, 0, none⟩ 1 1 (cell4 (x, GB, cb, w4.drew.heap.size, wa.heap.size)) (by rfl) (by rfl) (World.news_of_block (cs := #[.int .i64 x.1, .slice GB x.2.1.length cb, .int .i64 x.2.2.1, .int .i64 x.2.2.2]) (t := 55) (fr := (0, 0)) (heap_alloc_new wa _)) (by simp [Value.oneCell', cell4]) (by omega) hml hmb (by simp; omega) (wa.heap.size + 1) (by simp) ?_; intro g1 cap1 W1 own1 hgrow hat hgl; have hL1 := hLa.far hgrow (fun e => hgb _ e rfl); have hR1 := hRa.far hgrow (fun e => by have := (own0.lt _ e).1; omega); have kr := keep_row hgrow (base := w1.heap.size) (fun q e => (own0.lt q e).1); have b1 := ba.trans (kr.below (by omega) ba.size); have hgt : g1 ≠ BL := (by rcases hat with e | e; exact hgb _ e; omega); have l1 := hL1.at_ 3 _ rfl; have lf := hL1.fz 3)
      | (go_simp; go_at_call 62; refine (bentItem_any s (k2 + 1) A nc cc hi xs _ hsd (by omega)).mono ?_; rintro e wa ⟨x, GB, cb, k4, rfl, hgz, hwd, hxs, hk4, hsa, ka⟩; have za := ka.size; have hLa := hLd.keep ka (by omega); have hRa := hRd.keep ka (by omega); have ba := bd.trans (ka.below (by omega) bd.size); have l1 := hLa.at_ 3 _ rfl; have hb3 := hLa.lt; obtain ⟨ys, hys, hY0, hyb, hgb⟩ := hOd; have hY := hY0.keep ka (.inl (by omega)); have own0 := hY.1; have hml : n + 1 ≤ maxLen := (by unfold maxLen; omega); have hmb : (n + 1) * 48 ≤ 140737488355328 := (by omega); have l1a := (((Keep.refl 0 0 wa).alloc (.cells #[.int .i64 x.1, .slice GB x.2.1.length cb, .int .i64 x.2.2.1, .int .i64 x.2.2.2] 55)).cell (p := ⟨BL, 3, none⟩) hb3 (by show BL < 0 ∨ 0 ≤ BL; omega)).trans l1))
    all_goals
      have hY1 := hY0.push_src (by omega) ka (by omega) hwd hgz own1 hgrow hat
      have hO1 : OwnV W1 w1.heap.size BL (some ⟨g1, 0, none⟩) (n + 1) cap1 (zs ++ [x]) := ⟨_, by rw [List.map_append, hys]; rfl, hY1, fun y hy => by
        rcases List.mem_append.1 hy with hy | hy
        · exact hyb y hy
        · rw [List.mem_singleton.1 hy]
          exact .inr (by show BL < w4.heap.size; exact hbw), fun g e => by
        have e2 : g1 = g := by simpa [Value.ownBlock] using e
        rw [← e2]
        exact hgt⟩
      have hsm1 : ∀ y ∈ zs ++ [x], ItSm y := fun y hy => by
        rcases List.mem_append.1 hy with hy | hy
        · exact hsm y hy
        · rw [List.mem_singleton.1 hy]; exact hxs
      have hL' := hL1.set 3 (.slice (some ⟨g1, 0, none⟩) (n + 1) cap1) (by simp)
      have kX : Keep BL (BL + 1) W1 (W1.setCell ⟨BL, 3, none⟩ (.slice (some ⟨g1, 0, none⟩) (n + 1) cap1)) := kset _ _ _
      have hR2 := hR1.keep kX (by omega)
      have b2 := b1.trans (kX.below (by omega) b1.size)
      have hO2 := hO1.keep kX (.inr (.inr ⟨rfl, rfl⟩))
      clear hY1 hO1 b1 kX hL1 hR1 kr own0 own1 hgrow hat hY hY0 hwd hgz ka hLa hRa ba hLd hRd bd hsd kd0 hR hL hO hs bb hsm l1 lf l1a d1
      have hR := hR2
      have hL := hL'
      have bb := b2
      have hO := hO2
      have hsm := hsm1
      clear hR2 hL' b2 hO2 hsm1
      go_upto_region 12 with fail
      generalize W1.setCell ⟨BL, 3, none⟩ (.slice (some ⟨g1, 0, none⟩) (n + 1) cap1) = wy at *
      have x0 := hL.at_ 0 _ rfl
      have x1 := hL.at_ 1 _ rfl
      have x2 := hL.at_ 2 _ rfl
      have x3 := hL.at_ 3 _ rfl
      have z := ((((hR.set 0 (.int .i64 bs) (by simp)).set 1 (.int .i64 st) (by simp)).set 2 (.int .i64 ec) (by simp)).set 3 (.slice (some ⟨g1, 0, none⟩) (n + 1) cap1) (by simp))
      have e0 := z.at_ 0 _ rfl
      have c0 := hR.at_ 0 _ rfl
      have f0 := hR.fz 0
      have e1 := z.at_ 1 _ rfl
      have c1 := hR.at_ 1 _ rfl
      have f1 := hR.fz 1
      have e2 := z.at_ 2 _ rfl
      have c2 := hR.at_ 2 _ rfl
      have f2 := hR.fz 2
      have e3 := z.at_ 3 _ rfl
      have c3 := hR.at_ 3 _ rfl
      have f3 := hR.fz 3
      have kR : Keep w.heap.size (w.heap.size + 1) wy ((((wy.setCell ⟨w.heap.size, 0, none⟩ (.int .i64 bs)).setCell ⟨w.heap.size, 1, none⟩ (.int .i64 st)).setCell ⟨w.heap.size, 2, none⟩ (.int .i64 ec)).setCell ⟨w.heap.size, 3, none⟩ (.slice (some ⟨g1, 0, none⟩) (n + 1) cap1)) := (((kset _ _ _).trans (kset _ _ _)).trans (kset _ _ _)).trans (kset _ _ _)
      have hRt := (hO.t.keep kR (.inl (by omega))).wt.rt.wide (lo' := w.heap.size) (by omega) (Nat.le_refl _) (Nat.le_refl _)
      have HF : Hid (BodR w (.returned (.agg #[.int .i64 bs, .int .i64 st, .int .i64 ec, .slice (some ⟨g1, 0, none⟩) (n + 1) cap1])) ((((wy.setCell ⟨w.heap.size, 0, none⟩ (.int .i64 bs)).setCell ⟨w.heap.size, 1, none⟩ (.int .i64 st)).setCell ⟨w.heap.size, 2, none⟩ (.int .i64 ec)).setCell ⟨w.heap.size, 3, none⟩ (.slice (some ⟨g1, 0, none⟩) (n + 1) cap1))) := ⟨_, _, _, g1, n + 1, cap1, zs ++ [x], rfl, by omega, hRt, hsm, bb.trans (kR.below (by omega) bb.size)⟩
      clear kR hRt hO bb hL hR
      clear z
      go_wp2_with fail
      exact bodyPost_ret (v := .agg #[.int .i64 bs, .int .i64 st, .int .i64 ec, .slice (some ⟨g1, 0, none⟩) (n + 1) cap1]) (by simp [results, Tryd.results31, go_sem, e0, e1, e2, e3]) rfl HF.out
  · have n0 : (c8 == 0) = false := by simp; omega
    have n1 : (c8 == 1) = false := by simp; omega
    have n2 : (c8 == 2) = false := by simp; omega
    have n3 : (c8 == 3) = false := by simp; omega
    go_upto_region 12 with fail
    have x0 := hL.at_ 0 _ rfl
    have x1 := hL.at_ 1 _ rfl
    have x2 := hL.at_ 2 _ rfl
    have x3 := hL.at_ 3 _ rfl
    have z := ((((hR.set 0 (.int .i64 bs) (by simp)).set 1 (.int .i64 st) (by simp)).set 2 (.int .i64 ec) (by simp)).set 3 (.slice (some ⟨g, 0, none⟩) (n) cap) (by simp))
    have e0 := z.at_ 0 _ rfl
    have c0 := hR.at_ 0 _ rfl
    have f0 := hR.fz 0
    have e1 := z.at_ 1 _ rfl
    have c1 := hR.at_ 1 _ rfl
    have f1 := hR.fz 1
    have e2 := z.at_ 2 _ rfl
    have c2 := hR.at_ 2 _ rfl
    have f2 := hR.fz 2
    have e3 := z.at_ 3 _ rfl
    have c3 := hR.at_ 3 _ rfl
    have f3 := hR.fz 3
    have kR : Keep w.heap.size (w.heap.size + 1) w4 ((((w4.setCell ⟨w.heap.size, 0, none⟩ (.int .i64 bs)).setCell ⟨w.heap.size, 1, none⟩ (.int .i64 st)).setCell ⟨w.heap.size, 2, none⟩ (.int .i64 ec)).setCell ⟨w.heap.size, 3, none⟩ (.slice (some ⟨g, 0, none⟩) (n) cap)) := (((kset _ _ _).trans (kset _ _ _)).trans (kset _ _ _)).trans (kset _ _ _)
    have hRt := (hO.t.keep kR (.inl (by omega))).wt.rt.wide (lo' := w.heap.size) (by omega) (Nat.le_refl _) (Nat.le_refl _)
    have HF : Hid (BodR w (.returned (.agg #[.int .i64 bs, .int .i64 st, .int .i64 ec, .slice (some ⟨g, 0, none⟩) (n) cap])) ((((w4.setCell ⟨w.heap.size, 0, none⟩ (.int .i64 bs)).setCell ⟨w.heap.size, 1, none⟩ (.int .i64 st)).setCell ⟨w.heap.size, 2, none⟩ (.int .i64 ec)).setCell ⟨w.heap.size, 3, none⟩ (.slice (some ⟨g, 0, none⟩) (n) cap))) := ⟨_, _, _, g, n, cap, zs, rfl, by omega, hRt, hsm, bb.trans (kR.below (by omega) bb.size)⟩
    clear kR hRt hO bb hL hR
    clear z
    go_wp2_with fail
    exact bodyPost_ret (v := .agg #[.int .i64 bs, .int .i64 st, .int .i64 ec, .slice (some ⟨g, 0, none⟩) (n) cap]) (by simp [results, Tryd.results31, go_sem, e0, e1, e2, e3]) rfl HF.out
set_option maxHeartbeats 1000000 in
theorem drawEncBody_any (A : Option Addr) (nc cc hi : Nat) (xs : List Int) (w : World) (h : Rd w 0 hi A nc xs) :
    Calls Tryd.prog 7 #[.slice A nc cc] w (BodR w) := by
  have htop := h.top
  go_enter Tryd.func7, Tryd.ntmps7
  go_wp2_with fail
  have hR := BoxL.new w [.int .i64 0, .int .i64 0, .int .i64 0, .slice none 0 0] #[.int .i64 0, .int .i64 0, .int .i64 0, .slice none 0 0] 26 rfl
  have bb : Below w.heap.size w (w.alloc (.cells #[.int .i64 0, .int .i64 0, .int .i64 0, .slice none 0 0] 26)) := (Below.refl _ _).alloc (Nat.le_refl _) _
  have h0 := h.keep ((Keep.refl 0 0 w).alloc (.cells #[.int .i64 0, .int .i64 0, .int .i64 0, .slice none 0 0] 26)) (by omega)
  have z0 : (w.alloc (.cells #[.int .i64 0, .int .i64 0, .int .i64 0, .slice none 0 0] 26)).heap.size = w.heap.size + 1 := by simp
  generalize w.alloc (.cells #[.int .i64 0, .int .i64 0, .int .i64 0, .slice none 0 0] 26) = w0 at *
  refine (drawBody_any A nc cc hi xs w0 h0).mono ?_
  rintro e w1 ⟨bs, st, ec, g, n, cap, zs, rfl, hn5, hRt, hsm, b1⟩
  replace hR := hR.below b1
  have bl := b1.size
  replace bb := bb.trans (b1.mono bb.size)
  clear b1
  have z := ((((hR.set 0 (.int .i64 bs) (by simp)).set 1 (.int .i64 st) (by simp)).set 2 (.int .i64 ec) (by simp)).set 3 (.slice (some ⟨g, 0, none⟩) n cap) (by simp))
  have e0 := z.at_ 0 _ rfl
  have c0 := hR.at_ 0 _ rfl
  have f0 := hR.fz 0
  have e1 := z.at_ 1 _ rfl
  have c1 := hR.at_ 1 _ rfl
  have f1 := hR.fz 1
  have e2 := z.at_ 2 _ rfl
  have c2 := hR.at_ 2 _ rfl
  have f2 := hR.fz 2
  have e3 := z.at_ 3 _ rfl
  have c3 := hR.at_ 3 _ rfl
  have f3 := hR.fz 3
  have kR : Keep w.heap.size (w.heap.size + 1) w1 ((((w1.setCell ⟨w.heap.size, 0, none⟩ (.int .i64 bs)).setCell ⟨w.heap.size, 1, none⟩ (.int .i64 st)).setCell ⟨w.heap.size, 2, none⟩ (.int .i64 ec)).setCell ⟨w.heap.size, 3, none⟩ (.slice (some ⟨g, 0, none⟩) n cap)) := (((kset _ _ _).trans (kset _ _ _)).trans (kset _ _ _)).trans (kset _ _ _)
  have HF : Hid (BodR w (.returned (.agg #[.int .i64 bs, .int .i64 st, .int .i64 ec, .slice (some ⟨g, 0, none⟩) n cap])) ((((w1.setCell ⟨w.heap.size, 0, none⟩ (.int .i64 bs)).setCell ⟨w.heap.size, 1, none⟩ (.int .i64 st)).setCell ⟨w.heap.size, 2, none⟩ (.int .i64 ec)).setCell ⟨w.heap.size, 3, none⟩ (.slice (some ⟨g, 0, none⟩) n cap))) := ⟨bs, st, ec, g, n, cap, zs, rfl, hn5, (hRt.keep kR (by omega)).wide (by omega) kR.size (Nat.le_refl _), hsm, ((((bb.setCell (Nat.le_refl _) _).setCell (Nat.le_refl _) _).setCell (Nat.le_refl _) _).setCell (Nat.le_refl _) _)⟩
  clear bb hR hRt hsm kR
  clear z
  go_wp2_with fail
  exact bodyPost_ret (v := .agg #[.int .i64 bs, .int .i64 st, .int .i64 ec, .slice (some ⟨g, 0, none⟩) n cap]) (by simp [results, Tryd.results7, go_sem, e0, e1, e2, e3]) rfl HF.out
end Go.Proofs.YtjdkaaepbkkchaaDoor
namespace Go.Proofs.YtjdkaaepbkkchaaDoor
open Go.RowKit
set_option linter.unusedVariables false
set_option maxRecDepth 100000

/-- Bytes were drawn. -/
def Pln (B : Nat) (w : World) (e : Ending) (w' : World) : Prop :=
  ∃ (G m c' : Nat) (ys : List Int), e = .returned (.slice (some ⟨G, 0, none⟩) m c') ∧ Rd w' 0 w'.heap.size (some ⟨G, 0, none⟩) m ys ∧ m ≤ c' ∧ m ≤ 200 ∧ Below B w w'
theorem bodyL_len {bs st ec : Int} {xs : List Itm} (h4 : xs.length ≤ 4) (hx : ∀ x ∈ xs, cdOf x = 0) : 10 ≤ (bodyL bs st ec xs).length ∧ (bodyL bs st ec xs).length ≤ 50 := by
  have := bodyK_len (bs := bs) (st := st) (ec := ec) hx xs.length (Nat.le_refl _)
  rw [bodyK_all _ _ _ _ _ (Nat.le_refl _)] at this
  refine ⟨?_, by omega⟩
  unfold bodyL
  simp [repL_len]
  omega
theorem wrap_byte (v : Int) : 0 ≤ IntKind.u8.wrap v ∧ IntKind.u8.wrap v ≤ 255 := by rw [IntKind.wrap_u8]; omega
set_option maxHeartbeats 2000000 in
theorem spoil_any (B0 s k base g n cz nc cc hi : Nat) (A : Option Addr) (xs zs : List Int) (w : World) (h : Src w s k A nc cc hi xs) (o : OwnB w base g n cz zs) (hsb : B0 ≤ s) (hgb : B0 ≤ g) (hgs : g ≠ s) (hig : hi ≤ g) (hn : 1 ≤ n ∧ n ≤ 100) (hk : k ≤ 1000) :
    Calls Tryd.prog 40 #[.pointer (some ⟨s, 0, none⟩), .slice (some ⟨g, 0, none⟩) n cz] w (Pln B0 w) := by
  have hsw := h.1
  have hgw := o.lt
  have hnc := o.2.1
  have b0 : Below B0 w w := Below.refl _ _
  go_enter Tryd.func40, Tryd.ntmps40
  go_wp2_with fail
  refine (next_any s k A nc cc hi xs 5 w h (by omega) (by omega)).mono ?_
  rintro e w1 ⟨c5, rfl, c50, c51, _, h1, kq⟩
  have o1 := o.keep kq (by omega)
  have b1 := b0.trans (kq.below (by omega) (by omega))
  have zw1 := kq.size
  clear kq
  clear h o b0
  rcases (show c5 = 0 ∨ c5 = 1 ∨ c5 = 2 ∨ 3 ≤ c5 by omega) with rfl | rfl | rfl | hc5
  · go_wp2_with fail
    refine (next_any s (k + 1) A nc cc hi xs (n : Int) w1 h1 (by omega) (by omega)).mono ?_
    rintro e w2 ⟨r, rfl, r0, r1, _, h2, kq⟩
    have o2 := o1.keep kq (by omega)
    have b2 := b1.trans (kq.below (by omega) (by omega))
    have zw2 := kq.size
    clear kq
    obtain ⟨rn, rfl⟩ := Int.eq_ofNat_of_zero_le r0
    have hr := r1 (by omega)
    clear r1
    go_wp2_with fail
    have ka := (Keep.refl 0 0 w2).alloc (.cells ([0, 1, 2, 9, 255].map (Value.int .i64)).toArray 2)
    have ha := h2.keep ka (by have := h2.1; omega) (by omega)
    have n1 : w2.heap.size ≠ s := by have := h2.1; omega
    refine (pick_any s (k + 1 + 1) w2.heap.size 5 A nc cc hi xs [0, 1, 2, 9, 255] 5 _ ha (by omega) rfl (by omega) (by omega) n1 (by simp) (row_cells w2 [0, 1, 2, 9, 255] _ _ rfl)).mono ?_
    rintro e w3 ⟨v, m_v, rfl, hs_v, kb⟩
    have kk := ((Keep.refl s (s + 1) w2).alloc (.cells ([0, 1, 2, 9, 255].map (Value.int .i64)).toArray 2)).trans kb
    replace b2 := b2.trans (kk.below (by omega) (by omega))
    replace o2 := o2.keep kk (by omega)
    have z_v := kk.size
    clear ka ha n1 kb kk
    have hw := o2.wr
    obtain ⟨_, _, e9, _, _, hc⟩ := hw.1.at_ (by omega)
    cases e9
    replace hc := hc rn (by omega)
    have hf := hw.2 g 0 rfl rn (by omega)
    simp only [Nat.zero_add] at hc hf
    have hS := hw.set_ (j := rn) (by omega) (IntKind.u8.wrap v) (wrap_byte v)
    have bS := b2.setCell (p := ⟨g, rn, none⟩) hgb (.int .u8 (IntKind.u8.wrap v))
    have HF := Lib.hid (show Pln B0 w (.returned (.slice (some ⟨g, 0, none⟩) n cz)) (w3.setCell ⟨g, rn, none⟩ (.int .u8 (IntKind.u8.wrap v))) from ⟨g, n, cz, _, rfl, hS.1.wide (Nat.zero_le _) (by simp) (Nat.le_refl _), hnc, by omega, bS⟩)
    have j0 : (0 : Int) ≤ (rn : Int) := by omega
    have hgl := o2.lt
    clear hS bS hw o2 b2
    go_wp2_with fail
    go_ret
    exact HF.out
  · go_wp2_with fail
    refine (next_any s (k + 1) A nc cc hi xs (n : Int) w1 h1 (by omega) (by omega)).mono ?_
    rintro e w2 ⟨r, rfl, r0, r1, _, h2, kq⟩
    have o2 := o1.keep kq (by omega)
    have b2 := b1.trans (kq.below (by omega) (by omega))
    have zw2 := kq.size
    clear kq
    obtain ⟨rn, rfl⟩ := Int.eq_ofNat_of_zero_le r0
    have hr := r1 (by omega)
    clear r1
    have j0 : (0 : Int) ≤ (rn : Int) := by omega
    have j1 : (rn : Int) ≤ (cz : Int) := by omega
    have hT := (o2.wr.1.take_ rn (by omega)).wide (Nat.zero_le _) (Nat.le_refl _) (Nat.le_refl _)
    go_wp2_with fail
    go_ret
    exact ⟨g, rn, cz, _, rfl, hT, by omega, by omega, b2⟩
  · go_wp2_with fail
    have ka := (Keep.refl 0 0 w1).alloc (.cells ([1, 3].map (Value.int .i64)).toArray 2)
    have ha := h1.keep ka (by have := h1.1; omega) (by omega)
    have n1 : w1.heap.size ≠ s := by have := h1.1; omega
    refine (pick_any s (k + 1) w1.heap.size 2 A nc cc hi xs [1, 3] 2 _ ha (by omega) rfl (by omega) (by omega) n1 (by simp) (row_cells w1 [1, 3] _ _ rfl)).mono ?_
    rintro e w2 ⟨v, m_v, rfl, hs_v, kb⟩
    have kk := ((Keep.refl s (s + 1) w1).alloc (.cells ([1, 3].map (Value.int .i64)).toArray 2)).trans kb
    replace b1 := b1.trans (kk.below (by omega) (by omega))
    replace o1 := o1.keep kk (by omega)
    have z_v := kk.size
    clear ka ha n1 kb kk
    have hv : 1 ≤ v ∧ v ≤ 3 := by simp at m_v; omega
    go_wp2_with fail
    refine (some_any s (k + 1 + 1) A nc cc hi xs v w2 hs_v (by omega) (by omega)).mono ?_
    rintro e w3 ⟨g3, cap3, ys, rfl, hy, h3, k3⟩
    replace o1 := o1.keep k3 (by omega)
    replace b1 := b1.trans (k3.below (by omega) (by omega))
    have z3 := k3.size
    obtain ⟨l, hl⟩ : ∃ l, v.toNat = l := ⟨_, rfl⟩
    have hl3 : l ≤ 3 := by omega
    rw [hl] at hy ⊢
    clear hl k3 h3
    go_wp2_with (at_builtin; refine wpList_append_ob rfl _ _ rfl base g n cz zs rfl o1 (some ⟨g3, 0, none⟩) l cap3 _ _ ys rfl hy.1 some_ne ?k2 ?k3 ?_)
    case k2 => omega
    case k3 => have := o1.le; have := o1.lt; omega
    intro g4 cap4 w4 hp
    have hO := hp.own
    have hB := b1.trans (hp.below hgb (by omega))
    have hle : n + l ≤ cap4 := hO.2.1
    have HF := Lib.hid (show Pln B0 w (.returned (.slice (some ⟨g4, 0, none⟩) (n + l) cap4)) w4 from ⟨g4, n + l, cap4, _, rfl, hO.wr.1.wide (Nat.zero_le _) (Nat.le_refl _) (Nat.le_refl _), hle, by omega, hB⟩)
    clear hO hB hp o1 b1 hy
    go_wp2_with fail
    go_ret
    exact HF.out
  · have n0 : (c5 == 0) = false := by simp; omega
    have n1 : (c5 == 1) = false := by simp; omega
    have n2 : (c5 == 2) = false := by simp; omega
    have hT := o1.wr.1.wide (Nat.zero_le _) (Nat.le_refl _) (Nat.le_refl _)
    go_wp2_with fail
    go_ret
    exact ⟨g, n, cz, _, rfl, hT, hnc, by omega, b1⟩
set_option maxHeartbeats 2000000 in
theorem drawDecReply_any (A : Option Addr) (nc cc hi : Nat) (xs : List Int) (w : World) (h : Rd w 0 hi A nc xs) :
    Calls Tryd.prog 13 #[.slice A nc cc] w (Pln w.heap.size w) := by
  have htop := h.top
  go_enter Tryd.func13, Tryd.ntmps13
  go_wp2_with fail
  refine (source_any A nc cc hi xs w h).mono ?_
  rintro e w1 ⟨s, rfl, hs, s0, bb⟩
  have z1 := bb.size
  have hsb := hs.1
  have hhi := hs.2.1
  go_wp2_with fail
  have ka := (Keep.refl 0 0 w1).alloc (.cells ([0, 5, 9000].map (Value.int .i64)).toArray 2)
  have ha := hs.keep ka (by have := hs.1; omega) (by omega)
  have n1 : w1.heap.size ≠ s := by have := hs.1; omega
  refine (pick_any s (0) w1.heap.size 3 A nc cc hi xs [0, 5, 9000] 3 _ ha (by omega) rfl (by omega) (by omega) n1 (by simp) (row_cells w1 [0, 5, 9000] _ _ rfl)).mono ?_
  rintro e w2 ⟨a, m_a, rfl, hs_a, kb⟩
  have kk := ((Keep.refl s (s + 1) w1).alloc (.cells ([0, 5, 9000].map (Value.int .i64)).toArray 2)).trans kb
  replace bb := bb.trans (kk.below (by omega) bb.size)
  have z_a := kk.size
  clear ka ha n1 kb kk
  have ha : 0 ≤ a ∧ a ≤ 9000 := by simp at m_a; omega
  go_wp2_with fail
  have ka := (Keep.refl 0 0 w2).alloc (.cells ([0, 65535].map (Value.int .i64)).toArray 2)
  have ha := hs_a.keep ka (by have := hs_a.1; omega) (by omega)
  have n1 : w2.heap.size ≠ s := by have := hs_a.1; omega
  refine (pick_any s (0 + 1) w2.heap.size 2 A nc cc hi xs [0, 65535] 2 _ ha (by omega) rfl (by omega) (by omega) n1 (by simp) (row_cells w2 [0, 65535] _ _ rfl)).mono ?_
  rintro e w3 ⟨b, m_b, rfl, hs_b, kb⟩
  have kk := ((Keep.refl s (s + 1) w2).alloc (.cells ([0, 65535].map (Value.int .i64)).toArray 2)).trans kb
  replace bb := bb.trans (kk.below (by omega) bb.size)
  have z_b := kk.size
  clear ka ha n1 kb kk
  have hb : 0 ≤ b ∧ b ≤ 65535 := by simp at m_b; omega
  go_wp2_with fail
  have ka := (Keep.refl 0 0 w3).alloc (.cells ([0, 65536].map (Value.int .i64)).toArray 2)
  have ha := hs_b.keep ka (by have := hs_b.1; omega) (by omega)
  have n1 : w3.heap.size ≠ s := by have := hs_b.1; omega
  refine (pick_any s (0 + 1 + 1) w3.heap.size 2 A nc cc hi xs [0, 65536] 2 _ ha (by omega) rfl (by omega) (by omega) n1 (by simp) (row_cells w3 [0, 65536] _ _ rfl)).mono ?_
  rintro e w4 ⟨c, m_c, rfl, hs_c, kb⟩
  have kk := ((Keep.refl s (s + 1) w3).alloc (.cells ([0, 65536].map (Value.int .i64)).toArray 2)).trans kb
  replace bb := bb.trans (kk.below (by omega) bb.size)
  have z_c := kk.size
  clear ka ha n1 kb kk
  have hc : 0 ≤ c ∧ c ≤ 65536 := by simp at m_c; omega
  have kb := (Keep.refl 0 0 w4).alloc (.cells #[.int .i64 a, .int .i64 b, .int .i64 c] 36)
  have hX := BoxL.new w4 [.int .i64 a, .int .i64 b, .int .i64 c] #[.int .i64 a, .int .i64 b, .int .i64 c] 36 rfl
  have hs5 := hs_c.keep kb (by omega) (by omega)
  replace bb := bb.trans (kb.below (by omega) bb.size)
  have z5 : (w4.alloc (.cells #[.int .i64 a, .int .i64 b, .int .i64 c] 36)).heap.size = w4.heap.size + 1 := by simp
  clear kb
  go_upto_region 3 with fail
  generalize w4.alloc (.cells #[.int .i64 a, .int .i64 b, .int .i64 c] 36) = w5 at *
  go_wp2_with fail
  refine (l7Reply_any w4.heap.size a b c w5 hX (by omega) (by omega) (by omega)).mono ?_
  rintro e w6 ⟨g, cap, rfl, ho, b6⟩
  have k6 := Keep.of_below b6 0 0
  have hs6 := hs5.keep k6 (by omega) (by omega)
  replace bb := bb.trans (b6.mono bb.size)
  have hg := ho.le
  clear k6 b6
  go_wp2_with fail
  refine (spoil_any w.heap.size s (0 + 1 + 1 + 1) w5.heap.size g 9 cap nc cc hi A xs _ w6 hs6 ho (by omega) (by omega) (by omega) (by omega) (by omega) (by omega)).mono ?_
  rintro e w7 ⟨G, m, c', ys, rfl, hr, hm, hm2, b7⟩
  have HB := Lib.hid (bb.trans b7)
  clear bb b7
  go_wp2_with fail
  go_ret
  exact ⟨G, m, c', ys, rfl, hr, hm, hm2, HB.out⟩
set_option maxHeartbeats 2000000 in
theorem drawDecBody_any (A : Option Addr) (nc cc hi : Nat) (xs : List Int) (w : World) (h : Rd w 0 hi A nc xs) :
    Calls Tryd.prog 9 #[.slice A nc cc] w (Pln w.heap.size w) := by
  have htop := h.top
  go_enter Tryd.func9, Tryd.ntmps9
  go_wp2_with fail
  refine (source_any A nc cc hi xs w h).mono ?_
  rintro e w1 ⟨s, rfl, hs, s0, bb⟩
  have z1 := bb.size
  have hsb := hs.1
  have hhi := hs.2.1
  go_wp2_with fail
  refine (l7Draw_any s 0 A nc cc hi xs w1 hs (by omega)).mono ?_
  rintro e w2 ⟨bs, st, ec, g, n, cap, k2, zs, rfl, hn4, hO, hsm, hk2, hs2, k_2⟩
  replace bb := bb.trans (k_2.below (by omega) bb.size)
  have z2 := k_2.size
  have kb := (Keep.refl 0 0 w2).alloc (.cells #[.int .i64 bs, .int .i64 st, .int .i64 ec, .slice (some ⟨g, 0, none⟩) n cap] 26)
  have hX := BoxL.new w2 [.int .i64 bs, .int .i64 st, .int .i64 ec, .slice (some ⟨g, 0, none⟩) n cap] #[.int .i64 bs, .int .i64 st, .int .i64 ec, .slice (some ⟨g, 0, none⟩) n cap] 26 rfl
  have hs5 := hs2.keep kb (by omega) (by omega)
  have hRt := hO.wt.rt.keep kb (by omega)
  replace bb := bb.trans (kb.below (by omega) bb.size)
  have z5 : (w2.alloc (.cells #[.int .i64 bs, .int .i64 st, .int .i64 ec, .slice (some ⟨g, 0, none⟩) n cap] 26)).heap.size = w2.heap.size + 1 := by simp
  clear kb hO k_2 hs hs2
  go_upto_region 3 with fail
  generalize w2.alloc (.cells #[.int .i64 bs, .int .i64 st, .int .i64 ec, .slice (some ⟨g, 0, none⟩) n cap] 26) = w3 at *
  have x0 := hX.at_ 0 _ rfl
  have x1 := hX.at_ 1 _ rfl
  have x2 := hX.at_ 2 _ rfl
  have x3 := hX.at_ 3 _ rfl
  go_wp2_with fail
  refine (specBodyFault_any bs st ec _ n cap _ _ zs w3 hRt).mono ?_
  rintro e w4 ⟨rfl, k4⟩
  have hX4 := hX.keep k4 (by omega)
  have hs4 := hs5.keep k4 (by omega) (by omega)
  have hR4 := hRt.keep k4 (by omega)
  replace bb := bb.trans (k4.below (by omega) bb.size)
  have z4 := k4.size
  clear x0 x1 x2 x3 k4 hX hs5 hRt
  by_cases hbc : bodyCode bs st ec zs = 0
  · obtain ⟨⟨hst, hec⟩, hbs, hl4, hxs, _⟩ := body_ok hbc
    have hL := bodyL_len (bs := bs) (st := st) (ec := ec) hl4 hxs
    rw [hbc]
    go_wp2_with fail
    refine (l7Body_any w2.heap.size bs st ec _ n cap w4.heap.size zs w4 hX4 (hR4.wide (Nat.zero_le _) (by omega) (Nat.le_refl _)) (by omega) (by omega) (by omega) hn4 hxs).mono ?_
    rintro e w6 ⟨g6, cap6, rfl, ho, b6⟩
    have k6 := Keep.of_below b6 0 0
    have hs6 := hs4.keep k6 (by omega) (by omega)
    replace bb := bb.trans (b6.mono bb.size)
    have hg := ho.le
    clear k6 b6
    generalize (bodyL bs st ec zs).length = lz at *
    go_wp2_with fail
    refine (spoil_any w.heap.size s k2 w4.heap.size g6 lz cap6 nc cc hi A xs _ w6 hs6 ho (by omega) (by omega) (by omega) (by omega) (by omega) (by omega)).mono ?_
    rintro e w7 ⟨G, m, c', ys, rfl, hr, hm, hm2, b7⟩
    have HB := Lib.hid (bb.trans b7)
    clear bb b7
    go_wp2_with fail
    go_ret
    exact ⟨G, m, c', ys, rfl, hr, hm, hm2, HB.out⟩
  · generalize bodyCode bs st ec zs = bc at *
    have hb2 : (bc != 0) = true := by simpa [bne] using hbc
    go_wp2_with fail
    refine (some_cap s k2 A nc cc hi xs 12 w4 hs4 (by omega) (by omega)).mono ?_
    rintro e w5 ⟨g5, c5, ys, rfl, hle, hw5, hs5, k5⟩
    have HB := Lib.hid (bb.trans (k5.below (by omega) bb.size))
    have HR := Lib.hid (hw5.1.wide (lo' := 0) (Nat.zero_le _) (Nat.le_refl _) (Nat.le_refl _))
    clear bb k5
    go_wp2_with fail
    go_ret
    exact ⟨g5, _, c5, ys, rfl, HR.out, hle, by decide, HB.out⟩
end Go.Proofs.YtjdkaaepbkkchaaDoor
