/-
  W6, W8, W9, W10, W11, in one text.
-/
import Derived.Test.YtjdkaaepbkkchaaDoorZ1
import Derived.Test.YtjdkaaepbkkchaaDoorZ2
import Derived.Test.YtjdkaaepbkkchaaDoorW2
import Derived.Test.YtjdkaaepbkkchaaDoorW4
namespace Go.Proofs.YtjdkaaepbkkchaaDoor
open Go.RowKit
set_option linter.unusedVariables false
set_option maxRecDepth 100000



set_option maxHeartbeats 400000 in
theorem eqBody_true (bs st ec : Int) (A A' : Option Addr) (n c c' lo hi lo' hi' : Nat) (xs : List Itm) (w : World) (h : Rt w lo hi A n xs) (h' : Rt w lo' hi' A' n xs) :
    Calls Tryd.prog 57 #[.agg #[.int .i64 bs, .int .i64 st, .int .i64 ec, .slice A n c], .agg #[.int .i64 bs, .int .i64 st, .int .i64 ec, .slice A' n c']] w fun e w' => e = .returned (.bool true) ∧ Keep 0 0 w w' := by
  have k1 := ((Keep.refl 0 0 w).alloc (.cells #[.int .i64 bs, .int .i64 st, .int .i64 ec, .slice A n c] 26)).alloc (.cells #[.int .i64 bs, .int .i64 st, .int .i64 ec, .slice A' n c'] 26)
  have r := h.keep k1 (by omega)
  have r' := h'.keep k1 (by omega)
  have K1 := Lib.hid k1
  clear k1
  go_enter Tryd.func57, Tryd.ntmps57
  go_wp2_with fail
  refine (eqItemS_true  _ _ n c c' _ _ _ _ xs _ r r').mono ?_
  rintro e w1 ⟨rfl, k2⟩
  have K2 := Lib.hid (K1.out.trans k2)
  go_wp2_with fail
  go_ret
  exact ⟨rfl, K2.out⟩

set_option maxHeartbeats 400000 in
theorem markBody_any (bs st ec : Int) (A : Option Addr) (n c lo hi : Nat) (K : Int) (xs : List Itm) (w : World) (h : Wt w lo hi A n xs) (hK0 : 0 ≤ K) (hK : K + ((3 * n + sumLen xs : Nat) : Int) ≤ 9223372036854775807) :
    Calls Tryd.prog 58 #[.agg #[.int .i64 bs, .int .i64 st, .int .i64 ec, .slice A n c], .int .i64 K] w fun e w' => e = .returned (.int .i64 (K + ((3 * n + sumLen xs : Nat) : Int))) ∧ Wt w' lo hi A n (markT K xs) ∧ Keep lo hi w w' := by
  have k1 := (Keep.refl 0 0 w).alloc (.cells #[.int .i64 bs, .int .i64 st, .int .i64 ec, .slice A n c] 26)
  have r := h.keep k1 (by omega)
  have K1 := Lib.hid (k1.none_ lo hi)
  clear k1
  have hc := markItemS_any  A n c lo hi K xs _ r hK0 hK
  generalize K + ((3 * n + sumLen xs : Nat) : Int) = M at *
  have HC := Lib.hid hc
  clear hc
  go_enter Tryd.func58, Tryd.ntmps58
  go_wp2_with fail
  refine HC.out.mono ?_
  rintro e w1 ⟨rfl, hw1, hk1⟩
  go_wp2_with fail
  go_ret
  exact ⟨rfl, hw1, K1.out.trans hk1⟩

set_option maxHeartbeats 400000 in
theorem heldBody_any (bs st ec : Int) (A : Option Addr) (n c lo hi : Nat) (K : Int) (xs : List Itm) (w : World) (hl : xs.length = n) (h : Rt w lo hi A n (markT K xs)) (hK0 : 0 ≤ K) (hK : K + ((3 * n + sumLen xs : Nat) : Int) ≤ 9223372036854775807) :
    Calls Tryd.prog 59 #[.agg #[.int .i64 bs, .int .i64 st, .int .i64 ec, .slice A n c], .int .i64 K] w fun e w' => e = .returned (.int .i64 (K + ((3 * n + sumLen xs : Nat) : Int))) ∧ Keep 0 0 w w' := by
  have k1 := (Keep.refl 0 0 w).alloc (.cells #[.int .i64 bs, .int .i64 st, .int .i64 ec, .slice A n c] 26)
  have r := h.keep k1 (by omega)
  have K1 := Lib.hid k1
  have hnn : ¬ K + ((3 * n + sumLen xs : Nat) : Int) < 0 := by omega
  clear k1
  have hc := heldItemS_any  A n c lo hi K xs _ hl r hK0 hK
  generalize K + ((3 * n + sumLen xs : Nat) : Int) = M at *
  have HC := Lib.hid hc
  clear hc
  go_enter Tryd.func59, Tryd.ntmps59
  go_wp2_with fail
  refine HC.out.mono ?_
  rintro e w1 ⟨rfl, rfl⟩
  have K2 := K1
  go_wp2_with fail
  go_ret
  exact ⟨rfl, K2.out⟩

set_option maxHeartbeats 400000 in
theorem eqBodyResult_true (cd bs st ec : Int) (A A' : Option Addr) (n c c' lo hi lo' hi' : Nat) (xs : List Itm) (w : World) (h : Rt w lo hi A n xs) (h' : Rt w lo' hi' A' n xs) :
    Calls Tryd.prog 25 #[.agg #[.int .i64 cd, .int .i64 bs, .int .i64 st, .int .i64 ec, .slice A n c], .agg #[.int .i64 cd, .int .i64 bs, .int .i64 st, .int .i64 ec, .slice A' n c']] w fun e w' => e = .returned (.bool true) ∧ Keep 0 0 w w' := by
  have k1 := ((Keep.refl 0 0 w).alloc (.cells #[.int .i64 cd, .int .i64 bs, .int .i64 st, .int .i64 ec, .slice A n c] 33)).alloc (.cells #[.int .i64 cd, .int .i64 bs, .int .i64 st, .int .i64 ec, .slice A' n c'] 33)
  have r := h.keep k1 (by omega)
  have r' := h'.keep k1 (by omega)
  have K1 := Lib.hid k1
  clear k1
  go_enter Tryd.func25, Tryd.ntmps25
  go_wp2_with fail
  refine (eqBody_true bs st ec _ _ n c c' _ _ _ _ xs _ r r').mono ?_
  rintro e w1 ⟨rfl, k2⟩
  have K2 := Lib.hid (K1.out.trans k2)
  go_wp2_with fail
  go_ret
  exact ⟨rfl, K2.out⟩

set_option maxHeartbeats 400000 in
theorem markBodyResult_any (cd bs st ec : Int) (A : Option Addr) (n c lo hi : Nat) (K : Int) (xs : List Itm) (w : World) (h : Wt w lo hi A n xs) (hK0 : 0 ≤ K) (hK : K + ((3 * n + sumLen xs : Nat) : Int) ≤ 9223372036854775807) :
    Calls Tryd.prog 28 #[.agg #[.int .i64 cd, .int .i64 bs, .int .i64 st, .int .i64 ec, .slice A n c], .int .i64 K] w fun e w' => e = .returned (.int .i64 (K + ((3 * n + sumLen xs : Nat) : Int))) ∧ Wt w' lo hi A n (markT K xs) ∧ Keep lo hi w w' := by
  have k1 := (Keep.refl 0 0 w).alloc (.cells #[.int .i64 cd, .int .i64 bs, .int .i64 st, .int .i64 ec, .slice A n c] 33)
  have r := h.keep k1 (by omega)
  have K1 := Lib.hid (k1.none_ lo hi)
  clear k1
  have hc := markBody_any bs st ec A n c lo hi K xs _ r hK0 hK
  generalize K + ((3 * n + sumLen xs : Nat) : Int) = M at *
  have HC := Lib.hid hc
  clear hc
  go_enter Tryd.func28, Tryd.ntmps28
  go_wp2_with fail
  refine HC.out.mono ?_
  rintro e w1 ⟨rfl, hw1, hk1⟩
  go_wp2_with fail
  go_ret
  exact ⟨rfl, hw1, K1.out.trans hk1⟩

set_option maxHeartbeats 400000 in
theorem heldBodyResult_any (cd bs st ec : Int) (A : Option Addr) (n c lo hi : Nat) (K : Int) (xs : List Itm) (w : World) (hl : xs.length = n) (h : Rt w lo hi A n (markT K xs)) (hK0 : 0 ≤ K) (hK : K + ((3 * n + sumLen xs : Nat) : Int) ≤ 9223372036854775807) :
    Calls Tryd.prog 29 #[.agg #[.int .i64 cd, .int .i64 bs, .int .i64 st, .int .i64 ec, .slice A n c], .int .i64 K] w fun e w' => e = .returned (.int .i64 (K + ((3 * n + sumLen xs : Nat) : Int))) ∧ Keep 0 0 w w' := by
  have k1 := (Keep.refl 0 0 w).alloc (.cells #[.int .i64 cd, .int .i64 bs, .int .i64 st, .int .i64 ec, .slice A n c] 33)
  have r := h.keep k1 (by omega)
  have K1 := Lib.hid k1
  have hnn : ¬ K + ((3 * n + sumLen xs : Nat) : Int) < 0 := by omega
  clear k1
  have hc := heldBody_any bs st ec A n c lo hi K xs _ hl r hK0 hK
  generalize K + ((3 * n + sumLen xs : Nat) : Int) = M at *
  have HC := Lib.hid hc
  clear hc
  go_enter Tryd.func29, Tryd.ntmps29
  go_wp2_with fail
  refine HC.out.mono ?_
  rintro e w1 ⟨rfl, k2⟩
  have K2 := Lib.hid (K1.out.trans k2)
  go_wp2_with fail
  go_ret
  exact ⟨rfl, K2.out⟩

/-- What is wrong with a body. -/
def bodyCode (bs st ec : Int) (xs : List Itm) : Int := if ¬ stampsOk st ec then 3 else logCode bs 4 xs
theorem bodyCode_st {bs st ec : Int} {xs : List Itm} (h : ¬ stampsOk st ec) : bodyCode bs st ec xs = 3 := if_pos h
theorem bodyCode_ok {bs st ec : Int} {xs : List Itm} (h : stampsOk st ec) : bodyCode bs st ec xs = logCode bs 4 xs := if_neg (fun k => k h)
theorem bodyCode_base {bs st ec : Int} {xs : List Itm} (h : ¬ (0 ≤ bs ∧ bs ≤ 9000)) : bodyCode bs st ec xs = 3 := by
  unfold bodyCode logCode
  split
  · rfl
  · rw [if_pos (.inr h)]

set_option maxHeartbeats 1000000 in
theorem specBodyFault_any (bs st ec : Int) (A : Option Addr) (n c lo hi : Nat) (xs : List Itm) (w : World) (h : Rt w lo hi A n xs) :
    Calls Tryd.prog 38 #[.agg #[.int .i64 bs, .int .i64 st, .int .i64 ec, .slice A n c]] w fun e w' => e = .returned (.int .i64 (bodyCode bs st ec xs)) ∧ Keep 0 0 w w' := by
  have hint := h.int
  have hl := h.len
  have k1 := (Keep.refl 0 0 w).alloc (.cells #[.int .i64 bs, .int .i64 st, .int .i64 ec, .slice A n c] 26)
  have r := h.keep k1 (by omega)
  have bx := BoxL.new w [.int .i64 bs, .int .i64 st, .int .i64 ec, .slice A n c] #[.int .i64 bs, .int .i64 st, .int .i64 ec, .slice A n c] 26 rfl
  have KA := Lib.hid k1
  have BX := Lib.hid bx
  clear bx
  by_cases hb : 0 ≤ bs ∧ bs ≤ 9000
  · by_cases hst : stampsOk st ec
    · have HS := Lib.hid (fun w' => l7Stamps_any st ec w')
      rw [decide_eq_true hst] at HS
      have HB := Lib.hid (bodyCode_ok (bs := bs) (xs := xs) hst)
      by_cases hm : (4 : Int) < (n : Int)
      · have HR := Lib.hid (ret_int (show (2 : Int) = bodyCode bs st ec xs from by rw [HB.out]; unfold logCode; rw [if_neg (by omega), if_pos (by omega)]))
        go_enter Tryd.func38, Tryd.ntmps38
        go_wp2_with fail
        refine (l1In_any bs 0 9000 _ true (decide_eq_true hb)).mono ?_
        rintro e w1 ⟨rfl, rfl⟩
        go_wp2_with fail
        refine (HS.out _).mono ?_
        rintro e w1 ⟨rfl, rfl⟩
        go_wp2_with fail
        go_ret
        exact ⟨HR.out, KA.out⟩
      · have HC := l5Items_any A n c lo hi xs _ r
        by_cases hc : itemsCode xs = 0
        · rw [hc] at HC
          have HCC := Lib.hid HC
          clear HC
          by_cases hf : 9000 < bs + (n : Int)
          · have HR := Lib.hid (ret_int (show (7 : Int) = bodyCode bs st ec xs from by rw [HB.out]; unfold logCode; rw [if_neg (by omega), if_neg (by omega), if_neg (by simp [hc]), if_pos (by omega)]))
            go_enter Tryd.func38, Tryd.ntmps38
            go_wp2_with fail
            refine (l1In_any bs 0 9000 _ true (decide_eq_true hb)).mono ?_
            rintro e w1 ⟨rfl, rfl⟩
            go_wp2_with fail
            refine (HS.out _).mono ?_
            rintro e w1 ⟨rfl, rfl⟩
            go_wp2_with fail
            refine HCC.out.mono ?_
            rintro e w1 ⟨rfl, k2⟩
            have bx := BX.out.keep k2 (by omega)
            have b0 := bx.at_ 0 _ rfl
            have b3 := bx.at_ 3 _ rfl
            have K2 := Lib.hid (KA.out.trans k2)
            clear bx k2
            go_wp2_with fail
            go_ret
            exact ⟨HR.out, K2.out⟩
          · have HR := Lib.hid (ret_int (show (0 : Int) = bodyCode bs st ec xs from by rw [HB.out]; unfold logCode; rw [if_neg (by omega), if_neg (by omega), if_neg (by simp [hc]), if_neg (by omega)]))
            go_enter Tryd.func38, Tryd.ntmps38
            go_wp2_with fail
            refine (l1In_any bs 0 9000 _ true (decide_eq_true hb)).mono ?_
            rintro e w1 ⟨rfl, rfl⟩
            go_wp2_with fail
            refine (HS.out _).mono ?_
            rintro e w1 ⟨rfl, rfl⟩
            go_wp2_with fail
            refine HCC.out.mono ?_
            rintro e w1 ⟨rfl, k2⟩
            have bx := BX.out.keep k2 (by omega)
            have b0 := bx.at_ 0 _ rfl
            have b3 := bx.at_ 3 _ rfl
            have K2 := Lib.hid (KA.out.trans k2)
            clear bx k2
            go_wp2_with fail
            go_ret
            exact ⟨HR.out, K2.out⟩
        · have HR := Lib.hid (ret_int (show itemsCode xs = bodyCode bs st ec xs from by rw [HB.out]; unfold logCode; rw [if_neg (by omega), if_neg (by omega), if_pos hc]))
          generalize itemsCode xs = ic at *
          have HCC := Lib.hid HC
          clear HC
          have hcb : (ic != 0) = true := by simp [hc]
          go_enter Tryd.func38, Tryd.ntmps38
          go_wp2_with fail
          refine (l1In_any bs 0 9000 _ true (decide_eq_true hb)).mono ?_
          rintro e w1 ⟨rfl, rfl⟩
          go_wp2_with fail
          refine (HS.out _).mono ?_
          rintro e w1 ⟨rfl, rfl⟩
          go_wp2_with fail
          refine HCC.out.mono ?_
          rintro e w1 ⟨rfl, k2⟩
          have bx := BX.out.keep k2 (by omega)
          have b0 := bx.at_ 0 _ rfl
          have b3 := bx.at_ 3 _ rfl
          have K2 := Lib.hid (KA.out.trans k2)
          clear bx k2
          go_wp2_with fail
          go_ret
          exact ⟨HR.out, K2.out⟩
    · have HS := Lib.hid (fun w' => l7Stamps_any st ec w')
      rw [decide_eq_false hst] at HS
      have HR := Lib.hid (ret_int (bodyCode_st (bs := bs) (xs := xs) hst).symm)
      go_enter Tryd.func38, Tryd.ntmps38
      go_wp2_with fail
      refine (l1In_any bs 0 9000 _ true (decide_eq_true hb)).mono ?_
      rintro e w1 ⟨rfl, rfl⟩
      go_wp2_with fail
      refine (HS.out _).mono ?_
      rintro e w1 ⟨rfl, rfl⟩
      go_wp2_with fail
      go_ret
      exact ⟨HR.out, KA.out⟩
  · have HR := Lib.hid (ret_int (bodyCode_base (st := st) (ec := ec) (xs := xs) hb).symm)
    go_enter Tryd.func38, Tryd.ntmps38
    go_wp2_with fail
    refine (l1In_any bs 0 9000 _ false (decide_eq_false hb)).mono ?_
    rintro e w1 ⟨rfl, rfl⟩
    go_wp2_with fail
    go_ret
    exact ⟨HR.out, KA.out⟩

set_option maxHeartbeats 1000000 in
theorem implBodyFault_any (bs st ec : Int) (A : Option Addr) (n c hi : Nat) (xs : List Itm) (w : World) (h : Rt w 0 hi A n xs) :
    Calls Tryd.prog 21 #[.agg #[.int .i64 bs, .int .i64 st, .int .i64 ec, .slice A n c]] w fun e w' => e = .returned (.int .i64 (bodyCode bs st ec xs)) ∧ Below w.heap.size w w' := by
  have htop := h.top
  have r := h.keep ((Keep.refl 0 0 w).alloc (.cells #[.int .i64 bs, .int .i64 st, .int .i64 ec, .slice A n c] 26)) (by omega)
  have BX := Lib.hid (BoxL.new w [.int .i64 bs, .int .i64 st, .int .i64 ec, .slice A n c] #[.int .i64 bs, .int .i64 st, .int .i64 ec, .slice A n c] 26 rfl)
  have HS := Lib.hid (fun w' => noStamps_any st ec w')
  by_cases hst : stampsOk st ec
  · rw [decide_eq_true hst] at HS
    have HB := Lib.hid (bodyCode_ok (bs := bs) (xs := xs) hst)
    clear hst
    generalize bodyCode bs st ec xs = cd at *
    generalize hlc : logCode bs 4 xs = lc at *
    have HL := Lib.hid (fun w' (r' : Rt w' 0 hi A n xs) => hlc ▸ implLogFault_any bs 4 A n c hi xs w' r')
    clear hlc
    go_enter Tryd.func21, Tryd.ntmps21
    go_wp2_with fail
    refine (HS.out _).mono ?_
    rintro e w1 ⟨rfl, hb⟩
    have bx := BX.out.below hb
    have hb1 := below_new hb
    have r1 := r.keep (Keep.of_below hb 0 0) (by omega)
    have c0 := bx.at_ 0 _ rfl
    have c3 := bx.at_ 3 _ rfl
    have z1 := hb1.size
    clear hb bx
    go_wp2_with fail
    refine (HL.out _ r1).mono ?_
    rintro e w2 ⟨rfl, hb2⟩
    have HBB := Lib.hid (hb1.trans (hb2.mono z1))
    clear hb1 hb2 c0 c3 r r1 h
    go_wp2_with fail
    go_ret
    exact ⟨by rw [HB.out]; rfl, HBB.out⟩
  · have HR := Lib.hid (ret_int (bodyCode_st (bs := bs) (xs := xs) hst).symm)
    rw [decide_eq_false hst] at HS
    go_enter Tryd.func21, Tryd.ntmps21
    go_wp2_with fail
    refine (HS.out _).mono ?_
    rintro e w1 ⟨rfl, hb⟩
    have HBB := Lib.hid (below_new hb)
    clear hb
    go_wp2_with fail
    go_ret
    exact ⟨HR.out, HBB.out⟩
end Go.Proofs.YtjdkaaepbkkchaaDoor
namespace Go.Proofs.YtjdkaaepbkkchaaDoor
open Go.RowKit
set_option linter.unusedVariables false
set_option maxRecDepth 100000

theorem below_drew {B : Nat} {w w' : World} (h : Below B w w') : Below B w w'.drew := h.trans ⟨rfl, rfl, rfl, Nat.le_refl _, fun _ _ => rfl⟩
def itemL (x : Itm) : List Int := if x.1 = 1 then 1 :: (x.2.1.length : Int) :: x.2.1 else 2 :: (digs x.2.2.1 2 ++ digs x.2.2.2 2)
def bodyL (bs st ec : Int) (xs : List Itm) : List Int := repL bs st ec ++ ((xs.length : Int) :: xs.flatMap itemL)
/-- An item without a fault. -/
theorem item_ok {x : Itm} (h : cdOf x = 0) : (∃ ys, x = (1, ys, 0, 0) ∧ 1 ≤ ys.length ∧ ys.length ≤ 8) ∨ (∃ p q, x = (2, [], p, q) ∧ (1 ≤ p ∧ p ≤ 999) ∧ (1 ≤ q ∧ q ≤ 999)) := by
  obtain ⟨k, ys, p, q⟩ := x
  unfold cdOf itemCode at h
  simp only at h
  split at h
  · rename_i h1
    obtain ⟨rfl, rfl, rfl⟩ := h1
    split at h
    · omega
    · exact .inl ⟨ys, rfl, by omega, by omega⟩
  · split at h
    · rename_i h2
      obtain ⟨rfl, hl⟩ := h2
      obtain rfl : ys = [] := List.eq_nil_of_length_eq_zero hl
      split at h
      · omega
      · exact .inr ⟨p, q, rfl, by omega, by omega⟩
    · omega
theorem itemL_key (ys : List Int) : itemL (1, ys, 0, 0) = [1, (ys.length : Int)] ++ ys := by simp [itemL]
theorem itemL_size (p q : Int) : itemL (2, [], p, q) = [2] ++ (digs p 2 ++ digs q 2) := by simp [itemL]
theorem digs1 (n : Int) (h : 0 ≤ n ∧ n ≤ 255) : digs n 1 = [n] := by
  simp [digs, sh]
  omega
theorem itemL_len {x : Itm} (h : cdOf x = 0) : 1 ≤ (itemL x).length ∧ (itemL x).length ≤ 10 := by
  rcases item_ok h with ⟨ys, rfl, h1, h2⟩ | ⟨p, q, rfl, _, _⟩
  · rw [itemL_key]; simp; omega
  · rw [itemL_size]; simp [digs_len]

set_option maxHeartbeats 4000000 in
theorem l7Item_any (b off lo hi : Nat) (x : Itm) (w : World) (h : ItAt w lo hi b off x) (hbl : b < w.heap.size) (hcd : cdOf x = 0) :
    Calls Tryd.prog 69 #[.pointer (some ⟨b, off, none⟩)] w fun e w' => ∃ g cap, e = .returned (.slice (some ⟨g, 0, none⟩) (itemL x).length cap) ∧ OwnB w' w.heap.size g (itemL x).length cap (itemL x) ∧ Below w.heap.size w w' := by
  rcases item_ok hcd with ⟨ys, rfl, hl1, hl8⟩ | ⟨p, q, rfl, hp, hq⟩
  · obtain ⟨c0, ⟨G, c, c1, hr, gz⟩, c2, c3⟩ := h
    simp only at c0 c1 c2 c3 hr
    have hby := hr.byte
    obtain ⟨n, hn⟩ : ∃ n, ys.length = n := ⟨_, rfl⟩
    rw [hn] at c1 hr hl1 hl8
    have hz : (itemL (1, ys, 0, 0)).length = 2 + n := by rw [itemL_key]; simp [hn]; omega
    have hzz := itemL_key ys
    rw [hn] at hzz
    generalize itemL (1, ys, 0, 0) = Z at *
    have HZ := Lib.hid hzz
    rw [hz]
    have HS := Lib.hid (fun (w' : World) (k : Below w.heap.size w w') => (k.cell (p := ⟨b, off + 1, none⟩) hbl).trans c1)
    have bd0 : Below w.heap.size w w.drew := below_drew (Below.refl _ _)
    have hw8 : IntKind.u8.wrap (n : Int) = (n : Int) := by rw [IntKind.wrap_u8]; omega
    have ha : Below w.heap.size w (w.alloc (.cells #[.int .u8 1, .int .u8 (n : Int)] 5)) := (Below.refl _ _).alloc (Nat.le_refl _) _
    have hA : OwnB (w.alloc (.cells #[.int .u8 1, .int .u8 (n : Int)] 5)).drew w.heap.size w.heap.size 2 2 [1, (n : Int)] := OwnB.lit w _ [1, (n : Int)] rfl (by omega) (by simp; omega) rfl
    have hR0 := hr.keep (Keep.of_below ha 0 0) (by omega)
    have hR : Rd (w.alloc (.cells #[.int .u8 1, .int .u8 (n : Int)] 5)).drew lo hi G n ys := hR0
    have bd : Below w.heap.size w (w.alloc (.cells #[.int .u8 1, .int .u8 (n : Int)] 5)).drew := below_drew ha
    clear ha hr hzz hz hR0
    go_enter Tryd.func69, Tryd.ntmps69
    go_wp2_with fail
    go_region_held3 (fun w' => w'.cell? ⟨b, off + 1, none⟩ = some (.slice G n c))
      (first | exact HS.out _ bd0 | exact HS.out _ bd | go_keep)
      (first
        | (refine step_append_ob rfl _ _ rfl w.heap.size w.heap.size 2 2 _ rfl hA G n c _ _ _ rfl hR gz (by omega) (by simp) ?_; intro g4 c4 v4 hp; have p1 := hp.own; replace bd := bd.trans (hp.below (Nat.le_refl _) (by simp))))
    rw [← HZ.out] at p1
    have HO := Lib.hid p1
    clear hp p1 hA hR
    go_wp2_with fail
    go_ret
    exact ⟨g4, c4, rfl, HO.out, bd⟩
  · obtain ⟨c0, _, c2, c3⟩ := h
    simp only at c0 c2 c3
    have hz : (itemL (2, [], p, q)).length = 5 := by rw [itemL_size]; simp [digs_len]
    have hzz := itemL_size p q
    generalize itemL (2, [], p, q) = Z at *
    have HZ := Lib.hid hzz
    rw [hz]
    have HS := Lib.hid (fun (w' : World) (k : Below w.heap.size w w') => (⟨(k.cell (p := ⟨b, off + 2, none⟩) hbl).trans c2, (k.cell (p := ⟨b, off + 3, none⟩) hbl).trans c3⟩ : w'.cell? ⟨b, off + 2, none⟩ = some (.int .i64 p) ∧ w'.cell? ⟨b, off + 3, none⟩ = some (.int .i64 q)))
    have ha0 : Below w.heap.size w (w.alloc (.cells #[.int .u8 2] 5)) := (Below.refl _ _).alloc (Nat.le_refl _) _
    have ha : Below w.heap.size w (w.alloc (.cells #[.int .u8 2] 5)).drew := below_drew ha0
    clear ha0
    have bd : Below w.heap.size w w.drew := ⟨rfl, rfl, rfl, Nat.le_refl _, fun _ _ => rfl⟩
    have szd := bd.size
    have hA : OwnB (w.alloc (.cells #[.int .u8 2] 5)).drew w.heap.size w.heap.size 1 1 [2] := OwnB.lit w _ [2] rfl (by omega) (by simp) rfl
    clear hzz hz
    go_enter Tryd.func69, Tryd.ntmps69
    go_wp2_with fail
    go_region_held3 (fun w' => w'.cell? ⟨b, off + 2, none⟩ = some (.int .i64 p) ∧ w'.cell? ⟨b, off + 3, none⟩ = some (.int .i64 q))
      (first | exact HS.out _ bd | exact HS.out _ ha | exact HS.out _ (bd.alloc szd _) | go_keep)
      (first
        | (go_at_call_of 68 p; refine (l1High_own p 2 w.drew (by omega) (by omega) (by omega)).mono ?_; rintro e v1 ⟨g1, c1, rfl, o1, hb⟩; have hB := hb; replace bd := bd.trans (hb.mono szd); have szd := bd.size; have oz := OwnB.lit (n := 1) v1 #[.int .u8 2] [2] rfl (by omega) (by simp) rfl; have oy := o1.below ((Below.refl _ _).alloc (Nat.le_refl _) (.cells #[.int .u8 2] 5)); have bd2 := bd.alloc szd (.cells #[.int .u8 2] 5); have oz' := oz.down szd)
        | (go_at_call_of 68 p; refine (l1High_own p 2 (w.alloc (.cells #[.int .u8 2] 5)).drew (by omega) (by omega) (by omega)).mono ?_; rintro e v1 ⟨g1, c1, rfl, o1, hb⟩; have oz' := hA.below hb; have oy := o1; have bd2 := ha.trans (hb.mono ha.size); replace bd := bd2; have szd := bd.size)
        | (refine step_append_ob rfl _ _ rfl w.heap.size _ 1 1 _ rfl oz' (some ⟨g1, 0, none⟩) 2 c1 _ _ _ rfl oy.wr.1 some_ne (by omega) bd2.size ?_; intro g4 c4 v4 hp; have p1 := hp.own; replace bd := bd2.trans (hp.below oz'.le bd2.size); have szd := bd.size)
        | (go_at_call_of 68 q; refine (l1High_own q 2 v4 (by omega) (by omega) (by omega)).mono ?_; rintro e v5 ⟨g5, c5, rfl, o5, hb⟩; have p1' := p1.below hb; replace bd := bd.trans (hb.mono szd); have szd := bd.size)
        | (refine step_append_ob rfl _ _ rfl w.heap.size g4 3 c4 _ rfl p1' (some ⟨g5, 0, none⟩) 2 c5 _ _ _ rfl o5.wr.1 some_ne (by omega) szd ?_; intro g6 c6 v6 hp2; have p2 := hp2.own; replace bd := bd.trans (hp2.below p1'.le szd); have szd := bd.size))
    all_goals
      rw [List.append_assoc, ← HZ.out] at p2
      have HO := Lib.hid p2
      clear p2 hp2 p1 p1' hp
      go_wp2_with fail
      go_ret
      exact ⟨g6, c6, rfl, HO.out, bd⟩
end Go.Proofs.YtjdkaaepbkkchaaDoor
namespace Go.Proofs.YtjdkaaepbkkchaaDoor
open Go.RowKit
set_option linter.unusedVariables false
set_option maxRecDepth 100000

set_option maxHeartbeats 4000000 in
theorem itemBytes_any (k p q : Int) (G : Option Addr) (c hi : Nat) (ys : List Int) (w : World) (hr : Rd w 0 hi G ys.length ys) (gz : G = none → c = 0) (hcd : cdOf (k, ys, p, q) = 0) :
    Calls Tryd.prog 35 #[.agg #[.int .i64 k, .slice G ys.length c, .int .i64 p, .int .i64 q]] w fun e w' => ∃ g cap, e = .returned (.slice (some ⟨g, 0, none⟩) (itemL (k, ys, p, q)).length cap) ∧ OwnB w' w.heap.size g (itemL (k, ys, p, q)).length cap (itemL (k, ys, p, q)) ∧ Below w.heap.size w w' := by
  have hbx := BoxL.new w [.int .i64 k, .slice G ys.length c, .int .i64 p, .int .i64 q] #[.int .i64 k, .slice G ys.length c, .int .i64 p, .int .i64 q] 55 rfl
  have htop := hr.top
  have hr1 := hr.keep ((Keep.refl 0 0 w).alloc (.cells #[.int .i64 k, .slice G ys.length c, .int .i64 p, .int .i64 q] 55)) (by omega)
  have hb0 : Below w.heap.size w (w.alloc (.cells #[.int .i64 k, .slice G ys.length c, .int .i64 p, .int .i64 q] 55)) := (Below.refl _ _).alloc (Nat.le_refl _) _
  rcases item_ok hcd with ⟨zs, e, hl1, hl8⟩ | ⟨p', q', e, hp, hq⟩
  · injection e with e1 e2
    injection e2 with e2 e3
    injection e3 with e3 e4
    subst e1 e2 e3 e4
    obtain ⟨n, hn⟩ : ∃ n, ys.length = n := ⟨_, rfl⟩
    rw [hn] at hl1 hl8 hr1 hbx hb0 ⊢
    have hz : (itemL (1, ys, 0, 0)).length = 2 + n := by rw [itemL_key]; simp [hn]; omega
    have hzz := itemL_key ys
    rw [hn] at hzz
    generalize itemL (1, ys, 0, 0) = Z at *
    have HZ := Lib.hid hzz
    obtain ⟨L, hL⟩ : ∃ L, Z.length = L := ⟨_, rfl⟩
    rw [hL] at hz ⊢
    have HL := Lib.hid hz
    have HBX := Lib.hid hbx
    have HB0 := Lib.hid hb0
    clear hzz hL hr hbx hb0 hz
    go_enter Tryd.func35, Tryd.ntmps35
    go_wp2_with fail
    refine (putWord_any 1 1 _ (by omega) (by omega) (by omega)).mono ?_
    rintro e w1 ⟨g1, rfl, r1, hb⟩
    have bx := HBX.out.below hb
    have b1 := HB0.out.trans (hb.mono HB0.out.size)
    have z1 := b1.size
    have hr2 := hr1.keep (Keep.of_below hb 0 0) (by omega)
    have c0 := bx.at_ 0 _ rfl
    have rk := r1.rd0
    clear hb r1 hr1
    go_wp2_with fail
    have HS := Lib.hid (fun (w' : World) (k : Below w1.heap.size w1 w') => (bx.below k).at_ 1 _ rfl)
    have bd : Below w1.heap.size w1 w1.drew := below_drew (Below.refl _ _)
    have szd := bd.size
    clear c0 bx
    go_region_held3 (fun w' => w'.cell? ⟨w.heap.size, 1, none⟩ = some (.slice G n c))
      (first | exact HS.out _ bd | exact HS.out _ (bd.alloc szd _) | go_keep)
      (first
        | (go_at_call 34; refine (putWord_any (n : Int) 1 _ (by omega) (by omega) (by omega)).mono ?_; rintro e v1 ⟨g2, rfl, r2, hb⟩; replace bd := bd.trans (hb.mono szd); have szd := bd.size; have kk := Keep.of_below bd 0 0; have hP := Lib.hid (Parts.new v1 [(some ⟨g1, 0, none⟩, 1, 1, digs 1 1), (some ⟨g2, 0, none⟩, 1, 1, digs (n : Int) 1), (G, n, c, ys)] #[.slice (some ⟨g1, 0, none⟩) 1 1, .slice (some ⟨g2, 0, none⟩) 1 1, .slice G n c] 22 rfl (fun p hp => by
            simp only [List.mem_cons, List.not_mem_nil, or_false] at hp
            rcases hp with rfl | rfl | rfl
            · exact ⟨(rk.keep kk (by omega)).wide (Nat.zero_le _) szd (Nat.le_refl _), some_ne⟩
            · exact ⟨r2.rd0, some_ne⟩
            · exact ⟨(hr2.keep kk (by omega)).wide (Nat.zero_le _) (by omega) (Nat.le_refl _), gz⟩)))
        | (go_at_call 32; refine (concatN_any v1.heap.size 3 _ 3 L _ Z _ hP.out (by simp) rfl (by have := HL.out; simp [lenP]; omega) (by rw [HZ.out, digs1 1 (by omega), digs1 (n : Int) (by omega)]; simp [catP]) (by have := HL.out; omega) (by have := HL.out; omega) (by omega)).mono ?_; rintro e v2 ⟨g, cap, rfl, ho, hb⟩; replace bd := (bd.alloc szd _).trans (hb.mono (by simp; omega)); have ho' := ho.down (base' := w.heap.size) (by simp; omega)))
    have HO := Lib.hid ho'
    have HB := Lib.hid (b1.trans (bd.mono z1))
    clear ho ho' bd hP b1
    go_wp2_with fail
    go_ret
    exact ⟨g, cap, rfl, HO.out, HB.out⟩
  · injection e with e1 e2
    injection e2 with e2 e3
    injection e3 with e3 e4
    subst e1 e2 e3 e4
    have hz : (itemL (2, [], p, q)).length = 5 := by rw [itemL_size]; simp [digs_len]
    have hzz := itemL_size p q
    generalize itemL (2, [], p, q) = Z at *
    have HZ := Lib.hid hzz
    obtain ⟨L, hL⟩ : ∃ L, Z.length = L := ⟨_, rfl⟩
    rw [hL] at hz ⊢
    have HL := Lib.hid hz
    have HBX := Lib.hid hbx
    have HB0 := Lib.hid hb0
    clear hzz hL hr hbx hb0 hz
    go_enter Tryd.func35, Tryd.ntmps35
    go_wp2_with fail
    refine (putWord_any 2 1 _ (by omega) (by omega) (by omega)).mono ?_
    rintro e w1 ⟨g1, rfl, r1, hb⟩
    have bx := HBX.out.below hb
    have b1 := HB0.out.trans (hb.mono HB0.out.size)
    have z1 := b1.size
    have c0 := bx.at_ 0 _ rfl
    have rk := r1.rd0
    clear hb r1 hr1
    go_wp2_with fail
    have HS := Lib.hid (fun (w' : World) (k : Below w1.heap.size w1 w') => (⟨(bx.below k).at_ 2 _ rfl, (bx.below k).at_ 3 _ rfl⟩ : w'.cell? ⟨w.heap.size, 2, none⟩ = some (.int .i64 p) ∧ w'.cell? ⟨w.heap.size, 3, none⟩ = some (.int .i64 q)))
    have bd : Below w1.heap.size w1 w1.drew := below_drew (Below.refl _ _)
    have szd := bd.size
    clear c0 bx
    go_region_held3 (fun w' => w'.cell? ⟨w.heap.size, 2, none⟩ = some (.int .i64 p) ∧ w'.cell? ⟨w.heap.size, 3, none⟩ = some (.int .i64 q))
      (first | exact HS.out _ bd | exact HS.out _ (bd.alloc szd _) | go_keep)
      (first
        | (go_at_call_of 34 p; refine (putWord_any p 2 _ (by omega) (by omega) (by omega)).mono ?_; rintro e v1 ⟨g2, rfl, r2, hb⟩; replace bd := bd.trans (hb.mono szd); have szd := bd.size; have r2' := r2.rd0)
        | (go_at_call_of 34 q; refine (putWord_any q 2 _ (by omega) (by omega) (by omega)).mono ?_; rintro e v2 ⟨g3, rfl, r3, hb⟩; replace bd := bd.trans (hb.mono szd); have szd := bd.size; have kk := Keep.of_below bd 0 0; have k2 := Keep.of_below hb 0 0; have hP := Lib.hid (Parts.new v2 [(some ⟨g1, 0, none⟩, 1, 1, digs 2 1), (some ⟨g2, 0, none⟩, 2, 2, digs p 2), (some ⟨g3, 0, none⟩, 2, 2, digs q 2)] #[.slice (some ⟨g1, 0, none⟩) 1 1, .slice (some ⟨g2, 0, none⟩) 2 2, .slice (some ⟨g3, 0, none⟩) 2 2] 22 rfl (fun p hp => by
            simp only [List.mem_cons, List.not_mem_nil, or_false] at hp
            rcases hp with rfl | rfl | rfl
            · exact ⟨(rk.keep kk (by omega)).wide (Nat.zero_le _) szd (Nat.le_refl _), some_ne⟩
            · exact ⟨(r2'.keep k2 (by omega)).wide (Nat.zero_le _) hb.size (Nat.le_refl _), some_ne⟩
            · exact ⟨r3.rd0, some_ne⟩)))
        | (go_at_call 32; refine (concatN_any v2.heap.size 3 _ 3 L _ Z _ hP.out (by simp) rfl (by have := HL.out; simp [lenP]; omega) (by rw [HZ.out, digs1 2 (by omega)]; simp [catP]) (by have := HL.out; omega) (by have := HL.out; omega) (by omega)).mono ?_; rintro e v3 ⟨g, cap, rfl, ho, hb⟩; replace bd := (bd.alloc szd _).trans (hb.mono (by simp; omega)); have ho' := ho.down (base' := w.heap.size) (by simp; omega)))
    have HO := Lib.hid ho'
    have HB := Lib.hid (b1.trans (bd.mono z1))
    clear ho ho' bd hP b1
    go_wp2_with fail
    go_ret
    exact ⟨g, cap, rfl, HO.out, HB.out⟩
end Go.Proofs.YtjdkaaepbkkchaaDoor
namespace Go.Proofs.YtjdkaaepbkkchaaDoor
open Go.RowKit
set_option linter.unusedVariables false
set_option maxRecDepth 100000

theorem items_each : ∀ {xs : List Itm}, itemsCode xs = 0 → ∀ x ∈ xs, cdOf x = 0
  | [], _, x, hx => by simp at hx
  | y :: ys, h, x, hx => by
    unfold itemsCode at h
    split at h
    · rename_i h0
      rcases List.mem_cons.1 hx with rfl | hx
      · exact h0
      · exact items_each h x hx
    · rename_i h0
      exact absurd h h0
theorem body_ok {bs st ec : Int} {xs : List Itm} (h : bodyCode bs st ec xs = 0) : stampsOk st ec ∧ (0 ≤ bs ∧ bs ≤ 9000) ∧ xs.length ≤ 4 ∧ (∀ x ∈ xs, cdOf x = 0) ∧ bs + xs.length ≤ 9000 := by
  unfold bodyCode at h
  split at h
  · omega
  · rename_i h1
    unfold logCode at h
    split at h
    · omega
    · split at h
      · omega
      · split at h
        · rename_i h2 h3 h4
          exact absurd h h4
        · split at h
          · omega
          · rename_i h2 h3 h4 h5
            exact ⟨Decidable.not_not.1 h1, by omega, by omega, items_each (Decidable.not_not.1 h4), by omega⟩
def bodyAns (bs st ec : Int) (xs : List Itm) : List Int := if bodyCode bs st ec xs = 0 then bodyL bs st ec xs else []
/-- A body's bytes up to the k-th item. -/
def bodyK (bs st ec : Int) (xs : List Itm) (k : Nat) : List Int := repL bs st ec ++ ((xs.length : Int) :: (xs.take k).flatMap itemL)
theorem bodyK_zero (bs st ec : Int) (xs : List Itm) : bodyK bs st ec xs 0 = repL bs st ec ++ [(xs.length : Int)] := by simp [bodyK]
theorem bodyK_all (bs st ec : Int) (xs : List Itm) (k : Nat) (hk : xs.length ≤ k) : bodyK bs st ec xs k = bodyL bs st ec xs := by rw [bodyK, List.take_of_length_le hk]; rfl
theorem bodyK_succ (bs st ec : Int) (xs : List Itm) (k : Nat) (hk : k < xs.length) : bodyK bs st ec xs (k + 1) = bodyK bs st ec xs k ++ itemL (xs.getD k it0) := by
  have h1 : xs.take (k + 1) = xs.take k ++ [xs.getD k it0] := by
    rw [List.take_succ_eq_append_getElem hk, List.getD_eq_getElem?_getD, List.getElem?_eq_getElem hk]
    rfl
  simp [bodyK, h1]
theorem bodyK_len {bs st ec : Int} {xs : List Itm} (hx : ∀ x ∈ xs, cdOf x = 0) : ∀ k, k ≤ xs.length → (bodyK bs st ec xs k).length ≤ 10 + 10 * k
  | 0, _ => by rw [bodyK_zero]; simp [repL_len]
  | k + 1, hk => by
    have ih := bodyK_len (bs := bs) (st := st) (ec := ec) hx k (by omega)
    have hm : xs.getD k it0 ∈ xs := by
      rw [List.getD_eq_getElem?_getD, List.getElem?_eq_getElem (by omega)]
      simp
    have := (itemL_len (hx _ hm)).2
    rw [bodyK_succ _ _ _ _ _ (by omega), List.length_append]
    omega
theorem BoxL.belowB {w w' : World} {b B : Nat} {vs : List Value} (h : BoxL w b vs) (k : Below B w w') (hb : b < B) : BoxL w' b vs :=
  ⟨Nat.lt_of_lt_of_le h.lt k.size, fun j v hj => (k.cell (p := ⟨b, j, none⟩) hb).trans (h.at_ j v hj), fun j => (k.frozen (p := ⟨b, j, none⟩) hb).trans (h.fz j)⟩
theorem hidNe {a b : Int} (h : a ≠ b) : (a != b) = true := by simp [h]
theorem retAgg {a b : Int} {v : Value} (h : a = b) : Ending.returned (.agg #[.int .i64 a, v]) = .returned (.agg #[.int .i64 b, v]) := by rw [h]

set_option maxHeartbeats 4000000 in
theorem implEncBody_any (bs st ec : Int) (A : Option Addr) (n c hi : Nat) (xs : List Itm) (w : World) (h : Rt w 0 hi A n xs) :
    Calls Tryd.prog 8 #[.agg #[.int .i64 bs, .int .i64 st, .int .i64 ec, .slice A n c]] w (BytesPost w (bodyCode bs st ec xs) (bodyAns bs st ec xs)) := by
  have hint := h.int
  have hl := h.len
  have htop := h.top
  have hx := (BoxL.new w [.int .i64 bs, .int .i64 st, .int .i64 ec, .slice A n c] #[.int .i64 bs, .int .i64 st, .int .i64 ec, .slice A n c] 26 rfl).below ((Below.refl _ _).alloc (Nat.le_refl _) (.cells #[.int .i64 0, .slice none 0 0] 29))
  have hr := BoxL.new (w.alloc (.cells #[.int .i64 bs, .int .i64 st, .int .i64 ec, .slice A n c] 26)) [.int .i64 0, .slice none 0 0] #[.int .i64 0, .slice none 0 0] 29 rfl
  have hb : Below w.heap.size w ((w.alloc (.cells #[.int .i64 bs, .int .i64 st, .int .i64 ec, .slice A n c] 26)).alloc (.cells #[.int .i64 0, .slice none 0 0] 29)) := ((Below.refl _ _).alloc (Nat.le_refl _) _).alloc (by simp) _
  simp only [World.size_alloc] at hr
  have hrt := h.keep (Keep.of_below hb 0 0) (by omega)
  have HI := Lib.hid (fun w' (r : Rt w' 0 hi A n xs) => implBodyFault_any bs st ec A n c hi xs w' r)
  have HX := Lib.hid hx
  have HRB := Lib.hid hr
  have HB := Lib.hid hb
  clear hx hr hb
  by_cases hcd : bodyCode bs st ec xs = 0
  · rw [hcd] at HI
    unfold bodyAns
    rw [hcd, if_pos rfl]
    obtain ⟨⟨hs, hc⟩, ha, hn4, hxs, hfull⟩ := body_ok hcd
    have HK := Lib.hid (fun k => bodyK_len (bs := bs) (st := st) (ec := ec) hxs k)
    have HALL := Lib.hid (bodyK_all bs st ec xs n (by omega))
    have HZ0 := Lib.hid (bodyK_zero bs st ec xs)
    have HSC := Lib.hid (fun k => bodyK_succ bs st ec xs k)
    have HCD := Lib.hid hxs
    generalize bodyL bs st ec xs = Z at *
    clear hcd hxs hfull
    go_enter Tryd.func8, Tryd.ntmps8
    go_wp2_with fail
    refine (HI.out _ hrt).mono ?_
    rintro e w1 ⟨rfl, b1⟩
    have hx := HX.out.below b1
    have hr := HRB.out.below b1
    have hb := HB.out.trans (b1.mono HB.out.size)
    have zz := b1.size
    simp only [World.size_alloc] at zz
    clear b1 hrt
    go_wp2_with fail
    have bd : Below w1.heap.size w1 w1.drew := below_drew (Below.refl _ _)
    have szd := bd.size
    have HS := Lib.hid (fun (w' : World) (k : Below w1.heap.size w1 w') => (⟨(hx.below k).at_ 0 _ rfl, (hx.below k).at_ 1 _ rfl, (hx.below k).at_ 2 _ rfl, (hx.below k).at_ 3 _ rfl⟩ : w'.cell? ⟨w.heap.size, 0, none⟩ = some (.int .i64 bs) ∧ w'.cell? ⟨w.heap.size, 1, none⟩ = some (.int .i64 st) ∧ w'.cell? ⟨w.heap.size, 2, none⟩ = some (.int .i64 ec) ∧ w'.cell? ⟨w.heap.size, 3, none⟩ = some (.slice A n c)))
    go_region_held3 (fun w' => w'.cell? ⟨w.heap.size, 0, none⟩ = some (.int .i64 bs) ∧ w'.cell? ⟨w.heap.size, 1, none⟩ = some (.int .i64 st) ∧ w'.cell? ⟨w.heap.size, 2, none⟩ = some (.int .i64 ec) ∧ w'.cell? ⟨w.heap.size, 3, none⟩ = some (.slice A n c))
      (first | exact HS.out _ bd | exact HS.out _ (bd.alloc szd _) | go_keep)
      (first
        | (go_at_call 33; refine (startBytes_any bs st ec _ (by omega) (by omega) (by omega)).mono ?_; rintro e v1 ⟨g1, c1, rfl, o1, hb'⟩; replace bd := bd.trans (hb'.mono szd); have szd := bd.size)
        | (go_at_call 34; refine (putWord_any (n : Int) 1 _ (by omega) (by omega) (by omega)).mono ?_; rintro e v2 ⟨g2, rfl, r2, hb'⟩; replace bd := bd.trans (hb'.mono szd); have szd := bd.size; have o1' := o1.below hb'; have hP := Lib.hid (Parts.new v2 [(some ⟨g1, 0, none⟩, 9, c1, repL bs st ec), (some ⟨g2, 0, none⟩, 1, 1, digs (n : Int) 1)] #[.slice (some ⟨g1, 0, none⟩) 9 c1, .slice (some ⟨g2, 0, none⟩) 1 1] 22 rfl (fun p hp => by
            simp only [List.mem_cons, List.not_mem_nil, or_false] at hp
            rcases hp with rfl | rfl
            · exact ⟨o1'.wr.rd0, some_ne⟩
            · exact ⟨r2.rd0, some_ne⟩)))
        | (go_at_call 32; refine (concatN_any v2.heap.size 2 _ 2 10 _ (bodyK bs st ec xs 0) _ hP.out (by simp) rfl rfl (by rw [HZ0.out, digs1 (n : Int) (by omega), hl]; simp [catP]) (by omega) (by omega) (by omega)).mono ?_; rintro e v3 ⟨g, cap, rfl, ho, hb'⟩; replace bd := (bd.alloc szd _).trans (hb'.mono (by simp; omega)); have ho' := ho.down (base' := w.heap.size + 1 + 1) (by simp; omega)))
    have hl0 : (bodyK bs st ec xs 0).length = 10 := by rw [HZ0.out]; simp [repL_len]
    replace hr := hr.below bd
    have x3 := (hx.below bd).at_ 3 _ rfl
    have hbv : Below w.heap.size w v3 := hb.trans (bd.mono hb.size)
    have hz3 : w.heap.size + 1 + 1 ≤ v3.heap.size := by have := bd.size; omega
    have hHO := Lib.hid ho'
    clear ho ho' hP o1 o1' r2 bd szd hb hx HS
    go_wp2_with fail
    clear x3
    go_loopw [29, 4, 6] (fun i p _ wr => ∃ k g cap : Nat, k ≤ n ∧ i = .int .i64 (k : Int) ∧ p = .slice (some ⟨g, 0, none⟩) (bodyK bs st ec xs k).length cap ∧ OwnB wr (w.heap.size + 1 + 1) g (bodyK bs st ec xs k).length cap (bodyK bs st ec xs k) ∧ Below (w.heap.size + 1 + 1) v3 wr) (fun i _ _ _ => n - (intOf i).toNat)
    case atStart => exact ⟨0, g, cap, Nat.zero_le _, rfl, by rw [hl0], by rw [hl0]; exact hHO.out, Below.refl _ _⟩
    case round =>
      obtain ⟨k, g, cap, hk, rfl, rfl, own, hke⟩ := hrel
      have hbw : Below w.heap.size w wr := hbv.trans (hke.mono (by omega))
      have hsz := hke.size
      have hkl := HK.out k (by omega)
      by_cases hlt : k < n
      · obtain ⟨b, off, rfl, h1, h2, hit⟩ := h.at_ (by omega)
        obtain ⟨a0, ⟨G, cg, a1, rg, gz⟩, a2, a3⟩ := (hit k hlt).keep (Keep.of_below hbw 0 0) h2 (Nat.zero_le _) htop (by omega)
        have i0 : (0 : Int) ≤ (k : Int) := by omega
        have i1 : (k : Int) < (n : Int) := by omega
        have HT := Lib.hid (HSC.out k (by omega))
        have hcx := HCD.out (xs.getD k it0) (by
          rw [List.getD_eq_getElem?_getD, List.getElem?_eq_getElem (by omega)]
          simp)
        have hli := (itemL_len hcx).2
        generalize xs.getD k it0 = x at *
        obtain ⟨xk, xb, xp, xq⟩ := x
        simp only at a0 a1 a2 a3 rg
        have rg2 := rg.keep ((Keep.refl 0 0 wr).alloc (.cells #[.int .i64 xk, .slice G xb.length cg, .int .i64 xp, .int .i64 xq] 55)) (by omega)
        have HC := Lib.hid (itemBytes_any xk xp xq G cg hi xb _ rg2 gz hcx)
        have HT1 := Lib.hid (HT.out.symm.trans rfl)
        generalize itemL (xk, xb, xp, xq) = Zi at *
        obtain ⟨li, hLi⟩ : ∃ li, Zi.length = li := ⟨_, rfl⟩
        rw [hLi] at HC hli
        obtain ⟨Zk, hZk⟩ : ∃ Zk, bodyK bs st ec xs k = Zk := ⟨_, rfl⟩
        rw [hZk] at own hkl HT1 ⊢
        obtain ⟨lk, hLk⟩ : ∃ lk, Zk.length = lk := ⟨_, rfl⟩
        rw [hLk] at own hkl ⊢
        have HL : Hid ((bodyK bs st ec xs (k + 1)).length = lk + li) := by show _ = _; rw [← HT1.out, List.length_append, hLk, hLi]
        have HT2 : Hid (bodyK bs st ec xs (k + 1) = Zk ++ Zi) := HT1.out.symm
        have HO := Lib.hid own
        have HKE := Lib.hid hke
        clear rg rg2 gz hit h hcx hLi hZk hLk own hke HT HT1
        go_wp2_with fail
        refine HC.out.mono ?_
        rintro e wa ⟨ga, ca, rfl, oa, ba⟩
        have ba2 := below_new ba
        have hza := ba2.size
        have own2 := HO.out.below ba2
        have hbase : w.heap.size + 1 + 1 ≤ wa.heap.size := by omega
        go_wp2_with (at_builtin; refine wpList_append_ob rfl _ _ rfl (w.heap.size + 1 + 1) g lk cap Zk rfl own2 (some ⟨ga, 0, none⟩) li ca _ _ Zi rfl oa.wr.1 some_ne ?k2 hbase ?_)
        case k2 => omega
        intro g6 cap6 w6 hp
        have b6 : Below (w.heap.size + 1 + 1) v3 w6 := HKE.out.trans ((ba2.mono (by omega)).trans (hp.below own2.le hbase))
        have HO6 := Lib.hid hp.own
        have HB6 := Lib.hid b6
        clear own2 hp b6 ba ba2 oa
        go_wp2_with fail
        go_roundw
        case rel => exact ⟨k + 1, g6, cap6, by omega, by go_num, by rw [HL.out], by rw [HL.out, HT2.out]; exact HO6.out, HB6.out⟩
        case measure => simp [intOf]; omega
      · obtain rfl : k = n := by omega
        rw [HALL.out] at own
        rw [HALL.out]
        obtain ⟨lz, hLz⟩ : ∃ lz, Z.length = lz := ⟨_, rfl⟩
        rw [hLz] at own ⊢
        obtain ⟨e0, e1, HF⟩ := bytes_done (cd := 0) (hr.belowB hke (by omega)) own hbw (by omega)
        have hr2 := hr.belowB hke (by omega)
        have c0 := hr2.at_ 0 _ rfl
        have c1 := hr2.at_ 1 _ rfl
        have f0 := hr2.fz 0
        have f1 := hr2.fz 1
        clear hr hr2 own hke hbw h
        go_wp2_with fail
        exact bodyPost_ret (v := .agg #[.int .i64 0, .slice (some ⟨g, 0, none⟩) lz cap]) (by simp [results, Tryd.results8, go_sem, e0, e1]) rfl HF.out
  · unfold bodyAns
    rw [if_neg hcd]
    generalize bodyCode bs st ec xs = cd at *
    have hcb := hidNe hcd
    go_enter Tryd.func8, Tryd.ntmps8
    go_wp2_with fail
    refine (HI.out _ hrt).mono ?_
    rintro e w1 ⟨rfl, b1⟩
    have hr := HRB.out.below b1
    have hb := HB.out.trans (b1.mono HB.out.size)
    have zz := b1.size
    simp only [World.size_alloc] at zz
    clear b1
    obtain ⟨e0, e1, HF⟩ := bytes_fail (cd := cd) hr hb (by omega)
    have c0 := hr.at_ 0 _ rfl
    have c1 := hr.at_ 1 _ rfl
    have f0 := hr.fz 0
    have f1 := hr.fz 1
    clear hr hb hcd
    go_wp2_with fail
    exact bodyPost_ret (v := .agg #[.int .i64 cd, .slice none 0 0]) (by simp [results, Tryd.results8, go_sem, e0, e1]) rfl HF.out
end Go.Proofs.YtjdkaaepbkkchaaDoor
namespace Go.Proofs.YtjdkaaepbkkchaaDoor
open Go.RowKit
set_option linter.unusedVariables false
set_option maxRecDepth 100000

set_option maxHeartbeats 8000000 in
theorem l7Body_any (B : Nat) (bs st ec : Int) (A : Option Addr) (n c hi : Nat) (xs : List Itm) (w : World) (hx : BoxL w B [.int .i64 bs, .int .i64 st, .int .i64 ec, .slice A n c]) (h : Rt w 0 hi A n xs)
    (ha : 0 ≤ bs ∧ bs ≤ 9223372036854775807) (hs : 0 ≤ st ∧ st ≤ 9223372036854775807) (hc : 0 ≤ ec ∧ ec ≤ 9223372036854775807) (hn4 : n ≤ 4) (hxs : ∀ x ∈ xs, cdOf x = 0) :
    Calls Tryd.prog 41 #[.pointer (some ⟨B, 0, none⟩)] w fun e w' => ∃ g cap, e = .returned (.slice (some ⟨g, 0, none⟩) (bodyL bs st ec xs).length cap) ∧ OwnB w' w.heap.size g (bodyL bs st ec xs).length cap (bodyL bs st ec xs) ∧ Below w.heap.size w w' := by
  have hint := h.int
  have hl := h.len
  have htop := h.top
  have hBl := hx.lt
  have HK := Lib.hid (fun k => bodyK_len (bs := bs) (st := st) (ec := ec) hxs k)
  have HALL := Lib.hid (bodyK_all bs st ec xs n (by omega))
  have HZ0 : Hid (bodyK bs st ec xs 0 = (digs bs 4 ++ digs st 2) ++ digs ec 3 ++ [(n : Int)]) := by
    show _ = _
    rw [bodyK_zero, hl, repL]
    simp
  have HSC := Lib.hid (fun k => bodyK_succ bs st ec xs k)
  have HCD := Lib.hid hxs
  have HX := Lib.hid (fun (w' : World) (k : Below w.heap.size w w') => hx.below k)
  generalize bodyL bs st ec xs = Z at *
  have hw8 : IntKind.u8.wrap (n : Int) = (n : Int) := by rw [IntKind.wrap_u8]; omega
  have bd : Below w.heap.size w w.drew := below_drew (Below.refl _ _)
  have szd := bd.size
  clear hxs hx
  go_enter Tryd.func41, Tryd.ntmps41
  go_wp2_with fail
  have HS := Lib.hid (fun (w' : World) (k : Below w.heap.size w w') => (⟨(HX.out _ k).at_ 0 _ rfl, (HX.out _ k).at_ 1 _ rfl⟩ : w'.cell? ⟨B, 0, none⟩ = some (.int .i64 bs) ∧ w'.cell? ⟨B, 1, none⟩ = some (.int .i64 st)))
  go_region_held3 (fun w' => w'.cell? ⟨B, 0, none⟩ = some (.int .i64 bs) ∧ w'.cell? ⟨B, 1, none⟩ = some (.int .i64 st))
    (first | exact HS.out _ bd | go_keep)
    (first
      | (go_at_call_of 68 bs; refine (l1High_own bs 4 _ ha.1 ha.2 (by omega)).mono ?_; rintro e v1 ⟨g1, c1, rfl, o1, hb⟩; replace o1 := o1.down szd; replace bd := bd.trans (hb.mono szd); have szd := bd.size)
      | (go_at_call_of 68 st; refine (l1High_own st 2 _ hs.1 hs.2 (by omega)).mono ?_; rintro e v2 ⟨g2, c2, rfl, o2, hb⟩; replace o1 := o1.below hb; replace bd := bd.trans (hb.mono szd); have szd := bd.size)
      | (refine step_append_ob rfl _ _ rfl w.heap.size g1 4 c1 _ rfl o1 (some ⟨g2, 0, none⟩) 2 c2 _ _ _ rfl o2.wr.1 some_ne (by omega) szd ?_; intro g4 c4 v4 hp; have p1 := hp.own; replace bd := bd.trans (hp.below o1.le szd); have szd := bd.size))
  have o0 : OwnB v4 w.heap.size g4 6 c4 (digs bs 4 ++ digs st 2) := p1
  clear p1 hp o1 o2 HS
  go_wp2_with fail
  have o0d : OwnB v4.drew w.heap.size g4 6 c4 (digs bs 4 ++ digs st 2) := o0.below (below_drew (Below.refl _ _))
  have bA : Below w.heap.size w (v4.alloc (.cells #[.int .u8 (n : Int)] 5)).drew := below_drew (bd.alloc szd _)
  have oA0 := OwnB.lit (n := 1) v4 #[.int .u8 (n : Int)] [(n : Int)] rfl (by omega) (by simp; omega) rfl
  have oA : OwnB (v4.alloc (.cells #[.int .u8 (n : Int)] 5)).drew v4.heap.size v4.heap.size 1 1 [(n : Int)] := oA0.below (below_drew (Below.refl _ _))
  have oB : OwnB (v4.alloc (.cells #[.int .u8 (n : Int)] 5)).drew w.heap.size g4 6 c4 (digs bs 4 ++ digs st 2) := (o0.below ((Below.refl _ _).alloc (Nat.le_refl _) _)).below (below_drew (Below.refl _ _))
  replace bd := below_drew bd
  have szd : w.heap.size ≤ v4.drew.heap.size := szd
  have zd : v4.drew.heap.size = v4.heap.size := rfl
  have zdA : (v4.alloc (.cells #[.int .u8 (n : Int)] 5)).drew.heap.size = v4.heap.size + 1 := by simp
  have gl := o0.lt
  clear o0 oA0
  have HS := Lib.hid (fun (w' : World) (k : Below w.heap.size w w') => (⟨(HX.out _ k).at_ 2 _ rfl, (HX.out _ k).at_ 3 _ rfl⟩ : w'.cell? ⟨B, 2, none⟩ = some (.int .i64 ec) ∧ w'.cell? ⟨B, 3, none⟩ = some (.slice A n c)))
  go_region_held3 (fun w' => w'.cell? ⟨B, 2, none⟩ = some (.int .i64 ec) ∧ w'.cell? ⟨B, 3, none⟩ = some (.slice A n c))
    (first | exact HS.out _ bd | exact HS.out _ bA | exact HS.out _ (bd.alloc szd _) | go_keep)
    (first
      | (go_at_call 68; refine (l1High_own ec 3 v4.drew hc.1 hc.2 (by omega)).mono ?_; rintro e v5 ⟨g5, c5, rfl, o5, hb⟩; have z5 := hb.size; have o05 := o0d.below hb; replace bd := bd.trans (hb.mono szd); have szd := bd.size; have az := (Below.refl v5.heap.size v5).alloc (Nat.le_refl _) (.cells #[.int .u8 (n : Int)] 5); have oz := OwnB.lit (n := 1) v5 #[.int .u8 (n : Int)] [(n : Int)] rfl (by omega) (by simp; omega) rfl; have ox := o05.below az; have oy := o5.below az; have bz := bd.trans (az.mono szd); have nz : g4 < v5.heap.size := by omega)
      | (go_at_call 68; refine (l1High_own ec 3 (v4.alloc (.cells #[.int .u8 (n : Int)] 5)).drew hc.1 hc.2 (by omega)).mono ?_; rintro e v5 ⟨g5, c5, rfl, oy, hb⟩; have z5 := hb.size; have oz := oA.below hb; have ox := oB.below hb; have bz := bA.trans (hb.mono bA.size); replace bd := bz; have szd := bd.size; have nz : g4 < v4.heap.size := gl)
      | (refine step_append_ob rfl _ _ rfl w.heap.size g4 6 c4 _ rfl ox (some ⟨g5, 0, none⟩) 3 c5 _ _ _ rfl oy.wr.1 some_ne (by omega) bz.size ?_; intro g6 c6 v6 hp; have oF := oz.keep hp.keep (by omega); have pF := hp.own; replace bd := bz.trans (hp.below ox.le bz.size); have bF := bd; have szd := bd.size)
      | (refine step_append_ob rfl _ _ rfl w.heap.size g4 6 c4 _ rfl o05 (some ⟨g5, 0, none⟩) 3 c5 _ _ _ rfl o5.wr.1 some_ne (by omega) szd ?_; intro g6 c6 v6 hp; replace bd := bd.trans (hp.below o05.le szd); have szd := bd.size; have az6 := (Below.refl v6.heap.size v6).alloc (Nat.le_refl _) (.cells #[.int .u8 (n : Int)] 5); have oF := OwnB.lit (n := 1) v6 #[.int .u8 (n : Int)] [(n : Int)] rfl (by omega) (by simp; omega) rfl; have pF := hp.own.below az6; have bF := bd.trans (az6.mono szd))
      | (refine step_append_ob rfl _ _ rfl w.heap.size g6 9 c6 _ rfl pF (some ⟨_, 0, none⟩) 1 1 _ _ _ rfl oF.wr.1 some_ne (by omega) bF.size ?_; intro g7 c7 v7 hp2; have p2 := hp2.own; replace bd := bF.trans (hp2.below pF.le bF.size); have szd := bd.size))
  all_goals
    rw [← HZ0.out] at p2
    have hl0 : (bodyK bs st ec xs 0).length = 10 := by rw [HZ0.out]; simp [digs_len]
    have hHO := Lib.hid p2
    have x3 := (HX.out _ bd).at_ 3 _ rfl
    clear p2 hp2 pF oF hp oA oB o0d bA HS zdA
    (try simp only [Nat.reduceAdd])
    go_wp2_with fail
    clear x3
    go_loopw [36, 3] (fun i p wr => ∃ k g cap : Nat, k ≤ n ∧ i = .int .i64 (k : Int) ∧ p = .slice (some ⟨g, 0, none⟩) (bodyK bs st ec xs k).length cap ∧ OwnB wr w.heap.size g (bodyK bs st ec xs k).length cap (bodyK bs st ec xs k) ∧ Below w.heap.size w wr) (fun i _ _ => n - (intOf i).toNat)
    case atStart => exact ⟨0, g7, c7, Nat.zero_le _, rfl, by rw [hl0], by rw [hl0]; exact hHO.out, bd⟩
    case round =>
      obtain ⟨k, g, cap, hk, rfl, rfl, own, hke⟩ := hrel
      have hsz := hke.size
      have hkl := HK.out k (by omega)
      by_cases hlt : k < n
      · obtain ⟨b, off, rfl, h1, h2, hit⟩ := h.at_ (by omega)
        have hI := (hit k hlt).keep (Keep.of_below hke 0 0) h2 (Nat.zero_le _) htop (by omega)
        have i0 : (0 : Int) ≤ (k : Int) := by omega
        have i1 : (k : Int) < (n : Int) := by omega
        have HT := Lib.hid (HSC.out k (by omega))
        have hcx := HCD.out (xs.getD k it0) (by
          rw [List.getD_eq_getElem?_getD, List.getElem?_eq_getElem (by omega)]
          simp)
        have hli := (itemL_len hcx).2
        have HC := Lib.hid (l7Item_any b (off + k * 4) 0 hi (xs.getD k it0) wr hI (by omega) hcx)
        generalize xs.getD k it0 = x at *
        generalize itemL x = Zi at *
        obtain ⟨li, hLi⟩ : ∃ li, Zi.length = li := ⟨_, rfl⟩
        rw [hLi] at HC hli
        obtain ⟨Zk, hZk⟩ : ∃ Zk, bodyK bs st ec xs k = Zk := ⟨_, rfl⟩
        have HT1 := HT.out
        rw [hZk] at own hkl HT1 ⊢
        obtain ⟨lk, hLk⟩ : ∃ lk, Zk.length = lk := ⟨_, rfl⟩
        rw [hLk] at own hkl ⊢
        have HL : Hid ((bodyK bs st ec xs (k + 1)).length = lk + li) := by show _ = _; rw [HT1, List.length_append, hLk, hLi]
        have HT2 := Lib.hid HT1
        have HO := Lib.hid own
        have HKE := Lib.hid hke
        have x3 := (HX.out _ hke).at_ 3 _ rfl
        clear hit h hcx hLi hZk hLk own hke HT HT1 hI hHO bd
        go_wp2_with fail
        refine HC.out.mono ?_
        rintro e wa ⟨ga, ca, rfl, oa, ba⟩
        have hza := ba.size
        have own2 := HO.out.below ba
        have hbase : w.heap.size ≤ wa.heap.size := by omega
        clear x3
        go_wp2_with (at_builtin; refine wpList_append_ob rfl _ _ rfl w.heap.size g lk cap Zk rfl own2 (some ⟨ga, 0, none⟩) li ca _ _ Zi rfl oa.wr.1 some_ne ?k2 hbase ?_)
        case k2 => omega
        intro gx capx wx hp
        have b6 : Below w.heap.size w wx := HKE.out.trans ((ba.mono hsz).trans (hp.below own2.le hbase))
        have HO6 := Lib.hid hp.own
        have HB6 := Lib.hid b6
        clear own2 hp b6 ba oa
        go_wp2_with fail
        go_roundw
        case rel => exact ⟨k + 1, gx, capx, by omega, by go_num, by rw [HL.out], by rw [HL.out, HT2.out]; exact HO6.out, HB6.out⟩
        case measure => simp [intOf]; omega
      · obtain rfl : k = n := by omega
        rw [HALL.out] at own
        rw [HALL.out]
        have HO := Lib.hid own
        clear own hHO bd h
        go_wp2_with fail
        go_ret
        exact ⟨g, cap, rfl, HO.out, hke⟩

set_option maxHeartbeats 1000000 in
theorem specEncBody_any (bs st ec : Int) (A : Option Addr) (n c hi : Nat) (xs : List Itm) (w : World) (h : Rt w 0 hi A n xs) :
    Calls Tryd.prog 16 #[.agg #[.int .i64 bs, .int .i64 st, .int .i64 ec, .slice A n c]] w (BytesPost w (bodyCode bs st ec xs) (bodyAns bs st ec xs)) := by
  have hl := h.len
  have htop := h.top
  have hx := (BoxL.new w [.int .i64 bs, .int .i64 st, .int .i64 ec, .slice A n c] #[.int .i64 bs, .int .i64 st, .int .i64 ec, .slice A n c] 26 rfl).below ((Below.refl _ _).alloc (Nat.le_refl _) (.cells #[.int .i64 0, .slice none 0 0] 29))
  have hr := BoxL.new (w.alloc (.cells #[.int .i64 bs, .int .i64 st, .int .i64 ec, .slice A n c] 26)) [.int .i64 0, .slice none 0 0] #[.int .i64 0, .slice none 0 0] 29 rfl
  have hb : Below w.heap.size w ((w.alloc (.cells #[.int .i64 bs, .int .i64 st, .int .i64 ec, .slice A n c] 26)).alloc (.cells #[.int .i64 0, .slice none 0 0] 29)) := ((Below.refl _ _).alloc (Nat.le_refl _) _).alloc (by simp) _
  simp only [World.size_alloc] at hr
  have hrt := h.keep (Keep.of_below hb 0 0) (by omega)
  have HI := Lib.hid (fun w' (r : Rt w' 0 hi A n xs) => specBodyFault_any bs st ec A n c 0 hi xs w' r)
  have HX := Lib.hid hx
  have HRB := Lib.hid hr
  have HB := Lib.hid hb
  clear hx hr hb
  by_cases hcd : bodyCode bs st ec xs = 0
  · rw [hcd] at HI
    unfold bodyAns
    rw [hcd, if_pos rfl]
    obtain ⟨⟨hs, hc⟩, ha, hn4, hxs, hfull⟩ := body_ok hcd
    have HC := Lib.hid (fun w' (hx : BoxL w' w.heap.size [.int .i64 bs, .int .i64 st, .int .i64 ec, .slice A n c]) (h : Rt w' 0 hi A n xs) => l7Body_any w.heap.size bs st ec A n c hi xs w' hx h (by omega) (by omega) (by omega) (by omega) hxs)
    generalize bodyL bs st ec xs = Z at *
    obtain ⟨lz, hLz⟩ : ∃ lz, Z.length = lz := ⟨_, rfl⟩
    rw [hLz] at HC
    have HL := Lib.hid hLz
    clear hcd hxs hfull hLz
    go_enter Tryd.func16, Tryd.ntmps16
    go_wp2_with fail
    refine (HI.out _ hrt).mono ?_
    rintro e w1 ⟨rfl, k1⟩
    have hx := HX.out.keep k1 (by omega)
    have hr := HRB.out.keep k1 (by omega)
    have hb := HB.out.trans (k1.below (.inr (Nat.le_refl _)) HB.out.size)
    have hrt1 := hrt.keep k1 (by omega)
    have zz := k1.size
    simp only [World.size_alloc] at zz
    clear k1 hrt
    go_wp2_with fail
    refine (HC.out _ hx hrt1).mono ?_
    rintro e w2 ⟨g, cap, rfl, ho, b2⟩
    replace hr := hr.below b2
    replace hb := hb.trans (b2.mono hb.size)
    obtain ⟨e0, e1, HF⟩ := bytes_done (cd := 0) hr (ho.down (by omega)) hb (by omega)
    have c0 := hr.at_ 0 _ rfl
    have c1 := hr.at_ 1 _ rfl
    have f0 := hr.fz 0
    have f1 := hr.fz 1
    clear hr hb hx ho b2 hrt1
    go_wp2_with fail
    exact bodyPost_ret (v := .agg #[.int .i64 0, .slice (some ⟨g, 0, none⟩) lz cap]) (by simp [results, Tryd.results16, go_sem, e0, e1]) rfl HF.out
  · unfold bodyAns
    rw [if_neg hcd]
    generalize bodyCode bs st ec xs = cd at *
    have hcb := hidNe hcd
    go_enter Tryd.func16, Tryd.ntmps16
    go_wp2_with fail
    refine (HI.out _ hrt).mono ?_
    rintro e w1 ⟨rfl, k1⟩
    have hr := HRB.out.keep k1 (by omega)
    have hb := HB.out.trans (k1.below (.inr (Nat.le_refl _)) HB.out.size)
    have zz := k1.size
    simp only [World.size_alloc] at zz
    clear k1
    obtain ⟨e0, e1, HF⟩ := bytes_fail (cd := cd) hr hb (by omega)
    have c0 := hr.at_ 0 _ rfl
    have c1 := hr.at_ 1 _ rfl
    have f0 := hr.fz 0
    have f1 := hr.fz 1
    clear hr hb hcd
    go_wp2_with fail
    exact bodyPost_ret (v := .agg #[.int .i64 cd, .slice none 0 0]) (by simp [results, Tryd.results16, go_sem, e0, e1]) rfl HF.out
end Go.Proofs.YtjdkaaepbkkchaaDoor
