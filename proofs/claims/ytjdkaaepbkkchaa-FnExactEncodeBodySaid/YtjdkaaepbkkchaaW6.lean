/-
  szBody, toBody; eq, mark, held of a Body and of a BodyResult; BodyFault, both sides.
-/
import Derived.Test.YtjdkaaepbkkchaaT10
import Derived.Test.YtjdkaaepbkkchaaV2
import Derived.Test.YtjdkaaepbkkchaaW2
namespace Go.Proofs.Ytjdkaaepbkkchaa
open Go.RowKit
set_option linter.unusedVariables false
set_option maxRecDepth 100000

set_option maxHeartbeats 400000 in
theorem szBody_any (bs st ec : Int) (A : Option Addr) (n c lo hi : Nat) (xs : List Itm) (left : Int) (w : World) (h : Rt w lo hi A n xs) (h0 : 0 ≤ left) (h1 : left ≤ 1099511627776) :
    Calls Try.prog 7 #[.agg #[.int .i64 bs, .int .i64 st, .int .i64 ec, .slice A n c], .int .i64 left] w fun e w' => e = .returned (.int .i64 (szT left xs)) ∧ Keep 0 0 w w' := by
  have k1 := (Keep.refl 0 0 w).alloc (.cells #[.int .i64 bs, .int .i64 st, .int .i64 ec, .slice A n c] 24)
  have r := h.keep k1 (by omega)
  have HC := szItemS_any A n c lo hi xs left _ r h0 h1
  have K1 := Lib.hid k1
  have hz : szT left xs = -1 ∨ 0 ≤ szT left xs := by unfold szT; split <;> omega
  generalize szT left xs = s at *
  have HCC := Lib.hid HC
  clear HC k1
  rcases hz with rfl | hz
  · go_enter Try.func7, Try.ntmps7
    go_wp2_with fail
    refine HCC.out.mono ?_
    rintro e w1 ⟨rfl, k2⟩
    have K2 := Lib.hid (K1.out.trans k2)
    go_wp2_with fail
    go_ret
    exact ⟨rfl, K2.out⟩
  · have hnn : ¬ s < 0 := by omega
    go_enter Try.func7, Try.ntmps7
    go_wp2_with fail
    refine HCC.out.mono ?_
    rintro e w1 ⟨rfl, k2⟩
    have K2 := Lib.hid (K1.out.trans k2)
    go_wp2_with fail
    go_ret
    exact ⟨rfl, K2.out⟩

set_option maxHeartbeats 800000 in
theorem toBody_any (bs st ec : Int) (A : Option Addr) (n c hi : Nat) (xs : List Itm) (w : World) (h : Rt w 0 hi A n xs) (hn : n ≤ 1099511627776) (hs : ∀ x ∈ xs, x.2.1.length ≤ 281474976710656) :
    Calls Try.prog 9 #[.agg #[.int .i64 bs, .int .i64 st, .int .i64 ec, .slice A n c]] w fun e w' => ∃ g, e = .returned (.agg #[.int .i64 bs, .int .i64 st, .int .i64 ec, .slice (some ⟨g, 0, none⟩) n n]) ∧ Wt w' w.heap.size w'.heap.size (some ⟨g, 0, none⟩) n xs ∧ Below w.heap.size w w' := by
  have ka := (((Keep.refl 0 0 w).alloc (.cells #[.int .i64 bs, .int .i64 st, .int .i64 ec, .slice A n c] 24)).alloc (.cells #[.int .i64 0, .int .i64 0, .int .i64 0, .slice none 0 0] 29)).alloc (.cells #[.int .i64 bs, .int .i64 st, .int .i64 ec, .slice none 0 0] 29)
  have h3 := h.keep ka (by omega)
  have HS := Lib.hid hs
  clear hs
  go_enter Try.func9, Try.ntmps9
  go_wp2_with fail
  refine (toItemS_any A n c hi xs _ h3 hn HS.out).mono ?_
  rintro e w1 ⟨g, rfl, wi, hb⟩
  have hz := hb.size
  have bo := (BoxL.new ((w.alloc (.cells #[.int .i64 bs, .int .i64 st, .int .i64 ec, .slice A n c] 24)).alloc (.cells #[.int .i64 0, .int .i64 0, .int .i64 0, .slice none 0 0] 29)) [.int .i64 bs, .int .i64 st, .int .i64 ec, .slice none 0 0] #[.int .i64 bs, .int .i64 st, .int .i64 ec, .slice none 0 0] 29 rfl).below hb
  have br := ((BoxL.new (w.alloc (.cells #[.int .i64 bs, .int .i64 st, .int .i64 ec, .slice A n c] 24)) [.int .i64 0, .int .i64 0, .int .i64 0, .slice none 0 0] #[.int .i64 0, .int .i64 0, .int .i64 0, .slice none 0 0] 29 rfl).below ((Below.refl _ _).alloc (Nat.le_refl _) (.cells #[.int .i64 bs, .int .i64 st, .int .i64 ec, .slice none 0 0] 29))).below hb
  simp only [World.size_alloc] at bo br
  have c20 := bo.at_ 0 _ rfl
  have c21 := bo.at_ 1 _ rfl
  have c22 := bo.at_ 2 _ rfl
  have c23 := bo.at_ 3 _ rfl
  have f23 := bo.fz 3
  have c10 := br.at_ 0 _ rfl
  have c11 := br.at_ 1 _ rfl
  have c12 := br.at_ 2 _ rfl
  have c13 := br.at_ 3 _ rfl
  have f10 := br.fz 0
  have f11 := br.fz 1
  have f12 := br.fz 2
  have f13 := br.fz 3
  have bb := (ka.below (B := w.heap.size) (by omega) (Nat.le_refl _)).trans (hb.mono ka.size)
  simp only [World.size_alloc] at hz wi
  have HF : Hid (∀ v0 v1 v2 v3 v4, ∃ g', Ending.returned (.agg #[.int .i64 bs, .int .i64 st, .int .i64 ec, .slice (some ⟨g, 0, none⟩) n n]) = .returned (.agg #[.int .i64 bs, .int .i64 st, .int .i64 ec, .slice (some ⟨g', 0, none⟩) n n]) ∧
      Wt (((((w1.setCell ⟨w.heap.size + 1 + 1, 3, none⟩ v0).setCell ⟨w.heap.size + 1, 0, none⟩ v1).setCell ⟨w.heap.size + 1, 1, none⟩ v2).setCell ⟨w.heap.size + 1, 2, none⟩ v3).setCell ⟨w.heap.size + 1, 3, none⟩ v4) w.heap.size (((((w1.setCell ⟨w.heap.size + 1 + 1, 3, none⟩ v0).setCell ⟨w.heap.size + 1, 0, none⟩ v1).setCell ⟨w.heap.size + 1, 1, none⟩ v2).setCell ⟨w.heap.size + 1, 2, none⟩ v3).setCell ⟨w.heap.size + 1, 3, none⟩ v4).heap.size (some ⟨g', 0, none⟩) n xs ∧ Below w.heap.size w (((((w1.setCell ⟨w.heap.size + 1 + 1, 3, none⟩ v0).setCell ⟨w.heap.size + 1, 0, none⟩ v1).setCell ⟨w.heap.size + 1, 1, none⟩ v2).setCell ⟨w.heap.size + 1, 2, none⟩ v3).setCell ⟨w.heap.size + 1, 3, none⟩ v4)) := fun v0 v1 v2 v3 v4 => by
    have k : Keep w.heap.size (w.heap.size + 1 + 1 + 1) w1 (((((w1.setCell ⟨w.heap.size + 1 + 1, 3, none⟩ v0).setCell ⟨w.heap.size + 1, 0, none⟩ v1).setCell ⟨w.heap.size + 1, 1, none⟩ v2).setCell ⟨w.heap.size + 1, 2, none⟩ v3).setCell ⟨w.heap.size + 1, 3, none⟩ v4) := by
      refine ((((Keep.setCell (Keep.refl _ _ w1) ?_ v0).setCell ?_ v1).setCell ?_ v2).setCell ?_ v3).setCell ?_ v4 <;> (constructor <;> first | (show w.heap.size ≤ w.heap.size + 1 + 1; omega) | (show w.heap.size + 1 + 1 < w.heap.size + 1 + 1 + 1; omega) | (show w.heap.size ≤ w.heap.size + 1; omega) | (show w.heap.size + 1 < w.heap.size + 1 + 1 + 1; omega))
    exact ⟨g, rfl, (wi.keep k (by omega)).wide (by omega) k.size (Nat.le_refl _), bb.trans (k.below (by omega) bb.size)⟩
  clear wi hb bb ka h3 h bo br
  go_wp2_with fail
  exact bodyPost_ret (v := .agg #[.int .i64 bs, .int .i64 st, .int .i64 ec, .slice (some ⟨g, 0, none⟩) n n]) (by simp [results, Try.results9, go_sem, c10, c11, c12, c13]) rfl (HF.out _ _ _ _ _)

set_option maxHeartbeats 400000 in
theorem eqBody_true (bs st ec : Int) (A A' : Option Addr) (n c c' lo hi lo' hi' : Nat) (xs : List Itm) (w : World) (h : Rt w lo hi A n xs) (h' : Rt w lo' hi' A' n xs) :
    Calls Try.prog 11 #[.agg #[.int .i64 bs, .int .i64 st, .int .i64 ec, .slice A n c], .agg #[.int .i64 bs, .int .i64 st, .int .i64 ec, .slice A' n c']] w fun e w' => e = .returned (.bool true) ∧ Keep 0 0 w w' := by
  have k1 := ((Keep.refl 0 0 w).alloc (.cells #[.int .i64 bs, .int .i64 st, .int .i64 ec, .slice A n c] 29)).alloc (.cells #[.int .i64 bs, .int .i64 st, .int .i64 ec, .slice A' n c'] 29)
  have r := h.keep k1 (by omega)
  have r' := h'.keep k1 (by omega)
  have K1 := Lib.hid k1
  clear k1
  go_enter Try.func11, Try.ntmps11
  go_wp2_with fail
  refine (eqItemS_true  _ _ n c c' _ _ _ _ xs _ r r').mono ?_
  rintro e w1 ⟨rfl, k2⟩
  have K2 := Lib.hid (K1.out.trans k2)
  go_wp2_with fail
  go_ret
  exact ⟨rfl, K2.out⟩

set_option maxHeartbeats 400000 in
theorem markBody_any (bs st ec : Int) (A : Option Addr) (n c lo hi : Nat) (K : Int) (xs : List Itm) (w : World) (h : Wt w lo hi A n xs) (hK0 : 0 ≤ K) (hK : K + ((3 * n + sumLen xs : Nat) : Int) ≤ 9223372036854775807) :
    Calls Try.prog 15 #[.agg #[.int .i64 bs, .int .i64 st, .int .i64 ec, .slice A n c], .int .i64 K] w fun e w' => e = .returned (.int .i64 (K + ((3 * n + sumLen xs : Nat) : Int))) ∧ Wt w' lo hi A n (markT K xs) ∧ Keep lo hi w w' := by
  have k1 := (Keep.refl 0 0 w).alloc (.cells #[.int .i64 bs, .int .i64 st, .int .i64 ec, .slice A n c] 29)
  have r := h.keep k1 (by omega)
  have K1 := Lib.hid (k1.none_ lo hi)
  clear k1
  have hc := markItemS_any  A n c lo hi K xs _ r hK0 hK
  generalize K + ((3 * n + sumLen xs : Nat) : Int) = M at *
  have HC := Lib.hid hc
  clear hc
  go_enter Try.func15, Try.ntmps15
  go_wp2_with fail
  refine HC.out.mono ?_
  rintro e w1 ⟨rfl, hw1, hk1⟩
  go_wp2_with fail
  go_ret
  exact ⟨rfl, hw1, K1.out.trans hk1⟩





/-- What is wrong with a body. -/
def bodyCode (bs st ec : Int) (xs : List Itm) : Int := if ¬ stampsOk st ec then 3 else logCode bs 4 xs
theorem bodyCode_st {bs st ec : Int} {xs : List Itm} (h : ¬ stampsOk st ec) : bodyCode bs st ec xs = 3 := if_pos h
theorem bodyCode_ok {bs st ec : Int} {xs : List Itm} (h : stampsOk st ec) : bodyCode bs st ec xs = logCode bs 4 xs := if_neg (fun k => k h)
theorem bodyCode_base {bs st ec : Int} {xs : List Itm} (h : ¬ (0 ≤ bs ∧ bs ≤ 9000)) : bodyCode bs st ec xs = 3 := by
  unfold bodyCode logCode
  split
  · rfl
  · rw [if_pos (.inr h)]

set_option maxHeartbeats 1000000 in
theorem specBodyFault_any (bs st ec : Int) (A : Option Addr) (n c lo hi : Nat) (xs : List Itm) (w : World) (h : Rt w lo hi A n xs) :
    Calls Try.prog 8 #[.agg #[.int .i64 bs, .int .i64 st, .int .i64 ec, .slice A n c]] w fun e w' => e = .returned (.int .i64 (bodyCode bs st ec xs)) ∧ Keep 0 0 w w' := by
  have hint := h.int
  have hl := h.len
  have k1 := (Keep.refl 0 0 w).alloc (.cells #[.int .i64 bs, .int .i64 st, .int .i64 ec, .slice A n c] 29)
  have r := h.keep k1 (by omega)
  have bx := BoxL.new w [.int .i64 bs, .int .i64 st, .int .i64 ec, .slice A n c] #[.int .i64 bs, .int .i64 st, .int .i64 ec, .slice A n c] 29 rfl
  have KA := Lib.hid k1
  have BX := Lib.hid bx
  clear bx
  by_cases hb : 0 ≤ bs ∧ bs ≤ 9000
  · by_cases hst : stampsOk st ec
    · have HS := Lib.hid (fun w' => l7Stamps_any st ec w')
      rw [decide_eq_true hst] at HS
      have HB := Lib.hid (bodyCode_ok (bs := bs) (xs := xs) hst)
      by_cases hm : (4 : Int) < (n : Int)
      · have HR := Lib.hid (ret_int (show (2 : Int) = bodyCode bs st ec xs from by rw [HB.out]; unfold logCode; rw [if_neg (by omega), if_pos (by omega)]))
        go_enter Try.func8, Try.ntmps8
        go_wp2_with fail
        refine (l1In_any bs 0 9000 _ true (decide_eq_true hb)).mono ?_
        rintro e w1 ⟨rfl, rfl⟩
        go_wp2_with fail
        refine (HS.out _).mono ?_
        rintro e w1 ⟨rfl, rfl⟩
        go_wp2_with fail
        go_ret
        exact ⟨HR.out, KA.out⟩
      · have HC := l5Items_any A n c lo hi xs _ r
        by_cases hc : itemsCode xs = 0
        · rw [hc] at HC
          have HCC := Lib.hid HC
          clear HC
          by_cases hf : 9000 < bs + (n : Int)
          · have HR := Lib.hid (ret_int (show (7 : Int) = bodyCode bs st ec xs from by rw [HB.out]; unfold logCode; rw [if_neg (by omega), if_neg (by omega), if_neg (by simp [hc]), if_pos (by omega)]))
            go_enter Try.func8, Try.ntmps8
            go_wp2_with fail
            refine (l1In_any bs 0 9000 _ true (decide_eq_true hb)).mono ?_
            rintro e w1 ⟨rfl, rfl⟩
            go_wp2_with fail
            refine (HS.out _).mono ?_
            rintro e w1 ⟨rfl, rfl⟩
            go_wp2_with fail
            refine HCC.out.mono ?_
            rintro e w1 ⟨rfl, k2⟩
            have bx := BX.out.keep k2 (by omega)
            have b0 := bx.at_ 0 _ rfl
            have b3 := bx.at_ 3 _ rfl
            have K2 := Lib.hid (KA.out.trans k2)
            clear bx k2
            go_wp2_with fail
            go_ret
            exact ⟨HR.out, K2.out⟩
          · have HR := Lib.hid (ret_int (show (0 : Int) = bodyCode bs st ec xs from by rw [HB.out]; unfold logCode; rw [if_neg (by omega), if_neg (by omega), if_neg (by simp [hc]), if_neg (by omega)]))
            go_enter Try.func8, Try.ntmps8
            go_wp2_with fail
            refine (l1In_any bs 0 9000 _ true (decide_eq_true hb)).mono ?_
            rintro e w1 ⟨rfl, rfl⟩
            go_wp2_with fail
            refine (HS.out _).mono ?_
            rintro e w1 ⟨rfl, rfl⟩
            go_wp2_with fail
            refine HCC.out.mono ?_
            rintro e w1 ⟨rfl, k2⟩
            have bx := BX.out.keep k2 (by omega)
            have b0 := bx.at_ 0 _ rfl
            have b3 := bx.at_ 3 _ rfl
            have K2 := Lib.hid (KA.out.trans k2)
            clear bx k2
            go_wp2_with fail
            go_ret
            exact ⟨HR.out, K2.out⟩
        · have HR := Lib.hid (ret_int (show itemsCode xs = bodyCode bs st ec xs from by rw [HB.out]; unfold logCode; rw [if_neg (by omega), if_neg (by omega), if_pos hc]))
          generalize itemsCode xs = ic at *
          have HCC := Lib.hid HC
          clear HC
          have hcb : (ic != 0) = true := by simp [hc]
          go_enter Try.func8, Try.ntmps8
          go_wp2_with fail
          refine (l1In_any bs 0 9000 _ true (decide_eq_true hb)).mono ?_
          rintro e w1 ⟨rfl, rfl⟩
          go_wp2_with fail
          refine (HS.out _).mono ?_
          rintro e w1 ⟨rfl, rfl⟩
          go_wp2_with fail
          refine HCC.out.mono ?_
          rintro e w1 ⟨rfl, k2⟩
          have bx := BX.out.keep k2 (by omega)
          have b0 := bx.at_ 0 _ rfl
          have b3 := bx.at_ 3 _ rfl
          have K2 := Lib.hid (KA.out.trans k2)
          clear bx k2
          go_wp2_with fail
          go_ret
          exact ⟨HR.out, K2.out⟩
    · have HS := Lib.hid (fun w' => l7Stamps_any st ec w')
      rw [decide_eq_false hst] at HS
      have HR := Lib.hid (ret_int (bodyCode_st (bs := bs) (xs := xs) hst).symm)
      go_enter Try.func8, Try.ntmps8
      go_wp2_with fail
      refine (l1In_any bs 0 9000 _ true (decide_eq_true hb)).mono ?_
      rintro e w1 ⟨rfl, rfl⟩
      go_wp2_with fail
      refine (HS.out _).mono ?_
      rintro e w1 ⟨rfl, rfl⟩
      go_wp2_with fail
      go_ret
      exact ⟨HR.out, KA.out⟩
  · have HR := Lib.hid (ret_int (bodyCode_base (st := st) (ec := ec) (xs := xs) hb).symm)
    go_enter Try.func8, Try.ntmps8
    go_wp2_with fail
    refine (l1In_any bs 0 9000 _ false (decide_eq_false hb)).mono ?_
    rintro e w1 ⟨rfl, rfl⟩
    go_wp2_with fail
    go_ret
    exact ⟨HR.out, KA.out⟩

set_option maxHeartbeats 1000000 in
theorem implBodyFault_any (bs st ec : Int) (A : Option Addr) (n c hi : Nat) (xs : List Itm) (w : World) (h : Rt w 0 hi A n xs) :
    Calls Try.prog 10 #[.agg #[.int .i64 bs, .int .i64 st, .int .i64 ec, .slice A n c]] w fun e w' => e = .returned (.int .i64 (bodyCode bs st ec xs)) ∧ Below w.heap.size w w' := by
  have htop := h.top
  have r := h.keep ((Keep.refl 0 0 w).alloc (.cells #[.int .i64 bs, .int .i64 st, .int .i64 ec, .slice A n c] 29)) (by omega)
  have BX := Lib.hid (BoxL.new w [.int .i64 bs, .int .i64 st, .int .i64 ec, .slice A n c] #[.int .i64 bs, .int .i64 st, .int .i64 ec, .slice A n c] 29 rfl)
  have HS := Lib.hid (fun w' => noStamps_any st ec w')
  by_cases hst : stampsOk st ec
  · rw [decide_eq_true hst] at HS
    have HB := Lib.hid (bodyCode_ok (bs := bs) (xs := xs) hst)
    clear hst
    generalize bodyCode bs st ec xs = cd at *
    generalize hlc : logCode bs 4 xs = lc at *
    have HL := Lib.hid (fun w' (r' : Rt w' 0 hi A n xs) => hlc ▸ implLogFault_any bs 4 A n c hi xs w' r')
    clear hlc
    go_enter Try.func10, Try.ntmps10
    go_wp2_with fail
    refine (HS.out _).mono ?_
    rintro e w1 ⟨rfl, hb⟩
    have bx := BX.out.below hb
    have hb1 := below_new hb
    have r1 := r.keep (Keep.of_below hb 0 0) (by omega)
    have c0 := bx.at_ 0 _ rfl
    have c3 := bx.at_ 3 _ rfl
    have z1 := hb1.size
    clear hb bx
    go_wp2_with fail
    refine (HL.out _ r1).mono ?_
    rintro e w2 ⟨rfl, hb2⟩
    have HBB := Lib.hid (hb1.trans (hb2.mono z1))
    clear hb1 hb2 c0 c3 r r1 h
    go_wp2_with fail
    go_ret
    exact ⟨by rw [HB.out]; rfl, HBB.out⟩
  · have HR := Lib.hid (ret_int (bodyCode_st (bs := bs) (xs := xs) hst).symm)
    rw [decide_eq_false hst] at HS
    go_enter Try.func10, Try.ntmps10
    go_wp2_with fail
    refine (HS.out _).mono ?_
    rintro e w1 ⟨rfl, hb⟩
    have HBB := Lib.hid (below_new hb)
    clear hb
    go_wp2_with fail
    go_ret
    exact ⟨HR.out, HBB.out⟩
end Go.Proofs.Ytjdkaaepbkkchaa
