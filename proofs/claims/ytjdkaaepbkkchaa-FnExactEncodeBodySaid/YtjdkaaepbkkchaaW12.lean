/-
  The walk of FnExactEncodeBody.
-/
import Derived.Test.YtjdkaaepbkkchaaW11
import Derived.Test.YtjdkaaepbkkchaaL0
import Derived.Deep.CutRange
namespace Go.Proofs.Ytjdkaaepbkkchaa
open Go.RowKit
set_option linter.unusedVariables false
set_option maxRecDepth 100000

theorem Wt.rt0 {w : World} {lo n : Nat} {A : Option Addr} {xs : List Itm} (h : Wt w lo w.heap.size A n xs) : Rt w 0 w.heap.size A n xs := h.rt.wide (Nat.zero_le _) (Nat.le_refl _) (Nat.le_refl _)
theorem bodyAns_len (bs st ec : Int) (xs : List Itm) : (bodyAns bs st ec xs).length ≤ 50 := by
  unfold bodyAns
  split
  · rename_i h
    obtain ⟨_, _, h4, hx, _⟩ := body_ok h
    have := bodyK_len (bs := bs) (st := st) (ec := ec) hx xs.length (Nat.le_refl _)
    rw [bodyK_all _ _ _ _ _ (Nat.le_refl _)] at this
    omega
  · simp

set_option maxHeartbeats 2000000 in
theorem exactEncodeBody (bs st ec : Int) (A : Option Addr) (n c : Nat) (xs : List Itm) (w : World) (h : Rt w 0 w.heap.size A n xs) :
    Calls Try.prog 4 #[.agg #[.int .i64 bs, .int .i64 st, .int .i64 ec, .slice A n c]] w fun e w' => e = .returned (.bool true) ∧ Below w.heap.size w w' := by
  have hint := h.int
  have hlx := h.len
  have HS := Lib.hid (fun w' (h' : Rt w' 0 w.heap.size A n xs) => szBody_any bs st ec A n c _ _ xs 1048576 w' h' (by omega) (by omega))
  by_cases hn : (1048576 : Int) < (xs.length : Int) + sumLen xs
  · have hsz : szT 1048576 xs = -1 := by unfold szT; rw [if_pos hn]
    rw [hsz] at HS
    go_enter Try.func4, Try.ntmps4
    go_wp2_with fail
    refine (HS.out _ (h.keep ((Keep.refl 0 0 w).alloc (.cells #[.int .i64 bs, .int .i64 st, .int .i64 ec, .slice A n c] 24)) (by omega))).mono ?_
    rintro e w1 ⟨rfl, k1⟩
    have bb := (((Keep.refl 0 0 w).alloc (.cells #[.int .i64 bs, .int .i64 st, .int .i64 ec, .slice A n c] 24)).trans k1).below (B := w.heap.size) (by omega) (Nat.le_refl _)
    go_wp2_with fail
    go_ret
    exact ⟨rfl, bb⟩
  obtain ⟨left, hleft⟩ : ∃ left, szT 1048576 xs = left := ⟨_, rfl⟩
  have hl0 : 0 ≤ left := by rw [← hleft]; unfold szT; rw [if_neg hn]; omega
  rw [hleft] at HS
  have j1 : ¬ left < 0 := by omega
  have HX := Lib.hid (fun x (hx : x ∈ xs) => show x.2.1.length ≤ 281474976710656 by
    have := mem_sumLen hx
    omega)
  have SP := Lib.hid (fun A' c' hi' w' (h' : Rt w' 0 hi' A' n xs) => specEncBody_any bs st ec A' n c' hi' xs w' h')
  have IP := Lib.hid (fun A' c' hi' w' (h' : Rt w' 0 hi' A' n xs) => implEncBody_any bs st ec A' n c' hi' xs w' h')
  have hl0 := bodyAns_len bs st ec xs
  generalize bodyCode bs st ec xs = p at *
  generalize bodyAns bs st ec xs = zs at *
  have hn2 : n ≤ 1048576 := by omega
  have hn3 : sumLen xs ≤ 1048576 := by omega
  clear hn hleft hlx
  go_enter Try.func4, Try.ntmps4
  have bb := Below.refl w.heap.size w
  go_wp2_with fail
  have hk1 := (Keep.refl 0 0 w).alloc (.cells #[.int .i64 bs, .int .i64 st, .int .i64 ec, .slice A n c] 24)
  have ba := BoxL.new w [.int .i64 bs, .int .i64 st, .int .i64 ec, .slice A n c] #[.int .i64 bs, .int .i64 st, .int .i64 ec, .slice A n c] 24 rfl
  have hz1 : w.heap.size + 1 ≤ (w.alloc (.cells #[.int .i64 bs, .int .i64 st, .int .i64 ec, .slice A n c] 24)).heap.size := by simp
  replace h := h.keep hk1 (by omega)
  replace bb := bb.trans (hk1.below (by omega) bb.size)
  clear hk1
  generalize w.alloc (.cells #[.int .i64 bs, .int .i64 st, .int .i64 ec, .slice A n c] 24) = w1 at *
  refine (HS.out w1 h).mono ?_
  rintro e w2 ⟨rfl, hk2⟩
  have hz2 := hk2.size
  replace h := h.keep hk2 (by omega)
  replace ba := ba.keep hk2 (by omega)
  replace bb := bb.trans (hk2.below (by omega) bb.size)
  clear hk2
  have balt := ba.lt
  have bac0 := ba.at_ 0 _ rfl
  have bac1 := ba.at_ 1 _ rfl
  have bac2 := ba.at_ 2 _ rfl
  have bac3 := ba.at_ 3 _ rfl
  go_wp2_with fail
  clear balt bac0 bac1 bac2 bac3
  refine (toBody_any bs st ec A n c _ xs w2 h (by omega) HX.out).mono ?_
  rintro e w3 ⟨g1, rfl, u1, hb3⟩
  have hk3 := Keep.of_below hb3 0 0
  have hz3 := hb3.size
  replace h := h.keep hk3 (by omega)
  replace ba := ba.keep hk3 (by omega)
  replace bb := bb.trans (hk3.below (by omega) bb.size)
  clear hb3 hk3
  go_wp2_with fail
  refine (SP.out _ n _ w3 u1.rt0).mono ?_
  rintro e w4 ⟨G0, cap0, rfl, _, _, v0, hb4⟩
  have hk4 := Keep.of_below hb4 0 0
  have hz4 := hb4.size
  replace h := h.keep hk4 (by omega)
  replace ba := ba.keep hk4 (by omega)
  replace u1 := u1.keep hk4 (by omega)
  replace bb := bb.trans (hk4.below (by omega) bb.size)
  clear hb4 hk4
  clear u1
  have balt := ba.lt
  have bac0 := ba.at_ 0 _ rfl
  have bac1 := ba.at_ 1 _ rfl
  have bac2 := ba.at_ 2 _ rfl
  have bac3 := ba.at_ 3 _ rfl
  go_wp2_with fail
  clear balt bac0 bac1 bac2 bac3
  have hk5 := (Keep.refl 0 0 w4).alloc (.cells #[.int .i64 p, .slice G0 zs.length cap0] 35)
  have b0 := BoxL.new w4 [.int .i64 p, .slice G0 zs.length cap0] #[.int .i64 p, .slice G0 zs.length cap0] 35 rfl
  have hz5 : w4.heap.size + 1 ≤ (w4.alloc (.cells #[.int .i64 p, .slice G0 zs.length cap0] 35)).heap.size := by simp
  replace h := h.keep hk5 (by omega)
  replace ba := ba.keep hk5 (by omega)
  replace v0 := v0.keep hk5 (by omega)
  replace bb := bb.trans (hk5.below (by omega) bb.size)
  clear hk5
  generalize w4.alloc (.cells #[.int .i64 p, .slice G0 zs.length cap0] 35) = w5 at *
  refine (toBody_any bs st ec A n c _ xs w5 h (by omega) HX.out).mono ?_
  rintro e w6 ⟨g2, rfl, u2, hb6⟩
  have hk6 := Keep.of_below hb6 0 0
  have hz6 := hb6.size
  replace h := h.keep hk6 (by omega)
  replace ba := ba.keep hk6 (by omega)
  replace v0 := v0.keep hk6 (by omega)
  replace b0 := b0.keep hk6 (by omega)
  replace bb := bb.trans (hk6.below (by omega) bb.size)
  clear hb6 hk6
  go_wp2_with fail
  have hk7 := (Keep.refl 0 0 w6).alloc (.cells #[.int .i64 bs, .int .i64 st, .int .i64 ec, .slice (some ⟨g2, 0, none⟩) n n] 29)
  have bx := BoxL.new w6 [.int .i64 bs, .int .i64 st, .int .i64 ec, .slice (some ⟨g2, 0, none⟩) n n] #[.int .i64 bs, .int .i64 st, .int .i64 ec, .slice (some ⟨g2, 0, none⟩) n n] 29 rfl
  have hz7 : w6.heap.size + 1 ≤ (w6.alloc (.cells #[.int .i64 bs, .int .i64 st, .int .i64 ec, .slice (some ⟨g2, 0, none⟩) n n] 29)).heap.size := by simp
  replace h := h.keep hk7 (by omega)
  replace ba := ba.keep hk7 (by omega)
  replace v0 := v0.keep hk7 (by omega)
  replace b0 := b0.keep hk7 (by omega)
  replace u2 := u2.keep hk7 (by omega)
  replace bb := bb.trans (hk7.below (by omega) bb.size)
  clear hk7
  generalize w6.alloc (.cells #[.int .i64 bs, .int .i64 st, .int .i64 ec, .slice (some ⟨g2, 0, none⟩) n n] 29) = w7 at *
  refine (IP.out _ n _ w7 (u2.rt.wide (Nat.zero_le _) (Nat.le_refl _) u2.top)).mono ?_
  rintro e w8 ⟨G1, cap1, rfl, _, _, v1, hb8⟩
  have hk8 := Keep.of_below hb8 0 0
  have hz8 := hb8.size
  replace h := h.keep hk8 (by omega)
  replace ba := ba.keep hk8 (by omega)
  replace v0 := v0.keep hk8 (by omega)
  replace b0 := b0.keep hk8 (by omega)
  replace u2 := u2.keep hk8 (by omega)
  replace bx := bx.keep hk8 (by omega)
  replace bb := bb.trans (hk8.below (by omega) bb.size)
  clear hb8 hk8
  have b0lt := b0.lt
  have b0c0 := b0.at_ 0 _ rfl
  have b0c1 := b0.at_ 1 _ rfl
  go_wp2_with fail
  clear b0lt b0c0 b0c1
  have hk9 := (Keep.refl 0 0 w8).alloc (.cells #[.int .i64 p, .slice G1 zs.length cap1] 35)
  have b1 := BoxL.new w8 [.int .i64 p, .slice G1 zs.length cap1] #[.int .i64 p, .slice G1 zs.length cap1] 35 rfl
  have hz9 : w8.heap.size + 1 ≤ (w8.alloc (.cells #[.int .i64 p, .slice G1 zs.length cap1] 35)).heap.size := by simp
  replace h := h.keep hk9 (by omega)
  replace ba := ba.keep hk9 (by omega)
  replace v0 := v0.keep hk9 (by omega)
  replace b0 := b0.keep hk9 (by omega)
  replace u2 := u2.keep hk9 (by omega)
  replace bx := bx.keep hk9 (by omega)
  replace v1 := v1.keep hk9 (by omega)
  replace bb := bb.trans (hk9.below (by omega) bb.size)
  clear hk9
  generalize w8.alloc (.cells #[.int .i64 p, .slice G1 zs.length cap1] 35) = w9 at *
  refine (eqBytesResult_true p _ _ zs.length _ _ _ _ _ _ zs w9 v1.1 v0.1).mono ?_
  rintro e w10 ⟨rfl, hk10⟩
  have hz10 := hk10.size
  replace h := h.keep hk10 (by omega)
  replace ba := ba.keep hk10 (by omega)
  replace v0 := v0.keep hk10 (by omega)
  replace b0 := b0.keep hk10 (by omega)
  replace u2 := u2.keep hk10 (by omega)
  replace bx := bx.keep hk10 (by omega)
  replace v1 := v1.keep hk10 (by omega)
  replace b1 := b1.keep hk10 (by omega)
  replace bb := bb.trans (hk10.below (by omega) bb.size)
  clear hk10
  go_upto_region 10 with fail
  go_cut [31] from 27 to 31 (fun sv wx => sv = .bool false ∧ Below w10.heap.size w10 wx)
  case first =>
    have bd : Below w10.heap.size w10 w10.drew := ⟨rfl, rfl, rfl, Nat.le_refl _, fun _ _ => rfl⟩
    have kd : Keep 0 0 w10 w10.drew := ⟨rfl, rfl, rfl, Nat.le_refl _, fun _ _ _ => rfl⟩
    have szd := bd.size
    have HSB := Lib.hid (fun (w' : World) (kb : Below w10.heap.size w10 w') => (⟨(ba.below kb).at_ 0 _ rfl, (ba.below kb).at_ 1 _ rfl, (ba.below kb).at_ 2 _ rfl, (ba.below kb).at_ 3 _ rfl, (bx.below kb).at_ 0 _ rfl, (bx.below kb).at_ 1 _ rfl, (bx.below kb).at_ 2 _ rfl, (bx.below kb).at_ 3 _ rfl⟩ : w'.cell? ⟨w.heap.size, 0, none⟩ = some (.int .i64 bs) ∧ w'.cell? ⟨w.heap.size, 1, none⟩ = some (.int .i64 st) ∧ w'.cell? ⟨w.heap.size, 2, none⟩ = some (.int .i64 ec) ∧ w'.cell? ⟨w.heap.size, 3, none⟩ = some (.slice A n c) ∧ w'.cell? ⟨w6.heap.size, 0, none⟩ = some (.int .i64 bs) ∧ w'.cell? ⟨w6.heap.size, 1, none⟩ = some (.int .i64 st) ∧ w'.cell? ⟨w6.heap.size, 2, none⟩ = some (.int .i64 ec) ∧ w'.cell? ⟨w6.heap.size, 3, none⟩ = some (.slice (some ⟨g2, 0, none⟩) n n)))
    have hD := h.keep kd (by omega)
    have uD := u2.keep kd (by omega)
    go_region_held3 (fun w' => w'.cell? ⟨w.heap.size, 0, none⟩ = some (.int .i64 bs) ∧ w'.cell? ⟨w.heap.size, 1, none⟩ = some (.int .i64 st) ∧ w'.cell? ⟨w.heap.size, 2, none⟩ = some (.int .i64 ec) ∧ w'.cell? ⟨w.heap.size, 3, none⟩ = some (.slice A n c) ∧ w'.cell? ⟨w6.heap.size, 0, none⟩ = some (.int .i64 bs) ∧ w'.cell? ⟨w6.heap.size, 1, none⟩ = some (.int .i64 st) ∧ w'.cell? ⟨w6.heap.size, 2, none⟩ = some (.int .i64 ec) ∧ w'.cell? ⟨w6.heap.size, 3, none⟩ = some (.slice (some ⟨g2, 0, none⟩) n n))
      (first | exact HSB.out _ bd | go_keep)
      (first
        | (go_at_call 9; refine (toBody_any bs st ec A n c _ xs _ hD (by omega) HX.out).mono ?_; rintro e v1 ⟨g3, rfl, u3, hb⟩; have uE := uD.keep (Keep.of_below hb 0 0) (by omega); replace bd := bd.trans (hb.mono szd); have szd := bd.size)
        | (go_at_call 11; refine (eqBody_true bs st ec _ _ n n n _ _ _ _ xs _ uE.rt u3.rt).mono ?_; rintro e v2 ⟨rfl, hk⟩; replace bd := bd.trans (hk.below (.inr (Nat.le_refl _)) szd); have szd := bd.size))
    go_wp2_with fail
    go_meet
    case rel => exact ⟨rfl, bd⟩
  case rest =>
  obtain ⟨rfl, hb11⟩ := hcut
  have hk11 := Keep.of_below hb11 0 0
  have hz11 := hb11.size
  replace h := h.keep hk11 (by omega)
  replace ba := ba.keep hk11 (by omega)
  replace v0 := v0.keep hk11 (by omega)
  replace b0 := b0.keep hk11 (by omega)
  replace u2 := u2.keep hk11 (by omega)
  replace bx := bx.keep hk11 (by omega)
  replace v1 := v1.keep hk11 (by omega)
  replace b1 := b1.keep hk11 (by omega)
  replace bb := bb.trans (hk11.below (by omega) bb.size)
  clear hb11 hk11
  generalize hwc11 : wc = w11 at *
  clear hwc11
  have bxlt := bx.lt
  have bxc0 := bx.at_ 0 _ rfl
  have bxc1 := bx.at_ 1 _ rfl
  have bxc2 := bx.at_ 2 _ rfl
  have bxc3 := bx.at_ 3 _ rfl
  go_wp2_with fail
  clear bxlt bxc0 bxc1 bxc2 bxc3
  refine (markBody_any bs st ec _ n n _ _ 1 xs w11 u2 (by omega) (by omega)).mono ?_
  rintro e w12 ⟨rfl, u2', hk12⟩
  have hz12 := hk12.size
  replace h := h.keep hk12 (by omega)
  replace ba := ba.keep hk12 (by omega)
  replace v0 := v0.keep hk12 (by omega)
  replace b0 := b0.keep hk12 (by omega)
  replace bx := bx.keep hk12 (by omega)
  replace v1 := v1.keep hk12 (by omega)
  replace b1 := b1.keep hk12 (by omega)
  replace bb := bb.trans (hk12.below (by omega) bb.size)
  clear hk12
  clear u2
  have hn1 : ¬ (1 + ((3 * n + sumLen xs : Nat) : Int)) < 0 := by omega
  generalize 1 + ((3 * n + sumLen xs : Nat) : Int) = M at *
  have b1lt := b1.lt
  have b1c0 := b1.at_ 0 _ rfl
  have b1c1 := b1.at_ 1 _ rfl
  have b0lt := b0.lt
  have b0c0 := b0.at_ 0 _ rfl
  have b0c1 := b0.at_ 1 _ rfl
  go_wp2_with fail
  clear b1lt b1c0 b1c1 b0lt b0c0 b0c1
  refine (eqBytesResult_true p _ _ zs.length _ _ _ _ _ _ zs w12 v1.1 v0.1).mono ?_
  rintro e w13 ⟨rfl, hk13⟩
  have hz13 := hk13.size
  replace h := h.keep hk13 (by omega)
  replace ba := ba.keep hk13 (by omega)
  replace v0 := v0.keep hk13 (by omega)
  replace b0 := b0.keep hk13 (by omega)
  replace bx := bx.keep hk13 (by omega)
  replace v1 := v1.keep hk13 (by omega)
  replace b1 := b1.keep hk13 (by omega)
  replace u2' := u2'.keep hk13 (by omega)
  replace bb := bb.trans (hk13.below (by omega) bb.size)
  clear hk13
  have b1lt := b1.lt
  have b1c0 := b1.at_ 0 _ rfl
  have b1c1 := b1.at_ 1 _ rfl
  go_wp2_with fail
  clear b1lt b1c0 b1c1
  clear hn1
  refine (markBytesResult_any p _ zs.length _ _ _ 1 zs w13 v1 (by omega) (by omega)).mono ?_
  rintro e w14 ⟨rfl, v1', hk14⟩
  have hz14 := hk14.size
  replace h := h.keep hk14 (by omega)
  replace ba := ba.keep hk14 (by omega)
  replace v0 := v0.keep hk14 (by omega)
  replace b0 := b0.keep hk14 (by omega)
  replace bx := bx.keep hk14 (by omega)
  replace b1 := b1.keep hk14 (by omega)
  replace u2' := u2'.keep hk14 (by omega)
  replace bb := bb.trans (hk14.below (by omega) bb.size)
  clear hk14
  clear v1
  have b1lt := b1.lt
  have b1c0 := b1.at_ 0 _ rfl
  have b1c1 := b1.at_ 1 _ rfl
  go_wp2_with fail
  clear b1lt b1c0 b1c1
  refine (heldBytesResult_any p _ zs.length _ _ _ 1 w14 v1'.1 (by omega) (by omega)).mono ?_
  rintro e w15 ⟨rfl, hk15⟩
  have hz15 := hk15.size
  replace h := h.keep hk15 (by omega)
  replace ba := ba.keep hk15 (by omega)
  replace v0 := v0.keep hk15 (by omega)
  replace b0 := b0.keep hk15 (by omega)
  replace bx := bx.keep hk15 (by omega)
  replace b1 := b1.keep hk15 (by omega)
  replace u2' := u2'.keep hk15 (by omega)
  replace v1' := v1'.keep hk15 (by omega)
  replace bb := bb.trans (hk15.below (by omega) bb.size)
  clear hk15
  have hn2 : ¬ (1 + (zs.length : Int)) < 0 := by omega
  have balt := ba.lt
  have bac0 := ba.at_ 0 _ rfl
  have bac1 := ba.at_ 1 _ rfl
  have bac2 := ba.at_ 2 _ rfl
  have bac3 := ba.at_ 3 _ rfl
  go_wp2_with fail
  clear balt bac0 bac1 bac2 bac3
  refine (toBody_any bs st ec A n c _ xs w15 h (by omega) HX.out).mono ?_
  rintro e w16 ⟨g4, rfl, u4, hb16⟩
  have hk16 := Keep.of_below hb16 0 0
  have hz16 := hb16.size
  replace h := h.keep hk16 (by omega)
  replace ba := ba.keep hk16 (by omega)
  replace v0 := v0.keep hk16 (by omega)
  replace b0 := b0.keep hk16 (by omega)
  replace bx := bx.keep hk16 (by omega)
  replace b1 := b1.keep hk16 (by omega)
  replace u2' := u2'.keep hk16 (by omega)
  replace v1' := v1'.keep hk16 (by omega)
  replace bb := bb.trans (hk16.below (by omega) bb.size)
  clear hb16 hk16
  go_wp2_with fail
  refine (IP.out _ n _ w16 u4.rt0).mono ?_
  rintro e w17 ⟨G2, cap2, rfl, _, _, v2, hb17⟩
  have hk17 := Keep.of_below hb17 0 0
  have hz17 := hb17.size
  replace h := h.keep hk17 (by omega)
  replace ba := ba.keep hk17 (by omega)
  replace v0 := v0.keep hk17 (by omega)
  replace b0 := b0.keep hk17 (by omega)
  replace bx := bx.keep hk17 (by omega)
  replace b1 := b1.keep hk17 (by omega)
  replace u2' := u2'.keep hk17 (by omega)
  replace v1' := v1'.keep hk17 (by omega)
  replace u4 := u4.keep hk17 (by omega)
  replace bb := bb.trans (hk17.below (by omega) bb.size)
  clear hb17 hk17
  clear u4
  have b0lt := b0.lt
  have b0c0 := b0.at_ 0 _ rfl
  have b0c1 := b0.at_ 1 _ rfl
  go_wp2_with fail
  clear b0lt b0c0 b0c1
  have hk18 := (Keep.refl 0 0 w17).alloc (.cells #[.int .i64 p, .slice G2 zs.length cap2] 35)
  have b2 := BoxL.new w17 [.int .i64 p, .slice G2 zs.length cap2] #[.int .i64 p, .slice G2 zs.length cap2] 35 rfl
  have hz18 : w17.heap.size + 1 ≤ (w17.alloc (.cells #[.int .i64 p, .slice G2 zs.length cap2] 35)).heap.size := by simp
  replace h := h.keep hk18 (by omega)
  replace ba := ba.keep hk18 (by omega)
  replace v0 := v0.keep hk18 (by omega)
  replace b0 := b0.keep hk18 (by omega)
  replace bx := bx.keep hk18 (by omega)
  replace b1 := b1.keep hk18 (by omega)
  replace u2' := u2'.keep hk18 (by omega)
  replace v1' := v1'.keep hk18 (by omega)
  replace v2 := v2.keep hk18 (by omega)
  replace bb := bb.trans (hk18.below (by omega) bb.size)
  clear hk18
  generalize w17.alloc (.cells #[.int .i64 p, .slice G2 zs.length cap2] 35) = w18 at *
  refine (eqBytesResult_true p _ _ zs.length _ _ _ _ _ _ zs w18 v2.1 v0.1).mono ?_
  rintro e w19 ⟨rfl, hk19⟩
  have hz19 := hk19.size
  replace h := h.keep hk19 (by omega)
  replace ba := ba.keep hk19 (by omega)
  replace v0 := v0.keep hk19 (by omega)
  replace b0 := b0.keep hk19 (by omega)
  replace bx := bx.keep hk19 (by omega)
  replace b1 := b1.keep hk19 (by omega)
  replace u2' := u2'.keep hk19 (by omega)
  replace v1' := v1'.keep hk19 (by omega)
  replace v2 := v2.keep hk19 (by omega)
  replace b2 := b2.keep hk19 (by omega)
  replace bb := bb.trans (hk19.below (by omega) bb.size)
  clear hk19
  have b1lt := b1.lt
  have b1c0 := b1.at_ 0 _ rfl
  have b1c1 := b1.at_ 1 _ rfl
  go_wp2_with fail
  clear b1lt b1c0 b1c1
  refine (heldBytesResult_any p _ zs.length _ _ _ 1 w19 v1'.1 (by omega) (by omega)).mono ?_
  rintro e w20 ⟨rfl, hk20⟩
  have hz20 := hk20.size
  replace h := h.keep hk20 (by omega)
  replace ba := ba.keep hk20 (by omega)
  replace v0 := v0.keep hk20 (by omega)
  replace b0 := b0.keep hk20 (by omega)
  replace bx := bx.keep hk20 (by omega)
  replace b1 := b1.keep hk20 (by omega)
  replace u2' := u2'.keep hk20 (by omega)
  replace v1' := v1'.keep hk20 (by omega)
  replace v2 := v2.keep hk20 (by omega)
  replace b2 := b2.keep hk20 (by omega)
  replace bb := bb.trans (hk20.below (by omega) bb.size)
  clear hk20
  go_wp2_with fail
  go_ret
  exact ⟨rfl, bb⟩
end Go.Proofs.Ytjdkaaepbkkchaa
