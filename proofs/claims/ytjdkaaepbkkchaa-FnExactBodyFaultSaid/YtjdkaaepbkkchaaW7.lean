/-
  The walk of FnExactBodyFault.
-/
import Derived.Test.YtjdkaaepbkkchaaW6
import Derived.Test.YtjdkaaepbkkchaaL0
import Derived.Deep.CutRange
namespace Go.Proofs.Ytjdkaaepbkkchaa
open Go.RowKit
set_option linter.unusedVariables false
set_option maxRecDepth 100000

set_option maxHeartbeats 2000000 in
theorem exactBodyFault (bs st ec : Int) (A : Option Addr) (n c : Nat) (xs : List Itm) (w : World) (h : Rt w 0 w.heap.size A n xs) :
    Calls Try.prog 3 #[.agg #[.int .i64 bs, .int .i64 st, .int .i64 ec, .slice A n c]] w fun e w' => e = .returned (.bool true) ∧ Below w.heap.size w w' := by
  have hint := h.int
  have hlx := h.len
  have HS := Lib.hid (fun w' (h' : Rt w' 0 w.heap.size A n xs) => szBody_any bs st ec A n c _ _ xs 1048576 w' h' (by omega) (by omega))
  by_cases hn : (1048576 : Int) < (xs.length : Int) + sumLen xs
  · have hsz : szT 1048576 xs = -1 := by unfold szT; rw [if_pos hn]
    rw [hsz] at HS
    go_enter Try.func3, Try.ntmps3
    go_wp2_with fail
    refine (HS.out _ (h.keep ((Keep.refl 0 0 w).alloc (.cells #[.int .i64 bs, .int .i64 st, .int .i64 ec, .slice A n c] 24)) (by omega))).mono ?_
    rintro e w1 ⟨rfl, k1⟩
    have bb := (((Keep.refl 0 0 w).alloc (.cells #[.int .i64 bs, .int .i64 st, .int .i64 ec, .slice A n c] 24)).trans k1).below (B := w.heap.size) (by omega) (Nat.le_refl _)
    go_wp2_with fail
    go_ret
    exact ⟨rfl, bb⟩
  obtain ⟨left, hleft⟩ : ∃ left, szT 1048576 xs = left := ⟨_, rfl⟩
  have hl0 : 0 ≤ left := by rw [← hleft]; unfold szT; rw [if_neg hn]; omega
  rw [hleft] at HS
  have j1 : ¬ left < 0 := by omega
  have HX := Lib.hid (fun x (hx : x ∈ xs) => show x.2.1.length ≤ 281474976710656 by
    have := mem_sumLen hx
    omega)
  have SP := Lib.hid (fun A' c' lo' hi' w' (h' : Rt w' lo' hi' A' n xs) => specBodyFault_any bs st ec A' n c' lo' hi' xs w' h')
  have IP := Lib.hid (fun A' c' hi' w' (h' : Rt w' 0 hi' A' n xs) => implBodyFault_any bs st ec A' n c' hi' xs w' h')
  generalize bodyCode bs st ec xs = cd at *
  have hn2 : n ≤ 1048576 := by omega
  clear hn hleft hlx
  go_enter Try.func3, Try.ntmps3
  have bb := Below.refl w.heap.size w
  go_wp2_with fail
  have hk1 := (Keep.refl 0 0 w).alloc (.cells #[.int .i64 bs, .int .i64 st, .int .i64 ec, .slice A n c] 24)
  have ba := BoxL.new w [.int .i64 bs, .int .i64 st, .int .i64 ec, .slice A n c] #[.int .i64 bs, .int .i64 st, .int .i64 ec, .slice A n c] 24 rfl
  have hz1 : w.heap.size + 1 ≤ (w.alloc (.cells #[.int .i64 bs, .int .i64 st, .int .i64 ec, .slice A n c] 24)).heap.size := by simp
  replace h := h.keep hk1 (by omega)
  replace bb := bb.trans (hk1.below (by omega) bb.size)
  clear hk1
  generalize w.alloc (.cells #[.int .i64 bs, .int .i64 st, .int .i64 ec, .slice A n c] 24) = w1 at *
  refine (HS.out w1 h).mono ?_
  rintro e w2 ⟨rfl, hk2⟩
  have hz2 := hk2.size
  replace h := h.keep hk2 (by omega)
  replace ba := ba.keep hk2 (by omega)
  replace bb := bb.trans (hk2.below (by omega) bb.size)
  clear hk2
  have balt := ba.lt
  have bac0 := ba.at_ 0 _ rfl
  have bac1 := ba.at_ 1 _ rfl
  have bac2 := ba.at_ 2 _ rfl
  have bac3 := ba.at_ 3 _ rfl
  go_wp2_with fail
  clear balt bac0 bac1 bac2 bac3
  refine (toBody_any bs st ec A n c _ xs w2 h (by omega) HX.out).mono ?_
  rintro e w3 ⟨g1, rfl, u1, hb3⟩
  have hk3 := Keep.of_below hb3 0 0
  have hz3 := hb3.size
  replace h := h.keep hk3 (by omega)
  replace ba := ba.keep hk3 (by omega)
  replace bb := bb.trans (hk3.below (by omega) bb.size)
  clear hb3 hk3
  go_wp2_with fail
  refine (SP.out _ n _ _ w3 u1.rt).mono ?_
  rintro e w4 ⟨rfl, hk4⟩
  have hz4 := hk4.size
  replace h := h.keep hk4 (by omega)
  replace ba := ba.keep hk4 (by omega)
  replace u1 := u1.keep hk4 (by omega)
  replace bb := bb.trans (hk4.below (by omega) bb.size)
  clear hk4
  have balt := ba.lt
  have bac0 := ba.at_ 0 _ rfl
  have bac1 := ba.at_ 1 _ rfl
  have bac2 := ba.at_ 2 _ rfl
  have bac3 := ba.at_ 3 _ rfl
  go_wp2_with fail
  clear balt bac0 bac1 bac2 bac3
  refine (toBody_any bs st ec A n c _ xs w4 h (by omega) HX.out).mono ?_
  rintro e w5 ⟨g2, rfl, u2, hb5⟩
  have hk5 := Keep.of_below hb5 0 0
  have hz5 := hb5.size
  replace h := h.keep hk5 (by omega)
  replace ba := ba.keep hk5 (by omega)
  replace u1 := u1.keep hk5 (by omega)
  replace bb := bb.trans (hk5.below (by omega) bb.size)
  clear hb5 hk5
  go_wp2_with fail
  have hk6 := (Keep.refl 0 0 w5).alloc (.cells #[.int .i64 bs, .int .i64 st, .int .i64 ec, .slice (some ⟨g2, 0, none⟩) n n] 29)
  have bx := BoxL.new w5 [.int .i64 bs, .int .i64 st, .int .i64 ec, .slice (some ⟨g2, 0, none⟩) n n] #[.int .i64 bs, .int .i64 st, .int .i64 ec, .slice (some ⟨g2, 0, none⟩) n n] 29 rfl
  have hz6 : w5.heap.size + 1 ≤ (w5.alloc (.cells #[.int .i64 bs, .int .i64 st, .int .i64 ec, .slice (some ⟨g2, 0, none⟩) n n] 29)).heap.size := by simp
  replace h := h.keep hk6 (by omega)
  replace ba := ba.keep hk6 (by omega)
  replace u1 := u1.keep hk6 (by omega)
  replace u2 := u2.keep hk6 (by omega)
  replace bb := bb.trans (hk6.below (by omega) bb.size)
  clear hk6
  generalize w5.alloc (.cells #[.int .i64 bs, .int .i64 st, .int .i64 ec, .slice (some ⟨g2, 0, none⟩) n n] 29) = w6 at *
  refine (IP.out _ n _ w6 (u2.rt.wide (Nat.zero_le _) (Nat.le_refl _) u2.top)).mono ?_
  rintro e w7 ⟨rfl, hb7⟩
  have hk7 := Keep.of_below hb7 0 0
  have hz7 := hb7.size
  replace h := h.keep hk7 (by omega)
  replace ba := ba.keep hk7 (by omega)
  replace u1 := u1.keep hk7 (by omega)
  replace u2 := u2.keep hk7 (by omega)
  replace bx := bx.keep hk7 (by omega)
  replace bb := bb.trans (hk7.below (by omega) bb.size)
  clear hb7 hk7
  go_upto_region 10 with fail
  go_cut [26] from 22 to 26 (fun sv wx => sv = .bool false ∧ Below w7.heap.size w7 wx)
  case first =>
    have bd : Below w7.heap.size w7 w7.drew := ⟨rfl, rfl, rfl, Nat.le_refl _, fun _ _ => rfl⟩
    have kd : Keep 0 0 w7 w7.drew := ⟨rfl, rfl, rfl, Nat.le_refl _, fun _ _ _ => rfl⟩
    have szd := bd.size
    have HSB := Lib.hid (fun (w' : World) (kb : Below w7.heap.size w7 w') => (⟨(ba.below kb).at_ 0 _ rfl, (ba.below kb).at_ 1 _ rfl, (ba.below kb).at_ 2 _ rfl, (ba.below kb).at_ 3 _ rfl, (bx.below kb).at_ 0 _ rfl, (bx.below kb).at_ 1 _ rfl, (bx.below kb).at_ 2 _ rfl, (bx.below kb).at_ 3 _ rfl⟩ : w'.cell? ⟨w.heap.size, 0, none⟩ = some (.int .i64 bs) ∧ w'.cell? ⟨w.heap.size, 1, none⟩ = some (.int .i64 st) ∧ w'.cell? ⟨w.heap.size, 2, none⟩ = some (.int .i64 ec) ∧ w'.cell? ⟨w.heap.size, 3, none⟩ = some (.slice A n c) ∧ w'.cell? ⟨w5.heap.size, 0, none⟩ = some (.int .i64 bs) ∧ w'.cell? ⟨w5.heap.size, 1, none⟩ = some (.int .i64 st) ∧ w'.cell? ⟨w5.heap.size, 2, none⟩ = some (.int .i64 ec) ∧ w'.cell? ⟨w5.heap.size, 3, none⟩ = some (.slice (some ⟨g2, 0, none⟩) n n)))
    have hD := h.keep kd (by omega)
    have uD := u2.keep kd (by omega)
    go_region_held3 (fun w' => w'.cell? ⟨w.heap.size, 0, none⟩ = some (.int .i64 bs) ∧ w'.cell? ⟨w.heap.size, 1, none⟩ = some (.int .i64 st) ∧ w'.cell? ⟨w.heap.size, 2, none⟩ = some (.int .i64 ec) ∧ w'.cell? ⟨w.heap.size, 3, none⟩ = some (.slice A n c) ∧ w'.cell? ⟨w5.heap.size, 0, none⟩ = some (.int .i64 bs) ∧ w'.cell? ⟨w5.heap.size, 1, none⟩ = some (.int .i64 st) ∧ w'.cell? ⟨w5.heap.size, 2, none⟩ = some (.int .i64 ec) ∧ w'.cell? ⟨w5.heap.size, 3, none⟩ = some (.slice (some ⟨g2, 0, none⟩) n n))
      (first | exact HSB.out _ bd | go_keep)
      (first
        | (go_at_call 9; refine (toBody_any bs st ec A n c _ xs _ hD (by omega) HX.out).mono ?_; rintro e v1 ⟨g3, rfl, u3, hb⟩; have uE := uD.keep (Keep.of_below hb 0 0) (by omega); replace bd := bd.trans (hb.mono szd); have szd := bd.size)
        | (go_at_call 11; refine (eqBody_true bs st ec _ _ n n n _ _ _ _ xs _ uE.rt u3.rt).mono ?_; rintro e v2 ⟨rfl, hk⟩; replace bd := bd.trans (hk.below (.inr (Nat.le_refl _)) szd); have szd := bd.size))
    go_wp2_with fail
    go_meet
    case rel => exact ⟨rfl, bd⟩
  case rest =>
  obtain ⟨rfl, hb8⟩ := hcut
  have hk8 := Keep.of_below hb8 0 0
  have hz8 := hb8.size
  replace h := h.keep hk8 (by omega)
  replace ba := ba.keep hk8 (by omega)
  replace u1 := u1.keep hk8 (by omega)
  replace u2 := u2.keep hk8 (by omega)
  replace bx := bx.keep hk8 (by omega)
  replace bb := bb.trans (hk8.below (by omega) bb.size)
  clear hb8 hk8
  generalize hwc8 : wc = w8 at *
  clear hwc8
  go_wp2_with fail
  go_ret
  exact ⟨rfl, bb⟩
end Go.Proofs.Ytjdkaaepbkkchaa
