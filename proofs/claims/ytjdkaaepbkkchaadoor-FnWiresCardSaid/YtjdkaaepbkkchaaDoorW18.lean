/-
  The walk of FnExactDecodeReply.
-/
import Derived.Test.YtjdkaaepbkkchaaDoorW17
namespace Go.Proofs.YtjdkaaepbkkchaaDoor
open Go.RowKit
set_option linter.unusedVariables false
set_option maxRecDepth 100000

theorem decRepV_form (ps : List Int) : ∃ q0 q1 q2 q3 : Int, decRepV ps = .agg #[.int .i64 q0, .int .i64 q1, .int .i64 q2, .int .i64 q3] := by
  unfold decRepV
  split
  · exact ⟨_, _, _, _, rfl⟩
  · exact ⟨_, _, _, _, rfl⟩
set_option maxHeartbeats 800000 in
theorem eqReply_true (a s c : Int) (w : World) : Calls Tryd.prog 60 #[.agg #[.int .i64 a, .int .i64 s, .int .i64 c], .agg #[.int .i64 a, .int .i64 s, .int .i64 c]] w fun e w' => e = .returned (.bool true) ∧ Below w.heap.size w w' := by
  go_enter Tryd.func60, Tryd.ntmps60
  go_wp2_with fail
  repeat (go_quiet (fail); go_wp2_with fail)
  go_ret
  exact ⟨rfl, by go_grown⟩
set_option maxHeartbeats 800000 in
theorem eqReplyResult_true (q a s c : Int) (w : World) : Calls Tryd.prog 30 #[.agg #[.int .i64 q, .int .i64 a, .int .i64 s, .int .i64 c], .agg #[.int .i64 q, .int .i64 a, .int .i64 s, .int .i64 c]] w fun e w' => e = .returned (.bool true) ∧ Below w.heap.size w w' := by
  go_enter Tryd.func30, Tryd.ntmps30
  go_wp2_with fail
  refine (eqReply_true a s c _).mono ?_
  rintro e w1 ⟨rfl, hb⟩
  have bb : Below w.heap.size w w1 := (((Below.refl w.heap.size w).alloc (Nat.le_refl _) _).alloc (by simp) _).trans (hb.mono (by simp; omega))
  clear hb
  go_wp2_with fail
  go_ret
  exact ⟨rfl, bb⟩
set_option maxHeartbeats 2000000 in
theorem exactDecodeReply (A : Option Addr) (n c : Nat) (xs : List Int) (w : World) (h : Rd w 0 w.heap.size A n xs) (ea : Addr) (ke : Ke ea w) :
    Calls Tryd.prog 5 #[.slice A n c] w fun e w' => e = .returned (.bool true) ∧ Below w.heap.size w w' := by
  have hint := h.int
  by_cases hn : 1048576 < n
  · go_enter Tryd.func5, Tryd.ntmps5
    go_wp2_with fail
    go_ret
    exact ⟨rfl, Below.refl _ _⟩
  obtain ⟨q0, q1, q2, q3, hq⟩ := decRepV_form xs
  have HS := Lib.hid (fun (A' : Option Addr) (c' hi' : Nat) (w' : World) (r : Rd w' 0 hi' A' n xs) (k : n ≤ c') => specDecReply_any A' n c' hi' xs w' r k)
  have HI := Lib.hid (fun (A' : Option Addr) (c' hi' : Nat) (w' : World) (r : Rd w' 0 hi' A' n xs) (k : n ≤ c') (hA : (A' = none ∧ c' = 0) ∨ ∃ g off, A' = some ⟨g, off, none⟩) (ke' : Ke ea w') => implDecReply_any ea A' n c' hi' xs w' r k hA ke')
  rw [hq] at HS HI
  clear hq
  go_enter Tryd.func5, Tryd.ntmps5
  have bb := Below.refl w.heap.size w
  go_wp2_with fail
  refine (toByteS_any A n c _ _ xs w h (by omega)).mono ?_
  rintro e w1 ⟨g0, rfl, r0, hb1⟩
  have hk1 := Keep.of_below hb1 0 0
  have hz1 := hb1.size
  replace h := h.keep hk1 (by omega)
  replace ke := ke.keep hk1 (by omega)
  replace bb := bb.trans (hk1.below (by omega) bb.size)
  clear hb1 hk1
  go_wp2_with fail
  refine (HS.out _ _ _ w1 r0.rd0 (Nat.le_refl _)).mono ?_
  rintro e w2 ⟨rfl, hb2⟩
  have hk2 := Keep.of_below hb2 0 0
  have hz2 := hb2.size
  replace h := h.keep hk2 (by omega)
  replace ke := ke.keep hk2 (by omega)
  replace r0 := r0.keep hk2 (by omega)
  replace bb := bb.trans (hk2.below (by omega) bb.size)
  clear hb2 hk2
  clear r0
  go_wp2_with fail
  have hk3 := (Keep.refl 0 0 w2).alloc (.cells #[.int .i64 q0, .int .i64 q1, .int .i64 q2, .int .i64 q3] 40)
  have b0 := BoxL.new w2 [.int .i64 q0, .int .i64 q1, .int .i64 q2, .int .i64 q3] #[.int .i64 q0, .int .i64 q1, .int .i64 q2, .int .i64 q3] 40 rfl
  have hz3 : w2.heap.size + 1 ≤ (w2.alloc (.cells #[.int .i64 q0, .int .i64 q1, .int .i64 q2, .int .i64 q3] 40)).heap.size := by simp
  replace h := h.keep hk3 (by omega)
  replace ke := ke.keep hk3 (by omega)
  replace bb := bb.trans (hk3.below (by omega) bb.size)
  clear hk3
  generalize w2.alloc (.cells #[.int .i64 q0, .int .i64 q1, .int .i64 q2, .int .i64 q3] 40) = w3 at *
  refine (toByteS_any A n c _ _ xs w3 h (by omega)).mono ?_
  rintro e w4 ⟨g1, rfl, x0, hb4⟩
  have hk4 := Keep.of_below hb4 0 0
  have hz4 := hb4.size
  replace h := h.keep hk4 (by omega)
  replace ke := ke.keep hk4 (by omega)
  replace b0 := b0.keep hk4 (by omega)
  replace bb := bb.trans (hk4.below (by omega) bb.size)
  clear hb4 hk4
  go_wp2_with fail
  refine (HI.out _ _ _ w4 x0.rd0 (Nat.le_refl _) (.inr ⟨_, _, rfl⟩) ke).mono ?_
  rintro e w5 ⟨rfl, hb5⟩
  have hk5 := Keep.of_below hb5 0 0
  have hz5 := hb5.size
  replace h := h.keep hk5 (by omega)
  replace ke := ke.keep hk5 (by omega)
  replace b0 := b0.keep hk5 (by omega)
  replace x0 := x0.keep hk5 (by omega)
  replace bb := bb.trans (hk5.below (by omega) bb.size)
  clear hb5 hk5
  have b0lt := b0.lt
  have b0c0 := b0.at_ 0 _ rfl
  have b0c1 := b0.at_ 1 _ rfl
  have b0c2 := b0.at_ 2 _ rfl
  have b0c3 := b0.at_ 3 _ rfl
  go_wp2_with fail
  clear b0lt b0c0 b0c1 b0c2 b0c3
  have hk6 := (Keep.refl 0 0 w5).alloc (.cells #[.int .i64 q0, .int .i64 q1, .int .i64 q2, .int .i64 q3] 40)
  have b1 := BoxL.new w5 [.int .i64 q0, .int .i64 q1, .int .i64 q2, .int .i64 q3] #[.int .i64 q0, .int .i64 q1, .int .i64 q2, .int .i64 q3] 40 rfl
  have hz6 : w5.heap.size + 1 ≤ (w5.alloc (.cells #[.int .i64 q0, .int .i64 q1, .int .i64 q2, .int .i64 q3] 40)).heap.size := by simp
  replace h := h.keep hk6 (by omega)
  replace ke := ke.keep hk6 (by omega)
  replace b0 := b0.keep hk6 (by omega)
  replace x0 := x0.keep hk6 (by omega)
  replace bb := bb.trans (hk6.below (by omega) bb.size)
  clear hk6
  generalize w5.alloc (.cells #[.int .i64 q0, .int .i64 q1, .int .i64 q2, .int .i64 q3] 40) = w6 at *
  refine (eqReplyResult_true q0 q1 q2 q3 w6).mono ?_
  rintro e w7 ⟨rfl, hb7⟩
  have hk7 := Keep.of_below hb7 0 0
  have hz7 := hb7.size
  replace h := h.keep hk7 (by omega)
  replace ke := ke.keep hk7 (by omega)
  replace b0 := b0.keep hk7 (by omega)
  replace x0 := x0.keep hk7 (by omega)
  replace b1 := b1.keep hk7 (by omega)
  replace bb := bb.trans (hk7.below (by omega) bb.size)
  clear hb7 hk7
  go_wp2_with fail
  refine (toByteS_any A n c _ _ xs w7 h (by omega)).mono ?_
  rintro e w8 ⟨g2, rfl, r2, hb8⟩
  have hk8 := Keep.of_below hb8 0 0
  have hz8 := hb8.size
  replace h := h.keep hk8 (by omega)
  replace ke := ke.keep hk8 (by omega)
  replace b0 := b0.keep hk8 (by omega)
  replace x0 := x0.keep hk8 (by omega)
  replace b1 := b1.keep hk8 (by omega)
  replace bb := bb.trans (hk8.below (by omega) bb.size)
  clear hb8 hk8
  go_wp2_with fail
  refine (eqByteS_true _ _ n n n _ _ _ _ xs w8 x0.1 r2.1).mono ?_
  rintro e w9 ⟨rfl, q9, hq9⟩
  have hk9 : Keep 0 0 w8 w9 := by rw [hq9]; exact (Keep.refl 0 0 _).drewN _
  clear hq9
  have hz9 := hk9.size
  replace h := h.keep hk9 (by omega)
  replace ke := ke.keep hk9 (by omega)
  replace b0 := b0.keep hk9 (by omega)
  replace x0 := x0.keep hk9 (by omega)
  replace b1 := b1.keep hk9 (by omega)
  replace r2 := r2.keep hk9 (by omega)
  replace bb := bb.trans (hk9.below (by omega) bb.size)
  clear hk9
  go_wp2_with fail
  go_ret
  exact ⟨rfl, bb⟩
end Go.Proofs.YtjdkaaepbkkchaaDoor
