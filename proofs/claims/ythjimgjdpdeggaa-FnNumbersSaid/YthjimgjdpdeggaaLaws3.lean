/-
  The walk of FnExactMixBytes.
-/
import Derived.Test.YthjimgjdpdeggaaMix2
import Derived.Test.YthjimgjdpdeggaaBR
namespace Go.Proofs.Ythjimgjdpdeggaa
open Go.RowKit
set_option linter.unusedVariables false

theorem specMix_ans (A A' : Option Addr) (n c m c' lo hi lo' hi' : Nat) (xs ys zs : List Int) (p : Int) (l : Nat) (w : World) (hp : mixCode n m = p) (hl : mixLen n m = l) (hz : mix (mixLen n m) xs ys = zs) (h : Rd w lo hi A n xs) (h' : Rd w lo' hi' A' m ys) :
    Calls Try.prog 19 #[.slice A n c, .slice A' m c'] w fun e w' => ∃ G cap, e = .returned (.agg #[.int .i64 p, .slice G l cap]) ∧ Wr w' w.heap.size w'.heap.size G l zs ∧ Below w.heap.size w w' := by
  have := specMix_any A A' n c m c' lo hi lo' hi' xs ys w h h'
  rw [hz, hp, hl] at this
  exact this
theorem implMix_ans (A A' : Option Addr) (n c m c' lo hi lo' hi' : Nat) (xs ys zs : List Int) (p : Int) (l : Nat) (w : World) (hp : mixCode n m = p) (hl : mixLen n m = l) (hz : mix (mixLen n m) xs ys = zs) (h : Rd w lo hi A n xs) (h' : Rd w lo' hi' A' m ys) :
    Calls Try.prog 14 #[.slice A n c, .slice A' m c'] w fun e w' => ∃ G cap, e = .returned (.agg #[.int .i64 p, .slice G l cap]) ∧ Wr w' w.heap.size w'.heap.size G l zs ∧ Below w.heap.size w w' := by
  have := implMix_any A A' n c m c' lo hi lo' hi' xs ys w h h'
  rw [hz, hp, hl] at this
  exact this
theorem mixLen_le (n m : Nat) : mixLen n m ≤ 300 := by unfold mixLen; split <;> omega

set_option maxHeartbeats 2000000 in
theorem exactMixBytes (A : Option Addr) (n c : Nat) (A' : Option Addr) (m c' : Nat) (xs ys : List Int) (w : World) (h : Rd w 0 w.heap.size A n xs) (h' : Rd w 0 w.heap.size A' m ys) :
    Calls Try.prog 6 #[.slice A n c, .slice A' m c'] w fun e w' => e = .returned (.bool true) ∧ Below w.heap.size w w' := by
  have hint := h.int
  have hint' := h'.int
  by_cases hn : 1048576 < n
  · go_enter Try.func6, Try.ntmps6
    go_wp2_with fail
    go_ret
    exact ⟨rfl, Below.refl _ _⟩
  by_cases hm : 1048576 < m
  · go_enter Try.func6, Try.ntmps6
    go_wp2_with fail
    go_ret
    exact ⟨rfl, Below.refl _ _⟩
  obtain ⟨p, hp⟩ : ∃ p, mixCode n m = p := ⟨_, rfl⟩
  obtain ⟨l, hl⟩ : ∃ l, mixLen n m = l := ⟨_, rfl⟩
  obtain ⟨zs, hz⟩ : ∃ zs, mix (mixLen n m) xs ys = zs := ⟨_, rfl⟩
  have hl3 : l ≤ 300 := hl ▸ mixLen_le n m
  have HP := Lib.hid hp
  have HL := Lib.hid hl
  have HZ := Lib.hid hz
  clear hp hl hz
  go_enter Try.func6, Try.ntmps6
  have bb := Below.refl w.heap.size w
  go_wp2_with fail
  refine (toByteS_any A n c _ _ xs w h (by omega)).mono ?_
  rintro e w1 ⟨t1, rfl, r1, hb1⟩
  have hk1 := Keep.of_below hb1 0 0
  have hz1 := hb1.size
  replace h := h.keep hk1 (by omega)
  replace h' := h'.keep hk1 (by omega)
  replace bb := bb.trans (hk1.below (by omega) bb.size)
  clear hb1 hk1
  go_wp2_with fail
  refine (toByteS_any A' m c' _ _ ys w1 h' (by omega)).mono ?_
  rintro e w2 ⟨t2, rfl, r2, hb2⟩
  have hk2 := Keep.of_below hb2 0 0
  have hz2 := hb2.size
  replace h := h.keep hk2 (by omega)
  replace h' := h'.keep hk2 (by omega)
  replace r1 := r1.keep hk2 (by omega)
  replace bb := bb.trans (hk2.below (by omega) bb.size)
  clear hb2 hk2
  go_wp2_with fail
  refine (specMix_ans _ _ n n m m _ _ _ _ xs ys zs p l w2 HP.out HL.out HZ.out r1.1 r2.1).mono ?_
  rintro e w3 ⟨G, cap, rfl, u0, hb3⟩
  have hk3 := Keep.of_below hb3 0 0
  have hz3 := hb3.size
  replace h := h.keep hk3 (by omega)
  replace h' := h'.keep hk3 (by omega)
  replace r1 := r1.keep hk3 (by omega)
  replace r2 := r2.keep hk3 (by omega)
  replace bb := bb.trans (hk3.below (by omega) bb.size)
  clear hb3 hk3
  clear r1 r2
  go_wp2_with fail
  have hk4 := (Keep.refl 0 0 w3).alloc (.cells #[.int .i64 p, .slice G l cap] 27)
  have bx0 := Box2.new w3 (.int .i64 p) (.slice G l cap) 27
  have hz4 : w3.heap.size + 1 ≤ (w3.alloc (.cells #[.int .i64 p, .slice G l cap] 27)).heap.size := by simp
  replace h := h.keep hk4 (by omega)
  replace h' := h'.keep hk4 (by omega)
  replace u0 := u0.keep hk4 (by omega)
  replace bb := bb.trans (hk4.below (by omega) bb.size)
  clear hk4
  generalize w3.alloc (.cells #[.int .i64 p, .slice G l cap] 27) = w4 at *
  refine (toByteS_any A n c _ _ xs w4 h (by omega)).mono ?_
  rintro e w5 ⟨t4, rfl, x0, hb5⟩
  have hk5 := Keep.of_below hb5 0 0
  have hz5 := hb5.size
  replace h := h.keep hk5 (by omega)
  replace h' := h'.keep hk5 (by omega)
  replace u0 := u0.keep hk5 (by omega)
  replace bx0 := bx0.keep hk5 (by omega)
  replace bb := bb.trans (hk5.below (by omega) bb.size)
  clear hb5 hk5
  go_wp2_with fail
  refine (toByteS_any A' m c' _ _ ys w5 h' (by omega)).mono ?_
  rintro e w6 ⟨t5, rfl, x1, hb6⟩
  have hk6 := Keep.of_below hb6 0 0
  have hz6 := hb6.size
  replace h := h.keep hk6 (by omega)
  replace h' := h'.keep hk6 (by omega)
  replace u0 := u0.keep hk6 (by omega)
  replace bx0 := bx0.keep hk6 (by omega)
  replace x0 := x0.keep hk6 (by omega)
  replace bb := bb.trans (hk6.below (by omega) bb.size)
  clear hb6 hk6
  go_wp2_with fail
  refine (implMix_ans _ _ n n m m _ _ _ _ xs ys zs p l w6 HP.out HL.out HZ.out x0.1 x1.1).mono ?_
  rintro e w7 ⟨G1, cap1, rfl, u1, hb7⟩
  have hk7 := Keep.of_below hb7 0 0
  have hz7 := hb7.size
  replace h := h.keep hk7 (by omega)
  replace h' := h'.keep hk7 (by omega)
  replace u0 := u0.keep hk7 (by omega)
  replace bx0 := bx0.keep hk7 (by omega)
  replace x0 := x0.keep hk7 (by omega)
  replace x1 := x1.keep hk7 (by omega)
  replace bb := bb.trans (hk7.below (by omega) bb.size)
  clear hb7 hk7
  have bx0lt := bx0.1
  have bx0c0 := bx0.2.1
  have bx0c1 := bx0.2.2
  go_wp2_with fail
  clear bx0lt bx0c0 bx0c1
  have hk8 := (Keep.refl 0 0 w7).alloc (.cells #[.int .i64 p, .slice G1 l cap1] 27)
  have bx1 := Box2.new w7 (.int .i64 p) (.slice G1 l cap1) 27
  have hz8 : w7.heap.size + 1 ≤ (w7.alloc (.cells #[.int .i64 p, .slice G1 l cap1] 27)).heap.size := by simp
  replace h := h.keep hk8 (by omega)
  replace h' := h'.keep hk8 (by omega)
  replace u0 := u0.keep hk8 (by omega)
  replace bx0 := bx0.keep hk8 (by omega)
  replace x0 := x0.keep hk8 (by omega)
  replace x1 := x1.keep hk8 (by omega)
  replace u1 := u1.keep hk8 (by omega)
  replace bb := bb.trans (hk8.below (by omega) bb.size)
  clear hk8
  generalize w7.alloc (.cells #[.int .i64 p, .slice G1 l cap1] 27) = w8 at *
  refine (eqBytesResult_true p _ _ l _ _ _ _ _ _ zs w8 u1.1 u0.1).mono ?_
  rintro e w9 ⟨rfl, hk9⟩
  have hz9 := hk9.size
  replace h := h.keep hk9 (by omega)
  replace h' := h'.keep hk9 (by omega)
  replace u0 := u0.keep hk9 (by omega)
  replace bx0 := bx0.keep hk9 (by omega)
  replace x0 := x0.keep hk9 (by omega)
  replace x1 := x1.keep hk9 (by omega)
  replace u1 := u1.keep hk9 (by omega)
  replace bx1 := bx1.keep hk9 (by omega)
  replace bb := bb.trans (hk9.below (by omega) bb.size)
  clear hk9
  go_wp2_with fail
  refine (toByteS_any A n c _ _ xs w9 h (by omega)).mono ?_
  rintro e w10 ⟨t9, rfl, r1, hb10⟩
  have hk10 := Keep.of_below hb10 0 0
  have hz10 := hb10.size
  replace h := h.keep hk10 (by omega)
  replace h' := h'.keep hk10 (by omega)
  replace u0 := u0.keep hk10 (by omega)
  replace bx0 := bx0.keep hk10 (by omega)
  replace x0 := x0.keep hk10 (by omega)
  replace x1 := x1.keep hk10 (by omega)
  replace u1 := u1.keep hk10 (by omega)
  replace bx1 := bx1.keep hk10 (by omega)
  replace bb := bb.trans (hk10.below (by omega) bb.size)
  clear hb10 hk10
  go_wp2_with fail
  refine (eqByteS_true _ _ n n n _ _ _ _ xs w10 x0.1 r1.1).mono ?_
  rintro e w11 ⟨rfl, q11, hq11⟩
  have hk11 : Keep 0 0 w10 w11 := by rw [hq11]; exact (Keep.refl 0 0 _).drewN _
  clear hq11
  have hz11 := hk11.size
  replace h := h.keep hk11 (by omega)
  replace h' := h'.keep hk11 (by omega)
  replace u0 := u0.keep hk11 (by omega)
  replace bx0 := bx0.keep hk11 (by omega)
  replace x0 := x0.keep hk11 (by omega)
  replace x1 := x1.keep hk11 (by omega)
  replace u1 := u1.keep hk11 (by omega)
  replace bx1 := bx1.keep hk11 (by omega)
  replace r1 := r1.keep hk11 (by omega)
  replace bb := bb.trans (hk11.below (by omega) bb.size)
  clear hk11
  clear r1
  go_wp2_with fail
  refine (toByteS_any A' m c' _ _ ys w11 h' (by omega)).mono ?_
  rintro e w12 ⟨t10, rfl, r1, hb12⟩
  have hk12 := Keep.of_below hb12 0 0
  have hz12 := hb12.size
  replace h := h.keep hk12 (by omega)
  replace h' := h'.keep hk12 (by omega)
  replace u0 := u0.keep hk12 (by omega)
  replace bx0 := bx0.keep hk12 (by omega)
  replace x0 := x0.keep hk12 (by omega)
  replace x1 := x1.keep hk12 (by omega)
  replace u1 := u1.keep hk12 (by omega)
  replace bx1 := bx1.keep hk12 (by omega)
  replace bb := bb.trans (hk12.below (by omega) bb.size)
  clear hb12 hk12
  go_wp2_with fail
  refine (eqByteS_true _ _ m m m _ _ _ _ ys w12 x1.1 r1.1).mono ?_
  rintro e w13 ⟨rfl, q13, hq13⟩
  have hk13 : Keep 0 0 w12 w13 := by rw [hq13]; exact (Keep.refl 0 0 _).drewN _
  clear hq13
  have hz13 := hk13.size
  replace h := h.keep hk13 (by omega)
  replace h' := h'.keep hk13 (by omega)
  replace u0 := u0.keep hk13 (by omega)
  replace bx0 := bx0.keep hk13 (by omega)
  replace x0 := x0.keep hk13 (by omega)
  replace x1 := x1.keep hk13 (by omega)
  replace u1 := u1.keep hk13 (by omega)
  replace bx1 := bx1.keep hk13 (by omega)
  replace r1 := r1.keep hk13 (by omega)
  replace bb := bb.trans (hk13.below (by omega) bb.size)
  clear hk13
  clear r1
  go_wp2_with fail
  refine (markByteS_any _ n n _ _ 1 xs w13 x0 (by omega) (by omega)).mono ?_
  rintro e w14 ⟨rfl, x0', hk14⟩
  have hz14 := hk14.size
  replace h := h.keep hk14 (by omega)
  replace h' := h'.keep hk14 (by omega)
  replace u0 := u0.keep hk14 (by omega)
  replace bx0 := bx0.keep hk14 (by omega)
  replace x1 := x1.keep hk14 (by omega)
  replace u1 := u1.keep hk14 (by omega)
  replace bx1 := bx1.keep hk14 (by omega)
  replace bb := bb.trans (hk14.below (by omega) bb.size)
  clear hk14
  clear x0
  go_wp2_with fail
  refine (markByteS_any _ m m _ _ (1 + (n : Int)) ys w14 x1 (by omega) (by omega)).mono ?_
  rintro e w15 ⟨rfl, x1', hk15⟩
  have hz15 := hk15.size
  replace h := h.keep hk15 (by omega)
  replace h' := h'.keep hk15 (by omega)
  replace u0 := u0.keep hk15 (by omega)
  replace bx0 := bx0.keep hk15 (by omega)
  replace u1 := u1.keep hk15 (by omega)
  replace bx1 := bx1.keep hk15 (by omega)
  replace x0' := x0'.keep hk15 (by omega)
  replace bb := bb.trans (hk15.below (by omega) bb.size)
  clear hk15
  clear x1
  have hn1 : ¬ (1 + (n : Int) + (m : Int)) < 0 := by omega
  have bx0c0 := bx0.2.1
  have bx0c1 := bx0.2.2
  have bx1c0 := bx1.2.1
  have bx1c1 := bx1.2.2
  go_wp2_with fail
  clear bx0c0 bx0c1
  clear bx1c0 bx1c1
  clear hn1
  refine (eqBytesResult_true p _ _ l _ _ _ _ _ _ zs w15 u1.1 u0.1).mono ?_
  rintro e w16 ⟨rfl, hk16⟩
  have hz16 := hk16.size
  replace h := h.keep hk16 (by omega)
  replace h' := h'.keep hk16 (by omega)
  replace u0 := u0.keep hk16 (by omega)
  replace bx0 := bx0.keep hk16 (by omega)
  replace u1 := u1.keep hk16 (by omega)
  replace bx1 := bx1.keep hk16 (by omega)
  replace x0' := x0'.keep hk16 (by omega)
  replace x1' := x1'.keep hk16 (by omega)
  replace bb := bb.trans (hk16.below (by omega) bb.size)
  clear hk16
  have bx1c0 := bx1.2.1
  have bx1c1 := bx1.2.2
  go_wp2_with fail
  clear bx1c0 bx1c1
  refine (markBytesResult_any p _ l _ _ _ 1 zs w16 u1 (by omega) (by omega)).mono ?_
  rintro e w17 ⟨rfl, u1', hk17⟩
  have hz17 := hk17.size
  replace h := h.keep hk17 (by omega)
  replace h' := h'.keep hk17 (by omega)
  replace u0 := u0.keep hk17 (by omega)
  replace bx0 := bx0.keep hk17 (by omega)
  replace bx1 := bx1.keep hk17 (by omega)
  replace x0' := x0'.keep hk17 (by omega)
  replace x1' := x1'.keep hk17 (by omega)
  replace bb := bb.trans (hk17.below (by omega) bb.size)
  clear hk17
  clear u1
  have bx1c0 := bx1.2.1
  have bx1c1 := bx1.2.2
  go_wp2_with fail
  clear bx1c0 bx1c1
  refine (heldBytesResult_any p _ l _ _ _ 1 w17 u1'.1 (by omega) (by omega)).mono ?_
  rintro e w18 ⟨rfl, hk18⟩
  have hz18 := hk18.size
  replace h := h.keep hk18 (by omega)
  replace h' := h'.keep hk18 (by omega)
  replace u0 := u0.keep hk18 (by omega)
  replace bx0 := bx0.keep hk18 (by omega)
  replace bx1 := bx1.keep hk18 (by omega)
  replace x0' := x0'.keep hk18 (by omega)
  replace x1' := x1'.keep hk18 (by omega)
  replace u1' := u1'.keep hk18 (by omega)
  replace bb := bb.trans (hk18.below (by omega) bb.size)
  clear hk18
  have hn2 : ¬ (1 + (l : Int)) < 0 := by omega
  go_wp2_with fail
  refine (toByteS_any A n c _ _ xs w18 h (by omega)).mono ?_
  rintro e w19 ⟨t16, rfl, r1, hb19⟩
  have hk19 := Keep.of_below hb19 0 0
  have hz19 := hb19.size
  replace h := h.keep hk19 (by omega)
  replace h' := h'.keep hk19 (by omega)
  replace u0 := u0.keep hk19 (by omega)
  replace bx0 := bx0.keep hk19 (by omega)
  replace bx1 := bx1.keep hk19 (by omega)
  replace x0' := x0'.keep hk19 (by omega)
  replace x1' := x1'.keep hk19 (by omega)
  replace u1' := u1'.keep hk19 (by omega)
  replace bb := bb.trans (hk19.below (by omega) bb.size)
  clear hb19 hk19
  clear hn2
  go_wp2_with fail
  refine (toByteS_any A' m c' _ _ ys w19 h' (by omega)).mono ?_
  rintro e w20 ⟨t17, rfl, r2, hb20⟩
  have hk20 := Keep.of_below hb20 0 0
  have hz20 := hb20.size
  replace h := h.keep hk20 (by omega)
  replace h' := h'.keep hk20 (by omega)
  replace u0 := u0.keep hk20 (by omega)
  replace bx0 := bx0.keep hk20 (by omega)
  replace bx1 := bx1.keep hk20 (by omega)
  replace x0' := x0'.keep hk20 (by omega)
  replace x1' := x1'.keep hk20 (by omega)
  replace u1' := u1'.keep hk20 (by omega)
  replace r1 := r1.keep hk20 (by omega)
  replace bb := bb.trans (hk20.below (by omega) bb.size)
  clear hb20 hk20
  go_wp2_with fail
  refine (implMix_ans _ _ n n m m _ _ _ _ xs ys zs p l w20 HP.out HL.out HZ.out r1.1 r2.1).mono ?_
  rintro e w21 ⟨G2, cap2, rfl, u2, hb21⟩
  have hk21 := Keep.of_below hb21 0 0
  have hz21 := hb21.size
  replace h := h.keep hk21 (by omega)
  replace h' := h'.keep hk21 (by omega)
  replace u0 := u0.keep hk21 (by omega)
  replace bx0 := bx0.keep hk21 (by omega)
  replace bx1 := bx1.keep hk21 (by omega)
  replace x0' := x0'.keep hk21 (by omega)
  replace x1' := x1'.keep hk21 (by omega)
  replace u1' := u1'.keep hk21 (by omega)
  replace r1 := r1.keep hk21 (by omega)
  replace r2 := r2.keep hk21 (by omega)
  replace bb := bb.trans (hk21.below (by omega) bb.size)
  clear hb21 hk21
  clear r1 r2
  have bx0lt := bx0.1
  have bx0c0 := bx0.2.1
  have bx0c1 := bx0.2.2
  go_wp2_with fail
  clear bx0lt bx0c0 bx0c1
  have hk22 := (Keep.refl 0 0 w21).alloc (.cells #[.int .i64 p, .slice G2 l cap2] 27)
  have bx2 := Box2.new w21 (.int .i64 p) (.slice G2 l cap2) 27
  have hz22 : w21.heap.size + 1 ≤ (w21.alloc (.cells #[.int .i64 p, .slice G2 l cap2] 27)).heap.size := by simp
  replace h := h.keep hk22 (by omega)
  replace h' := h'.keep hk22 (by omega)
  replace u0 := u0.keep hk22 (by omega)
  replace bx0 := bx0.keep hk22 (by omega)
  replace bx1 := bx1.keep hk22 (by omega)
  replace x0' := x0'.keep hk22 (by omega)
  replace x1' := x1'.keep hk22 (by omega)
  replace u1' := u1'.keep hk22 (by omega)
  replace u2 := u2.keep hk22 (by omega)
  replace bb := bb.trans (hk22.below (by omega) bb.size)
  clear hk22
  generalize w21.alloc (.cells #[.int .i64 p, .slice G2 l cap2] 27) = w22 at *
  refine (eqBytesResult_true p _ _ l _ _ _ _ _ _ zs w22 u2.1 u0.1).mono ?_
  rintro e w23 ⟨rfl, hk23⟩
  have hz23 := hk23.size
  replace h := h.keep hk23 (by omega)
  replace h' := h'.keep hk23 (by omega)
  replace u0 := u0.keep hk23 (by omega)
  replace bx0 := bx0.keep hk23 (by omega)
  replace bx1 := bx1.keep hk23 (by omega)
  replace x0' := x0'.keep hk23 (by omega)
  replace x1' := x1'.keep hk23 (by omega)
  replace u1' := u1'.keep hk23 (by omega)
  replace u2 := u2.keep hk23 (by omega)
  replace bx2 := bx2.keep hk23 (by omega)
  replace bb := bb.trans (hk23.below (by omega) bb.size)
  clear hk23
  have bx1c0 := bx1.2.1
  have bx1c1 := bx1.2.2
  go_wp2_with fail
  clear bx1c0 bx1c1
  refine (heldBytesResult_any p _ l _ _ _ 1 w23 u1'.1 (by omega) (by omega)).mono ?_
  rintro e w24 ⟨rfl, hk24⟩
  have hz24 := hk24.size
  replace h := h.keep hk24 (by omega)
  replace h' := h'.keep hk24 (by omega)
  replace u0 := u0.keep hk24 (by omega)
  replace bx0 := bx0.keep hk24 (by omega)
  replace bx1 := bx1.keep hk24 (by omega)
  replace x0' := x0'.keep hk24 (by omega)
  replace x1' := x1'.keep hk24 (by omega)
  replace u1' := u1'.keep hk24 (by omega)
  replace u2 := u2.keep hk24 (by omega)
  replace bx2 := bx2.keep hk24 (by omega)
  replace bb := bb.trans (hk24.below (by omega) bb.size)
  clear hk24
  have hn3 : ¬ (1 + (l : Int)) < 0 := by omega
  go_wp2_with fail
  go_ret
  exact ⟨rfl, bb⟩
end Go.Proofs.Ythjimgjdpdeggaa
