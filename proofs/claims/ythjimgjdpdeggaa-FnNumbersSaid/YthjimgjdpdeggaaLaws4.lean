/-
  The walk of FnExactPutNumber.
-/
import Derived.Test.YthjimgjdpdeggaaPut2
import Derived.Test.YthjimgjdpdeggaaBR
namespace Go.Proofs.Ythjimgjdpdeggaa
open Go.RowKit
set_option linter.unusedVariables false

theorem specPut_ans (n sz p : Int) (l : Nat) (zs : List Int) (w : World) (hn : -9223372036854775808 ≤ n ∧ n ≤ 9223372036854775807) (hs : -9223372036854775808 ≤ sz ∧ sz ≤ 9223372036854775807) (hp : putCode n sz = p) (hl : putLen n sz = l) (hz : digs n (putLen n sz) = zs) :
    Calls Try.prog 17 #[.int .i64 n, .int .i64 sz] w fun e w' => ∃ G cap, e = .returned (.agg #[.int .i64 p, .slice G l cap]) ∧ Wr w' w.heap.size w'.heap.size G l zs ∧ Below w.heap.size w w' := by
  have := specPut_any n sz w hn hs
  rw [hz, hp, hl] at this
  exact this
theorem implPut_ans (n sz p : Int) (l : Nat) (zs : List Int) (w : World) (hn : -9223372036854775808 ≤ n ∧ n ≤ 9223372036854775807) (hs : -9223372036854775808 ≤ sz ∧ sz ≤ 9223372036854775807) (hp : putCode n sz = p) (hl : putLen n sz = l) (hz : digs n (putLen n sz) = zs) :
    Calls Try.prog 10 #[.int .i64 n, .int .i64 sz] w fun e w' => ∃ G cap, e = .returned (.agg #[.int .i64 p, .slice G l cap]) ∧ Wr w' w.heap.size w'.heap.size G l zs ∧ Below w.heap.size w w' := by
  have := implPut_any n sz w hn hs
  rw [hz, hp, hl] at this
  exact this

theorem wf64 {n : Int} (h : (Lit.int .i64 n).wf = true) : -9223372036854775808 ≤ n ∧ n ≤ 9223372036854775807 := by
  simpa [Lit.wf, IntKind.min, IntKind.max, IntKind.signed, IntKind.bits] using h

set_option maxHeartbeats 2000000 in
theorem exactPutNumber (n sz : Int) (w : World) (hn : -9223372036854775808 ≤ n ∧ n ≤ 9223372036854775807) (hs : -9223372036854775808 ≤ sz ∧ sz ≤ 9223372036854775807) :
    Calls Try.prog 4 #[.int .i64 n, .int .i64 sz] w fun e w' => e = .returned (.bool true) ∧ Below w.heap.size w w' := by
  obtain ⟨p, hp⟩ : ∃ p, putCode n sz = p := ⟨_, rfl⟩
  obtain ⟨l, hl⟩ : ∃ l, putLen n sz = l := ⟨_, rfl⟩
  obtain ⟨zs, hz⟩ : ∃ zs, digs n (putLen n sz) = zs := ⟨_, rfl⟩
  have hl3 : l ≤ 7 := hl ▸ putLen_le n sz
  have HP := Lib.hid hp
  have HL := Lib.hid hl
  have HZ := Lib.hid hz
  clear hp hl hz
  go_enter Try.func4, Try.ntmps4
  have bb := Below.refl w.heap.size w
  go_wp2_with fail
  refine (specPut_ans n sz p l zs w hn hs HP.out HL.out HZ.out).mono ?_
  rintro e w1 ⟨G, cap, rfl, u0, hb1⟩
  have hk1 := Keep.of_below hb1 0 0
  have hz1 := hb1.size
  replace bb := bb.trans (hk1.below (by omega) bb.size)
  clear hb1 hk1
  go_wp2_with fail
  have hk2 := (Keep.refl 0 0 w1).alloc (.cells #[.int .i64 p, .slice G l cap] 27)
  have bx0 := Box2.new w1 (.int .i64 p) (.slice G l cap) 27
  have hz2 : w1.heap.size + 1 ≤ (w1.alloc (.cells #[.int .i64 p, .slice G l cap] 27)).heap.size := by simp
  replace u0 := u0.keep hk2 (by omega)
  replace bb := bb.trans (hk2.below (by omega) bb.size)
  clear hk2
  generalize w1.alloc (.cells #[.int .i64 p, .slice G l cap] 27) = w2 at *
  refine (implPut_ans n sz p l zs w2 hn hs HP.out HL.out HZ.out).mono ?_
  rintro e w3 ⟨G1, cap1, rfl, u1, hb3⟩
  have hk3 := Keep.of_below hb3 0 0
  have hz3 := hb3.size
  replace u0 := u0.keep hk3 (by omega)
  replace bx0 := bx0.keep hk3 (by omega)
  replace bb := bb.trans (hk3.below (by omega) bb.size)
  clear hb3 hk3
  have bx0lt := bx0.1
  have bx0c0 := bx0.2.1
  have bx0c1 := bx0.2.2
  go_wp2_with fail
  clear bx0lt bx0c0 bx0c1
  have hk4 := (Keep.refl 0 0 w3).alloc (.cells #[.int .i64 p, .slice G1 l cap1] 27)
  have bx1 := Box2.new w3 (.int .i64 p) (.slice G1 l cap1) 27
  have hz4 : w3.heap.size + 1 ≤ (w3.alloc (.cells #[.int .i64 p, .slice G1 l cap1] 27)).heap.size := by simp
  replace u0 := u0.keep hk4 (by omega)
  replace bx0 := bx0.keep hk4 (by omega)
  replace u1 := u1.keep hk4 (by omega)
  replace bb := bb.trans (hk4.below (by omega) bb.size)
  clear hk4
  generalize w3.alloc (.cells #[.int .i64 p, .slice G1 l cap1] 27) = w4 at *
  refine (eqBytesResult_true p _ _ l _ _ _ _ _ _ zs w4 u1.1 u0.1).mono ?_
  rintro e w5 ⟨rfl, hk5⟩
  have hz5 := hk5.size
  replace u0 := u0.keep hk5 (by omega)
  replace bx0 := bx0.keep hk5 (by omega)
  replace u1 := u1.keep hk5 (by omega)
  replace bx1 := bx1.keep hk5 (by omega)
  replace bb := bb.trans (hk5.below (by omega) bb.size)
  clear hk5
  have bx1c0 := bx1.2.1
  have bx1c1 := bx1.2.2
  go_wp2_with fail
  clear bx1c0 bx1c1
  refine (markBytesResult_any p _ l _ _ _ 1 zs w5 u1 (by omega) (by omega)).mono ?_
  rintro e w6 ⟨rfl, u1', hk6⟩
  have hz6 := hk6.size
  replace u0 := u0.keep hk6 (by omega)
  replace bx0 := bx0.keep hk6 (by omega)
  replace bx1 := bx1.keep hk6 (by omega)
  replace bb := bb.trans (hk6.below (by omega) bb.size)
  clear hk6
  clear u1
  have bx1c0 := bx1.2.1
  have bx1c1 := bx1.2.2
  go_wp2_with fail
  clear bx1c0 bx1c1
  refine (heldBytesResult_any p _ l _ _ _ 1 w6 u1'.1 (by omega) (by omega)).mono ?_
  rintro e w7 ⟨rfl, hk7⟩
  have hz7 := hk7.size
  replace u0 := u0.keep hk7 (by omega)
  replace bx0 := bx0.keep hk7 (by omega)
  replace bx1 := bx1.keep hk7 (by omega)
  replace u1' := u1'.keep hk7 (by omega)
  replace bb := bb.trans (hk7.below (by omega) bb.size)
  clear hk7
  have hn2 : ¬ (1 + (l : Int)) < 0 := by omega
  go_wp2_with fail
  refine (implPut_ans n sz p l zs w7 hn hs HP.out HL.out HZ.out).mono ?_
  rintro e w8 ⟨G2, cap2, rfl, u2, hb8⟩
  have hk8 := Keep.of_below hb8 0 0
  have hz8 := hb8.size
  replace u0 := u0.keep hk8 (by omega)
  replace bx0 := bx0.keep hk8 (by omega)
  replace bx1 := bx1.keep hk8 (by omega)
  replace u1' := u1'.keep hk8 (by omega)
  replace bb := bb.trans (hk8.below (by omega) bb.size)
  clear hb8 hk8
  clear hn2
  have bx0lt := bx0.1
  have bx0c0 := bx0.2.1
  have bx0c1 := bx0.2.2
  go_wp2_with fail
  clear bx0lt bx0c0 bx0c1
  have hk9 := (Keep.refl 0 0 w8).alloc (.cells #[.int .i64 p, .slice G2 l cap2] 27)
  have bx2 := Box2.new w8 (.int .i64 p) (.slice G2 l cap2) 27
  have hz9 : w8.heap.size + 1 ≤ (w8.alloc (.cells #[.int .i64 p, .slice G2 l cap2] 27)).heap.size := by simp
  replace u0 := u0.keep hk9 (by omega)
  replace bx0 := bx0.keep hk9 (by omega)
  replace bx1 := bx1.keep hk9 (by omega)
  replace u1' := u1'.keep hk9 (by omega)
  replace u2 := u2.keep hk9 (by omega)
  replace bb := bb.trans (hk9.below (by omega) bb.size)
  clear hk9
  generalize w8.alloc (.cells #[.int .i64 p, .slice G2 l cap2] 27) = w9 at *
  refine (eqBytesResult_true p _ _ l _ _ _ _ _ _ zs w9 u2.1 u0.1).mono ?_
  rintro e w10 ⟨rfl, hk10⟩
  have hz10 := hk10.size
  replace u0 := u0.keep hk10 (by omega)
  replace bx0 := bx0.keep hk10 (by omega)
  replace bx1 := bx1.keep hk10 (by omega)
  replace u1' := u1'.keep hk10 (by omega)
  replace u2 := u2.keep hk10 (by omega)
  replace bx2 := bx2.keep hk10 (by omega)
  replace bb := bb.trans (hk10.below (by omega) bb.size)
  clear hk10
  have bx1c0 := bx1.2.1
  have bx1c1 := bx1.2.2
  go_wp2_with fail
  clear bx1c0 bx1c1
  refine (heldBytesResult_any p _ l _ _ _ 1 w10 u1'.1 (by omega) (by omega)).mono ?_
  rintro e w11 ⟨rfl, hk11⟩
  have hz11 := hk11.size
  replace u0 := u0.keep hk11 (by omega)
  replace bx0 := bx0.keep hk11 (by omega)
  replace bx1 := bx1.keep hk11 (by omega)
  replace u1' := u1'.keep hk11 (by omega)
  replace u2 := u2.keep hk11 (by omega)
  replace bx2 := bx2.keep hk11 (by omega)
  replace bb := bb.trans (hk11.below (by omega) bb.size)
  clear hk11
  have hn3 : ¬ (1 + (l : Int)) < 0 := by omega
  go_wp2_with fail
  go_ret
  exact ⟨rfl, bb⟩
end Go.Proofs.Ythjimgjdpdeggaa
