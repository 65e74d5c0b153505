/-
  The walks of chapter 6's exact laws.
-/
import Derived.Test.YtlgpbnngepkkmaaK3
import Derived.Lib.SmallJoins
import Derived.ProofKit
import Derived.OpenShut
namespace Go.Proofs.Ytlgpbnngepkkmaa
open Go.ChangeShapes Go.WideShapes Go.ChangeAt Go.RowKit Go.Joins
set_option linter.unusedVariables false
set_option maxRecDepth 100000

theorem cellsTimer : Try.prog.cellsOf 67 = 4 := by kernel_rfl
/-- A laws.Timer, as the row opens it. -/
theorem open_timer {H : Type} {enc : TypeId × Value → H} {W : World} {base b0 : Nat} {held : Bool} {r : Reach} {v : Value} {d : DataW H} {p : List MemPlace} (hv : Value.okWide Try.prog W r b0 67 v)
    (h : DataW.Trod enc Try.prog W base (fun _ => true) held 67 v d p) : ∃ k m s r, v = .agg #[.bool k, .int .i64 m, .int .i64 s, .int .i64 r] := by
  obtain ⟨c0, c1, c2, c3, y0, y1, y2, y3, n, rfl, rfl, rfl, h0, h1, h2, h3⟩ := open_agg4 Try.underlying67 (by kernel_rfl) cellsTimer hv h
  obtain ⟨k, hk, _⟩ := DataW.trod_bool Try.underlying4 h0
  obtain ⟨m, hm, _, _⟩ := DataW.trod_int Try.underlying2 h1
  obtain ⟨s, hs, _, _⟩ := DataW.trod_int Try.underlying2 h2
  obtain ⟨q, hq, _, _⟩ := DataW.trod_int Try.underlying2 h3
  simp at hk hm hs hq
  subst hk hm hs hq
  exact ⟨k, m, s, q, rfl⟩
theorem TBox.new (w : World) (u0 u1 u2 u3 : Value) (t : TypeId) : TBox (w.alloc (.cells #[u0, u1, u2, u3] t)) w.heap.size u0 u1 u2 u3 := by
  refine ⟨?_, ?_, ?_, ?_, ?_, ?_, ?_, ?_⟩ <;> simp [go_sem]
theorem RBox.new (w : World) (u0 u1 u2 u3 u4 : Value) (t : TypeId) : RBox (w.alloc (.cells #[u0, u1, u2, u3, u4] t)) w.heap.size u0 u1 u2 u3 u4 := by
  refine ⟨?_, ?_, ?_, ?_, ?_, ?_, ?_, ?_, ?_, ?_, ?_⟩ <;> simp [go_sem]
theorem ans_form (k : Bool) (m s r ms : Int) : ∃ c k' m' s' r', sampAns k m s r ms = .agg #[.int .i64 c, .bool k', .int .i64 m', .int .i64 s', .int .i64 r'] := by
  unfold sampAns; split <;> exact ⟨_, _, _, _, _, rfl⟩

set_option maxHeartbeats 1000000 in
theorem exactStampOf (n : Int) (w : World) : Calls Try.prog 8 #[.int .i64 n] w fun e w' => e = .returned (.bool true) ∧ Below w.heap.size w w' := by
  have HS := Lib.hid (fun w' => specStamp_any n w')
  have HI := Lib.hid (fun w' => implStamp_any n w')
  generalize stampCode n = c at *
  generalize stampAns n = v at *
  go_enter Try.func8, Try.ntmps8
  go_wp2_with fail
  refine (HS.out _).mono ?_
  rintro e w1 ⟨rfl, hb1⟩
  go_wp2_with fail
  have bx := Box2.new w1 (.int .i64 c) (.int .i64 v) 60
  have bb : Below w.heap.size w (w1.alloc (.cells #[.int .i64 c, .int .i64 v] 60)) := hb1.alloc hb1.size _
  clear hb1
  generalize w1.alloc (.cells #[.int .i64 c, .int .i64 v] 60) = w2 at *
  refine (HI.out _).mono ?_
  rintro e w3 ⟨rfl, hb⟩
  have zb := hb.size
  replace bx := bx.keep (Keep.of_below hb 0 0) (by omega)
  replace bb := bb.trans (hb.mono bb.size)
  clear hb zb
  obtain ⟨xl, x0, x1⟩ := bx
  go_wp2_with fail
  refine (eqIntR_true c v _).mono ?_
  rintro e w4 ⟨rfl, hb⟩
  have zz := bb.size
  replace bb := (bb.alloc bb.size _).trans (hb.mono (by simp; omega))
  clear hb
  go_wp2_with fail
  go_ret
  exact ⟨rfl, bb⟩

set_option maxHeartbeats 1000000 in
theorem exactPassedOf (n s : Int) (w : World) : Calls Try.prog 9 #[.int .i64 n, .int .i64 s] w fun e w' => e = .returned (.bool true) ∧ Below w.heap.size w w' := by
  have HS := Lib.hid (fun w' => specPassed_any n s w')
  have HI := Lib.hid (fun w' => implPassed_any n s w')
  generalize passedCode n s = c at *
  generalize passedAns n s = v at *
  go_enter Try.func9, Try.ntmps9
  go_wp2_with fail
  refine (HS.out _).mono ?_
  rintro e w1 ⟨rfl, hb1⟩
  go_wp2_with fail
  have bx := Box2.new w1 (.int .i64 c) (.int .i64 v) 60
  have bb : Below w.heap.size w (w1.alloc (.cells #[.int .i64 c, .int .i64 v] 60)) := hb1.alloc hb1.size _
  clear hb1
  generalize w1.alloc (.cells #[.int .i64 c, .int .i64 v] 60) = w2 at *
  refine (HI.out _).mono ?_
  rintro e w3 ⟨rfl, hb⟩
  have zb := hb.size
  replace bx := bx.keep (Keep.of_below hb 0 0) (by omega)
  replace bb := bb.trans (hb.mono bb.size)
  clear hb zb
  obtain ⟨xl, x0, x1⟩ := bx
  go_wp2_with fail
  refine (eqIntR_true c v _).mono ?_
  rintro e w4 ⟨rfl, hb⟩
  have zz := bb.size
  replace bb := (bb.alloc bb.size _).trans (hb.mono (by simp; omega))
  clear hb
  go_wp2_with fail
  go_ret
  exact ⟨rfl, bb⟩

set_option maxHeartbeats 1000000 in
theorem exactTimerFault (k : Bool) (m s r : Int) (w : World) : Calls Try.prog 5 #[.agg #[.bool k, .int .i64 m, .int .i64 s, .int .i64 r]] w fun e w' => e = .returned (.bool true) ∧ Below w.heap.size w w' := by
  have HS := Lib.hid (fun w' => specTimerFault_any k m s r w')
  have HI := Lib.hid (fun w' => implTimerFault_any k m s r w')
  generalize timerCode k m s r = c at *
  go_enter Try.func5, Try.ntmps5
  go_wp2_with fail
  have tb := TBox.new w (.bool k) (.int .i64 m) (.int .i64 s) (.int .i64 r) 67
  have bb : Below w.heap.size w (w.alloc (.cells #[.bool k, .int .i64 m, .int .i64 s, .int .i64 r] 67)) := (Below.refl _ _).alloc (Nat.le_refl _) _
  have z0 : w.heap.size + 1 ≤ (w.alloc (.cells #[.bool k, .int .i64 m, .int .i64 s, .int .i64 r] 67)).heap.size := by simp
  generalize w.alloc (.cells #[.bool k, .int .i64 m, .int .i64 s, .int .i64 r] 67) = w0 at *
  refine (toTimer_any k m s r _).mono ?_
  rintro e w1 ⟨rfl, hb⟩
  have zb := hb.size
  replace tb := tb.keep (by omega) hb
  replace bb := bb.trans (hb.mono bb.size)
  replace z0 := Nat.le_trans z0 zb
  clear hb zb
  go_wp2_with fail
  refine (HS.out _).mono ?_
  rintro e w2 ⟨rfl, hb⟩
  have zb := hb.size
  replace tb := tb.keep (by omega) hb
  replace bb := bb.trans (hb.mono bb.size)
  replace z0 := Nat.le_trans z0 zb
  clear hb zb
  have b0 := tb.c0
  have b1 := tb.c1
  have b2 := tb.c2
  have b3 := tb.c3
  go_wp2_with fail
  clear b0 b1 b2 b3
  refine (toTimer_any k m s r _).mono ?_
  rintro e w3 ⟨rfl, hb⟩
  have zb := hb.size
  replace tb := tb.keep (by omega) hb
  replace bb := bb.trans (hb.mono bb.size)
  replace z0 := Nat.le_trans z0 zb
  clear hb zb
  go_wp2_with fail
  refine (HI.out _).mono ?_
  rintro e w4 ⟨rfl, hb⟩
  have zb := hb.size
  replace tb := tb.keep (by omega) hb
  replace bb := bb.trans (hb.mono bb.size)
  replace z0 := Nat.le_trans z0 zb
  clear hb zb
  go_wp2_with fail
  go_ret
  exact ⟨rfl, bb⟩

set_option maxHeartbeats 2000000 in
theorem exactSampleTimer (k : Bool) (m s r ms : Int) (w : World) : Calls Try.prog 7 #[.agg #[.bool k, .int .i64 m, .int .i64 s, .int .i64 r], .int .i64 ms] w fun e w' => e = .returned (.bool true) ∧ Below w.heap.size w w' := by
  have HS := Lib.hid (fun w' => specSample_any k m s r ms w')
  have HI := Lib.hid (fun w' => implSample_any k m s r ms w')
  obtain ⟨c, k', m', s', r', hf⟩ := ans_form k m s r ms
  rw [hf] at HS HI
  clear hf
  go_enter Try.func7, Try.ntmps7
  go_wp2_with fail
  have tb := TBox.new w (.bool k) (.int .i64 m) (.int .i64 s) (.int .i64 r) 67
  have bb : Below w.heap.size w (w.alloc (.cells #[.bool k, .int .i64 m, .int .i64 s, .int .i64 r] 67)) := (Below.refl _ _).alloc (Nat.le_refl _) _
  have z0 : w.heap.size + 1 ≤ (w.alloc (.cells #[.bool k, .int .i64 m, .int .i64 s, .int .i64 r] 67)).heap.size := by simp
  generalize w.alloc (.cells #[.bool k, .int .i64 m, .int .i64 s, .int .i64 r] 67) = w0 at *
  refine (toTimer_any k m s r _).mono ?_
  rintro e w1 ⟨rfl, hb⟩
  have zb := hb.size
  replace tb := tb.keep (by omega) hb
  replace bb := bb.trans (hb.mono bb.size)
  replace z0 := Nat.le_trans z0 zb
  clear hb zb
  go_wp2_with fail
  refine (HS.out _).mono ?_
  rintro e w2 ⟨rfl, hb⟩
  have zb := hb.size
  replace tb := tb.keep (by omega) hb
  replace bb := bb.trans (hb.mono bb.size)
  replace z0 := Nat.le_trans z0 zb
  clear hb zb
  have b0 := tb.c0
  have b1 := tb.c1
  have b2 := tb.c2
  have b3 := tb.c3
  have l0 : w.heap.size < w2.heap.size := by omega
  go_wp2_with fail
  have rb := RBox.new w2 (.int .i64 c) (.bool k') (.int .i64 m') (.int .i64 s') (.int .i64 r') 56
  have hb : Below w2.heap.size w2 (w2.alloc (.cells #[.int .i64 c, .bool k', .int .i64 m', .int .i64 s', .int .i64 r'] 56)) := (Below.refl _ _).alloc (Nat.le_refl _) _
  have zb := hb.size
  replace tb := tb.keep (by omega) hb
  replace bb := bb.trans (hb.mono bb.size)
  replace z0 := Nat.le_trans z0 zb
  clear hb zb
  generalize w2.alloc (.cells #[.int .i64 c, .bool k', .int .i64 m', .int .i64 s', .int .i64 r'] 56) = w3 at *
  clear b0 b1 b2 b3 l0
  refine (toTimer_any k m s r _).mono ?_
  rintro e w4 ⟨rfl, hb⟩
  have zb := hb.size
  replace tb := tb.keep (by omega) hb
  replace rb := rb.keep hb
  replace bb := bb.trans (hb.mono bb.size)
  replace z0 := Nat.le_trans z0 zb
  clear hb zb
  go_wp2_with fail
  refine (HI.out _).mono ?_
  rintro e w5 ⟨rfl, hb⟩
  have zb := hb.size
  replace tb := tb.keep (by omega) hb
  replace rb := rb.keep hb
  replace bb := bb.trans (hb.mono bb.size)
  replace z0 := Nat.le_trans z0 zb
  clear hb zb
  clear tb
  have ⟨xl, x0, x1, x2, x3, x4, _, _, _, _, _⟩ := rb
  go_wp2_with fail
  refine (eqTimerResult_true c k' m' s' r' _).mono ?_
  rintro e w6 ⟨rfl, hb⟩
  have zz := bb.size
  replace bb := (bb.alloc bb.size _).trans (hb.mono (by simp; omega))
  clear hb
  go_wp2_with fail
  go_ret
  exact ⟨rfl, bb⟩

set_option maxHeartbeats 1000000 in
theorem exactNewTimer (w : World) : Calls Try.prog 6 #[] w fun e w' => e = .returned (.bool true) ∧ Below w.heap.size w w' := by
  go_enter Try.func6, Try.ntmps6
  go_wp2_with fail
  refine (specNewTimer_any _).mono ?_
  rintro e w2 ⟨rfl, hb2⟩
  have bb := hb2
  clear hb2
  go_wp2_with fail
  have rb := RBox.new w2 (.int .i64 0) (.bool false) (.int .i64 0) (.int .i64 0) (.int .i64 1000) 56
  have hb : Below w2.heap.size w2 (w2.alloc (.cells #[.int .i64 0, .bool false, .int .i64 0, .int .i64 0, .int .i64 1000] 56)) := (Below.refl _ _).alloc (Nat.le_refl _) _
  have zb := hb.size
  replace bb := bb.trans (hb.mono bb.size)
  clear hb zb
  generalize w2.alloc (.cells #[.int .i64 0, .bool false, .int .i64 0, .int .i64 0, .int .i64 1000] 56) = w3 at *
  refine (implNewTimer_any _).mono ?_
  rintro e w5 ⟨rfl, hb⟩
  have zb := hb.size
  replace rb := rb.keep hb
  replace bb := bb.trans (hb.mono bb.size)
  clear hb zb
  have ⟨xl, x0, x1, x2, x3, x4, _, _, _, _, _⟩ := rb
  go_wp2_with fail
  refine (eqTimerResult_true 0 false 0 0 1000 _).mono ?_
  rintro e w6 ⟨rfl, hb⟩
  have zz := bb.size
  replace bb := (bb.alloc bb.size _).trans (hb.mono (by simp; omega))
  clear hb
  go_wp2_with fail
  go_ret
  exact ⟨rfl, bb⟩
end Go.Proofs.Ytlgpbnngepkkmaa
