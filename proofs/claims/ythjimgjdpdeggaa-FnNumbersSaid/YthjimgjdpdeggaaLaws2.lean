/-
  The walk of FnExactGetNumber.
-/
import Derived.Test.YthjimgjdpdeggaaGet
namespace Go.Proofs.Ythjimgjdpdeggaa
open Go.RowKit
set_option linter.unusedVariables false

set_option maxHeartbeats 400000 in
theorem eqIntResult_true (x y : Int) (w : World) :
    Calls Try.prog 26 #[.agg #[.int .i64 x, .int .i64 y], .agg #[.int .i64 x, .int .i64 y]] w fun e w' => e = .returned (.bool true) ∧ Below w.heap.size w w' := by
  go_enter Try.func26, Try.ntmps26
  go_wp2
  repeat (go_quiet (fail); go_wp2)
  go_ret
  exact ⟨rfl, by go_grown⟩

/-- What GetNumber answers. -/
def getAns (n : Nat) (xs : List Int) : Int × Int := if 1 ≤ n ∧ n ≤ 7 then (0, val xs) else (2, 0)
theorem getAns_eq (n : Nat) (xs : List Int) : (if 1 ≤ n ∧ n ≤ 7 then #[Value.int .i64 0, .int .i64 (val xs)] else #[.int .i64 2, .int .i64 0]) = #[.int .i64 (getAns n xs).1, .int .i64 (getAns n xs).2] := by
  unfold getAns; split <;> rfl
theorem specGet_ans (A : Option Addr) (n c lo hi : Nat) (xs : List Int) (w : World) (h : Rd w lo hi A n xs) :
    Calls Try.prog 18 #[.slice A n c] w fun e w' => e = .returned (.agg #[.int .i64 (getAns n xs).1, .int .i64 (getAns n xs).2]) ∧ Below w.heap.size w w' := by
  have := specGet_any A n c lo hi xs w h
  rw [getAns_eq] at this
  exact this
theorem implGet_ans (A : Option Addr) (n c lo hi : Nat) (xs : List Int) (w : World) (h : Rd w lo hi A n xs) :
    Calls Try.prog 12 #[.slice A n c] w fun e w' => e = .returned (.agg #[.int .i64 (getAns n xs).1, .int .i64 (getAns n xs).2]) ∧ Below w.heap.size w w' := by
  have := implGet_any A n c lo hi xs w h
  rw [getAns_eq] at this
  exact this

set_option maxHeartbeats 400000 in
theorem exactGetNumber (A : Option Addr) (n c : Nat) (xs : List Int) (w : World) (h : Rd w 0 w.heap.size A n xs) :
    Calls Try.prog 5 #[.slice A n c] w fun e w' => e = .returned (.bool true) ∧ Below w.heap.size w w' := by
  have hint := h.int
  by_cases hn : 1048576 < n
  · go_enter Try.func5, Try.ntmps5
    go_wp2_with fail
    go_ret
    exact ⟨rfl, Below.refl _ _⟩
  obtain ⟨⟨p, q⟩, hpq⟩ : ∃ a, a = getAns n xs := ⟨_, rfl⟩
  go_enter Try.func5, Try.ntmps5
  go_wp2_with fail
  refine (toByteS_any A n c _ _ xs w h (by omega)).mono ?_
  rintro e w1 ⟨g1, rfl, hw1, hb1⟩
  have k1 := Keep.of_below hb1 0 0
  have h1 := h.keep k1 (by omega)
  go_wp2_with fail
  refine (specGet_ans _ n n _ _ xs w1 hw1.1).mono ?_
  rintro e w2 ⟨rfl, hb2⟩
  rw [← hpq]
  have k2 := Keep.of_below hb2 0 0
  have h2 := h1.keep k2 (by omega)
  go_wp2_with fail
  have ka := (Keep.refl 0 0 w2).alloc (.cells #[.int .i64 p, .int .i64 q] 31)
  have hx := Box2.new w2 (.int .i64 p) (.int .i64 q) 31
  refine (toByteS_any A n c _ _ xs _ (h2.keep ka (by omega)) (by omega)).mono ?_
  rintro e w3 ⟨g3, rfl, hw3, hb3⟩
  have k3 := Keep.of_below hb3 0 0
  have h3 := (h2.keep ka (by omega)).keep k3 (by omega)
  have hx3 := hx.keep k3 (by omega)
  go_wp2_with fail
  refine (implGet_ans _ n n _ _ xs w3 hw3.1).mono ?_
  rintro e w4 ⟨rfl, hb4⟩
  rw [← hpq]
  have k4 := Keep.of_below hb4 0 0
  have h4 := h3.keep k4 (by omega)
  have hx4 := hx3.keep k4 (by omega)
  have hw4 := hw3.keep k4 (by omega)
  obtain ⟨z4, c40, c41⟩ := hx4
  go_wp2_with fail
  have kb := (Keep.refl 0 0 w4).alloc (.cells #[.int .i64 p, .int .i64 q] 31)
  have h5 := h4.keep kb (by omega)
  have hw5 := hw4.keep kb (by omega)
  refine (eqIntResult_true p q _).mono ?_
  rintro e w5 ⟨rfl, hb5⟩
  have k5 := Keep.of_below hb5 0 0
  have h6 := h5.keep k5 (by omega)
  have hw6 := hw5.keep k5 (by omega)
  go_wp2_with fail
  refine (toByteS_any A n c _ _ xs w5 h6 (by omega)).mono ?_
  rintro e w6 ⟨g6, rfl, hw7, hb6⟩
  have k6 := Keep.of_below hb6 0 0
  have hw67 := hw6.keep k6 (by omega)
  go_wp2_with fail
  refine (eqByteS_true _ _ n n n _ _ _ _ xs w6 hw67.1 hw7.1).mono ?_
  rintro e w7 ⟨rfl, q', rfl⟩
  go_wp2_with fail
  go_ret
  have hK : Keep 0 0 w (w6.drewN q') := ((((((((k1.trans k2).trans ka).trans k3).trans k4).trans kb).trans k5).trans k6)).drewN q'
  exact ⟨rfl, hK.below (by omega) (Nat.le_refl _)⟩
end Go.Proofs.Ythjimgjdpdeggaa
