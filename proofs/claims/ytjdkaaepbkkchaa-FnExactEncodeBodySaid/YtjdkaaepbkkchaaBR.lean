/-
  The laws' helpers on an answer with a code and bytes: eqBytesResult, markBytesResult, heldBytesResult.
-/
import Derived.Test.YtjdkaaepbkkchaaBase
namespace Go.Proofs.Ytjdkaaepbkkchaa
open Go.RowKit
set_option linter.unusedVariables false
set_option maxRecDepth 100000

set_option maxHeartbeats 400000 in
theorem eqBytesResult_true (x : Int) (A A' : Option Addr) (n c c' lo hi lo' hi' : Nat) (xs : List Int) (w : World) (h : Rd w lo hi A n xs) (h' : Rd w lo' hi' A' n xs) :
    Calls Try.prog 14 #[.agg #[.int .i64 x, .slice A n c], .agg #[.int .i64 x, .slice A' n c']] w fun e w' => e = .returned (.bool true) ∧ Keep 0 0 w w' := by
  have k1 := ((Keep.refl 0 0 w).alloc (.cells #[.int .i64 x, .slice A n c] 35)).alloc (.cells #[.int .i64 x, .slice A' n c'] 35)
  have r := h.keep k1 (by omega)
  have r' := h'.keep k1 (by omega)
  have K1 := Lib.hid k1
  clear k1
  go_enter Try.func14, Try.ntmps14
  go_wp2_with fail
  refine (eqByteS_true _ _ n c c' _ _ _ _ xs _ r r').mono ?_
  rintro e w1 ⟨rfl, q, rfl⟩
  have K2 := Lib.hid (K1.out.drewN q)
  go_wp2_with fail
  go_ret
  exact ⟨rfl, K2.out⟩

set_option maxHeartbeats 400000 in
theorem markBytesResult_any (x : Int) (A : Option Addr) (n c lo hi : Nat) (K : Int) (xs : List Int) (w : World) (h : Wr w lo hi A n xs) (hK0 : 0 ≤ K) (hK : K + n ≤ 9223372036854775807) :
    Calls Try.prog 16 #[.agg #[.int .i64 x, .slice A n c], .int .i64 K] w fun e w' => e = .returned (.int .i64 (K + (n : Int))) ∧ Wr w' lo hi A n (marks K n) ∧ Keep lo hi w w' := by
  have k1 := (Keep.refl 0 0 w).alloc (.cells #[.int .i64 x, .slice A n c] 35)
  have r := h.keep k1 (by omega)
  have K1 := Lib.hid (k1.none_ lo hi)
  clear k1
  go_enter Try.func16, Try.ntmps16
  go_wp2_with fail
  refine (markByteS_any A n c lo hi K xs _ r hK0 hK).mono ?_
  rintro e w1 ⟨rfl, hw1, hk1⟩
  go_wp2_with fail
  go_ret
  exact ⟨rfl, hw1, K1.out.trans hk1⟩

set_option maxHeartbeats 400000 in
theorem heldBytesResult_any (x : Int) (A : Option Addr) (n c lo hi : Nat) (K : Int) (w : World) (h : Rd w lo hi A n (marks K n)) (hK0 : 0 ≤ K) (hK : K + n ≤ 9223372036854775807) :
    Calls Try.prog 17 #[.agg #[.int .i64 x, .slice A n c], .int .i64 K] w fun e w' => e = .returned (.int .i64 (K + (n : Int))) ∧ Keep 0 0 w w' := by
  have k1 := (Keep.refl 0 0 w).alloc (.cells #[.int .i64 x, .slice A n c] 35)
  have r := h.keep k1 (by omega)
  have K1 := Lib.hid k1
  have hnn : ¬ K + (n : Int) < 0 := by omega
  clear k1
  go_enter Try.func17, Try.ntmps17
  go_wp2_with fail
  refine (heldByteS_any A n c lo hi K _ r hK0 hK).mono ?_
  rintro e w1 ⟨rfl, rfl⟩
  go_wp2_with fail
  go_ret
  exact ⟨rfl, K1.out⟩
end Go.Proofs.Ytjdkaaepbkkchaa
