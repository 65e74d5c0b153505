/-
  eq, mark, held of a Replay and of a ReplayResult.
-/
import Derived.Test.YtebdgdmdjgkboaaR1
namespace Go.Proofs.Ytebdgdmdjgkboaa
open Go.RowKit
set_option linter.unusedVariables false
set_option maxRecDepth 100000

set_option maxHeartbeats 400000 in
theorem eqReplay_true (t : Int) (A A' : Option Addr) (n c c' lo hi lo' hi' : Nat) (xs : List Int) (w : World) (h : Ri w lo hi A n xs) (h' : Ri w lo' hi' A' n xs) :
    Calls Try.prog 25 #[.agg #[.int .i64 t, .slice A n c], .agg #[.int .i64 t, .slice A' n c']] w fun e w' => e = .returned (.bool true) ∧ Keep 0 0 w w' := by
  have k1 := ((Keep.refl 0 0 w).alloc (.cells #[.int .i64 t, .slice A n c] 26)).alloc (.cells #[.int .i64 t, .slice A' n c'] 26)
  have r := h.keep k1 (by omega)
  have r' := h'.keep k1 (by omega)
  have K1 := Lib.hid k1
  clear k1
  go_enter Try.func25, Try.ntmps25
  go_wp2_with fail
  refine (eqInt64S_true  _ _ n c c' _ _ _ _ xs _ r r').mono ?_
  rintro e w1 ⟨rfl, q, rfl⟩
  have K2 := Lib.hid (K1.out.drewN q)
  go_wp2_with fail
  go_ret
  exact ⟨rfl, K2.out⟩
set_option maxHeartbeats 400000 in
theorem markReplay_any (t : Int) (A : Option Addr) (n c lo hi : Nat) (K : Int) (xs : List Int) (w : World) (h : Wi w lo hi A n xs) (hK0 : 0 ≤ K) (hK : K + n ≤ 9223372036854775807) :
    Calls Try.prog 29 #[.agg #[.int .i64 t, .slice A n c], .int .i64 K] w fun e w' => e = .returned (.int .i64 (K + (n : Int))) ∧ Wi w' lo hi A n (marksI K n) ∧ Keep lo hi w w' := by
  have k1 := (Keep.refl 0 0 w).alloc (.cells #[.int .i64 t, .slice A n c] 26)
  have r := h.keep k1 (by omega)
  have K1 := Lib.hid (k1.none_ lo hi)
  clear k1
  go_enter Try.func29, Try.ntmps29
  go_wp2_with fail
  refine (markInt64S_any  A n c lo hi K xs _ r hK0 hK).mono ?_
  rintro e w1 ⟨rfl, hw1, hk1⟩
  go_wp2_with fail
  go_ret
  exact ⟨rfl, hw1, K1.out.trans hk1⟩
set_option maxHeartbeats 400000 in
theorem heldReplay_any (t : Int) (A : Option Addr) (n c lo hi : Nat) (K : Int) (w : World) (h : Ri w lo hi A n (marksI K n)) (hK0 : 0 ≤ K) (hK : K + n ≤ 9223372036854775807) :
    Calls Try.prog 52 #[.agg #[.int .i64 t, .slice A n c], .int .i64 K] w fun e w' => e = .returned (.int .i64 (K + (n : Int))) ∧ Keep 0 0 w w' := by
  have k1 := (Keep.refl 0 0 w).alloc (.cells #[.int .i64 t, .slice A n c] 26)
  have r := h.keep k1 (by omega)
  have K1 := Lib.hid k1
  have hnn : ¬ K + (n : Int) < 0 := by omega
  clear k1
  go_enter Try.func52, Try.ntmps52
  go_wp2_with fail
  refine (heldInt64S_any  A n c lo hi K _ r hK0 hK).mono ?_
  rintro e w1 ⟨rfl, rfl⟩
  have K2 := K1
  go_wp2_with fail
  go_ret
  exact ⟨rfl, K2.out⟩
set_option maxHeartbeats 400000 in
theorem eqReplayResult_true (x t : Int) (A A' : Option Addr) (n c c' lo hi lo' hi' : Nat) (xs : List Int) (w : World) (h : Ri w lo hi A n xs) (h' : Ri w lo' hi' A' n xs) :
    Calls Try.prog 26 #[.agg #[.int .i64 x, .int .i64 t, .slice A n c], .agg #[.int .i64 x, .int .i64 t, .slice A' n c']] w fun e w' => e = .returned (.bool true) ∧ Keep 0 0 w w' := by
  have k1 := ((Keep.refl 0 0 w).alloc (.cells #[.int .i64 x, .int .i64 t, .slice A n c] 30)).alloc (.cells #[.int .i64 x, .int .i64 t, .slice A' n c'] 30)
  have r := h.keep k1 (by omega)
  have r' := h'.keep k1 (by omega)
  have K1 := Lib.hid k1
  clear k1
  go_enter Try.func26, Try.ntmps26
  go_wp2_with fail
  refine (eqReplay_true t _ _ n c c' _ _ _ _ xs _ r r').mono ?_
  rintro e w1 ⟨rfl, k2⟩
  have K2 := Lib.hid (K1.out.trans k2)
  go_wp2_with fail
  go_ret
  exact ⟨rfl, K2.out⟩
set_option maxHeartbeats 400000 in
theorem markReplayResult_any (x t : Int) (A : Option Addr) (n c lo hi : Nat) (K : Int) (xs : List Int) (w : World) (h : Wi w lo hi A n xs) (hK0 : 0 ≤ K) (hK : K + n ≤ 9223372036854775807) :
    Calls Try.prog 27 #[.agg #[.int .i64 x, .int .i64 t, .slice A n c], .int .i64 K] w fun e w' => e = .returned (.int .i64 (K + (n : Int))) ∧ Wi w' lo hi A n (marksI K n) ∧ Keep lo hi w w' := by
  have k1 := (Keep.refl 0 0 w).alloc (.cells #[.int .i64 x, .int .i64 t, .slice A n c] 30)
  have r := h.keep k1 (by omega)
  have K1 := Lib.hid (k1.none_ lo hi)
  clear k1
  go_enter Try.func27, Try.ntmps27
  go_wp2_with fail
  refine (markReplay_any t A n c lo hi K xs _ r hK0 hK).mono ?_
  rintro e w1 ⟨rfl, hw1, hk1⟩
  go_wp2_with fail
  go_ret
  exact ⟨rfl, hw1, K1.out.trans hk1⟩
set_option maxHeartbeats 400000 in
theorem heldReplayResult_any (x t : Int) (A : Option Addr) (n c lo hi : Nat) (K : Int) (w : World) (h : Ri w lo hi A n (marksI K n)) (hK0 : 0 ≤ K) (hK : K + n ≤ 9223372036854775807) :
    Calls Try.prog 28 #[.agg #[.int .i64 x, .int .i64 t, .slice A n c], .int .i64 K] w fun e w' => e = .returned (.int .i64 (K + (n : Int))) ∧ Keep 0 0 w w' := by
  have k1 := (Keep.refl 0 0 w).alloc (.cells #[.int .i64 x, .int .i64 t, .slice A n c] 30)
  have r := h.keep k1 (by omega)
  have K1 := Lib.hid k1
  have hnn : ¬ K + (n : Int) < 0 := by omega
  clear k1
  go_enter Try.func28, Try.ntmps28
  go_wp2_with fail
  refine (heldReplay_any t A n c lo hi K _ r hK0 hK).mono ?_
  rintro e w1 ⟨rfl, k2⟩
  have K2 := Lib.hid (K1.out.trans k2)
  go_wp2_with fail
  go_ret
  exact ⟨rfl, K2.out⟩
end Go.Proofs.Ytebdgdmdjgkboaa
