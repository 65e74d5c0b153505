/-
  The laws' helpers on an answer with a code, a side, a number and bytes: eqPacketResult, markPacketResult, heldPacketResult; a result's box of four cells.
-/
import Derived.Test.YtpnpjngaenlciaaDoorS3
import Derived.Test.YtpnpjngaenlciaaDoorBR
namespace Go.Proofs.YtpnpjngaenlciaaDoor
open Go.RowKit
set_option linter.unusedVariables false
set_option maxRecDepth 100000

/-- A box of four cells at b. -/
def Box4v (w : World) (b : Nat) (u0 u1 u2 u3 : Value) : Prop :=
  b < w.heap.size ∧ w.cell? ⟨b, 0, none⟩ = some u0 ∧ w.cell? ⟨b, 1, none⟩ = some u1 ∧ w.cell? ⟨b, 2, none⟩ = some u2 ∧ w.cell? ⟨b, 3, none⟩ = some u3
theorem Box4v.keep {w w' : World} {b lo hi : Nat} {u0 u1 u2 u3 : Value} (h : Box4v w b u0 u1 u2 u3) (k : Keep lo hi w w') (ho : b < lo ∨ hi ≤ b) : Box4v w' b u0 u1 u2 u3 :=
  ⟨Nat.lt_of_lt_of_le h.1 k.size, (k.cell h.1 ho).trans h.2.1, (k.cell h.1 ho).trans h.2.2.1, (k.cell h.1 ho).trans h.2.2.2.1, (k.cell h.1 ho).trans h.2.2.2.2⟩
theorem Box4v.new (w : World) (u0 u1 u2 u3 : Value) (t : TypeId) : Box4v (w.alloc (.cells #[u0, u1, u2, u3] t)) w.heap.size u0 u1 u2 u3 := by
  refine ⟨by simp, ?_, ?_, ?_, ?_⟩ <;> simp [go_sem]

set_option maxHeartbeats 400000 in
theorem eqPacketResult_true (x y z : Int) (A A' : Option Addr) (n c c' lo hi lo' hi' : Nat) (xs : List Int) (w : World) (h : Rd w lo hi A n xs) (h' : Rd w lo' hi' A' n xs) :
    Calls Tryd.prog 32 #[.agg #[.int .i64 x, .int .i64 y, .int .i64 z, .slice A n c], .agg #[.int .i64 x, .int .i64 y, .int .i64 z, .slice A' n c']] w fun e w' => e = .returned (.bool true) ∧ Keep 0 0 w w' := by
  have k1 := ((Keep.refl 0 0 w).alloc (.cells #[.int .i64 x, .int .i64 y, .int .i64 z, .slice A n c] 32)).alloc (.cells #[.int .i64 x, .int .i64 y, .int .i64 z, .slice A' n c'] 32)
  have r := h.keep k1 (by omega)
  have r' := h'.keep k1 (by omega)
  have K1 := Lib.hid k1
  clear k1
  go_enter Tryd.func32, Tryd.ntmps32
  go_wp2_with fail
  refine (eqByteS_true _ _ n c c' _ _ _ _ xs _ r r').mono ?_
  rintro e w1 ⟨rfl, q, rfl⟩
  have K2 := Lib.hid (K1.out.drewN q)
  go_wp2_with fail
  go_ret
  exact ⟨rfl, K2.out⟩

set_option maxHeartbeats 400000 in
theorem markPacketResult_any (x y z : Int) (A : Option Addr) (n c lo hi : Nat) (K : Int) (xs : List Int) (w : World) (h : Wr w lo hi A n xs) (hK0 : 0 ≤ K) (hK : K + n ≤ 9223372036854775807) :
    Calls Tryd.prog 33 #[.agg #[.int .i64 x, .int .i64 y, .int .i64 z, .slice A n c], .int .i64 K] w fun e w' => e = .returned (.int .i64 (K + (n : Int))) ∧ Wr w' lo hi A n (marks K n) ∧ Keep lo hi w w' := by
  have k1 := (Keep.refl 0 0 w).alloc (.cells #[.int .i64 x, .int .i64 y, .int .i64 z, .slice A n c] 32)
  have r := h.keep k1 (by omega)
  have K1 := Lib.hid (k1.none_ lo hi)
  clear k1
  go_enter Tryd.func33, Tryd.ntmps33
  go_wp2_with fail
  refine (markByteS_any A n c lo hi K xs _ r hK0 hK).mono ?_
  rintro e w1 ⟨rfl, hw1, hk1⟩
  go_wp2_with fail
  go_ret
  exact ⟨rfl, hw1, K1.out.trans hk1⟩

set_option maxHeartbeats 400000 in
theorem heldPacketResult_any (x y z : Int) (A : Option Addr) (n c lo hi : Nat) (K : Int) (w : World) (h : Rd w lo hi A n (marks K n)) (hK0 : 0 ≤ K) (hK : K + n ≤ 9223372036854775807) :
    Calls Tryd.prog 34 #[.agg #[.int .i64 x, .int .i64 y, .int .i64 z, .slice A n c], .int .i64 K] w fun e w' => e = .returned (.int .i64 (K + (n : Int))) ∧ Keep 0 0 w w' := by
  have k1 := (Keep.refl 0 0 w).alloc (.cells #[.int .i64 x, .int .i64 y, .int .i64 z, .slice A n c] 32)
  have r := h.keep k1 (by omega)
  have K1 := Lib.hid k1
  have hnn : ¬ K + (n : Int) < 0 := by omega
  clear k1
  go_enter Tryd.func34, Tryd.ntmps34
  go_wp2_with fail
  refine (heldByteS_any A n c lo hi K _ r hK0 hK).mono ?_
  rintro e w1 ⟨rfl, rfl⟩
  go_wp2_with fail
  go_ret
  exact ⟨rfl, K1.out⟩
end Go.Proofs.YtpnpjngaenlciaaDoor
