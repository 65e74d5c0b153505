/-
  lwBig, lwBytes; the field of a struct value.
-/
import Derived.Test.YtpnpjngaenlciaaDoorLwS
namespace Go.Proofs.YtpnpjngaenlciaaDoor
open Go.RowKit
set_option linter.unusedVariables false
set_option maxRecDepth 100000

set_option maxHeartbeats 400000 in
theorem lwBig_any (A : Option Addr) (n c : Nat) (w : World) (r : Bool) (hr : decide (1048576 < n) = r) :
    Calls Tryd.prog 8 #[.slice A n c] w fun e w' => e = .returned (.bool r) ∧ w = w' := by
  subst hr
  go_enter Tryd.func8, Tryd.ntmps8
  go_wp2_with fail
  go_ret
  exact ⟨ret_bool (by simp; omega), rfl⟩

set_option maxHeartbeats 400000 in
theorem lwBytes_true (x : Int) (A A' : Option Addr) (n c c' lo hi lo' hi' : Nat) (xs : List Int) (w : World) (h : Rd w lo hi A n xs) (h' : Rd w lo' hi' A' n xs) :
    Calls Tryd.prog 20 #[.agg #[.int .i64 x, .slice A n c], .agg #[.int .i64 x, .slice A' n c']] w fun e w' => e = .returned (.bool true) ∧ Below w.heap.size w w' := by
  have k1 := ((Keep.refl 0 0 w).alloc (.cells #[.int .i64 x, .slice A n c] 27)).alloc (.cells #[.int .i64 x, .slice A' n c'] 27)
  have r := h.keep k1 (by omega)
  have r' := h'.keep k1 (by omega)
  have hb : Below w.heap.size w ((w.alloc (.cells #[.int .i64 x, .slice A n c] 27)).alloc (.cells #[.int .i64 x, .slice A' n c'] 27)) := ((Below.refl _ w).alloc (Nat.le_refl _) _).alloc (by simp) _
  have HB := Lib.hid hb
  clear k1 hb
  go_enter Tryd.func20, Tryd.ntmps20
  go_wp2_with fail
  refine (lwSame_any _ _ n c n c' _ _ _ _ xs xs _ r r').mono ?_
  rintro e w1 ⟨rfl, rfl⟩
  go_wp2_with fail
  go_ret
  exact ⟨ret_bool (by simp), HB.out⟩

theorem field_bytes (x : Int) (G : Option Addr) (n c : Nat) : ∀ w : World, (Instr.field 27 (.agg #[.int .i64 x, .slice G n c]) 1).run Tryd.prog w = .ok (.slice G n c) w := fun _ => by kernel_rfl
end Go.Proofs.YtpnpjngaenlciaaDoor
