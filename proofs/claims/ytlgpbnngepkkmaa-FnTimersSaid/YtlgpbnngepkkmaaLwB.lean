/-
  lwBig, lwBytes; the field of a struct value.
-/
import Derived.Test.YtlgpbnngepkkmaaLwS
namespace Go.Proofs.Ytlgpbnngepkkmaa
open Go.RowKit
set_option linter.unusedVariables false
set_option maxRecDepth 100000

set_option maxHeartbeats 400000 in
theorem lwBig_any (A : Option Addr) (n c : Nat) (w : World) (r : Bool) (hr : decide (1048576 < n) = r) :
    Calls Try.prog 10 #[.slice A n c] w fun e w' => e = .returned (.bool r) ∧ w = w' := by
  subst hr
  go_enter Try.func10, Try.ntmps10
  go_wp2_with fail
  go_ret
  exact ⟨ret_bool (by simp; omega), rfl⟩


end Go.Proofs.Ytlgpbnngepkkmaa
