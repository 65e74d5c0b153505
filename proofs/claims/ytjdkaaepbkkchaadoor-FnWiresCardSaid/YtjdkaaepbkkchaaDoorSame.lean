/-
  Comparing bytes as strings: spec.SameBytes, bytes.Equal, impl.SameBytes.
-/
import Derived.Test.YtjdkaaepbkkchaaDoorLwS
namespace Go.Proofs.YtjdkaaepbkkchaaDoor
open Go.RowKit
set_option linter.unusedVariables false
set_option maxRecDepth 100000



set_option maxHeartbeats 400000 in
theorem implSame_core (A A' : Option Addr) (n c m c' : Nat) (s t : ByteArray) (w : World) (h : (convert 22 9 (.slice A n c)).run Tryd.prog w = .ok (.string s) w) (h' : (convert 22 9 (.slice A' m c')).run Tryd.prog w = .ok (.string t) w) :
    Calls Tryd.prog 71 #[.slice A n c, .slice A' m c'] w fun e w' => e = .returned (.bool (s.toList == t.toList)) ∧ w = w' := by
  go_enter Tryd.func71, Tryd.ntmps71
  go_wp2
  go_ret
  exact ⟨rfl, rfl⟩

theorem implSame_any (A A' : Option Addr) (n c m c' lo hi lo' hi' : Nat) (xs ys : List Int) (w : World) (h : Rd w lo hi A n xs) (h' : Rd w lo' hi' A' m ys) :
    Calls Tryd.prog 71 #[.slice A n c, .slice A' m c'] w fun e w' => e = .returned (.bool (decide (xs = ys))) ∧ w = w' :=
  (implSame_core A A' n c m c' _ _ w (h.string c) (h'.string c')).mono fun _ _ ⟨he, hw⟩ => ⟨he.trans (ret_bool (str_beq h.byte h'.byte)), hw⟩
end Go.Proofs.YtjdkaaepbkkchaaDoor
