/-
  Of the length of items.
-/
import Derived.Test.YtjdkaaepbkkchaaT3
namespace Go.Proofs.Ytjdkaaepbkkchaa
open Go.RowKit
set_option linter.unusedVariables false
set_option maxRecDepth 100000

theorem mem_sumLen {xs : List Itm} {x : Itm} (hx : x ∈ xs) : x.2.1.length ≤ sumLen xs := by
  induction xs with
  | nil => simp at hx
  | cons y ys ih =>
    have e : sumLen (y :: ys) = y.2.1.length + sumLen ys := by simp [sumLen]
    rcases List.mem_cons.1 hx with rfl | hx
    · omega
    · have := ih hx
      omega
end Go.Proofs.Ytjdkaaepbkkchaa
