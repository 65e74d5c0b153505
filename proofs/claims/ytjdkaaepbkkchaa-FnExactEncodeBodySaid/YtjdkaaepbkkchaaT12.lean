/-
  The model's LogFault.
-/
import Derived.Test.YtjdkaaepbkkchaaT11
namespace Go.Proofs.Ytjdkaaepbkkchaa
open Go.RowKit
set_option linter.unusedVariables false
set_option maxRecDepth 100000

/-- What is wrong with a log. -/
def logCode (bs room : Int) (xs : List Itm) : Int :=
  if ¬ (1 ≤ room ∧ room ≤ 16) ∨ ¬ (0 ≤ bs ∧ bs ≤ 9000) then 3 else if room < (xs.length : Int) then 2 else if itemsCode xs ≠ 0 then itemsCode xs else if 9000 < bs + (xs.length : Int) then 7 else 0

end Go.Proofs.Ytjdkaaepbkkchaa
