/-
  The walk of FnExactAtomsOf.
-/
import Derived.Test.YtlgpbnngepkkmaaV3b
import Derived.Test.YtlgpbnngepkkmaaT9
import Derived.Test.YtlgpbnngepkkmaaT10
import Derived.Test.YtlgpbnngepkkmaaL0
namespace Go.Proofs.Ytlgpbnngepkkmaa
open Go.RowKit
set_option linter.unusedVariables false
set_option maxRecDepth 100000

/-- The atoms come in threes. -/
theorem atomsL_three : ∀ xs : List Itm, (atomsL xs).length % 3 = 0
  | [] => rfl
  | x :: xs => by
    have e : atomsL (x :: xs) = sizeA x ++ bytesA x.2.1 ++ atomsL xs := by simp [atomsL, atomA]
    have h1 := atomsL_three xs
    have h2 := bytesA_len x.2.1
    have h3 : (sizeA x).length % 3 = 0 := by unfold sizeA; split <;> simp
    rw [e, List.length_append, List.length_append]
    omega
theorem atomsOut_three (xs : List Itm) : ∃ m, (atomsOut xs).length = m * 3 ∧ m ≤ xs.length + sumLen xs := by
  unfold atomsOut
  split
  · have h1 := atomsL_three xs
    have h2 := atomsL_len xs
    exact ⟨(atomsL xs).length / 3, by omega, by omega⟩
  · exact ⟨0, rfl, Nat.zero_le _⟩
/-- AtomsOf's answer, its parts named. -/
theorem ao_at {f : FuncId} {args : Array Value} {w : World} {c : Int} {m : Nat} {xs : List Itm} {zs : List Int}
    (h : Calls Try.prog f args w fun e w' => ∃ G m cap, e = .returned (.agg #[.int .i64 (atomsCode xs), .slice G m cap]) ∧ Wi w' w.heap.size w'.heap.size G (m * 3) (atomsOut xs) ∧ m ≤ 1048576 ∧ Below w.heap.size w w')
    (hc : atomsCode xs = c) (hz : atomsOut xs = zs) (hm : zs.length = m * 3) :
    Calls Try.prog f args w fun e w' => ∃ G cap, e = .returned (.agg #[.int .i64 c, .slice G m cap]) ∧ Wi w' w.heap.size w'.heap.size G (m * 3) zs ∧ Below w.heap.size w w' := by
  subst hc hz
  refine h.mono ?_
  rintro e w' ⟨G, m', cap, rfl, hw, _, hb⟩
  have hl := hw.1.len
  obtain rfl : m' = m := by omega
  exact ⟨G, cap, rfl, hw, hb⟩


end Go.Proofs.Ytlgpbnngepkkmaa
