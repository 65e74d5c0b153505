/-
  impl.outside of two bounds.
-/
import Derived.Test.YtjdkaaepbkkchaaDoorOut
namespace Go.Proofs.YtjdkaaepbkkchaaDoor
open Go.RowKit
set_option linter.unusedVariables false
set_option maxRecDepth 100000

theorem outside2 (b c : Nat) (v f l v' f' l' : Int) (r : Bool) (w : World) (hb : b < w.heap.size) (h0 : w.cell? ⟨b, 0, none⟩ = some (.int .i64 v)) (h1 : w.cell? ⟨b, 1, none⟩ = some (.int .i64 f)) (h2 : w.cell? ⟨b, 2, none⟩ = some (.int .i64 l))
    (h3 : w.cell? ⟨b, 3, none⟩ = some (.int .i64 v')) (h4 : w.cell? ⟨b, 4, none⟩ = some (.int .i64 f')) (h5 : w.cell? ⟨b, 5, none⟩ = some (.int .i64 l')) (hr : decide ((v < f ∨ l < v) ∨ (v' < f' ∨ l' < v')) = r) :
    Calls Tryd.prog 56 #[.slice (some ⟨b, 0, none⟩) 2 c] w fun e w' => e = .returned (.bool r) ∧ Below w.heap.size w w' := by
  subst hr
  have hB : Bounds w b 2 fun j => if j = 0 then (v, f, l) else (v', f', l') := by
    intro j hj
    rcases (show j = 0 ∨ j = 1 by omega) with rfl | rfl
    · exact ⟨h0, h1, h2⟩
    · exact ⟨h3, h4, h5⟩
  by_cases e1 : v < f ∨ l < v
  · rw [decide_eq_true (Or.inl e1)]
    exact outside_yes b 2 c 0 _ w hb (by omega) hB (by omega) (fun j hj => by omega) (by simpa using e1)
  · by_cases e2 : v' < f' ∨ l' < v'
    · rw [decide_eq_true (Or.inr e2)]
      exact outside_yes b 2 c 1 _ w hb (by omega) hB (by omega) (fun j hj => by
        obtain rfl : j = 0 := (by omega)
        simp
        omega) (by simpa using e2)
    · rw [decide_eq_false (by omega)]
      exact outside_no b 2 c _ w hb (by omega) hB (fun j hj => by
        rcases (show j = 0 ∨ j = 1 by omega) with rfl | rfl
        · simp; omega
        · simp; omega)
end Go.Proofs.YtjdkaaepbkkchaaDoor
