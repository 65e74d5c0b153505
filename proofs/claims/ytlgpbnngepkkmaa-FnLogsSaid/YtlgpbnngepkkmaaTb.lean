/-
  Three cells that may be written; AddItem's answer.
-/
import Derived.Test.YtlgpbnngepkkmaaTa
namespace Go.Proofs.Ytlgpbnngepkkmaa
open Go.RowKit
set_option linter.unusedVariables false
set_option maxRecDepth 100000

/-- Three cells that may be written. -/
def V3 (w : World) (b : Nat) (u0 u1 u2 : Value) : Prop := (w.cell? ⟨b, 0, none⟩ = some u0 ∧ w.cell? ⟨b, 1, none⟩ = some u1 ∧ w.cell? ⟨b, 2, none⟩ = some u2) ∧ w.frozen? ⟨b, 0, none⟩ = false ∧ w.frozen? ⟨b, 1, none⟩ = false ∧ w.frozen? ⟨b, 2, none⟩ = false
theorem V3.below {w w' : World} {B b : Nat} {u0 u1 u2 : Value} (h : V3 w b u0 u1 u2) (hb : Below B w w') (hl : b < B) : V3 w' b u0 u1 u2 :=
  ⟨⟨(hb.cell (p := ⟨b, 0, none⟩) hl).trans h.1.1, (hb.cell (p := ⟨b, 1, none⟩) hl).trans h.1.2.1, (hb.cell (p := ⟨b, 2, none⟩) hl).trans h.1.2.2⟩, (hb.frozen (p := ⟨b, 0, none⟩) hl).trans h.2.1, (hb.frozen (p := ⟨b, 1, none⟩) hl).trans h.2.2.1, (hb.frozen (p := ⟨b, 2, none⟩) hl).trans h.2.2.2⟩
theorem V3.far {W W1 : World} {o : Obj} {v : Value} {b : Nat} {u0 u1 u2 : Value} (h : V3 W b u0 u1 u2) (hg : (W.alloc o).grownBy W1 (Value.ownBlock v)) (hp : b < W.heap.size) (hn : Value.ownBlock v ≠ some b) : V3 W1 b u0 u1 u2 :=
  have f := fun (j : Nat) => far_row' hg (p := ⟨b, j, none⟩) hp hn
  ⟨⟨(f 0).1.trans h.1.1, (f 1).1.trans h.1.2.1, (f 2).1.trans h.1.2.2⟩, (f 0).2.trans h.2.1, (f 1).2.trans h.2.2.1, (f 2).2.trans h.2.2.2⟩
theorem add_done {w W1 : World} {bs : Int} {S B n cap g : Nat} {xs : List Itm} (hO : OwnT W1 B (some ⟨g, 0, none⟩) n cap xs) (hB : Below w.heap.size w W1) (hS : w.heap.size ≤ S) (hSB : S < B) :
    LogPost w 0 bs xs (.returned (.agg #[.int .i64 0, .int .i64 bs, .slice (some ⟨g, 0, none⟩) n cap])) (((W1.setCell ⟨S, 0, none⟩ (.int .i64 0)).setCell ⟨S, 1, none⟩ (.int .i64 bs)).setCell ⟨S, 2, none⟩ (.slice (some ⟨g, 0, none⟩) n cap)) := by
  have kk : Keep S (S + 1) W1 (((W1.setCell ⟨S, 0, none⟩ (.int .i64 0)).setCell ⟨S, 1, none⟩ (.int .i64 bs)).setCell ⟨S, 2, none⟩ (.slice (some ⟨g, 0, none⟩) n cap)) :=
    (((Keep.refl S (S + 1) W1).setCell (p := ⟨S, 0, none⟩) ⟨Nat.le_refl _, Nat.lt_succ_self _⟩ _).setCell (p := ⟨S, 1, none⟩) ⟨Nat.le_refl _, Nat.lt_succ_self _⟩ _).setCell (p := ⟨S, 2, none⟩) ⟨Nat.le_refl _, Nat.lt_succ_self _⟩ _
  exact ⟨_, _, cap, rfl, (hO.wt.keep kk (by omega)).wide (by omega) kk.size (Nat.le_refl _), hB.trans (kk.below (.inl hS) hB.size)⟩
end Go.Proofs.Ytlgpbnngepkkmaa
