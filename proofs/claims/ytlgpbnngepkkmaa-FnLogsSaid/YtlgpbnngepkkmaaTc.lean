/-
  AddItem's answer, with its room.
-/
import Derived.Test.YtlgpbnngepkkmaaTb
namespace Go.Proofs.Ytlgpbnngepkkmaa
open Go.RowKit
set_option linter.unusedVariables false
set_option maxRecDepth 100000

/-- A log's answer, with the room that its row has. -/
def LogPostC (w : World) (tc tb : Int) (tos : List Itm) (e : Ending) (w' : World) : Prop :=
  ∃ G m cap, e = .returned (.agg #[.int .i64 tc, .int .i64 tb, .slice G m cap]) ∧ Wt w' w.heap.size w'.heap.size G m tos ∧ m ≤ cap ∧ Below w.heap.size w w'
theorem LogPostC.less {w w' : World} {tc tb : Int} {tos : List Itm} {e : Ending} (h : LogPostC w tc tb tos e w') : LogPost w tc tb tos e w' := by
  obtain ⟨G, m, cap, he, hw, _, hb⟩ := h
  exact ⟨G, m, cap, he, hw, hb⟩
theorem own_room {w : World} {base n c : Nat} {a : Addr} {xs : List Itm} (h : OwnT w base (some a) n c xs) : n ≤ c := by
  obtain ⟨ys, _, hy⟩ := h
  rcases hy.1.2 with ⟨hv, _⟩ | ⟨_, cap, _, hv, _, _, hnc, hcm, _⟩
  · cases hv
  · injection hv with _ _ e
    omega
theorem add_doneC {w W1 : World} {bs : Int} {S B n cap g : Nat} {xs : List Itm} (hO : OwnT W1 B (some ⟨g, 0, none⟩) n cap xs) (hB : Below w.heap.size w W1) (hS : w.heap.size ≤ S) (hSB : S < B) :
    LogPostC w 0 bs xs (.returned (.agg #[.int .i64 0, .int .i64 bs, .slice (some ⟨g, 0, none⟩) n cap])) (((W1.setCell ⟨S, 0, none⟩ (.int .i64 0)).setCell ⟨S, 1, none⟩ (.int .i64 bs)).setCell ⟨S, 2, none⟩ (.slice (some ⟨g, 0, none⟩) n cap)) := by
  have kk : Keep S (S + 1) W1 (((W1.setCell ⟨S, 0, none⟩ (.int .i64 0)).setCell ⟨S, 1, none⟩ (.int .i64 bs)).setCell ⟨S, 2, none⟩ (.slice (some ⟨g, 0, none⟩) n cap)) :=
    (((Keep.refl S (S + 1) W1).setCell (p := ⟨S, 0, none⟩) ⟨Nat.le_refl _, Nat.lt_succ_self _⟩ _).setCell (p := ⟨S, 1, none⟩) ⟨Nat.le_refl _, Nat.lt_succ_self _⟩ _).setCell (p := ⟨S, 2, none⟩) ⟨Nat.le_refl _, Nat.lt_succ_self _⟩ _
  exact ⟨_, _, cap, rfl, (hO.wt.keep kk (by omega)).wide (by omega) kk.size (Nat.le_refl _), own_room hO, hB.trans (kk.below (.inl hS) hB.size)⟩
/-- AddItem's answer lies in its cells. -/
def AddC (w : World) (S : Nat) (bs : Int) (xs : List Itm) (wx : World) : Prop :=
  ∃ g n cap, (wx.cell? ⟨S, 0, none⟩ = some (.int .i64 0) ∧ wx.cell? ⟨S, 1, none⟩ = some (.int .i64 bs) ∧ wx.cell? ⟨S, 2, none⟩ = some (.slice (some ⟨g, 0, none⟩) n cap)) ∧ LogPostC w 0 bs xs (.returned (.agg #[.int .i64 0, .int .i64 bs, .slice (some ⟨g, 0, none⟩) n cap])) wx
end Go.Proofs.Ytlgpbnngepkkmaa
