/-
  What the laws' own helpers do to a Replay.
-/
import Derived.Test.YtebdgdmdjgkboaaBase64
namespace Go.Proofs.Ytebdgdmdjgkboaa
open Go.RowKit
set_option linter.unusedVariables false
set_option maxRecDepth 100000

set_option maxHeartbeats 400000 in
theorem szInt64S_any (A : Option Addr) (n c : Nat) (left : Int) (w : World) (h0 : 0 ≤ left) (h1 : left ≤ 1099511627776) (hn : n ≤ 9223372036854775807) :
    Calls Try.prog 49 #[.slice A n c, .int .i64 left] w fun e w' => e = .returned (.int .i64 (if left < (n : Int) then -1 else left - n)) ∧ w = w' := by
  by_cases h : left < (n : Int)
  · rw [if_pos h]
    have j1 : left - (n : Int) < 0 := by omega
    go_enter Try.func49, Try.ntmps49
    go_wp2_with fail
    go_ret
    exact ⟨rfl, rfl⟩
  · rw [if_neg h]
    have j1 : ¬ left - (n : Int) < 0 := by omega
    go_enter Try.func49, Try.ntmps49
    go_wp2_with fail
    go_ret
    exact ⟨rfl, rfl⟩

set_option maxHeartbeats 400000 in
theorem toReplay_any (top : Int) (A : Option Addr) (n c lo hi : Nat) (xs : List Int) (w : World) (h : Ri w lo hi A n xs) (hn : n ≤ 35184372088832) :
    Calls Try.prog 24 #[.agg #[.int .i64 top, .slice A n c]] w fun e w' => ∃ g, e = .returned (.agg #[.int .i64 top, .slice (some ⟨g, 0, none⟩) n n]) ∧ Wi w' w.heap.size w'.heap.size (some ⟨g, 0, none⟩) n xs ∧ Below w.heap.size w w' := by
  have ka := (((Keep.refl 0 0 w).alloc (.cells #[.int .i64 top, .slice A n c] 38)).alloc (.cells #[.int .i64 0, .slice none 0 0] 26)).alloc (.cells #[.int .i64 top, .slice none 0 0] 26)
  have h3 := h.keep ka (by omega)
  go_enter Try.func24, Try.ntmps24
  go_wp2_with fail
  refine (toInt64S_any A n c lo hi xs _ h3 hn).mono ?_
  rintro e w1 ⟨g, rfl, wi, hb⟩
  have hz := hb.size
  have c10 := hb.cell (p := ⟨w.heap.size + 1, 0, none⟩) (by simp)
  have c11 := hb.cell (p := ⟨w.heap.size + 1, 1, none⟩) (by simp)
  have c20 := hb.cell (p := ⟨w.heap.size + 1 + 1, 0, none⟩) (by simp)
  have c21 := hb.cell (p := ⟨w.heap.size + 1 + 1, 1, none⟩) (by simp)
  have f10 := hb.frozen (p := ⟨w.heap.size + 1, 0, none⟩) (by simp)
  have f11 := hb.frozen (p := ⟨w.heap.size + 1, 1, none⟩) (by simp)
  have f20 := hb.frozen (p := ⟨w.heap.size + 1 + 1, 0, none⟩) (by simp)
  have f21 := hb.frozen (p := ⟨w.heap.size + 1 + 1, 1, none⟩) (by simp)
  simp [go_sem] at c10 c11 c20 c21 f10 f11 f20 f21
  have bb := (ka.below (B := w.heap.size) (by omega) (Nat.le_refl _)).trans (hb.mono ka.size)
  simp only [World.size_alloc] at hz wi
  have HF : Hid (∀ v1 v2 v3, ∃ g', Ending.returned (.agg #[.int .i64 top, .slice (some ⟨g, 0, none⟩) n n]) = .returned (.agg #[.int .i64 top, .slice (some ⟨g', 0, none⟩) n n]) ∧
      Wi (((w1.setCell ⟨w.heap.size + 1 + 1, 1, none⟩ v1).setCell ⟨w.heap.size + 1, 0, none⟩ v2).setCell ⟨w.heap.size + 1, 1, none⟩ v3) w.heap.size (((w1.setCell ⟨w.heap.size + 1 + 1, 1, none⟩ v1).setCell ⟨w.heap.size + 1, 0, none⟩ v2).setCell ⟨w.heap.size + 1, 1, none⟩ v3).heap.size (some ⟨g', 0, none⟩) n xs ∧
      Below w.heap.size w (((w1.setCell ⟨w.heap.size + 1 + 1, 1, none⟩ v1).setCell ⟨w.heap.size + 1, 0, none⟩ v2).setCell ⟨w.heap.size + 1, 1, none⟩ v3)) := fun v1 v2 v3 => by
    have k : Keep w.heap.size (w.heap.size + 1 + 1 + 1) w1 (((w1.setCell ⟨w.heap.size + 1 + 1, 1, none⟩ v1).setCell ⟨w.heap.size + 1, 0, none⟩ v2).setCell ⟨w.heap.size + 1, 1, none⟩ v3) :=
      (((Keep.refl _ _ w1).setCell (p := ⟨w.heap.size + 1 + 1, 1, none⟩) ⟨by show w.heap.size ≤ w.heap.size + 1 + 1; omega, by show w.heap.size + 1 + 1 < _; omega⟩ v1).setCell (p := ⟨w.heap.size + 1, 0, none⟩) ⟨by show w.heap.size ≤ w.heap.size + 1; omega, by show w.heap.size + 1 < _; omega⟩ v2).setCell (p := ⟨w.heap.size + 1, 1, none⟩) ⟨by show w.heap.size ≤ w.heap.size + 1; omega, by show w.heap.size + 1 < _; omega⟩ v3
    exact ⟨g, rfl, (wi.keep k (by omega)).wide (by omega) k.size (Nat.le_refl _), bb.trans (k.below (by omega) bb.size)⟩
  clear wi hb bb ka h3 h
  go_wp2_with fail
  exact bodyPost_ret (v := .agg #[.int .i64 top, .slice (some ⟨g, 0, none⟩) n n]) (by simp [results, Try.results24, go_sem, c10, c11]) rfl (HF.out _ _ _)
end Go.Proofs.Ytebdgdmdjgkboaa
