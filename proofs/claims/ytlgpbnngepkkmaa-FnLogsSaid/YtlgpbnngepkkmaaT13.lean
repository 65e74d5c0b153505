/-
  The model's l5Item.
-/
import Derived.Test.YtlgpbnngepkkmaaT12
import Derived.Test.YtlgpbnngepkkmaaDraw
namespace Go.Proofs.Ytlgpbnngepkkmaa
open Go.RowKit
set_option linter.unusedVariables false
set_option maxRecDepth 100000

set_option maxHeartbeats 1000000 in
theorem l5Item_any (b o lo hi : Nat) (x : Itm) (w : World) (h : ItAt w lo hi b o x) (hn : x.2.1.length ≤ 16777216) :
    Calls Try.prog 62 #[.pointer (some ⟨b, o, none⟩)] w fun e w' => ∃ g cap, e = .returned (.agg #[.int .i64 x.1, .slice (some ⟨g, 0, none⟩) x.2.1.length cap, .int .i64 x.2.2.1, .int .i64 x.2.2.2]) ∧ Wr w' w.heap.size w'.heap.size (some ⟨g, 0, none⟩) x.2.1.length x.2.1 ∧ Below w.heap.size w w' := by
  obtain ⟨k, xs, p, q⟩ := x
  obtain ⟨m0, ⟨A, c, m1, h, gz⟩, m2, m3⟩ := h
  simp only at m0 m1 m2 m3 h hn ⊢
  have hbw : b < w.heap.size := World.block_lt_of_cell? w _ m0
  have ka := ((Keep.refl 0 0 w).alloc (.cells #[.int .i64 0, .slice none 0 0, .int .i64 0, .int .i64 0] 28)).alloc (.cells #[.int .i64 k, .slice A xs.length c, .int .i64 p, .int .i64 q] 28)
  have h3 := h.keep ka (by omega)
  have HC := Lib.hid (copy_any A xs.length c lo hi xs _ h3 hn gz)
  clear gz
  generalize xs.length = n at *
  go_enter Try.func62, Try.ntmps62
  go_wp2_with fail
  refine HC.out.mono ?_
  rintro e w1 ⟨g, cap, rfl, _, wi, hb⟩
  have hz := hb.size
  have cc : ∀ i j, i < 2 → w1.cell? ⟨w.heap.size + i, j, none⟩ = _ := fun i j hi => hb.cell (p := ⟨w.heap.size + i, j, none⟩) (by simp; omega)
  have ff : ∀ i j, i < 2 → w1.frozen? ⟨w.heap.size + i, j, none⟩ = _ := fun i j hi => hb.frozen (p := ⟨w.heap.size + i, j, none⟩) (by simp; omega)
  have a0 := cc 0 0 (by omega)
  have a1 := cc 0 1 (by omega)
  have a2 := cc 0 2 (by omega)
  have a3 := cc 0 3 (by omega)
  have b0 := cc 1 0 (by omega)
  have b1 := cc 1 1 (by omega)
  have b2 := cc 1 2 (by omega)
  have b3 := cc 1 3 (by omega)
  have d0 := ff 0 0 (by omega)
  have d1 := ff 0 1 (by omega)
  have d2 := ff 0 2 (by omega)
  have d3 := ff 0 3 (by omega)
  have e1 := ff 1 1 (by omega)
  simp [go_sem] at a0 a1 a2 a3 b0 b1 b2 b3 d0 d1 d2 d3 e1
  have bb := (ka.below (B := w.heap.size) (by omega) (Nat.le_refl _)).trans (hb.mono ka.size)
  simp only [World.size_alloc] at hz wi
  clear cc ff
  have HF : Hid (∀ v0 v1 v2 v3 v4, ∃ g' cap', Ending.returned (.agg #[.int .i64 k, .slice (some ⟨g, 0, none⟩) n cap, .int .i64 p, .int .i64 q]) = .returned (.agg #[.int .i64 k, .slice (some ⟨g', 0, none⟩) n cap', .int .i64 p, .int .i64 q]) ∧
      Wr ((((((w1.setCell ⟨w.heap.size + 1, 1, none⟩ v0).setCell ⟨w.heap.size, 0, none⟩ v1).setCell ⟨w.heap.size, 1, none⟩ v2).setCell ⟨w.heap.size, 2, none⟩ v3).setCell ⟨w.heap.size, 3, none⟩ v4)) w.heap.size ((((((w1.setCell ⟨w.heap.size + 1, 1, none⟩ v0).setCell ⟨w.heap.size, 0, none⟩ v1).setCell ⟨w.heap.size, 1, none⟩ v2).setCell ⟨w.heap.size, 2, none⟩ v3).setCell ⟨w.heap.size, 3, none⟩ v4)).heap.size (some ⟨g', 0, none⟩) n xs ∧ Below w.heap.size w ((((((w1.setCell ⟨w.heap.size + 1, 1, none⟩ v0).setCell ⟨w.heap.size, 0, none⟩ v1).setCell ⟨w.heap.size, 1, none⟩ v2).setCell ⟨w.heap.size, 2, none⟩ v3).setCell ⟨w.heap.size, 3, none⟩ v4))) := fun v0 v1 v2 v3 v4 => by
    have kk : Keep w.heap.size (w.heap.size + 2) w1 ((((((w1.setCell ⟨w.heap.size + 1, 1, none⟩ v0).setCell ⟨w.heap.size, 0, none⟩ v1).setCell ⟨w.heap.size, 1, none⟩ v2).setCell ⟨w.heap.size, 2, none⟩ v3).setCell ⟨w.heap.size, 3, none⟩ v4)) :=
      ((((((Keep.refl _ _ w1).setCell (p := ⟨w.heap.size + 1, 1, none⟩) (by constructor <;> (simp only []; omega)) v0).setCell (p := ⟨w.heap.size, 0, none⟩) (by constructor <;> (simp only []; omega)) v1).setCell (p := ⟨w.heap.size, 1, none⟩) (by constructor <;> (simp only []; omega)) v2).setCell (p := ⟨w.heap.size, 2, none⟩) (by constructor <;> (simp only []; omega)) v3).setCell (p := ⟨w.heap.size, 3, none⟩) (by constructor <;> (simp only []; omega)) v4)
    exact ⟨g, cap, rfl, (wi.keep kk (by omega)).wide (by omega) kk.size (Nat.le_refl _), bb.trans (kk.below (by omega) bb.size)⟩
  clear wi hb bb ka h3 h HC m0 m1 m2 m3
  go_wp2_with fail
  exact bodyPost_ret (v := .agg #[.int .i64 k, .slice (some ⟨g, 0, none⟩) n cap, .int .i64 p, .int .i64 q]) (by simp [results, Try.results62, go_sem, a0, a1, a2, a3]) rfl (HF.out _ _ _ _ _)
end Go.Proofs.Ytlgpbnngepkkmaa
