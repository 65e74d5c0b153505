/-
  impl.TakeReplay.
-/
import Derived.Test.YtebdgdmdjgkboaaQ6
import Derived.Laws.Small
namespace Go.Proofs.Ytebdgdmdjgkboaa
open Go.RowKit Go.Maps
set_option linter.unusedVariables false
set_option maxRecDepth 100000

/-- What TakeReplay answers: the code, Top, Seen. -/
def tkTop (t : Int) (xs : List Int) (sq : Int) : Int := if checkCode t xs sq = 0 then max t sq else 0
def tkSeen (t : Int) (xs : List Int) (sq : Int) : List Int := if checkCode t xs sq = 0 then takeL (max t sq) sq xs else []
theorem take_yes {t : Int} {xs : List Int} {sq : Int} (h : checkCode t xs sq = 0) : tkTop t xs sq = max t sq ∧ tkSeen t xs sq = takeL (max t sq) sq xs := ⟨if_pos h, if_pos h⟩
theorem take_no {t : Int} {xs : List Int} {sq : Int} (h : checkCode t xs sq ≠ 0) : tkTop t xs sq = 0 ∧ tkSeen t xs sq = [] := ⟨if_neg h, if_neg h⟩

theorem check_seq {t : Int} {xs : List Int} {sq : Int} (h : checkCode t xs sq = 0) : (-1 ≤ t ∧ t ≤ 9999) ∧ 0 ≤ sq ∧ sq ≤ 9999 := by
  have hf : faultCode t xs = 0 := by
    by_cases e : faultCode t xs = 0
    · exact e
    · rw [check_fault e] at h; exact absurd h e
  have hs : 0 ≤ sq ∧ sq ≤ 9999 := by
    by_cases e : 0 ≤ sq ∧ sq ≤ 9999
    · exact e
    · rw [check_range hf e] at h; omega
  have := fault_topOk hf
  exact ⟨by omega, hs⟩

/-- Three cells of a block are written. -/
theorem three_cells {w : World} {g : Nat} {u v x : Value} (h0 : w.cell? ⟨g, 0, none⟩ = some u) (h1 : w.cell? ⟨g, 1, none⟩ = some v) (h2 : w.cell? ⟨g, 2, none⟩ = some x) (a b c : Value) :
    (((w.setCell ⟨g, 0, none⟩ a).setCell ⟨g, 1, none⟩ b).setCell ⟨g, 2, none⟩ c).cell? ⟨g, 0, none⟩ = some a ∧ (((w.setCell ⟨g, 0, none⟩ a).setCell ⟨g, 1, none⟩ b).setCell ⟨g, 2, none⟩ c).cell? ⟨g, 1, none⟩ = some b ∧ (((w.setCell ⟨g, 0, none⟩ a).setCell ⟨g, 1, none⟩ b).setCell ⟨g, 2, none⟩ c).cell? ⟨g, 2, none⟩ = some c := by
  refine ⟨?_, ?_, ?_⟩
  · rw [World.cell?_setCell_other _ _ _ _ (by simp), World.cell?_setCell_other _ _ _ _ (by simp)]
    exact World.cell?_setCell_same _ _ _ h0
  · rw [World.cell?_setCell_other _ _ _ _ (by simp)]
    exact World.cell?_setCell_same _ _ _ ((World.cell?_setCell_other _ _ _ _ (by simp)).trans h1)
  · exact World.cell?_setCell_same _ _ _ ((World.cell?_setCell_other _ _ _ _ (by simp)).trans ((World.cell?_setCell_other _ _ _ _ (by simp)).trans h2))

set_option maxHeartbeats 1000000 in
theorem implTake_any (t sq : Int) (A : Option Addr) (n c lo hi : Nat) (xs : List Int) (w : World) (h : Ri w lo hi A n xs) (ht : -9223372036854775808 ≤ t ∧ t ≤ 9223372036854775807) (hn : n ≤ 1099511627775) :
    Calls Try.prog 11 #[.agg #[.int .i64 t, .slice A n c], .int .i64 sq] w fun e w' => ∃ G cap, e = .returned (.agg #[.int .i64 (checkCode t xs sq), .int .i64 (tkTop t xs sq), .slice G (tkSeen t xs sq).length cap]) ∧
      Wi w' w.heap.size w'.heap.size G (tkSeen t xs sq).length (tkSeen t xs sq) ∧ Below w.heap.size w w' := by
  have htop := h.top
  have k1 := ((Keep.refl 0 0 w).alloc (.cells #[.int .i64 t, .slice A n c] 26)).alloc (.cells #[.int .i64 0, .int .i64 0, .slice none 0 0] 30)
  have r1 := h.keep k1 (by omega)
  have bw : Below w.heap.size w ((w.alloc (.cells #[.int .i64 t, .slice A n c] 26)).alloc (.cells #[.int .i64 0, .int .i64 0, .slice none 0 0] 30)) := ((Below.refl w.heap.size w).alloc (Nat.le_refl _) _).alloc (by simp) _
  by_cases hc : checkCode t xs sq = 0
  · obtain ⟨htt, hin⟩ := check_seq hc
    rw [(take_yes hc).1, (take_yes hc).2, hc]
    have HE : Hid (∀ ss : List Int, ss.Pairwise (· < ·) → (∀ x, x ∈ ss ↔ x ∈ (sq :: xs).filter fun x => decide (max t sq - 32 < x)) → ss = takeL (max t sq) sq xs) := fun ss h1 h2 => taken_eq hc h1 h2
    generalize takeL (max t sq) sq xs = zs at *
    have hmm : -1 ≤ max t sq ∧ max t sq ≤ 9999 := by omega
    go_enter Try.func11, Try.ntmps11
    go_wp2_with fail
    refine (implCheck_any t sq A n c lo hi xs _ r1 ht).mono ?_
    rintro e w1 ⟨rfl, hb1⟩
    rw [hc]
    have z1 := hb1.size
    simp only [World.size_alloc] at z1
    have c0 := hb1.cell (p := ⟨w.heap.size, 0, none⟩) (by simp; omega)
    have c1 := hb1.cell (p := ⟨w.heap.size, 1, none⟩) (by simp; omega)
    have d0 := hb1.cell (p := ⟨w.heap.size + 1, 0, none⟩) (by simp)
    have d1 := hb1.cell (p := ⟨w.heap.size + 1, 1, none⟩) (by simp)
    have d2 := hb1.cell (p := ⟨w.heap.size + 1, 2, none⟩) (by simp)
    have f0 := hb1.frozen (p := ⟨w.heap.size + 1, 0, none⟩) (by simp)
    have f1 := hb1.frozen (p := ⟨w.heap.size + 1, 1, none⟩) (by simp)
    have f2 := hb1.frozen (p := ⟨w.heap.size + 1, 2, none⟩) (by simp)
    simp [go_sem] at c0 c1 d0 d1 d2 f0 f1 f2
    have r2 := r1.keep (Keep.of_below hb1 0 0) (by omega)
    have B1 := bw.trans (hb1.mono bw.size)
    clear hb1 r1 k1 bw
    go_wp2_with fail
    refine (seenNumbers_any t A n c lo hi xs _ r2).mono ?_
    rintro e w2 ⟨b, rfl, hbl, hset, hb2⟩
    have z2 := hb2.size
    have kA := Keep.of_below hb2 0 0
    obtain ⟨D, hown, hhas⟩ := hset
    have hkey := key64 (x := sq) (by omega)
    go_wp2_with (at_mapUpdate; refine wpList_mapUpdate_in _ rfl _ _ _ 48 rfl 2 4 keyed64 Try.underlying48 trueE b n D rfl hown (by unfold maxLen; omega) _ _ (.int .i64 sq) rfl rfl hkey (.lit (.bool true)) [] trueE_mk ?_; intro w3 hown3 hturn3)
    have hset3 := SetM.of_put hhas hown.isMap hown3
    have k3 := Keep.of_turned hturn3
    have z3 := k3.size
    clear hown hown3 hhas hturn3 hkey
    refine (deleteOld_any b (n + 1) (max t sq) (sq :: xs) w3 hset3 hmm).mono ?_
    rintro e w4 ⟨rfl, hset4, k4⟩
    have z4 := k4.size
    go_wp2_with fail
    refine (mapKeys_any (some b) w4).mono ?_
    rintro e w5 ⟨rfl, rfl⟩
    go_wp2_with fail
    have hset5 := hset4.below ((Below.refl w4.heap.size w4).alloc (Nat.le_refl _) (.cells #[.map (some b)] 48))
    refine (sortedKeys_any b (n + 1) w4.heap.size _ _ hset5 (by omega) (by simp) (by simp [go_sem])).mono ?_
    rintro e w6 ⟨G, cap, ss, rfl, wi, hmem, hstr, hb6⟩
    have k5 : Keep b (b + 1) w2 w6 := ((k3.trans k4).alloc (.cells #[.map (some b)] 48)).trans (Keep.of_below hb6 _ _)
    have z6 := k5.size
    have hcl : ∀ k, k < 3 → w6.cell? ⟨w.heap.size + 1, k, none⟩ = w1.cell? ⟨w.heap.size + 1, k, none⟩ := fun k _ =>
      (k5.cell (p := ⟨w.heap.size + 1, k, none⟩) (by show w.heap.size + 1 < _; omega) (by show w.heap.size + 1 < b ∨ b + 1 ≤ w.heap.size + 1; omega)).trans (kA.cell (p := ⟨w.heap.size + 1, k, none⟩) (by show w.heap.size + 1 < _; omega) (by show w.heap.size + 1 < 0 ∨ 0 ≤ w.heap.size + 1; omega))
    have hfl : ∀ k, k < 3 → w6.frozen? ⟨w.heap.size + 1, k, none⟩ = w1.frozen? ⟨w.heap.size + 1, k, none⟩ := fun k _ =>
      (k5.frozen (p := ⟨w.heap.size + 1, k, none⟩) (by show w.heap.size + 1 < _; omega) (by show w.heap.size + 1 < b ∨ b + 1 ≤ w.heap.size + 1; omega)).trans (kA.frozen (p := ⟨w.heap.size + 1, k, none⟩) (by show w.heap.size + 1 < _; omega) (by show w.heap.size + 1 < 0 ∨ 0 ≤ w.heap.size + 1; omega))
    replace d0 := (hcl 0 (by omega)).trans d0
    replace d1 := (hcl 1 (by omega)).trans d1
    replace d2 := (hcl 2 (by omega)).trans d2
    replace f0 := (hfl 0 (by omega)).trans f0
    replace f1 := (hfl 1 (by omega)).trans f1
    replace f2 := (hfl 2 (by omega)).trans f2
    have B6 := B1.trans ((kA.below (B := w.heap.size) (by omega) (by omega)).trans (k5.below (B := w.heap.size) (by omega) (by omega)))
    obtain rfl := HE.out ss hstr hmem
    clear HE
    simp only [World.size_alloc] at wi
    have HF : Hid (∀ v0 v1 v2, ∃ G' cap', Ending.returned (.agg #[.int .i64 0, .int .i64 (max t sq), .slice G ss.length cap]) = .returned (.agg #[.int .i64 0, .int .i64 (max t sq), .slice G' ss.length cap']) ∧
        Wi (((w6.setCell ⟨w.heap.size + 1, 0, none⟩ v0).setCell ⟨w.heap.size + 1, 1, none⟩ v1).setCell ⟨w.heap.size + 1, 2, none⟩ v2) w.heap.size (((w6.setCell ⟨w.heap.size + 1, 0, none⟩ v0).setCell ⟨w.heap.size + 1, 1, none⟩ v1).setCell ⟨w.heap.size + 1, 2, none⟩ v2).heap.size G' ss.length ss ∧
        Below w.heap.size w (((w6.setCell ⟨w.heap.size + 1, 0, none⟩ v0).setCell ⟨w.heap.size + 1, 1, none⟩ v1).setCell ⟨w.heap.size + 1, 2, none⟩ v2)) := fun v0 v1 v2 => by
      have kk : Keep (w.heap.size + 1) (w.heap.size + 2) w6 (((w6.setCell ⟨w.heap.size + 1, 0, none⟩ v0).setCell ⟨w.heap.size + 1, 1, none⟩ v1).setCell ⟨w.heap.size + 1, 2, none⟩ v2) :=
        (((Keep.refl _ _ w6).setCell (p := ⟨w.heap.size + 1, 0, none⟩) ⟨Nat.le_refl _, by show w.heap.size + 1 < _; omega⟩ v0).setCell (p := ⟨w.heap.size + 1, 1, none⟩) ⟨Nat.le_refl _, by show w.heap.size + 1 < _; omega⟩ v1).setCell (p := ⟨w.heap.size + 1, 2, none⟩) ⟨Nat.le_refl _, by show w.heap.size + 1 < _; omega⟩ v2
      exact ⟨G, cap, rfl, (wi.keep kk (by omega)).wide (by omega) kk.size (Nat.le_refl _), B6.trans (kk.below (by omega) (by omega))⟩
    clear wi B6 B1 k5 k4 k3 kA hset3 hset4 hset5 hb6 hb2 hstr hmem hcl hfl r2 c0 c1
    go_wp2_with fail
    obtain ⟨g0, g1, g2⟩ := three_cells d0 d1 d2 (.int .i64 0) (.int .i64 (max t sq)) (.slice G ss.length cap)
    exact bodyPost_ret (v := .agg #[.int .i64 0, .int .i64 (max t sq), .slice G ss.length cap]) (by simp [results, Try.results11, go_sem, g0, g1, g2]) rfl (HF.out _ _ _)
  · rw [(take_no hc).1, (take_no hc).2]
    have hfb : (checkCode t xs sq != 0) = true := by simp [hc]
    generalize hfc : checkCode t xs sq = fc at *
    go_enter Try.func11, Try.ntmps11
    go_wp2_with fail
    refine (implCheck_any t sq A n c lo hi xs _ r1 ht).mono ?_
    rintro e w1 ⟨rfl, hb1⟩
    rw [hfc]
    clear hfc
    have d0 := hb1.cell (p := ⟨w.heap.size + 1, 0, none⟩) (by simp)
    have d1 := hb1.cell (p := ⟨w.heap.size + 1, 1, none⟩) (by simp)
    have d2 := hb1.cell (p := ⟨w.heap.size + 1, 2, none⟩) (by simp)
    have f0 := hb1.frozen (p := ⟨w.heap.size + 1, 0, none⟩) (by simp)
    have f1 := hb1.frozen (p := ⟨w.heap.size + 1, 1, none⟩) (by simp)
    have f2 := hb1.frozen (p := ⟨w.heap.size + 1, 2, none⟩) (by simp)
    simp [go_sem] at d0 d1 d2 f0 f1 f2
    have B1 := bw.trans (hb1.mono bw.size)
    have HF : Hid (∀ v0 v1 v2, ∃ G cap, Ending.returned (.agg #[.int .i64 fc, .int .i64 0, .slice none 0 0]) = .returned (.agg #[.int .i64 fc, .int .i64 0, .slice G 0 cap]) ∧
        Wi (((w1.setCell ⟨w.heap.size + 1, 0, none⟩ v0).setCell ⟨w.heap.size + 1, 1, none⟩ v1).setCell ⟨w.heap.size + 1, 2, none⟩ v2) w.heap.size (((w1.setCell ⟨w.heap.size + 1, 0, none⟩ v0).setCell ⟨w.heap.size + 1, 1, none⟩ v1).setCell ⟨w.heap.size + 1, 2, none⟩ v2).heap.size G 0 [] ∧
        Below w.heap.size w (((w1.setCell ⟨w.heap.size + 1, 0, none⟩ v0).setCell ⟨w.heap.size + 1, 1, none⟩ v1).setCell ⟨w.heap.size + 1, 2, none⟩ v2)) := fun v0 v1 v2 =>
      ⟨none, 0, rfl, Wi.empty_top _ none, ((B1.setCell (p := ⟨w.heap.size + 1, 0, none⟩) (by simp) v0).setCell (p := ⟨w.heap.size + 1, 1, none⟩) (by simp) v1).setCell (p := ⟨w.heap.size + 1, 2, none⟩) (by simp) v2⟩
    clear hb1 r1 k1 bw B1
    go_wp2_with fail
    obtain ⟨g0, g1, g2⟩ := three_cells d0 d1 d2 (.int .i64 fc) (.int .i64 0) (.slice none 0 0)
    exact bodyPost_ret (v := .agg #[.int .i64 fc, .int .i64 0, .slice none 0 0]) (by simp [results, Try.results11, go_sem, g0, g1, g2]) rfl (HF.out _ _ _)
end Go.Proofs.Ytebdgdmdjgkboaa
