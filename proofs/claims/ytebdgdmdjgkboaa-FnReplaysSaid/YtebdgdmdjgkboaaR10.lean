/-
  The model's TakeReplay; the walk of FnExactTakeReplay.
-/
import Derived.Test.YtebdgdmdjgkboaaR8
import Derived.Test.YtebdgdmdjgkboaaR9
import Derived.Test.YtebdgdmdjgkboaaQ7
import Derived.Deep.RegionHeld3
import Derived.Deep.CutRange
namespace Go.Proofs.Ytebdgdmdjgkboaa
open Go.RowKit
set_option linter.unusedVariables false
set_option maxRecDepth 100000

set_option maxHeartbeats 1000000 in
theorem specTake_own (t sq : Int) (A : Option Addr) (n c hi : Nat) (xs : List Int) (w : World) (h : Ri w 0 hi A n xs) (ht : -9223372036854775808 ≤ t ∧ t ≤ 9223372036854775807) (hn : n ≤ 1048576) :
    Calls Try.prog 15 #[.agg #[.int .i64 t, .slice A n c], .int .i64 sq] w fun e w' => ∃ G cap, e = .returned (.agg #[.int .i64 (checkCode t xs sq), .int .i64 (tkTop t xs sq), .slice G (tkSeen t xs sq).length cap]) ∧
      OwnI w' w.heap.size G (tkSeen t xs sq).length cap (tkSeen t xs sq) ∧ Below w.heap.size w w' := by
  have htop := h.top
  have k1 := ((Keep.refl 0 0 w).alloc (.cells #[.int .i64 t, .slice A n c] 26)).alloc (.cells #[.int .i64 0, .int .i64 0, .slice none 0 0] 30)
  have r1 := h.keep k1 (by omega)
  have bw : Below w.heap.size w ((w.alloc (.cells #[.int .i64 t, .slice A n c] 26)).alloc (.cells #[.int .i64 0, .int .i64 0, .slice none 0 0] 30)) := ((Below.refl w.heap.size w).alloc (Nat.le_refl _) _).alloc (by simp) _
  by_cases hc : checkCode t xs sq = 0
  · obtain ⟨htt, hin⟩ := check_seq hc
    rw [(take_yes hc).1, (take_yes hc).2, hc]
    have HL := Lib.hid (fun b hi' w' hb c0 c1 hr => l4Take_any b t sq A n c hi' xs w' hb c0 c1 hr hn htt hin)
    generalize takeL (max t sq) sq xs = zs at *
    generalize max t sq = m at *
    go_enter Try.func15, Try.ntmps15
    go_wp2_with fail
    refine (specCheck_any t sq A n c 0 hi xs _ r1 ht).mono ?_
    rintro e w1 ⟨rfl, hk1⟩
    rw [hc]
    have z1 := hk1.size
    simp only [World.size_alloc] at z1
    have cc : ∀ k j, k < 2 → w1.cell? ⟨w.heap.size + k, j, none⟩ = _ := fun k j hk => hk1.cell (p := ⟨w.heap.size + k, j, none⟩) (by simp; omega) (by show w.heap.size + k < 0 ∨ 0 ≤ w.heap.size + k; omega)
    have ff : ∀ j, w1.frozen? ⟨w.heap.size + 1, j, none⟩ = _ := fun j => hk1.frozen (p := ⟨w.heap.size + 1, j, none⟩) (by simp) (by show w.heap.size + 1 < 0 ∨ 0 ≤ w.heap.size + 1; omega)
    have c0 := cc 0 0 (by omega)
    have c1 := cc 0 1 (by omega)
    have d0 := cc 1 0 (by omega)
    have d1 := cc 1 1 (by omega)
    have d2 := cc 1 2 (by omega)
    have f0 := ff 0
    have f1 := ff 1
    have f2 := ff 2
    simp [go_sem] at c0 c1 d0 d1 d2 f0 f1 f2
    have r2 := r1.keep hk1 (by omega)
    have B1 := bw.trans (hk1.below (by omega) bw.size)
    clear hk1 r1 k1 bw cc ff
    go_wp2_with fail
    refine (HL.out w.heap.size hi w1 (by omega) c0 c1 r2).mono ?_
    rintro e w6 ⟨G, cap, rfl, wi, hb6⟩
    replace d0 := (hb6.cell (p := ⟨w.heap.size + 1, 0, none⟩) (by show w.heap.size + 1 < _; omega)).trans d0
    replace d1 := (hb6.cell (p := ⟨w.heap.size + 1, 1, none⟩) (by show w.heap.size + 1 < _; omega)).trans d1
    replace d2 := (hb6.cell (p := ⟨w.heap.size + 1, 2, none⟩) (by show w.heap.size + 1 < _; omega)).trans d2
    replace f0 := (hb6.frozen (p := ⟨w.heap.size + 1, 0, none⟩) (by show w.heap.size + 1 < _; omega)).trans f0
    replace f1 := (hb6.frozen (p := ⟨w.heap.size + 1, 1, none⟩) (by show w.heap.size + 1 < _; omega)).trans f1
    replace f2 := (hb6.frozen (p := ⟨w.heap.size + 1, 2, none⟩) (by show w.heap.size + 1 < _; omega)).trans f2
    have z6 := hb6.size
    have B6 := B1.trans (hb6.mono (by omega))
    have HF : Hid (∀ v0 v1 v2, ∃ G' cap', Ending.returned (.agg #[.int .i64 0, .int .i64 m, .slice G zs.length cap]) = .returned (.agg #[.int .i64 0, .int .i64 m, .slice G' zs.length cap']) ∧
        OwnI (((w6.setCell ⟨w.heap.size + 1, 0, none⟩ v0).setCell ⟨w.heap.size + 1, 1, none⟩ v1).setCell ⟨w.heap.size + 1, 2, none⟩ v2) w.heap.size G' zs.length cap' zs ∧
        Below w.heap.size w (((w6.setCell ⟨w.heap.size + 1, 0, none⟩ v0).setCell ⟨w.heap.size + 1, 1, none⟩ v1).setCell ⟨w.heap.size + 1, 2, none⟩ v2)) := fun v0 v1 v2 => by
      have kk : Keep (w.heap.size + 1) (w.heap.size + 2) w6 (((w6.setCell ⟨w.heap.size + 1, 0, none⟩ v0).setCell ⟨w.heap.size + 1, 1, none⟩ v1).setCell ⟨w.heap.size + 1, 2, none⟩ v2) :=
        (((Keep.refl _ _ w6).setCell (p := ⟨w.heap.size + 1, 0, none⟩) ⟨Nat.le_refl _, by show w.heap.size + 1 < _; omega⟩ v0).setCell (p := ⟨w.heap.size + 1, 1, none⟩) ⟨Nat.le_refl _, by show w.heap.size + 1 < _; omega⟩ v1).setCell (p := ⟨w.heap.size + 1, 2, none⟩) ⟨Nat.le_refl _, by show w.heap.size + 1 < _; omega⟩ v2
      exact ⟨G, cap, rfl, (wi.keep kk (by omega)).down (by omega), B6.trans (kk.below (by omega) (by omega))⟩
    clear wi B6 B1 hb6 r2 c0 c1
    go_wp2_with fail
    obtain ⟨g0, g1, g2⟩ := three_cells d0 d1 d2 (.int .i64 0) (.int .i64 m) (.slice G zs.length cap)
    exact bodyPost_ret (v := .agg #[.int .i64 0, .int .i64 m, .slice G zs.length cap]) (by simp [results, Try.results15, go_sem, g0, g1, g2]) rfl (HF.out _ _ _)
  · rw [(take_no hc).1, (take_no hc).2]
    have hfb : (checkCode t xs sq != 0) = true := by simp [hc]
    generalize hfc : checkCode t xs sq = fc at *
    go_enter Try.func15, Try.ntmps15
    go_wp2_with fail
    refine (specCheck_any t sq A n c 0 hi xs _ r1 ht).mono ?_
    rintro e w1 ⟨rfl, hk1⟩
    rw [hfc]
    clear hfc
    have dd : ∀ j, w1.cell? ⟨w.heap.size + 1, j, none⟩ = _ := fun j => hk1.cell (p := ⟨w.heap.size + 1, j, none⟩) (by simp) (by show w.heap.size + 1 < 0 ∨ 0 ≤ w.heap.size + 1; omega)
    have ff : ∀ j, w1.frozen? ⟨w.heap.size + 1, j, none⟩ = _ := fun j => hk1.frozen (p := ⟨w.heap.size + 1, j, none⟩) (by simp) (by show w.heap.size + 1 < 0 ∨ 0 ≤ w.heap.size + 1; omega)
    have d0 := dd 0
    have d1 := dd 1
    have d2 := dd 2
    have f0 := ff 0
    have f1 := ff 1
    have f2 := ff 2
    simp [go_sem] at d0 d1 d2 f0 f1 f2
    have B1 := bw.trans (hk1.below (by omega) bw.size)
    have HF : Hid (∀ v0 v1 v2, ∃ G cap, Ending.returned (.agg #[.int .i64 fc, .int .i64 0, .slice none 0 0]) = .returned (.agg #[.int .i64 fc, .int .i64 0, .slice G 0 cap]) ∧
        OwnI (((w1.setCell ⟨w.heap.size + 1, 0, none⟩ v0).setCell ⟨w.heap.size + 1, 1, none⟩ v1).setCell ⟨w.heap.size + 1, 2, none⟩ v2) w.heap.size G 0 cap [] ∧
        Below w.heap.size w (((w1.setCell ⟨w.heap.size + 1, 0, none⟩ v0).setCell ⟨w.heap.size + 1, 1, none⟩ v1).setCell ⟨w.heap.size + 1, 2, none⟩ v2)) := fun v0 v1 v2 =>
      ⟨none, 0, rfl, OwnI.nil _ _, ((B1.setCell (p := ⟨w.heap.size + 1, 0, none⟩) (by simp) v0).setCell (p := ⟨w.heap.size + 1, 1, none⟩) (by simp) v1).setCell (p := ⟨w.heap.size + 1, 2, none⟩) (by simp) v2⟩
    clear hk1 r1 k1 bw B1 dd ff
    go_wp2_with fail
    obtain ⟨g0, g1, g2⟩ := three_cells d0 d1 d2 (.int .i64 fc) (.int .i64 0) (.slice none 0 0)
    exact bodyPost_ret (v := .agg #[.int .i64 fc, .int .i64 0, .slice none 0 0]) (by simp [results, Try.results15, go_sem, g0, g1, g2]) rfl (HF.out _ _ _)
theorem specTake_any (t sq : Int) (A : Option Addr) (n c hi : Nat) (xs : List Int) (w : World) (h : Ri w 0 hi A n xs) (ht : -9223372036854775808 ≤ t ∧ t ≤ 9223372036854775807) (hn : n ≤ 1048576) :
    Calls Try.prog 15 #[.agg #[.int .i64 t, .slice A n c], .int .i64 sq] w fun e w' => ∃ G cap, e = .returned (.agg #[.int .i64 (checkCode t xs sq), .int .i64 (tkTop t xs sq), .slice G (tkSeen t xs sq).length cap]) ∧
      Wi w' w.heap.size w'.heap.size G (tkSeen t xs sq).length (tkSeen t xs sq) ∧ Below w.heap.size w w' :=
  (specTake_own t sq A n c hi xs w h ht hn).mono fun _ _ ⟨G, cap, e, ho, hb⟩ => ⟨G, cap, e, ho.wi, hb⟩

/-- TakeReplay's answer, its parts named. -/
theorem tk_at {f : FuncId} {args : Array Value} {w : World} {t sq c m : Int} {xs zs : List Int}
    (h : Calls Try.prog f args w fun e w' => ∃ G cap, e = .returned (.agg #[.int .i64 (checkCode t xs sq), .int .i64 (tkTop t xs sq), .slice G (tkSeen t xs sq).length cap]) ∧ Wi w' w.heap.size w'.heap.size G (tkSeen t xs sq).length (tkSeen t xs sq) ∧ Below w.heap.size w w')
    (hc : checkCode t xs sq = c) (hm : tkTop t xs sq = m) (hz : tkSeen t xs sq = zs) :
    Calls Try.prog f args w fun e w' => ∃ G cap, e = .returned (.agg #[.int .i64 c, .int .i64 m, .slice G zs.length cap]) ∧ Wi w' w.heap.size w'.heap.size G zs.length zs ∧ Below w.heap.size w w' := by
  subst hc hm hz
  exact h
theorem tkSeen_len (t : Int) (xs : List Int) (sq : Int) : (tkSeen t xs sq).length ≤ 2 * xs.length + 1 := by
  unfold tkSeen
  split
  · unfold takeL
    have := takeSt_len (max t sq) sq xs
    rw [List.length_append]
    split <;> simp <;> omega
  · simp

set_option maxHeartbeats 2000000 in
theorem exactTakeReplay (t sq : Int) (A : Option Addr) (n c : Nat) (xs : List Int) (w : World) (h : Ri w 0 w.heap.size A n xs) (ht : -9223372036854775808 ≤ t ∧ t ≤ 9223372036854775807) :
    Calls Try.prog 7 #[.agg #[.int .i64 t, .slice A n c], .int .i64 sq] w fun e w' => e = .returned (.bool true) ∧ Below w.heap.size w w' := by
  have hint := h.int
  have hlx := h.len
  have HS := Lib.hid (fun w' => szReplay_any t A n c 1048576 w' (by omega) (by omega) hint)
  by_cases hn : 1048576 < n
  · have hb : (1048576 : Int) < (n : Int) := by omega
    rw [if_pos hb] at HS
    go_enter Try.func7, Try.ntmps7
    go_wp2_with fail
    refine (HS.out _).mono ?_
    rintro e w1 ⟨rfl, k1⟩
    have bb := (((Keep.refl 0 0 w).alloc (.cells #[.int .i64 t, .slice A n c] 38)).trans k1).below (B := w.heap.size) (by omega) (Nat.le_refl _)
    go_wp2_with fail
    go_ret
    exact ⟨rfl, bb⟩
  have hb : ¬ (1048576 : Int) < (n : Int) := by omega
  rw [if_neg hb] at HS
  have j1 : ¬ (1048576 : Int) - (n : Int) < 0 := by omega
  obtain ⟨cc, hcc⟩ : ∃ cc, checkCode t xs sq = cc := ⟨_, rfl⟩
  obtain ⟨mm, hmm⟩ : ∃ mm, tkTop t xs sq = mm := ⟨_, rfl⟩
  obtain ⟨zs, hzs⟩ : ∃ zs, tkSeen t xs sq = zs := ⟨_, rfl⟩
  have hl3 : zs.length ≤ 2097153 := by have := tkSeen_len t xs sq; rw [hzs] at this; omega
  have HC := Lib.hid hcc
  have HM := Lib.hid hmm
  have HZ := Lib.hid hzs
  clear hcc hmm hzs hlx
  go_enter Try.func7, Try.ntmps7
  have bb := Below.refl w.heap.size w
  go_wp2_with fail
  have hk1 := (Keep.refl 0 0 w).alloc (.cells #[.int .i64 t, .slice A n c] 38)
  have ba := Box2.new w (.int .i64 t) (.slice A n c) 38
  have hz1 : w.heap.size + 1 ≤ (w.alloc (.cells #[.int .i64 t, .slice A n c] 38)).heap.size := by simp
  replace h := h.keep hk1 (by omega)
  replace bb := bb.trans (hk1.below (by omega) bb.size)
  clear hk1
  generalize w.alloc (.cells #[.int .i64 t, .slice A n c] 38) = w1 at *
  refine (HS.out w1).mono ?_
  rintro e w2 ⟨rfl, hk2⟩
  have hz2 := hk2.size
  replace h := h.keep hk2 (by omega)
  replace ba := ba.keep hk2 (by omega)
  replace bb := bb.trans (hk2.below (by omega) bb.size)
  clear hk2
  have bac0 := ba.2.1
  have bac1 := ba.2.2
  go_wp2_with fail
  clear bac0 bac1
  refine (toReplay_any t A n c _ _ xs w2 h (by omega)).mono ?_
  rintro e w3 ⟨g1, rfl, u1, hb3⟩
  have hk3 := Keep.of_below hb3 0 0
  have hz3 := hb3.size
  replace h := h.keep hk3 (by omega)
  replace ba := ba.keep hk3 (by omega)
  replace bb := bb.trans (hk3.below (by omega) bb.size)
  clear hb3 hk3
  go_wp2_with fail
  refine (tk_at (specTake_any t sq _ n n _ xs w3 (u1.1.wide (Nat.zero_le _) (Nat.le_refl _) (Nat.le_refl _)) ht (by omega)) HC.out HM.out HZ.out).mono ?_
  rintro e w4 ⟨G0, cap0, rfl, z0, hb4⟩
  have hk4 := Keep.of_below hb4 0 0
  have hz4 := hb4.size
  replace h := h.keep hk4 (by omega)
  replace ba := ba.keep hk4 (by omega)
  replace u1 := u1.keep hk4 (by omega)
  replace bb := bb.trans (hk4.below (by omega) bb.size)
  clear hb4 hk4
  clear u1
  have balt := ba.1
  have bac0 := ba.2.1
  have bac1 := ba.2.2
  go_wp2_with fail
  clear balt bac0 bac1
  have hk5 := (Keep.refl 0 0 w4).alloc (.cells #[.int .i64 cc, .int .i64 mm, .slice G0 zs.length cap0] 30)
  have bx0 := Box3.new w4 (.int .i64 cc) (.int .i64 mm) (.slice G0 zs.length cap0) 30
  have hz5 : w4.heap.size + 1 ≤ (w4.alloc (.cells #[.int .i64 cc, .int .i64 mm, .slice G0 zs.length cap0] 30)).heap.size := by simp
  replace h := h.keep hk5 (by omega)
  replace ba := ba.keep hk5 (by omega)
  replace z0 := z0.keep hk5 (by omega)
  replace bb := bb.trans (hk5.below (by omega) bb.size)
  clear hk5
  generalize w4.alloc (.cells #[.int .i64 cc, .int .i64 mm, .slice G0 zs.length cap0] 30) = w5 at *
  refine (toReplay_any t A n c _ _ xs w5 h (by omega)).mono ?_
  rintro e w6 ⟨g2, rfl, u2, hb6⟩
  have hk6 := Keep.of_below hb6 0 0
  have hz6 := hb6.size
  replace h := h.keep hk6 (by omega)
  replace ba := ba.keep hk6 (by omega)
  replace z0 := z0.keep hk6 (by omega)
  replace bx0 := bx0.keep hk6 (by omega)
  replace bb := bb.trans (hk6.below (by omega) bb.size)
  clear hb6 hk6
  go_wp2_with fail
  have hk7 := (Keep.refl 0 0 w6).alloc (.cells #[.int .i64 t, .slice (some ⟨g2, 0, none⟩) n n] 26)
  have bx := Box2.new w6 (.int .i64 t) (.slice (some ⟨g2, 0, none⟩) n n) 26
  have hz7 : w6.heap.size + 1 ≤ (w6.alloc (.cells #[.int .i64 t, .slice (some ⟨g2, 0, none⟩) n n] 26)).heap.size := by simp
  replace h := h.keep hk7 (by omega)
  replace ba := ba.keep hk7 (by omega)
  replace z0 := z0.keep hk7 (by omega)
  replace bx0 := bx0.keep hk7 (by omega)
  replace u2 := u2.keep hk7 (by omega)
  replace bb := bb.trans (hk7.below (by omega) bb.size)
  clear hk7
  generalize w6.alloc (.cells #[.int .i64 t, .slice (some ⟨g2, 0, none⟩) n n] 26) = w7 at *
  refine (tk_at (implTake_any t sq _ n n _ _ xs w7 u2.1 ht (by omega)) HC.out HM.out HZ.out).mono ?_
  rintro e w8 ⟨G1, cap1, rfl, z1, hb8⟩
  have hk8 := Keep.of_below hb8 0 0
  have hz8 := hb8.size
  replace h := h.keep hk8 (by omega)
  replace ba := ba.keep hk8 (by omega)
  replace z0 := z0.keep hk8 (by omega)
  replace bx0 := bx0.keep hk8 (by omega)
  replace u2 := u2.keep hk8 (by omega)
  replace bx := bx.keep hk8 (by omega)
  replace bb := bb.trans (hk8.below (by omega) bb.size)
  clear hb8 hk8
  have bx0lt := bx0.1
  have bx0c0 := bx0.2.1
  have bx0c1 := bx0.2.2.1
  have bx0c2 := bx0.2.2.2
  go_wp2_with fail
  clear bx0lt bx0c0 bx0c1 bx0c2
  have hk9 := (Keep.refl 0 0 w8).alloc (.cells #[.int .i64 cc, .int .i64 mm, .slice G1 zs.length cap1] 30)
  have bx1 := Box3.new w8 (.int .i64 cc) (.int .i64 mm) (.slice G1 zs.length cap1) 30
  have hz9 : w8.heap.size + 1 ≤ (w8.alloc (.cells #[.int .i64 cc, .int .i64 mm, .slice G1 zs.length cap1] 30)).heap.size := by simp
  replace h := h.keep hk9 (by omega)
  replace ba := ba.keep hk9 (by omega)
  replace z0 := z0.keep hk9 (by omega)
  replace bx0 := bx0.keep hk9 (by omega)
  replace u2 := u2.keep hk9 (by omega)
  replace bx := bx.keep hk9 (by omega)
  replace z1 := z1.keep hk9 (by omega)
  replace bb := bb.trans (hk9.below (by omega) bb.size)
  clear hk9
  generalize w8.alloc (.cells #[.int .i64 cc, .int .i64 mm, .slice G1 zs.length cap1] 30) = w9 at *
  refine (eqReplayResult_true cc mm G1 G0 zs.length cap1 cap0 _ _ _ _ zs w9 z1.1 z0.1).mono ?_
  rintro e w10 ⟨rfl, hk10⟩
  have hz10 := hk10.size
  replace h := h.keep hk10 (by omega)
  replace ba := ba.keep hk10 (by omega)
  replace z0 := z0.keep hk10 (by omega)
  replace bx0 := bx0.keep hk10 (by omega)
  replace u2 := u2.keep hk10 (by omega)
  replace bx := bx.keep hk10 (by omega)
  replace z1 := z1.keep hk10 (by omega)
  replace bx1 := bx1.keep hk10 (by omega)
  replace bb := bb.trans (hk10.below (by omega) bb.size)
  clear hk10
  go_upto_region 10 with fail
  go_cut [35] from 31 to 35 (fun sv wx => (sv = .bool false) ∧ Below w10.heap.size w10 wx)
  case first =>
    have kd : Keep 0 0 w10 w10.drew := ⟨rfl, rfl, rfl, Nat.le_refl _, fun _ _ _ => rfl⟩
    have hD := h.keep kd (by omega)
    have baD := ba.keep kd (by omega)
    have bxD := bx.keep kd (by omega)
    have uD := u2.keep kd (by omega)
    have bD : Below w10.heap.size w10 w10.drew := ⟨rfl, rfl, rfl, Nat.le_refl _, fun _ _ => rfl⟩
    have a0 := baD.2.1
    have a1 := baD.2.2
    have b0 := bxD.2.1
    have b1 := bxD.2.2
    have zD : w10.heap.size ≤ w10.drew.heap.size := Nat.le_refl _
    go_region_with (first
      | (go_at_call 24; refine (toReplay_any t A n c _ _ xs _ hD (by omega)).mono ?_; rintro e v1 ⟨g3, rfl, u3, hb⟩; have kx := Keep.of_below hb 0 0; have bxv := bxD.keep kx (by omega); have b0v := bxv.2.1; have b1v := bxv.2.2; have u2v := uD.keep kx (by omega); have bbv := bD.trans (hb.mono bD.size))
      | (go_at_call 25; refine (eqReplay_true t _ _ n n n _ _ _ _ xs _ u2v.1 u3.1).mono ?_; rintro e v2 ⟨rfl, k2⟩; have bbz := bbv.trans (k2.below (B := w10.heap.size) (by omega) bbv.size)))
    all_goals
      go_wp2_with fail
      go_meet
      case rel => exact ⟨rfl, bbz⟩
  case rest =>
  obtain ⟨rfl, hb11⟩ := hcut
  have hk11 := Keep.of_below hb11 0 0
  have hz11 := hb11.size
  replace h := h.keep hk11 (by omega)
  replace ba := ba.keep hk11 (by omega)
  replace z0 := z0.keep hk11 (by omega)
  replace bx0 := bx0.keep hk11 (by omega)
  replace u2 := u2.keep hk11 (by omega)
  replace bx := bx.keep hk11 (by omega)
  replace z1 := z1.keep hk11 (by omega)
  replace bx1 := bx1.keep hk11 (by omega)
  replace bb := bb.trans (hk11.below (by omega) bb.size)
  clear hb11 hk11
  generalize hwc11 : wc = w11 at *
  clear hwc11
  have bxc0 := bx.2.1
  have bxc1 := bx.2.2
  go_wp2_with fail
  clear bxc0 bxc1
  refine (markReplay_any t _ n n _ _ 1 xs w11 u2 (by omega) (by omega)).mono ?_
  rintro e w12 ⟨rfl, y2, hk12⟩
  have hz12 := hk12.size
  replace h := h.keep hk12 (by omega)
  replace ba := ba.keep hk12 (by omega)
  replace z0 := z0.keep hk12 (by omega)
  replace bx0 := bx0.keep hk12 (by omega)
  replace bx := bx.keep hk12 (by omega)
  replace z1 := z1.keep hk12 (by omega)
  replace bx1 := bx1.keep hk12 (by omega)
  replace bb := bb.trans (hk12.below (by omega) bb.size)
  clear hk12
  clear u2
  have hn1 : ¬ (1 + (n : Int)) < 0 := by omega
  have bx0c0 := bx0.2.1
  have bx0c1 := bx0.2.2.1
  have bx0c2 := bx0.2.2.2
  have bx1c0 := bx1.2.1
  have bx1c1 := bx1.2.2.1
  have bx1c2 := bx1.2.2.2
  go_wp2_with fail
  clear bx0c0 bx0c1 bx0c2
  clear bx1c0 bx1c1 bx1c2
  clear hn1
  refine (eqReplayResult_true cc mm G1 G0 zs.length cap1 cap0 _ _ _ _ zs w12 z1.1 z0.1).mono ?_
  rintro e w13 ⟨rfl, hk13⟩
  have hz13 := hk13.size
  replace h := h.keep hk13 (by omega)
  replace ba := ba.keep hk13 (by omega)
  replace z0 := z0.keep hk13 (by omega)
  replace bx0 := bx0.keep hk13 (by omega)
  replace bx := bx.keep hk13 (by omega)
  replace z1 := z1.keep hk13 (by omega)
  replace bx1 := bx1.keep hk13 (by omega)
  replace y2 := y2.keep hk13 (by omega)
  replace bb := bb.trans (hk13.below (by omega) bb.size)
  clear hk13
  have bx1c0 := bx1.2.1
  have bx1c1 := bx1.2.2.1
  have bx1c2 := bx1.2.2.2
  go_wp2_with fail
  clear bx1c0 bx1c1 bx1c2
  refine (markReplayResult_any cc mm G1 zs.length cap1 _ _ 1 zs w13 z1 (by omega) (by omega)).mono ?_
  rintro e w14 ⟨rfl, z1', hk14⟩
  have hz14 := hk14.size
  replace h := h.keep hk14 (by omega)
  replace ba := ba.keep hk14 (by omega)
  replace z0 := z0.keep hk14 (by omega)
  replace bx0 := bx0.keep hk14 (by omega)
  replace bx := bx.keep hk14 (by omega)
  replace bx1 := bx1.keep hk14 (by omega)
  replace y2 := y2.keep hk14 (by omega)
  replace bb := bb.trans (hk14.below (by omega) bb.size)
  clear hk14
  clear z1
  have bx1c0 := bx1.2.1
  have bx1c1 := bx1.2.2.1
  have bx1c2 := bx1.2.2.2
  go_wp2_with fail
  clear bx1c0 bx1c1 bx1c2
  refine (heldReplayResult_any cc mm G1 zs.length cap1 _ _ 1 w14 z1'.1 (by omega) (by omega)).mono ?_
  rintro e w15 ⟨rfl, hk15⟩
  have hz15 := hk15.size
  replace h := h.keep hk15 (by omega)
  replace ba := ba.keep hk15 (by omega)
  replace z0 := z0.keep hk15 (by omega)
  replace bx0 := bx0.keep hk15 (by omega)
  replace bx := bx.keep hk15 (by omega)
  replace bx1 := bx1.keep hk15 (by omega)
  replace y2 := y2.keep hk15 (by omega)
  replace z1' := z1'.keep hk15 (by omega)
  replace bb := bb.trans (hk15.below (by omega) bb.size)
  clear hk15
  have hn2 : ¬ (1 + (zs.length : Int)) < 0 := by omega
  have bac0 := ba.2.1
  have bac1 := ba.2.2
  go_wp2_with fail
  clear bac0 bac1
  refine (toReplay_any t A n c _ _ xs w15 h (by omega)).mono ?_
  rintro e w16 ⟨g4, rfl, u4, hb16⟩
  have hk16 := Keep.of_below hb16 0 0
  have hz16 := hb16.size
  replace h := h.keep hk16 (by omega)
  replace ba := ba.keep hk16 (by omega)
  replace z0 := z0.keep hk16 (by omega)
  replace bx0 := bx0.keep hk16 (by omega)
  replace bx := bx.keep hk16 (by omega)
  replace bx1 := bx1.keep hk16 (by omega)
  replace y2 := y2.keep hk16 (by omega)
  replace z1' := z1'.keep hk16 (by omega)
  replace bb := bb.trans (hk16.below (by omega) bb.size)
  clear hb16 hk16
  go_wp2_with fail
  refine (tk_at (implTake_any t sq _ n n _ _ xs w16 u4.1 ht (by omega)) HC.out HM.out HZ.out).mono ?_
  rintro e w17 ⟨G2, cap2, rfl, z2, hb17⟩
  have hk17 := Keep.of_below hb17 0 0
  have hz17 := hb17.size
  replace h := h.keep hk17 (by omega)
  replace ba := ba.keep hk17 (by omega)
  replace z0 := z0.keep hk17 (by omega)
  replace bx0 := bx0.keep hk17 (by omega)
  replace bx := bx.keep hk17 (by omega)
  replace bx1 := bx1.keep hk17 (by omega)
  replace y2 := y2.keep hk17 (by omega)
  replace z1' := z1'.keep hk17 (by omega)
  replace u4 := u4.keep hk17 (by omega)
  replace bb := bb.trans (hk17.below (by omega) bb.size)
  clear hb17 hk17
  clear u4
  have bx0lt := bx0.1
  have bx0c0 := bx0.2.1
  have bx0c1 := bx0.2.2.1
  have bx0c2 := bx0.2.2.2
  go_wp2_with fail
  clear bx0lt bx0c0 bx0c1 bx0c2
  have hk18 := (Keep.refl 0 0 w17).alloc (.cells #[.int .i64 cc, .int .i64 mm, .slice G2 zs.length cap2] 30)
  have bx2 := Box3.new w17 (.int .i64 cc) (.int .i64 mm) (.slice G2 zs.length cap2) 30
  have hz18 : w17.heap.size + 1 ≤ (w17.alloc (.cells #[.int .i64 cc, .int .i64 mm, .slice G2 zs.length cap2] 30)).heap.size := by simp
  replace h := h.keep hk18 (by omega)
  replace ba := ba.keep hk18 (by omega)
  replace z0 := z0.keep hk18 (by omega)
  replace bx0 := bx0.keep hk18 (by omega)
  replace bx := bx.keep hk18 (by omega)
  replace bx1 := bx1.keep hk18 (by omega)
  replace y2 := y2.keep hk18 (by omega)
  replace z1' := z1'.keep hk18 (by omega)
  replace z2 := z2.keep hk18 (by omega)
  replace bb := bb.trans (hk18.below (by omega) bb.size)
  clear hk18
  generalize w17.alloc (.cells #[.int .i64 cc, .int .i64 mm, .slice G2 zs.length cap2] 30) = w18 at *
  refine (eqReplayResult_true cc mm G2 G0 zs.length cap2 cap0 _ _ _ _ zs w18 z2.1 z0.1).mono ?_
  rintro e w19 ⟨rfl, hk19⟩
  have hz19 := hk19.size
  replace h := h.keep hk19 (by omega)
  replace ba := ba.keep hk19 (by omega)
  replace z0 := z0.keep hk19 (by omega)
  replace bx0 := bx0.keep hk19 (by omega)
  replace bx := bx.keep hk19 (by omega)
  replace bx1 := bx1.keep hk19 (by omega)
  replace y2 := y2.keep hk19 (by omega)
  replace z1' := z1'.keep hk19 (by omega)
  replace z2 := z2.keep hk19 (by omega)
  replace bx2 := bx2.keep hk19 (by omega)
  replace bb := bb.trans (hk19.below (by omega) bb.size)
  clear hk19
  have bx1c0 := bx1.2.1
  have bx1c1 := bx1.2.2.1
  have bx1c2 := bx1.2.2.2
  go_wp2_with fail
  clear bx1c0 bx1c1 bx1c2
  refine (heldReplayResult_any cc mm G1 zs.length cap1 _ _ 1 w19 z1'.1 (by omega) (by omega)).mono ?_
  rintro e w20 ⟨rfl, hk20⟩
  have hz20 := hk20.size
  replace h := h.keep hk20 (by omega)
  replace ba := ba.keep hk20 (by omega)
  replace z0 := z0.keep hk20 (by omega)
  replace bx0 := bx0.keep hk20 (by omega)
  replace bx := bx.keep hk20 (by omega)
  replace bx1 := bx1.keep hk20 (by omega)
  replace y2 := y2.keep hk20 (by omega)
  replace z1' := z1'.keep hk20 (by omega)
  replace z2 := z2.keep hk20 (by omega)
  replace bx2 := bx2.keep hk20 (by omega)
  replace bb := bb.trans (hk20.below (by omega) bb.size)
  clear hk20
  have hn3 : ¬ (1 + (zs.length : Int)) < 0 := by omega
  go_wp2_with fail
  go_ret
  exact ⟨rfl, bb⟩

end Go.Proofs.Ytebdgdmdjgkboaa
