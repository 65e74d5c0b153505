/-
  impl.TrimLog.
-/
import Derived.Test.YtlgpbnngepkkmaaV2
import Derived.Test.YtlgpbnngepkkmaaV4
import Derived.Test.YtlgpbnngepkkmaaTa
import Derived.Deep.RegionWith
import Derived.Deep.CutRange
namespace Go.Proofs.Ytlgpbnngepkkmaa
open Go.RowKit
set_option linter.unusedVariables false
set_option maxRecDepth 100000

set_option maxHeartbeats 4000000 in
theorem implTrim_any (bs room tp : Int) (b off n c hi : Nat) (xs : List Itm) (w : World) (h : Rt w 0 hi (some ⟨b, off, none⟩) n xs) (hcap : n ≤ c ∧ c ≤ 9223372036854775807) (hbs : -9223372036854775808 ≤ bs ∧ bs ≤ 9223372036854775807) :
    Calls Try.prog 14 #[.agg #[.int .i64 bs, .slice (some ⟨b, off, none⟩) n c], .int .i64 room, .int .i64 tp] w (LogPost w (trimCode bs room tp xs) (trimBase bs room tp xs) (trimOut bs room tp xs)) := by
  have hint := h.int
  have hl := h.len
  have htop := h.top
  have ka := ((Keep.refl 0 0 w).alloc (.cells #[.int .i64 bs, .slice (some ⟨b, off, none⟩) n c] 26)).alloc (.cells #[.int .i64 0, .int .i64 0, .slice none 0 0] 32)
  have h2 := h.keep ka (by omega)
  have HL := Lib.hid (implLogFault_any bs room _ n c hi xs _ h2)
  by_cases hc : logCode bs room xs = 0
  · obtain ⟨hr, hb, hm, hi0, hf⟩ := logCode_ok hc
    rw [hc] at HL
    obtain ⟨rr, hrr⟩ : ∃ rr, decide (tp < bs ∨ bs + (n : Int) < tp) = rr := ⟨_, rfl⟩
    have HR := Lib.hid hrr
    have HT : Hid (rr = true → trimCode bs room tp xs = 3 ∧ trimBase bs room tp xs = 0 ∧ trimOut bs room tp xs = []) := fun e => by
      rw [← hrr] at e
      have ht := of_decide_eq_true e
      have e0 : trimCode bs room tp xs = 3 := by unfold trimCode; rw [if_neg (by simp [hc]), if_pos (by omega)]
      exact ⟨e0, by unfold trimBase; rw [if_neg (by rw [e0]; decide)], by unfold trimOut; rw [if_neg (by rw [e0]; decide)]⟩
    have HF : Hid (rr = false → (bs ≤ tp ∧ tp ≤ bs + (n : Int)) ∧ trimCode bs room tp xs = 0 ∧ trimBase bs room tp xs = tp ∧ trimOut bs room tp xs = xs.drop (tp - bs).toNat) := fun e => by
      rw [← hrr] at e
      have ht := of_decide_eq_false e
      have e0 : trimCode bs room tp xs = 0 := by unfold trimCode; rw [if_neg (by simp [hc]), if_neg (by omega)]
      exact ⟨by omega, e0, by unfold trimBase; rw [if_pos e0], by unfold trimOut; rw [if_pos e0]⟩
    generalize trimCode bs room tp xs = tc at *
    generalize trimBase bs room tp xs = tb at *
    generalize trimOut bs room tp xs = tos at *
    have HI := Lib.hid hi0
    clear h hrr hc hi0
    go_enter Try.func14, Try.ntmps14
    go_wp2_with fail
    refine HL.out.mono ?_
    rintro e w1 ⟨rfl, k1⟩
    have h3 := h2.keep (Keep.of_below k1 0 0) (by omega)
    have m0 := k1.cell (p := ⟨w.heap.size, 0, none⟩) (by simp; omega)
    have m1 := k1.cell (p := ⟨w.heap.size, 1, none⟩) (by simp; omega)
    simp [go_sem] at m0 m1
    have hls : w.heap.size < w1.heap.size := World.block_lt_of_cell? w1 _ m0
    go_upto_region 4 with fail
    go_cut [25] from 15 to 25 (fun sv wx => sv = .bool rr ∧ Below w1.heap.size w1 wx)
    case first =>
      have bD : Below w1.heap.size w1 w1.drew := ⟨rfl, rfl, rfl, Nat.le_refl _, fun _ _ => rfl⟩
      have zD : w1.heap.size ≤ w1.drew.heap.size := Nat.le_refl _
      have d0 : w1.drew.cell? ⟨w.heap.size, 0, none⟩ = _ := m0
      have d1 : w1.drew.cell? ⟨w.heap.size, 1, none⟩ = _ := m1
      clear HL HF HT HI h2 h3 ka
      go_region_with (first
        | (go_at_call 50; refine (behind_any bs _ n c _ (by omega) (by omega) (by omega)).mono ?_; rintro e v1 ⟨rfl, rfl⟩)
        | (go_at_call 54; refine (outside1 _ 1 tp bs (bs + (n : Int)) rr _ (by simp) (by go_simp) (by go_simp) (by go_simp) HR.out).mono ?_; rintro e v2 ⟨rfl, hb2⟩; have bbz := (bD.alloc zD (.cells #[.int .i64 tp, .int .i64 bs, .int .i64 (bs + (n : Int))] 87)).trans (hb2.mono (by simp))))
      all_goals
        go_wp2_with fail
        go_meet
        case rel => exact ⟨rfl, bbz⟩
    case rest =>
    obtain ⟨rfl, hbc⟩ := hcut
    generalize hwc : wc = w2 at *
    clear hwc HR
    have hbb := k1.trans (hbc.mono k1.size)
    have hk1 := hbb.size
    replace m0 := (hbc.cell (p := ⟨w.heap.size, 0, none⟩) hls).trans m0
    replace m1 := (hbc.cell (p := ⟨w.heap.size, 1, none⟩) hls).trans m1
    replace h3 := h3.keep (Keep.of_below hbc 0 0) (by omega)
    clear hbc hls
    cases rr with
    | true =>
      have HT2 := Lib.hid (HT.out rfl)
      clear HT HF
      obtain ⟨⟨d0, d1, d2⟩, ff, hb3, hz3⟩ := res3_cells hbb
      obtain ⟨q0, q1, q2⟩ := three_cells d0 d1 d2 (.int .i64 3) (.int .i64 0) (.slice none 0 0)
      obtain ⟨hB, _⟩ := resT_done hb3 (.int .i64 3) (.int .i64 0) (.slice none 0 0)
      have hBB := ((Below.refl w.heap.size w).alloc (Nat.le_refl _) _).trans (hB.mono (by simp))
      simp only [World.size_alloc] at hBB
      have HB := Lib.hid hBB
      clear hBB
      have f0 := ff 0 (by omega)
      have f1 := ff 1 (by omega)
      have f2 := ff 2 (by omega)
      simp only [World.size_alloc] at d0 d1 d2 f0 f1 f2 q0 q1 q2
      clear ff hb3 hbb hB k1 HL
      go_wp2_with fail
      exact bodyPost_ret (v := .agg #[.int .i64 3, .int .i64 0, .slice none 0 0]) (by simp [results, Try.results14, go_sem, q0, q1, q2]) rfl ⟨none, 0, 0, (by rw [HT2.out.1, HT2.out.2.1]), (by rw [HT2.out.2.2]; exact Wt.empty_top _ _), HB.out⟩
    | false =>
      have ht := (HF.out rfl).1
      have HF2 := Lib.hid (HF.out rfl).2
      clear HT HF
      obtain ⟨d, hd⟩ := Int.eq_ofNat_of_zero_le (show 0 ≤ tp - bs by omega)
      have hd2 : (tp - bs).toNat = d := by rw [hd, Int.toNat_natCast]
      have hdn : d ≤ n := by omega
      have g1 : 0 ≤ tp - bs := by omega
      have g2 : tp - bs ≤ (n : Int) := by omega
      have g3 : tp - bs ≤ (c : Int) := by omega
      by_cases hdc : d < c
      · have HD2 := Lib.hid hd2
        clear hd2
        have hev := itemsCode_each HI.out
        have h4 : Rt w2 0 hi (some ⟨b, off + d * 4, none⟩) (n - d) (xs.drop d) := h3.drop hdn
        have HC := Lib.hid (copyItems_any (some ⟨b, off + d * 4, none⟩) (n - d) (c - d) hi (xs.drop d) w2 h4 (by omega) (fun x hx => by have := (cdOf_ok (hev x (List.mem_of_mem_drop hx))).1; omega))
        clear hev h3 h4
        go_wp2_with fail
        refine HC.out.mono ?_
        rintro e w3 ⟨G, cap, rfl, hO, hb4⟩
        have hbb4 := hbb.trans (hb4.mono hk1)
        obtain ⟨⟨d0, d1, d2⟩, ff, hb3, hz3⟩ := res3_cells hbb4
        obtain ⟨q0, q1, q2⟩ := three_cells d0 d1 d2 (.int .i64 0) (.int .i64 tp) (.slice G (n - d) cap)
        obtain ⟨hB, hW⟩ := resT_done hb3 (.int .i64 0) (.int .i64 tp) (.slice G (n - d) cap)
        have hBB := ((Below.refl w.heap.size w).alloc (Nat.le_refl _) _).trans (hB.mono (by simp))
        have hWW := (hW hO.wt (by simp at hk1 ⊢; omega)).wide (lo' := w.heap.size) (by simp) (Nat.le_refl _) (Nat.le_refl _)
        have f0 := ff 0 (by omega)
        have f1 := ff 1 (by omega)
        have f2 := ff 2 (by omega)
        simp only [World.size_alloc] at d0 d1 d2 f0 f1 f2 q0 q1 q2 hBB hWW
        have e5 : xs.drop d = tos := by rw [HF2.out.2.2, HD2.out]
        rw [e5] at hWW
        have HB := Lib.hid hBB
        have HW := Lib.hid hWW
        clear ff hb3 hbb hbb4 hb4 hO hB hW k1 HL HC hBB hWW
        go_wp2_with fail
        exact bodyPost_ret (v := .agg #[.int .i64 0, .int .i64 tp, .slice G (n - d) cap]) (by simp [results, Try.results14, go_sem, q0, q1, q2]) rfl ⟨G, (n - d), cap, (by rw [HF2.out.1, HF2.out.2.1]), HW.out, HB.out⟩
      · have hcn : n = c := by omega
        subst hcn
        have hdn2 : n = d := by omega
        subst hdn2
        have e1 : xs.drop n = [] := List.drop_eq_nil_of_le (by omega)
        have HD2 := Lib.hid hd2
        have HE1 := Lib.hid e1
        clear e1 hd2
        have h4 : Rt w2 0 hi (some ⟨b, off, none⟩) 0 [] := ⟨rfl, Nat.zero_le _, h3.top, fun h => absurd h (by omega)⟩
        have HC := Lib.hid (copyItems_any (some ⟨b, off, none⟩) 0 0 hi [] w2 h4 (by omega) (fun x hx => by simp at hx))
        clear h3 h4
        go_wp2_with fail
        refine HC.out.mono ?_
        rintro e w3 ⟨G, cap, rfl, hO, hb4⟩
        have hbb4 := hbb.trans (hb4.mono hk1)
        obtain ⟨⟨d0, d1, d2⟩, ff, hb3, hz3⟩ := res3_cells hbb4
        obtain ⟨q0, q1, q2⟩ := three_cells d0 d1 d2 (.int .i64 0) (.int .i64 tp) (.slice G 0 cap)
        obtain ⟨hB, hW⟩ := resT_done hb3 (.int .i64 0) (.int .i64 tp) (.slice G 0 cap)
        have hBB := ((Below.refl w.heap.size w).alloc (Nat.le_refl _) _).trans (hB.mono (by simp))
        have hWW := (hW hO.wt (by simp at hk1 ⊢; omega)).wide (lo' := w.heap.size) (by simp) (Nat.le_refl _) (Nat.le_refl _)
        have f0 := ff 0 (by omega)
        have f1 := ff 1 (by omega)
        have f2 := ff 2 (by omega)
        simp only [World.size_alloc] at d0 d1 d2 f0 f1 f2 q0 q1 q2 hBB hWW
        have e5 : [] = tos := by rw [HF2.out.2.2, HD2.out, HE1.out]
        rw [e5] at hWW
        have HB := Lib.hid hBB
        have HW := Lib.hid hWW
        clear ff hb3 hbb hbb4 hb4 hO hB hW k1 HL HC hBB hWW
        go_wp2_with fail
        exact bodyPost_ret (v := .agg #[.int .i64 0, .int .i64 tp, .slice G 0 cap]) (by simp [results, Try.results14, go_sem, q0, q1, q2]) rfl ⟨G, 0, cap, (by rw [HF2.out.1, HF2.out.2.1]), HW.out, HB.out⟩
  · have e0 : trimCode bs room tp xs = logCode bs room xs := by unfold trimCode; rw [if_pos hc]
    have e1 : trimBase bs room tp xs = 0 := by unfold trimBase; rw [if_neg (by rw [e0]; exact hc)]
    have e2 : trimOut bs room tp xs = [] := by unfold trimOut; rw [if_neg (by rw [e0]; exact hc)]
    rw [e0, e1, e2]
    clear e0 e1 e2
    generalize logCode bs room xs = lc at *
    have hcb : (lc != 0) = true := by simp [hc]
    clear h h2
    go_enter Try.func14, Try.ntmps14
    go_wp2_with fail
    refine HL.out.mono ?_
    rintro e w1 ⟨rfl, k1⟩
    have hbb := k1
    obtain ⟨⟨d0, d1, d2⟩, ff, hb3, hz3⟩ := res3_cells hbb
    obtain ⟨q0, q1, q2⟩ := three_cells d0 d1 d2 (.int .i64 lc) (.int .i64 0) (.slice none 0 0)
    obtain ⟨hB, _⟩ := resT_done hb3 (.int .i64 lc) (.int .i64 0) (.slice none 0 0)
    have hBB := ((Below.refl w.heap.size w).alloc (Nat.le_refl _) _).trans (hB.mono (by simp))
    simp only [World.size_alloc] at hBB
    have HB := Lib.hid hBB
    clear hBB
    have f0 := ff 0 (by omega)
    have f1 := ff 1 (by omega)
    have f2 := ff 2 (by omega)
    simp only [World.size_alloc] at d0 d1 d2 f0 f1 f2 q0 q1 q2
    clear ff hb3 hbb hB k1 HL
    go_wp2_with fail
    exact bodyPost_ret (v := .agg #[.int .i64 lc, .int .i64 0, .slice none 0 0]) (by simp [results, Try.results14, go_sem, q0, q1, q2]) rfl ⟨none, 0, 0, rfl, Wt.empty_top _ _, HB.out⟩
end Go.Proofs.Ytlgpbnngepkkmaa
