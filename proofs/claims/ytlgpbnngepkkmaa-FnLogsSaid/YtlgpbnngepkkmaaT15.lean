/-
  The model's TrimLog.
-/
import Derived.Test.YtlgpbnngepkkmaaT14
import Derived.Test.YtlgpbnngepkkmaaT7
namespace Go.Proofs.Ytlgpbnngepkkmaa
open Go.RowKit
set_option linter.unusedVariables false
set_option maxRecDepth 100000

/-- What TrimLog answers. -/
def trimCode (bs room to : Int) (xs : List Itm) : Int := if logCode bs room xs ≠ 0 then logCode bs room xs else if ¬ (bs ≤ to ∧ to ≤ bs + (xs.length : Int)) then 3 else 0
def trimBase (bs room to : Int) (xs : List Itm) : Int := if trimCode bs room to xs = 0 then to else 0
def trimOut (bs room to : Int) (xs : List Itm) : List Itm := if trimCode bs room to xs = 0 then xs.drop (to - bs).toNat else []
theorem logCode_ok {bs room : Int} {xs : List Itm} (h : logCode bs room xs = 0) : (1 ≤ room ∧ room ≤ 16) ∧ (0 ≤ bs ∧ bs ≤ 9000) ∧ (xs.length : Int) ≤ room ∧ itemsCode xs = 0 ∧ bs + (xs.length : Int) ≤ 9000 := by
  unfold logCode at h
  split at h
  · omega
  · split at h
    · omega
    · split at h
      · omega
      · split at h
        · omega
        · refine ⟨by omega, by omega, by omega, by omega, by omega⟩
theorem Rt.drop {w : World} {lo hi n b off d : Nat} {xs : List Itm} (h : Rt w lo hi (some ⟨b, off, none⟩) n xs) (hd : d ≤ n) : Rt w lo hi (some ⟨b, off + d * 4, none⟩) (n - d) (xs.drop d) := by
  refine ⟨by rw [List.length_drop, h.1], by have := h.2.1; omega, h.2.2.1, fun hn => ?_⟩
  obtain ⟨b', off', e, h1, h2, hc⟩ := h.at_ (by omega)
  injection e with e
  injection e with e1 e2
  subst e1 e2
  refine ⟨b, off + d * 4, rfl, h1, h2, fun j hj => ?_⟩
  have := hc (d + j) (by omega)
  have e3 : off + (d + j) * 4 = off + d * 4 + j * 4 := by omega
  rw [e3] at this
  have e4 : (xs.drop d).getD j it0 = xs.getD (d + j) it0 := by simp [List.getD_eq_getElem?_getD, List.getElem?_drop]
  rw [e4]
  exact this
/-- A result's own block of three cells, behind a call. -/
theorem res3_cells {w w1 : World} {u v x : Value} {t : TypeId} (hb1 : Below (w.alloc (.cells #[u, v, x] t)).heap.size (w.alloc (.cells #[u, v, x] t)) w1) :
    (w1.cell? ⟨w.heap.size, 0, none⟩ = some u ∧ w1.cell? ⟨w.heap.size, 1, none⟩ = some v ∧ w1.cell? ⟨w.heap.size, 2, none⟩ = some x) ∧ (∀ j, j < 3 → w1.frozen? ⟨w.heap.size, j, none⟩ = false) ∧ Below w.heap.size w w1 ∧ w.heap.size < w1.heap.size := by
  have d0 := hb1.cell (p := ⟨w.heap.size, 0, none⟩) (by simp)
  have d1 := hb1.cell (p := ⟨w.heap.size, 1, none⟩) (by simp)
  have d2 := hb1.cell (p := ⟨w.heap.size, 2, none⟩) (by simp)
  have ff := fun j => hb1.frozen (p := ⟨w.heap.size, j, none⟩) (by simp)
  simp [go_sem] at d0 d1 d2 ff
  have hz := hb1.size
  simp only [World.size_alloc] at hz
  exact ⟨⟨d0, d1, d2⟩, fun j _ => ff j, ((Below.refl w.heap.size w).alloc (Nat.le_refl _) _).trans (hb1.mono (by simp)), by omega⟩
theorem three_cells {w : World} {g : Nat} {u v x : Value} (h0 : w.cell? ⟨g, 0, none⟩ = some u) (h1 : w.cell? ⟨g, 1, none⟩ = some v) (h2 : w.cell? ⟨g, 2, none⟩ = some x) (a b c : Value) :
    (((w.setCell ⟨g, 0, none⟩ a).setCell ⟨g, 1, none⟩ b).setCell ⟨g, 2, none⟩ c).cell? ⟨g, 0, none⟩ = some a ∧ (((w.setCell ⟨g, 0, none⟩ a).setCell ⟨g, 1, none⟩ b).setCell ⟨g, 2, none⟩ c).cell? ⟨g, 1, none⟩ = some b ∧ (((w.setCell ⟨g, 0, none⟩ a).setCell ⟨g, 1, none⟩ b).setCell ⟨g, 2, none⟩ c).cell? ⟨g, 2, none⟩ = some c := by
  refine ⟨?_, ?_, ?_⟩
  · rw [World.cell?_setCell_other _ _ _ _ (by simp), World.cell?_setCell_other _ _ _ _ (by simp)]
    exact World.cell?_setCell_same _ _ _ h0
  · rw [World.cell?_setCell_other _ _ _ _ (by simp)]
    exact World.cell?_setCell_same _ _ _ ((World.cell?_setCell_other _ _ _ _ (by simp)).trans h1)
  · exact World.cell?_setCell_same _ _ _ ((World.cell?_setCell_other _ _ _ _ (by simp)).trans ((World.cell?_setCell_other _ _ _ _ (by simp)).trans h2))
/-- And behind its three stores. -/
theorem resT_done {w w1 : World} (hb : Below w.heap.size w w1) (x y z : Value) :
    Below w.heap.size w (((w1.setCell ⟨w.heap.size, 0, none⟩ x).setCell ⟨w.heap.size, 1, none⟩ y).setCell ⟨w.heap.size, 2, none⟩ z) ∧
    ∀ {lo n : Nat} {G : Option Addr} {xs : List Itm}, Wt w1 lo w1.heap.size G n xs → w.heap.size < lo → Wt (((w1.setCell ⟨w.heap.size, 0, none⟩ x).setCell ⟨w.heap.size, 1, none⟩ y).setCell ⟨w.heap.size, 2, none⟩ z) w.heap.size (((w1.setCell ⟨w.heap.size, 0, none⟩ x).setCell ⟨w.heap.size, 1, none⟩ y).setCell ⟨w.heap.size, 2, none⟩ z).heap.size G n xs := by
  have hk : Keep w.heap.size (w.heap.size + 1) w1 (((w1.setCell ⟨w.heap.size, 0, none⟩ x).setCell ⟨w.heap.size, 1, none⟩ y).setCell ⟨w.heap.size, 2, none⟩ z) :=
    (((Keep.refl _ _ w1).setCell (p := ⟨w.heap.size, 0, none⟩) ⟨Nat.le_refl _, Nat.lt_succ_self _⟩ x).setCell (p := ⟨w.heap.size, 1, none⟩) ⟨Nat.le_refl _, Nat.lt_succ_self _⟩ y).setCell (p := ⟨w.heap.size, 2, none⟩) ⟨Nat.le_refl _, Nat.lt_succ_self _⟩ z
  exact ⟨((hb.setCell (Nat.le_refl _) _).setCell (Nat.le_refl _) _).setCell (Nat.le_refl _) _, fun hw hlo => (hw.keep hk (by omega)).wide (by omega) hk.size (Nat.le_refl _)⟩

set_option maxHeartbeats 2000000 in
theorem specTrim_any (bs room to : Int) (b off n c hi : Nat) (xs : List Itm) (w : World) (h : Rt w 0 hi (some ⟨b, off, none⟩) n xs) (hcap : n ≤ c ∧ c ≤ 9223372036854775807) (hbs : -9223372036854775808 ≤ bs ∧ bs ≤ 9223372036854775807) :
    Calls Try.prog 21 #[.agg #[.int .i64 bs, .slice (some ⟨b, off, none⟩) n c], .int .i64 room, .int .i64 to] w fun e w' => ∃ G m cap, e = .returned (.agg #[.int .i64 (trimCode bs room to xs), .int .i64 (trimBase bs room to xs), .slice G m cap]) ∧ Wt w' w.heap.size w'.heap.size G m (trimOut bs room to xs) ∧ Below w.heap.size w w' := by
  have hint := h.int
  have hl := h.len
  have htop := h.top
  have ka := ((Keep.refl 0 0 w).alloc (.cells #[.int .i64 bs, .slice (some ⟨b, off, none⟩) n c] 26)).alloc (.cells #[.int .i64 0, .int .i64 0, .slice none 0 0] 32)
  have h2 := h.keep ka (by omega)
  have HL := Lib.hid (specLogFault_any bs room _ n c 0 hi xs _ h2)
  by_cases hc : logCode bs room xs = 0
  · obtain ⟨hr, hb, hm, hi0, hf⟩ := logCode_ok hc
    rw [hc] at HL
    by_cases ht : bs ≤ to ∧ to ≤ bs + (n : Int)
    · have e0 : trimCode bs room to xs = 0 := by unfold trimCode; rw [if_neg (by simp [hc]), if_neg (by omega)]
      have e1 : trimBase bs room to xs = to := by unfold trimBase; rw [if_pos e0]
      have e2 : trimOut bs room to xs = xs.drop (to - bs).toNat := by unfold trimOut; rw [if_pos e0]
      rw [e0, e1, e2]
      clear e0 e1 e2
      obtain ⟨d, hd⟩ := Int.eq_ofNat_of_zero_le (show 0 ≤ to - bs by omega)
      rw [hd, Int.toNat_natCast]
      have hdn : d ≤ n := by omega
      have g1 : 0 ≤ to - bs := by omega
      have g2 : to - bs ≤ (n : Int) := by omega
      have g3 : to - bs ≤ (c : Int) := by omega
      have HI := Lib.hid (hi0)
      clear h
      by_cases hdc : d < c
      · go_enter Try.func21, Try.ntmps21
        go_wp2_with fail
        refine HL.out.mono ?_
        rintro e w1 ⟨rfl, k1⟩
        have h3 := h2.keep k1 (by omega)
        have m0 := k1.cell (p := ⟨w.heap.size, 0, none⟩) (by simp; omega) (by omega)
        have m1 := k1.cell (p := ⟨w.heap.size, 1, none⟩) (by simp; omega) (by omega)
        simp [go_sem] at m0 m1
        go_wp2_with fail
        refine (l1In_any to bs (bs + (n : Int)) _ true (decide_eq_true ht)).mono ?_
        rintro e w2 ⟨rfl, rfl⟩
        have hev := itemsCode_each HI.out
        have h4 : Rt w1 0 hi (some ⟨b, off + d * 4, none⟩) (n - d) (xs.drop d) := h3.drop hdn
        have HC := Lib.hid (l5Copy_any (some ⟨b, off + d * 4, none⟩) (n - d) (c - d) hi (xs.drop d) w1 h4 (by omega) (fun x hx => by have := (cdOf_ok (hev x (List.mem_of_mem_drop hx))).1; omega))
        have hbb := k1.below (B := ((w.alloc (.cells #[.int .i64 bs, .slice (some ⟨b, off, none⟩) n c] 26)).alloc (.cells #[.int .i64 0, .int .i64 0, .slice none 0 0] 32)).heap.size) (by omega) (Nat.le_refl _)
        have hk1 := k1.size
        clear hev h3 h4
        go_wp2_with fail
        refine HC.out.mono ?_
        rintro e w3 ⟨G, cap, rfl, hO, hb4⟩
        have hbb4 := hbb.trans (hb4.mono hk1)
        obtain ⟨⟨d0, d1, d2⟩, ff, hb3, hz3⟩ := res3_cells hbb4
        obtain ⟨q0, q1, q2⟩ := three_cells d0 d1 d2 (.int .i64 0) (.int .i64 to) (.slice G (n - d) cap)
        obtain ⟨hB, hW⟩ := resT_done hb3 (.int .i64 0) (.int .i64 to) (.slice G (n - d) cap)
        have hBB := ((Below.refl w.heap.size w).alloc (Nat.le_refl _) _).trans (hB.mono (by simp))
        have hWW := (hW hO.wt (by simp at hk1 ⊢; omega)).wide (lo' := w.heap.size) (by simp) (Nat.le_refl _) (Nat.le_refl _)
        have f0 := ff 0 (by omega)
        have f1 := ff 1 (by omega)
        have f2 := ff 2 (by omega)
        simp only [World.size_alloc] at d0 d1 d2 f0 f1 f2 q0 q1 q2 hBB hWW
        have HB := Lib.hid hBB
        have HW := Lib.hid hWW
        clear ff hb3 hbb hbb4 hb4 hO hB hW k1 HL HC hBB hWW
        go_wp2_with fail
        exact bodyPost_ret (v := .agg #[.int .i64 0, .int .i64 to, .slice G (n - d) cap]) (by simp [results, Try.results21, go_sem, q0, q1, q2]) rfl ⟨G, n - d, cap, rfl, HW.out, HB.out⟩
      · have hcn : n = c := by omega
        subst hcn
        have hdn2 : n = d := by omega
        subst hdn2
        have e1 : xs.drop n = [] := List.drop_eq_nil_of_le (by omega)
        rw [e1]
        clear e1
        go_enter Try.func21, Try.ntmps21
        go_wp2_with fail
        refine HL.out.mono ?_
        rintro e w1 ⟨rfl, k1⟩
        have h3 := h2.keep k1 (by omega)
        have m0 := k1.cell (p := ⟨w.heap.size, 0, none⟩) (by simp; omega) (by omega)
        have m1 := k1.cell (p := ⟨w.heap.size, 1, none⟩) (by simp; omega) (by omega)
        simp [go_sem] at m0 m1
        go_wp2_with fail
        refine (l1In_any to bs (bs + (n : Int)) _ true (decide_eq_true ht)).mono ?_
        rintro e w2 ⟨rfl, rfl⟩
        have hev := itemsCode_each HI.out
        have h4 : Rt w1 0 hi (some ⟨b, off, none⟩) 0 [] := ⟨rfl, Nat.zero_le _, h3.top, fun h => absurd h (by omega)⟩
        have HC := Lib.hid (l5Copy_any (some ⟨b, off, none⟩) 0 0 hi [] w1 h4 (by omega) (fun x hx => by simp at hx))
        have hbb := k1.below (B := ((w.alloc (.cells #[.int .i64 bs, .slice (some ⟨b, off, none⟩) n n] 26)).alloc (.cells #[.int .i64 0, .int .i64 0, .slice none 0 0] 32)).heap.size) (by omega) (Nat.le_refl _)
        have hk1 := k1.size
        clear hev h3 h4
        go_wp2_with fail
        refine HC.out.mono ?_
        rintro e w3 ⟨G, cap, rfl, hO, hb4⟩
        have hbb4 := hbb.trans (hb4.mono hk1)
        obtain ⟨⟨d0, d1, d2⟩, ff, hb3, hz3⟩ := res3_cells hbb4
        obtain ⟨q0, q1, q2⟩ := three_cells d0 d1 d2 (.int .i64 0) (.int .i64 to) (.slice G 0 cap)
        obtain ⟨hB, hW⟩ := resT_done hb3 (.int .i64 0) (.int .i64 to) (.slice G 0 cap)
        have hBB := ((Below.refl w.heap.size w).alloc (Nat.le_refl _) _).trans (hB.mono (by simp))
        have hWW := (hW hO.wt (by simp at hk1 ⊢; omega)).wide (lo' := w.heap.size) (by simp) (Nat.le_refl _) (Nat.le_refl _)
        have f0 := ff 0 (by omega)
        have f1 := ff 1 (by omega)
        have f2 := ff 2 (by omega)
        simp only [World.size_alloc] at d0 d1 d2 f0 f1 f2 q0 q1 q2 hBB hWW
        have HB := Lib.hid hBB
        have HW := Lib.hid hWW
        clear ff hb3 hbb hbb4 hb4 hO hB hW k1 HL HC hBB hWW
        go_wp2_with fail
        exact bodyPost_ret (v := .agg #[.int .i64 0, .int .i64 to, .slice G 0 cap]) (by simp [results, Try.results21, go_sem, q0, q1, q2]) rfl ⟨G, 0, cap, rfl, HW.out, HB.out⟩
    · have e0 : trimCode bs room to xs = 3 := by unfold trimCode; rw [if_neg (by simp [hc]), if_pos (by omega)]
      have e1 : trimBase bs room to xs = 0 := by unfold trimBase; rw [if_neg (by rw [e0]; decide)]
      have e2 : trimOut bs room to xs = [] := by unfold trimOut; rw [if_neg (by rw [e0]; decide)]
      rw [e0, e1, e2]
      clear e0 e1 e2
      have HI := Lib.hid (hi0)
      clear h
      go_enter Try.func21, Try.ntmps21
      go_wp2_with fail
      refine HL.out.mono ?_
      rintro e w1 ⟨rfl, k1⟩
      have m0 := k1.cell (p := ⟨w.heap.size, 0, none⟩) (by simp; omega) (by omega)
      have m1 := k1.cell (p := ⟨w.heap.size, 1, none⟩) (by simp; omega) (by omega)
      simp [go_sem] at m0 m1
      go_wp2_with fail
      refine (l1In_any to bs (bs + (n : Int)) _ false (decide_eq_false ht)).mono ?_
      rintro e w2 ⟨rfl, rfl⟩
      have hbb := k1.below (B := ((w.alloc (.cells #[.int .i64 bs, .slice (some ⟨b, off, none⟩) n c] 26)).alloc (.cells #[.int .i64 0, .int .i64 0, .slice none 0 0] 32)).heap.size) (by omega) (Nat.le_refl _)
      obtain ⟨⟨d0, d1, d2⟩, ff, hb3, hz3⟩ := res3_cells hbb
      obtain ⟨q0, q1, q2⟩ := three_cells d0 d1 d2 (.int .i64 3) (.int .i64 0) (.slice none 0 0)
      obtain ⟨hB, _⟩ := resT_done hb3 (.int .i64 3) (.int .i64 0) (.slice none 0 0)
      have hBB := ((Below.refl w.heap.size w).alloc (Nat.le_refl _) _).trans (hB.mono (by simp))
      simp only [World.size_alloc] at hBB
      have HB := Lib.hid hBB
      clear hBB
      have f0 := ff 0 (by omega)
      have f1 := ff 1 (by omega)
      have f2 := ff 2 (by omega)
      simp only [World.size_alloc] at d0 d1 d2 f0 f1 f2 q0 q1 q2
      clear ff hb3 hbb hB k1 HL
      go_wp2_with fail
      exact bodyPost_ret (v := .agg #[.int .i64 3, .int .i64 0, .slice none 0 0]) (by simp [results, Try.results21, go_sem, q0, q1, q2]) rfl ⟨none, 0, 0, rfl, Wt.empty_top _ _, HB.out⟩
  · have e0 : trimCode bs room to xs = logCode bs room xs := by unfold trimCode; rw [if_pos hc]
    have e1 : trimBase bs room to xs = 0 := by unfold trimBase; rw [if_neg (by rw [e0]; exact hc)]
    have e2 : trimOut bs room to xs = [] := by unfold trimOut; rw [if_neg (by rw [e0]; exact hc)]
    rw [e0, e1, e2]
    clear e0 e1 e2
    generalize logCode bs room xs = lc at *
    have hcb : (lc != 0) = true := by simp [hc]
    clear h h2
    go_enter Try.func21, Try.ntmps21
    go_wp2_with fail
    refine HL.out.mono ?_
    rintro e w1 ⟨rfl, k1⟩
    have hbb := k1.below (B := ((w.alloc (.cells #[.int .i64 bs, .slice (some ⟨b, off, none⟩) n c] 26)).alloc (.cells #[.int .i64 0, .int .i64 0, .slice none 0 0] 32)).heap.size) (by omega) (Nat.le_refl _)
    obtain ⟨⟨d0, d1, d2⟩, ff, hb3, hz3⟩ := res3_cells hbb
    obtain ⟨q0, q1, q2⟩ := three_cells d0 d1 d2 (.int .i64 lc) (.int .i64 0) (.slice none 0 0)
    obtain ⟨hB, _⟩ := resT_done hb3 (.int .i64 lc) (.int .i64 0) (.slice none 0 0)
    have hBB := ((Below.refl w.heap.size w).alloc (Nat.le_refl _) _).trans (hB.mono (by simp))
    simp only [World.size_alloc] at hBB
    have HB := Lib.hid hBB
    clear hBB
    have f0 := ff 0 (by omega)
    have f1 := ff 1 (by omega)
    have f2 := ff 2 (by omega)
    simp only [World.size_alloc] at d0 d1 d2 f0 f1 f2 q0 q1 q2
    clear ff hb3 hbb hB k1 HL
    go_wp2_with fail
    exact bodyPost_ret (v := .agg #[.int .i64 lc, .int .i64 0, .slice none 0 0]) (by simp [results, Try.results21, go_sem, q0, q1, q2]) rfl ⟨none, 0, 0, rfl, Wt.empty_top _ _, HB.out⟩
end Go.Proofs.Ytlgpbnngepkkmaa
