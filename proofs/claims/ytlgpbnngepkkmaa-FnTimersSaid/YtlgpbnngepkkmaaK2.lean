/-
  Chapter 6: a sample, both sides.
-/
import Derived.Test.YtlgpbnngepkkmaaK1
import Derived.Deep.RegionHeld3
import Derived.StillTailTactics
namespace Go.Proofs.Ytlgpbnngepkkmaa
open Go.RowKit
set_option linter.unusedVariables false
set_option maxRecDepth 100000

/-- What a sample makes of a timer. -/
def sampMean (k : Bool) (m ms : Int) : Int := if k = true then (7 * m + ms) / 8 else ms
def sampSwing (k : Bool) (m s ms : Int) : Int := if k = true then (3 * s + max (m - ms) (ms - m)) / 4 else ms / 2
def sampRto (m s : Int) : Int := max (min (m + 4 * s) 1000) 50
theorem mean_bound {k : Bool} {m ms : Int} (hm : 0 ≤ m ∧ m ≤ 5000) (hx : 0 ≤ ms ∧ ms ≤ 5000) : 0 ≤ sampMean k m ms ∧ sampMean k m ms ≤ 5000 := by unfold sampMean; split <;> omega
theorem swing_bound {k : Bool} {m s ms : Int} (hm : 0 ≤ m ∧ m ≤ 5000) (hs : 0 ≤ s ∧ s ≤ 5000) (hx : 0 ≤ ms ∧ ms ≤ 5000) : 0 ≤ sampSwing k m s ms ∧ sampSwing k m s ms ≤ 5000 := by unfold sampSwing; split <;> omega
theorem rto_bound (m s : Int) : 50 ≤ sampRto m s ∧ sampRto m s ≤ 1000 := by unfold sampRto; omega
theorem retAgg5 {c c' : Int} {k k' : Bool} {m m' s s' r r' : Int} (h0 : c = c') (h1 : k = k') (h2 : m = m') (h3 : s = s') (h4 : r = r') :
    Ending.returned (.agg #[.int .i64 c, .bool k, .int .i64 m, .int .i64 s, .int .i64 r]) = .returned (.agg #[.int .i64 c', .bool k', .int .i64 m', .int .i64 s', .int .i64 r']) := by rw [h0, h1, h2, h3, h4]
theorem retAgg4 {k k' : Bool} {m m' s s' r r' : Int} (h1 : k = k') (h2 : m = m') (h3 : s = s') (h4 : r = r') :
    Ending.returned (.agg #[.bool k, .int .i64 m, .int .i64 s, .int .i64 r]) = .returned (.agg #[.bool k', .int .i64 m', .int .i64 s', .int .i64 r']) := by rw [h1, h2, h3, h4]
theorem tmax_any (a b : Int) (w : World) : Calls Try.prog 83 #[.int .i64 a, .int .i64 b] w fun e w' => e = .returned (.int .i64 (max a b)) ∧ w = w' := by
  by_cases h : b < a
  · have HR : Hid (a = max a b) := by show _ = _; omega
    go_enter Try.func83, Try.ntmps83
    go_wp2_with fail
    go_ret
    exact ⟨retI HR.out, rfl⟩
  · have HR : Hid (b = max a b) := by show _ = _; omega
    go_enter Try.func83, Try.ntmps83
    go_wp2_with fail
    go_ret
    exact ⟨retI HR.out, rfl⟩
theorem tmin_any (a b : Int) (w : World) : Calls Try.prog 84 #[.int .i64 a, .int .i64 b] w fun e w' => e = .returned (.int .i64 (min a b)) ∧ w = w' := by
  by_cases h : a < b
  · have HR : Hid (a = min a b) := by show _ = _; omega
    go_enter Try.func84, Try.ntmps84
    go_wp2_with fail
    go_ret
    exact ⟨retI HR.out, rfl⟩
  · have HR : Hid (b = min a b) := by show _ = _; omega
    go_enter Try.func84, Try.ntmps84
    go_wp2_with fail
    go_ret
    exact ⟨retI HR.out, rfl⟩
/-- A mean begins: two cells of its own. -/
theorem mean_any (a b : Int) (w : World) : Calls Try.prog 71 #[.int .i64 a, .int .i64 b] w fun e w' => ∃ g h, e = .returned (.func (.func 82) #[] #[.pointer (some ⟨h, 0, none⟩), .pointer (some ⟨g, 0, none⟩)]) ∧
    w.heap.size ≤ g ∧ g < w'.heap.size ∧ w'.cell? ⟨g, 0, none⟩ = some (.int .i64 a) ∧ w'.frozen? ⟨g, 0, none⟩ = false ∧ w'.cell? ⟨h, 0, none⟩ = some (.int .i64 b) ∧ Below w.heap.size w w' := by
  go_enter Try.func71, Try.ntmps71
  go_wp2_with fail
  go_ret
  exact ⟨w.heap.size, w.heap.size + 1, rfl, Nat.le_refl _, by simp; omega, by simp [go_sem], by simp [go_sem], by simp [go_sem], by go_grown⟩
theorem apart_any (a b : Int) (w : World) (ha : 0 ≤ a ∧ a ≤ 5000) (hb : 0 ≤ b ∧ b ≤ 5000) : Calls Try.prog 72 #[.int .i64 a, .int .i64 b] w fun e w' => e = .returned (.int .i64 (max (a - b) (b - a))) ∧ w = w' := by
  have h1 : IntKind.i64.wrap (a - b) = a - b := by rw [IntKind.wrap_i64]; omega
  have h2 : IntKind.i64.wrap (b - a) = b - a := by rw [IntKind.wrap_i64]; omega
  go_enter Try.func72, Try.ntmps72
  go_wp2_with fail
  all_goals
    go_ret
    exact ⟨retI (by omega), rfl⟩
theorem mean_3 (v b : Int) (g h : Nat) (w : World) (hv : 0 ≤ v ∧ v ≤ 5000) (hb : 0 ≤ b ∧ b ≤ 5000) (hh : w.cell? ⟨h, 0, none⟩ = some (.int .i64 3)) (hg : w.cell? ⟨g, 0, none⟩ = some (.int .i64 b)) (fg : w.frozen? ⟨g, 0, none⟩ = false) :
    Calls Try.prog 82 #[.int .i64 v, .pointer (some ⟨h, 0, none⟩), .pointer (some ⟨g, 0, none⟩)] w fun e w' => e = .returned (.int .i64 ((3 * b + v) / 4)) ∧ w' = w.setCell ⟨g, 0, none⟩ (.int .i64 ((3 * b + v) / 4)) := by
  have h1 : IntKind.i64.wrap (3 * b) = 3 * b := by rw [IntKind.wrap_i64]; omega
  have h2 : IntKind.i64.wrap (3 * b + v) = 3 * b + v := by rw [IntKind.wrap_i64]; omega
  have h3 : (3 * b + v).tdiv 4 = (3 * b + v) / 4 := Int.tdiv_eq_ediv_of_nonneg (by omega)
  have h4 : IntKind.i64.wrap ((3 * b + v) / 4) = (3 * b + v) / 4 := by rw [IntKind.wrap_i64]; omega
  go_enter Try.func82, Try.ntmps82
  go_wp2_with fail
  go_ret
  exact ⟨rfl, rfl⟩
theorem mean_7 (v b : Int) (g h : Nat) (w : World) (hv : 0 ≤ v ∧ v ≤ 5000) (hb : 0 ≤ b ∧ b ≤ 5000) (hh : w.cell? ⟨h, 0, none⟩ = some (.int .i64 7)) (hg : w.cell? ⟨g, 0, none⟩ = some (.int .i64 b)) (fg : w.frozen? ⟨g, 0, none⟩ = false) :
    Calls Try.prog 82 #[.int .i64 v, .pointer (some ⟨h, 0, none⟩), .pointer (some ⟨g, 0, none⟩)] w fun e w' => e = .returned (.int .i64 ((7 * b + v) / 8)) ∧ w' = w.setCell ⟨g, 0, none⟩ (.int .i64 ((7 * b + v) / 8)) := by
  have h1 : IntKind.i64.wrap (7 * b) = 7 * b := by rw [IntKind.wrap_i64]; omega
  have h2 : IntKind.i64.wrap (7 * b + v) = 7 * b + v := by rw [IntKind.wrap_i64]; omega
  have h3 : (7 * b + v).tdiv 8 = (7 * b + v) / 8 := Int.tdiv_eq_ediv_of_nonneg (by omega)
  have h4 : IntKind.i64.wrap ((7 * b + v) / 8) = (7 * b + v) / 8 := by rw [IntKind.wrap_i64]; omega
  go_enter Try.func82, Try.ntmps82
  go_wp2_with fail
  go_ret
  exact ⟨rfl, rfl⟩

/-- A timer's box. -/
structure TBox (w : World) (b : Nat) (u0 u1 u2 u3 : Value) : Prop where
  c0 : w.cell? ⟨b, 0, none⟩ = some u0
  c1 : w.cell? ⟨b, 1, none⟩ = some u1
  c2 : w.cell? ⟨b, 2, none⟩ = some u2
  c3 : w.cell? ⟨b, 3, none⟩ = some u3
  f0 : w.frozen? ⟨b, 0, none⟩ = false
  f1 : w.frozen? ⟨b, 1, none⟩ = false
  f2 : w.frozen? ⟨b, 2, none⟩ = false
  f3 : w.frozen? ⟨b, 3, none⟩ = false

set_option maxHeartbeats 3000000 in
theorem l6Sample_any (k : Bool) (m s r ms : Int) (w : World) (hm : 0 ≤ m ∧ m ≤ 5000) (hs : 0 ≤ s ∧ s ≤ 5000) (hx : 0 ≤ ms ∧ ms ≤ 5000) :
    Calls Try.prog 73 #[.agg #[.bool k, .int .i64 m, .int .i64 s, .int .i64 r], .int .i64 ms] w fun e w' => e = .returned (.agg #[.bool true, .int .i64 (sampMean k m ms), .int .i64 (sampSwing k m s ms), .int .i64 (sampRto (sampMean k m ms) (sampSwing k m s ms))]) ∧ Below w.heap.size w w' := by
  obtain ⟨M, hMe⟩ : ∃ x, x = sampMean k m ms := ⟨_, rfl⟩
  obtain ⟨S, hSe⟩ : ∃ x, x = sampSwing k m s ms := ⟨_, rfl⟩
  have hM : 0 ≤ M ∧ M ≤ 5000 := hMe ▸ mean_bound hm hx
  have hS : 0 ≤ S ∧ S ≤ 5000 := hSe ▸ swing_bound hm hs hx
  rw [← hMe, ← hSe]
  have r1 : IntKind.i64.wrap (4 * S) = 4 * S := by rw [IntKind.wrap_i64]; omega
  have r2 : IntKind.i64.wrap (M + 4 * S) = M + 4 * S := by rw [IntKind.wrap_i64]; omega
  cases k
  · obtain rfl : M = ms := hMe
    have h3 : M.tdiv 2 = S := by rw [hSe]; exact Int.tdiv_eq_ediv_of_nonneg (by omega)
    have h4 : IntKind.i64.wrap S = S := by rw [IntKind.wrap_i64]; omega
    have HSE := Lib.hid hSe
    clear hSe
    go_enter Try.func73, Try.ntmps73
    go_wp2_with fail
    refine (tmin_any (M + 4 * S) 1000 _).mono ?_
    rintro e w1 ⟨rfl, rfl⟩
    go_wp2_with fail
    refine (tmax_any (min (M + 4 * S) 1000) 50 _).mono ?_
    rintro e w1 ⟨rfl, rfl⟩
    go_wp2_with fail
    exact bodyPost_ret (v := .agg #[.bool true, .int .i64 M, .int .i64 S, .int .i64 (max (min (M + 4 * S) 1000) 50)]) (by simp [results, Try.results73, go_sem]) rfl ⟨rfl, by go_grown⟩
  · obtain ⟨D, hD⟩ : ∃ x, x = max (m - ms) (ms - m) := ⟨_, rfl⟩
    have q1 : IntKind.i64.wrap (3 * s) = 3 * s := by rw [IntKind.wrap_i64]; omega
    have q2 : IntKind.i64.wrap (m - ms) = m - ms := by rw [IntKind.wrap_i64]; omega
    have q3 : IntKind.i64.wrap (ms - m) = ms - m := by rw [IntKind.wrap_i64]; omega
    have q4 : IntKind.i64.wrap (3 * s + D) = 3 * s + D := by rw [IntKind.wrap_i64]; omega
    have q5 : (3 * s + D).tdiv 4 = S := by rw [hSe]; unfold sampSwing; rw [if_pos rfl, ← hD]; exact Int.tdiv_eq_ediv_of_nonneg (by omega)
    have q6 : IntKind.i64.wrap S = S := by rw [IntKind.wrap_i64]; omega
    have p1 : IntKind.i64.wrap (7 * m) = 7 * m := by rw [IntKind.wrap_i64]; omega
    have p2 : IntKind.i64.wrap (7 * m + ms) = 7 * m + ms := by rw [IntKind.wrap_i64]; omega
    have p3 : (7 * m + ms).tdiv 8 = M := by rw [hMe]; unfold sampMean; rw [if_pos rfl]; exact Int.tdiv_eq_ediv_of_nonneg (by omega)
    have p4 : IntKind.i64.wrap M = M := by rw [IntKind.wrap_i64]; omega
    have HX := Lib.hid (fun w' => tmax_any (m - ms) (ms - m) w')
    rw [← hD] at HX
    clear hSe hMe hD
    go_enter Try.func73, Try.ntmps73
    go_wp2_with fail
    have tb : TBox ((w.alloc (.cells #[.bool true, .int .i64 m, .int .i64 s, .int .i64 r] 52)).alloc (.cells #[.bool false, .int .i64 0, .int .i64 0, .int .i64 0] 52)) w.heap.size (.bool true) (.int .i64 m) (.int .i64 s) (.int .i64 r) := by
      refine ⟨?_, ?_, ?_, ?_, ?_, ?_, ?_, ?_⟩ <;> simp [go_sem]
    have rb : TBox ((w.alloc (.cells #[.bool true, .int .i64 m, .int .i64 s, .int .i64 r] 52)).alloc (.cells #[.bool false, .int .i64 0, .int .i64 0, .int .i64 0] 52)) (w.heap.size + 1) (.bool false) (.int .i64 0) (.int .i64 0) (.int .i64 0) := by
      refine ⟨?_, ?_, ?_, ?_, ?_, ?_, ?_, ?_⟩ <;> simp [go_sem]
    have bb : Below w.heap.size w ((w.alloc (.cells #[.bool true, .int .i64 m, .int .i64 s, .int .i64 r] 52)).alloc (.cells #[.bool false, .int .i64 0, .int .i64 0, .int .i64 0] 52)) := by go_grown
    generalize (w.alloc (.cells #[.bool true, .int .i64 m, .int .i64 s, .int .i64 r] 52)).alloc (.cells #[.bool false, .int .i64 0, .int .i64 0, .int .i64 0] 52) = wr at *
    obtain ⟨b0, b1, b2, b3, g0, g1, g2, g3⟩ := tb
    obtain ⟨c0, c1, c2, c3, f0, f1, f2, f3⟩ := rb
    have HF : Hid (∀ u2 u1 u3 u0 x0 x1 x2 x3 : Value, Below w.heap.size w ((((((((wr.setCell ⟨w.heap.size, 2, none⟩ u2).setCell ⟨w.heap.size, 1, none⟩ u1).setCell ⟨w.heap.size, 3, none⟩ u3).setCell ⟨w.heap.size, 0, none⟩ u0).setCell ⟨w.heap.size + 1, 0, none⟩ x0).setCell ⟨w.heap.size + 1, 1, none⟩ x1).setCell ⟨w.heap.size + 1, 2, none⟩ x2).setCell ⟨w.heap.size + 1, 3, none⟩ x3).drew) := fun u2 u1 u3 u0 x0 x1 x2 x3 => ((((((((bb.setCell (Nat.le_refl _) _).setCell (Nat.le_refl _) _).setCell (Nat.le_refl _) _).setCell (Nat.le_refl _) _).setCell (Nat.le_succ _) _).setCell (Nat.le_succ _) _).setCell (Nat.le_succ _) _).setCell (Nat.le_succ _) _).drew
    clear bb
    go_still_tail 15, (by kernel_rfl)
    still_call ((HX.out _).mono (fun _ _ ⟨he, hw⟩ => ⟨he, hw.symm⟩))
    repeat still_step
    refine wpStill_nil ?_
    change wpList _ _ _ _ _ wr.drew
    all_goals
      go_wp2_with fail
      refine (tmin_any (M + 4 * S) 1000 _).mono ?_
      rintro e w1 ⟨rfl, rfl⟩
      go_wp2_with fail
      refine (tmax_any (min (M + 4 * S) 1000) 50 _).mono ?_
      rintro e w1 ⟨rfl, rfl⟩
      go_wp2_with fail
      exact bodyPost_ret (v := .agg #[.bool true, .int .i64 M, .int .i64 S, .int .i64 (max (min (M + 4 * S) 1000) 50)]) (by simp [results, Try.results73, go_sem, c0, c1, c2, c3]) rfl ⟨rfl, HF.out _ _ _ _ _ _ _ _⟩

/-- What a sample answers. -/
def sampCode (k : Bool) (m s r ms : Int) : Int := if timerCode k m s r ≠ 0 then timerCode k m s r else if 0 ≤ ms ∧ ms ≤ 5000 then 0 else 3
theorem samp_fault {k : Bool} {m s r : Int} (ms : Int) (h : timerCode k m s r ≠ 0) : sampCode k m s r ms = timerCode k m s r := if_pos h
theorem samp_range {k : Bool} {m s r ms : Int} (h : timerCode k m s r = 0) (hx : ¬ (0 ≤ ms ∧ ms ≤ 5000)) : sampCode k m s r ms = 3 := by unfold sampCode; rw [if_neg (by omega), if_neg hx]
theorem samp_ok {k : Bool} {m s r ms : Int} (h : timerCode k m s r = 0) (hx : 0 ≤ ms ∧ ms ≤ 5000) : sampCode k m s r ms = 0 := by unfold sampCode; rw [if_neg (by omega), if_pos hx]
/-- A sample's whole answer. -/
def sampAns (k : Bool) (m s r ms : Int) : Value := if sampCode k m s r ms = 0 then .agg #[.int .i64 0, .bool true, .int .i64 (sampMean k m ms), .int .i64 (sampSwing k m s ms), .int .i64 (sampRto (sampMean k m ms) (sampSwing k m s ms))]
  else .agg #[.int .i64 (sampCode k m s r ms), .bool false, .int .i64 0, .int .i64 0, .int .i64 0]
theorem ans_ok {k : Bool} {m s r ms : Int} (h : sampCode k m s r ms = 0) : sampAns k m s r ms = .agg #[.int .i64 0, .bool true, .int .i64 (sampMean k m ms), .int .i64 (sampSwing k m s ms), .int .i64 (sampRto (sampMean k m ms) (sampSwing k m s ms))] := if_pos h
theorem ans_bad {k : Bool} {m s r ms : Int} (h : sampCode k m s r ms ≠ 0) : sampAns k m s r ms = .agg #[.int .i64 (sampCode k m s r ms), .bool false, .int .i64 0, .int .i64 0, .int .i64 0] := if_neg h
end Go.Proofs.Ytlgpbnngepkkmaa
