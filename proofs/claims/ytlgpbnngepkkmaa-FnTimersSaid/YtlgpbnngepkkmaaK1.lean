/-
  Chapter 6: what is wrong with a timer; a stamp, what has passed; a new timer: both sides.
-/
import Derived.Test.YtlgpbnngepkkmaaO2
import Derived.Test.YtlgpbnngepkkmaaPut2
import Derived.Test.YtlgpbnngepkkmaaStr
namespace Go.Proofs.Ytlgpbnngepkkmaa
open Go.RowKit
set_option linter.unusedVariables false
set_option maxRecDepth 100000

/-- What is wrong with a timer. -/
def timerCode (k : Bool) (m s r : Int) : Int := if ¬ (0 ≤ m ∧ m ≤ 5000) ∨ ¬ (0 ≤ s ∧ s ≤ 5000) ∨ ¬ (50 ≤ r ∧ r ≤ 1000) then 3 else if k = false ∧ (m ≠ 0 ∨ s ≠ 0) then 8 else 0
theorem timer_out {k : Bool} {m s r : Int} (h : ¬ (0 ≤ m ∧ m ≤ 5000) ∨ ¬ (0 ≤ s ∧ s ≤ 5000) ∨ ¬ (50 ≤ r ∧ r ≤ 1000)) : timerCode k m s r = 3 := if_pos h
theorem timer_state {k : Bool} {m s r : Int} (h : (0 ≤ m ∧ m ≤ 5000) ∧ (0 ≤ s ∧ s ≤ 5000) ∧ (50 ≤ r ∧ r ≤ 1000)) (hk : k = false ∧ (m ≠ 0 ∨ s ≠ 0)) : timerCode k m s r = 8 := by
  unfold timerCode; rw [if_neg (by omega), if_pos hk]
theorem timer_ok {k : Bool} {m s r : Int} (h : (0 ≤ m ∧ m ≤ 5000) ∧ (0 ≤ s ∧ s ≤ 5000) ∧ (50 ≤ r ∧ r ≤ 1000)) (hk : ¬ (k = false ∧ (m ≠ 0 ∨ s ≠ 0))) : timerCode k m s r = 0 := by
  unfold timerCode; rw [if_neg (by omega), if_neg hk]
theorem timer_zero {k : Bool} {m s r : Int} (h : timerCode k m s r = 0) : ((0 ≤ m ∧ m ≤ 5000) ∧ (0 ≤ s ∧ s ≤ 5000) ∧ (50 ≤ r ∧ r ≤ 1000)) ∧ ¬ (k = false ∧ (m ≠ 0 ∨ s ≠ 0)) := by
  unfold timerCode at h
  split at h
  · omega
  · split at h
    · omega
    · rename_i h1 h2
      exact ⟨by omega, h2⟩
theorem retI {a b : Int} (h : a = b) : Ending.returned (.int .i64 a) = .returned (.int .i64 b) := by rw [h]

theorem outside3 (b c : Nat) (v f l v' f' l' v'' f'' l'' : Int) (r : Bool) (w : World) (hb : b < w.heap.size) (h0 : w.cell? ⟨b, 0, none⟩ = some (.int .i64 v)) (h1 : w.cell? ⟨b, 1, none⟩ = some (.int .i64 f)) (h2 : w.cell? ⟨b, 2, none⟩ = some (.int .i64 l))
    (h3 : w.cell? ⟨b, 3, none⟩ = some (.int .i64 v')) (h4 : w.cell? ⟨b, 4, none⟩ = some (.int .i64 f')) (h5 : w.cell? ⟨b, 5, none⟩ = some (.int .i64 l'))
    (h6 : w.cell? ⟨b, 6, none⟩ = some (.int .i64 v'')) (h7 : w.cell? ⟨b, 7, none⟩ = some (.int .i64 f'')) (h8 : w.cell? ⟨b, 8, none⟩ = some (.int .i64 l''))
    (hr : decide ((v < f ∨ l < v) ∨ (v' < f' ∨ l' < v') ∨ (v'' < f'' ∨ l'' < v'')) = r) :
    Calls Try.prog 54 #[.slice (some ⟨b, 0, none⟩) 3 c] w fun e w' => e = .returned (.bool r) ∧ Below w.heap.size w w' := by
  subst hr
  have hB : Bounds w b 3 fun j => if j = 0 then (v, f, l) else if j = 1 then (v', f', l') else (v'', f'', l'') := by
    intro j hj
    rcases (show j = 0 ∨ j = 1 ∨ j = 2 by omega) with rfl | rfl | rfl
    · exact ⟨h0, h1, h2⟩
    · exact ⟨h3, h4, h5⟩
    · exact ⟨h6, h7, h8⟩
  by_cases e1 : v < f ∨ l < v
  · rw [decide_eq_true (Or.inl e1)]
    exact outside_yes b 3 c 0 _ w hb (by omega) hB (by omega) (fun j hj => by omega) (by simpa using e1)
  · by_cases e2 : v' < f' ∨ l' < v'
    · rw [decide_eq_true (Or.inr (Or.inl e2))]
      exact outside_yes b 3 c 1 _ w hb (by omega) hB (by omega) (fun j hj => by
        obtain rfl : j = 0 := (by omega)
        simp
        omega) (by simpa using e2)
    · by_cases e3 : v'' < f'' ∨ l'' < v''
      · rw [decide_eq_true (Or.inr (Or.inr e3))]
        exact outside_yes b 3 c 2 _ w hb (by omega) hB (by omega) (fun j hj => by
          rcases (show j = 0 ∨ j = 1 by omega) with rfl | rfl
          · simp; omega
          · simp; omega) (by simpa using e3)
      · rw [decide_eq_false (by omega)]
        exact outside_no b 3 c _ w hb (by omega) hB (fun j hj => by
          rcases (show j = 0 ∨ j = 1 ∨ j = 2 by omega) with rfl | rfl | rfl
          · simp; omega
          · simp; omega
          · simp; omega)

set_option maxHeartbeats 3000000 in
theorem specTimerFault_any (k : Bool) (m s r : Int) (w : World) :
    Calls Try.prog 41 #[.agg #[.bool k, .int .i64 m, .int .i64 s, .int .i64 r]] w fun e w' => e = .returned (.int .i64 (timerCode k m s r)) ∧ Below w.heap.size w w' := by
  by_cases hm : 0 ≤ m ∧ m ≤ 5000
  · by_cases hs : 0 ≤ s ∧ s ≤ 5000
    · by_cases hr : 50 ≤ r ∧ r ≤ 1000
      · cases k
        · by_cases h0 : m = 0
          · subst h0
            by_cases h1 : s = 0
            · subst h1
              have HR := Lib.hid (retI (timer_ok (k := false) ⟨hm, hs, hr⟩ (by simp)).symm)
              go_enter Try.func41, Try.ntmps41
              go_wp2_with fail
              refine (l1In_any 0 0 5000 _ true (decide_eq_true hm)).mono ?_
              rintro e w1 ⟨rfl, rfl⟩
              go_wp2_with fail
              refine (l1In_any 0 0 5000 _ true (decide_eq_true hs)).mono ?_
              rintro e w1 ⟨rfl, rfl⟩
              go_wp2_with fail
              refine (l1In_any r 50 1000 _ true (decide_eq_true hr)).mono ?_
              rintro e w1 ⟨rfl, rfl⟩
              go_wp2_with fail
              go_ret
              exact ⟨HR.out, by go_grown⟩
            · have h1b : (s != 0) = true := by simp [h1]
              have HR := Lib.hid (retI (timer_state ⟨hm, hs, hr⟩ ⟨rfl, Or.inr h1⟩).symm)
              go_enter Try.func41, Try.ntmps41
              go_wp2_with fail
              refine (l1In_any 0 0 5000 _ true (decide_eq_true hm)).mono ?_
              rintro e w1 ⟨rfl, rfl⟩
              go_wp2_with fail
              refine (l1In_any s 0 5000 _ true (decide_eq_true hs)).mono ?_
              rintro e w1 ⟨rfl, rfl⟩
              go_wp2_with fail
              refine (l1In_any r 50 1000 _ true (decide_eq_true hr)).mono ?_
              rintro e w1 ⟨rfl, rfl⟩
              go_wp2_with fail
              go_ret
              exact ⟨HR.out, by go_grown⟩
          · have h0b : (m != 0) = true := by simp [h0]
            have HR := Lib.hid (retI (timer_state ⟨hm, hs, hr⟩ ⟨rfl, Or.inl h0⟩).symm)
            go_enter Try.func41, Try.ntmps41
            go_wp2_with fail
            refine (l1In_any m 0 5000 _ true (decide_eq_true hm)).mono ?_
            rintro e w1 ⟨rfl, rfl⟩
            go_wp2_with fail
            refine (l1In_any s 0 5000 _ true (decide_eq_true hs)).mono ?_
            rintro e w1 ⟨rfl, rfl⟩
            go_wp2_with fail
            refine (l1In_any r 50 1000 _ true (decide_eq_true hr)).mono ?_
            rintro e w1 ⟨rfl, rfl⟩
            go_wp2_with fail
            go_ret
            exact ⟨HR.out, by go_grown⟩
        · have HR := Lib.hid (retI (timer_ok (k := true) ⟨hm, hs, hr⟩ (by simp)).symm)
          go_enter Try.func41, Try.ntmps41
          go_wp2_with fail
          refine (l1In_any m 0 5000 _ true (decide_eq_true hm)).mono ?_
          rintro e w1 ⟨rfl, rfl⟩
          go_wp2_with fail
          refine (l1In_any s 0 5000 _ true (decide_eq_true hs)).mono ?_
          rintro e w1 ⟨rfl, rfl⟩
          go_wp2_with fail
          refine (l1In_any r 50 1000 _ true (decide_eq_true hr)).mono ?_
          rintro e w1 ⟨rfl, rfl⟩
          go_wp2_with fail
          go_ret
          exact ⟨HR.out, by go_grown⟩
      · have HR := Lib.hid (retI (timer_out (k := k) (m := m) (s := s) (r := r) (Or.inr (Or.inr hr))).symm)
        go_enter Try.func41, Try.ntmps41
        go_wp2_with fail
        refine (l1In_any m 0 5000 _ true (decide_eq_true hm)).mono ?_
        rintro e w1 ⟨rfl, rfl⟩
        go_wp2_with fail
        refine (l1In_any s 0 5000 _ true (decide_eq_true hs)).mono ?_
        rintro e w1 ⟨rfl, rfl⟩
        go_wp2_with fail
        refine (l1In_any r 50 1000 _ false (decide_eq_false hr)).mono ?_
        rintro e w1 ⟨rfl, rfl⟩
        go_wp2_with fail
        go_ret
        exact ⟨HR.out, by go_grown⟩
    · have HR := Lib.hid (retI (timer_out (k := k) (m := m) (s := s) (r := r) (Or.inr (Or.inl hs))).symm)
      go_enter Try.func41, Try.ntmps41
      go_wp2_with fail
      refine (l1In_any m 0 5000 _ true (decide_eq_true hm)).mono ?_
      rintro e w1 ⟨rfl, rfl⟩
      go_wp2_with fail
      refine (l1In_any s 0 5000 _ false (decide_eq_false hs)).mono ?_
      rintro e w1 ⟨rfl, rfl⟩
      go_wp2_with fail
      go_ret
      exact ⟨HR.out, by go_grown⟩
  · have HR := Lib.hid (retI (timer_out (k := k) (m := m) (s := s) (r := r) (Or.inl hm)).symm)
    go_enter Try.func41, Try.ntmps41
    go_wp2_with fail
    refine (l1In_any m 0 5000 _ false (decide_eq_false hm)).mono ?_
    rintro e w1 ⟨rfl, rfl⟩
    go_wp2_with fail
    go_ret
    exact ⟨HR.out, by go_grown⟩
/-- A timer's four cells, behind a call that leaves all that was there. -/
theorem tm_cells {w w1 : World} {o : Obj} {u0 u1 u2 u3 : Value} {t : TypeId} (h : Below ((w.alloc (.cells #[u0, u1, u2, u3] t)).alloc o).heap.size ((w.alloc (.cells #[u0, u1, u2, u3] t)).alloc o) w1) :
    w1.cell? ⟨w.heap.size, 0, none⟩ = some u0 ∧ w1.cell? ⟨w.heap.size, 1, none⟩ = some u1 ∧ w1.cell? ⟨w.heap.size, 2, none⟩ = some u2 ∧ w1.cell? ⟨w.heap.size, 3, none⟩ = some u3 ∧ Below w.heap.size w w1 := by
  have b0 := h.cell (p := ⟨w.heap.size, 0, none⟩) (by simp; omega)
  have b1 := h.cell (p := ⟨w.heap.size, 1, none⟩) (by simp; omega)
  have b2 := h.cell (p := ⟨w.heap.size, 2, none⟩) (by simp; omega)
  have b3 := h.cell (p := ⟨w.heap.size, 3, none⟩) (by simp; omega)
  simp [go_sem] at b0 b1 b2 b3
  exact ⟨b0, b1, b2, b3, (((Below.refl w.heap.size w).alloc (Nat.le_refl _) _).alloc (by simp) _).trans (h.mono (by simp; omega))⟩

set_option maxHeartbeats 3000000 in
theorem implTimerFault_any (k : Bool) (m s r : Int) (w : World) :
    Calls Try.prog 40 #[.agg #[.bool k, .int .i64 m, .int .i64 s, .int .i64 r]] w fun e w' => e = .returned (.int .i64 (timerCode k m s r)) ∧ Below w.heap.size w w' := by
  by_cases hin : (0 ≤ m ∧ m ≤ 5000) ∧ (0 ≤ s ∧ s ≤ 5000) ∧ (50 ≤ r ∧ r ≤ 1000)
  · have htd : decide ((m < 0 ∨ 5000 < m) ∨ (s < 0 ∨ 5000 < s) ∨ (r < 50 ∨ 1000 < r)) = false := decide_eq_false (by omega)
    cases k
    · by_cases h0 : m = 0
      · subst h0
        by_cases h1 : s = 0
        · subst h1
          have HR := Lib.hid (retI (timer_ok (k := false) hin (by simp)).symm)
          go_enter Try.func40, Try.ntmps40
          go_wp2_with fail
          refine (outside3 (w.heap.size + 1) 3 0 0 5000 0 0 5000 r 50 1000 false _ (by simp) (by simp [go_sem]) (by simp [go_sem]) (by simp [go_sem]) (by simp [go_sem]) (by simp [go_sem]) (by simp [go_sem]) (by simp [go_sem]) (by simp [go_sem]) (by simp [go_sem]) htd).mono ?_
          rintro e w1 ⟨rfl, hb1⟩
          obtain ⟨b0, b1, b2, b3, hb⟩ := tm_cells hb1
          clear hb1
          go_wp2_with fail
          go_ret
          exact ⟨HR.out, hb⟩
        · have h1b : (s != 0) = true := by simp [h1]
          have HR := Lib.hid (retI (timer_state hin ⟨rfl, Or.inr h1⟩).symm)
          go_enter Try.func40, Try.ntmps40
          go_wp2_with fail
          refine (outside3 (w.heap.size + 1) 3 0 0 5000 s 0 5000 r 50 1000 false _ (by simp) (by simp [go_sem]) (by simp [go_sem]) (by simp [go_sem]) (by simp [go_sem]) (by simp [go_sem]) (by simp [go_sem]) (by simp [go_sem]) (by simp [go_sem]) (by simp [go_sem]) htd).mono ?_
          rintro e w1 ⟨rfl, hb1⟩
          obtain ⟨b0, b1, b2, b3, hb⟩ := tm_cells hb1
          clear hb1
          go_wp2_with fail
          go_ret
          exact ⟨HR.out, hb⟩
      · have h0b : (m != 0) = true := by simp [h0]
        have HR := Lib.hid (retI (timer_state hin ⟨rfl, Or.inl h0⟩).symm)
        go_enter Try.func40, Try.ntmps40
        go_wp2_with fail
        refine (outside3 (w.heap.size + 1) 3 m 0 5000 s 0 5000 r 50 1000 false _ (by simp) (by simp [go_sem]) (by simp [go_sem]) (by simp [go_sem]) (by simp [go_sem]) (by simp [go_sem]) (by simp [go_sem]) (by simp [go_sem]) (by simp [go_sem]) (by simp [go_sem]) htd).mono ?_
        rintro e w1 ⟨rfl, hb1⟩
        obtain ⟨b0, b1, b2, b3, hb⟩ := tm_cells hb1
        clear hb1
        go_wp2_with fail
        go_ret
        exact ⟨HR.out, hb⟩
    · have HR := Lib.hid (retI (timer_ok (k := true) hin (by simp)).symm)
      go_enter Try.func40, Try.ntmps40
      go_wp2_with fail
      refine (outside3 (w.heap.size + 1) 3 m 0 5000 s 0 5000 r 50 1000 false _ (by simp) (by simp [go_sem]) (by simp [go_sem]) (by simp [go_sem]) (by simp [go_sem]) (by simp [go_sem]) (by simp [go_sem]) (by simp [go_sem]) (by simp [go_sem]) (by simp [go_sem]) htd).mono ?_
      rintro e w1 ⟨rfl, hb1⟩
      obtain ⟨b0, b1, b2, b3, hb⟩ := tm_cells hb1
      clear hb1
      go_wp2_with fail
      go_ret
      exact ⟨HR.out, hb⟩
  · have htd : decide ((m < 0 ∨ 5000 < m) ∨ (s < 0 ∨ 5000 < s) ∨ (r < 50 ∨ 1000 < r)) = true := decide_eq_true (by omega)
    have HR := Lib.hid (retI (timer_out (k := k) (m := m) (s := s) (r := r) (by omega)).symm)
    go_enter Try.func40, Try.ntmps40
    go_wp2_with fail
    refine (outside3 (w.heap.size + 1) 3 m 0 5000 s 0 5000 r 50 1000 true _ (by simp) (by simp [go_sem]) (by simp [go_sem]) (by simp [go_sem]) (by simp [go_sem]) (by simp [go_sem]) (by simp [go_sem]) (by simp [go_sem]) (by simp [go_sem]) (by simp [go_sem]) htd).mono ?_
    rintro e w1 ⟨rfl, hb1⟩
    obtain ⟨b0, b1, b2, b3, hb⟩ := tm_cells hb1
    clear hb1
    go_wp2_with fail
    go_ret
    exact ⟨HR.out, hb⟩

set_option maxHeartbeats 400000 in
theorem l6New_any (w : World) : Calls Try.prog 75 #[] w fun e w' => e = .returned (.agg #[.bool false, .int .i64 0, .int .i64 0, .int .i64 1000]) ∧ Below w.heap.size w w' := by
  go_enter Try.func75, Try.ntmps75
  go_wp2_with fail
  exact bodyPost_ret (v := .agg #[.bool false, .int .i64 0, .int .i64 0, .int .i64 1000]) (by simp [results, Try.results75, go_sem]) rfl ⟨rfl, by go_grown⟩
set_option maxHeartbeats 400000 in
theorem specNewTimer_any (w : World) : Calls Try.prog 43 #[] w fun e w' => e = .returned (.agg #[.int .i64 0, .bool false, .int .i64 0, .int .i64 0, .int .i64 1000]) ∧ Below w.heap.size w w' := by
  go_enter Try.func43, Try.ntmps43
  go_wp2_with fail
  refine (l6New_any _).mono ?_
  rintro e w1 ⟨rfl, hb⟩
  have c0 := hb.cell (p := ⟨w.heap.size, 0, none⟩) (by simp)
  have c1 := hb.cell (p := ⟨w.heap.size, 1, none⟩) (by simp)
  have c2 := hb.cell (p := ⟨w.heap.size, 2, none⟩) (by simp)
  have c3 := hb.cell (p := ⟨w.heap.size, 3, none⟩) (by simp)
  have c4 := hb.cell (p := ⟨w.heap.size, 4, none⟩) (by simp)
  have f0 := hb.frozen (p := ⟨w.heap.size, 0, none⟩) (by simp)
  have f1 := hb.frozen (p := ⟨w.heap.size, 1, none⟩) (by simp)
  have f2 := hb.frozen (p := ⟨w.heap.size, 2, none⟩) (by simp)
  have f3 := hb.frozen (p := ⟨w.heap.size, 3, none⟩) (by simp)
  have f4 := hb.frozen (p := ⟨w.heap.size, 4, none⟩) (by simp)
  simp [go_sem] at c0 c1 c2 c3 c4 f0 f1 f2 f3 f4
  have bb : Below w.heap.size w w1 := ((Below.refl w.heap.size w).alloc (Nat.le_refl _) _).trans (hb.mono (by simp))
  clear hb
  go_wp2_with fail
  exact bodyPost_ret (v := .agg #[.int .i64 0, .bool false, .int .i64 0, .int .i64 0, .int .i64 1000]) (by simp [results, Try.results43, go_sem, c0, c1, c2, c3, c4]) rfl ⟨rfl, (((((bb.setCell (Nat.le_refl _) _).setCell (Nat.le_refl _) _).setCell (Nat.le_refl _) _).setCell (Nat.le_refl _) _).setCell (Nat.le_refl _) _)⟩
set_option maxHeartbeats 400000 in
theorem implNewTimer_any (w : World) : Calls Try.prog 42 #[] w fun e w' => e = .returned (.agg #[.int .i64 0, .bool false, .int .i64 0, .int .i64 0, .int .i64 1000]) ∧ Below w.heap.size w w' := by
  go_enter Try.func42, Try.ntmps42
  go_wp2_with fail
  exact bodyPost_ret (v := .agg #[.int .i64 0, .bool false, .int .i64 0, .int .i64 0, .int .i64 1000]) (by simp [results, Try.results42, go_sem]) rfl ⟨rfl, by go_grown⟩

/-- What StampOf, PassedOf answer. -/
def stampCode (n : Int) : Int := if 0 ≤ n ∧ n ≤ 1000000 then 0 else 3
def stampAns (n : Int) : Int := if 0 ≤ n ∧ n ≤ 1000000 then n % 65536 else 0
def passedCode (n s : Int) : Int := if (0 ≤ n ∧ n ≤ 1000000) ∧ (0 ≤ s ∧ s ≤ 65535) then 0 else 3
def passedAns (n s : Int) : Int := if (0 ≤ n ∧ n ≤ 1000000) ∧ (0 ≤ s ∧ s ≤ 65535) then (n - s + 65536) % 65536 else 0
theorem tmod_nn {a b : Int} (h : 0 ≤ a) : a.tmod b = a % b := Int.tmod_eq_emod_of_nonneg h
/-- A result of a code and a number, in its own block. -/
theorem int_res {w w1 : World} {t : TypeId} {o : Obj} (h : Below ((w.alloc (.cells #[.int .i64 0, .int .i64 0] t)).alloc o).heap.size ((w.alloc (.cells #[.int .i64 0, .int .i64 0] t)).alloc o) w1) :
    w1.cell? ⟨w.heap.size, 0, none⟩ = some (.int .i64 0) ∧ w1.cell? ⟨w.heap.size, 1, none⟩ = some (.int .i64 0) ∧ w1.frozen? ⟨w.heap.size, 0, none⟩ = false ∧ w1.frozen? ⟨w.heap.size, 1, none⟩ = false ∧ ∀ x y, Below w.heap.size w ((w1.setCell ⟨w.heap.size, 0, none⟩ x).setCell ⟨w.heap.size, 1, none⟩ y) := by
  obtain ⟨c0, c1, f0, f1, bb, _⟩ := res_cells2 h
  exact ⟨c0, c1, f0, f1, fun x y => (bb.setCell (Nat.le_refl _) x).setCell (Nat.le_refl _) y⟩
set_option maxHeartbeats 800000 in
theorem implStamp_any (n : Int) (w : World) :
    Calls Try.prog 34 #[.int .i64 n] w fun e w' => e = .returned (.agg #[.int .i64 (stampCode n), .int .i64 (stampAns n)]) ∧ Below w.heap.size w w' := by
  by_cases hin : 0 ≤ n ∧ n ≤ 1000000
  · have HR : Hid (Ending.returned (.agg #[.int .i64 0, .int .i64 (n % 65536)]) = .returned (.agg #[.int .i64 (stampCode n), .int .i64 (stampAns n)])) := by show _ = _; rw [show stampCode n = 0 from if_pos hin, show stampAns n = n % 65536 from if_pos hin]
    have h1 : n.tmod 65536 = n % 65536 := tmod_nn hin.1
    have h2 : IntKind.i64.wrap (n % 65536) = n % 65536 := by rw [IntKind.wrap_i64]; omega
    have htd : decide (n < 0 ∨ 1000000 < n) = false := decide_eq_false (by omega)
    go_enter Try.func34, Try.ntmps34
    go_wp2_with fail
    refine (outside1 (w.heap.size + 1) 1 n 0 1000000 false _ (by simp) (by simp [go_sem]) (by simp [go_sem]) (by simp [go_sem]) htd).mono ?_
    rintro e w1 ⟨rfl, hb1⟩
    obtain ⟨c0, c1, f0, f1, hb⟩ := int_res hb1
    have HB := Lib.hid hb
    clear hb1 hb
    go_wp2_with fail
    exact bodyPost_ret (v := .agg #[.int .i64 0, .int .i64 (n % 65536)]) (by simp [results, Try.results34, go_sem, c0, c1]) rfl ⟨HR.out, HB.out _ _⟩
  · have HR : Hid (Ending.returned (.agg #[.int .i64 3, .int .i64 (0)]) = .returned (.agg #[.int .i64 (stampCode n), .int .i64 (stampAns n)])) := by show _ = _; rw [show stampCode n = 3 from if_neg hin, show stampAns n = 0 from if_neg hin]
    have htd : decide (n < 0 ∨ 1000000 < n) = true := decide_eq_true (by omega)
    go_enter Try.func34, Try.ntmps34
    go_wp2_with fail
    refine (outside1 (w.heap.size + 1) 1 n 0 1000000 true _ (by simp) (by simp [go_sem]) (by simp [go_sem]) (by simp [go_sem]) htd).mono ?_
    rintro e w1 ⟨rfl, hb1⟩
    obtain ⟨c0, c1, f0, f1, hb⟩ := int_res hb1
    have HB := Lib.hid hb
    clear hb1 hb
    go_wp2_with fail
    exact bodyPost_ret (v := .agg #[.int .i64 3, .int .i64 0]) (by simp [results, Try.results34, go_sem, c0, c1]) rfl ⟨HR.out, HB.out _ _⟩
set_option maxHeartbeats 800000 in
theorem implPassed_any (n s : Int) (w : World) :
    Calls Try.prog 36 #[.int .i64 n, .int .i64 s] w fun e w' => e = .returned (.agg #[.int .i64 (passedCode n s), .int .i64 (passedAns n s)]) ∧ Below w.heap.size w w' := by
  by_cases hin : (0 ≤ n ∧ n ≤ 1000000) ∧ (0 ≤ s ∧ s ≤ 65535)
  · have HR : Hid (Ending.returned (.agg #[.int .i64 0, .int .i64 ((n - s + 65536) % 65536)]) = .returned (.agg #[.int .i64 (passedCode n s), .int .i64 (passedAns n s)])) := by show _ = _; rw [show passedCode n s = 0 from if_pos hin, show passedAns n s = (n - s + 65536) % 65536 from if_pos hin]
    have h0 : IntKind.i64.wrap (n - s) = n - s := by rw [IntKind.wrap_i64]; omega
    have h3 : IntKind.i64.wrap (n - s + 65536) = n - s + 65536 := by rw [IntKind.wrap_i64]; omega
    have h1 : (n - s + 65536).tmod 65536 = (n - s + 65536) % 65536 := tmod_nn (by omega)
    have h2 : IntKind.i64.wrap ((n - s + 65536) % 65536) = (n - s + 65536) % 65536 := by rw [IntKind.wrap_i64]; omega
    have htd : decide ((n < 0 ∨ 1000000 < n) ∨ (s < 0 ∨ 65535 < s)) = false := decide_eq_false (by omega)
    go_enter Try.func36, Try.ntmps36
    go_wp2_with fail
    refine (outside2 (w.heap.size + 1) 2 n 0 1000000 s 0 65535 false _ (by simp) (by simp [go_sem]) (by simp [go_sem]) (by simp [go_sem]) (by simp [go_sem]) (by simp [go_sem]) (by simp [go_sem]) htd).mono ?_
    rintro e w1 ⟨rfl, hb1⟩
    obtain ⟨c0, c1, f0, f1, hb⟩ := int_res hb1
    have HB := Lib.hid hb
    clear hb1 hb
    go_wp2_with fail
    exact bodyPost_ret (v := .agg #[.int .i64 0, .int .i64 ((n - s + 65536) % 65536)]) (by simp [results, Try.results36, go_sem, c0, c1]) rfl ⟨HR.out, HB.out _ _⟩
  · have HR : Hid (Ending.returned (.agg #[.int .i64 3, .int .i64 (0)]) = .returned (.agg #[.int .i64 (passedCode n s), .int .i64 (passedAns n s)])) := by show _ = _; rw [show passedCode n s = 3 from if_neg hin, show passedAns n s = 0 from if_neg hin]
    have htd : decide ((n < 0 ∨ 1000000 < n) ∨ (s < 0 ∨ 65535 < s)) = true := decide_eq_true (by omega)
    go_enter Try.func36, Try.ntmps36
    go_wp2_with fail
    refine (outside2 (w.heap.size + 1) 2 n 0 1000000 s 0 65535 true _ (by simp) (by simp [go_sem]) (by simp [go_sem]) (by simp [go_sem]) (by simp [go_sem]) (by simp [go_sem]) (by simp [go_sem]) htd).mono ?_
    rintro e w1 ⟨rfl, hb1⟩
    obtain ⟨c0, c1, f0, f1, hb⟩ := int_res hb1
    have HB := Lib.hid hb
    clear hb1 hb
    go_wp2_with fail
    exact bodyPost_ret (v := .agg #[.int .i64 3, .int .i64 0]) (by simp [results, Try.results36, go_sem, c0, c1]) rfl ⟨HR.out, HB.out _ _⟩
set_option maxHeartbeats 400000 in
theorem l6Now_any (n : Int) (w : World) (r : Bool) (hr : decide (0 ≤ n ∧ n ≤ 1000000) = r) : Calls Try.prog 74 #[.int .i64 n] w fun e w' => e = .returned (.bool r) ∧ w = w' := by
  have HI := Lib.hid (fun w' => l1In_any n 0 1000000 w' r hr)
  clear hr
  go_enter Try.func74, Try.ntmps74
  go_wp2_with fail
  refine (HI.out _).mono ?_
  rintro e w1 ⟨rfl, rfl⟩
  go_wp2_with fail
  go_ret
  exact ⟨rfl, rfl⟩
set_option maxHeartbeats 800000 in
theorem specStamp_any (n : Int) (w : World) :
    Calls Try.prog 38 #[.int .i64 n] w fun e w' => e = .returned (.agg #[.int .i64 (stampCode n), .int .i64 (stampAns n)]) ∧ Below w.heap.size w w' := by
  by_cases hin : 0 ≤ n ∧ n ≤ 1000000
  · have HR : Hid (Ending.returned (.agg #[.int .i64 0, .int .i64 (n % 65536)]) = .returned (.agg #[.int .i64 (stampCode n), .int .i64 (stampAns n)])) := by show _ = _; rw [show stampCode n = 0 from if_pos hin, show stampAns n = n % 65536 from if_pos hin]
    have h1 : n.tmod 65536 = n % 65536 := tmod_nn hin.1
    have h2 : IntKind.i64.wrap (n % 65536) = n % 65536 := by rw [IntKind.wrap_i64]; omega
    go_enter Try.func38, Try.ntmps38
    go_wp2_with fail
    refine (l6Now_any n _ true (decide_eq_true hin)).mono ?_
    rintro e w1 ⟨rfl, rfl⟩
    go_wp2_with fail
    exact bodyPost_ret (v := .agg #[.int .i64 0, .int .i64 (n % 65536)]) (by simp [results, Try.results38, go_sem]) rfl ⟨HR.out, by go_grown⟩
  · have HR : Hid (Ending.returned (.agg #[.int .i64 3, .int .i64 (0)]) = .returned (.agg #[.int .i64 (stampCode n), .int .i64 (stampAns n)])) := by show _ = _; rw [show stampCode n = 3 from if_neg hin, show stampAns n = 0 from if_neg hin]
    go_enter Try.func38, Try.ntmps38
    go_wp2_with fail
    refine (l6Now_any n _ false (decide_eq_false hin)).mono ?_
    rintro e w1 ⟨rfl, rfl⟩
    go_wp2_with fail
    exact bodyPost_ret (v := .agg #[.int .i64 3, .int .i64 0]) (by simp [results, Try.results38, go_sem]) rfl ⟨HR.out, by go_grown⟩
set_option maxHeartbeats 800000 in
theorem specPassed_any (n s : Int) (w : World) :
    Calls Try.prog 39 #[.int .i64 n, .int .i64 s] w fun e w' => e = .returned (.agg #[.int .i64 (passedCode n s), .int .i64 (passedAns n s)]) ∧ Below w.heap.size w w' := by
  by_cases hin : (0 ≤ n ∧ n ≤ 1000000) ∧ (0 ≤ s ∧ s ≤ 65535)
  · have HR : Hid (Ending.returned (.agg #[.int .i64 0, .int .i64 ((n - s + 65536) % 65536)]) = .returned (.agg #[.int .i64 (passedCode n s), .int .i64 (passedAns n s)])) := by show _ = _; rw [show passedCode n s = 0 from if_pos hin, show passedAns n s = (n - s + 65536) % 65536 from if_pos hin]
    have h0 : n.tmod 65536 = n % 65536 := tmod_nn hin.1.1
    have h00 : IntKind.i64.wrap (n % 65536) = n % 65536 := by rw [IntKind.wrap_i64]; omega
    have h01 : IntKind.i64.wrap (n % 65536 - s) = n % 65536 - s := by rw [IntKind.wrap_i64]; omega
    have h3 : IntKind.i64.wrap (n % 65536 - s + 65536) = n % 65536 - s + 65536 := by rw [IntKind.wrap_i64]; omega
    have h1 : (n % 65536 - s + 65536).tmod 65536 = (n - s + 65536) % 65536 := by rw [tmod_nn (by omega)]; omega
    have h2 : IntKind.i64.wrap ((n - s + 65536) % 65536) = (n - s + 65536) % 65536 := by rw [IntKind.wrap_i64]; omega
    go_enter Try.func39, Try.ntmps39
    go_wp2_with fail
    refine (l6Now_any n _ true (decide_eq_true hin.1)).mono ?_
    rintro e w1 ⟨rfl, rfl⟩
    go_wp2_with fail
    refine (l1In_any s 0 65535 _ true (decide_eq_true hin.2)).mono ?_
    rintro e w1 ⟨rfl, rfl⟩
    go_wp2_with fail
    exact bodyPost_ret (v := .agg #[.int .i64 0, .int .i64 ((n - s + 65536) % 65536)]) (by simp [results, Try.results39, go_sem]) rfl ⟨HR.out, by go_grown⟩
  · have HR : Hid (Ending.returned (.agg #[.int .i64 3, .int .i64 (0)]) = .returned (.agg #[.int .i64 (passedCode n s), .int .i64 (passedAns n s)])) := by show _ = _; rw [show passedCode n s = 3 from if_neg hin, show passedAns n s = 0 from if_neg hin]
    by_cases h1 : 0 ≤ n ∧ n ≤ 1000000
    · have h2 : ¬ (0 ≤ s ∧ s ≤ 65535) := fun e => hin ⟨h1, e⟩
      go_enter Try.func39, Try.ntmps39
      go_wp2_with fail
      refine (l6Now_any n _ true (decide_eq_true h1)).mono ?_
      rintro e w1 ⟨rfl, rfl⟩
      go_wp2_with fail
      refine (l1In_any s 0 65535 _ false (decide_eq_false h2)).mono ?_
      rintro e w1 ⟨rfl, rfl⟩
      go_wp2_with fail
      exact bodyPost_ret (v := .agg #[.int .i64 3, .int .i64 0]) (by simp [results, Try.results39, go_sem]) rfl ⟨HR.out, by go_grown⟩
    · go_enter Try.func39, Try.ntmps39
      go_wp2_with fail
      refine (l6Now_any n _ false (decide_eq_false h1)).mono ?_
      rintro e w1 ⟨rfl, rfl⟩
      go_wp2_with fail
      exact bodyPost_ret (v := .agg #[.int .i64 3, .int .i64 0]) (by simp [results, Try.results39, go_sem]) rfl ⟨HR.out, by go_grown⟩

set_option maxHeartbeats 800000 in
theorem eqIntR_true (x y : Int) (w : World) : Calls Try.prog 46 #[.agg #[.int .i64 x, .int .i64 y], .agg #[.int .i64 x, .int .i64 y]] w fun e w' => e = .returned (.bool true) ∧ Below w.heap.size w w' := by
  go_enter Try.func46, Try.ntmps46
  go_wp2_with fail
  repeat (go_quiet (fail); go_wp2_with fail)
  go_ret
  exact ⟨rfl, by go_grown⟩
set_option maxHeartbeats 800000 in
theorem eqTimer_true (k : Bool) (m s r : Int) (w : World) : Calls Try.prog 76 #[.agg #[.bool k, .int .i64 m, .int .i64 s, .int .i64 r], .agg #[.bool k, .int .i64 m, .int .i64 s, .int .i64 r]] w fun e w' => e = .returned (.bool true) ∧ Below w.heap.size w w' := by
  go_enter Try.func76, Try.ntmps76
  go_wp2_with fail
  repeat (go_quiet (fail); go_wp2_with fail)
  go_ret
  exact ⟨rfl, by go_grown⟩
set_option maxHeartbeats 800000 in
theorem eqTimerResult_true (c : Int) (k : Bool) (m s r : Int) (w : World) : Calls Try.prog 45 #[.agg #[.int .i64 c, .bool k, .int .i64 m, .int .i64 s, .int .i64 r], .agg #[.int .i64 c, .bool k, .int .i64 m, .int .i64 s, .int .i64 r]] w fun e w' => e = .returned (.bool true) ∧ Below w.heap.size w w' := by
  go_enter Try.func45, Try.ntmps45
  go_wp2_with fail
  refine (eqTimer_true k m s r _).mono ?_
  rintro e w1 ⟨rfl, hb⟩
  have bb : Below w.heap.size w w1 := (((Below.refl w.heap.size w).alloc (Nat.le_refl _) _).alloc (by simp) _).trans (hb.mono (by simp; omega))
  clear hb
  go_wp2_with fail
  go_ret
  exact ⟨rfl, bb⟩
set_option maxHeartbeats 800000 in
theorem toTimer_any (k : Bool) (m s r : Int) (w : World) : Calls Try.prog 44 #[.agg #[.bool k, .int .i64 m, .int .i64 s, .int .i64 r]] w fun e w' => e = .returned (.agg #[.bool k, .int .i64 m, .int .i64 s, .int .i64 r]) ∧ Below w.heap.size w w' := by
  go_enter Try.func44, Try.ntmps44
  go_wp2_with fail
  exact bodyPost_ret (v := .agg #[.bool k, .int .i64 m, .int .i64 s, .int .i64 r]) (by simp [results, Try.results44, go_sem]) rfl ⟨rfl, by go_grown⟩
end Go.Proofs.Ytlgpbnngepkkmaa
