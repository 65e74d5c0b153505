/-
  Chapter 6: SampleTimer, both sides.
-/
import Derived.Test.YtlgpbnngepkkmaaK2
import Derived.Deep.CutRange
namespace Go.Proofs.Ytlgpbnngepkkmaa
open Go.RowKit
set_option linter.unusedVariables false
set_option maxRecDepth 100000

/-- A result's box: a code and a timer. -/
structure RBox (w : World) (b : Nat) (u0 u1 u2 u3 u4 : Value) : Prop where
  lt : b < w.heap.size
  c0 : w.cell? ⟨b, 0, none⟩ = some u0
  c1 : w.cell? ⟨b, 1, none⟩ = some u1
  c2 : w.cell? ⟨b, 2, none⟩ = some u2
  c3 : w.cell? ⟨b, 3, none⟩ = some u3
  c4 : w.cell? ⟨b, 4, none⟩ = some u4
  f0 : w.frozen? ⟨b, 0, none⟩ = false
  f1 : w.frozen? ⟨b, 1, none⟩ = false
  f2 : w.frozen? ⟨b, 2, none⟩ = false
  f3 : w.frozen? ⟨b, 3, none⟩ = false
  f4 : w.frozen? ⟨b, 4, none⟩ = false
theorem RBox.keep {w w' : World} {b : Nat} {u0 u1 u2 u3 u4 : Value} (h : RBox w b u0 u1 u2 u3 u4) (k : Below w.heap.size w w') : RBox w' b u0 u1 u2 u3 u4 :=
  ⟨Nat.lt_of_lt_of_le h.lt k.size, (k.cell h.lt).trans h.c0, (k.cell h.lt).trans h.c1, (k.cell h.lt).trans h.c2, (k.cell h.lt).trans h.c3, (k.cell h.lt).trans h.c4,
    (k.frozen h.lt).trans h.f0, (k.frozen h.lt).trans h.f1, (k.frozen h.lt).trans h.f2, (k.frozen h.lt).trans h.f3, (k.frozen h.lt).trans h.f4⟩
theorem TBox.keep {w w' : World} {b : Nat} {u0 u1 u2 u3 : Value} (h : TBox w b u0 u1 u2 u3) (hl : b < w.heap.size) (k : Below w.heap.size w w') : TBox w' b u0 u1 u2 u3 :=
  ⟨(k.cell hl).trans h.c0, (k.cell hl).trans h.c1, (k.cell hl).trans h.c2, (k.cell hl).trans h.c3, (k.frozen hl).trans h.f0, (k.frozen hl).trans h.f1, (k.frozen hl).trans h.f2, (k.frozen hl).trans h.f3⟩
theorem TBox.set2 {w : World} {b : Nat} {u0 u1 u2 u3 : Value} (h : TBox w b u0 u1 u2 u3) (v : Value) : TBox (w.setCell ⟨b, 2, none⟩ v) b u0 u1 v u3 := by
  refine ⟨?_, ?_, ?_, ?_, ?_, ?_, ?_, ?_⟩ <;> simp [go_sem, h.c0, h.c1, h.c2, h.c3, h.f0, h.f1, h.f2, h.f3]
theorem TBox.far {w : World} {b : Nat} {u0 u1 u2 u3 : Value} (h : TBox w b u0 u1 u2 u3) (p : Addr) (v : Value) (hp : ¬ b = p.block) : TBox (w.setCell p v) b u0 u1 u2 u3 := by
  have hp' : ¬ p.block = b := fun e => hp e.symm
  refine ⟨?_, ?_, ?_, ?_, ?_, ?_, ?_, ?_⟩
  · exact (World.cell?_setCell_far _ _ _ _ hp').trans h.c0
  · exact (World.cell?_setCell_far _ _ _ _ hp').trans h.c1
  · exact (World.cell?_setCell_far _ _ _ _ hp').trans h.c2
  · exact (World.cell?_setCell_far _ _ _ _ hp').trans h.c3
  · simp [h.f0]
  · simp [h.f1]
  · simp [h.f2]
  · simp [h.f3]
theorem RBox.far {w : World} {b : Nat} {u0 u1 u2 u3 u4 : Value} (h : RBox w b u0 u1 u2 u3 u4) (p : Addr) (v : Value) (hp : ¬ b = p.block) : RBox (w.setCell p v) b u0 u1 u2 u3 u4 := by
  have hp' : ¬ p.block = b := fun e => hp e.symm
  refine ⟨?_, ?_, ?_, ?_, ?_, ?_, ?_, ?_, ?_, ?_, ?_⟩
  · simpa using h.lt
  · exact (World.cell?_setCell_far _ _ _ _ hp').trans h.c0
  · exact (World.cell?_setCell_far _ _ _ _ hp').trans h.c1
  · exact (World.cell?_setCell_far _ _ _ _ hp').trans h.c2
  · exact (World.cell?_setCell_far _ _ _ _ hp').trans h.c3
  · exact (World.cell?_setCell_far _ _ _ _ hp').trans h.c4
  · simp [h.f0]
  · simp [h.f1]
  · simp [h.f2]
  · simp [h.f3]
  · simp [h.f4]
/-- What stands at the beginning: the argument's box and the answer's. -/
theorem samp_start (w : World) (k : Bool) (m s r : Int) :
    TBox ((w.alloc (.cells #[.bool k, .int .i64 m, .int .i64 s, .int .i64 r] 52)).alloc (.cells #[.int .i64 0, .bool false, .int .i64 0, .int .i64 0, .int .i64 0] 56)) w.heap.size (.bool k) (.int .i64 m) (.int .i64 s) (.int .i64 r) ∧
    RBox ((w.alloc (.cells #[.bool k, .int .i64 m, .int .i64 s, .int .i64 r] 52)).alloc (.cells #[.int .i64 0, .bool false, .int .i64 0, .int .i64 0, .int .i64 0] 56)) (w.heap.size + 1) (.int .i64 0) (.bool false) (.int .i64 0) (.int .i64 0) (.int .i64 0) ∧
    Below w.heap.size w ((w.alloc (.cells #[.bool k, .int .i64 m, .int .i64 s, .int .i64 r] 52)).alloc (.cells #[.int .i64 0, .bool false, .int .i64 0, .int .i64 0, .int .i64 0] 56)) ∧
    ((w.alloc (.cells #[.bool k, .int .i64 m, .int .i64 s, .int .i64 r] 52)).alloc (.cells #[.int .i64 0, .bool false, .int .i64 0, .int .i64 0, .int .i64 0] 56)).heap.size = w.heap.size + 2 := by
  refine ⟨⟨?_, ?_, ?_, ?_, ?_, ?_, ?_, ?_⟩, ⟨?_, ?_, ?_, ?_, ?_, ?_, ?_, ?_, ?_, ?_, ?_⟩, ((Below.refl _ _).alloc (Nat.le_refl _) _).alloc (by simp) _, by simp⟩ <;> simp [go_sem]
/-- And behind its five stores. -/
theorem five_done {w w1 : World} (hb : Below w.heap.size w w1) : ∀ v0 v1 v2 v3 v4 : Value, Below w.heap.size w (((((w1.setCell ⟨w.heap.size + 1, 0, none⟩ v0).setCell ⟨w.heap.size + 1, 1, none⟩ v1).setCell ⟨w.heap.size + 1, 2, none⟩ v2).setCell ⟨w.heap.size + 1, 3, none⟩ v3).setCell ⟨w.heap.size + 1, 4, none⟩ v4) :=
  fun v0 v1 v2 v3 v4 => ((((hb.setCell (Nat.le_succ _) _).setCell (Nat.le_succ _) _).setCell (Nat.le_succ _) _).setCell (Nat.le_succ _) _).setCell (Nat.le_succ _) _
theorem ret_ans {v v' : Value} (h : v' = v) : Ending.returned v = .returned v' := by rw [h]

set_option maxHeartbeats 3000000 in
theorem specSample_any (k : Bool) (m s r ms : Int) (w : World) :
    Calls Try.prog 37 #[.agg #[.bool k, .int .i64 m, .int .i64 s, .int .i64 r], .int .i64 ms] w fun e w' => e = .returned (sampAns k m s r ms) ∧ Below w.heap.size w w' := by
  obtain ⟨tc, htc⟩ : ∃ x, timerCode k m s r = x := ⟨_, rfl⟩
  have HT := Lib.hid (fun w' => specTimerFault_any k m s r w')
  rw [htc] at HT
  by_cases h0 : tc = 0
  · subst h0
    by_cases hx : 0 ≤ ms ∧ ms ≤ 5000
    · obtain ⟨⟨hm, hs, hr⟩, _⟩ := timer_zero htc
      have HL := Lib.hid (fun w' => l6Sample_any k m s r ms w' hm hs hx)
      have HR0 := ans_ok (samp_ok htc hx)
      generalize sampMean k m ms = M at *
      generalize sampSwing k m s ms = S at *
      generalize sampRto M S = R at *
      have HR := Lib.hid HR0
      clear htc HR0
      go_enter Try.func37, Try.ntmps37
      go_wp2_with fail
      obtain ⟨tb, rb, bb, zz⟩ := samp_start w k m s r
      generalize ((w.alloc (.cells #[.bool k, .int .i64 m, .int .i64 s, .int .i64 r] 52)).alloc (.cells #[.int .i64 0, .bool false, .int .i64 0, .int .i64 0, .int .i64 0] 56)) = w0 at *
      refine (HT.out _).mono ?_
      rintro e w1 ⟨rfl, hb1⟩
      replace tb := tb.keep (by omega) hb1
      replace rb := rb.keep hb1
      replace bb := bb.trans (hb1.mono (by omega))
      have z1 := hb1.size
      clear hb1
      have b0 := tb.c0
      have b1 := tb.c1
      have b2 := tb.c2
      have b3 := tb.c3
      go_wp2_with fail
      refine (l1In_any ms 0 5000 _ true (decide_eq_true hx)).mono ?_
      rintro e w2 ⟨rfl, rfl⟩
      go_wp2_with fail
      refine (HL.out _).mono ?_
      rintro e w2 ⟨rfl, hb2⟩
      replace rb := rb.keep hb2
      have HF := Lib.hid (five_done (bb.trans (hb2.mono (by omega))))
      clear bb hb2 tb b0 b1 b2 b3
      have ⟨rl, c0, c1, c2, c3, c4, f0, f1, f2, f3, f4⟩ := rb
      go_wp2_with fail
      exact bodyPost_ret (v := .agg #[.int .i64 0, .bool true, .int .i64 M, .int .i64 S, .int .i64 R]) (by simp [results, Try.results37, go_sem, c0, c1, c2, c3, c4]) rfl ⟨ret_ans HR.out, HF.out _ _ _ _ _⟩
    · have HR : Hid (sampAns k m s r ms = .agg #[.int .i64 3, .bool false, .int .i64 0, .int .i64 0, .int .i64 0]) := by show _ = _; rw [ans_bad (by rw [samp_range htc hx]; omega), samp_range htc hx]
      clear htc
      go_enter Try.func37, Try.ntmps37
      go_wp2_with fail
      obtain ⟨tb, rb, bb, zz⟩ := samp_start w k m s r
      generalize ((w.alloc (.cells #[.bool k, .int .i64 m, .int .i64 s, .int .i64 r] 52)).alloc (.cells #[.int .i64 0, .bool false, .int .i64 0, .int .i64 0, .int .i64 0] 56)) = w0 at *
      refine (HT.out _).mono ?_
      rintro e w1 ⟨rfl, hb1⟩
      replace tb := tb.keep (by omega) hb1
      replace rb := rb.keep hb1
      replace bb := bb.trans (hb1.mono (by omega))
      have z1 := hb1.size
      clear hb1
      obtain ⟨b0, b1, b2, b3, g0, g1, g2, g3⟩ := tb
      have ⟨rl, c0, c1, c2, c3, c4, f0, f1, f2, f3, f4⟩ := rb
      go_wp2_with fail
      refine (l1In_any ms 0 5000 _ false (decide_eq_false hx)).mono ?_
      rintro e w2 ⟨rfl, rfl⟩
      have HF := Lib.hid (five_done bb)
      clear bb
      go_wp2_with fail
      exact bodyPost_ret (v := .agg #[.int .i64 3, .bool false, .int .i64 0, .int .i64 0, .int .i64 0]) (by simp [results, Try.results37, go_sem, c0, c1, c2, c3, c4]) rfl ⟨ret_ans HR.out, HF.out _ _ _ _ _⟩
  · have hcb : (tc != 0) = true := by simp [h0]
    have HR : Hid (sampAns k m s r ms = .agg #[.int .i64 tc, .bool false, .int .i64 0, .int .i64 0, .int .i64 0]) := by show _ = _; rw [ans_bad (by rw [samp_fault ms (by omega)]; omega), samp_fault ms (by omega), htc]
    clear htc
    go_enter Try.func37, Try.ntmps37
    go_wp2_with fail
    obtain ⟨tb, rb, bb, zz⟩ := samp_start w k m s r
    generalize ((w.alloc (.cells #[.bool k, .int .i64 m, .int .i64 s, .int .i64 r] 52)).alloc (.cells #[.int .i64 0, .bool false, .int .i64 0, .int .i64 0, .int .i64 0] 56)) = w0 at *
    refine (HT.out _).mono ?_
    rintro e w1 ⟨rfl, hb1⟩
    replace tb := tb.keep (by omega) hb1
    replace rb := rb.keep hb1
    replace bb := bb.trans (hb1.mono (by omega))
    have z1 := hb1.size
    clear hb1
    obtain ⟨b0, b1, b2, b3, g0, g1, g2, g3⟩ := tb
    have ⟨rl, c0, c1, c2, c3, c4, f0, f1, f2, f3, f4⟩ := rb
    have HF := Lib.hid (five_done bb)
    clear bb
    go_wp2_with fail
    exact bodyPost_ret (v := .agg #[.int .i64 tc, .bool false, .int .i64 0, .int .i64 0, .int .i64 0]) (by simp [results, Try.results37, go_sem, c0, c1, c2, c3, c4]) rfl ⟨ret_ans HR.out, HF.out _ _ _ _ _⟩

set_option maxHeartbeats 3000000 in
theorem implSample_any (k : Bool) (m s r ms : Int) (w : World) :
    Calls Try.prog 32 #[.agg #[.bool k, .int .i64 m, .int .i64 s, .int .i64 r], .int .i64 ms] w fun e w' => e = .returned (sampAns k m s r ms) ∧ Below w.heap.size w w' := by
  obtain ⟨tc, htc⟩ : ∃ x, timerCode k m s r = x := ⟨_, rfl⟩
  have HT := Lib.hid (fun w' => implTimerFault_any k m s r w')
  rw [htc] at HT
  by_cases h0 : tc = 0
  · subst h0
    by_cases hx : 0 ≤ ms ∧ ms ≤ 5000
    · obtain ⟨⟨hm, hs, hr⟩, _⟩ := timer_zero htc
      have HR0 := ans_ok (samp_ok htc hx)
      have hM := mean_bound (k := k) hm hx
      have hS := swing_bound (k := k) hm hs hx
      have HA : Hid (sampMean k m ms = if k = true then (7 * m + ms) / 8 else ms) := by show _ = _; rfl
      have HB : Hid (sampSwing k m s ms = if k = true then (3 * s + max (m - ms) (ms - m)) / 4 else ms / 2) := by show _ = _; rfl
      have hR := rto_bound (sampMean k m ms) (sampSwing k m s ms)
      have HC : Hid (sampRto (sampMean k m ms) (sampSwing k m s ms) = min (max (sampMean k m ms + 4 * sampSwing k m s ms) 50) 1000) := by show _ = _; unfold sampRto; omega
      generalize sampMean k m ms = M at *
      generalize sampSwing k m s ms = S at *
      generalize sampRto M S = R at *
      have r1 : IntKind.i64.wrap (4 * S) = 4 * S := by rw [IntKind.wrap_i64]; omega
      have r2 : IntKind.i64.wrap (M + 4 * S) = M + 4 * S := by rw [IntKind.wrap_i64]; omega
      have t1 : ms.tdiv 2 = ms / 2 := Int.tdiv_eq_ediv_of_nonneg (by omega)
      have t2 : IntKind.i64.wrap (ms / 2) = ms / 2 := by rw [IntKind.wrap_i64]; omega
      have HR := Lib.hid HR0
      clear htc HR0
      cases k
      · have hm' : M = ms := HA.out
        have hs' : S = ms / 2 := HB.out
        subst hm'
        rw [← hs'] at t1 t2
        have HS2 := Lib.hid hs'
        clear hs'
        go_enter Try.func32, Try.ntmps32
        go_wp2_with fail
        obtain ⟨tb, rb, bb, zz⟩ := samp_start w false m s r
        generalize ((w.alloc (.cells #[.bool false, .int .i64 m, .int .i64 s, .int .i64 r] 52)).alloc (.cells #[.int .i64 0, .bool false, .int .i64 0, .int .i64 0, .int .i64 0] 56)) = w0 at *
        refine (HT.out _).mono ?_
        rintro e w1 ⟨rfl, hb1⟩
        replace tb := tb.keep (by omega) hb1
        replace rb := rb.keep hb1
        replace bb := bb.trans (hb1.mono (by omega))
        have z1 := hb1.size
        clear hb1
        have b0 := tb.c0
        have b1 := tb.c1
        have b2 := tb.c2
        have b3 := tb.c3
        go_wp2_with fail
        refine (outside1 w1.heap.size 1 M 0 5000 false _ (by simp) (by simp [go_sem]) (by simp [go_sem]) (by simp [go_sem]) (decide_eq_false (by omega))).mono ?_
        rintro e w2 ⟨rfl, hb2⟩
        have hbo : Below w1.heap.size w1 w2 := ((Below.refl w1.heap.size w1).alloc (Nat.le_refl _) (.cells #[.int .i64 M, .int .i64 0, .int .i64 5000] 87)).trans (hb2.mono (by simp))
        clear b0 b1 b2 b3
        replace tb := tb.keep (by omega) hbo
        replace rb := rb.keep hbo
        replace bb := bb.trans (hbo.mono (by omega))
        have z2 := hbo.size
        clear hb2 hbo
        have b0 := tb.c0
        have b1 := tb.c1
        have b2 := tb.c2
        have b3 := tb.c3
        go_upto_region 7 with fail
        clear b0 b1 b2 b3
        have nb : TBox (w2.alloc (.cells #[.bool true, .int .i64 (M), .int .i64 (S), .int .i64 0] 52)) w2.heap.size (.bool true) (.int .i64 M) (.int .i64 (S)) (.int .i64 0) := by
          refine ⟨?_, ?_, ?_, ?_, ?_, ?_, ?_, ?_⟩ <;> simp [go_sem]
        have hbn : Below w2.heap.size w2 (w2.alloc (.cells #[.bool true, .int .i64 (M), .int .i64 (S), .int .i64 0] 52)) := (Below.refl _ _).alloc (Nat.le_refl _) _
        have z3 : (w2.alloc (.cells #[.bool true, .int .i64 (M), .int .i64 (S), .int .i64 0] 52)).heap.size = w2.heap.size + 1 := by simp
        replace tb := tb.keep (by omega) hbn
        replace rb := rb.keep hbn
        replace bb := bb.trans (hbn.mono (by omega))
        clear hbn
        generalize (w2.alloc (.cells #[.bool true, .int .i64 (M), .int .i64 (S), .int .i64 0] 52)) = w3 at *
        have b0 := tb.c0
        have b1 := tb.c1
        have b2 := tb.c2
        have b3 := tb.c3
        clear tb
        have HF : Hid (∀ x v0 v1 v2 v3 v4 : Value, Below w.heap.size w (((((((w3).setCell ⟨w2.heap.size, 3, none⟩ x).setCell ⟨w.heap.size + 1, 0, none⟩ v0).setCell ⟨w.heap.size + 1, 1, none⟩ v1).setCell ⟨w.heap.size + 1, 2, none⟩ v2).setCell ⟨w.heap.size + 1, 3, none⟩ v3).setCell ⟨w.heap.size + 1, 4, none⟩ v4)) := fun x => five_done (bb.setCell (p := ⟨w2.heap.size, 3, none⟩) (show w.heap.size ≤ w2.heap.size by omega) x)
        have ne1 : ¬ w2.heap.size = w.heap.size + 1 := by omega
        have ne2 : ¬ w.heap.size + 1 = w2.heap.size := by omega
        obtain ⟨n0, n1, n2, n3, m0, m1, m2, m3⟩ := nb
        obtain ⟨rl, c0, c1, c2, c3, c4, f0, f1, f2, f3, f4⟩ := rb
        clear bb
        go_wp2_with fail
        all_goals
          first
          | (have hv : R = 50 := by (have := HC.out; omega)
             exact bodyPost_ret (v := .agg #[.int .i64 0, .bool true, .int .i64 M, .int .i64 S, .int .i64 (50)]) (by simp [results, Try.results32, go_sem, c0, c1, c2, c3, c4]) rfl ⟨ret_ans (hv ▸ HR.out), HF.out _ _ _ _ _ _⟩)
          | (have hv : R = 1000 := by (have := HC.out; omega)
             exact bodyPost_ret (v := .agg #[.int .i64 0, .bool true, .int .i64 M, .int .i64 S, .int .i64 (1000)]) (by simp [results, Try.results32, go_sem, c0, c1, c2, c3, c4]) rfl ⟨ret_ans (hv ▸ HR.out), HF.out _ _ _ _ _ _⟩)
          | (have hv : R = M + 4 * S := by (have := HC.out; omega)
             exact bodyPost_ret (v := .agg #[.int .i64 0, .bool true, .int .i64 M, .int .i64 S, .int .i64 (M + 4 * S)]) (by simp [results, Try.results32, go_sem, c0, c1, c2, c3, c4]) rfl ⟨ret_ans (hv ▸ HR.out), HF.out _ _ _ _ _ _⟩)
      · go_enter Try.func32, Try.ntmps32
        go_wp2_with fail
        obtain ⟨tb, rb, bb, zz⟩ := samp_start w true m s r
        generalize ((w.alloc (.cells #[.bool true, .int .i64 m, .int .i64 s, .int .i64 r] 52)).alloc (.cells #[.int .i64 0, .bool false, .int .i64 0, .int .i64 0, .int .i64 0] 56)) = w0 at *
        refine (HT.out _).mono ?_
        rintro e w1 ⟨rfl, hb1⟩
        replace tb := tb.keep (by omega) hb1
        replace rb := rb.keep hb1
        replace bb := bb.trans (hb1.mono (by omega))
        have z1 := hb1.size
        clear hb1
        have b0 := tb.c0
        have b1 := tb.c1
        have b2 := tb.c2
        have b3 := tb.c3
        go_wp2_with fail
        refine (outside1 w1.heap.size 1 ms 0 5000 false _ (by simp) (by simp [go_sem]) (by simp [go_sem]) (by simp [go_sem]) (decide_eq_false (by omega))).mono ?_
        rintro e w2 ⟨rfl, hb2⟩
        have hbo : Below w1.heap.size w1 w2 := ((Below.refl w1.heap.size w1).alloc (Nat.le_refl _) (.cells #[.int .i64 ms, .int .i64 0, .int .i64 5000] 87)).trans (hb2.mono (by simp))
        clear b0 b1 b2 b3
        replace tb := tb.keep (by omega) hbo
        replace rb := rb.keep hbo
        replace bb := bb.trans (hbo.mono (by omega))
        have z2 := hbo.size
        clear hb2 hbo
        have b0 := tb.c0
        have b1 := tb.c1
        have b2 := tb.c2
        have b3 := tb.c3
        go_upto_region 7 with fail
        clear b0 b1 b2 b3
        have nb : TBox (w2.alloc (.cells #[.bool true, .int .i64 (ms), .int .i64 (ms / 2), .int .i64 0] 52)) w2.heap.size (.bool true) (.int .i64 ms) (.int .i64 (ms / 2)) (.int .i64 0) := by
          refine ⟨?_, ?_, ?_, ?_, ?_, ?_, ?_, ?_⟩ <;> simp [go_sem]
        have hbn : Below w2.heap.size w2 (w2.alloc (.cells #[.bool true, .int .i64 (ms), .int .i64 (ms / 2), .int .i64 0] 52)) := (Below.refl _ _).alloc (Nat.le_refl _) _
        have z3 : (w2.alloc (.cells #[.bool true, .int .i64 (ms), .int .i64 (ms / 2), .int .i64 0] 52)).heap.size = w2.heap.size + 1 := by simp
        replace tb := tb.keep (by omega) hbn
        replace rb := rb.keep hbn
        replace bb := bb.trans (hbn.mono (by omega))
        clear hbn
        generalize (w2.alloc (.cells #[.bool true, .int .i64 (ms), .int .i64 (ms / 2), .int .i64 0] 52)) = w3 at *
        have b0 := tb.c0
        have b1 := tb.c1
        have b2 := tb.c2
        have b3 := tb.c3
        go_wp2_with fail
        have kd : Below w3.heap.size w3 w3.drew := ⟨rfl, rfl, rfl, Nat.le_refl _, fun _ _ => rfl⟩
        have zd : w3.drew.heap.size = w3.heap.size := rfl
        replace tb := tb.keep (by omega) kd
        replace nb := nb.keep (by omega) kd
        replace rb := rb.keep kd
        replace bb := bb.trans (kd.mono (by omega))
        replace b1 := tb.c1
        replace b2 := tb.c2
        clear b0 b3 kd
        have MA := Lib.hid (fun w' => mean_any s 3 w')
        have MB := Lib.hid (fun w' => apart_any m ms w' hm hx)
        have hmx : ∃ D, D = max (m - ms) (ms - m) := ⟨_, rfl⟩
        obtain ⟨D, hD⟩ := hmx
        have hDb : 0 ≤ D ∧ D ≤ 5000 := by omega
        have HBB : (3 * s + D) / 4 = S := by rw [hD]; exact HB.out.symm
        have HAA : (7 * m + ms) / 8 = M := HA.out.symm
        have MC := Lib.hid (fun (g h : Nat) (w' : World) c1 c2 f => mean_3 D s g h w' hDb hs c1 c2 f)
        have ME := Lib.hid (fun (g h : Nat) (w' : World) c1 c2 f => mean_7 ms m g h w' hx hm c1 c2 f)
        rw [← hD] at MB
        rw [HBB] at MC
        rw [HAA] at ME
        have MD := Lib.hid (fun w' => mean_any m 7 w')
        clear HBB HAA HA HB hD
        have hl1 : w.heap.size < w3.drew.heap.size := by omega
        have hl2 : w2.heap.size < w3.drew.heap.size := by omega
        have hl3 : w.heap.size + 1 < w3.drew.heap.size := by omega
        have hne : ¬ w2.heap.size = w.heap.size := by omega
        have hne' : ¬ w.heap.size = w2.heap.size := by omega
        generalize hw4 : w3.drew = w4 at *
        go_region_held3 (fun w' => w'.cell? ⟨w.heap.size, 1, none⟩ = some (.int .i64 m) ∧ w'.cell? ⟨w.heap.size, 2, none⟩ = some (.int .i64 s))
          (first | exact ⟨b1, b2⟩ | exact ⟨b1v, b2v⟩ | exact ⟨b1x, b2x⟩ | (go_split_ands; (first | exact ⟨b1y, b2y⟩ | go_keep)))
          (first
            | (go_at_call 71; refine (MA.out _).mono ?_; rintro e v1 ⟨g, h, rfl, hg1, hg2, cg, fg, ch, hbm⟩; have b1v := (hbm.cell hl1).trans b1; have b2v := (hbm.cell hl1).trans b2)
            | (go_at_call 72; refine (MB.out _).mono ?_; rintro e v2 ⟨rfl, rfl⟩)
            | (go_at_call 82; refine (MC.out g h v1 ch cg fg).mono ?_; rintro e v3 ⟨rfl, rfl⟩; have bx := hbm.setCell (p := ⟨g, 0, none⟩) hg1 (.int .i64 S); have b1x := (bx.cell hl1).trans b1; have b2x := (bx.cell hl1).trans b2; have nbx := nb.keep hl2 bx; have n2x := nbx.c2; have fx := nbx.f2; have nbv := nb.keep hl2 hbm; have n2v := nbv.c2; have f2v := nbv.f2; have hgn : ¬ g = w2.heap.size := (by omega); have hgn' : ¬ w2.heap.size = g := (by omega); have hgw : ¬ g = w.heap.size := (by omega); have hgw' : ¬ w.heap.size = g := (by omega)))
        have hx1 : Below w.heap.size w ((v1.setCell ⟨g, 0, none⟩ (.int .i64 S)).setCell ⟨w2.heap.size, 2, none⟩ (.int .i64 S)) := (bb.trans (bx.mono (by omega))).setCell (p := ⟨w2.heap.size, 2, none⟩) (show w.heap.size ≤ w2.heap.size by omega) _
        have hz5 : w4.heap.size ≤ ((v1.setCell ⟨g, 0, none⟩ (.int .i64 S)).setCell ⟨w2.heap.size, 2, none⟩ (.int .i64 S)).heap.size := by have := hbm.size; simp; omega
        replace nb := nbx.set2 (.int .i64 S)
        replace tb := (tb.keep hl1 bx).far ⟨w2.heap.size, 2, none⟩ (.int .i64 S) hne'
        replace rb := ((rb.keep (bx.mono (by omega))).far ⟨w2.heap.size, 2, none⟩ (.int .i64 S) (show ¬ w.heap.size + 1 = w2.heap.size by omega))
        replace bb := hx1
        clear hx1 nbx n2x fx nbv n2v f2v hgn hgn' hgw hgw' bx b1x b2x b1v b2v b1 b2 hbm hg1 hg2 cg fg ch
        generalize (v1.setCell ⟨g, 0, none⟩ (.int .i64 S)).setCell ⟨w2.heap.size, 2, none⟩ (.int .i64 S) = w5 at *
        have b0 := tb.c0
        have b1 := tb.c1
        have b2 := tb.c2
        have b3 := tb.c3
        go_wp2_with fail
        refine (MD.out _).mono ?_
        rintro e v6 ⟨g6, h6, rfl, hg61, hg62, cg6, fg6, ch6, hb6⟩
        replace nb := nb.keep (by omega) hb6
        replace rb := rb.keep hb6
        replace bb := bb.trans (hb6.mono (by omega))
        have z6 := hb6.size
        clear b0 b1 b2 b3 tb hb6
        go_wp2_with fail
        refine (ME.out g6 h6 v6 ch6 cg6 fg6).mono ?_
        rintro e v7 ⟨rfl, rfl⟩
        replace nb := nb.far ⟨g6, 0, none⟩ (.int .i64 M) (show ¬ w2.heap.size = g6 by omega)
        replace rb := rb.far ⟨g6, 0, none⟩ (.int .i64 M) (show ¬ w.heap.size + 1 = g6 by omega)
        replace bb := bb.setCell (p := ⟨g6, 0, none⟩) (show w.heap.size ≤ g6 by omega) (.int .i64 M)
        clear cg6 fg6 ch6
        generalize v6.setCell ⟨g6, 0, none⟩ (.int .i64 M) = w7 at *
        have HF : Hid (∀ y x v0 v1 v2 v3 v4 : Value, Below w.heap.size w (((((((w7.setCell ⟨w2.heap.size, 1, none⟩ y).setCell ⟨w2.heap.size, 3, none⟩ x).setCell ⟨w.heap.size + 1, 0, none⟩ v0).setCell ⟨w.heap.size + 1, 1, none⟩ v1).setCell ⟨w.heap.size + 1, 2, none⟩ v2).setCell ⟨w.heap.size + 1, 3, none⟩ v3).setCell ⟨w.heap.size + 1, 4, none⟩ v4)) := fun y x => five_done ((bb.setCell (p := ⟨w2.heap.size, 1, none⟩) (show w.heap.size ≤ w2.heap.size by omega) y).setCell (p := ⟨w2.heap.size, 3, none⟩) (show w.heap.size ≤ w2.heap.size by omega) x)
        have ne1 : ¬ w2.heap.size = w.heap.size + 1 := by omega
        have ne2 : ¬ w.heap.size + 1 = w2.heap.size := by omega
        obtain ⟨n0, n1, n2, n3, m0, m1, m2, m3⟩ := nb
        obtain ⟨rl, c0, c1, c2, c3, c4, f0, f1, f2, f3, f4⟩ := rb
        clear bb
        go_wp2_with fail
        all_goals
          first
          | (have hv : R = 50 := by (have := HC.out; omega)
             exact bodyPost_ret (v := .agg #[.int .i64 0, .bool true, .int .i64 M, .int .i64 S, .int .i64 (50)]) (by simp [results, Try.results32, go_sem, c0, c1, c2, c3, c4]) rfl ⟨ret_ans (hv ▸ HR.out), HF.out _ _ _ _ _ _ _⟩)
          | (have hv : R = 1000 := by (have := HC.out; omega)
             exact bodyPost_ret (v := .agg #[.int .i64 0, .bool true, .int .i64 M, .int .i64 S, .int .i64 (1000)]) (by simp [results, Try.results32, go_sem, c0, c1, c2, c3, c4]) rfl ⟨ret_ans (hv ▸ HR.out), HF.out _ _ _ _ _ _ _⟩)
          | (have hv : R = M + 4 * S := by (have := HC.out; omega)
             exact bodyPost_ret (v := .agg #[.int .i64 0, .bool true, .int .i64 M, .int .i64 S, .int .i64 (M + 4 * S)]) (by simp [results, Try.results32, go_sem, c0, c1, c2, c3, c4]) rfl ⟨ret_ans (hv ▸ HR.out), HF.out _ _ _ _ _ _ _⟩)
    · have HR : Hid (sampAns k m s r ms = .agg #[.int .i64 3, .bool false, .int .i64 0, .int .i64 0, .int .i64 0]) := by show _ = _; rw [ans_bad (by rw [samp_range htc hx]; omega), samp_range htc hx]
      clear htc
      go_enter Try.func32, Try.ntmps32
      go_wp2_with fail
      obtain ⟨tb, rb, bb, zz⟩ := samp_start w k m s r
      generalize ((w.alloc (.cells #[.bool k, .int .i64 m, .int .i64 s, .int .i64 r] 52)).alloc (.cells #[.int .i64 0, .bool false, .int .i64 0, .int .i64 0, .int .i64 0] 56)) = w0 at *
      refine (HT.out _).mono ?_
      rintro e w1 ⟨rfl, hb1⟩
      replace tb := tb.keep (by omega) hb1
      replace rb := rb.keep hb1
      replace bb := bb.trans (hb1.mono (by omega))
      have z1 := hb1.size
      clear hb1
      obtain ⟨b0, b1, b2, b3, g0, g1, g2, g3⟩ := tb
      have ⟨rl, c0, c1, c2, c3, c4, f0, f1, f2, f3, f4⟩ := rb
      go_wp2_with fail
      refine (outside1 w1.heap.size 1 ms 0 5000 true _ (by simp) (by simp [go_sem]) (by simp [go_sem]) (by simp [go_sem]) (decide_eq_true (by omega))).mono ?_
      rintro e w2 ⟨rfl, hb2⟩
      have hbo : Below w1.heap.size w1 w2 := ((Below.refl w1.heap.size w1).alloc (Nat.le_refl _) (.cells #[.int .i64 ms, .int .i64 0, .int .i64 5000] 87)).trans (hb2.mono (by simp))
      replace bb := bb.trans (hbo.mono (by omega))
      replace c0 := (hbo.cell rl).trans c0
      replace c1 := (hbo.cell rl).trans c1
      replace c2 := (hbo.cell rl).trans c2
      replace c3 := (hbo.cell rl).trans c3
      replace c4 := (hbo.cell rl).trans c4
      replace f0 := (hbo.frozen rl).trans f0
      replace f1 := (hbo.frozen rl).trans f1
      replace f2 := (hbo.frozen rl).trans f2
      replace f3 := (hbo.frozen rl).trans f3
      replace f4 := (hbo.frozen rl).trans f4
      clear hb2 hbo rb
      have HF := Lib.hid (five_done bb)
      clear bb
      go_wp2_with fail
      exact bodyPost_ret (v := .agg #[.int .i64 3, .bool false, .int .i64 0, .int .i64 0, .int .i64 0]) (by simp [results, Try.results32, go_sem, c0, c1, c2, c3, c4]) rfl ⟨ret_ans HR.out, HF.out _ _ _ _ _⟩
  · have hcb : (tc != 0) = true := by simp [h0]
    have HR : Hid (sampAns k m s r ms = .agg #[.int .i64 tc, .bool false, .int .i64 0, .int .i64 0, .int .i64 0]) := by show _ = _; rw [ans_bad (by rw [samp_fault ms (by omega)]; omega), samp_fault ms (by omega), htc]
    clear htc
    go_enter Try.func32, Try.ntmps32
    go_wp2_with fail
    obtain ⟨tb, rb, bb, zz⟩ := samp_start w k m s r
    generalize ((w.alloc (.cells #[.bool k, .int .i64 m, .int .i64 s, .int .i64 r] 52)).alloc (.cells #[.int .i64 0, .bool false, .int .i64 0, .int .i64 0, .int .i64 0] 56)) = w0 at *
    refine (HT.out _).mono ?_
    rintro e w1 ⟨rfl, hb1⟩
    replace tb := tb.keep (by omega) hb1
    replace rb := rb.keep hb1
    replace bb := bb.trans (hb1.mono (by omega))
    have z1 := hb1.size
    clear hb1
    obtain ⟨b0, b1, b2, b3, g0, g1, g2, g3⟩ := tb
    have ⟨rl, c0, c1, c2, c3, c4, f0, f1, f2, f3, f4⟩ := rb
    have HF := Lib.hid (five_done bb)
    clear bb
    go_wp2_with fail
    exact bodyPost_ret (v := .agg #[.int .i64 tc, .bool false, .int .i64 0, .int .i64 0, .int .i64 0]) (by simp [results, Try.results32, go_sem, c0, c1, c2, c3, c4]) rfl ⟨ret_ans HR.out, HF.out _ _ _ _ _⟩
end Go.Proofs.Ytlgpbnngepkkmaa
