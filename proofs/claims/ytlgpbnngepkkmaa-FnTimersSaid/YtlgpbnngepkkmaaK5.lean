/-
  Chapter 6: the draws.
-/
import Derived.Test.YtlgpbnngepkkmaaK4
import Derived.Test.YtlgpbnngepkkmaaDraw
import Derived.Deep.Cut
import Derived.Deep.RegionLaw
namespace Go.Proofs.Ytlgpbnngepkkmaa
open Go.RowKit
set_option linter.unusedVariables false
set_option maxRecDepth 100000

theorem TBox.keepK {w w' : World} {b lo hi : Nat} {u0 u1 u2 u3 : Value} (h : TBox w b u0 u1 u2 u3) (hl : b < w.heap.size) (k : Keep lo hi w w') (ho : b < lo ∨ hi ≤ b) : TBox w' b u0 u1 u2 u3 :=
  ⟨(k.cell hl ho).trans h.c0, (k.cell hl ho).trans h.c1, (k.cell hl ho).trans h.c2, (k.cell hl ho).trans h.c3, (k.frozen hl ho).trans h.f0, (k.frozen hl ho).trans h.f1, (k.frozen hl ho).trans h.f2, (k.frozen hl ho).trans h.f3⟩
theorem TBox.set {w : World} {b : Nat} {u0 u1 u2 u3 : Value} (h : TBox w b u0 u1 u2 u3) (v0 v1 v2 v3 : Value) :
    TBox ((((w.setCell ⟨b, 0, none⟩ v0).setCell ⟨b, 1, none⟩ v1).setCell ⟨b, 2, none⟩ v2).setCell ⟨b, 3, none⟩ v3) b v0 v1 v2 v3 ∧ Keep b (b + 1) w ((((w.setCell ⟨b, 0, none⟩ v0).setCell ⟨b, 1, none⟩ v1).setCell ⟨b, 2, none⟩ v2).setCell ⟨b, 3, none⟩ v3) := by
  refine ⟨⟨?_, ?_, ?_, ?_, ?_, ?_, ?_, ?_⟩, ((((Keep.refl _ _ w).setCell (p := ⟨b, 0, none⟩) ⟨Nat.le_refl _, Nat.lt_succ_self _⟩ _).setCell (p := ⟨b, 1, none⟩) ⟨Nat.le_refl _, Nat.lt_succ_self _⟩ _).setCell (p := ⟨b, 2, none⟩) ⟨Nat.le_refl _, Nat.lt_succ_self _⟩ _).setCell (p := ⟨b, 3, none⟩) ⟨Nat.le_refl _, Nat.lt_succ_self _⟩ _⟩ <;> simp [go_sem, h.c0, h.c1, h.c2, h.c3, h.f0, h.f1, h.f2, h.f3]
theorem TBox.set1 {w : World} {b : Nat} {u0 u1 u2 u3 : Value} (h : TBox w b u0 u1 u2 u3) (j : Nat) (v : Value) (hj : j = 0 ∨ j = 1 ∨ j = 2 ∨ j = 3) :
    TBox (w.setCell ⟨b, j, none⟩ v) b (if j = 0 then v else u0) (if j = 1 then v else u1) (if j = 2 then v else u2) (if j = 3 then v else u3) ∧ Keep b (b + 1) w (w.setCell ⟨b, j, none⟩ v) := by
  refine ⟨?_, (Keep.refl _ _ w).setCell (p := ⟨b, j, none⟩) ⟨Nat.le_refl _, Nat.lt_succ_self _⟩ _⟩
  rcases hj with rfl | rfl | rfl | rfl
  all_goals
    refine ⟨?_, ?_, ?_, ?_, ?_, ?_, ?_, ?_⟩ <;> simp [go_sem, h.c0, h.c1, h.c2, h.c3, h.f0, h.f1, h.f2, h.f3]
theorem keepNew {W W' : World} {s lo hi : Nat} {w : World} (h : Keep s (s + 1) w W) (k : Keep lo hi W W') (ho : (lo = s ∧ hi = s + 1) ∨ w.heap.size ≤ lo ∨ hi ≤ lo) : Keep s (s + 1) w W' :=
  ⟨k.os.trans h.os, k.tape.trans h.tape, k.output.trans h.output, Nat.le_trans h.size k.size, fun i h1 h2 => (k.block i (Nat.lt_of_lt_of_le h1 h.size) (by omega)).trans (h.block i h1 h2)⟩
theorem samp_at (k : Bool) (m s r ms : Int) (w : World) (hm : 0 ≤ m ∧ m ≤ 5000) (hs : 0 ≤ s ∧ s ≤ 5000) (hx : 0 ≤ ms ∧ ms ≤ 5000) :
    Calls Try.prog 73 #[.agg #[.bool k, .int .i64 m, .int .i64 s, .int .i64 r], .int .i64 ms] w fun e w' => ∃ M S R : Int, e = .returned (.agg #[.bool true, .int .i64 M, .int .i64 S, .int .i64 R]) ∧ (0 ≤ M ∧ M ≤ 5000) ∧ (0 ≤ S ∧ S ≤ 5000) ∧ Below w.heap.size w w' :=
  (l6Sample_any k m s r ms w hm hs hx).mono fun _ _ h => ⟨_, _, _, h.1, mean_bound hm hx, swing_bound hm hs hx, h.2⟩

/-- A timer was drawn from the source. -/
def DrawnT (w : World) (s k : Nat) (A : Option Addr) (nc cc hi : Nat) (xs : List Int) (e : Ending) (w' : World) : Prop :=
  ∃ (kk : Bool) (m sw r : Int) (k' : Nat), e = .returned (.agg #[.bool kk, .int .i64 m, .int .i64 sw, .int .i64 r]) ∧ Src w' s k' A nc cc hi xs ∧ k' ≤ k + 9 ∧ Keep s (s + 1) w w'

set_option maxHeartbeats 4000000 in
theorem l6Draw_any (s k : Nat) (A : Option Addr) (nc cc hi : Nat) (xs : List Int) (w : World) (h : Src w s k A nc cc hi xs) (hk : k ≤ 1000) :
    Calls Try.prog 70 #[.pointer (some ⟨s, 0, none⟩)] w (DrawnT w s k A nc cc hi xs) := by
  have hsb := h.1
  have hhi := h.2.1
  go_enter Try.func70, Try.ntmps70
  go_wp2_with fail
  have hR := TBox.new w (.bool false) (.int .i64 0) (.int .i64 0) (.int .i64 0) 52
  have k0 := (Keep.refl 0 0 w).alloc (.cells #[.bool false, .int .i64 0, .int .i64 0, .int .i64 0] 52)
  have hke : Keep s (s + 1) w (w.alloc (.cells #[.bool false, .int .i64 0, .int .i64 0, .int .i64 0] 52)) := (Keep.refl _ _ w).alloc _
  have h0 := h.keep k0 (by omega) (by omega)
  have z0 : (w.alloc (.cells #[.bool false, .int .i64 0, .int .i64 0, .int .i64 0] 52)).heap.size = w.heap.size + 1 := by simp
  clear k0 h
  generalize w.alloc (.cells #[.bool false, .int .i64 0, .int .i64 0, .int .i64 0] 52) = w0 at *
  refine (l6New_any w0).mono ?_
  rintro e w1 ⟨rfl, b1⟩
  have k1 := Keep.of_below b1 0 0
  have z1 := b1.size
  replace hR := hR.keepK (by omega) k1 (by omega)
  replace hke := keepNew hke k1 (by omega)
  replace h0 := h0.keep k1 (by omega) (by omega)
  clear b1 k1
  go_wp2_with fail
  have hB := TBox.new w1 (.bool false) (.int .i64 0) (.int .i64 0) (.int .i64 1000) 52
  have k1 := (Keep.refl 0 0 w1).alloc (.cells #[.bool false, .int .i64 0, .int .i64 0, .int .i64 1000] 52)
  have z2 : (w1.alloc (.cells #[.bool false, .int .i64 0, .int .i64 0, .int .i64 1000] 52)).heap.size = w1.heap.size + 1 := by simp
  replace hR := hR.keepK (by omega) k1 (by omega)
  replace hke := keepNew hke k1 (by omega)
  replace h0 := h0.keep k1 (by omega) (by omega)
  clear k1
  generalize w1.alloc (.cells #[.bool false, .int .i64 0, .int .i64 0, .int .i64 1000] 52) = w2 at *
  obtain ⟨B, hBe⟩ : ∃ B, w1.heap.size = B := ⟨_, rfl⟩
  simp only [hBe] at *
  refine (next_any s k A nc cc hi xs 4 w2 h0 (by omega) (by omega)).mono ?_
  rintro e w3 ⟨m0, rfl, x0, x1, _, h3, k3⟩
  have x1' := x1 (by omega)
  have z3 := k3.size
  replace hR := hR.keepK (by omega) k3 (by omega)
  replace hB := hB.keepK (by omega) k3 (by omega)
  replace hke := hke.trans k3
  clear h0 k3 x1
  go_wp2_with fail
  go_loopw [4] (fun nv wr => ∃ (j : Int) (kk : Bool) (m sw r : Int) (kx : Nat), nv = .int .i64 j ∧ (0 ≤ j ∧ j ≤ 3) ∧ (0 ≤ m ∧ m ≤ 5000) ∧ (0 ≤ sw ∧ sw ≤ 5000) ∧ TBox wr B (.bool kk) (.int .i64 m) (.int .i64 sw) (.int .i64 r) ∧ TBox wr w.heap.size (.bool false) (.int .i64 0) (.int .i64 0) (.int .i64 0) ∧ Src wr s kx A nc cc hi xs ∧ (kx : Int) + j ≤ (k : Int) + 1 + 3 ∧ Keep s (s + 1) w wr ∧ B < wr.heap.size) (fun i _ => (intOf i).toNat)
  case atStart => exact ⟨m0, false, 0, 0, 1000, k + 1, rfl, by omega, by omega, by omega, hB, hR, h3, by omega, hke, by omega⟩
  case round =>
    clear hB hR hke h3
    obtain ⟨n0, kk, m, sw, r, k', rfl, hn, hm, hsw, hB, hR, hs, hk', hke, hBl⟩ := hrel
    have zr := hke.size
    have hRl : w.heap.size < wr.heap.size := by omega
    by_cases hpos : 0 < n0
    · have hw : IntKind.i64.wrap (n0 - 1) = n0 - 1 := by rw [IntKind.wrap_i64]; omega
      go_wp2_with fail
      have kd : Keep 0 0 wr (wr.alloc (.cells ([0, 1, 50, 200, 5000, 999].map (Value.int .i64)).toArray 2)).drew := ((Keep.refl 0 0 wr).alloc (.cells ([0, 1, 50, 200, 5000, 999].map (Value.int .i64)).toArray 2)).trans ⟨rfl, rfl, rfl, Nat.le_refl _, fun _ _ _ => rfl⟩
      have hzd : wr.heap.size + 1 = ((wr.alloc (.cells ([0, 1, 50, 200, 5000, 999].map (Value.int .i64)).toArray 2)).drew).heap.size := by simp
      have hsd := hs.keep kd (by omega) (by omega)
      have hBd := hB.keepK hBl kd (by omega)
      have hRd := hR.keepK hRl kd (by omega)
      have hked := keepNew hke kd (by omega)
      have n1 : wr.heap.size ≠ s := by omega
      have hrc : ∀ j, j < 6 → ((wr.alloc (.cells ([0, 1, 50, 200, 5000, 999].map (Value.int .i64)).toArray 2)).drew).cell? ⟨wr.heap.size, j, none⟩ = some (.int .i64 ([0, 1, 50, 200, 5000, 999].getD j 0)) := fun j hj => row_cells wr [0, 1, 50, 200, 5000, 999] _ _ rfl j hj
      obtain ⟨b0, b1, b2, b3, g0, g1, g2, g3⟩ := hB
      have a0 := hBd.c0
      have a1 := hBd.c1
      have a2 := hBd.c2
      have a3 := hBd.c3
      go_region_law (first
        | (go_simp; go_at_call 53; refine (pick_any s k' wr.heap.size 6 A nc cc hi xs [0, 1, 50, 200, 5000, 999] 6 _ hsd (by omega) rfl (by omega) (by omega) n1 (by omega) hrc).mono ?_; rintro e w5 ⟨v, m1, rfl, hs5, k5⟩; have hB5 := hBd.keepK (by omega) k5 (by omega); have hR5 := hRd.keepK (by omega) k5 (by omega); have hke5 := hked.trans k5; have z5 := k5.size; have e0 := hB5.c0; have e1 := hB5.c1; have e2 := hB5.c2; have e3 := hB5.c3)
        | (go_simp; go_at_call 73; refine (samp_at kk m sw r v w5 hm hsw (by simp at m1; omega)).mono ?_; rintro e w6 ⟨M, S, R, rfl, hM, hS, b6⟩; have k6 := Keep.of_below b6 0 0; have z6 := b6.size; have hB6 := hB5.keepK (by omega) k6 (by omega); have hR6 := hR5.keepK (by omega) k6 (by omega); have hke6 := keepNew hke5 k6 (by omega); have hs6 := hs5.keep k6 (by omega) (by omega); have q0 := hB6.c0; have q1 := hB6.c1; have q2 := hB6.c2; have q3 := hB6.c3; have y0 := hB6.f0; have y1 := hB6.f1; have y2 := hB6.f2; have y3 := hB6.f3))
      all_goals
        obtain ⟨hB7, k7⟩ := hB6.set (.bool true) (.int .i64 M) (.int .i64 S) (.int .i64 R)
        have hR7 := hR6.keepK (by omega) k7 (by omega)
        have hs7 := hs6.keep k7 (by omega) (by omega)
        have hke7 := keepNew hke6 k7 (by omega)
        have z7 := k7.size
        have HRL : Hid (∃ (j : Int) (kk : Bool) (m sw r : Int) (kx : Nat), Value.int .i64 (n0 - 1) = .int .i64 j ∧ (0 ≤ j ∧ j ≤ 3) ∧ (0 ≤ m ∧ m ≤ 5000) ∧ (0 ≤ sw ∧ sw ≤ 5000) ∧ TBox ((((w6.setCell ⟨B, 0, none⟩ (.bool true)).setCell ⟨B, 1, none⟩ (.int .i64 M)).setCell ⟨B, 2, none⟩ (.int .i64 S)).setCell ⟨B, 3, none⟩ (.int .i64 R)) B (.bool kk) (.int .i64 m) (.int .i64 sw) (.int .i64 r) ∧ TBox ((((w6.setCell ⟨B, 0, none⟩ (.bool true)).setCell ⟨B, 1, none⟩ (.int .i64 M)).setCell ⟨B, 2, none⟩ (.int .i64 S)).setCell ⟨B, 3, none⟩ (.int .i64 R)) w.heap.size (.bool false) (.int .i64 0) (.int .i64 0) (.int .i64 0) ∧ Src ((((w6.setCell ⟨B, 0, none⟩ (.bool true)).setCell ⟨B, 1, none⟩ (.int .i64 M)).setCell ⟨B, 2, none⟩ (.int .i64 S)).setCell ⟨B, 3, none⟩ (.int .i64 R)) s kx A nc cc hi xs ∧ (kx : Int) + j ≤ (k : Int) + 1 + 3 ∧ Keep s (s + 1) w ((((w6.setCell ⟨B, 0, none⟩ (.bool true)).setCell ⟨B, 1, none⟩ (.int .i64 M)).setCell ⟨B, 2, none⟩ (.int .i64 S)).setCell ⟨B, 3, none⟩ (.int .i64 R)) ∧ B < ((((w6.setCell ⟨B, 0, none⟩ (.bool true)).setCell ⟨B, 1, none⟩ (.int .i64 M)).setCell ⟨B, 2, none⟩ (.int .i64 S)).setCell ⟨B, 3, none⟩ (.int .i64 R)).heap.size) :=
          ⟨n0 - 1, true, M, S, R, k' + 1, rfl, by omega, hM, hS, hB7, hR7, hs7, by omega, hke7, by omega⟩
        clear hB7 hR7 hs7 hke7 k7
        go_wp2_with fail
        go_roundw
        case rel => exact HRL.out
        case measure => simp [intOf]; omega
    · go_wp2_with fail
      refine (next_any s k' A nc cc hi xs 12 wr hs (by omega) (by omega)).mono ?_
      rintro e w9 ⟨d, rfl, y0, y1, _, h9, k9⟩
      have y1' := y1 (by omega)
      have z9 := k9.size
      replace hR := hR.keepK (by omega) k9 (by omega)
      replace hB := hB.keepK (by omega) k9 (by omega)
      replace hke := hke.trans k9
      replace hBl : B < w9.heap.size := by omega
      replace hRl : w.heap.size < w9.heap.size := by omega
      obtain ⟨kx, hkx⟩ : ∃ kx, k' + 1 = kx := ⟨_, rfl⟩
      rw [hkx] at h9
      clear k9 hs y1
      rcases (show d = 0 ∨ d = 1 ∨ d = 2 ∨ d = 3 ∨ 4 ≤ d by omega) with rfl | rfl | rfl | rfl | hd
      · go_wp2_with fail
        have h1a := h9.keep ((Keep.refl 0 0 w9).alloc (.cells ([-1, 5001, 5].map (Value.int .i64)).toArray 2)) (by omega) (by omega)
        have n1 : w9.heap.size ≠ s := by omega
        refine (pick_any s kx w9.heap.size 3 A nc cc hi xs [-1, 5001, 5] 3 _ h1a (by omega) rfl (by omega) (by omega) n1 (by simp) (row_cells w9 [-1, 5001, 5] _ _ rfl)).mono ?_
        rintro e wa ⟨v, m1, rfl, ha, ka⟩
        have kka := ((Keep.refl s (s + 1) w9).alloc (.cells ([-1, 5001, 5].map (Value.int .i64)).toArray 2)).trans ka
        replace hB := hB.keepK hBl kka (by omega)
        replace hR := hR.keepK hRl kka (by omega)
        replace hke := hke.trans kka
        have za := kka.size
        clear kka ka h1a h9 n1 m1
        obtain ⟨hB1, kb1⟩ := hB.set1 1 (.int .i64 v) (by omega)
        obtain ⟨b0, b1, b2, b3, g0, g1, g2, g3⟩ := hB
        replace hR := hR.keepK (by omega) kb1 (by omega)
        replace ha := ha.keep kb1 (by omega) (by omega)
        replace hke := keepNew hke kb1 (by omega)
        have zb := kb1.size
        clear kb1
        simp at hB1
        go_upto_region 15 with fail
        clear b0 b1 b2 b3 g0 g1 g2 g3
        generalize wa.setCell ⟨B, 1, none⟩ (.int .i64 v) = wz at *
        obtain ⟨b0, b1, b2, b3, g0, g1, g2, g3⟩ := hB1
        have hRl2 : w.heap.size < wz.heap.size := by omega
        obtain ⟨hR1, kr⟩ := hR.set (.bool kk) (.int .i64 v) (.int .i64 sw) (.int .i64 r)
        have HF : Hid (DrawnT w s k A nc cc hi xs (.returned (.agg #[(.bool kk), .int .i64 v, .int .i64 sw, .int .i64 r])) ((((wz.setCell ⟨w.heap.size, 0, none⟩ (.bool kk)).setCell ⟨w.heap.size, 1, none⟩ (.int .i64 v)).setCell ⟨w.heap.size, 2, none⟩ (.int .i64 sw)).setCell ⟨w.heap.size, 3, none⟩ (.int .i64 r))) :=
          ⟨_, _, _, _, kx + 1, rfl, ha.keep kr (by omega) (by omega), by omega, keepNew hke kr (by omega)⟩
        obtain ⟨q0, q1, q2, q3, p0, p1, p2, p3⟩ := hR
        obtain ⟨r0, r1, r2, r3, _, _, _, _⟩ := hR1
        clear kr hke
        go_wp2_with fail
        exact bodyPost_ret (v := .agg #[(.bool kk), .int .i64 v, .int .i64 sw, .int .i64 r]) (by simp [results, Try.results70, go_sem, r0, r1, r2, r3]) rfl HF.out
      · go_wp2_with fail
        have h1a := h9.keep ((Keep.refl 0 0 w9).alloc (.cells ([-1, 5001, 5].map (Value.int .i64)).toArray 2)) (by omega) (by omega)
        have n1 : w9.heap.size ≠ s := by omega
        refine (pick_any s kx w9.heap.size 3 A nc cc hi xs [-1, 5001, 5] 3 _ h1a (by omega) rfl (by omega) (by omega) n1 (by simp) (row_cells w9 [-1, 5001, 5] _ _ rfl)).mono ?_
        rintro e wa ⟨v, m1, rfl, ha, ka⟩
        have kka := ((Keep.refl s (s + 1) w9).alloc (.cells ([-1, 5001, 5].map (Value.int .i64)).toArray 2)).trans ka
        replace hB := hB.keepK hBl kka (by omega)
        replace hR := hR.keepK hRl kka (by omega)
        replace hke := hke.trans kka
        have za := kka.size
        clear kka ka h1a h9 n1 m1
        obtain ⟨hB1, kb1⟩ := hB.set1 2 (.int .i64 v) (by omega)
        obtain ⟨b0, b1, b2, b3, g0, g1, g2, g3⟩ := hB
        replace hR := hR.keepK (by omega) kb1 (by omega)
        replace ha := ha.keep kb1 (by omega) (by omega)
        replace hke := keepNew hke kb1 (by omega)
        have zb := kb1.size
        clear kb1
        simp at hB1
        go_upto_region 15 with fail
        clear b0 b1 b2 b3 g0 g1 g2 g3
        generalize wa.setCell ⟨B, 2, none⟩ (.int .i64 v) = wz at *
        obtain ⟨b0, b1, b2, b3, g0, g1, g2, g3⟩ := hB1
        have hRl2 : w.heap.size < wz.heap.size := by omega
        obtain ⟨hR1, kr⟩ := hR.set (.bool kk) (.int .i64 m) (.int .i64 v) (.int .i64 r)
        have HF : Hid (DrawnT w s k A nc cc hi xs (.returned (.agg #[(.bool kk), .int .i64 m, .int .i64 v, .int .i64 r])) ((((wz.setCell ⟨w.heap.size, 0, none⟩ (.bool kk)).setCell ⟨w.heap.size, 1, none⟩ (.int .i64 m)).setCell ⟨w.heap.size, 2, none⟩ (.int .i64 v)).setCell ⟨w.heap.size, 3, none⟩ (.int .i64 r))) :=
          ⟨_, _, _, _, kx + 1, rfl, ha.keep kr (by omega) (by omega), by omega, keepNew hke kr (by omega)⟩
        obtain ⟨q0, q1, q2, q3, p0, p1, p2, p3⟩ := hR
        obtain ⟨r0, r1, r2, r3, _, _, _, _⟩ := hR1
        clear kr hke
        go_wp2_with fail
        exact bodyPost_ret (v := .agg #[(.bool kk), .int .i64 m, .int .i64 v, .int .i64 r]) (by simp [results, Try.results70, go_sem, r0, r1, r2, r3]) rfl HF.out
      · go_wp2_with fail
        have h1a := h9.keep ((Keep.refl 0 0 w9).alloc (.cells ([49, 1001, 50].map (Value.int .i64)).toArray 2)) (by omega) (by omega)
        have n1 : w9.heap.size ≠ s := by omega
        refine (pick_any s kx w9.heap.size 3 A nc cc hi xs [49, 1001, 50] 3 _ h1a (by omega) rfl (by omega) (by omega) n1 (by simp) (row_cells w9 [49, 1001, 50] _ _ rfl)).mono ?_
        rintro e wa ⟨v, m1, rfl, ha, ka⟩
        have kka := ((Keep.refl s (s + 1) w9).alloc (.cells ([49, 1001, 50].map (Value.int .i64)).toArray 2)).trans ka
        replace hB := hB.keepK hBl kka (by omega)
        replace hR := hR.keepK hRl kka (by omega)
        replace hke := hke.trans kka
        have za := kka.size
        clear kka ka h1a h9 n1 m1
        obtain ⟨hB1, kb1⟩ := hB.set1 3 (.int .i64 v) (by omega)
        obtain ⟨b0, b1, b2, b3, g0, g1, g2, g3⟩ := hB
        replace hR := hR.keepK (by omega) kb1 (by omega)
        replace ha := ha.keep kb1 (by omega) (by omega)
        replace hke := keepNew hke kb1 (by omega)
        have zb := kb1.size
        clear kb1
        simp at hB1
        go_upto_region 15 with fail
        clear b0 b1 b2 b3 g0 g1 g2 g3
        generalize wa.setCell ⟨B, 3, none⟩ (.int .i64 v) = wz at *
        obtain ⟨b0, b1, b2, b3, g0, g1, g2, g3⟩ := hB1
        have hRl2 : w.heap.size < wz.heap.size := by omega
        obtain ⟨hR1, kr⟩ := hR.set (.bool kk) (.int .i64 m) (.int .i64 sw) (.int .i64 v)
        have HF : Hid (DrawnT w s k A nc cc hi xs (.returned (.agg #[(.bool kk), .int .i64 m, .int .i64 sw, .int .i64 v])) ((((wz.setCell ⟨w.heap.size, 0, none⟩ (.bool kk)).setCell ⟨w.heap.size, 1, none⟩ (.int .i64 m)).setCell ⟨w.heap.size, 2, none⟩ (.int .i64 sw)).setCell ⟨w.heap.size, 3, none⟩ (.int .i64 v))) :=
          ⟨_, _, _, _, kx + 1, rfl, ha.keep kr (by omega) (by omega), by omega, keepNew hke kr (by omega)⟩
        obtain ⟨q0, q1, q2, q3, p0, p1, p2, p3⟩ := hR
        obtain ⟨r0, r1, r2, r3, _, _, _, _⟩ := hR1
        clear kr hke
        go_wp2_with fail
        exact bodyPost_ret (v := .agg #[(.bool kk), .int .i64 m, .int .i64 sw, .int .i64 v]) (by simp [results, Try.results70, go_sem, r0, r1, r2, r3]) rfl HF.out
      · obtain ⟨hB1, kb1⟩ := hB.set1 0 (.bool (!kk)) (by omega)
        obtain ⟨b0, b1, b2, b3, g0, g1, g2, g3⟩ := hB
        replace hR := hR.keepK (by omega) kb1 (by omega)
        replace h9 := h9.keep kb1 (by omega) (by omega)
        replace hke := keepNew hke kb1 (by omega)
        have zb := kb1.size
        clear kb1
        simp at hB1
        go_upto_region 15 with fail
        clear b0 b1 b2 b3 g0 g1 g2 g3
        generalize w9.setCell ⟨B, 0, none⟩ (.bool (!kk)) = wz at *
        obtain ⟨b0, b1, b2, b3, g0, g1, g2, g3⟩ := hB1
        have hRl2 : w.heap.size < wz.heap.size := by omega
        obtain ⟨hR1, kr⟩ := hR.set (.bool (!kk)) (.int .i64 m) (.int .i64 sw) (.int .i64 r)
        have HF : Hid (DrawnT w s k A nc cc hi xs (.returned (.agg #[(.bool (!kk)), .int .i64 m, .int .i64 sw, .int .i64 r])) ((((wz.setCell ⟨w.heap.size, 0, none⟩ (.bool (!kk))).setCell ⟨w.heap.size, 1, none⟩ (.int .i64 m)).setCell ⟨w.heap.size, 2, none⟩ (.int .i64 sw)).setCell ⟨w.heap.size, 3, none⟩ (.int .i64 r))) :=
          ⟨_, _, _, _, kx, rfl, h9.keep kr (by omega) (by omega), by omega, keepNew hke kr (by omega)⟩
        obtain ⟨q0, q1, q2, q3, p0, p1, p2, p3⟩ := hR
        obtain ⟨r0, r1, r2, r3, _, _, _, _⟩ := hR1
        clear kr hke
        go_wp2_with fail
        exact bodyPost_ret (v := .agg #[(.bool (!kk)), .int .i64 m, .int .i64 sw, .int .i64 r]) (by simp [results, Try.results70, go_sem, r0, r1, r2, r3]) rfl HF.out
      · have d0 : ¬ d = 0 := by omega
        have d1 : ¬ d = 1 := by omega
        have d2 : ¬ d = 2 := by omega
        have d3 : ¬ d = 3 := by omega
        obtain ⟨b0, b1, b2, b3, g0, g1, g2, g3⟩ := hB
        have hRl2 : w.heap.size < w9.heap.size := by omega
        obtain ⟨hR1, kr⟩ := hR.set (.bool kk) (.int .i64 m) (.int .i64 sw) (.int .i64 r)
        have HF : Hid (DrawnT w s k A nc cc hi xs (.returned (.agg #[(.bool kk), .int .i64 m, .int .i64 sw, .int .i64 r])) ((((w9.setCell ⟨w.heap.size, 0, none⟩ (.bool kk)).setCell ⟨w.heap.size, 1, none⟩ (.int .i64 m)).setCell ⟨w.heap.size, 2, none⟩ (.int .i64 sw)).setCell ⟨w.heap.size, 3, none⟩ (.int .i64 r))) :=
          ⟨_, _, _, _, kx, rfl, h9.keep kr (by omega) (by omega), by omega, keepNew hke kr (by omega)⟩
        obtain ⟨q0, q1, q2, q3, p0, p1, p2, p3⟩ := hR
        obtain ⟨r0, r1, r2, r3, _, _, _, _⟩ := hR1
        clear kr hke
        go_wp2_with fail
        exact bodyPost_ret (v := .agg #[(.bool kk), .int .i64 m, .int .i64 sw, .int .i64 r]) (by simp [results, Try.results70, go_sem, r0, r1, r2, r3]) rfl HF.out

end Go.Proofs.Ytlgpbnngepkkmaa
