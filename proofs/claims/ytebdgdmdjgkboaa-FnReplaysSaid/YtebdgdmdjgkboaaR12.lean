/-
  The draws of chapter 4: l1Min, l4Draw.
-/
import Derived.Test.YtebdgdmdjgkboaaR9
import Derived.Test.YtebdgdmdjgkboaaQ5
import Derived.Test.YtebdgdmdjgkboaaDraw
import Derived.Deep.Cut
namespace Go.Proofs.Ytebdgdmdjgkboaa
open Go.RowKit
set_option linter.unusedVariables false
set_option maxRecDepth 100000

set_option maxHeartbeats 400000 in
theorem l1Min_any (a b : Int) (w : World) : Calls Try.prog 58 #[.int .i64 a, .int .i64 b] w fun e w' => e = .returned (.int .i64 (min a b)) ∧ w = w' := by
  by_cases h : a < b
  · have HR : Hid (a = min a b) := by show _ = _; omega
    go_enter Try.func58, Try.ntmps58
    go_wp2_with fail
    go_ret
    exact ⟨ret_i64 HR.out, rfl⟩
  · have HR : Hid (b = min a b) := by show _ = _; omega
    go_enter Try.func58, Try.ntmps58
    go_wp2_with fail
    go_ret
    exact ⟨ret_i64 HR.out, rfl⟩

theorem ins_len (m sq : Int) : ∀ ys : List Int, (ins m sq ys).length ≤ ys.length + 1 := by
  intro ys
  induction ys with
  | nil => simp [ins]
  | cons y ys ih =>
    unfold ins
    split
    · have := List.length_filter_le (fun x => decide (m - 32 < x)) (y :: ys)
      simp only [List.length_cons] at *
      omega
    · rw [List.length_append]
      split <;> simp only [List.length_cons, List.length_nil] <;> omega
theorem takeL_len (m sq : Int) (xs : List Int) : (takeL m sq xs).length ≤ xs.length + 1 := by rw [takeL_ins]; exact ins_len m sq xs

/-- The variable r in block B: its Top and a row of its own. -/
def RB (W : World) (B : Nat) (t : Int) (zs : List Int) : Prop :=
  B < W.heap.size ∧ W.frozen? ⟨B, 0, none⟩ = false ∧ W.frozen? ⟨B, 1, none⟩ = false ∧ W.cell? ⟨B, 0, none⟩ = some (.int .i64 t) ∧ (-2 ≤ t ∧ t ≤ 10000) ∧
    ∃ G cap, W.cell? ⟨B, 1, none⟩ = some (.slice G zs.length cap) ∧ OwnI W (B + 1) G zs.length cap zs
theorem RB.keep {W W' : World} {B lo hi : Nat} {t : Int} {zs : List Int} (h : RB W B t zs) (k : Keep lo hi W W') (ho : hi ≤ B) : RB W' B t zs := by
  obtain ⟨h1, h2, h3, h4, h5, G, cap, h6, h7⟩ := h
  exact ⟨Nat.lt_of_lt_of_le h1 k.size, (k.frozen h1 (by show B < lo ∨ hi ≤ B; omega)).trans h2, (k.frozen h1 (by show B < lo ∨ hi ≤ B; omega)).trans h3, (k.cell h1 (by show B < lo ∨ hi ≤ B; omega)).trans h4, h5, G, cap, (k.cell h1 (by show B < lo ∨ hi ≤ B; omega)).trans h6, h7.keep k (by omega)⟩
/-- It is written anew. -/
theorem RB.set {W : World} {B cap : Nat} {t t' : Int} {zs zs' : List Int} {G : Option Addr} (h : RB W B t zs) (ht : -2 ≤ t' ∧ t' ≤ 10000) (ho : OwnI W (B + 1) G zs'.length cap zs') :
    RB ((W.setCell ⟨B, 0, none⟩ (.int .i64 t')).setCell ⟨B, 1, none⟩ (.slice G zs'.length cap)) B t' zs' := by
  obtain ⟨h1, h2, h3, h4, h5, G0, cap0, h6, h7⟩ := h
  have kk : Keep B (B + 1) W ((W.setCell ⟨B, 0, none⟩ (.int .i64 t')).setCell ⟨B, 1, none⟩ (.slice G zs'.length cap)) :=
    ((Keep.refl _ _ W).setCell (p := ⟨B, 0, none⟩) ⟨Nat.le_refl _, Nat.lt_succ_self _⟩ _).setCell (p := ⟨B, 1, none⟩) ⟨Nat.le_refl _, Nat.lt_succ_self _⟩ _
  obtain ⟨g0, g1⟩ := two_cells h4 h6 (.int .i64 t') (.slice G zs'.length cap)
  refine ⟨Nat.lt_of_lt_of_le h1 kk.size, ?_, ?_, ?_, ht, G, cap, g1, ho.keep kk (by omega)⟩
  · rw [World.frozen?_setCell, World.frozen?_setCell]; exact h2
  · rw [World.frozen?_setCell, World.frozen?_setCell]; exact h3
  · rw [World.cell?_setCell_other _ _ _ _ (by simp)]; exact g0
/-- The result's two cells. -/
def QB (W : World) (R : Nat) : Prop := R < W.heap.size ∧ (∃ v, W.cell? ⟨R, 0, none⟩ = some v) ∧ (∃ v, W.cell? ⟨R, 1, none⟩ = some v) ∧ W.frozen? ⟨R, 0, none⟩ = false ∧ W.frozen? ⟨R, 1, none⟩ = false
theorem QB.keep {W W' : World} {R lo hi : Nat} (h : QB W R) (k : Keep lo hi W W') (ho : R < lo ∨ hi ≤ R) : QB W' R := by
  obtain ⟨h1, ⟨v0, h2⟩, ⟨v1, h3⟩, h4, h5⟩ := h
  exact ⟨Nat.lt_of_lt_of_le h1 k.size, ⟨v0, (k.cell h1 ho).trans h2⟩, ⟨v1, (k.cell h1 ho).trans h3⟩, (k.frozen h1 ho).trans h4, (k.frozen h1 ho).trans h5⟩
theorem keep_new {W W' : World} {s lo hi : Nat} {w : World} (h : Keep s (s + 1) w W) (k : Keep lo hi W W') (ho : (lo = s ∧ hi = s + 1) ∨ w.heap.size ≤ lo ∨ hi ≤ lo) : Keep s (s + 1) w W' :=
  ⟨k.os.trans h.os, k.tape.trans h.tape, k.output.trans h.output, Nat.le_trans h.size k.size, fun i h1 h2 => (k.block i (Nat.lt_of_lt_of_le h1 h.size) (by omega)).trans (h.block i h1 h2)⟩

/-- What l4Draw leaves. -/
def DrawnR (N : Nat) (w : World) (s k : Nat) (A : Option Addr) (nc cc hi : Nat) (xs : List Int) (e : Ending) (w' : World) : Prop :=
  ∃ (t : Int) (G : Option Addr) (cap k' : Nat) (zs : List Int), e = .returned (.agg #[.int .i64 t, .slice G zs.length cap]) ∧ (-2 ≤ t ∧ t ≤ 10000) ∧ zs.length ≤ N ∧ OwnI w' w.heap.size G zs.length cap zs ∧ Src w' s k' A nc cc hi xs ∧ k' ≤ k + 9 * N ∧ Keep s (s + 1) w w'

set_option maxHeartbeats 4000000 in
theorem l4Draw_any (s k : Nat) (A : Option Addr) (nc cc hi : Nat) (xs : List Int) (w : World) (h : Src w s k A nc cc hi xs) (hk : k ≤ 1000) :
    Calls Try.prog 37 #[.pointer (some ⟨s, 0, none⟩)] w (DrawnR 10 w s k A nc cc hi xs) := by
  have hsb := h.1
  have hhi := h.2.1
  go_enter Try.func37, Try.ntmps37
  go_wp2_with fail
  have hO : RB ((w.alloc (.cells #[.int .i64 0, .slice none 0 0] 26)).alloc (.cells #[.int .i64 (-1), .slice none 0 0] 26)) (w.heap.size + 1) (-1) [] := ⟨by simp, by simp [go_sem], by simp [go_sem], by simp [go_sem], by omega, none, 0, by simp [go_sem], OwnI.nil _ _⟩
  have hQ : QB ((w.alloc (.cells #[.int .i64 0, .slice none 0 0] 26)).alloc (.cells #[.int .i64 (-1), .slice none 0 0] 26)) w.heap.size := ⟨by simp; omega, ⟨.int .i64 0, by simp [go_sem]⟩, ⟨.slice none 0 0, by simp [go_sem]⟩, by simp [go_sem], by simp [go_sem]⟩
  have hke : Keep s (s + 1) w ((w.alloc (.cells #[.int .i64 0, .slice none 0 0] 26)).alloc (.cells #[.int .i64 (-1), .slice none 0 0] 26)) := ((Keep.refl _ _ w).alloc _).alloc _
  have h0 := h.keep (((Keep.refl 0 0 w).alloc (.cells #[.int .i64 0, .slice none 0 0] 26)).alloc (.cells #[.int .i64 (-1), .slice none 0 0] 26)) (by omega) (by omega)
  have z0 : ((w.alloc (.cells #[.int .i64 0, .slice none 0 0] 26)).alloc (.cells #[.int .i64 (-1), .slice none 0 0] 26)).heap.size = w.heap.size + 2 := by simp
  generalize ((w.alloc (.cells #[.int .i64 0, .slice none 0 0] 26)).alloc (.cells #[.int .i64 (-1), .slice none 0 0] 26)) = w2 at *
  have h1a := h0.keep ((Keep.refl 0 0 w2).alloc (.cells ([0, 0, 5, 100, 9960].map (Value.int .i64)).toArray 2)) (by omega) (by omega)
  have n1 : w2.heap.size ≠ s := by omega
  try simp only [show w.heap.size + 1 + 1 = w2.heap.size by omega]
  refine (pick_any s k w2.heap.size 5 A nc cc hi xs [0, 0, 5, 100, 9960] 5 _ h1a (by omega) rfl (by omega) (by omega) n1 (by simp) (row_cells w2 [0, 0, 5, 100, 9960] _ _ rfl)).mono ?_
  rintro e w3 ⟨at0, m1, rfl, h3, k3⟩
  have kk3 := ((Keep.refl s (s + 1) w2).alloc (.cells ([0, 0, 5, 100, 9960].map (Value.int .i64)).toArray 2)).trans k3
  have y1 : 0 ≤ at0 ∧ at0 ≤ 9960 := by simp at m1; omega
  replace hO := hO.keep kk3 (by omega)
  replace hQ := hQ.keep kk3 (by omega)
  replace hke := hke.trans kk3
  have z3 := kk3.size
  clear m1 kk3 k3 h1a h0 n1
  go_wp2_with fail
  refine (next_any s (k + 1) A nc cc hi xs 10 w3 h3 (by omega) (by omega)).mono ?_
  rintro e w4 ⟨m0, rfl, r0, r1, _, h4, k4⟩
  have r1' := r1 (by omega)
  replace hO := hO.keep k4 (by omega)
  replace hQ := hQ.keep k4 (by omega)
  replace hke := hke.trans k4
  have z4 := k4.size
  clear h3 k4 r1
  go_wp2_with fail
  go_loopw [4, 5, 6] (fun av nv _ wr => ∃ (a m t : Int) (zs : List Int) (k' : Nat), av = .int .i64 a ∧ nv = .int .i64 m ∧ (0 ≤ m ∧ m ≤ 9) ∧ (0 ≤ a ∧ a + 4 * m ≤ 10060) ∧ (-1 ≤ t ∧ t ≤ 9999) ∧ (zs.length : Int) + m ≤ 10 ∧ RB wr (w.heap.size + 1) t zs ∧ QB wr w.heap.size ∧ Src wr s k' A nc cc hi xs ∧ (k' : Int) + 2 * m ≤ k + 40 ∧ Keep s (s + 1) w wr) (fun _ nv _ _ => (intOf nv).toNat)
  case atStart => exact ⟨at0, m0, -1, [], k + 1 + 1, rfl, rfl, by omega, by omega, by omega, by simp; omega, hO, hQ, h4, by omega, hke⟩
  case round =>
    clear hO hQ hke h4 h
    obtain ⟨a, m, t, zs, k', rfl, rfl, hm, ha, ht, hzl, hO, hQ, hs, hk', hke⟩ := hrel
    have zr := hke.size
    have hBl := hO.1
    by_cases hpos : 0 < m
    · go_wp2_with fail
      have h1a := hs.keep ((Keep.refl 0 0 wr).alloc (.cells ([0, 1, 2, 5, 31, 32, 40].map (Value.int .i64)).toArray 2)) (by omega) (by omega)
      have n1 : wr.heap.size ≠ s := by omega
      refine (pick_any s k' wr.heap.size 7 A nc cc hi xs [0, 1, 2, 5, 31, 32, 40] 7 _ h1a (by omega) rfl (by omega) (by omega) n1 (by simp) (row_cells wr [0, 1, 2, 5, 31, 32, 40] _ _ rfl)).mono ?_
      rintro e w5 ⟨d, m1, rfl, h5, k5⟩
      have kk5 := ((Keep.refl s (s + 1) wr).alloc (.cells ([0, 1, 2, 5, 31, 32, 40].map (Value.int .i64)).toArray 2)).trans k5
      have y1 : 0 ≤ d ∧ d ≤ 40 := by simp at m1; omega
      replace hO := hO.keep kk5 (by omega)
      replace hQ := hQ.keep kk5 (by omega)
      replace hke := hke.trans kk5
      have z5 := kk5.size
      clear m1 kk5 k5 h1a hs n1
      go_wp2_with fail
      refine (l1Min_any (a + d) 9999 w5).mono ?_
      rintro e w6 ⟨rfl, rfl⟩
      have hsq : 0 ≤ min (a + d) 9999 ∧ min (a + d) 9999 ≤ 9999 := by omega
      generalize min (a + d) 9999 = sq at *
      obtain ⟨hB1, fb0, fb1, cb0, tb, G, cap, cb1, ho⟩ := hO
      have hw1 := ho.wi.1.wide (lo' := 0) (Nat.zero_le _) (Nat.le_refl _) (Nat.le_refl _)
      go_wp2_with fail
      refine (specCheck_any t sq G zs.length cap _ _ zs w5 hw1 (by omega)).mono ?_
      rintro e w7 ⟨rfl, k7⟩
      have hO7 : RB w7 (w.heap.size + 1) t zs := RB.keep ⟨hB1, fb0, fb1, cb0, tb, G, cap, cb1, ho⟩ k7 (by omega)
      replace hQ := hQ.keep k7 (by omega)
      replace hke := keep_new hke k7 (by omega)
      replace h5 := h5.keep k7 (by omega) (by omega)
      have z7 := k7.size
      clear hB1 fb0 fb1 cb0 tb cb1 ho hw1 k7
      by_cases hc : checkCode t zs sq = 0
      · rw [hc]
        obtain ⟨hB1, fb0, fb1, cb0, tb, G, cap, cb1, ho⟩ := hO7
        have hw1 := ho.wi.1.wide (lo' := 0) (Nat.zero_le _) (Nat.le_refl _) (Nat.le_refl _)
        have hmm : -1 ≤ max t sq ∧ max t sq ≤ 9999 := by omega
        have HL := Lib.hid (l4Take_any (w.heap.size + 1) t sq G zs.length cap _ zs w7 hB1 cb0 cb1 hw1 (by omega) ht hsq)
        have hll := takeL_len (max t sq) sq zs
        generalize takeL (max t sq) sq zs = zq at *
        generalize max t sq = mx at *
        clear hc hw1
        go_wp2_with fail
        refine HL.out.mono ?_
        rintro e w8 ⟨G8, cap8, rfl, ho8, hb8⟩
        have k8 := Keep.of_below hb8 0 0
        have z8 := hb8.size
        have hO8 : RB w8 (w.heap.size + 1) t zs := RB.keep ⟨hB1, fb0, fb1, cb0, tb, G, cap, cb1, ho⟩ k8 (by omega)
        have hO9 := hO8.set (t' := mx) (by omega) (ho8.down (by omega))
        replace hQ := hQ.keep k8 (by omega)
        replace hke := keep_new hke k8 (by omega)
        replace h5 := h5.keep k8 (by omega) (by omega)
        clear hB1 fb0 fb1 cb0 tb cb1 ho k8 hb8 ho8 HL
        obtain ⟨hB1, fb0, fb1, cb0, tb, G, cap, cb1, ho⟩ := hO8
        clear ho tb
        have kk9 : Keep (w.heap.size + 1) (w.heap.size + 1 + 1) w8 ((w8.setCell ⟨w.heap.size + 1, 0, none⟩ (.int .i64 mx)).setCell ⟨w.heap.size + 1, 1, none⟩ (.slice G8 zq.length cap8)) :=
          ((Keep.refl _ _ w8).setCell (p := ⟨w.heap.size + 1, 0, none⟩) ⟨Nat.le_refl _, Nat.lt_succ_self _⟩ _).setCell (p := ⟨w.heap.size + 1, 1, none⟩) ⟨Nat.le_refl _, Nat.lt_succ_self _⟩ _
        replace hQ := hQ.keep kk9 (by omega)
        replace hke := keep_new hke kk9 (by omega)
        replace h5 := h5.keep kk9 (by omega) (by omega)
        have z9 := kk9.size
        clear kk9
        go_upto_region 9 with fail
        clear fb0 fb1 cb0 cb1
        generalize (w8.setCell ⟨w.heap.size + 1, 0, none⟩ (.int .i64 mx)).setCell ⟨w.heap.size + 1, 1, none⟩ (.slice G8 zq.length cap8) = w9 at *
        go_wp2_with fail
        refine (next_any s (k' + 1) A nc cc hi xs 4 w9 h5 (by omega) (by omega)).mono ?_
        rintro e w10 ⟨d2, rfl, s0, s1, _, h10, k10⟩
        have s1' := s1 (by omega)
        have hO10 := hO9.keep k10 (by omega)
        replace hQ := hQ.keep k10 (by omega)
        replace hke := hke.trans k10
        clear s1 hO9 h5 k10
        go_wp2_with fail
        go_roundw
        case rel => exact ⟨a + d2, m - 1, mx, zq, k' + 1 + 1, by go_num, by go_num, by omega, by omega, hmm, by omega, hO10, hQ, h10, by omega, hke⟩
        case measure => simp [intOf]; omega
      · have hcb : (checkCode t zs sq == 0) = false := by simp [hc]
        go_wp2_with fail
        refine (next_any s (k' + 1) A nc cc hi xs 4 w7 h5 (by omega) (by omega)).mono ?_
        rintro e w10 ⟨d2, rfl, s0, s1, _, h10, k10⟩
        have s1' := s1 (by omega)
        have hO10 := hO7.keep k10 (by omega)
        replace hQ := hQ.keep k10 (by omega)
        replace hke := hke.trans k10
        clear s1 hO7 h5 k10 hcb hc
        go_wp2_with fail
        go_roundw
        case rel => exact ⟨a + d2, m - 1, t, zs, k' + 1 + 1, by go_num, by go_num, by omega, by omega, ht, by omega, hO10, hQ, h10, by omega, hke⟩
        case measure => simp [intOf]; omega
    · obtain ⟨hB1, fb0, fb1, cb0, tb, G, cap, cb1, ho⟩ := hO
      obtain ⟨q0, ⟨v0, q1⟩, ⟨v1, q2⟩, q3, q4⟩ := hQ
      have HF : Hid (∀ x0 x1, DrawnR 10 w s k A nc cc hi xs (.returned (.agg #[.int .i64 t, .slice G zs.length cap])) ((wr.setCell ⟨w.heap.size, 0, none⟩ x0).setCell ⟨w.heap.size, 1, none⟩ x1)) := fun x0 x1 => by
        have kk : Keep w.heap.size (w.heap.size + 1) wr ((wr.setCell ⟨w.heap.size, 0, none⟩ x0).setCell ⟨w.heap.size, 1, none⟩ x1) :=
          ((Keep.refl _ _ wr).setCell (p := ⟨w.heap.size, 0, none⟩) ⟨Nat.le_refl _, Nat.lt_succ_self _⟩ _).setCell (p := ⟨w.heap.size, 1, none⟩) ⟨Nat.le_refl _, Nat.lt_succ_self _⟩ _
        exact ⟨t, G, cap, k', zs, rfl, by omega, by omega, (ho.keep kk (by omega)).down (by omega), hs.keep kk (by omega) (by omega), by omega, keep_new hke kk (by omega)⟩
      clear ho hke hs
      go_wp2_with fail
      obtain ⟨g0, g1⟩ := two_cells q1 q2 (.int .i64 t) (.slice G zs.length cap)
      exact bodyPost_ret (v := .agg #[.int .i64 t, .slice G zs.length cap]) (by simp [results, Try.results37, go_sem, g0, g1]) rfl (HF.out _ _)
end Go.Proofs.Ytebdgdmdjgkboaa
