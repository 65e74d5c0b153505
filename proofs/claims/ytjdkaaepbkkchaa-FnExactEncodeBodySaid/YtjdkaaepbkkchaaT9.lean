/-
  Marks on items.
-/
import Derived.Test.YtjdkaaepbkkchaaT8
namespace Go.Proofs.Ytjdkaaepbkkchaa
open Go.RowKit
set_option linter.unusedVariables false
set_option maxRecDepth 100000

/-- How many marks lie ahead of the j-th item. -/
def offT (xs : List Itm) (j : Nat) : Nat := 3 * j + sumLen (xs.take j)
theorem offT_succ {xs : List Itm} {k : Nat} (hk : k < xs.length) : offT xs (k + 1) = offT xs k + 3 + (xs.getD k it0).2.1.length := by
  have := sumLen_take xs k hk
  unfold offT
  omega
theorem offT_le (xs : List Itm) {k n : Nat} (hk : k ≤ n) : offT xs k ≤ 3 * n + sumLen xs := by
  have := sumLen_take_le xs k
  unfold offT
  omega
theorem offT_all (xs : List Itm) : offT xs xs.length = 3 * xs.length + sumLen xs := by simp [offT]
/-- What the marks leave of an item. -/
def markIt (K : Int) (l : Nat) : Itm := (K, marks (K + 1) l, K + 1 + l, K + 1 + l + 1)
theorem markIt_len (K : Int) (l : Nat) : (markIt K l).2.1.length = l := marks_len _ _
def markT (K : Int) (xs : List Itm) : List Itm := (List.range xs.length).map fun j => markIt (K + (offT xs j : Int)) (xs.getD j it0).2.1.length
theorem markT_len (K : Int) (xs : List Itm) : (markT K xs).length = xs.length := by simp [markT]
theorem markT_at (K : Int) (xs : List Itm) (j : Nat) (hj : j < xs.length) : (markT K xs).getD j it0 = markIt (K + (offT xs j : Int)) (xs.getD j it0).2.1.length := by
  simp [markT, List.getD_eq_getElem?_getD, hj]

theorem ItW.mark {w w2 : World} {b o l u c : Nat} {x : Itm} {G : Option Addr} {K v : Int} (h : ItW w b o x l u) (hk : Keep l u (w.setCell ⟨b, o, none⟩ (.int .i64 K)) w2)
    (hG : w.cell? ⟨b, o + 1, none⟩ = some (.slice G x.2.1.length c)) (hw : Wr w2 l u G x.2.1.length (marks (K + 1) x.2.1.length)) (hv : v = K + 1 + (x.2.1.length : Int)) (hgc : G = none → c = 0) :
    ItW ((w2.setCell ⟨b, o + 2, none⟩ (.int .i64 v)).setCell ⟨b, o + 3, none⟩ (.int .i64 (v + 1))) b o (markIt K x.2.1.length) l u := by
  subst hv
  obtain ⟨⟨h0, _, h3, h4⟩, hf, hx⟩ := h
  have hl := World.block_lt_of_cell? w _ h0
  have hl1 : b < (w.setCell ⟨b, o, none⟩ (.int .i64 K)).heap.size := by simpa [World.setCell] using hl
  have f : ∀ q, w2.cell? ⟨b, q, none⟩ = (w.setCell ⟨b, o, none⟩ (.int .i64 K)).cell? ⟨b, q, none⟩ := fun q => hk.cell (p := ⟨b, q, none⟩) hl1 hx
  have g : ∀ q, w2.frozen? ⟨b, q, none⟩ = w.frozen? ⟨b, q, none⟩ := fun q => (hk.frozen (p := ⟨b, q, none⟩) hl1 hx).trans (World.frozen?_setCell _ _ _ _)
  have c0 : w2.cell? ⟨b, o, none⟩ = some (.int .i64 K) := (f _).trans (World.cell?_setCell_same _ _ _ h0)
  have c1 : w2.cell? ⟨b, o + 1, none⟩ = some (.slice G x.2.1.length c) := (f _).trans ((World.cell?_setCell_other _ _ _ _ (by simp)).trans hG)
  have c2 : w2.cell? ⟨b, o + 2, none⟩ = some (.int .i64 x.2.2.1) := (f _).trans ((World.cell?_setCell_other _ _ _ _ (by simp)).trans h3)
  have c3 : w2.cell? ⟨b, o + 3, none⟩ = some (.int .i64 x.2.2.2) := (f _).trans ((World.cell?_setCell_other _ _ _ _ (by simp)).trans h4)
  have hk2 : Keep b (b + 1) w2 ((w2.setCell ⟨b, o + 2, none⟩ (.int .i64 (K + 1 + (x.2.1.length : Int)))).setCell ⟨b, o + 3, none⟩ (.int .i64 (K + 1 + (x.2.1.length : Int) + 1))) :=
    ((Keep.refl b (b + 1) w2).setCell (p := ⟨b, o + 2, none⟩) ⟨Nat.le_refl _, Nat.lt_succ_self _⟩ _).setCell (p := ⟨b, o + 3, none⟩) ⟨Nat.le_refl _, Nat.lt_succ_self _⟩ _
  refine ⟨⟨?_, ⟨G, c, ?_, ?_, hgc⟩, ?_, ?_⟩, fun j hj => ?_, hx⟩
  · rw [World.cell?_setCell_other _ _ _ _ (by simp), World.cell?_setCell_other _ _ _ _ (by simp)]
    exact c0
  · rw [World.cell?_setCell_other _ _ _ _ (by simp), World.cell?_setCell_other _ _ _ _ (by simp), markIt_len]
    exact c1
  · rw [markIt_len]
    exact hw.keep hk2 (by omega)
  · rw [World.cell?_setCell_other _ _ _ _ (by simp)]
    exact World.cell?_setCell_same _ _ _ c2
  · exact World.cell?_setCell_same _ _ _ ((World.cell?_setCell_other _ _ _ _ (by simp)).trans c3)
  · rw [World.frozen?_setCell, World.frozen?_setCell, g]
    exact hf j hj

/-- The first k items are marked. -/
def Mt (w : World) (b off n k : Nat) (K : Int) (xs : List Itm) (L U : Nat → Nat) : Prop :=
  ∀ j, j < n → ItW w b (off + j * 4) (if j < k then markIt (K + (offT xs j : Int)) (xs.getD j it0).2.1.length else xs.getD j it0) (L j) (U j)
theorem Mt.step {w w2 : World} {b off n k c : Nat} {K v : Int} {xs : List Itm} {L U : Nat → Nat} {G : Option Addr} (h : Mt w b off n k K xs L U) (hk : k < n) (hm : ∀ i j, i < j → j < n → U i ≤ L j)
    (ke : Keep (L k) (U k) (w.setCell ⟨b, off + k * 4, none⟩ (.int .i64 (K + (offT xs k : Int)))) w2)
    (hG : w.cell? ⟨b, off + k * 4 + 1, none⟩ = some (.slice G (xs.getD k it0).2.1.length c)) (hw : Wr w2 (L k) (U k) G (xs.getD k it0).2.1.length (marks (K + (offT xs k : Int) + 1) (xs.getD k it0).2.1.length)) (hv : v = K + (offT xs k : Int) + 1 + ((xs.getD k it0).2.1.length : Int)) (hgc : G = none → c = 0) :
    Mt ((w2.setCell ⟨b, off + k * 4 + 2, none⟩ (.int .i64 v)).setCell ⟨b, off + k * 4 + 3, none⟩ (.int .i64 (v + 1))) b off n (k + 1) K xs L U := by
  intro j hj
  have hkk := h k hk
  rw [if_neg (by omega)] at hkk
  by_cases e : j = k
  · subst e
    rw [if_pos (by omega)]
    exact hkk.mark ke hG hw hv hgc
  · have hjj := h j hj
    have e2 : (if j < k + 1 then markIt (K + (offT xs j : Int)) (xs.getD j it0).2.1.length else xs.getD j it0) = if j < k then markIt (K + (offT xs j : Int)) (xs.getD j it0).2.1.length else xs.getD j it0 := by
      by_cases h2 : j < k
      · rw [if_pos h2, if_pos (by omega)]
      · rw [if_neg h2, if_neg (by omega)]
    rw [e2]
    have d : U j ≤ L k ∨ U k ≤ L j := by
      rcases Nat.lt_or_gt_of_ne e with h3 | h3
      · exact .inl (hm j k h3 hk)
      · exact .inr (hm k j h3 hj)
    exact (((hjj.other (by omega) _).keep ke hkk.2.2 (by omega)).other (by omega) _).other (by omega) _
theorem Mt.done {w : World} {b off n lo hi : Nat} {K : Int} {xs : List Itm} {L U : Nat → Nat} (h : Mt w b off n n K xs L U) (hl : xs.length = n) (hm : n ≤ maxLen) (h1 : lo ≤ b) (h2 : b < hi) (ht : hi ≤ w.heap.size)
    (hL : ∀ j, j < n → lo ≤ L j ∧ U j ≤ hi) (hmm : ∀ i j, i < j → j < n → U i ≤ L j) : Wt w lo hi (some ⟨b, off, none⟩) n (markT K xs) :=
  ⟨(markT_len _ _).trans hl, hm, ht, fun _ => ⟨b, off, rfl, h1, h2, L, U, hL, hmm, fun j hj => by
    have := h j hj
    rw [if_pos hj] at this
    rw [markT_at K xs j (by omega)]
    exact this⟩⟩

set_option maxHeartbeats 2000000 in
theorem markItemS_any (A : Option Addr) (n c lo hi : Nat) (K : Int) (xs : List Itm) (w : World) (h : Wt w lo hi A n xs) (hK0 : 0 ≤ K) (hK : K + ((3 * n + sumLen xs : Nat) : Int) ≤ 9223372036854775807) :
    Calls Try.prog 37 #[.slice A n c, .int .i64 K] w fun e w' => e = .returned (.int .i64 (K + ((3 * n + sumLen xs : Nat) : Int))) ∧ Wt w' lo hi A n (markT K xs) ∧ Keep lo hi w w' := by
  have hint := h.rt.int
  have hl := h.len
  by_cases h0 : n = 0
  · subst h0
    have hx : xs = [] := List.length_eq_zero_iff.1 hl
    subst hx
    go_enter Try.func37, Try.ntmps37
    go_wp2
    refine wp_loop_rounds 1 ?_
    rw [rounds_succ]
    go_wp2
    go_ret
    exact ⟨by simp [sumLen], ⟨rfl, Nat.zero_le _, h.top, fun h => absurd h (by omega)⟩, Keep.refl _ _ _⟩
  · obtain ⟨b, off, rfl, h1, h2, L, U, hL, hm, hc⟩ := h.2.2.2 (by omega)
    have hmax := h.max
    have htop := h.top
    have hp : Mt w b off n 0 K xs L U := fun j hj => by rw [if_neg (by omega)]; exact hc j hj
    have hoa := offT_all xs
    rw [hl] at hoa
    rw [← hoa] at hK ⊢
    clear hc h
    go_enter Try.func37, Try.ntmps37
    go_wp2
    go_loopw [1, 5] (fun m i wr => ∃ k : Nat, k ≤ n ∧ i = .int .i64 (k : Int) ∧ m = .int .i64 (K + (offT xs k : Int)) ∧ Mt wr b off n k K xs L U ∧ Keep lo hi w wr) (fun _ i _ => n - (intOf i).toNat)
    case atStart => exact ⟨0, Nat.zero_le _, rfl, by simp [offT, sumLen], hp, Keep.refl _ _ _⟩
    case round =>
      obtain ⟨k, hk, rfl, rfl, hpt, hke⟩ := hrel
      by_cases hlt : k < n
      · have hit := hpt k hlt
        rw [if_neg (by omega)] at hit
        have hos := offT_succ (xs := xs) (k := k) (by omega)
        have hol := offT_le xs (k := k + 1) (n := n) (by omega)
        have hsp := fun G c w2 v => Mt.step (w2 := w2) (c := c) (G := G) (v := v) hpt hlt hm
        have hLk := hL k hlt
        rw [hoa] at hK
        obtain ⟨⟨a0, ⟨G, cg, a1, rg, gz⟩, a2, a3⟩, hf, hx⟩ := hit
        have GZ := Lib.hid gz
        clear gz
        have z0 := hf 0 (by omega)
        have z2 := hf 2 (by omega)
        have z3 := hf 3 (by omega)
        simp only [Nat.add_zero] at z0
        have hxl := rg.1.int
        generalize xs.getD k it0 = x at *
        obtain ⟨xk, xb, xp, xq⟩ := x
        simp only at a0 a1 a2 a3 rg hos hsp hxl
        generalize xb.length = ln at *
        have i0 : (0 : Int) ≤ (k : Int) := by omega
        have i1 : (k : Int) < (n : Int) := by omega
        have HE := Lib.hid (show K + (offT xs k : Int) + 1 + (ln : Int) + 1 + 1 = K + (offT xs (k + 1) : Int) by omega)
        have b3 : K + (offT xs k : Int) + 1 + (ln : Int) + 1 + 1 ≤ 9223372036854775807 := by omega
        have b0 : 0 ≤ K + (offT xs k : Int) := by omega
        generalize K + (offT xs k : Int) = M at *
        have HSP := Lib.hid hsp
        have HKE := Lib.hid hke
        have hbl := World.block_lt_of_cell? w
        have a1' : (wr.setCell ⟨b, off + k * 4, none⟩ (.int .i64 M)).cell? ⟨b, off + k * 4 + 1, none⟩ = some (.slice G ln cg) := (World.cell?_setCell_other _ _ _ _ (by simp)).trans a1
        have hk1 : Keep b (b + 1) wr (wr.setCell ⟨b, off + k * 4, none⟩ (.int .i64 M)) := (Keep.refl b (b + 1) wr).setCell (p := ⟨b, off + k * 4, none⟩) ⟨Nat.le_refl _, Nat.lt_succ_self _⟩ _
        have rg1 := rg.keep hk1 (by omega)
        have hbw : b < wr.heap.size := World.block_lt_of_cell? wr _ a0
        clear hos hol hf hsp hke hpt hp hbl
        go_wp2_with fail
        have HC := Lib.hid (markByteS_any G ln cg (L k) (U k) (M + 1) xb _ rg1 (by omega) (by omega))
        refine HC.out.mono ?_
        rintro e w2 ⟨rfl, hw2, hk2⟩
        have q := fun o => hk2.cell (p := ⟨b, o, none⟩) (by simpa [World.setCell] using hbw) hx
        have qz := fun o => hk2.frozen (p := ⟨b, o, none⟩) (by simpa [World.setCell] using hbw) hx
        have c2 : w2.cell? ⟨b, off + k * 4 + 2, none⟩ = some (.int .i64 xp) := (q _).trans ((World.cell?_setCell_other _ _ _ _ (by simp)).trans a2)
        have c3 : w2.cell? ⟨b, off + k * 4 + 3, none⟩ = some (.int .i64 xq) := (q _).trans ((World.cell?_setCell_other _ _ _ _ (by simp)).trans a3)
        have y2 : w2.frozen? ⟨b, off + k * 4 + 2, none⟩ = false := (qz _).trans ((World.frozen?_setCell _ _ _ _).trans z2)
        have y3 : w2.frozen? ⟨b, off + k * 4 + 3, none⟩ = false := (qz _).trans ((World.frozen?_setCell _ _ _ _).trans z3)
        have c1 : w2.cell? ⟨b, off + k * 4 + 1, none⟩ = some (.slice G ln cg) := (q _).trans a1'
        have HM := Lib.hid (HSP.out G cg w2 (M + 1 + (ln : Int)) hk2 a1 hw2 rfl GZ.out)
        have HK2 := Lib.hid ((((HKE.out.setCell (p := ⟨b, off + k * 4, none⟩) ⟨h1, h2⟩ (.int .i64 M)).trans (hk2.wide hLk.1 hLk.2)).setCell (p := ⟨b, off + k * 4 + 2, none⟩) ⟨h1, h2⟩ (.int .i64 (M + 1 + (ln : Int)))).setCell (p := ⟨b, off + k * 4 + 3, none⟩) ⟨h1, h2⟩ (.int .i64 (M + 1 + (ln : Int) + 1)))
        clear q qz hk1 rg1 rg a0 a1 a2 a3 a1' hw2 hk2
        go_wp2_with fail
        go_roundw
        case rel => exact ⟨k + 1, by omega, by go_num, by rw [← HE.out], HM.out, HK2.out⟩
        case measure => simp [intOf]; omega
      · obtain rfl : k = n := by omega
        have hw := hpt.done hl hmax h1 h2 (Nat.le_trans htop hke.size) hL hm
        have HW := Lib.hid hw
        clear hw hpt hp
        go_wp2
        go_ret
        exact ⟨rfl, HW.out, hke⟩
end Go.Proofs.Ytjdkaaepbkkchaa
