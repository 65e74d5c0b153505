/-
  The draws of chapter 4: l4Bent.
-/
import Derived.Test.YtebdgdmdjgkboaaR13
import Derived.Deep.Cut
namespace Go.Proofs.Ytebdgdmdjgkboaa
open Go.RowKit
set_option linter.unusedVariables false
set_option maxRecDepth 100000

theorem wpList_append_ri {P : Program} {w : World} {ops : Array Oper} {rest : List Oper} {o : Oper} {a : Act} {Q : Exit → Act → World → Prop} (hgd : o.guard = none) (s x : Operand) (t : TypeId)
    (ho : o.op = Op.call { callee := Callee.builtin Builtin.append, args := #[s, x], argTypes := #[t, t] })
    (base : Nat) (e : TypeId) (i : TypeInfo) (z : Value) (ht : P.underlying t = some (.slice e)) (hi : P.info? e = some i) (hz : i.zero = some z)
    (hsize : i.size = 1) (hby : i.bytes = 8) (hzs : z.cells.size = 1)
    (g k cap : Nat) (vs : List Value) (hs : a.eval s = .slice (some ⟨g, 0, none⟩) k cap) (hown : w.ownsRow base e 1 (.slice (some ⟨g, 0, none⟩) k cap) k vs)
    (A : Option Addr) (m c lo hi' : Nat) (ds : List Int) (hx : a.eval x = .slice A m c) (hr : Ri w lo hi' A m ds) (hA : A = none → c = 0)
    (h63 : k + m ≤ maxLen) (hbytes : (k + m) * 8 ≤ 140737488355328) (hbase : base ≤ w.heap.size)
    (h : ∀ g' cap' w', w'.ownsRow base e 1 (.slice (some ⟨g', 0, none⟩) (k + m) cap') (k + m) (vs ++ ds.map (Value.int .i64)) → w.grownBy w' (some g) → (g' = g ∨ g' = w.heap.size) → wpList P ops Q rest (a.put o.dst (.slice (some ⟨g', 0, none⟩) (k + m) cap')) w') :
    wpList P ops Q (o :: rest) a w := by
  rcases Nat.eq_zero_or_pos m with h0 | h0
  · subst h0
    obtain rfl : ds = [] := List.eq_nil_of_length_eq_zero hr.len
    rcases A with _ | ad
    · obtain rfl : c = 0 := hA rfl
      refine wpList_append_own_none hgd s x t ho base e i 1 ht hi _ k vs hs hown hx ?_
      exact h g cap w (by simpa using hown) (World.grownBy.refl w _) (.inl rfl)
    · have hkc : k ≤ cap := by
        rcases hown.2 with ⟨hv, _⟩ | ⟨_, cap', _, hv, _, _, hnc, _⟩
        · cases hv
        · injection hv with _ _ e'
          omega
      refine wpList_append_fits w hgd s x t ho base e i 1 ht hi hsize g k cap vs hs hown ad 0 c [] hx rfl (by simp) (by simp) (by omega) ?_
      intro w' own' grow'
      exact h g cap w' (by simpa using own') grow' (.inl rfl)
  · obtain ⟨b, off, rfl, _, _, _⟩ := hr.at_ h0
    refine wpList_append_lies w hgd s x t ho base e i z 1 8 ht hi hz hsize hby hzs (by decide) _ k vs hs hown ⟨b, off, none⟩ m c (ds.map (Value.int .i64)) hx (by simp [hr.len]) hr.news (ints_oneCell _ _) h0 h63 (by omega) hbase w.heap.size rfl ?_
    intro g' cap' w' own' grow' hat hlt
    exact h g' cap' w' own' grow' (by simpa [Value.ownBlock, eq_comm] using hat)


theorem RC.setTop {W : World} {base B : Nat} {t t' : Int} {zs : List Int} (h : RC W base B t zs) (ht : -2 ≤ t' ∧ t' ≤ 10000) : RC (W.setCell ⟨B, 0, none⟩ (.int .i64 t')) base B t' zs := by
  obtain ⟨h1, h2, h3, h4, h5, G, cap, h6, h7, h8⟩ := h
  have kk : Keep B (B + 1) W (W.setCell ⟨B, 0, none⟩ (.int .i64 t')) := (Keep.refl _ _ W).setCell (p := ⟨B, 0, none⟩) ⟨Nat.le_refl _, Nat.lt_succ_self _⟩ _
  exact ⟨Nat.lt_of_lt_of_le h1 kk.size, by rw [World.frozen?_setCell]; exact h2, by rw [World.frozen?_setCell]; exact h3, World.cell?_setCell_same _ _ _ h4, ht, G, cap, (World.cell?_setCell_other _ _ _ _ (by simp)).trans h6, h7.keep2 kk (fun q e => by have := h8 q e; omega), h8⟩
theorem RC.setSeen {W : World} {base B cap : Nat} {t : Int} {zs zs' : List Int} {G : Option Addr} (h : RC W base B t zs) (ho : OwnI W base G zs'.length cap zs') (hn : ∀ q, Value.ownBlock (.slice G zs'.length cap) = some q → q ≠ B) :
    RC (W.setCell ⟨B, 1, none⟩ (.slice G zs'.length cap)) base B t zs' := by
  obtain ⟨h1, h2, h3, h4, h5, G0, cap0, h6, h7, h8⟩ := h
  have kk : Keep B (B + 1) W (W.setCell ⟨B, 1, none⟩ (.slice G zs'.length cap)) := (Keep.refl _ _ W).setCell (p := ⟨B, 1, none⟩) ⟨Nat.le_refl _, Nat.lt_succ_self _⟩ _
  exact ⟨Nat.lt_of_lt_of_le h1 kk.size, by rw [World.frozen?_setCell]; exact h2, by rw [World.frozen?_setCell]; exact h3, (World.cell?_setCell_other _ _ _ _ (by simp)).trans h4, h5, G, cap, World.cell?_setCell_same _ _ _ h6, ho.keep2 kk (fun q e => by have := hn q e; omega), hn⟩

theorem RC.mk' {W : World} {base B cap : Nat} {t : Int} {zs' : List Int} {G : Option Addr} {x : Value} (h1 : B < W.heap.size) (h2 : W.frozen? ⟨B, 0, none⟩ = false) (h3 : W.frozen? ⟨B, 1, none⟩ = false) (h4 : W.cell? ⟨B, 0, none⟩ = some (.int .i64 t)) (h5 : -2 ≤ t ∧ t ≤ 10000)
    (h6 : W.cell? ⟨B, 1, none⟩ = some x) (ho : OwnI W base G zs'.length cap zs') (hn : ∀ q, Value.ownBlock (.slice G zs'.length cap) = some q → q ≠ B) : RC (W.setCell ⟨B, 1, none⟩ (.slice G zs'.length cap)) base B t zs' := by
  have kk : Keep B (B + 1) W (W.setCell ⟨B, 1, none⟩ (.slice G zs'.length cap)) := (Keep.refl _ _ W).setCell (p := ⟨B, 1, none⟩) ⟨Nat.le_refl _, Nat.lt_succ_self _⟩ _
  exact ⟨Nat.lt_of_lt_of_le h1 kk.size, by rw [World.frozen?_setCell]; exact h2, by rw [World.frozen?_setCell]; exact h3, (World.cell?_setCell_other _ _ _ _ (by simp)).trans h4, h5, G, cap, World.cell?_setCell_same _ _ _ h6, ho.keep2 kk (fun q e => by have := hn q e; omega), hn⟩
theorem own_one (w : World) (base : Nat) (x : Int) (hb : base ≤ w.heap.size) : (w.alloc (.cells #[.int .i64 x] 2)).ownsRow base 2 1 (.slice (some ⟨w.heap.size, 0, none⟩) 1 1) 1 [.int .i64 x] :=
  ⟨rfl, .inr ⟨w.heap.size, 1, #[.int .i64 x], rfl, hb, heap_alloc_new w _, Nat.le_refl _, by unfold maxLen; omega, rfl, rfl⟩⟩
/-- What an append onto a row leaves as it was. -/
theorem far_row {W W1 : World} {o : Obj} {v : Value} (hg : (W.alloc o).grownBy W1 (Value.ownBlock v)) {p : Addr} (hp : p.block < W.heap.size) (hn : Value.ownBlock v ≠ some p.block) : W1.cell? p = W.cell? p ∧ W1.frozen? p = W.frozen? p := by
  have kB : W1.heap[p.block]? = W.heap[p.block]? := by
    rw [hg.block p.block (by simp; omega) (fun e => hn e.symm)]
    exact Below.heap_alloc _ _ _ hp
  exact ⟨World.cell?_of_block (w := W) kB, World.frozen?_of_block (w := W) kB⟩
theorem keep_row {W W1 : World} {o : Obj} {v : Value} {base : Nat} (hg : (W.alloc o).grownBy W1 (Value.ownBlock v)) (hb : ∀ q, Value.ownBlock v = some q → base ≤ q) : Keep base W.heap.size W W1 :=
  ⟨hg.os, hg.tape, hg.output, by have := hg.size; simp at this; omega, fun i h1 h2 => by
    rw [hg.block i (by simp; omega) (fun e => by have := hb i e.symm; omega)]
    exact Below.heap_alloc _ _ _ h1⟩

set_option maxHeartbeats 4000000 in
theorem l4Bent_any (s k : Nat) (A : Option Addr) (nc cc hi : Nat) (xs : List Int) (w : World) (h : Src w s k A nc cc hi xs) (hk : k ≤ 500) :
    Calls Try.prog 35 #[.pointer (some ⟨s, 0, none⟩)] w (DrawnR 11 w s k A nc cc hi xs) := by
  have hsb := h.1
  have hhi := h.2.1
  obtain ⟨I0, hi0, hz0, hz1, hz2⟩ := info_parts info_i64
  go_enter Try.func35, Try.ntmps35
  go_wp2_with fail
  have hQ : QB (w.alloc (.cells #[.int .i64 0, .slice none 0 0] 26)) w.heap.size := ⟨by simp, ⟨.int .i64 0, by simp [go_sem]⟩, ⟨.slice none 0 0, by simp [go_sem]⟩, by simp [go_sem], by simp [go_sem]⟩
  have hke : Keep s (s + 1) w (w.alloc (.cells #[.int .i64 0, .slice none 0 0] 26)) := (Keep.refl _ _ w).alloc _
  have h0 := h.keep ((Keep.refl 0 0 w).alloc (.cells #[.int .i64 0, .slice none 0 0] 26)) (by omega) (by omega)
  have z0 : (w.alloc (.cells #[.int .i64 0, .slice none 0 0] 26)).heap.size = w.heap.size + 1 := by simp
  generalize (w.alloc (.cells #[.int .i64 0, .slice none 0 0] 26)) = w1 at *
  refine (l4Draw_any s k A nc cc hi xs w1 h0 (by omega)).mono ?_
  rintro e w2 ⟨t, G, cap, k2, zs, rfl, ht, hzl, ho, hs, hk2, k3⟩
  replace hQ := hQ.keep k3 (by omega)
  replace hke := hke.trans k3
  have z2 := k3.size
  clear h0 h k3
  have hO : RC (w2.alloc (.cells #[.int .i64 t, .slice G zs.length cap] 26)) (w.heap.size + 1) w2.heap.size t zs :=
    ⟨by simp, by simp [go_sem], by simp [go_sem], by simp [go_sem], ht, G, cap, by simp [go_sem], (ho.keep ((Keep.refl 0 0 w2).alloc _) (by omega)).down (by omega), fun q e => by have := (ho.1.lt q e).2; omega⟩
  have kb := (Keep.refl 0 0 w2).alloc (.cells #[.int .i64 t, .slice G zs.length cap] 26)
  replace hQ := hQ.keep kb (by omega)
  replace hke := keep_new hke kb (by omega)
  replace hs := hs.keep kb (by omega) (by omega)
  clear kb ho
  go_upto_region 2 with fail
  have z3 : (w2.alloc (.cells #[.int .i64 t, .slice G zs.length cap] 26)).heap.size = w2.heap.size + 1 := by simp
  generalize w2.alloc (.cells #[.int .i64 t, .slice G zs.length cap] 26) = w3 at *
  go_wp2_with fail
  refine (next_any s k2 A nc cc hi xs 14 w3 hs (by omega) (by omega)).mono ?_
  rintro e w4 ⟨c14, rfl, r0, r1, _, h4, k4⟩
  replace hO := hO.keep k4 (by omega) (by omega)
  replace hQ := hQ.keep k4 (by omega)
  replace hke := hke.trans k4
  have z4 := k4.size
  clear hs k4 r1
  have hs := h4
  clear h4
  have zw2 : w.heap.size + 1 ≤ w2.heap.size := by omega
  clear z0
  rcases (show c14 = 0 ∨ c14 = 1 ∨ c14 = 2 ∨ c14 = 3 ∨ 4 ≤ c14 by omega) with rfl | rfl | rfl | rfl | hc14
  · go_wp2_with fail
    have h1a := hs.keep ((Keep.refl 0 0 w4).alloc (.cells ([-2, -1, 0, 10000].map (Value.int .i64)).toArray 2)) (by omega) (by omega)
    have n1 : w4.heap.size ≠ s := by have := hs.1; omega
    refine (pick_any s (k2 + 1) w4.heap.size 4 A nc cc hi xs [-2, -1, 0, 10000] 4 _ h1a (by omega) rfl (by omega) (by omega) n1 (by simp) (row_cells w4 [-2, -1, 0, 10000] _ _ rfl)).mono ?_
    rintro e w5 ⟨r, m1, rfl, hs5, k5⟩
    have kk5 := ((Keep.refl s (s + 1) w4).alloc (.cells ([-2, -1, 0, 10000].map (Value.int .i64)).toArray 2)).trans k5
    replace hO := hO.keep kk5 (by omega) (by omega)
    replace hQ := hQ.keep kk5 (by omega)
    replace hke := hke.trans kk5
    have z5 := kk5.size
    clear hs h1a n1 k5 kk5
    have hs := hs5
    clear hs5
    have y1 : -2 ≤ r ∧ r ≤ 10000 := by simp at m1; omega
    clear m1
    have hO5 := hO.setTop (t' := r) y1
    obtain ⟨hB1, fb0, fb1, cb0, tb, G9, cap9, cb1, ho9, hnb9⟩ := hO
    clear ho9 hnb9 cb1 tb
    have kk9 : Keep w2.heap.size (w2.heap.size + 1) w5 (w5.setCell ⟨w2.heap.size, 0, none⟩ (.int .i64 r)) := (Keep.refl _ _ w5).setCell (p := ⟨w2.heap.size, 0, none⟩) ⟨Nat.le_refl _, Nat.lt_succ_self _⟩ _
    replace hQ := hQ.keep kk9 (by omega)
    replace hke := keep_new hke kk9 (by omega)
    replace hs := hs.keep kk9 (by omega) (by omega)
    clear kk9
    go_upto_region 11 with fail
    clear hB1 fb0 fb1 cb0
    generalize w5.setCell ⟨w2.heap.size, 0, none⟩ (.int .i64 r) = w6 at *
    have hO := hO5
    clear hO5
    have hN : zs.length ≤ 11 := by omega
    obtain ⟨hB1, fb0, fb1, cb0, tb, G9, cap9, cb1, ho9, hnb9⟩ := hO
    obtain ⟨q0, ⟨v0, q1⟩, ⟨v1, q2⟩, q3, q4⟩ := hQ
    have zW := hke.size
    have HF : Hid (∀ x0 x1, DrawnR 11 w s k A nc cc hi xs (.returned (.agg #[.int .i64 r, .slice G9 zs.length cap9])) ((w6.setCell ⟨w.heap.size, 0, none⟩ x0).setCell ⟨w.heap.size, 1, none⟩ x1)) := fun x0 x1 => by
      have kk : Keep w.heap.size (w.heap.size + 1) w6 ((w6.setCell ⟨w.heap.size, 0, none⟩ x0).setCell ⟨w.heap.size, 1, none⟩ x1) :=
        ((Keep.refl _ _ w6).setCell (p := ⟨w.heap.size, 0, none⟩) ⟨Nat.le_refl _, Nat.lt_succ_self _⟩ _).setCell (p := ⟨w.heap.size, 1, none⟩) ⟨Nat.le_refl _, Nat.lt_succ_self _⟩ _
      exact ⟨r, G9, cap9, k2 + 1 + 1, zs, rfl, tb, hN, (ho9.keep kk (by omega)).down (by omega), hs.keep kk (by omega) (by omega), by omega, keep_new hke kk (by omega)⟩
    clear ho9 hnb9 hke hs
    go_wp2_with fail
    obtain ⟨g0, g1⟩ := two_cells q1 q2 (.int .i64 r) (.slice G9 zs.length cap9)
    exact bodyPost_ret (v := .agg #[.int .i64 r, .slice G9 zs.length cap9]) (by simp [results, Try.results35, go_sem, g0, g1]) rfl (HF.out _ _)
  · have hO0 := hO
    obtain ⟨hB1, fb0, fb1, cb0, tb, G9, cap9, cb1, ho9, hnb9⟩ := hO
    have hkd : Keep 0 0 w4 w4.drew := ⟨rfl, rfl, rfl, Nat.le_refl _, fun _ _ _ => rfl⟩
    have ka := (Keep.refl 0 0 w4).alloc (.cells ([0, 5, -1, t].map (Value.int .i64)).toArray 2)
    have kd : Keep 0 0 w4 (w4.alloc (.cells ([0, 5, -1, t].map (Value.int .i64)).toArray 2)).drew := ka.trans ⟨rfl, rfl, rfl, Nat.le_refl _, fun _ _ _ => rfl⟩
    have hsd := hs.keep kd (by omega) (by omega)
    have n1 : w4.heap.size ≠ s := by have := hs.1; omega
    have ca1 := (kd.cell (p := ⟨w2.heap.size, 1, none⟩) hB1 (by show w2.heap.size < 0 ∨ 0 ≤ w2.heap.size; omega)).trans cb1
    have cd0 := (hkd.cell (p := ⟨w2.heap.size, 0, none⟩) hB1 (by show w2.heap.size < 0 ∨ 0 ≤ w2.heap.size; omega)).trans cb0
    have cd1 := (hkd.cell (p := ⟨w2.heap.size, 1, none⟩) hB1 (by show w2.heap.size < 0 ∨ 0 ≤ w2.heap.size; omega)).trans cb1
    have hOd := hO0.keep kd (by omega) (by omega)
    have ho9d := ho9.keep kd (by omega)
    have hBd := hOd.1
    have fa1 := (kd.frozen (p := ⟨w2.heap.size, 1, none⟩) hB1 (by show w2.heap.size < 0 ∨ 0 ≤ w2.heap.size; omega)).trans fb1
    have hQd := hQ.keep kd (by omega)
    have hked := keep_new hke kd (by omega)
    have hrc : ∀ j, j < 4 → ((w4.alloc (.cells ([0, 5, -1, t].map (Value.int .i64)).toArray 2)).drew).cell? ⟨w4.heap.size, j, none⟩ = some (.int .i64 ([0, 5, -1, t].getD j 0)) := fun j hj => row_cells w4 [0, 5, -1, t] _ _ rfl j hj
    have hzd : w4.heap.size + 1 = ((w4.alloc (.cells ([0, 5, -1, t].map (Value.int .i64)).toArray 2)).drew).heap.size := by simp
    have hml : zs.length + 1 ≤ maxLen := by unfold maxLen; omega
    have hmb : (zs.length + 1) * 8 ≤ 140737488355328 := by omega
    go_upto_region 6 with fail
    go_region_law (first
      | (refine step_append_lies _ (by rfl) (.tmp 17) (.tmp 23) 24 (by rfl) (w.heap.size + 1) 2 I0 (.int .i64 0) 1 8 Try.underlying24 hi0 hz0 hz1 hz2 rfl (by decide) (.slice G9 zs.length cap9) zs.length _ (by rfl) (ho5.1.alloc _)
          ⟨w5.heap.size, 0, none⟩ 1 1 [.int .i64 r] (by rfl) (by rfl) (World.news_of_block (cs := #[.int .i64 r]) (t := 2) (fr := (0, 0)) (heap_alloc_new w5 _)) (by simp [Value.oneCell'])
          (by omega) hml hmb (by simp; omega) (w5.heap.size + 1) (by simp) ?_; intro g6 cap6 w6 own6 hgrow hat6 hgl6; have g1 := (far_row hgrow (p := ⟨w2.heap.size, 1, none⟩) (by show w2.heap.size < _; omega) (fun e => hnb9 _ e rfl)).1.trans e1; have f1 := (far_row hgrow (p := ⟨w2.heap.size, 1, none⟩) (by show w2.heap.size < _; omega) (fun e => hnb9 _ e rfl)).2.trans fe1)
      | (go_simp; go_at_call 36; refine (pick_any s (k2 + 1) w4.heap.size 4 A nc cc hi xs [0, 5, -1, t] 4 _ hsd (by omega) rfl (by omega) (by omega) n1 (by omega) hrc).mono ?_; rintro e w5 ⟨r, m1, rfl, hs5, k5⟩; have hO5 := hOd.keep k5 (by omega) (by omega); have hQ5 := hQd.keep k5 (by omega); have hke5 := hked.trans k5; have z5 := k5.size; have e1 := (k5.cell (p := ⟨w2.heap.size, 1, none⟩) hBd (by show w2.heap.size < s ∨ s + 1 ≤ w2.heap.size; omega)).trans ca1; have fe1 := (k5.frozen (p := ⟨w2.heap.size, 1, none⟩) hBd (by show w2.heap.size < s ∨ s + 1 ≤ w2.heap.size; omega)).trans fa1; have ho5 := ho9d.keep k5 (by omega); have ea1 := (((Keep.refl 0 0 w5).alloc (.cells #[.int .i64 r] 2)).cell (p := ⟨w2.heap.size, 1, none⟩) hO5.1 (by show w2.heap.size < 0 ∨ 0 ≤ w2.heap.size; omega)).trans e1))
    all_goals
      have y1 : -9223372036854775808 ≤ r ∧ r ≤ 9223372036854775807 := by simp at m1; omega
      have kr := keep_row hgrow (fun q e => (ho9.1.lt q e).1)
      have hle : (zs ++ [r]).length = zs.length + 1 := by simp
      have ho6 : OwnI w6 (w.heap.size + 1) (some ⟨g6, 0, none⟩) (zs ++ [r]).length cap6 (zs ++ [r]) := ⟨by rw [hle, List.map_append]; exact own6, by rw [hle]; exact hml, fun x hx => by
        rcases List.mem_append.1 hx with hx | hx
        · exact ho9.2.2 x hx
        · rw [List.mem_singleton.1 hx]; exact y1⟩
      have hB5 := hO5.1
      have p0 := (far_row hgrow (p := ⟨w2.heap.size, 0, none⟩) hB5 (fun e => hnb9 _ e rfl)).1.trans ((k5.cell (p := ⟨w2.heap.size, 0, none⟩) hBd (by show w2.heap.size < s ∨ s + 1 ≤ w2.heap.size; omega)).trans ((kd.cell (p := ⟨w2.heap.size, 0, none⟩) hB1 (by show w2.heap.size < 0 ∨ 0 ≤ w2.heap.size; omega)).trans cb0))
      have p1 := (far_row hgrow (p := ⟨w2.heap.size, 0, none⟩) hB5 (fun e => hnb9 _ e rfl)).2.trans ((k5.frozen (p := ⟨w2.heap.size, 0, none⟩) hBd (by show w2.heap.size < s ∨ s + 1 ≤ w2.heap.size; omega)).trans ((kd.frozen (p := ⟨w2.heap.size, 0, none⟩) hB1 (by show w2.heap.size < 0 ∨ 0 ≤ w2.heap.size; omega)).trans fb0))
      have hO6 := RC.mk' (Nat.lt_of_lt_of_le hB5 kr.size) p1 f1 p0 tb g1 ho6 (fun q e => by
        have e' : g6 = q := Option.some.inj e
        rcases hat6 with h6 | h6
        · have := hnb9 g6 h6; omega
        · omega)
      rw [hle] at hO6
      replace hQ := hQ5.keep kr (by omega)
      replace hke := keep_new hke5 kr (by omega)
      replace hs := hs5.keep kr (by omega) (by omega)
      have z6 := kr.size
      clear kr ho6 p0 p1 hO0 hOd hQd hked hsd hO5 hQ5 hke5 hs5 ho9 hnb9 ho9d ho5 own6 hgrow hrc kd ka k5 hkd tb hgl6 hat6 m1
      have kk9 : Keep w2.heap.size (w2.heap.size + 1) w6 (w6.setCell ⟨w2.heap.size, 1, none⟩ (.slice (some ⟨g6, 0, none⟩) (zs.length + 1) cap6)) := (Keep.refl _ _ w6).setCell (p := ⟨w2.heap.size, 1, none⟩) ⟨Nat.le_refl _, Nat.lt_succ_self _⟩ _
      replace hQ := hQ.keep kk9 (by omega)
      replace hke := keep_new hke kk9 (by omega)
      replace hs := hs.keep kk9 (by omega) (by omega)
      clear kk9
      clear g1 f1 e1 fe1 ea1 ca1 fa1 cd0 cd1 cb0 cb1 fb0 fb1
      have hN : (zs ++ [r]).length ≤ 11 := by omega
      clear hle hml hmb
      generalize w6.setCell ⟨w2.heap.size, 1, none⟩ (.slice (some ⟨g6, 0, none⟩) (zs.length + 1) cap6) = w7 at *
      have hO := hO6
      clear hO6
      generalize zs ++ [r] = zq at *
      obtain ⟨hB1, fb0, fb1, cb0, tb, G9, cap9, cb1, ho9, hnb9⟩ := hO
      obtain ⟨q0, ⟨v0, q1⟩, ⟨v1, q2⟩, q3, q4⟩ := hQ
      have zW := hke.size
      have HF : Hid (∀ x0 x1, DrawnR 11 w s k A nc cc hi xs (.returned (.agg #[.int .i64 t, .slice G9 zq.length cap9])) ((w7.setCell ⟨w.heap.size, 0, none⟩ x0).setCell ⟨w.heap.size, 1, none⟩ x1)) := fun x0 x1 => by
        have kk : Keep w.heap.size (w.heap.size + 1) w7 ((w7.setCell ⟨w.heap.size, 0, none⟩ x0).setCell ⟨w.heap.size, 1, none⟩ x1) :=
          ((Keep.refl _ _ w7).setCell (p := ⟨w.heap.size, 0, none⟩) ⟨Nat.le_refl _, Nat.lt_succ_self _⟩ _).setCell (p := ⟨w.heap.size, 1, none⟩) ⟨Nat.le_refl _, Nat.lt_succ_self _⟩ _
        exact ⟨t, G9, cap9, k2 + 1 + 1, zq, rfl, tb, hN, (ho9.keep kk (by omega)).down (by omega), hs.keep kk (by omega) (by omega), by omega, keep_new hke kk (by omega)⟩
      clear ho9 hnb9 hke hs
      go_wp2_with fail
      obtain ⟨g0, g1⟩ := two_cells q1 q2 (.int .i64 t) (.slice G9 zq.length cap9)
      exact bodyPost_ret (v := .agg #[.int .i64 t, .slice G9 zq.length cap9]) (by simp [results, Try.results35, go_sem, g0, g1]) rfl (HF.out _ _)
  · have hO5 : RC (w4.setCell ⟨w2.heap.size, 1, none⟩ (.slice none 0 0)) (w.heap.size + 1) w2.heap.size t [] := hO.setSeen (zs' := []) (OwnI.nil _ _) (fun q e => by cases e)
    obtain ⟨hB1, fb0, fb1, cb0, tb, G9, cap9, cb1, ho9, hnb9⟩ := hO
    clear ho9 hnb9 tb
    have kk9 : Keep w2.heap.size (w2.heap.size + 1) w4 (w4.setCell ⟨w2.heap.size, 1, none⟩ (.slice none 0 0)) := (Keep.refl _ _ w4).setCell (p := ⟨w2.heap.size, 1, none⟩) ⟨Nat.le_refl _, Nat.lt_succ_self _⟩ _
    replace hQ := hQ.keep kk9 (by omega)
    replace hke := keep_new hke kk9 (by omega)
    replace hs := hs.keep kk9 (by omega) (by omega)
    clear kk9
    go_upto_region 11 with fail
    clear hB1 fb0 fb1 cb0 cb1
    generalize w4.setCell ⟨w2.heap.size, 1, none⟩ (.slice none 0 0) = w6 at *
    have hO := hO5
    clear hO5
    have hN : ([] : List Int).length ≤ 11 := by simp
    generalize ([] : List Int) = zq at *
    obtain ⟨hB1, fb0, fb1, cb0, tb, G9, cap9, cb1, ho9, hnb9⟩ := hO
    obtain ⟨q0, ⟨v0, q1⟩, ⟨v1, q2⟩, q3, q4⟩ := hQ
    have zW := hke.size
    have HF : Hid (∀ x0 x1, DrawnR 11 w s k A nc cc hi xs (.returned (.agg #[.int .i64 t, .slice G9 zq.length cap9])) ((w6.setCell ⟨w.heap.size, 0, none⟩ x0).setCell ⟨w.heap.size, 1, none⟩ x1)) := fun x0 x1 => by
      have kk : Keep w.heap.size (w.heap.size + 1) w6 ((w6.setCell ⟨w.heap.size, 0, none⟩ x0).setCell ⟨w.heap.size, 1, none⟩ x1) :=
        ((Keep.refl _ _ w6).setCell (p := ⟨w.heap.size, 0, none⟩) ⟨Nat.le_refl _, Nat.lt_succ_self _⟩ _).setCell (p := ⟨w.heap.size, 1, none⟩) ⟨Nat.le_refl _, Nat.lt_succ_self _⟩ _
      exact ⟨t, G9, cap9, k2 + 1, zq, rfl, tb, hN, (ho9.keep kk (by omega)).down (by omega), hs.keep kk (by omega) (by omega), by omega, keep_new hke kk (by omega)⟩
    clear ho9 hnb9 hke hs
    go_wp2_with fail
    obtain ⟨g0, g1⟩ := two_cells q1 q2 (.int .i64 t) (.slice G9 zq.length cap9)
    exact bodyPost_ret (v := .agg #[.int .i64 t, .slice G9 zq.length cap9]) (by simp [results, Try.results35, go_sem, g0, g1]) rfl (HF.out _ _)
  · have hw32 : IntKind.i64.wrap (t - 32) = t - 32 := by rw [IntKind.wrap_i64]; omega
    have own1 := own_one w4 (w.heap.size + 1) (t - 32) (by omega)
    have hO0 := hO
    obtain ⟨hB1, fb0, fb1, cb0, tb, G9, cap9, cb1, ho9, hnb9⟩ := hO
    have ka := (Keep.refl 0 0 w4).alloc (.cells #[.int .i64 (t - 32)] 2)
    have hr := (ho9.wi.1.wide (lo' := 0) (Nat.zero_le _) (Nat.le_refl _) (Nat.le_refl _)).keep ka (by omega)
    have hA := ho9.bare
    have hwf := ho9.2.2
    have hl32 : -9223372036854775808 ≤ t - 32 ∧ t - 32 ≤ 9223372036854775807 := by omega
    go_wp2_with (at_builtin; refine wpList_append_ri rfl (.tmp 34) (.tmp 36) 24 rfl (w.heap.size + 1) 2 I0 (.int .i64 0) Try.underlying24 hi0 hz0 hz1 hz2 rfl w4.heap.size 1 1 _ rfl own1 G9 zs.length cap9 _ _ zs rfl hr hA ?k1 ?k2 ?k3 ?_)
    case k1 => unfold maxLen; omega
    case k2 => omega
    case k3 => simp; omega
    intro g5 cap5 w5 own5 grow5 hat5
    generalize t - 32 = t3 at *
    have hO5 : OwnI w5 (w.heap.size + 1) (some ⟨g5, 0, none⟩) (t3 :: zs).length cap5 (t3 :: zs) := ⟨by rw [List.length_cons, Nat.add_comm zs.length 1]; exact own5, by rw [List.length_cons]; unfold maxLen; omega, fun x hx => by rcases List.mem_cons.1 hx with rfl | hx; exact hl32; exact hwf x hx⟩
    have k5 : Keep (w4.heap.size) (w4.heap.size + 1) (w4.alloc (.cells #[.int .i64 t3] 2)) w5 := ⟨grow5.os, grow5.tape, grow5.output, grow5.size, fun i h1 h2 => grow5.block i h1 (by simp; omega)⟩
    have k6 : Keep 0 0 w4 w5 := ⟨k5.os.trans ka.os, k5.tape.trans ka.tape, k5.output.trans ka.output, Nat.le_trans ka.size k5.size, fun i h1 _ => (k5.block i (by simp; omega) (by omega)).trans (ka.block i h1 (by omega))⟩
    have hO6 := (hO0.keep k6 (by omega) (by omega)).setSeen (zs' := t3 :: zs) hO5 (fun q e => by
      have e' : g5 = q := Option.some.inj e
      rcases hat5 with h5 | h5
      · omega
      · first | omega | (simp at h5; omega))
    replace hQ := hQ.keep k6 (by omega)
    replace hke := keep_new hke k6 (by omega)
    replace hs := hs.keep k6 (by omega) (by omega)
    have z5 := k6.size
    replace cb1 := (k6.cell (p := ⟨w2.heap.size, 1, none⟩) hB1 (by show w2.heap.size < 0 ∨ 0 ≤ w2.heap.size; omega)).trans cb1
    replace fb1 := (k6.frozen (p := ⟨w2.heap.size, 1, none⟩) hB1 (by show w2.heap.size < 0 ∨ 0 ≤ w2.heap.size; omega)).trans fb1
    clear own1 own5 grow5 hat5 k5 k6 ka hr hA hO5 ho9 hnb9 hO0 cb0 fb0
    have hln : (t3 :: zs).length = 1 + zs.length := by rw [List.length_cons, Nat.add_comm]
    have kk9 : Keep w2.heap.size (w2.heap.size + 1) w5 (w5.setCell ⟨w2.heap.size, 1, none⟩ (.slice (some ⟨g5, 0, none⟩) (1 + zs.length) cap5)) := (Keep.refl _ _ w5).setCell (p := ⟨w2.heap.size, 1, none⟩) ⟨Nat.le_refl _, Nat.lt_succ_self _⟩ _
    replace hQ := hQ.keep kk9 (by omega)
    replace hke := keep_new hke kk9 (by omega)
    replace hs := hs.keep kk9 (by omega) (by omega)
    clear kk9
    rw [hln] at hO6
    clear hln
    go_upto_region 11 with fail
    clear hB1 fb1 cb1
    generalize w5.setCell ⟨w2.heap.size, 1, none⟩ (.slice (some ⟨g5, 0, none⟩) (1 + zs.length) cap5) = w6 at *
    have hO := hO6
    clear hO6
    have hN : (t3 :: zs).length ≤ 11 := by rw [List.length_cons]; omega
    generalize t3 :: zs = zq at *
    obtain ⟨hB1, fb0, fb1, cb0, tb, G9, cap9, cb1, ho9, hnb9⟩ := hO
    obtain ⟨q0, ⟨v0, q1⟩, ⟨v1, q2⟩, q3, q4⟩ := hQ
    have zW := hke.size
    have HF : Hid (∀ x0 x1, DrawnR 11 w s k A nc cc hi xs (.returned (.agg #[.int .i64 t, .slice G9 zq.length cap9])) ((w6.setCell ⟨w.heap.size, 0, none⟩ x0).setCell ⟨w.heap.size, 1, none⟩ x1)) := fun x0 x1 => by
      have kk : Keep w.heap.size (w.heap.size + 1) w6 ((w6.setCell ⟨w.heap.size, 0, none⟩ x0).setCell ⟨w.heap.size, 1, none⟩ x1) :=
        ((Keep.refl _ _ w6).setCell (p := ⟨w.heap.size, 0, none⟩) ⟨Nat.le_refl _, Nat.lt_succ_self _⟩ _).setCell (p := ⟨w.heap.size, 1, none⟩) ⟨Nat.le_refl _, Nat.lt_succ_self _⟩ _
      exact ⟨t, G9, cap9, k2 + 1, zq, rfl, tb, hN, (ho9.keep kk (by omega)).down (by omega), hs.keep kk (by omega) (by omega), by omega, keep_new hke kk (by omega)⟩
    clear ho9 hnb9 hke hs
    go_wp2_with fail
    obtain ⟨g0, g1⟩ := two_cells q1 q2 (.int .i64 t) (.slice G9 zq.length cap9)
    exact bodyPost_ret (v := .agg #[.int .i64 t, .slice G9 zq.length cap9]) (by simp [results, Try.results35, go_sem, g0, g1]) rfl (HF.out _ _)
  · have d0 : (c14 == 0) = false := by simp; omega
    have d1 : (c14 == 1) = false := by simp; omega
    have d2 : (c14 == 2) = false := by simp; omega
    have d3 : (c14 == 3) = false := by simp; omega
    go_upto_region 11 with fail
    clear d0 d1 d2 d3
    have hN : zs.length ≤ 11 := by omega
    obtain ⟨hB1, fb0, fb1, cb0, tb, G9, cap9, cb1, ho9, hnb9⟩ := hO
    obtain ⟨q0, ⟨v0, q1⟩, ⟨v1, q2⟩, q3, q4⟩ := hQ
    have zW := hke.size
    have HF : Hid (∀ x0 x1, DrawnR 11 w s k A nc cc hi xs (.returned (.agg #[.int .i64 t, .slice G9 zs.length cap9])) ((w4.setCell ⟨w.heap.size, 0, none⟩ x0).setCell ⟨w.heap.size, 1, none⟩ x1)) := fun x0 x1 => by
      have kk : Keep w.heap.size (w.heap.size + 1) w4 ((w4.setCell ⟨w.heap.size, 0, none⟩ x0).setCell ⟨w.heap.size, 1, none⟩ x1) :=
        ((Keep.refl _ _ w4).setCell (p := ⟨w.heap.size, 0, none⟩) ⟨Nat.le_refl _, Nat.lt_succ_self _⟩ _).setCell (p := ⟨w.heap.size, 1, none⟩) ⟨Nat.le_refl _, Nat.lt_succ_self _⟩ _
      exact ⟨t, G9, cap9, k2 + 1, zs, rfl, tb, hN, (ho9.keep kk (by omega)).down (by omega), hs.keep kk (by omega) (by omega), by omega, keep_new hke kk (by omega)⟩
    clear ho9 hnb9 hke hs
    go_wp2_with fail
    obtain ⟨g0, g1⟩ := two_cells q1 q2 (.int .i64 t) (.slice G9 zs.length cap9)
    exact bodyPost_ret (v := .agg #[.int .i64 t, .slice G9 zs.length cap9]) (by simp [results, Try.results35, go_sem, g0, g1]) rfl (HF.out _ _)
end Go.Proofs.Ytebdgdmdjgkboaa
