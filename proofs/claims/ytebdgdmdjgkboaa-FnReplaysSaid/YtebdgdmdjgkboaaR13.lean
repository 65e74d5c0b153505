/-
  The draws of chapter 4: l1Ints, l4Copy, l4Bent.
-/
import Derived.Test.YtebdgdmdjgkboaaR12
import Derived.Deep.RegionLaw
import Derived.Deep.RegionHeld3
import Derived.Deep.AppendLies
import Derived.Laws.AppendOwnNone
namespace Go.Proofs.Ytebdgdmdjgkboaa
open Go.RowKit
set_option linter.unusedVariables false
set_option maxRecDepth 100000

/-- What l1Ints leaves. -/
def CopiedI (w : World) (n : Nat) (xs : List Int) (e : Ending) (w' : World) : Prop :=
  ∃ g cap, e = .returned (.slice (some ⟨g, 0, none⟩) n cap) ∧ w'.ownsRow w.heap.size 2 1 (.slice (some ⟨g, 0, none⟩) n cap) n (xs.map (Value.int .i64)) ∧ Wi w' w.heap.size w'.heap.size (some ⟨g, 0, none⟩) n xs ∧ Below w.heap.size w w'

set_option maxHeartbeats 400000 in
theorem ints_any (A : Option Addr) (n c lo hi : Nat) (xs : List Int) (w : World) (h : Ri w lo hi A n xs) (hn : n ≤ 16777216) (hA : A = none → c = 0) :
    Calls Try.prog 59 #[.slice A n c] w (CopiedI w n xs) := by
  obtain ⟨i0, hi0, hz0, hz1, hz2⟩ := info_parts info_i64
  have hown0 : (w.alloc (.cells #[] 2)).ownsRow w.heap.size 2 1 (.slice (some ⟨w.heap.size, 0, none⟩) 0 0) 0 [] := World.ownsRow_made w _ 0 (Nat.le_refl _) (Nat.zero_le _) rfl
  by_cases h0 : n = 0
  · subst h0
    obtain rfl : xs = [] := List.eq_nil_of_length_eq_zero h.len
    have hw := Wi.of_own (xs := []) hown0 (Nat.zero_le _) (by simp)
    rcases A with _ | ad
    · obtain rfl : c = 0 := hA rfl
      go_enter Try.func59, Try.ntmps59
      go_wp2_with fail
      go_ret
      exact ⟨_, _, rfl, hown0, hw, (Below.refl _ _).alloc (Nat.le_refl _) _⟩
    · go_enter Try.func59, Try.ntmps59
      go_wp2_with fail
      go_ret
      exact ⟨_, _, rfl, hown0, hw, (Below.refl _ _).alloc (Nat.le_refl _) _⟩
  · obtain ⟨b, off, rfl, h1, h2, hc⟩ := h.at_ (by omega)
    have htop := h.top
    have hmax := h.max
    have hbyte := h.byte
    have hlen := h.len
    have hnews : ∀ j u, (xs.map (Value.int .i64))[j]? = some u → (w.alloc (.cells #[] 2)).cell? ((⟨b, off, none⟩ : Addr).add j) = some u := by
      intro j u hu
      have hj : j < n := by
        have := (List.getElem?_eq_some_iff.1 hu).1
        simpa [hlen] using this
      have hadd : (⟨b, off, none⟩ : Addr).add j = ⟨b, off + j, none⟩ := by unfold Addr.add; split <;> simp_all
      rw [hadd, World.cell?_alloc_past (w := w) _ _ _ (by omega), hc j hj, ← hu]
      simp [List.getD_eq_getElem?_getD, List.getElem?_eq_getElem (show j < xs.length by omega)]
    have hone : ∀ u ∈ xs.map (Value.int .i64), u.oneCell' = true := ints_oneCell _ _
    have hlen2 : (xs.map (Value.int .i64)).length = n * 1 := by simp [hlen]
    have hpos : 0 < n := by omega
    clear hc h
    go_enter Try.func59, Try.ntmps59
    go_wp2_with (at_builtin; refine wpList_append_lies _ rfl _ _ 24 rfl w.heap.size 2 i0 (.int .i64 0) 1 8 Try.underlying24 hi0 hz0 hz1 hz2 rfl (by decide) _ _ _ rfl hown0 ⟨b, off, none⟩ n c (xs.map (Value.int .i64)) rfl ?d1 ?d2 ?d3 hpos ?d4 ?d5 ?d6 (w.heap.size + 1) (by simp) ?_)
    case d1 => exact hlen2
    case d2 => exact hnews
    case d3 => exact hone
    case d4 => unfold maxLen; omega
    case d5 => omega
    case d6 => simp
    intro gg cap1 w2 hown2 hgrow hat hglt
    have hb : Below w.heap.size w w2 := ((Below.refl _ w).alloc (Nat.le_refl _) _).grown hgrow (by simp) (fun q hq => by simp [Value.ownBlock] at hq; omega)
    have hw := Wi.of_own hown2 hmax hbyte
    have HW := Lib.hid hw
    have HB := Lib.hid hb
    have HO := Lib.hid hown2
    clear hw hb hown2 hgrow hat hnews hone hlen2 hown0 hglt
    go_wp2_with fail
    go_ret
    exact ⟨gg, cap1, rfl, HO.out, HW.out, HB.out⟩
theorem OwnI.bare {w : World} {base n c : Nat} {A : Option Addr} {xs : List Int} (h : OwnI w base A n c xs) : A = none → c = 0 := by
  intro e
  rcases h.1.2 with ⟨e2, _⟩ | ⟨g, cap, cur, e1, _⟩
  · injection e2
  · injection e1 with e1 _ _
    rw [e] at e1
    cases e1
theorem ints_own (A : Option Addr) (n c lo hi : Nat) (xs : List Int) (w : World) (h : Ri w lo hi A n xs) (hn : n ≤ 1048576) (hA : A = none → c = 0) :
    Calls Try.prog 59 #[.slice A n c] w fun e w' => ∃ G cap, e = .returned (.slice G n cap) ∧ OwnI w' w.heap.size G n cap xs ∧ Below w.heap.size w w' :=
  (ints_any A n c lo hi xs w h (by omega) hA).mono fun _ _ ⟨g, cap, e, ho, _, hb⟩ => ⟨_, cap, e, ⟨ho, h.max, h.byte⟩, hb⟩

/-- Box B holds a window whose row is the call's own (from base on), and another block. -/
def RC (W : World) (base B : Nat) (t : Int) (zs : List Int) : Prop :=
  B < W.heap.size ∧ W.frozen? ⟨B, 0, none⟩ = false ∧ W.frozen? ⟨B, 1, none⟩ = false ∧ W.cell? ⟨B, 0, none⟩ = some (.int .i64 t) ∧ (-2 ≤ t ∧ t ≤ 10000) ∧
    ∃ G cap, W.cell? ⟨B, 1, none⟩ = some (.slice G zs.length cap) ∧ OwnI W base G zs.length cap zs ∧ ∀ q, Value.ownBlock (.slice G zs.length cap) = some q → q ≠ B
theorem OwnI.keep2 {w w' : World} {base n c lo hi : Nat} {A : Option Addr} {xs : List Int} (h : OwnI w base A n c xs) (k : Keep lo hi w w') (ho : ∀ q, Value.ownBlock (.slice A n c) = some q → q < lo ∨ hi ≤ q) : OwnI w' base A n c xs := by
  refine ⟨⟨h.1.1, ?_⟩, h.2.1, h.2.2⟩
  rcases h.1.2 with h0 | ⟨g, cap, cur, e1, hb, hg, r⟩
  · exact .inl h0
  · have hlt := (Array.getElem?_eq_some_iff.1 hg).1
    exact .inr ⟨g, cap, cur, e1, hb, (k.block g hlt (ho g (by rw [e1]; rfl))).trans hg, r⟩
theorem RC.keep {W W' : World} {base B lo hi : Nat} {t : Int} {zs : List Int} (h : RC W base B t zs) (k : Keep lo hi W W') (ho : hi ≤ B) (hb : hi ≤ base ∨ hi ≤ lo) : RC W' base B t zs := by
  obtain ⟨h1, h2, h3, h4, h5, G, cap, h6, h7, h8⟩ := h
  exact ⟨Nat.lt_of_lt_of_le h1 k.size, (k.frozen h1 (by show B < lo ∨ hi ≤ B; omega)).trans h2, (k.frozen h1 (by show B < lo ∨ hi ≤ B; omega)).trans h3, (k.cell h1 (by show B < lo ∨ hi ≤ B; omega)).trans h4, h5, G, cap, (k.cell h1 (by show B < lo ∨ hi ≤ B; omega)).trans h6, h7.keep k hb, h8⟩

set_option maxHeartbeats 1000000 in
theorem l4Copy_any (B : Nat) (t : Int) (G : Option Addr) (n cap lo hi : Nat) (zs : List Int) (w : World) (hB : B < w.heap.size) (c0 : w.cell? ⟨B, 0, none⟩ = some (.int .i64 t)) (c1 : w.cell? ⟨B, 1, none⟩ = some (.slice G n cap)) (h : Ri w lo hi G n zs) (hn : n ≤ 1048576) (hA : G = none → cap = 0) :
    Calls Try.prog 38 #[.pointer (some ⟨B, 0, none⟩)] w fun e w' => ∃ G' cap', e = .returned (.agg #[.int .i64 t, .slice G' n cap']) ∧ OwnI w' w.heap.size G' n cap' zs ∧ Below w.heap.size w w' := by
  have ka := (Keep.refl 0 0 w).alloc (.cells #[.int .i64 0, .slice none 0 0] 26)
  have ba := (Below.refl w.heap.size w).alloc (Nat.le_refl _) (.cells #[.int .i64 0, .slice none 0 0] 26)
  have h1 := h.keep ka (by omega)
  have c0a := (ka.cell (p := ⟨B, 0, none⟩) hB (by show B < 0 ∨ 0 ≤ B; omega)).trans c0
  have c1a := (ka.cell (p := ⟨B, 1, none⟩) hB (by show B < 0 ∨ 0 ≤ B; omega)).trans c1
  have q0 : (w.alloc (.cells #[.int .i64 0, .slice none 0 0] 26)).cell? ⟨w.heap.size, 0, none⟩ = some (.int .i64 0) := by simp [go_sem]
  have q1 : (w.alloc (.cells #[.int .i64 0, .slice none 0 0] 26)).cell? ⟨w.heap.size, 1, none⟩ = some (.slice none 0 0) := by simp [go_sem]
  have q2 : (w.alloc (.cells #[.int .i64 0, .slice none 0 0] 26)).frozen? ⟨w.heap.size, 0, none⟩ = false := by simp [go_sem]
  have q3 : (w.alloc (.cells #[.int .i64 0, .slice none 0 0] 26)).frozen? ⟨w.heap.size, 1, none⟩ = false := by simp [go_sem]
  have z1 : (w.alloc (.cells #[.int .i64 0, .slice none 0 0] 26)).heap.size = w.heap.size + 1 := by simp
  go_enter Try.func38, Try.ntmps38
  go_wp2_with fail
  generalize w.alloc (.cells #[.int .i64 0, .slice none 0 0] 26) = w1 at *
  have dd : Keep 0 0 w1 w1.drew := ⟨rfl, rfl, rfl, Nat.le_refl _, fun _ _ _ => rfl⟩
  have h2 := h1.keep dd (by omega)
  have bd : Below w.heap.size w w1.drew := ba.trans ⟨rfl, rfl, rfl, Nat.le_refl _, fun _ _ => rfl⟩
  have zd : w1.drew.heap.size = w.heap.size + 1 := z1
  have q0d : w1.drew.cell? ⟨w.heap.size, 0, none⟩ = some (.int .i64 0) := q0
  have q1d : w1.drew.cell? ⟨w.heap.size, 1, none⟩ = some (.slice none 0 0) := q1
  have q2d : w1.drew.frozen? ⟨w.heap.size, 0, none⟩ = false := q2
  have q3d : w1.drew.frozen? ⟨w.heap.size, 1, none⟩ = false := q3
  have c0d : w1.drew.cell? ⟨B, 0, none⟩ = some (.int .i64 t) := c0a
  have c1d : w1.drew.cell? ⟨B, 1, none⟩ = some (.slice G n cap) := c1a
  go_region_held3 (fun w' => w'.cell? ⟨B, 0, none⟩ = some (.int .i64 t) ∧ w'.cell? ⟨B, 1, none⟩ = some (.slice G n cap))
    (first
      | go_keep
      | exact ⟨e0, e1⟩
      | exact ⟨(World.cell?_setCell_other _ _ _ _ (by simp)).trans ((World.cell?_setCell_other _ _ _ _ (by simp)).trans e0), (World.cell?_setCell_other _ _ _ _ (by simp)).trans ((World.cell?_setCell_other _ _ _ _ (by simp)).trans e1)⟩)
    ((go_at_call 59; refine (ints_own G n cap lo hi zs _ h2 hn hA).mono ?_; rintro e w2 ⟨G2, cap2, rfl, ho, hb⟩; have e0 := (hb.cell (p := ⟨B, 0, none⟩) (by show B < _; omega)).trans c0d; have e1 := (hb.cell (p := ⟨B, 1, none⟩) (by show B < _; omega)).trans c1d; have p0 := (hb.cell (p := ⟨w.heap.size, 0, none⟩) (by show w.heap.size < _; omega)).trans q0d; have p1 := (hb.cell (p := ⟨w.heap.size, 1, none⟩) (by show w.heap.size < _; omega)).trans q1d; have p2 := (hb.frozen (p := ⟨w.heap.size, 0, none⟩) (by show w.heap.size < _; omega)).trans q2d; have p3 := (hb.frozen (p := ⟨w.heap.size, 1, none⟩) (by show w.heap.size < _; omega)).trans q3d; have zw := hb.size))
  have HF : Hid (∀ x0 x1, ∃ G' cap', Ending.returned (.agg #[.int .i64 t, .slice G2 n cap2]) = .returned (.agg #[.int .i64 t, .slice G' n cap']) ∧ OwnI ((w2.setCell ⟨w.heap.size, 0, none⟩ x0).setCell ⟨w.heap.size, 1, none⟩ x1) w.heap.size G' n cap' zs ∧ Below w.heap.size w ((w2.setCell ⟨w.heap.size, 0, none⟩ x0).setCell ⟨w.heap.size, 1, none⟩ x1)) := fun x0 x1 => by
    have kk : Keep w.heap.size (w.heap.size + 1) w2 ((w2.setCell ⟨w.heap.size, 0, none⟩ x0).setCell ⟨w.heap.size, 1, none⟩ x1) :=
      ((Keep.refl _ _ w2).setCell (p := ⟨w.heap.size, 0, none⟩) ⟨Nat.le_refl _, Nat.lt_succ_self _⟩ _).setCell (p := ⟨w.heap.size, 1, none⟩) ⟨Nat.le_refl _, Nat.lt_succ_self _⟩ _
    exact ⟨G2, cap2, rfl, (ho.keep kk (by omega)).down (by omega), (bd.trans (hb.mono (by omega))).trans (kk.below (by omega) (by omega))⟩
  clear ho hb bd ba h1 h2 h
  go_wp2_with fail
  obtain ⟨g0, g1⟩ := two_cells p0 p1 (.int .i64 t) (.slice G2 n cap2)
  exact bodyPost_ret (v := .agg #[.int .i64 t, .slice G2 n cap2]) (by simp [results, Try.results38, go_sem, g0, g1]) rfl (HF.out _ _)
end Go.Proofs.Ytebdgdmdjgkboaa
