/-
  Rows of items that grow; the model's l5Copy.
-/
import Derived.Test.YtlgpbnngepkkmaaT13
import Derived.Deep.AppendLies
namespace Go.Proofs.Ytlgpbnngepkkmaa
open Go.RowKit
set_option linter.unusedVariables false
set_option maxRecDepth 100000

/-- An item as it lies in a row: the item, where its bytes lie, their room, and the blocks that hold them (from, to). -/
abbrev Lit := Itm × Option Addr × Nat × Nat × Nat
def cell4 (y : Lit) : List Value := [.int .i64 y.1.1, .slice y.2.1 y.1.2.1.length y.2.2.1, .int .i64 y.1.2.2.1, .int .i64 y.1.2.2.2]
def lit0 : Lit := (it0, none, 0, 0, 0)
theorem cell4_at : ∀ (ys : List Lit) (j i : Nat), j < ys.length → i < 4 → (ys.flatMap cell4)[j * 4 + i]? = (cell4 (ys.getD j lit0))[i]?
  | [], j, i, hj, _ => by simp at hj
  | y :: ys, 0, i, _, hi => by
    rw [List.flatMap_cons, Nat.zero_mul, Nat.zero_add, List.getElem?_append_left (by simp [cell4]; omega)]
    rfl
  | y :: ys, j + 1, i, hj, hi => by
    have := cell4_at ys j i (by simpa using hj) hi
    rw [List.flatMap_cons, List.getElem?_append_right (by simp [cell4]; omega)]
    have e : (j + 1) * 4 + i - (cell4 y).length = j * 4 + i := by simp [cell4]; omega
    rw [e, this]
    rfl
/-- What must hold of an item of such a row in this world. -/
def LitOk (w : World) (base : Nat) (B : Option Nat) (y : Lit) : Prop :=
  base ≤ y.2.2.2.1 ∧ y.2.2.2.2 ≤ w.heap.size ∧ Wr w y.2.2.2.1 y.2.2.2.2 y.2.1 y.1.2.1.length y.1.2.1 ∧ (y.2.1 = none → y.2.2.1 = 0) ∧ ∀ g, B = some g → g < y.2.2.2.1 ∨ y.2.2.2.2 ≤ g
def OwnY (w : World) (base : Nat) (G : Option Addr) (n c : Nat) (ys : List Lit) : Prop :=
  w.ownsRow base 28 4 (.slice G n c) n (ys.flatMap cell4) ∧ ys.length = n ∧ ys.Pairwise (fun a b => a.2.2.2.2 ≤ b.2.2.2.1) ∧ ∀ y ∈ ys, LitOk w base (Value.ownBlock (.slice G n c)) y
def OwnT (w : World) (base : Nat) (G : Option Addr) (n c : Nat) (xs : List Itm) : Prop := ∃ ys : List Lit, ys.map (·.1) = xs ∧ OwnY w base G n c ys

theorem LitOk.keep {w w' : World} {base lo hi : Nat} {B : Option Nat} {y : Lit} (h : LitOk w base B y) (k : Keep lo hi w w') (ho : y.2.2.2.2 ≤ lo ∨ hi ≤ y.2.2.2.1 ∨ hi ≤ lo) : LitOk w' base B y :=
  ⟨h.1, Nat.le_trans h.2.1 k.size, h.2.2.1.keep k ho, h.2.2.2.1, h.2.2.2.2⟩
theorem OwnY.below {w w' : World} {base n c : Nat} {G : Option Addr} {ys : List Lit} (h : OwnY w base G n c ys) (hb : Below w.heap.size w w') : OwnY w' base G n c ys := by
  have k := Keep.of_below hb 0 0
  refine ⟨⟨h.1.1, ?_⟩, h.2.1, h.2.2.1, fun y hy => (h.2.2.2 y hy).keep k (by omega)⟩
  rcases h.1.2 with h0 | ⟨g, cap, cur, e1, hg, hh, r⟩
  · exact .inl h0
  · have hlt := (Array.getElem?_eq_some_iff.1 hh).1
    exact .inr ⟨g, cap, cur, e1, hg, (k.block g hlt (by omega)).trans hh, r⟩
theorem OwnT.below {w w' : World} {base n c : Nat} {G : Option Addr} {xs : List Itm} (h : OwnT w base G n c xs) (hb : Below w.heap.size w w') : OwnT w' base G n c xs := by
  obtain ⟨ys, e, hy⟩ := h
  exact ⟨ys, e, hy.below hb⟩
theorem OwnY.push {w wa W1 : World} {base n c g1 cap gb cb : Nat} {G : Option Addr} {ys : List Lit} {x : Itm} {o : Obj} (h : OwnY w base G n c ys) (hbase : base ≤ w.heap.size) (hb : Below w.heap.size w wa)
    (hw : Wr wa w.heap.size wa.heap.size (some ⟨gb, 0, none⟩) x.2.1.length x.2.1)
    (own1 : W1.ownsRow base 28 4 (.slice (some ⟨g1, 0, none⟩) (n + 1) cap) (n + 1) (ys.flatMap cell4 ++ cell4 (x, some ⟨gb, 0, none⟩, cb, w.heap.size, wa.heap.size)))
    (hg : (wa.alloc o).grownBy W1 (Value.ownBlock (.slice G n c))) (hat : Value.ownBlock (.slice G n c) = some g1 ∨ g1 = wa.heap.size + 1) :
    OwnY W1 base (some ⟨g1, 0, none⟩) (n + 1) cap (ys ++ [(x, some ⟨gb, 0, none⟩, cb, w.heap.size, wa.heap.size)]) := by
  have hz := hb.size
  have ha : Keep 0 0 wa (wa.alloc o) := (Keep.refl 0 0 wa).alloc o
  have hz1 := hg.size
  simp only [World.size_alloc] at hz1
  have hlt := h.1.lt
  have hkg : ∀ gq, Value.ownBlock (.slice G n c) = some gq → Keep gq (gq + 1) (wa.alloc o) W1 := fun gq e => ⟨hg.os, hg.tape, hg.output, hg.size, fun q hq ho => hg.block q hq (by rw [e]; intro e2; injection e2 with e2; omega)⟩
  have hkn : Value.ownBlock (.slice G n c) = none → Keep 0 0 (wa.alloc o) W1 := fun e => ⟨hg.os, hg.tape, hg.output, hg.size, fun q hq ho => hg.block q hq (by rw [e]; simp)⟩
  refine ⟨by rw [List.flatMap_append]; simpa using own1, by simp [h.2.1], ?_, fun y hy => ?_⟩
  · rw [List.pairwise_append]
    refine ⟨h.2.2.1, by simp, fun a ha b hb2 => ?_⟩
    rw [List.mem_singleton] at hb2
    subst hb2
    exact (h.2.2.2 a ha).2.1
  · rcases List.mem_append.1 hy with hy | hy
    · have hok := h.2.2.2 y hy
      have h2 := (hok.keep (Keep.of_below hb 0 0) (by omega)).keep ha (by omega)
      have h3 : LitOk W1 base (Value.ownBlock (.slice G n c)) y := by
        cases e : Value.ownBlock (.slice G n c) with
        | none => rw [e] at h2; exact h2.keep (hkn e) (by omega)
        | some gq =>
          have := hok.2.2.2.2 gq e
          rw [e] at h2
          exact h2.keep (hkg gq e) (by omega)
      refine ⟨h3.1, h3.2.1, h3.2.2.1, h3.2.2.2.1, fun g e => ?_⟩
      have e2 : g1 = g := by simpa [Value.ownBlock] using e
      subst e2
      rcases hat with e3 | e3
      · exact hok.2.2.2.2 _ e3
      · exact .inr (by have := hok.2.1; omega)
    · rw [List.mem_singleton] at hy
      subst hy
      refine ⟨hbase, by show wa.heap.size ≤ W1.heap.size; omega, ?_, fun e => (by cases e), fun g e => ?_⟩
      · have hw2 := hw.keep ha (by omega)
        cases e : Value.ownBlock (.slice G n c) with
        | none => exact hw2.keep (hkn e) (by omega)
        | some gq =>
          have := (hlt gq e).2
          exact hw2.keep (hkg gq e) (by omega)
      · have e2 : g1 = g := by simpa [Value.ownBlock] using e
        subst e2
        rcases hat with e3 | e3
        · have := (hlt _ e3).2
          exact .inl this
        · exact .inr (by show wa.heap.size ≤ g1; omega)
theorem OwnT.nil (w : World) (hb : 0 ≤ w.heap.size) : OwnT (w.alloc (.cells #[] 28)) w.heap.size (some ⟨w.heap.size, 0, none⟩) 0 0 [] :=
  ⟨[], rfl, World.ownsRow_lit w #[] 0 (Nat.le_refl _) (Nat.zero_le _) rfl, rfl, by simp, by simp⟩
theorem OwnT.wt {w : World} {base n c : Nat} {G : Option Addr} {xs : List Itm} (h : OwnT w base G n c xs) : Wt w base w.heap.size G n xs := by
  obtain ⟨ys, rfl, hr, hl, hp, hy⟩ := h
  rcases hr.2 with ⟨hv, rfl⟩ | ⟨g, cap, cur, hv, hg, hh, hnc, hcm, hcs, ht⟩
  · have : ys = [] := List.length_eq_zero_iff.1 hl
    subst this
    exact Wt.empty_top w G |>.wide (by
      show base ≤ base
      exact Nat.le_refl _) (Nat.le_refl _) (Nat.le_refl _)
  · injection hv with hA _ _
    subst hA
    have hlt : g < w.heap.size := (Array.getElem?_eq_some_iff.1 hh).1
    have hcell : ∀ j i, j < n → i < 4 → w.cell? ⟨g, 0 + j * 4 + i, none⟩ = (cell4 (ys.getD j lit0))[i]? := fun j i hj hi => by
      rw [← cell4_at ys j i (by omega) hi, ← ht, List.getElem?_take_of_lt (by omega), Array.getElem?_toList]
      simp [World.cell?, hh]
    have hmem : ∀ j, j < n → ys.getD j lit0 ∈ ys := fun j hj => by
      rw [List.getD_eq_getElem?_getD, List.getElem?_eq_getElem (by omega : j < ys.length)]
      simp
    have hmap : ∀ j, j < n → (ys.map (·.1)).getD j it0 = (ys.getD j lit0).1 := fun j hj => by
      simp [List.getD_eq_getElem?_getD, List.getElem?_eq_getElem (by omega : j < ys.length)]
    refine ⟨by simpa using hl, by omega, Nat.le_refl _, fun _ => ⟨g, 0, rfl, hg, hlt, fun j => (ys.getD j lit0).2.2.2.1, fun j => (ys.getD j lit0).2.2.2.2, fun j hj => ?_, fun i j hij hj => ?_, fun j hj => ?_⟩⟩
    · exact ⟨(hy _ (hmem j hj)).1, (hy _ (hmem j hj)).2.1⟩
    · have := List.pairwise_iff_getElem.1 hp i j (by omega) (by omega) hij
      simpa [List.getD_eq_getElem?_getD, List.getElem?_eq_getElem (by omega : j < ys.length), List.getElem?_eq_getElem (by omega : i < ys.length)] using this
    · rw [hmap j hj]
      show ItW w g (0 + j * 4) (ys.getD j lit0).1 (ys.getD j lit0).2.2.2.1 (ys.getD j lit0).2.2.2.2
      have hok := hy _ (hmem j hj)
      have q0 := hcell j 0 hj (by omega)
      have q1 := hcell j 1 hj (by omega)
      have q2 := hcell j 2 hj (by omega)
      have q3 := hcell j 3 hj (by omega)
      generalize ys.getD j lit0 = y at *
      exact ⟨⟨q0, ⟨y.2.1, y.2.2.1, q1, hok.2.2.1, hok.2.2.2.1⟩, q2, q3⟩, fun i hi => by simp [World.frozen?, hh], hok.2.2.2.2 g rfl⟩

theorem take_getD' {xs : List Itm} {k : Nat} (hk : k < xs.length) : xs.take (k + 1) = xs.take k ++ [xs.getD k it0] := by
  rw [List.take_succ_eq_append_getElem hk, List.getD_eq_getElem?_getD, List.getElem?_eq_getElem hk]
  rfl

set_option maxHeartbeats 4000000 in
theorem l5Copy_any (A : Option Addr) (n c hi : Nat) (xs : List Itm) (w : World) (h : Rt w 0 hi A n xs) (hn : n ≤ 1048576) (hs : ∀ x ∈ xs, x.2.1.length ≤ 16777216) :
    Calls Try.prog 59 #[.slice A n c] w fun e w' => ∃ G cap, e = .returned (.slice G n cap) ∧ OwnT w' w.heap.size G n cap xs ∧ Below w.heap.size w w' := by
  have hint := h.int
  have hl := h.len
  have htop := h.top
  obtain ⟨I0, hi0, hz0, hz1, hz2⟩ := info_parts info_item
  go_enter Try.func59, Try.ntmps59
  go_wp2_with fail
  go_loopw [3, 8] (fun o i wr => ∃ (k : Nat) (G : Option Addr) (cap : Nat), k ≤ n ∧ i = .int .i64 (k : Int) ∧ o = .slice G k cap ∧ OwnT wr w.heap.size G k cap (xs.take k) ∧ Below w.heap.size w wr) (fun _ i _ => n - (intOf i).toNat)
  case atStart => exact ⟨0, _, _, Nat.zero_le _, rfl, rfl, by simpa using OwnT.nil w (Nat.zero_le _), (Below.refl _ _).alloc (Nat.le_refl _) _⟩
  case round =>
    obtain ⟨k, G, cap, hk, rfl, rfl, hO, hB⟩ := hrel
    by_cases hlt : k < n
    · obtain ⟨b, off, rfl, h1, h2, hc⟩ := h.at_ (by omega)
      have hit := (hc k hlt).keep (Keep.of_below hB 0 0) h2 (Nat.zero_le _) htop (by omega)
      have hxm : xs.getD k it0 ∈ xs := by
        rw [List.getD_eq_getElem?_getD, List.getElem?_eq_getElem (by omega : k < xs.length)]
        simp
      have hsx := hs _ hxm
      have htk := take_getD' (xs := xs) (k := k) (by omega)
      generalize xs.getD k it0 = x at *
      have HC := Lib.hid (l5Item_any b (off + k * 4) 0 hi x wr hit hsx)
      have HT := Lib.hid htk
      have hzz := hB.size
      have i0 : (0 : Int) ≤ (k : Int) := by omega
      have i1 : (k : Int) < (n : Int) := by omega
      have HO := Lib.hid hO
      have HB := Lib.hid hB
      clear hc hs h hit hxm hsx htk hO hB
      go_wp2_with fail
      refine HC.out.mono ?_
      rintro e wa ⟨gb, cb, rfl, hw, hba⟩
      obtain ⟨ys, hys, hY⟩ := HO.out
      have hYa := hY.below hba
      have own0 := hYa.1
      have hza := hba.size
      have hml : k + 1 ≤ maxLen := by unfold maxLen; omega
      have hmb : (k + 1) * 48 ≤ 140737488355328 := by omega
      go_wp2_with (at_builtin; refine wpList_append_lies _ rfl (.tmp 11) (.tmp 16) 24 rfl w.heap.size 28 I0 (.agg #[.int .i64 0, .slice none 0 0, .int .i64 0, .int .i64 0]) 4 48 Try.underlying24 hi0 hz0 hz1 hz2 rfl (by decide) _ _ _ rfl (own0.alloc _) ⟨wa.heap.size, 0, none⟩ 1 1 (cell4 (x, some ⟨gb, 0, none⟩, cb, wr.heap.size, wa.heap.size)) rfl rfl (World.news_of_block (cs := #[.int .i64 x.1, .slice (some ⟨gb, 0, none⟩) x.2.1.length cb, .int .i64 x.2.2.1, .int .i64 x.2.2.2]) (t := 28) (fr := (0, 0)) (heap_alloc_new wa _)) (by simp [Value.oneCell', cell4]) (by omega) hml hmb ?c5 (wa.heap.size + 1) (by simp) ?_)
      case c5 => simp; omega
      intro g1 cap1 W1 own1 hgrow hat hgl
      have hY1 := hY.push hzz hba hw own1 hgrow hat
      have hO1 : OwnT W1 w.heap.size (some ⟨g1, 0, none⟩) (k + 1) cap1 (xs.take (k + 1)) := ⟨_, by rw [HT.out, List.map_append, hys]; rfl, hY1⟩
      have hB1 : Below w.heap.size w W1 := Below.of_grown ((HB.out.trans (hba.mono hzz)).alloc (by omega) _) hgrow (by simp; omega) (fun q e => (own0.lt q e).1)
      have HO1 := Lib.hid hO1
      have HB1 := Lib.hid hB1
      clear own0 own1 hgrow hat hY hYa hY1 hO1 hB1 hba hw HO HB
      go_wp2_with fail
      go_roundw
      case rel => exact ⟨k + 1, _, _, by omega, by go_num, rfl, HO1.out, HB1.out⟩
      case measure => simp [intOf]; omega
    · have ek : k = n := by omega
      subst ek
      have hxt : xs.take k = xs := List.take_of_length_le (by omega)
      rw [hxt] at hO
      go_wp2_with fail
      go_ret
      exact ⟨_, _, rfl, hO, hB⟩
end Go.Proofs.Ytlgpbnngepkkmaa
