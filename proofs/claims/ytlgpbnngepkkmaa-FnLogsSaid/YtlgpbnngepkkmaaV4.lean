/-
  impl.copyItem, impl.copyItems.
-/
import Derived.Test.YtlgpbnngepkkmaaVc
import Derived.Test.YtlgpbnngepkkmaaT14
namespace Go.Proofs.Ytlgpbnngepkkmaa
open Go.RowKit
set_option linter.unusedVariables false
set_option maxRecDepth 100000

theorem OwnY.push_any {w wa W1 : World} {base n c g1 cap cb : Nat} {G GB : Option Addr} {ys : List Lit} {x : Itm} {o : Obj} (h : OwnY w base G n c ys) (hbase : base ≤ w.heap.size) (hb : Below w.heap.size w wa)
    (hw : Wr wa w.heap.size wa.heap.size GB x.2.1.length x.2.1) (hgz : GB = none → cb = 0)
    (own1 : W1.ownsRow base 28 4 (.slice (some ⟨g1, 0, none⟩) (n + 1) cap) (n + 1) (ys.flatMap cell4 ++ cell4 (x, GB, cb, w.heap.size, wa.heap.size)))
    (hg : (wa.alloc o).grownBy W1 (Value.ownBlock (.slice G n c))) (hat : Value.ownBlock (.slice G n c) = some g1 ∨ g1 = wa.heap.size + 1) :
    OwnY W1 base (some ⟨g1, 0, none⟩) (n + 1) cap (ys ++ [(x, GB, cb, w.heap.size, wa.heap.size)]) := by
  have hz := hb.size
  have ha : Keep 0 0 wa (wa.alloc o) := (Keep.refl 0 0 wa).alloc o
  have hz1 := hg.size
  simp only [World.size_alloc] at hz1
  have hlt := h.1.lt
  have hkg : ∀ gq, Value.ownBlock (.slice G n c) = some gq → Keep gq (gq + 1) (wa.alloc o) W1 := fun gq e => ⟨hg.os, hg.tape, hg.output, hg.size, fun q hq ho => hg.block q hq (by rw [e]; intro e2; injection e2 with e2; omega)⟩
  have hkn : Value.ownBlock (.slice G n c) = none → Keep 0 0 (wa.alloc o) W1 := fun e => ⟨hg.os, hg.tape, hg.output, hg.size, fun q hq ho => hg.block q hq (by rw [e]; simp)⟩
  refine ⟨by rw [List.flatMap_append]; simpa using own1, by simp [h.2.1], ?_, fun y hy => ?_⟩
  · rw [List.pairwise_append]
    refine ⟨h.2.2.1, by simp, fun a ha b hb2 => ?_⟩
    rw [List.mem_singleton] at hb2
    subst hb2
    exact (h.2.2.2 a ha).2.1
  · rcases List.mem_append.1 hy with hy | hy
    · have hok := h.2.2.2 y hy
      have h2 := (hok.keep (Keep.of_below hb 0 0) (by omega)).keep ha (by omega)
      have h3 : LitOk W1 base (Value.ownBlock (.slice G n c)) y := by
        cases e : Value.ownBlock (.slice G n c) with
        | none => rw [e] at h2; exact h2.keep (hkn e) (by omega)
        | some gq =>
          have := hok.2.2.2.2 gq e
          rw [e] at h2
          exact h2.keep (hkg gq e) (by omega)
      refine ⟨h3.1, h3.2.1, h3.2.2.1, h3.2.2.2.1, fun g e => ?_⟩
      have e2 : g1 = g := by simpa [Value.ownBlock] using e
      subst e2
      rcases hat with e3 | e3
      · exact hok.2.2.2.2 _ e3
      · exact .inr (by have := hok.2.1; omega)
    · rw [List.mem_singleton] at hy
      subst hy
      refine ⟨hbase, by show wa.heap.size ≤ W1.heap.size; omega, ?_, hgz, fun g e => ?_⟩
      · have hw2 := hw.keep ha (by omega)
        cases e : Value.ownBlock (.slice G n c) with
        | none => exact hw2.keep (hkn e) (by omega)
        | some gq =>
          have := (hlt gq e).2
          exact hw2.keep (hkg gq e) (by omega)
      · have e2 : g1 = g := by simpa [Value.ownBlock] using e
        subst e2
        rcases hat with e3 | e3
        · have := (hlt _ e3).2
          exact .inl this
        · exact .inr (by show wa.heap.size ≤ g1; omega)

theorem OwnT.none_ (w : World) (base : Nat) : OwnT w base none 0 0 [] := ⟨[], rfl, ⟨rfl, .inl ⟨rfl, rfl⟩⟩, rfl, by simp, by simp⟩

set_option maxHeartbeats 1000000 in
theorem copyItem_any (k p q : Int) (A : Option Addr) (n c hi : Nat) (xs : List Int) (w : World) (h : Rd w 0 hi A n xs) (gz : A = none → c = 0) (hn : n ≤ 4194304) :
    Calls Try.prog 52 #[.agg #[.int .i64 k, .slice A n c, .int .i64 p, .int .i64 q]] w fun e w' => ∃ G cap, e = .returned (.agg #[.int .i64 k, .slice G n cap, .int .i64 p, .int .i64 q]) ∧ (G = none → cap = 0) ∧ Wr w' w.heap.size w'.heap.size G n xs ∧ Below w.heap.size w w' := by
  have ka := (((Keep.refl 0 0 w).alloc (.cells #[.int .i64 k, .slice A n c, .int .i64 p, .int .i64 q] 28)).alloc (.cells #[.int .i64 0, .slice none 0 0, .int .i64 0, .int .i64 0] 28)).alloc (.cells #[.slice A n c] 22)
  have h3 := h.keep ka (by omega)
  have HC := Lib.hid (concat1_any (w.heap.size + 2) 1 hi A n c xs _ (by simp) (by go_simp) h3 gz hn)
  clear gz h h3
  go_enter Try.func52, Try.ntmps52
  go_wp2_with fail
  refine HC.out.mono ?_
  rintro e w1 ⟨G, cap, rfl, hgz, wi, hb⟩
  have hz := hb.size
  have cc : ∀ i j, i < 2 → w1.cell? ⟨w.heap.size + i, j, none⟩ = _ := fun i j hi => hb.cell (p := ⟨w.heap.size + i, j, none⟩) (by simp; omega)
  have ff : ∀ i j, i < 2 → w1.frozen? ⟨w.heap.size + i, j, none⟩ = _ := fun i j hi => hb.frozen (p := ⟨w.heap.size + i, j, none⟩) (by simp; omega)
  have a0 := cc 0 0 (by omega)
  have a1 := cc 0 1 (by omega)
  have a2 := cc 0 2 (by omega)
  have a3 := cc 0 3 (by omega)
  have b0 := cc 1 0 (by omega)
  have b1 := cc 1 1 (by omega)
  have b2 := cc 1 2 (by omega)
  have b3 := cc 1 3 (by omega)
  have d0 := ff 1 0 (by omega)
  have d1 := ff 1 1 (by omega)
  have d2 := ff 1 2 (by omega)
  have d3 := ff 1 3 (by omega)
  have e1 := ff 0 1 (by omega)
  simp [go_sem] at a0 a1 a2 a3 b0 b1 b2 b3 d0 d1 d2 d3 e1
  have bb := (ka.below (B := w.heap.size) (by omega) (Nat.le_refl _)).trans (hb.mono ka.size)
  simp only [World.size_alloc] at hz wi
  clear cc ff
  have HF : Hid (∀ v0 v1 v2 v3 v4, ∃ G' cap', Ending.returned (.agg #[.int .i64 k, .slice G n cap, .int .i64 p, .int .i64 q]) = .returned (.agg #[.int .i64 k, .slice G' n cap', .int .i64 p, .int .i64 q]) ∧ (G' = none → cap' = 0) ∧
      Wr ((((((w1.setCell ⟨w.heap.size, 1, none⟩ v0).setCell ⟨w.heap.size + 1, 0, none⟩ v1).setCell ⟨w.heap.size + 1, 1, none⟩ v2).setCell ⟨w.heap.size + 1, 2, none⟩ v3).setCell ⟨w.heap.size + 1, 3, none⟩ v4)) w.heap.size ((((((w1.setCell ⟨w.heap.size, 1, none⟩ v0).setCell ⟨w.heap.size + 1, 0, none⟩ v1).setCell ⟨w.heap.size + 1, 1, none⟩ v2).setCell ⟨w.heap.size + 1, 2, none⟩ v3).setCell ⟨w.heap.size + 1, 3, none⟩ v4)).heap.size G' n xs ∧ Below w.heap.size w ((((((w1.setCell ⟨w.heap.size, 1, none⟩ v0).setCell ⟨w.heap.size + 1, 0, none⟩ v1).setCell ⟨w.heap.size + 1, 1, none⟩ v2).setCell ⟨w.heap.size + 1, 2, none⟩ v3).setCell ⟨w.heap.size + 1, 3, none⟩ v4))) := fun v0 v1 v2 v3 v4 => by
    have kk : Keep w.heap.size (w.heap.size + 2) w1 ((((((w1.setCell ⟨w.heap.size, 1, none⟩ v0).setCell ⟨w.heap.size + 1, 0, none⟩ v1).setCell ⟨w.heap.size + 1, 1, none⟩ v2).setCell ⟨w.heap.size + 1, 2, none⟩ v3).setCell ⟨w.heap.size + 1, 3, none⟩ v4)) :=
      ((((((Keep.refl _ _ w1).setCell (p := ⟨w.heap.size, 1, none⟩) (by constructor <;> (simp only []; omega)) v0).setCell (p := ⟨w.heap.size + 1, 0, none⟩) (by constructor <;> (simp only []; omega)) v1).setCell (p := ⟨w.heap.size + 1, 1, none⟩) (by constructor <;> (simp only []; omega)) v2).setCell (p := ⟨w.heap.size + 1, 2, none⟩) (by constructor <;> (simp only []; omega)) v3).setCell (p := ⟨w.heap.size + 1, 3, none⟩) (by constructor <;> (simp only []; omega)) v4)
    exact ⟨G, cap, rfl, hgz, (wi.keep kk (by omega)).wide (by omega) kk.size (Nat.le_refl _), bb.trans (kk.below (by omega) bb.size)⟩
  clear wi hb bb ka HC hgz
  go_wp2_with fail
  exact bodyPost_ret (v := .agg #[.int .i64 k, .slice G n cap, .int .i64 p, .int .i64 q]) (by simp [results, Try.results52, go_sem, b0, b1, b2, b3]) rfl (HF.out _ _ _ _ _)

set_option maxHeartbeats 4000000 in
theorem copyItems_any (A : Option Addr) (n c hi : Nat) (xs : List Itm) (w : World) (h : Rt w 0 hi A n xs) (hn : n ≤ 1048576) (hs : ∀ x ∈ xs, x.2.1.length ≤ 4194304) :
    Calls Try.prog 51 #[.slice A n c] w fun e w' => ∃ G cap, e = .returned (.slice G n cap) ∧ OwnT w' w.heap.size G n cap xs ∧ Below w.heap.size w w' := by
  have hint := h.int
  have hl := h.len
  have htop := h.top
  obtain ⟨I0, hi0, hz0, hz1, hz2⟩ := info_parts info_item
  go_enter Try.func51, Try.ntmps51
  go_wp2_with fail
  go_loopw [3, 5, 8] (fun o _ i wr => ∃ (k : Nat) (G : Option Addr) (cap : Nat), k ≤ n ∧ i = .int .i64 (k : Int) ∧ o = .slice G k cap ∧ OwnT wr w.heap.size G k cap (xs.take k) ∧ Below w.heap.size w wr) (fun _ _ i _ => n - (intOf i).toNat)
  case atStart => exact ⟨0, _, _, Nat.zero_le _, rfl, rfl, by simpa using OwnT.none_ w w.heap.size, Below.refl _ _⟩
  case round =>
    obtain ⟨k, G, cap, hk, rfl, rfl, hO, hB⟩ := hrel
    by_cases hlt : k < n
    · obtain ⟨b, off, rfl, h1, h2, hc⟩ := h.at_ (by omega)
      obtain ⟨a0, ⟨GB, cg, a1, rg, gz⟩, a2, a3⟩ := (hc k hlt).keep (Keep.of_below hB 0 0) h2 (Nat.zero_le _) htop (by omega)
      have hxm : xs.getD k it0 ∈ xs := by
        rw [List.getD_eq_getElem?_getD, List.getElem?_eq_getElem (by omega : k < xs.length)]
        simp
      have hsx := hs _ hxm
      have htk := take_getD' (xs := xs) (k := k) (by omega)
      generalize xs.getD k it0 = x at *
      obtain ⟨xk, xb, xp, xq⟩ := x
      simp only at a0 a1 a2 a3 rg hsx
      have ka := (Keep.refl 0 0 wr).alloc (.cells #[.int .i64 xk, .slice GB xb.length cg, .int .i64 xp, .int .i64 xq] 28)
      have HC := Lib.hid (copyItem_any xk xp xq GB xb.length cg hi xb _ (rg.keep ka (by omega)) gz hsx)
      have HT := Lib.hid htk
      have hzz := hB.size
      have hbl : b < wr.heap.size := by omega
      have i0 : (0 : Int) ≤ (k : Int) := by omega
      have i1 : (k : Int) < (n : Int) := by omega
      have hOA := hO.below (((Below.refl wr.heap.size wr).alloc (Nat.le_refl _) (.cells #[.int .i64 xk, .slice GB xb.length cg, .int .i64 xp, .int .i64 xq] 28)))
      have hBA := hB.alloc hzz (.cells #[.int .i64 xk, .slice GB xb.length cg, .int .i64 xp, .int .i64 xq] 28)
      have HO := Lib.hid hOA
      have HB := Lib.hid hBA
      clear hc hs h hxm htk hO hB rg ka hOA hBA gz
      go_wp2_with fail
      refine HC.out.mono ?_
      rintro e wa ⟨GC, cb, rfl, hgz, hw, hba⟩
      obtain ⟨ys, hys, hY⟩ := HO.out
      have hYa := hY.below hba
      have own0 := hYa.1
      have hza := hba.size
      have hzb := HB.out.size
      have hml : k + 1 ≤ maxLen := by unfold maxLen; omega
      have hmb : (k + 1) * 48 ≤ 140737488355328 := by omega
      have hwl : w.heap.size ≤ wa.heap.size := by omega
      go_wp2_with (at_builtin; refine wpList_append_lies _ rfl (.tmp 12) (.tmp 15) 24 rfl w.heap.size 28 I0 (.agg #[.int .i64 0, .slice none 0 0, .int .i64 0, .int .i64 0]) 4 48 Try.underlying24 hi0 hz0 hz1 hz2 rfl (by decide) _ _ _ rfl (own0.alloc _) ⟨wa.heap.size, 0, none⟩ 1 1 (cell4 ((xk, xb, xp, xq), GC, cb, (wr.alloc (.cells #[.int .i64 xk, .slice GB xb.length cg, .int .i64 xp, .int .i64 xq] 28)).heap.size, wa.heap.size)) rfl rfl (World.news_of_block (cs := #[.int .i64 xk, .slice GC xb.length cb, .int .i64 xp, .int .i64 xq]) (t := 28) (fr := (0, 0)) (heap_alloc_new wa _)) (by simp [Value.oneCell', cell4]) (by omega) hml hmb ?c5 (wa.heap.size + 1) (by simp) ?_)
      case c5 => simp; omega
      intro g1 cap1 W1 own1 hgrow hat hgl
      have hY1 := hY.push_any hzb hba hw hgz own1 hgrow hat
      have hO1 : OwnT W1 w.heap.size (some ⟨g1, 0, none⟩) (k + 1) cap1 (xs.take (k + 1)) := ⟨_, by rw [HT.out, List.map_append, hys]; rfl, hY1⟩
      have hB1 : Below w.heap.size w W1 := Below.of_grown ((HB.out.trans (hba.mono hzb)).alloc hwl _) hgrow (by simp; omega) (fun q e => (own0.lt q e).1)
      have HO1 := Lib.hid hO1
      have HB1 := Lib.hid hB1
      clear own0 own1 hgrow hat hY hYa hY1 hO1 hB1 hba hw HO HB hgz
      go_wp2_with fail
      go_roundw
      case rel => exact ⟨k + 1, _, _, by omega, by go_num, rfl, HO1.out, HB1.out⟩
      case measure => simp [intOf]; omega
    · have ek : k = n := by omega
      subst ek
      have hxt : xs.take k = xs := List.take_of_length_le (by omega)
      rw [hxt] at hO
      go_wp2_with fail
      go_ret
      exact ⟨_, _, rfl, hO, hB⟩
end Go.Proofs.Ytlgpbnngepkkmaa
