/-
  Chapter 7, what both sides use: a number's bytes as a row of the call's own; slices.Concat of any number of slices; append in a drawn region.
-/
import Derived.Test.YtjdkaaepbkkchaaDoorPut2
import Derived.Test.YtjdkaaepbkkchaaDoorVc
import Derived.Test.YtjdkaaepbkkchaaDoorDraw
import Derived.Deep.RegionHeld3
namespace Go.Proofs.YtjdkaaepbkkchaaDoor
open Go.RowKit
set_option linter.unusedVariables false
set_option maxRecDepth 100000

/-- A row of bytes of the call's own, from block base on. -/
def OwnB (w : World) (base : Nat) (g n c : Nat) (xs : List Int) : Prop :=
  xs.length = n ∧ n ≤ c ∧ n ≤ 140737488355328 ∧ base ≤ g ∧ g < w.heap.size ∧ (∀ x ∈ xs, 0 ≤ x ∧ x ≤ 255) ∧ w.ownsRow base 5 1 (.slice (some ⟨g, 0, none⟩) n c) n (xs.map (Value.int .u8))
section
variable {w w' : World} {base g n c : Nat} {xs : List Int}
theorem OwnB.len (h : OwnB w base g n c xs) : xs.length = n := h.1
theorem OwnB.byte (h : OwnB w base g n c xs) : ∀ x ∈ xs, 0 ≤ x ∧ x ≤ 255 := h.2.2.2.2.2.1
theorem OwnB.own (h : OwnB w base g n c xs) : w.ownsRow base 5 1 (.slice (some ⟨g, 0, none⟩) n c) n (xs.map (Value.int .u8)) := h.2.2.2.2.2.2
theorem OwnB.lt (h : OwnB w base g n c xs) : g < w.heap.size := h.2.2.2.2.1
theorem OwnB.le (h : OwnB w base g n c xs) : base ≤ g := h.2.2.2.1
theorem OwnB.keep {lo hi : Nat} (h : OwnB w base g n c xs) (k : Keep lo hi w w') (ho : g < lo ∨ hi ≤ g) : OwnB w' base g n c xs := by
  refine ⟨h.1, h.2.1, h.2.2.1, h.le, Nat.lt_of_lt_of_le h.lt k.size, h.byte, h.own.1, ?_⟩
  rcases h.own.2 with ⟨hv, _⟩ | ⟨g', cap, cur, hv, hg, hh, r⟩
  · cases hv
  · injection hv with hA hn hc
    injection hA with hA
    injection hA with hA
    subst hA
    exact .inr ⟨g, cap, cur, by rw [hc], hg, (k.block g h.lt ho).trans hh, r⟩
theorem OwnB.below (h : OwnB w base g n c xs) (b : Below w.heap.size w w') : OwnB w' base g n c xs := h.keep (Keep.of_below b 0 0) (.inr (Nat.zero_le _))
theorem OwnB.wr (h : OwnB w base g n c xs) : Wr w base w.heap.size (some ⟨g, 0, none⟩) n xs := Wr.of_own h.own (by have := h.2.2.1; unfold maxLen; omega) h.byte
theorem OwnB.wr_at (h : OwnB w base g n c xs) : Wr w g (g + 1) (some ⟨g, 0, none⟩) n xs := by
  have hw := h.wr
  refine ⟨⟨hw.1.len, hw.1.max, h.lt, hw.1.byte, fun hn => ?_⟩, hw.2⟩
  obtain ⟨b, off, e, _, _, hc⟩ := hw.1.at_ hn
  injection e with e
  injection e with e1 e2
  subst e1 e2
  exact ⟨g, 0, rfl, Nat.le_refl _, Nat.lt_succ_self _, hc⟩
theorem OwnB.down {base' : Nat} (h : OwnB w base g n c xs) (hb : base' ≤ base) : OwnB w base' g n c xs := by
  refine ⟨h.1, h.2.1, h.2.2.1, Nat.le_trans hb h.le, h.lt, h.byte, h.own.1, ?_⟩
  rcases h.own.2 with hv | ⟨g', cap, cur, hv, hg, r⟩
  · exact .inl hv
  · exact .inr ⟨g', cap, cur, hv, Nat.le_trans hb hg, r⟩
/-- A row that is made whole. -/
theorem OwnB.lit (w : World) (cs : Array Value) (zs : List Int) (hn : zs.length = n) (hm : n ≤ 140737488355328) (hb : ∀ x ∈ zs, 0 ≤ x ∧ x ≤ 255) (h : cs = (zs.map (Value.int .u8)).toArray) : OwnB (w.alloc (.cells cs 5)) w.heap.size w.heap.size n n zs := by
  subst h
  exact ⟨hn, Nat.le_refl _, hm, Nat.le_refl _, by simp, hb, by simp [hn], .inr ⟨w.heap.size, n, _, rfl, Nat.le_refl _, heap_alloc_new w _, Nat.le_refl _, by unfold maxLen; omega, by simp [hn], by subst hn; simp [List.take_of_length_le]⟩⟩
end

/-- What behind an append is so. -/
structure Apd (w w1 : World) (base g n g' n' c' : Nat) (zs : List Int) : Prop where
  own : OwnB w1 base g' n' c' zs
  keep : Keep g (g + 1) w w1
  at_ : g' = g ∨ g' = w.heap.size
theorem Apd.of {w w1 : World} {base g n c m g' c' : Nat} {xs ds : List Int} (h : OwnB w base g n c xs) (hl : ds.length = m) (hb : ∀ x ∈ ds, 0 ≤ x ∧ x ≤ 255) (hnm : n + m ≤ 140737488355328)
    (own : w1.ownsRow base 5 1 (.slice (some ⟨g', 0, none⟩) (n + m) c') (n + m) (xs.map (Value.int .u8) ++ ds.map (Value.int .u8))) (hg : w.grownBy w1 (some g)) (hat : g' = g ∨ g' = w.heap.size) :
    Apd w w1 base g n g' (n + m) c' (xs ++ ds) := by
  have hlt := (own.lt g' rfl)
  refine ⟨⟨by rw [List.length_append, h.len, hl], own_le own, hnm, hlt.1, hlt.2, fun x hx => ?_, by rw [List.map_append]; exact own⟩, Keep.of_append hg, hat⟩
  rcases List.mem_append.1 hx with hx | hx
  · exact h.byte x hx
  · exact hb x hx
theorem Apd.below {w w1 : World} {base g n g' n' c' B : Nat} {zs : List Int} (h : Apd w w1 base g n g' n' c' zs) (hB : B ≤ g) (hB2 : B ≤ w.heap.size) : Below B w w1 := h.keep.below (.inl hB) hB2
/-- append of bytes that are read from anywhere. -/
theorem run_append_ob {w : World} (ty : TypeId) (base g n c : Nat) (xs : List Int) (h : OwnB w base g n c xs)
    (A : Option Addr) (m d lo hi : Nat) (ds : List Int) (hr : Rd w lo hi A m ds) (hA : A = none → d = 0) (hnm : n + m ≤ 140737488355328) (hbase : base ≤ w.heap.size) :
    ∃ g' c' w1, (Builtin.append_ #[22, 22] ty #[.slice (some ⟨g, 0, none⟩) n c, .slice A m d]).run Tryd.prog w = .ok (.slice (some ⟨g', 0, none⟩) (n + m) c') w1 ∧ Apd w w1 base g n g' (n + m) c' (xs ++ ds) := by
  obtain ⟨i0, hi0, hz0, hz1, hz2⟩ := info_parts info_u8
  rcases Nat.eq_zero_or_pos m with h0 | h0
  · subst h0
    obtain rfl : ds = [] := List.eq_nil_of_length_eq_zero hr.len
    rcases A with _ | ad
    · obtain rfl : d = 0 := hA rfl
      exact ⟨g, c, w, run_append_owned_none (P := Tryd.prog) (w := w) base 22 ty 5 i0 1 Tryd.underlying22 hi0 _ n _ h.own, by simpa using h, Keep.refl _ _ _, .inl rfl⟩
    · obtain ⟨w', hrun, own', grow'⟩ := run_append_fits (P := Tryd.prog) w base 22 ty 5 i0 1 Tryd.underlying22 hi0 hz1 g n c _ h.own ad 0 d [] rfl (by simp) (by simp) (by have := h.2.1; omega)
      exact ⟨g, c, w', hrun, Apd.of h hr.len hr.byte hnm (by simpa using own') grow' (.inl rfl)⟩
  · obtain ⟨b, off, rfl, _, _, _⟩ := hr.at_ h0
    obtain ⟨g', cap', w', hrun, own', grow', hat, hlt⟩ := run_append_lies (P := Tryd.prog) (w := w) 22 ty base 5 i0 (.int .u8 0) 1 1 Tryd.underlying22 hi0 hz0 hz1 hz2 rfl (by decide) _ n _ h.own ⟨b, off, none⟩ m d (ds.map (Value.int .u8)) (by simp [hr.len]) hr.news (ints_oneCell _ _) h0 (by unfold maxLen; omega) (by omega) hbase w.heap.size rfl
    exact ⟨g', cap', w', hrun, Apd.of h hr.len hr.byte hnm own' grow' (by simpa [Value.ownBlock, eq_comm] using hat)⟩
theorem wpList_append_ob {w : World} {ops : Array Oper} {rest : List Oper} {o : Oper} {a : Act} {Q : Exit → Act → World → Prop} (hgd : o.guard = none) (s x : Operand)
    (ho : o.op = Op.call { callee := Callee.builtin Builtin.append, args := #[s, x], argTypes := #[22, 22] })
    (base g n c : Nat) (xs : List Int) (hs : a.eval s = .slice (some ⟨g, 0, none⟩) n c) (h : OwnB w base g n c xs)
    (A : Option Addr) (m d lo hi : Nat) (ds : List Int) (hx : a.eval x = .slice A m d) (hr : Rd w lo hi A m ds) (hA : A = none → d = 0) (hnm : n + m ≤ 140737488355328) (hbase : base ≤ w.heap.size)
    (hK : ∀ g' c' w1, Apd w w1 base g n g' (n + m) c' (xs ++ ds) → wpList Tryd.prog ops Q rest (a.put o.dst (.slice (some ⟨g', 0, none⟩) (n + m) c')) w1) :
    wpList Tryd.prog ops Q (o :: rest) a w := by
  obtain ⟨g', c', w1, hrun, hp⟩ := run_append_ob o.type base g n c xs h A m d lo hi ds hr hA hnm hbase
  refine wpList_plain hgd fun K hK' => ?_
  unfold Oper.wp
  simp [execOp, ho, resolve, invoke, builtin, hs, hx, hrun, Result.andThen]
  exact hK' _ _ (hK g' c' w1 hp)
theorem step_append_ob {w : World} {ops : Array Oper} {o : Oper} {a : Act} {K : Act → World → Prop} {Q : Exit → Act → World → Prop} {E : Prop} (hgd : o.guard = none) (s x : Operand)
    (ho : o.op = Op.call { callee := Callee.builtin Builtin.append, args := #[s, x], argTypes := #[22, 22] })
    (base g n c : Nat) (xs : List Int) (hs : a.eval s = .slice (some ⟨g, 0, none⟩) n c) (h : OwnB w base g n c xs)
    (A : Option Addr) (m d lo hi : Nat) (ds : List Int) (hx : a.eval x = .slice A m d) (hr : Rd w lo hi A m ds) (hA : A = none → d = 0) (hnm : n + m ≤ 140737488355328) (hbase : base ≤ w.heap.size)
    (hK : ∀ g' c' w1, Apd w w1 base g n g' (n + m) c' (xs ++ ds) → K (a.put o.dst (.slice (some ⟨g', 0, none⟩) (n + m) c')) w1) :
    if Region.wanted o (yielded ops a.tmps) = true then Oper.wp Tryd.prog o a w K Q else E := by
  have hw : Region.wanted o (yielded ops a.tmps) = true := by simp [Region.wanted, hgd]
  rw [if_pos hw]
  obtain ⟨g', c', w1, hrun, hp⟩ := run_append_ob o.type base g n c xs h A m d lo hi ds hr hA hnm hbase
  unfold Oper.wp
  simp [execOp, ho, resolve, invoke, builtin, hs, hx, hrun, Result.andThen]
  exact hK g' c' w1 hp

/-- A number's bytes, as a row of the call's own. -/
theorem FillB.own {w : World} {g n : Nat} {xs : List Int} (h : FillB w g n 0 xs) (ht : ∃ cs, w.heap[g]? = some (.cells cs 5 (0, 0))) (hl : xs.length = n) (hm : n ≤ 140737488355328) (hb : ∀ x ∈ xs, 0 ≤ x ∧ x ≤ 255) : OwnB w g g n n xs := by
  have hlt := h.full.lt
  obtain ⟨cs, t, h1, h2, h3⟩ := h
  obtain ⟨cs', h1'⟩ := ht
  rw [h1] at h1'
  injection h1' with h1'
  injection h1' with e1 e2 e3
  subst e1 e2
  refine ⟨hl, Nat.le_refl _, hm, Nat.le_refl _, hlt, hb, by simp [hl], .inr ⟨g, n, cs, rfl, Nat.le_refl _, h1, Nat.le_refl _, by unfold maxLen; omega, by omega, ?_⟩⟩
  refine List.ext_getElem (by simp [h2, hl]) fun j h4 h5 => ?_
  have hj : j < n := by simpa [hl] using h5
  have := h3 j (Nat.zero_le _) hj
  rw [Array.getElem?_eq_getElem (by omega)] at this
  simp only [List.getElem_take, Array.getElem_toList, List.getElem_map]
  rw [Option.some.inj this, List.getD_eq_getElem?_getD, List.getElem?_eq_getElem (by omega)]
  rfl
theorem cells_set {w : World} {g k : Nat} {v : Value} {t : TypeId} (h : ∃ cs, w.heap[g]? = some (.cells cs t (0, 0))) : ∃ cs, (w.setCell ⟨g, k, none⟩ v).heap[g]? = some (.cells cs t (0, 0)) := by
  obtain ⟨cs, h⟩ := h
  exact ⟨cs.setIfInBounds k v, by simp [World.setCell, Array.getElem?_modify, h]⟩

set_option maxHeartbeats 400000 in
theorem l1High_own (n : Int) (s : Nat) (w : World) (h0 : 0 ≤ n) (h1 : n ≤ 9223372036854775807) (hs : s ≤ 7) :
    Calls Tryd.prog 68 #[.int .i64 n, .int .i64 (s : Int)] w fun e w' => ∃ g c, e = .returned (.slice (some ⟨g, 0, none⟩) s c) ∧ OwnB w' w.heap.size g s c (digs n s) ∧ Below w.heap.size w w' := by
  have hmk := run_make_u8 s (by omega)
  go_enter Tryd.func68, Tryd.ntmps68
  go_wp2_with fail
  go_loopw [0, 6] (fun a i wr => ∃ r : Nat, r ≤ s ∧ i = .int .i64 ((r : Int) - 1) ∧ a = .int .i64 (sh n (s - r)) ∧ FillB wr w.heap.size s r (digs n s) ∧ (∃ cs, wr.heap[w.heap.size]? = some (.cells cs 5 (0, 0))) ∧ Below w.heap.size w wr) (fun _ i _ => (intOf i + 1).toNat)
  case atStart => exact ⟨s, Nat.le_refl _, rfl, by rw [Nat.sub_self, sh_zero], FillB.start w _ _ (size_madeCells _ _) _, ⟨_, heap_alloc_new w _⟩, (Below.refl _ _).alloc (Nat.le_refl _) _⟩
  case round =>
    obtain ⟨r, hr, rfl, rfl, hf, hc, hb⟩ := hrel
    rcases r with _ | k
    · have hlt := hf.full.lt
      have HF := Lib.hid (hf.own hc (digs_len _ _) (by omega) (digs_byte _ _))
      go_wp2_with fail
      go_ret
      exact ⟨_, _, rfl, HF.out, hb⟩
    · obtain ⟨v, hv⟩ := hf.cell (show k < s by omega)
      have hz := hf.frozen k
      have hst := hf.step (by omega)
      have hcc := cells_set (k := k) (v := .int .u8 ((digs n s).getD k 0)) hc
      rw [digs_at n s k (by omega), show s - 1 - k = s - (k + 1) from by omega] at hst hcc
      have hb2 := hb.setCell (p := ⟨w.heap.size, k, none⟩) (Nat.le_refl _) (.int .u8 (sh n (s - (k + 1)) % 256))
      have HS : Hid (sh n (s - k) = sh n (s - (k + 1)) / 256) := by
        show _ = _
        rw [show s - k = s - (k + 1) + 1 from by omega, sh_succ]
      have d0 := sh_nonneg n (s - (k + 1)) h0
      have d1 := sh_le n (s - (k + 1)) h0
      generalize sh n (s - (k + 1)) = d at *
      rw [show (((k + 1 : Nat) : Int) - 1) = (k : Int) from by omega]
      have HF := Lib.hid hst
      have HB := Lib.hid hb2
      have HC := Lib.hid hcc
      have hks : (k : Int) < (s : Int) := by omega
      clear hst hb2 hf hb hmk hc hcc
      go_wp2_with fail
      go_roundw
      case rel => exact ⟨k, by omega, rfl, by rw [HS.out], HF.out, HC.out, HB.out⟩
      case measure => simp [intOf]

/-- A slice of bytes: where, how long, with how much room, which bytes. -/
abbrev Pc := Option Addr × Nat × Nat × List Int
def pc0 : Pc := (none, 0, 0, [])
def lenP (ps : List Pc) : Nat := (ps.map fun p => p.2.1).sum
def catP (ps : List Pc) : List Int := ps.flatMap fun p => p.2.2.2
theorem pc_take {ps : List Pc} {k : Nat} (hk : k < ps.length) : ps.take (k + 1) = ps.take k ++ [ps.getD k pc0] := by
  rw [List.take_succ_eq_append_getElem hk, List.getD_eq_getElem?_getD, List.getElem?_eq_getElem hk]
  rfl
theorem lenP_take {ps : List Pc} {k : Nat} (hk : k < ps.length) : lenP (ps.take (k + 1)) = lenP (ps.take k) + (ps.getD k pc0).2.1 := by rw [pc_take hk]; simp [lenP]
theorem catP_take {ps : List Pc} {k : Nat} (hk : k < ps.length) : catP (ps.take (k + 1)) = catP (ps.take k) ++ (ps.getD k pc0).2.2.2 := by rw [pc_take hk]; simp [catP]
theorem lenP_le (ps : List Pc) (k : Nat) : lenP (ps.take k) ≤ lenP ps := by
  have : lenP (ps.take k ++ ps.drop k) = lenP (ps.take k) + lenP (ps.drop k) := by
    unfold lenP
    rw [List.map_append, List.sum_append]
  rw [List.take_append_drop] at this
  omega
/-- In a row of slices at sb these lie. -/
structure Parts (w : World) (sb hi : Nat) (ps : List Pc) : Prop where
  lt : sb < w.heap.size
  at_ : ∀ j, j < ps.length → w.cell? ⟨sb, j, none⟩ = some (.slice (ps.getD j pc0).1 (ps.getD j pc0).2.1 (ps.getD j pc0).2.2.1) ∧ Rd w 0 hi (ps.getD j pc0).1 (ps.getD j pc0).2.1 (ps.getD j pc0).2.2.2 ∧ ((ps.getD j pc0).1 = none → (ps.getD j pc0).2.2.1 = 0)
theorem Parts.keep {w w' : World} {sb hi lo' hi' : Nat} {ps : List Pc} (h : Parts w sb hi ps) (k : Keep lo' hi' w w') (ho : (sb < lo' ∨ hi' ≤ sb) ∧ (hi ≤ lo' ∨ hi' ≤ lo')) : Parts w' sb hi ps :=
  ⟨Nat.lt_of_lt_of_le h.lt k.size, fun j hj => ⟨(k.cell (p := ⟨sb, j, none⟩) h.lt ho.1).trans (h.at_ j hj).1, (h.at_ j hj).2.1.keep k (by omega), (h.at_ j hj).2.2⟩⟩

set_option maxHeartbeats 2000000 in
theorem concatN_any (sb c2 hi N L : Nat) (ps : List Pc) (zs : List Int) (w : World) (h : Parts w sb hi ps) (hi1 : hi ≤ w.heap.size) (hN : ps.length = N) (hL : lenP ps = L) (hz : catP ps = zs) (h0 : 0 < L) (hn : L ≤ 4194304) (hN9 : N ≤ 1000) :
    Calls Tryd.prog 32 #[.slice (some ⟨sb, 0, none⟩) N c2] w fun e w' => ∃ g c, e = .returned (.slice (some ⟨g, 0, none⟩) L c) ∧ OwnB w' w.heap.size g L c zs ∧ Below w.heap.size w w' := by
  have hsb := h.lt
  have HZ := Lib.hid hz
  have HL := Lib.hid hL
  have HN := Lib.hid hN
  clear hz hL hN
  go_enter Tryd.func32, Tryd.ntmps32
  go_wp2_with fail
  go_loopw [3, 5, 11] (fun s _ i wx => (∃ k : Nat, k ≤ N ∧ i = .int .i64 (k : Int) ∧ s = .int .i64 ((lenP (ps.take k) : Nat) : Int)) ∧ w = wx) (fun _ _ i _ => N - (intOf i).toNat)
  case atStart => exact ⟨⟨0, Nat.zero_le _, rfl, rfl⟩, rfl⟩
  case round =>
    obtain ⟨⟨k, hk, rfl, rfl⟩, rfl⟩ := hrel
    by_cases hlt : k < N
    · have HT := Lib.hid (lenP_take (ps := ps) (k := k) (by rw [HN.out]; exact hlt))
      obtain ⟨q1, q2, q3⟩ := h.at_ k (by rw [HN.out]; exact hlt)
      have hle := lenP_le ps (k + 1)
      rw [HT.out, HL.out] at hle
      have i1 : (k : Int) < (N : Int) := by omega
      have i0 : (0 : Int) ≤ (k : Int) := by omega
      generalize ps.getD k pc0 = p at *
      obtain ⟨A, n, c, xs⟩ := p
      simp only at q1 q2 q3 hle
      generalize lenP (ps.take k) = l at *
      have j1 : ¬ (l : Int) + (n : Int) < 0 := by omega
      clear q2 q3 h
      go_wp2_with fail
      go_roundw
      case rel => exact ⟨⟨k + 1, by omega, by go_num, by rw [HT.out]; go_num⟩, trivial⟩
      case measure => simp [intOf]; omega
    · obtain rfl : k = N := by omega
      have HT : Hid (lenP (ps.take k) = L) := by
        show _ = _
        rw [List.take_of_length_le (by rw [HN.out]; exact Nat.le_refl _), HL.out]
      rw [HT.out]
      go_wp2_with fail
      refine (grow_nil L w h0 (by omega)).mono ?_
      rintro e w1 ⟨g1, cap1, rfl, hg1, own1, b1⟩
      have o1 : OwnB w1 w.heap.size g1 0 cap1 [] := ⟨rfl, Nat.zero_le _, Nat.zero_le _, hg1, (own1.lt g1 rfl).2, by simp, own1⟩
      have h1 := h.keep (Keep.of_below b1 0 0) (by omega)
      have z1 := b1.size
      clear h own1
      go_wp2_with fail
      go_loopw [6, 8, 27] (fun out _ i wx => ∃ q g cap' : Nat, q ≤ k ∧ i = .int .i64 (q : Int) ∧ out = .slice (some ⟨g, 0, none⟩) (lenP (ps.take q)) cap' ∧ OwnB wx w.heap.size g (lenP (ps.take q)) cap' (catP (ps.take q)) ∧ Parts wx sb hi ps ∧ Below w.heap.size w wx) (fun _ _ i _ => k - (intOf i).toNat)
      case atStart => exact ⟨0, g1, cap1, Nat.zero_le _, rfl, rfl, o1, h1, b1⟩
      case round =>
        obtain ⟨q, g, cap', hq, rfl, rfl, own, hP, bo⟩ := hrel
        by_cases hlt : q < k
        · have HT := Lib.hid (lenP_take (ps := ps) (k := q) (by rw [HN.out]; exact hlt))
          have HC := Lib.hid (catP_take (ps := ps) (k := q) (by rw [HN.out]; exact hlt))
          obtain ⟨q1, q2, q3⟩ := hP.at_ q (by rw [HN.out]; exact hlt)
          have hle := lenP_le ps (q + 1)
          rw [HT.out, HL.out] at hle
          have i1 : (q : Int) < (k : Int) := by omega
          have i0 : (0 : Int) ≤ (q : Int) := by omega
          generalize ps.getD q pc0 = p at *
          obtain ⟨A, n, c, xs⟩ := p
          simp only at q1 q2 q3 hle
          generalize lenP (ps.take q) = l at *
          generalize catP (ps.take q) = ys at *
          have zb := bo.size
          have hx6 := own.le
          go_wp2_with (at_builtin; refine wpList_append_ob rfl _ _ rfl w.heap.size g l cap' ys rfl own A n c _ _ xs rfl q2 q3 ?k2 zb ?_)
          case k2 => omega
          intro g6 cap6 w6 hp
          have hP6 := hP.keep hp.keep (by have := own.le; omega)
          have b6 : Below w.heap.size w w6 := bo.trans (hp.below own.le zb)
          have HO := Lib.hid hp.own
          have HP6 := Lib.hid hP6
          have HB6 := Lib.hid b6
          clear own hp hP hP6 b6 bo h1 b1 o1 q2
          go_wp2_with fail
          go_roundw
          case rel => exact ⟨q + 1, g6, cap6, by omega, by go_num, by rw [HT.out], by rw [HT.out, HC.out]; exact HO.out, HP6.out, HB6.out⟩
          case measure => simp [intOf]; omega
        · obtain rfl : q = k := by omega
          have hc : catP (ps.take q) = zs := by rw [List.take_of_length_le (by rw [HN.out]; exact Nat.le_refl _), HZ.out]
          rw [HT.out, hc] at own
          rw [HT.out]
          have HF := Lib.hid own
          have HB := Lib.hid bo
          clear own bo hP h1 b1 o1 hc
          go_wp2_with fail
          go_ret
          exact ⟨g, cap', rfl, HF.out, HB.out⟩
end Go.Proofs.YtjdkaaepbkkchaaDoor
