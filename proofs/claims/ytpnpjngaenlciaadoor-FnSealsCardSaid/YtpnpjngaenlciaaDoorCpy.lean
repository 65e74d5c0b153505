/-
  copy of bytes that are read from anywhere (nil, empty or not) into a row of the call's own.
-/
import Derived.Test.YtpnpjngaenlciaaDoorApp
import Derived.Laws.CopyOwn
namespace Go.Proofs.YtpnpjngaenlciaaDoor
open Go.RowKit
set_option linter.unusedVariables false
set_option maxRecDepth 100000

/-- Block g holds the bytes zs, and may be written. -/
def RowL (w : World) (g : Nat) (zs : List Int) : Prop := ∃ t, w.heap[g]? = some (.cells (zs.map (Value.int .u8)).toArray t (0, 0))
section
variable {w w' : World} {g : Nat} {zs : List Int}
theorem RowL.lt (h : RowL w g zs) : g < w.heap.size := by
  obtain ⟨t, h1⟩ := h
  rcases Nat.lt_or_ge g w.heap.size with hlt | hge
  · exact hlt
  · rw [Array.getElem?_eq_none hge] at h1; cases h1
theorem RowL.frozen (h : RowL w g zs) (j : Nat) : w.frozen? ⟨g, j, none⟩ = false := by
  obtain ⟨t, h1⟩ := h
  simp [World.frozen?, h1]
theorem RowL.cell (h : RowL w g zs) {j : Nat} (hj : j < zs.length) : w.cell? ⟨g, j, none⟩ = some (.int .u8 (zs.getD j 0)) := by
  obtain ⟨t, h1⟩ := h
  simp [World.cell?, h1, hj, List.getD_eq_getElem?_getD]
theorem RowL.keep {lo hi : Nat} (h : RowL w g zs) (k : Keep lo hi w w') (ho : g < lo ∨ hi ≤ g) : RowL w' g zs := by
  have hl := h.lt
  obtain ⟨t, h1⟩ := h
  exact ⟨t, (k.block g hl ho).trans h1⟩
theorem RowL.set_ (h : RowL w g zs) (i : Nat) (x : Int) : RowL (w.setCell ⟨g, i, none⟩ (.int .u8 x)) g (zs.set i x) := by
  obtain ⟨t, h1⟩ := h
  refine ⟨t, ?_⟩
  simp [World.setCell, Array.getElem?_modify, h1, List.map_set]
theorem RowL.made (w : World) (n : Nat) (t : TypeId) : RowL (w.alloc (.cells (madeCells #[.int .u8 0] n) t)) w.heap.size (List.replicate n 0) := by
  refine ⟨t, ?_⟩
  have e : madeCells #[.int .u8 0] n = ((List.replicate n (0 : Int)).map (Value.int .u8)).toArray := by
    refine Array.ext (by simp [size_madeCells]) fun i h1 h2 => ?_
    simp [madeCells, Nat.mod_one]
  rw [e]
  show (w.heap.push _)[w.heap.size]? = _
  simp
theorem RowL.wr (h : RowL w g zs) {n : Nat} (hl : zs.length = n) (hm : n ≤ maxLen) (hb : ∀ x ∈ zs, 0 ≤ x ∧ x ≤ 255) {lo hi : Nat} (hlo : lo ≤ g) (hhi : g < hi) (ht : hi ≤ w.heap.size) : Wr w lo hi (some ⟨g, 0, none⟩) n zs := by
  refine ⟨⟨hl, hm, ht, hb, fun _ => ⟨g, 0, rfl, hlo, hhi, fun j hj => ?_⟩⟩, fun b off e j hj => ?_⟩
  · rw [Nat.zero_add]; exact h.cell (by omega)
  · injection e with e
    injection e with e1 e2
    subst e1 e2
    exact h.frozen _
end
theorem splice_map (zs ds : List Int) (off : Nat) : splice (zs.map (Value.int .u8)) off (ds.map (Value.int .u8)) = (splice zs off ds).map (Value.int .u8) := by simp [splice]
theorem splice_nil (zs : List Int) (off : Nat) : splice zs off [] = zs := by simp [splice]

theorem run_copy_rd {P : Program} (w : World) (dT sT ty elem : TypeId) (hu : P.underlying dT = some (.slice elem)) (hsz : (P.info? elem).map (·.size) = some 1)
    (g off dLen dCap m sCap lo hi : Nat) (A : Option Addr) (zs ds : List Int) (hg : RowL w g zs) (hr : Rd w lo hi A m ds) (hmd : m ≤ dLen) (hfit : off + m ≤ zs.length) :
    ∃ w', (Builtin.copy_ #[dT, sT] ty #[.slice (some ⟨g, off, none⟩) dLen dCap, .slice A m sCap]).run P w = .ok (goInt m) w' ∧ RowL w' g (splice zs off ds) ∧ Keep g (g + 1) w w' := by
  rcases Nat.eq_zero_or_pos m with h0 | h0
  · subst h0
    obtain rfl : ds = [] := List.eq_nil_of_length_eq_zero hr.len
    exact ⟨w, run_copy_none w dT sT ty elem _ _ dLen dCap 0 sCap hu hsz (by simp), by rw [splice_nil]; exact hg, Keep.refl _ _ _⟩
  · obtain ⟨b, o, rfl, _, _, _⟩ := hr.at_ h0
    obtain ⟨t, h1⟩ := hg
    have hl := hr.len
    have hrun := run_copy_row (P := P) w dT sT ty elem g off dLen dCap ⟨b, o, none⟩ m sCap _ t (ds.map (Value.int .u8)) hu hsz h1 (by simp [hl]; exact (Nat.min_eq_left hmd).symm) hr.news (by simpa [hl] using hfit) (ints_oneCell _ _)
    refine ⟨_, by simpa [hl] using hrun, ⟨t, ?_⟩, ?_⟩
    · rw [setRow_heap w g _ _ t _ h1, ← splice_map]
      simp [splice, hl]
    · exact ⟨rfl, rfl, rfl, by simp [World.setRow], fun k hk ho => setRow_other w g k _ (by omega)⟩

theorem wpList_copy_rd {P : Program} {w : World} {ops : Array Oper} {rest : List Oper} {o : Oper} {a : Act} {Q : Exit → Act → World → Prop} (hgd : o.guard = none) (d s : Operand) (dT sT : TypeId)
    (ho : o.op = .call { callee := .builtin .copy, args := #[d, s], argTypes := #[dT, sT] }) (elem : TypeId) (hu : P.underlying dT = some (.slice elem)) (hsz : (P.info? elem).map (·.size) = some 1)
    (g off dLen dCap m sCap lo hi : Nat) (A : Option Addr) (hd : a.eval d = .slice (some ⟨g, off, none⟩) dLen dCap) (hs : a.eval s = .slice A m sCap)
    (zs ds : List Int) (hg : RowL w g zs) (hr : Rd w lo hi A m ds) (hmd : m ≤ dLen) (hfit : off + m ≤ zs.length)
    (h : ∀ w', RowL w' g (splice zs off ds) → Keep g (g + 1) w w' → wpList P ops Q rest (a.put o.dst (goInt m)) w') : wpList P ops Q (o :: rest) a w := by
  refine wpList_plain hgd fun K hK => ?_
  obtain ⟨w', hrun, h1, h2⟩ := run_copy_rd (P := P) w dT sT o.type elem hu hsz g off dLen dCap m sCap lo hi A zs ds hg hr hmd hfit
  unfold Oper.wp
  simp [execOp, ho, resolve, invoke, builtin, hd, hs, hrun, Result.andThen]
  exact hK _ _ (h w' h1 h2)

theorem step_copy_rd {P : Program} {ops : Array Oper} {o : Oper} {a : Act} {w : World} {K : Act → World → Prop} {Q : Exit → Act → World → Prop} {E : Prop} (hgd : o.guard = none) (d s : Operand) (dT sT : TypeId)
    (ho : o.op = .call { callee := .builtin .copy, args := #[d, s], argTypes := #[dT, sT] }) (elem : TypeId) (hu : P.underlying dT = some (.slice elem)) (hsz : (P.info? elem).map (·.size) = some 1)
    (g off dLen dCap m sCap lo hi : Nat) (A : Option Addr) (hd : a.eval d = .slice (some ⟨g, off, none⟩) dLen dCap) (hs : a.eval s = .slice A m sCap)
    (zs ds : List Int) (hg : RowL w g zs) (hr : Rd w lo hi A m ds) (hmd : m ≤ dLen) (hfit : off + m ≤ zs.length)
    (h : ∀ w', RowL w' g (splice zs off ds) → Keep g (g + 1) w w' → K (a.put o.dst (goInt m)) w') :
    if Region.wanted o (yielded ops a.tmps) = true then Oper.wp P o a w K Q else E := by
  have hw : Region.wanted o (yielded ops a.tmps) = true := by simp [Region.wanted, hgd]
  rw [if_pos hw]
  obtain ⟨w', hrun, h1, h2⟩ := run_copy_rd (P := P) w dT sT o.type elem hu hsz g off dLen dCap m sCap lo hi A zs ds hg hr hmd hfit
  unfold Oper.wp
  simp [execOp, ho, resolve, invoke, builtin, hd, hs, hrun, Result.andThen]
  exact h w' h1 h2
end Go.Proofs.YtpnpjngaenlciaaDoor
