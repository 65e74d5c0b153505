/-
  T2, T3, T4, T6, T7, T8, T9, T10, T11, T12, T13, T14, T15, L0, in one text.
-/
import Derived.Test.YtjdkaaepbkkchaaDoorT1
import Derived.Deep.RegionHeld3
import Derived.Test.YtjdkaaepbkkchaaDoorBase64
import Derived.Deep.AppendLies
import Derived.Deep.RegionLaw
import Derived.Test.YtjdkaaepbkkchaaDoorDraw
namespace Go.Proofs.YtjdkaaepbkkchaaDoor
open Go.RowKit
set_option linter.unusedVariables false
set_option maxRecDepth 100000

/-- An item: its Kind, its Bytes, its Cols, its Rows. -/
abbrev Itm := Int × List Int × Int × Int
def it0 : Itm := (0, [], 0, 0)
/-- At this place of block b lies the item x; its bytes lie in the blocks lo to hi. -/
def ItAt (w : World) (lo hi b off : Nat) (x : Itm) : Prop :=
  w.cell? ⟨b, off, none⟩ = some (.int .i64 x.1) ∧ (∃ G c, w.cell? ⟨b, off + 1, none⟩ = some (.slice G x.2.1.length c) ∧ Rd w lo hi G x.2.1.length x.2.1 ∧ (G = none → c = 0)) ∧
    w.cell? ⟨b, off + 2, none⟩ = some (.int .i64 x.2.2.1) ∧ w.cell? ⟨b, off + 3, none⟩ = some (.int .i64 x.2.2.2)
/-- The slice value '.slice A n c' reads as these items; all of it lies in the blocks lo to hi. -/
def Rt (w : World) (lo hi : Nat) (A : Option Addr) (n : Nat) (xs : List Itm) : Prop :=
  xs.length = n ∧ n ≤ maxLen ∧ hi ≤ w.heap.size ∧ (0 < n → ∃ b off, A = some ⟨b, off, none⟩ ∧ lo ≤ b ∧ b < hi ∧ ∀ j, j < n → ItAt w lo hi b (off + j * 4) (xs.getD j it0))
section
variable {w w' : World} {lo hi lo' hi' n : Nat} {A : Option Addr} {xs : List Itm}
theorem ItAt.keep {b off : Nat} {x : Itm} (h : ItAt w lo hi b off x) (k : Keep lo' hi' w w') (hb : b < hi) (hlb : lo ≤ b) (ht : hi ≤ w.heap.size) (ho : hi ≤ lo' ∨ hi' ≤ lo ∨ hi' ≤ lo') : ItAt w' lo hi b off x := by
  obtain ⟨h0, ⟨G, c, h1, h2, gz⟩, h3, h4⟩ := h
  have f : ∀ o, w'.cell? ⟨b, o, none⟩ = w.cell? ⟨b, o, none⟩ := fun o => k.cell (p := ⟨b, o, none⟩) (by show b < _; omega) (by show b < lo' ∨ hi' ≤ b; omega)
  exact ⟨(f _).trans h0, ⟨G, c, (f _).trans h1, h2.keep k ho, gz⟩, (f _).trans h3, (f _).trans h4⟩
theorem Rt.len (h : Rt w lo hi A n xs) : xs.length = n := h.1
theorem Rt.max (h : Rt w lo hi A n xs) : n ≤ maxLen := h.2.1
theorem Rt.int (h : Rt w lo hi A n xs) : n ≤ 9223372036854775807 := by
  have := h.2.1
  unfold maxLen at this
  omega
theorem Rt.top (h : Rt w lo hi A n xs) : hi ≤ w.heap.size := h.2.2.1
theorem Rt.at_ (h : Rt w lo hi A n xs) (hn : 0 < n) : ∃ b off, A = some ⟨b, off, none⟩ ∧ lo ≤ b ∧ b < hi ∧ ∀ j, j < n → ItAt w lo hi b (off + j * 4) (xs.getD j it0) := h.2.2.2 hn
theorem Rt.keep (h : Rt w lo hi A n xs) (k : Keep lo' hi' w w') (ho : hi ≤ lo' ∨ hi' ≤ lo ∨ hi' ≤ lo') : Rt w' lo hi A n xs := by
  refine ⟨h.1, h.2.1, Nat.le_trans h.top k.size, fun hn => ?_⟩
  obtain ⟨b, off, e, h1, h2, hc⟩ := h.at_ hn
  exact ⟨b, off, e, h1, h2, fun j hj => (hc j hj).keep k h2 h1 h.top ho⟩
theorem Rt.empty (w : World) (A : Option Addr) (h : lo ≤ w.heap.size) : Rt w lo lo A 0 [] := ⟨rfl, Nat.zero_le _, h, fun h => absurd h (by omega)⟩
theorem Rt.wide (h : Rt w lo hi A n xs) (hl : lo' ≤ lo) (hh : hi ≤ hi') (ht : hi' ≤ w.heap.size) : Rt w lo' hi' A n xs := by
  refine ⟨h.1, h.2.1, ht, fun hn => ?_⟩
  obtain ⟨b, off, e, h1, h2, hc⟩ := h.at_ hn
  refine ⟨b, off, e, by omega, by omega, fun j hj => ?_⟩
  obtain ⟨g0, ⟨G, c, g1, g2, gz⟩, g3, g4⟩ := hc j hj
  exact ⟨g0, ⟨G, c, g1, g2.wide hl hh ht, gz⟩, g3, g4⟩
end

set_option maxHeartbeats 2000000 in
theorem eqItemS_true (A A' : Option Addr) (n c c' lo hi lo' hi' : Nat) (xs : List Itm) (w : World) (h : Rt w lo hi A n xs) (h' : Rt w lo' hi' A' n xs) :
    Calls Tryd.prog 78 #[.slice A n c, .slice A' n c'] w fun e w' => e = .returned (.bool true) ∧ Keep 0 0 w w' := by
  have hint := h.int
  go_enter Tryd.func78, Tryd.ntmps78
  go_wp2_with fail
  go_loopw [5] (fun i wr => ∃ k : Nat, k ≤ n ∧ i = .int .i64 (k : Int) ∧ Keep 0 0 w wr) (fun i _ => n - (intOf i).toNat)
  case atStart => exact ⟨0, Nat.zero_le _, rfl, Keep.refl _ _ _⟩
  case round =>
    obtain ⟨k, hk, rfl, hke⟩ := hrel
    by_cases hlt : k < n
    · have hz := hke.size
      have hr := h.keep hke (by omega)
      have hr' := h'.keep hke (by omega)
      obtain ⟨b, off, rfl, h1, h2, hc⟩ := hr.at_ (by omega)
      obtain ⟨b', off', rfl, h1', h2', hc'⟩ := hr'.at_ (by omega)
      have t1 := hr.top
      have t1' := hr'.top
      obtain ⟨a0, ⟨G, cg, a1, rg, _⟩, a2, a3⟩ := hc k hlt
      obtain ⟨b0, ⟨G', cg', b1, rg', _⟩, b2, b3⟩ := hc' k hlt
      have i0 : (0 : Int) ≤ (k : Int) := by omega
      have i1 : (k : Int) < (n : Int) := by omega
      generalize xs.getD k it0 = x at *
      obtain ⟨xk, xb, xp, xq⟩ := x
      simp only at a0 a1 a2 a3 b0 b1 b2 b3 rg rg'
      have kd : Keep 0 0 wr wr.drew := ⟨rfl, rfl, rfl, Nat.le_refl _, fun _ _ _ => rfl⟩
      have rd := rg.keep kd (by omega)
      have rd' := rg'.keep kd (by omega)
      clear hr hr' hc hc' h h' rg rg'
      go_wp2_with fail
      go_region_held3 (fun w' => w'.cell? ⟨b, off + k * 4, none⟩ = some (.int .i64 xk) ∧ w'.cell? ⟨b, off + k * 4 + 1, none⟩ = some (.slice G xb.length cg) ∧ w'.cell? ⟨b, off + k * 4 + 2, none⟩ = some (.int .i64 xp) ∧ w'.cell? ⟨b, off + k * 4 + 3, none⟩ = some (.int .i64 xq) ∧
          w'.cell? ⟨b', off' + k * 4, none⟩ = some (.int .i64 xk) ∧ w'.cell? ⟨b', off' + k * 4 + 1, none⟩ = some (.slice G' xb.length cg') ∧ w'.cell? ⟨b', off' + k * 4 + 2, none⟩ = some (.int .i64 xp) ∧ w'.cell? ⟨b', off' + k * 4 + 3, none⟩ = some (.int .i64 xq))
        (first
          | go_keep
          | (go_split_ands; refine ⟨?_, ?_, ?_, ?_, ?_, ?_, ?_, ?_⟩ <;> ((refine (hb.cell (by simp; omega)).trans ?_); assumption)))
        ((go_at_call 88; refine (eqItem_true xk xp xq G G' xb.length _ _ _ _ _ _ xb _ rd rd').mono ?_; rintro e v ⟨rfl, kv⟩; have hb := kv.below (B := wr.heap.size) (by omega) (Nat.le_refl _); have kz := kd.trans kv))
      all_goals
        go_wp2_with fail
        go_roundw
        case rel => exact ⟨k + 1, by omega, by go_num, hke.trans kz⟩
        case measure => simp [intOf]; omega
    · have ek : k = n := by omega
      go_wp2_with fail
      go_ret
      exact ⟨rfl, hke⟩
end Go.Proofs.YtjdkaaepbkkchaaDoor
namespace Go.Proofs.YtjdkaaepbkkchaaDoor
open Go.RowKit
set_option linter.unusedVariables false
set_option maxRecDepth 100000

def sumLen (xs : List Itm) : Nat := (xs.map fun x => x.2.1.length).sum
theorem sumLen_take (xs : List Itm) (k : Nat) (hk : k < xs.length) : sumLen (xs.take (k + 1)) = sumLen (xs.take k) + (xs.getD k it0).2.1.length := by
  have h1 : xs.take (k + 1) = xs.take k ++ [xs.getD k it0] := by
    rw [List.take_succ_eq_append_getElem hk, List.getD_eq_getElem?_getD, List.getElem?_eq_getElem hk]
    rfl
  unfold sumLen
  rw [h1, List.map_append, List.sum_append]
  simp only [List.map_cons, List.map_nil, List.sum_cons, List.sum_nil, Nat.add_zero]
theorem sumLen_take_le (xs : List Itm) (k : Nat) : sumLen (xs.take k) ≤ sumLen xs := by
  have : sumLen (xs.take k ++ xs.drop k) = sumLen (xs.take k) + sumLen (xs.drop k) := by
    unfold sumLen
    rw [List.map_append, List.sum_append]
  rw [List.take_append_drop] at this
  omega
theorem sumLen_at (xs : List Itm) (k : Nat) (hk : k < xs.length) : (xs.getD k it0).2.1.length ≤ sumLen xs := by
  have h1 := sumLen_take xs k hk
  have h2 := sumLen_take_le xs (k + 1)
  omega
/-- What szItemS leaves. -/
def szT (left : Int) (xs : List Itm) : Int := if left < (xs.length : Int) + sumLen xs then -1 else left - xs.length - sumLen xs


/-- What is wrong with an item, one by one. -/
def cdOf (x : Itm) : Int := itemCode x.1 x.2.1.length x.2.2.1 x.2.2.2
def itemsCode : List Itm → Int
  | [] => 0
  | x :: xs => if cdOf x = 0 then itemsCode xs else cdOf x
theorem itemsCode_first : ∀ (xs : List Itm) (k : Nat), k < xs.length → (∀ j, j < k → cdOf (xs.getD j it0) = 0) → cdOf (xs.getD k it0) ≠ 0 → itemsCode xs = cdOf (xs.getD k it0) := by
  intro xs
  induction xs with
  | nil => intro k hk; simp at hk
  | cons x xs ih =>
    intro k hk h hc
    rcases k with _ | k
    · simp at hc ⊢
      rw [itemsCode, if_neg hc]
    · have h0 := h 0 (by omega)
      simp at h0 hc ⊢
      rw [itemsCode, if_pos h0]
      have := ih k (by simpa using hk) (fun j hj => by have := h (j + 1) (by omega); simpa using this) (by simpa using hc)
      simpa using this
theorem itemsCode_none : ∀ (xs : List Itm), (∀ j, j < xs.length → cdOf (xs.getD j it0) = 0) → itemsCode xs = 0 := by
  intro xs
  induction xs with
  | nil => intro _; rfl
  | cons x xs ih =>
    intro h
    have h0 := h 0 (by simp)
    simp at h0
    rw [itemsCode, if_pos h0]
    exact ih (fun j hj => by have := h (j + 1) (by simpa using hj); simpa using this)

set_option maxHeartbeats 1000000 in
theorem l5Items_any (A : Option Addr) (n c lo hi : Nat) (xs : List Itm) (w : World) (h : Rt w lo hi A n xs) :
    Calls Tryd.prog 67 #[.slice A n c] w fun e w' => e = .returned (.int .i64 (itemsCode xs)) ∧ Keep 0 0 w w' := by
  have hint := h.int
  have hl := h.len
  go_enter Tryd.func67, Tryd.ntmps67
  go_wp2_with fail
  go_loopw [7, 3, 4] (fun i _ _ wr => ∃ k : Nat, k ≤ n ∧ i = .int .i64 (k : Int) ∧ (∀ j, j < k → cdOf (xs.getD j it0) = 0) ∧ Keep 0 0 w wr) (fun i _ _ _ => n - (intOf i).toNat)
  case atStart => exact ⟨0, Nat.zero_le _, rfl, fun j hj => by omega, Keep.refl _ _ _⟩
  case round =>
    obtain ⟨k, hk, rfl, hz, hke⟩ := hrel
    by_cases hlt : k < n
    · have hr := h.keep hke (by omega)
      obtain ⟨b, off, rfl, _, _, hc⟩ := hr.at_ (by omega)
      obtain ⟨a0, ⟨G, cg, a1, rg, _⟩, a2, a3⟩ := hc k hlt
      have i0 : (0 : Int) ≤ (k : Int) := by omega
      have i1 : (k : Int) < (n : Int) := by omega
      have hf := itemsCode_first xs k (by omega) hz
      have hstep : cdOf (xs.getD k it0) = 0 → ∀ j, j < k + 1 → cdOf (xs.getD j it0) = 0 := fun e j hj => by
        by_cases ej : j = k
        · rw [ej]; exact e
        · exact hz j (by omega)
      generalize xs.getD k it0 = x at *
      obtain ⟨xk, xb, xp, xq⟩ := x
      simp only at a0 a1 a2 a3 rg
      have hxl := rg.int
      have hcd : cdOf (xk, xb, xp, xq) = itemCode xk xb.length xp xq := rfl
      rw [hcd] at hf hstep
      generalize hic : itemCode xk xb.length xp xq = ic at *
      have HI := Lib.hid hic
      have HF := Lib.hid hf
      have HS := Lib.hid hstep
      clear hic hf hstep hcd hz hr hc rg
      go_wp2_with fail
      refine (specItem_any xk xp xq G xb.length cg wr hxl).mono ?_
      rintro e w1 ⟨rfl, k1⟩
      rw [HI.out]
      by_cases hic : ic = 0
      · have HS2 := Lib.hid (HS.out hic)
        subst hic
        go_wp2_with fail
        go_roundw
        case rel => exact ⟨k + 1, by omega, by go_num, HS2.out, hke.trans k1⟩
        case measure => simp [intOf]; omega
      · have HR := Lib.hid (ret_int (HF.out hic).symm)
        have hib : (ic != 0) = true := by simp [hic]
        go_wp2_with fail
        go_ret
        exact ⟨HR.out, hke.trans k1⟩
    · have HR := Lib.hid (ret_int (itemsCode_none xs (fun j hj => hz j (by omega))).symm)
      go_wp2_with fail
      go_ret
      exact ⟨HR.out, hke⟩
end Go.Proofs.YtjdkaaepbkkchaaDoor
namespace Go.Proofs.YtjdkaaepbkkchaaDoor
open Go.RowKit
set_option linter.unusedVariables false
set_option maxRecDepth 100000

theorem info_atom : (Tryd.prog.info? 149).map (fun i => (i.zero, i.size, i.bytes)) = some (some (.agg #[.int .i64 0, .int .i64 0, .int .i64 0]), 3, 24) := by kernel_rfl
theorem run_make_atom (n : Nat) (hn : n ≤ 1099511627776) (w : World) : (Instr.makeSlice 147 (.int .i64 (n : Int)) (.int .i64 (n : Int))).run Tryd.prog w =
    .ok (.slice (some ⟨w.heap.size, 0, none⟩) n n) (w.alloc (.cells (madeCells #[.int .i64 0, .int .i64 0, .int .i64 0] (n * 3)) 149)) := by
  obtain ⟨i, hi, hz, hs, hb⟩ := info_parts info_atom
  have hr := run_make (P := Tryd.prog) w 147 149 i (.agg #[.int .i64 0, .int .i64 0, .int .i64 0]) Tryd.underlying147 hi hz .i64 .i64 n n (by omega) (by omega) (by rw [hb]; omega) (by omega)
  simp only [Int.toNat_natCast, hs] at hr
  exact hr







end Go.Proofs.YtjdkaaepbkkchaaDoor
namespace Go.Proofs.YtjdkaaepbkkchaaDoor
open Go.RowKit
set_option linter.unusedVariables false
set_option maxRecDepth 100000

/-- The slice value is a row of atoms of the call's own (from block base on). -/
def OwnA (w : World) (base : Nat) (A : Option Addr) (n c : Nat) (fs : List Int) : Prop :=
  w.ownsRow base 149 3 (.slice A n c) n (fs.map (Value.int .i64)) ∧ n * 3 ≤ maxLen ∧ ∀ x ∈ fs, -9223372036854775808 ≤ x ∧ x ≤ 9223372036854775807
theorem OwnA.len {w : World} {base n c : Nat} {A : Option Addr} {fs : List Int} (h : OwnA w base A n c fs) : fs.length = n * 3 := by simpa using h.1.1
theorem OwnA.wi {w : World} {base n c : Nat} {A : Option Addr} {fs : List Int} (h : OwnA w base A n c fs) : Wi w base w.heap.size A (n * 3) fs := by
  have hl := h.len
  obtain ⟨h, hm, hb⟩ := h
  rcases h.2 with ⟨hv, rfl⟩ | ⟨g, cap, cur, hv, hg, hh, hnc, _, hcs, ht⟩
  · exact ⟨⟨hl, hm, Nat.le_refl _, hb, fun h => by omega⟩, fun _ _ _ j hj => by omega⟩
  · injection hv with hA _ _
    subst hA
    have hlt : g < w.heap.size := by
      rcases Nat.lt_or_ge g w.heap.size with hlt | hge
      · exact hlt
      · rw [Array.getElem?_eq_none hge] at hh; cases hh
    refine ⟨⟨hl, hm, Nat.le_refl _, hb, fun _ => ⟨g, 0, rfl, hg, hlt, fun j hj => ?_⟩⟩, fun b off e j hj => ?_⟩
    · have h1 : (fs.map (Value.int .i64))[j]? = some (.int .i64 (fs.getD j 0)) := by
        rw [List.getElem?_map, List.getD_eq_getElem?_getD, List.getElem?_eq_getElem (by omega : j < fs.length)]; rfl
      rw [← ht, List.getElem?_take_of_lt hj, Array.getElem?_toList] at h1
      simp only [World.cell?, hh, Nat.zero_add]
      exact h1
    · injection e with e
      injection e with e1 e2
      subst e1 e2
      simp [World.frozen?, hh]
theorem OwnA.keep {w w' : World} {base n c lo hi : Nat} {A : Option Addr} {fs : List Int} (h : OwnA w base A n c fs) (k : Keep lo hi w w') (ho : hi ≤ base ∨ hi ≤ lo) : OwnA w' base A n c fs := by
  refine ⟨⟨h.1.1, ?_⟩, h.2.1, h.2.2⟩
  rcases h.1.2 with h0 | ⟨g, cap, cur, e1, hb, hg, r⟩
  · exact .inl h0
  · have hlt := (Array.getElem?_eq_some_iff.1 hg).1
    exact .inr ⟨g, cap, cur, e1, hb, (k.block g hlt (by omega)).trans hg, r⟩
theorem OwnA.push {w w' : World} {base n c g cap : Nat} {A : Option Addr} {fs : List Int} {x y z : Int} (h : OwnA w base A n c fs) (ho : w'.ownsRow base 149 3 (.slice (some ⟨g, 0, none⟩) (n + 1) cap) (n + 1) (fs.map (Value.int .i64) ++ [.int .i64 x, .int .i64 y, .int .i64 z]))
    (hn : (n + 1) * 3 ≤ maxLen) (hr : ∀ u ∈ [x, y, z], -9223372036854775808 ≤ u ∧ u ≤ 9223372036854775807) : OwnA w' base (some ⟨g, 0, none⟩) (n + 1) cap (fs ++ [x, y, z]) := by
  refine ⟨?_, hn, fun u hu => ?_⟩
  · rw [List.map_append]
    exact ho
  · rcases List.mem_append.1 hu with hu | hu
    · exact h.2.2 u hu
    · exact hr u hu

/-- The atoms of an item, of items: three numbers each. -/
def bytesA (bs : List Int) : List Int := bs.flatMap fun b => [1, b, 0]
def sizeA (x : Itm) : List Int := if x.1 = 2 then [2, x.2.2.1, x.2.2.2] else []
def atomA (x : Itm) : List Int := sizeA x ++ bytesA x.2.1
def atomsL (xs : List Itm) : List Int := xs.flatMap atomA
theorem bytesA_len (bs : List Int) : (bytesA bs).length = bs.length * 3 := by
  induction bs with
  | nil => rfl
  | cons b bs ih => simp [bytesA] at ih ⊢; omega
theorem sizeA_len (x : Itm) : (sizeA x).length ≤ 3 := by unfold sizeA; split <;> simp
theorem atomsL_len (xs : List Itm) : (atomsL xs).length ≤ (xs.length + sumLen xs) * 3 := by
  induction xs with
  | nil => simp [atomsL]
  | cons x xs ih =>
    have e : atomsL (x :: xs) = sizeA x ++ bytesA x.2.1 ++ atomsL xs := by simp [atomsL, atomA]
    have e2 : sumLen (x :: xs) = x.2.1.length + sumLen xs := by simp [sumLen]
    have := sizeA_len x
    rw [e, e2]
    simp only [List.length_append, List.length_cons, bytesA_len]
    omega
theorem take_getD {xs : List Itm} {k : Nat} (hk : k < xs.length) : xs.take (k + 1) = xs.take k ++ [xs.getD k it0] := by
  rw [List.take_succ_eq_append_getElem hk, List.getD_eq_getElem?_getD, List.getElem?_eq_getElem hk]
  rfl
theorem atomsL_take {xs : List Itm} {k : Nat} (hk : k < xs.length) : atomsL (xs.take (k + 1)) = atomsL (xs.take k) ++ atomA (xs.getD k it0) := by
  rw [take_getD hk]
  simp [atomsL]
theorem bytesA_take {bs : List Int} {k : Nat} (hk : k < bs.length) : bytesA (bs.take (k + 1)) = bytesA (bs.take k) ++ [1, bs.getD k 0, 0] := by
  have : bs.take (k + 1) = bs.take k ++ [bs.getD k 0] := by
    rw [List.take_succ_eq_append_getElem hk, List.getD_eq_getElem?_getD, List.getElem?_eq_getElem hk]
    rfl
  rw [this]
  simp [bytesA]

end Go.Proofs.YtjdkaaepbkkchaaDoor
namespace Go.Proofs.YtjdkaaepbkkchaaDoor
open Go.RowKit
set_option linter.unusedVariables false
set_option maxRecDepth 100000




theorem itemsCode_each : ∀ {xs : List Itm}, itemsCode xs = 0 → ∀ x ∈ xs, cdOf x = 0
  | [], _, x, hx => by simp at hx
  | y :: ys, h, x, hx => by
    unfold itemsCode at h
    by_cases hy : cdOf y = 0
    · rw [if_pos hy] at h
      rcases List.mem_cons.1 hx with rfl | hx
      · exact hy
      · exact itemsCode_each h x hx
    · rw [if_neg hy] at h
      exact absurd h hy
theorem cdOf_ok {x : Itm} (h : cdOf x = 0) : x.2.1.length ≤ 8 ∧ (-9223372036854775808 ≤ x.2.2.1 ∧ x.2.2.1 ≤ 9223372036854775807) ∧ (-9223372036854775808 ≤ x.2.2.2 ∧ x.2.2.2 ≤ 9223372036854775807) := by
  unfold cdOf itemCode at h
  split at h
  · split at h
    · omega
    · omega
  · split at h
    · split at h
      · omega
      · omega
    · omega
theorem sumLen_ok {xs : List Itm} (h : ∀ x ∈ xs, cdOf x = 0) : sumLen xs ≤ 8 * xs.length := by
  induction xs with
  | nil => simp [sumLen]
  | cons x xs ih =>
    have e2 : sumLen (x :: xs) = x.2.1.length + sumLen xs := by simp [sumLen]
    have := (cdOf_ok (h x (by simp))).1
    have := ih fun y hy => h y (by simp [hy])
    rw [e2, List.length_cons]
    omega

/-- What AtomsOf answers. -/
def atomsCode (xs : List Itm) : Int := if 100 < xs.length then 2 else itemsCode xs
def atomsOut (xs : List Itm) : List Int := if atomsCode xs = 0 then atomsL xs else []

end Go.Proofs.YtjdkaaepbkkchaaDoor
namespace Go.Proofs.YtjdkaaepbkkchaaDoor
open Go.RowKit
set_option linter.unusedVariables false
set_option maxRecDepth 100000

/-- At this place of block b lies the item x, and may be written; its bytes lie in the blocks l to u, of which b is none. -/
def ItW (w : World) (b o : Nat) (x : Itm) (l u : Nat) : Prop :=
  (w.cell? ⟨b, o, none⟩ = some (.int .i64 x.1) ∧ (∃ G c, w.cell? ⟨b, o + 1, none⟩ = some (.slice G x.2.1.length c) ∧ Wr w l u G x.2.1.length x.2.1 ∧ (G = none → c = 0)) ∧
    w.cell? ⟨b, o + 2, none⟩ = some (.int .i64 x.2.2.1) ∧ w.cell? ⟨b, o + 3, none⟩ = some (.int .i64 x.2.2.2)) ∧
    (∀ j, j < 4 → w.frozen? ⟨b, o + j, none⟩ = false) ∧ (b < l ∨ u ≤ b)
def Wt (w : World) (lo hi : Nat) (A : Option Addr) (n : Nat) (xs : List Itm) : Prop :=
  xs.length = n ∧ n ≤ maxLen ∧ hi ≤ w.heap.size ∧ (0 < n → ∃ b off, A = some ⟨b, off, none⟩ ∧ lo ≤ b ∧ b < hi ∧ ∃ L U : Nat → Nat,
    (∀ j, j < n → lo ≤ L j ∧ U j ≤ hi) ∧ (∀ i j, i < j → j < n → U i ≤ L j) ∧ ∀ j, j < n → ItW w b (off + j * 4) (xs.getD j it0) (L j) (U j))
section
variable {w w' : World} {lo hi lo' hi' n b o l u : Nat} {A : Option Addr} {xs : List Itm} {x : Itm}
theorem ItW.keep (h : ItW w b o x l u) (k : Keep lo' hi' w w') (hb : b < lo' ∨ hi' ≤ b) (ho : u ≤ lo' ∨ hi' ≤ l ∨ hi' ≤ lo') : ItW w' b o x l u := by
  obtain ⟨⟨h0, ⟨G, c, h1, h2, gz⟩, h3, h4⟩, hf, hx⟩ := h
  have hl := World.block_lt_of_cell? w _ h0
  have f : ∀ q, w'.cell? ⟨b, q, none⟩ = w.cell? ⟨b, q, none⟩ := fun q => k.cell (p := ⟨b, q, none⟩) hl hb
  exact ⟨⟨(f _).trans h0, ⟨G, c, (f _).trans h1, h2.keep k ho, gz⟩, (f _).trans h3, (f _).trans h4⟩, fun j hj => (k.frozen (p := ⟨b, o + j, none⟩) hl hb).trans (hf j hj), hx⟩
theorem ItW.other (h : ItW w b o x l u) {q : Nat} (hq : q < o ∨ o + 4 ≤ q) (v : Value) : ItW (w.setCell ⟨b, q, none⟩ v) b o x l u := by
  obtain ⟨⟨h0, ⟨G, c, h1, h2, gz⟩, h3, h4⟩, hf, hx⟩ := h
  have f : ∀ p, o ≤ p → p < o + 4 → (w.setCell ⟨b, q, none⟩ v).cell? ⟨b, p, none⟩ = w.cell? ⟨b, p, none⟩ := fun p h1 h2 => World.cell?_setCell_other _ _ _ _ (by simp <;> omega)
  exact ⟨⟨(f _ (by omega) (by omega)).trans h0, ⟨G, c, (f _ (by omega) (by omega)).trans h1, h2.keep ((Keep.refl b (b + 1) w).setCell (p := ⟨b, q, none⟩) ⟨Nat.le_refl _, Nat.lt_succ_self _⟩ v) (by omega), gz⟩, (f _ (by omega) (by omega)).trans h3, (f _ (by omega) (by omega)).trans h4⟩,
    fun j hj => by rw [World.frozen?_setCell]; exact hf j hj, hx⟩
theorem ItW.at_ (h : ItW w b o x l u) (hu : u ≤ w.heap.size) : ItAt w l u b o x := by
  obtain ⟨⟨h0, ⟨G, c, h1, h2, gz⟩, h3, h4⟩, hf, hx⟩ := h
  exact ⟨h0, ⟨G, c, h1, h2.1, gz⟩, h3, h4⟩
theorem Wt.len (h : Wt w lo hi A n xs) : xs.length = n := h.1
theorem Wt.max (h : Wt w lo hi A n xs) : n ≤ maxLen := h.2.1
theorem Wt.top (h : Wt w lo hi A n xs) : hi ≤ w.heap.size := h.2.2.1
theorem Wt.rt (h : Wt w lo hi A n xs) : Rt w lo hi A n xs := by
  refine ⟨h.1, h.2.1, h.2.2.1, fun hn => ?_⟩
  obtain ⟨b, off, e, h1, h2, L, U, hL, _, hc⟩ := h.2.2.2 hn
  refine ⟨b, off, e, h1, h2, fun j hj => ?_⟩
  obtain ⟨g0, ⟨G, c, g1, g2, gz⟩, g3, g4⟩ := (hc j hj).1
  exact ⟨g0, ⟨G, c, g1, g2.1.wide (hL j hj).1 (hL j hj).2 h.top, gz⟩, g3, g4⟩
theorem Wt.keep (h : Wt w lo hi A n xs) (k : Keep lo' hi' w w') (ho : hi ≤ lo' ∨ hi' ≤ lo ∨ hi' ≤ lo') : Wt w' lo hi A n xs := by
  refine ⟨h.1, h.2.1, Nat.le_trans h.top k.size, fun hn => ?_⟩
  obtain ⟨b, off, e, h1, h2, L, U, hL, hm, hc⟩ := h.2.2.2 hn
  exact ⟨b, off, e, h1, h2, L, U, hL, hm, fun j hj => (hc j hj).keep k (by omega) (by have := hL j hj; omega)⟩
theorem Wt.wide (h : Wt w lo hi A n xs) (hl : lo' ≤ lo) (hh : hi ≤ hi') (ht : hi' ≤ w.heap.size) : Wt w lo' hi' A n xs := by
  refine ⟨h.1, h.2.1, ht, fun hn => ?_⟩
  obtain ⟨b, off, e, h1, h2, L, U, hL, hm, hc⟩ := h.2.2.2 hn
  exact ⟨b, off, e, by omega, by omega, L, U, fun j hj => by have := hL j hj; omega, hm, hc⟩
theorem Wt.empty_top {B : Nat} (w : World) (A : Option Addr) : Wt w B w.heap.size A 0 [] := ⟨rfl, Nat.zero_le _, Nat.le_refl _, fun h => absurd h (by omega)⟩
end

/-- Four cells in a row are written. -/
theorem four_at {w : World} {g q : Nat} {u v x y : Value} (h0 : w.cell? ⟨g, q, none⟩ = some u) (h1 : w.cell? ⟨g, q + 1, none⟩ = some v) (h2 : w.cell? ⟨g, q + 2, none⟩ = some x) (h3 : w.cell? ⟨g, q + 3, none⟩ = some y) (a b c d : Value) :
    ∀ w', w' = ((((w.setCell ⟨g, q, none⟩ a).setCell ⟨g, q + 1, none⟩ b).setCell ⟨g, q + 2, none⟩ c).setCell ⟨g, q + 3, none⟩ d) → w'.cell? ⟨g, q, none⟩ = some a ∧ w'.cell? ⟨g, q + 1, none⟩ = some b ∧ w'.cell? ⟨g, q + 2, none⟩ = some c ∧ w'.cell? ⟨g, q + 3, none⟩ = some d := by
  rintro w' rfl
  refine ⟨?_, ?_, ?_, ?_⟩
  · rw [World.cell?_setCell_other _ _ _ _ (by simp), World.cell?_setCell_other _ _ _ _ (by simp), World.cell?_setCell_other _ _ _ _ (by simp)]
    exact World.cell?_setCell_same _ _ _ h0
  · rw [World.cell?_setCell_other _ _ _ _ (by simp), World.cell?_setCell_other _ _ _ _ (by simp)]
    exact World.cell?_setCell_same _ _ _ ((World.cell?_setCell_other _ _ _ _ (by simp)).trans h1)
  · rw [World.cell?_setCell_other _ _ _ _ (by simp)]
    exact World.cell?_setCell_same _ _ _ ((World.cell?_setCell_other _ _ _ _ (by simp)).trans ((World.cell?_setCell_other _ _ _ _ (by simp)).trans h2))
  · exact World.cell?_setCell_same _ _ _ ((World.cell?_setCell_other _ _ _ _ (by simp)).trans ((World.cell?_setCell_other _ _ _ _ (by simp)).trans ((World.cell?_setCell_other _ _ _ _ (by simp)).trans h3)))

/-- Block g, made by the call, has n items' cells; the first k are those of xs, their bytes in blocks behind g. -/
def Ft (w : World) (g n k : Nat) (xs : List Itm) : Prop :=
  (∃ cs t, w.heap[g]? = some (.cells cs t (0, 0)) ∧ cs.size = n * 4) ∧ ∃ L U : Nat → Nat,
    (∀ j, j < k → g < L j ∧ L j ≤ U j ∧ U j ≤ w.heap.size) ∧ (∀ i j, i < j → j < k → U i ≤ L j) ∧ ∀ j, j < k → ItW w g (j * 4) (xs.getD j it0) (L j) (U j)
section
variable {w w' : World} {g n k : Nat} {xs : List Itm}
theorem Ft.lt (h : Ft w g n k xs) : g < w.heap.size := by
  obtain ⟨⟨cs, t, h1, _⟩, _⟩ := h
  rcases Nat.lt_or_ge g w.heap.size with hlt | hge
  · exact hlt
  · rw [Array.getElem?_eq_none hge] at h1; cases h1
theorem Ft.start (w : World) (cs : Array Value) (t : TypeId) (hs : cs.size = n * 4) (xs : List Itm) : Ft (w.alloc (.cells cs t)) w.heap.size n 0 xs := by
  refine ⟨⟨cs, t, ?_, hs⟩, fun _ => 0, fun _ => 0, fun j hj => absurd hj (by omega), fun i j _ hj => absurd hj (by omega), fun j hj => absurd hj (by omega)⟩
  show (w.heap.push _)[w.heap.size]? = _
  simp
theorem Ft.cell (h : Ft w g n k xs) {j : Nat} (hj : j < n * 4) : ∃ v, w.cell? ⟨g, j, none⟩ = some v := by
  obtain ⟨⟨cs, t, h1, h2⟩, _⟩ := h
  refine ⟨cs[j]'(by omega), ?_⟩
  simp [World.cell?, h1, h2, hj]
theorem Ft.frozen (h : Ft w g n k xs) (j : Nat) : w.frozen? ⟨g, j, none⟩ = false := by
  obtain ⟨⟨cs, t, h1, _⟩, _⟩ := h
  simp [World.frozen?, h1]
theorem Ft.keep {lo hi : Nat} (h : Ft w g n k xs) (ke : Keep lo hi w w') (ho : hi ≤ lo) : Ft w' g n k xs := by
  have hl := h.lt
  obtain ⟨⟨cs, t, h1, h2⟩, L, U, hL, hm, hc⟩ := h
  exact ⟨⟨cs, t, (ke.block g hl (by omega)).trans h1, h2⟩, L, U, fun j hj => by have := hL j hj; have := ke.size; omega, hm, fun j hj => (hc j hj).keep ke (by omega) (by omega)⟩
theorem Ft.below (h : Ft w g n k xs) (hb : Below w.heap.size w w') : Ft w' g n k xs := h.keep (Keep.of_below hb 0 0) (Nat.le_refl _)
/-- One more item is laid. -/
theorem Ft.step {G : Option Addr} {c l : Nat} (h : Ft w g n k xs) (hk : k < n) (hg : g < l)
    (hw : Wr w l w.heap.size G (xs.getD k it0).2.1.length (xs.getD k it0).2.1) (hlu : l ≤ w.heap.size) (hgc : G = none → c = 0)
    (hpast : ∃ w0 : World, Ft w0 g n k xs ∧ w0.heap.size ≤ l ∧ Below w0.heap.size w0 w) :
    Ft ((((w.setCell ⟨g, k * 4, none⟩ (.int .i64 (xs.getD k it0).1)).setCell ⟨g, k * 4 + 1, none⟩ (.slice G (xs.getD k it0).2.1.length c)).setCell ⟨g, k * 4 + 2, none⟩ (.int .i64 (xs.getD k it0).2.2.1)).setCell ⟨g, k * 4 + 3, none⟩ (.int .i64 (xs.getD k it0).2.2.2)) g n (k + 1) xs := by
  obtain ⟨w0, hf0, hs0, hb0⟩ := hpast
  have hfw := hf0.below hb0
  obtain ⟨v0, c0⟩ := hfw.cell (show k * 4 < n * 4 by omega)
  obtain ⟨v1, c1⟩ := hfw.cell (show k * 4 + 1 < n * 4 by omega)
  obtain ⟨v2, c2⟩ := hfw.cell (show k * 4 + 2 < n * 4 by omega)
  obtain ⟨v3, c3⟩ := hfw.cell (show k * 4 + 3 < n * 4 by omega)
  obtain ⟨⟨cs, t, h1, h2⟩, L, U, hL, hm, hc⟩ := hf0
  have hgs : g < w0.heap.size := (Array.getElem?_eq_some_iff.1 h1).1
  have h1w : w.heap[g]? = some (.cells cs t (0, 0)) := ((Keep.of_below hb0 0 0).block g hgs (by omega)).trans h1
  have hk0 : Keep g (g + 1) w ((((w.setCell ⟨g, k * 4, none⟩ (.int .i64 (xs.getD k it0).1)).setCell ⟨g, k * 4 + 1, none⟩ (.slice G (xs.getD k it0).2.1.length c)).setCell ⟨g, k * 4 + 2, none⟩ (.int .i64 (xs.getD k it0).2.2.1)).setCell ⟨g, k * 4 + 3, none⟩ (.int .i64 (xs.getD k it0).2.2.2)) :=
    ((((Keep.refl g (g + 1) w).setCell (p := ⟨g, k * 4, none⟩) ⟨Nat.le_refl _, Nat.lt_succ_self _⟩ _).setCell (p := ⟨g, k * 4 + 1, none⟩) ⟨Nat.le_refl _, Nat.lt_succ_self _⟩ _).setCell (p := ⟨g, k * 4 + 2, none⟩) ⟨Nat.le_refl _, Nat.lt_succ_self _⟩ _).setCell (p := ⟨g, k * 4 + 3, none⟩) ⟨Nat.le_refl _, Nat.lt_succ_self _⟩ _
  have hz : ∀ j, w.frozen? ⟨g, j, none⟩ = false := fun j => by simp [World.frozen?, h1w]
  refine ⟨⟨(((cs.setIfInBounds (k * 4) (.int .i64 (xs.getD k it0).1)).setIfInBounds (k * 4 + 1) (.slice G (xs.getD k it0).2.1.length c)).setIfInBounds (k * 4 + 2) (.int .i64 (xs.getD k it0).2.2.1)).setIfInBounds (k * 4 + 3) (.int .i64 (xs.getD k it0).2.2.2), t,
    by simp [World.setCell, Array.getElem?_modify, h1w], by simpa using h2⟩, fun j => if j = k then l else L j, fun j => if j = k then w.heap.size else U j, fun j hj => ?_, fun i j hij hj => ?_, fun j hj => ?_⟩
  · have hsz := hk0.size
    by_cases e : j = k
    · simp only [e, if_true]
      omega
    · simp only [if_neg e]
      have := hL j (by omega)
      omega
  · have ei : i ≠ k := by omega
    simp only [if_neg ei]
    by_cases e : j = k
    · simp only [e, if_true]
      have := hL i (by omega)
      omega
    · simp only [if_neg e]
      exact hm i j hij (by omega)
  · by_cases e : j = k
    · subst e
      simp only [if_true]
      obtain ⟨d0, d1, d2, d3⟩ := four_at c0 c1 c2 c3 (.int .i64 (xs.getD j it0).1) (.slice G (xs.getD j it0).2.1.length c) (.int .i64 (xs.getD j it0).2.2.1) (.int .i64 (xs.getD j it0).2.2.2) _ rfl
      exact ⟨⟨d0, ⟨G, c, d1, hw.keep hk0 (by omega), hgc⟩, d2, d3⟩, fun i hi => by simp only [World.frozen?_setCell]; exact hz _, by omega⟩
    · simp only [if_neg e]
      have h3 : ItW w g (j * 4) (xs.getD j it0) (L j) (U j) := (hc j (by omega)).keep (Keep.of_below hb0 0 0) (by omega) (by omega)
      exact (((h3.other (by omega) _).other (by omega) _).other (by omega) _).other (by omega) _
theorem Ft.done (h : Ft w g n n xs) (hl : xs.length = n) (hm : n ≤ maxLen) : Wt w g w.heap.size (some ⟨g, 0, none⟩) n xs := by
  have hlt := h.lt
  obtain ⟨_, L, U, hL, hmm, hc⟩ := h
  exact ⟨hl, hm, Nat.le_refl _, fun _ => ⟨g, 0, rfl, Nat.le_refl _, hlt, L, U, fun j hj => by have := hL j hj; omega, hmm, fun j hj => by rw [Nat.zero_add]; exact hc j hj⟩⟩
end

theorem info_item : (Tryd.prog.info? 55).map (fun i => (i.zero, i.size, i.bytes)) = some (some (.agg #[.int .i64 0, .slice none 0 0, .int .i64 0, .int .i64 0]), 4, 48) := by kernel_rfl
theorem run_make_item (n : Nat) (hn : n ≤ 1099511627776) (w : World) : (Instr.makeSlice 24 (.int .i64 (n : Int)) (.int .i64 (n : Int))).run Tryd.prog w =
    .ok (.slice (some ⟨w.heap.size, 0, none⟩) n n) (w.alloc (.cells (madeCells #[.int .i64 0, .slice none 0 0, .int .i64 0, .int .i64 0] (n * 4)) 55)) := by
  obtain ⟨i, hi, hz, hs, hb⟩ := info_parts info_item
  have hr := run_make (P := Tryd.prog) w 24 55 i (.agg #[.int .i64 0, .slice none 0 0, .int .i64 0, .int .i64 0]) Tryd.underlying24 hi hz .i64 .i64 n n (by omega) (by omega) (by rw [hb]; omega) (by omega)
  simp only [Int.toNat_natCast, hs] at hr
  exact hr

end Go.Proofs.YtjdkaaepbkkchaaDoor
namespace Go.Proofs.YtjdkaaepbkkchaaDoor
open Go.RowKit
set_option linter.unusedVariables false
set_option maxRecDepth 100000

/-- How many marks lie ahead of the j-th item. -/
def offT (xs : List Itm) (j : Nat) : Nat := 3 * j + sumLen (xs.take j)
theorem offT_succ {xs : List Itm} {k : Nat} (hk : k < xs.length) : offT xs (k + 1) = offT xs k + 3 + (xs.getD k it0).2.1.length := by
  have := sumLen_take xs k hk
  unfold offT
  omega
theorem offT_le (xs : List Itm) {k n : Nat} (hk : k ≤ n) : offT xs k ≤ 3 * n + sumLen xs := by
  have := sumLen_take_le xs k
  unfold offT
  omega
theorem offT_all (xs : List Itm) : offT xs xs.length = 3 * xs.length + sumLen xs := by simp [offT]
/-- What the marks leave of an item. -/
def markIt (K : Int) (l : Nat) : Itm := (K, marks (K + 1) l, K + 1 + l, K + 1 + l + 1)
theorem markIt_len (K : Int) (l : Nat) : (markIt K l).2.1.length = l := marks_len _ _
def markT (K : Int) (xs : List Itm) : List Itm := (List.range xs.length).map fun j => markIt (K + (offT xs j : Int)) (xs.getD j it0).2.1.length
theorem markT_len (K : Int) (xs : List Itm) : (markT K xs).length = xs.length := by simp [markT]
theorem markT_at (K : Int) (xs : List Itm) (j : Nat) (hj : j < xs.length) : (markT K xs).getD j it0 = markIt (K + (offT xs j : Int)) (xs.getD j it0).2.1.length := by
  simp [markT, List.getD_eq_getElem?_getD, hj]

theorem ItW.mark {w w2 : World} {b o l u c : Nat} {x : Itm} {G : Option Addr} {K v : Int} (h : ItW w b o x l u) (hk : Keep l u (w.setCell ⟨b, o, none⟩ (.int .i64 K)) w2)
    (hG : w.cell? ⟨b, o + 1, none⟩ = some (.slice G x.2.1.length c)) (hw : Wr w2 l u G x.2.1.length (marks (K + 1) x.2.1.length)) (hv : v = K + 1 + (x.2.1.length : Int)) (hgc : G = none → c = 0) :
    ItW ((w2.setCell ⟨b, o + 2, none⟩ (.int .i64 v)).setCell ⟨b, o + 3, none⟩ (.int .i64 (v + 1))) b o (markIt K x.2.1.length) l u := by
  subst hv
  obtain ⟨⟨h0, _, h3, h4⟩, hf, hx⟩ := h
  have hl := World.block_lt_of_cell? w _ h0
  have hl1 : b < (w.setCell ⟨b, o, none⟩ (.int .i64 K)).heap.size := by simpa [World.setCell] using hl
  have f : ∀ q, w2.cell? ⟨b, q, none⟩ = (w.setCell ⟨b, o, none⟩ (.int .i64 K)).cell? ⟨b, q, none⟩ := fun q => hk.cell (p := ⟨b, q, none⟩) hl1 hx
  have g : ∀ q, w2.frozen? ⟨b, q, none⟩ = w.frozen? ⟨b, q, none⟩ := fun q => (hk.frozen (p := ⟨b, q, none⟩) hl1 hx).trans (World.frozen?_setCell _ _ _ _)
  have c0 : w2.cell? ⟨b, o, none⟩ = some (.int .i64 K) := (f _).trans (World.cell?_setCell_same _ _ _ h0)
  have c1 : w2.cell? ⟨b, o + 1, none⟩ = some (.slice G x.2.1.length c) := (f _).trans ((World.cell?_setCell_other _ _ _ _ (by simp)).trans hG)
  have c2 : w2.cell? ⟨b, o + 2, none⟩ = some (.int .i64 x.2.2.1) := (f _).trans ((World.cell?_setCell_other _ _ _ _ (by simp)).trans h3)
  have c3 : w2.cell? ⟨b, o + 3, none⟩ = some (.int .i64 x.2.2.2) := (f _).trans ((World.cell?_setCell_other _ _ _ _ (by simp)).trans h4)
  have hk2 : Keep b (b + 1) w2 ((w2.setCell ⟨b, o + 2, none⟩ (.int .i64 (K + 1 + (x.2.1.length : Int)))).setCell ⟨b, o + 3, none⟩ (.int .i64 (K + 1 + (x.2.1.length : Int) + 1))) :=
    ((Keep.refl b (b + 1) w2).setCell (p := ⟨b, o + 2, none⟩) ⟨Nat.le_refl _, Nat.lt_succ_self _⟩ _).setCell (p := ⟨b, o + 3, none⟩) ⟨Nat.le_refl _, Nat.lt_succ_self _⟩ _
  refine ⟨⟨?_, ⟨G, c, ?_, ?_, hgc⟩, ?_, ?_⟩, fun j hj => ?_, hx⟩
  · rw [World.cell?_setCell_other _ _ _ _ (by simp), World.cell?_setCell_other _ _ _ _ (by simp)]
    exact c0
  · rw [World.cell?_setCell_other _ _ _ _ (by simp), World.cell?_setCell_other _ _ _ _ (by simp), markIt_len]
    exact c1
  · rw [markIt_len]
    exact hw.keep hk2 (by omega)
  · rw [World.cell?_setCell_other _ _ _ _ (by simp)]
    exact World.cell?_setCell_same _ _ _ c2
  · exact World.cell?_setCell_same _ _ _ ((World.cell?_setCell_other _ _ _ _ (by simp)).trans c3)
  · rw [World.frozen?_setCell, World.frozen?_setCell, g]
    exact hf j hj

/-- The first k items are marked. -/
def Mt (w : World) (b off n k : Nat) (K : Int) (xs : List Itm) (L U : Nat → Nat) : Prop :=
  ∀ j, j < n → ItW w b (off + j * 4) (if j < k then markIt (K + (offT xs j : Int)) (xs.getD j it0).2.1.length else xs.getD j it0) (L j) (U j)
theorem Mt.step {w w2 : World} {b off n k c : Nat} {K v : Int} {xs : List Itm} {L U : Nat → Nat} {G : Option Addr} (h : Mt w b off n k K xs L U) (hk : k < n) (hm : ∀ i j, i < j → j < n → U i ≤ L j)
    (ke : Keep (L k) (U k) (w.setCell ⟨b, off + k * 4, none⟩ (.int .i64 (K + (offT xs k : Int)))) w2)
    (hG : w.cell? ⟨b, off + k * 4 + 1, none⟩ = some (.slice G (xs.getD k it0).2.1.length c)) (hw : Wr w2 (L k) (U k) G (xs.getD k it0).2.1.length (marks (K + (offT xs k : Int) + 1) (xs.getD k it0).2.1.length)) (hv : v = K + (offT xs k : Int) + 1 + ((xs.getD k it0).2.1.length : Int)) (hgc : G = none → c = 0) :
    Mt ((w2.setCell ⟨b, off + k * 4 + 2, none⟩ (.int .i64 v)).setCell ⟨b, off + k * 4 + 3, none⟩ (.int .i64 (v + 1))) b off n (k + 1) K xs L U := by
  intro j hj
  have hkk := h k hk
  rw [if_neg (by omega)] at hkk
  by_cases e : j = k
  · subst e
    rw [if_pos (by omega)]
    exact hkk.mark ke hG hw hv hgc
  · have hjj := h j hj
    have e2 : (if j < k + 1 then markIt (K + (offT xs j : Int)) (xs.getD j it0).2.1.length else xs.getD j it0) = if j < k then markIt (K + (offT xs j : Int)) (xs.getD j it0).2.1.length else xs.getD j it0 := by
      by_cases h2 : j < k
      · rw [if_pos h2, if_pos (by omega)]
      · rw [if_neg h2, if_neg (by omega)]
    rw [e2]
    have d : U j ≤ L k ∨ U k ≤ L j := by
      rcases Nat.lt_or_gt_of_ne e with h3 | h3
      · exact .inl (hm j k h3 hk)
      · exact .inr (hm k j h3 hj)
    exact (((hjj.other (by omega) _).keep ke hkk.2.2 (by omega)).other (by omega) _).other (by omega) _
theorem Mt.done {w : World} {b off n lo hi : Nat} {K : Int} {xs : List Itm} {L U : Nat → Nat} (h : Mt w b off n n K xs L U) (hl : xs.length = n) (hm : n ≤ maxLen) (h1 : lo ≤ b) (h2 : b < hi) (ht : hi ≤ w.heap.size)
    (hL : ∀ j, j < n → lo ≤ L j ∧ U j ≤ hi) (hmm : ∀ i j, i < j → j < n → U i ≤ L j) : Wt w lo hi (some ⟨b, off, none⟩) n (markT K xs) :=
  ⟨(markT_len _ _).trans hl, hm, ht, fun _ => ⟨b, off, rfl, h1, h2, L, U, hL, hmm, fun j hj => by
    have := h j hj
    rw [if_pos hj] at this
    rw [markT_at K xs j (by omega)]
    exact this⟩⟩

set_option maxHeartbeats 2000000 in
theorem markItemS_any (A : Option Addr) (n c lo hi : Nat) (K : Int) (xs : List Itm) (w : World) (h : Wt w lo hi A n xs) (hK0 : 0 ≤ K) (hK : K + ((3 * n + sumLen xs : Nat) : Int) ≤ 9223372036854775807) :
    Calls Tryd.prog 79 #[.slice A n c, .int .i64 K] w fun e w' => e = .returned (.int .i64 (K + ((3 * n + sumLen xs : Nat) : Int))) ∧ Wt w' lo hi A n (markT K xs) ∧ Keep lo hi w w' := by
  have hint := h.rt.int
  have hl := h.len
  by_cases h0 : n = 0
  · subst h0
    have hx : xs = [] := List.length_eq_zero_iff.1 hl
    subst hx
    go_enter Tryd.func79, Tryd.ntmps79
    go_wp2
    refine wp_loop_rounds 1 ?_
    rw [rounds_succ]
    go_wp2
    go_ret
    exact ⟨by simp [sumLen], ⟨rfl, Nat.zero_le _, h.top, fun h => absurd h (by omega)⟩, Keep.refl _ _ _⟩
  · obtain ⟨b, off, rfl, h1, h2, L, U, hL, hm, hc⟩ := h.2.2.2 (by omega)
    have hmax := h.max
    have htop := h.top
    have hp : Mt w b off n 0 K xs L U := fun j hj => by rw [if_neg (by omega)]; exact hc j hj
    have hoa := offT_all xs
    rw [hl] at hoa
    rw [← hoa] at hK ⊢
    clear hc h
    go_enter Tryd.func79, Tryd.ntmps79
    go_wp2
    go_loopw [1, 5] (fun m i wr => ∃ k : Nat, k ≤ n ∧ i = .int .i64 (k : Int) ∧ m = .int .i64 (K + (offT xs k : Int)) ∧ Mt wr b off n k K xs L U ∧ Keep lo hi w wr) (fun _ i _ => n - (intOf i).toNat)
    case atStart => exact ⟨0, Nat.zero_le _, rfl, by simp [offT, sumLen], hp, Keep.refl _ _ _⟩
    case round =>
      obtain ⟨k, hk, rfl, rfl, hpt, hke⟩ := hrel
      by_cases hlt : k < n
      · have hit := hpt k hlt
        rw [if_neg (by omega)] at hit
        have hos := offT_succ (xs := xs) (k := k) (by omega)
        have hol := offT_le xs (k := k + 1) (n := n) (by omega)
        have hsp := fun G c w2 v => Mt.step (w2 := w2) (c := c) (G := G) (v := v) hpt hlt hm
        have hLk := hL k hlt
        rw [hoa] at hK
        obtain ⟨⟨a0, ⟨G, cg, a1, rg, gz⟩, a2, a3⟩, hf, hx⟩ := hit
        have GZ := Lib.hid gz
        clear gz
        have z0 := hf 0 (by omega)
        have z2 := hf 2 (by omega)
        have z3 := hf 3 (by omega)
        simp only [Nat.add_zero] at z0
        have hxl := rg.1.int
        generalize xs.getD k it0 = x at *
        obtain ⟨xk, xb, xp, xq⟩ := x
        simp only at a0 a1 a2 a3 rg hos hsp hxl
        generalize xb.length = ln at *
        have i0 : (0 : Int) ≤ (k : Int) := by omega
        have i1 : (k : Int) < (n : Int) := by omega
        have HE := Lib.hid (show K + (offT xs k : Int) + 1 + (ln : Int) + 1 + 1 = K + (offT xs (k + 1) : Int) by omega)
        have b3 : K + (offT xs k : Int) + 1 + (ln : Int) + 1 + 1 ≤ 9223372036854775807 := by omega
        have b0 : 0 ≤ K + (offT xs k : Int) := by omega
        generalize K + (offT xs k : Int) = M at *
        have HSP := Lib.hid hsp
        have HKE := Lib.hid hke
        have hbl := World.block_lt_of_cell? w
        have a1' : (wr.setCell ⟨b, off + k * 4, none⟩ (.int .i64 M)).cell? ⟨b, off + k * 4 + 1, none⟩ = some (.slice G ln cg) := (World.cell?_setCell_other _ _ _ _ (by simp)).trans a1
        have hk1 : Keep b (b + 1) wr (wr.setCell ⟨b, off + k * 4, none⟩ (.int .i64 M)) := (Keep.refl b (b + 1) wr).setCell (p := ⟨b, off + k * 4, none⟩) ⟨Nat.le_refl _, Nat.lt_succ_self _⟩ _
        have rg1 := rg.keep hk1 (by omega)
        have hbw : b < wr.heap.size := World.block_lt_of_cell? wr _ a0
        clear hos hol hf hsp hke hpt hp hbl
        go_wp2_with fail
        have HC := Lib.hid (markByteS_any G ln cg (L k) (U k) (M + 1) xb _ rg1 (by omega) (by omega))
        refine HC.out.mono ?_
        rintro e w2 ⟨rfl, hw2, hk2⟩
        have q := fun o => hk2.cell (p := ⟨b, o, none⟩) (by simpa [World.setCell] using hbw) hx
        have qz := fun o => hk2.frozen (p := ⟨b, o, none⟩) (by simpa [World.setCell] using hbw) hx
        have c2 : w2.cell? ⟨b, off + k * 4 + 2, none⟩ = some (.int .i64 xp) := (q _).trans ((World.cell?_setCell_other _ _ _ _ (by simp)).trans a2)
        have c3 : w2.cell? ⟨b, off + k * 4 + 3, none⟩ = some (.int .i64 xq) := (q _).trans ((World.cell?_setCell_other _ _ _ _ (by simp)).trans a3)
        have y2 : w2.frozen? ⟨b, off + k * 4 + 2, none⟩ = false := (qz _).trans ((World.frozen?_setCell _ _ _ _).trans z2)
        have y3 : w2.frozen? ⟨b, off + k * 4 + 3, none⟩ = false := (qz _).trans ((World.frozen?_setCell _ _ _ _).trans z3)
        have c1 : w2.cell? ⟨b, off + k * 4 + 1, none⟩ = some (.slice G ln cg) := (q _).trans a1'
        have HM := Lib.hid (HSP.out G cg w2 (M + 1 + (ln : Int)) hk2 a1 hw2 rfl GZ.out)
        have HK2 := Lib.hid ((((HKE.out.setCell (p := ⟨b, off + k * 4, none⟩) ⟨h1, h2⟩ (.int .i64 M)).trans (hk2.wide hLk.1 hLk.2)).setCell (p := ⟨b, off + k * 4 + 2, none⟩) ⟨h1, h2⟩ (.int .i64 (M + 1 + (ln : Int)))).setCell (p := ⟨b, off + k * 4 + 3, none⟩) ⟨h1, h2⟩ (.int .i64 (M + 1 + (ln : Int) + 1)))
        clear q qz hk1 rg1 rg a0 a1 a2 a3 a1' hw2 hk2
        go_wp2_with fail
        go_roundw
        case rel => exact ⟨k + 1, by omega, by go_num, by rw [← HE.out], HM.out, HK2.out⟩
        case measure => simp [intOf]; omega
      · obtain rfl : k = n := by omega
        have hw := hpt.done hl hmax h1 h2 (Nat.le_trans htop hke.size) hL hm
        have HW := Lib.hid hw
        clear hw hpt hp
        go_wp2
        go_ret
        exact ⟨rfl, HW.out, hke⟩
end Go.Proofs.YtjdkaaepbkkchaaDoor
namespace Go.Proofs.YtjdkaaepbkkchaaDoor
open Go.RowKit
set_option linter.unusedVariables false
set_option maxRecDepth 100000

set_option maxHeartbeats 2000000 in
theorem heldItemS_any (A : Option Addr) (n c lo hi : Nat) (K : Int) (xs : List Itm) (w : World) (hl : xs.length = n) (h : Rt w lo hi A n (markT K xs)) (hK0 : 0 ≤ K) (hK : K + ((3 * n + sumLen xs : Nat) : Int) ≤ 9223372036854775807) :
    Calls Tryd.prog 80 #[.slice A n c, .int .i64 K] w fun e w' => e = .returned (.int .i64 (K + ((3 * n + sumLen xs : Nat) : Int))) ∧ w = w' := by
  have hint := h.int
  have hoa := offT_all xs
  rw [hl] at hoa
  rw [← hoa] at hK ⊢
  go_enter Tryd.func80, Tryd.ntmps80
  go_wp2
  go_loopw [1, 5] (fun m i wr => ∃ k : Nat, k ≤ n ∧ i = .int .i64 (k : Int) ∧ m = .int .i64 (K + (offT xs k : Int)) ∧ wr = w) (fun _ i _ => n - (intOf i).toNat)
  case atStart => exact ⟨0, Nat.zero_le _, rfl, by simp [offT, sumLen], rfl⟩
  case round =>
    obtain ⟨k, hk, rfl, rfl, rfl⟩ := hrel
    by_cases hlt : k < n
    · obtain ⟨b, off, rfl, h1, h2, hc⟩ := h.at_ (by omega)
      have hit := hc k hlt
      rw [markT_at K xs k (by omega)] at hit
      have hos := offT_succ (xs := xs) (k := k) (by omega)
      have hol := offT_le xs (k := k + 1) (n := n) (by omega)
      rw [hoa] at hK
      obtain ⟨a0, ⟨G, cg, a1, rg, _⟩, a2, a3⟩ := hit
      rw [markIt_len] at a1 rg
      have hxl := rg.int
      simp only [markIt] at a0 a2 a3 rg
      generalize (xs.getD k it0).2.1.length = ln at *
      have i0 : (0 : Int) ≤ (k : Int) := by omega
      have i1 : (k : Int) < (n : Int) := by omega
      have HE := Lib.hid (show K + (offT xs k : Int) + 1 + (ln : Int) + 1 + 1 = K + (offT xs (k + 1) : Int) by omega)
      have b3 : K + (offT xs k : Int) + 1 + (ln : Int) + 1 + 1 ≤ 9223372036854775807 := by omega
      have b0 : 0 ≤ K + (offT xs k : Int) := by omega
      generalize K + (offT xs k : Int) = M at *
      have HC := Lib.hid (heldByteS_any G ln cg lo hi (M + 1) _ rg (by omega) (by omega))
      have hnn : ¬ M + 1 + (ln : Int) < 0 := by omega
      clear hos hol hc h rg
      go_wp2_with fail
      refine HC.out.mono ?_
      rintro e w2 ⟨rfl, rfl⟩
      go_wp2_with fail
      go_roundw
      case rel => exact ⟨k + 1, by omega, by go_num, by rw [← HE.out], by first | rfl | trivial⟩
      case measure => simp [intOf]; omega
    · obtain rfl : k = n := by omega
      go_wp2
      go_ret
      exact ⟨by first | rfl | trivial, by first | rfl | trivial⟩
end Go.Proofs.YtjdkaaepbkkchaaDoor
namespace Go.Proofs.YtjdkaaepbkkchaaDoor
open Go.RowKit
set_option linter.unusedVariables false
set_option maxRecDepth 100000









end Go.Proofs.YtjdkaaepbkkchaaDoor
namespace Go.Proofs.YtjdkaaepbkkchaaDoor
open Go.RowKit
set_option linter.unusedVariables false
set_option maxRecDepth 100000

/-- What is wrong with a log. -/
def logCode (bs room : Int) (xs : List Itm) : Int :=
  if ¬ (1 ≤ room ∧ room ≤ 16) ∨ ¬ (0 ≤ bs ∧ bs ≤ 9000) then 3 else if room < (xs.length : Int) then 2 else if itemsCode xs ≠ 0 then itemsCode xs else if 9000 < bs + (xs.length : Int) then 7 else 0

end Go.Proofs.YtjdkaaepbkkchaaDoor
namespace Go.Proofs.YtjdkaaepbkkchaaDoor
open Go.RowKit
set_option linter.unusedVariables false
set_option maxRecDepth 100000

end Go.Proofs.YtjdkaaepbkkchaaDoor
namespace Go.Proofs.YtjdkaaepbkkchaaDoor
open Go.RowKit
set_option linter.unusedVariables false
set_option maxRecDepth 100000

/-- An item as it lies in a row: the item, where its bytes lie, their room, and the blocks that hold them (from, to). -/
abbrev Lit := Itm × Option Addr × Nat × Nat × Nat
def cell4 (y : Lit) : List Value := [.int .i64 y.1.1, .slice y.2.1 y.1.2.1.length y.2.2.1, .int .i64 y.1.2.2.1, .int .i64 y.1.2.2.2]
def lit0 : Lit := (it0, none, 0, 0, 0)
theorem cell4_at : ∀ (ys : List Lit) (j i : Nat), j < ys.length → i < 4 → (ys.flatMap cell4)[j * 4 + i]? = (cell4 (ys.getD j lit0))[i]?
  | [], j, i, hj, _ => by simp at hj
  | y :: ys, 0, i, _, hi => by
    rw [List.flatMap_cons, Nat.zero_mul, Nat.zero_add, List.getElem?_append_left (by simp [cell4]; omega)]
    rfl
  | y :: ys, j + 1, i, hj, hi => by
    have := cell4_at ys j i (by simpa using hj) hi
    rw [List.flatMap_cons, List.getElem?_append_right (by simp [cell4]; omega)]
    have e : (j + 1) * 4 + i - (cell4 y).length = j * 4 + i := by simp [cell4]; omega
    rw [e, this]
    rfl
/-- What must hold of an item of such a row in this world. -/
def LitOk (w : World) (base : Nat) (B : Option Nat) (y : Lit) : Prop :=
  base ≤ y.2.2.2.1 ∧ y.2.2.2.2 ≤ w.heap.size ∧ Wr w y.2.2.2.1 y.2.2.2.2 y.2.1 y.1.2.1.length y.1.2.1 ∧ (y.2.1 = none → y.2.2.1 = 0) ∧ ∀ g, B = some g → g < y.2.2.2.1 ∨ y.2.2.2.2 ≤ g
def OwnY (w : World) (base : Nat) (G : Option Addr) (n c : Nat) (ys : List Lit) : Prop :=
  w.ownsRow base 55 4 (.slice G n c) n (ys.flatMap cell4) ∧ ys.length = n ∧ ys.Pairwise (fun a b => a.2.2.2.2 ≤ b.2.2.2.1) ∧ ∀ y ∈ ys, LitOk w base (Value.ownBlock (.slice G n c)) y
def OwnT (w : World) (base : Nat) (G : Option Addr) (n c : Nat) (xs : List Itm) : Prop := ∃ ys : List Lit, ys.map (·.1) = xs ∧ OwnY w base G n c ys

theorem LitOk.keep {w w' : World} {base lo hi : Nat} {B : Option Nat} {y : Lit} (h : LitOk w base B y) (k : Keep lo hi w w') (ho : y.2.2.2.2 ≤ lo ∨ hi ≤ y.2.2.2.1 ∨ hi ≤ lo) : LitOk w' base B y :=
  ⟨h.1, Nat.le_trans h.2.1 k.size, h.2.2.1.keep k ho, h.2.2.2.1, h.2.2.2.2⟩
theorem OwnY.below {w w' : World} {base n c : Nat} {G : Option Addr} {ys : List Lit} (h : OwnY w base G n c ys) (hb : Below w.heap.size w w') : OwnY w' base G n c ys := by
  have k := Keep.of_below hb 0 0
  refine ⟨⟨h.1.1, ?_⟩, h.2.1, h.2.2.1, fun y hy => (h.2.2.2 y hy).keep k (by omega)⟩
  rcases h.1.2 with h0 | ⟨g, cap, cur, e1, hg, hh, r⟩
  · exact .inl h0
  · have hlt := (Array.getElem?_eq_some_iff.1 hh).1
    exact .inr ⟨g, cap, cur, e1, hg, (k.block g hlt (by omega)).trans hh, r⟩
theorem OwnT.below {w w' : World} {base n c : Nat} {G : Option Addr} {xs : List Itm} (h : OwnT w base G n c xs) (hb : Below w.heap.size w w') : OwnT w' base G n c xs := by
  obtain ⟨ys, e, hy⟩ := h
  exact ⟨ys, e, hy.below hb⟩
theorem OwnY.push {w wa W1 : World} {base n c g1 cap gb cb : Nat} {G : Option Addr} {ys : List Lit} {x : Itm} {o : Obj} (h : OwnY w base G n c ys) (hbase : base ≤ w.heap.size) (hb : Below w.heap.size w wa)
    (hw : Wr wa w.heap.size wa.heap.size (some ⟨gb, 0, none⟩) x.2.1.length x.2.1)
    (own1 : W1.ownsRow base 55 4 (.slice (some ⟨g1, 0, none⟩) (n + 1) cap) (n + 1) (ys.flatMap cell4 ++ cell4 (x, some ⟨gb, 0, none⟩, cb, w.heap.size, wa.heap.size)))
    (hg : (wa.alloc o).grownBy W1 (Value.ownBlock (.slice G n c))) (hat : Value.ownBlock (.slice G n c) = some g1 ∨ g1 = wa.heap.size + 1) :
    OwnY W1 base (some ⟨g1, 0, none⟩) (n + 1) cap (ys ++ [(x, some ⟨gb, 0, none⟩, cb, w.heap.size, wa.heap.size)]) := by
  have hz := hb.size
  have ha : Keep 0 0 wa (wa.alloc o) := (Keep.refl 0 0 wa).alloc o
  have hz1 := hg.size
  simp only [World.size_alloc] at hz1
  have hlt := h.1.lt
  have hkg : ∀ gq, Value.ownBlock (.slice G n c) = some gq → Keep gq (gq + 1) (wa.alloc o) W1 := fun gq e => ⟨hg.os, hg.tape, hg.output, hg.size, fun q hq ho => hg.block q hq (by rw [e]; intro e2; injection e2 with e2; omega)⟩
  have hkn : Value.ownBlock (.slice G n c) = none → Keep 0 0 (wa.alloc o) W1 := fun e => ⟨hg.os, hg.tape, hg.output, hg.size, fun q hq ho => hg.block q hq (by rw [e]; simp)⟩
  refine ⟨by rw [List.flatMap_append]; simpa using own1, by simp [h.2.1], ?_, fun y hy => ?_⟩
  · rw [List.pairwise_append]
    refine ⟨h.2.2.1, by simp, fun a ha b hb2 => ?_⟩
    rw [List.mem_singleton] at hb2
    subst hb2
    exact (h.2.2.2 a ha).2.1
  · rcases List.mem_append.1 hy with hy | hy
    · have hok := h.2.2.2 y hy
      have h2 := (hok.keep (Keep.of_below hb 0 0) (by omega)).keep ha (by omega)
      have h3 : LitOk W1 base (Value.ownBlock (.slice G n c)) y := by
        cases e : Value.ownBlock (.slice G n c) with
        | none => rw [e] at h2; exact h2.keep (hkn e) (by omega)
        | some gq =>
          have := hok.2.2.2.2 gq e
          rw [e] at h2
          exact h2.keep (hkg gq e) (by omega)
      refine ⟨h3.1, h3.2.1, h3.2.2.1, h3.2.2.2.1, fun g e => ?_⟩
      have e2 : g1 = g := by simpa [Value.ownBlock] using e
      subst e2
      rcases hat with e3 | e3
      · exact hok.2.2.2.2 _ e3
      · exact .inr (by have := hok.2.1; omega)
    · rw [List.mem_singleton] at hy
      subst hy
      refine ⟨hbase, by show wa.heap.size ≤ W1.heap.size; omega, ?_, fun e => (by cases e), fun g e => ?_⟩
      · have hw2 := hw.keep ha (by omega)
        cases e : Value.ownBlock (.slice G n c) with
        | none => exact hw2.keep (hkn e) (by omega)
        | some gq =>
          have := (hlt gq e).2
          exact hw2.keep (hkg gq e) (by omega)
      · have e2 : g1 = g := by simpa [Value.ownBlock] using e
        subst e2
        rcases hat with e3 | e3
        · have := (hlt _ e3).2
          exact .inl this
        · exact .inr (by show wa.heap.size ≤ g1; omega)
theorem OwnT.nil (w : World) (hb : 0 ≤ w.heap.size) : OwnT (w.alloc (.cells #[] 55)) w.heap.size (some ⟨w.heap.size, 0, none⟩) 0 0 [] :=
  ⟨[], rfl, World.ownsRow_lit w #[] 0 (Nat.le_refl _) (Nat.zero_le _) rfl, rfl, by simp, by simp⟩
theorem OwnT.wt {w : World} {base n c : Nat} {G : Option Addr} {xs : List Itm} (h : OwnT w base G n c xs) : Wt w base w.heap.size G n xs := by
  obtain ⟨ys, rfl, hr, hl, hp, hy⟩ := h
  rcases hr.2 with ⟨hv, rfl⟩ | ⟨g, cap, cur, hv, hg, hh, hnc, hcm, hcs, ht⟩
  · have : ys = [] := List.length_eq_zero_iff.1 hl
    subst this
    exact Wt.empty_top w G |>.wide (by
      show base ≤ base
      exact Nat.le_refl _) (Nat.le_refl _) (Nat.le_refl _)
  · injection hv with hA _ _
    subst hA
    have hlt : g < w.heap.size := (Array.getElem?_eq_some_iff.1 hh).1
    have hcell : ∀ j i, j < n → i < 4 → w.cell? ⟨g, 0 + j * 4 + i, none⟩ = (cell4 (ys.getD j lit0))[i]? := fun j i hj hi => by
      rw [← cell4_at ys j i (by omega) hi, ← ht, List.getElem?_take_of_lt (by omega), Array.getElem?_toList]
      simp [World.cell?, hh]
    have hmem : ∀ j, j < n → ys.getD j lit0 ∈ ys := fun j hj => by
      rw [List.getD_eq_getElem?_getD, List.getElem?_eq_getElem (by omega : j < ys.length)]
      simp
    have hmap : ∀ j, j < n → (ys.map (·.1)).getD j it0 = (ys.getD j lit0).1 := fun j hj => by
      simp [List.getD_eq_getElem?_getD, List.getElem?_eq_getElem (by omega : j < ys.length)]
    refine ⟨by simpa using hl, by omega, Nat.le_refl _, fun _ => ⟨g, 0, rfl, hg, hlt, fun j => (ys.getD j lit0).2.2.2.1, fun j => (ys.getD j lit0).2.2.2.2, fun j hj => ?_, fun i j hij hj => ?_, fun j hj => ?_⟩⟩
    · exact ⟨(hy _ (hmem j hj)).1, (hy _ (hmem j hj)).2.1⟩
    · have := List.pairwise_iff_getElem.1 hp i j (by omega) (by omega) hij
      simpa [List.getD_eq_getElem?_getD, List.getElem?_eq_getElem (by omega : j < ys.length), List.getElem?_eq_getElem (by omega : i < ys.length)] using this
    · rw [hmap j hj]
      show ItW w g (0 + j * 4) (ys.getD j lit0).1 (ys.getD j lit0).2.2.2.1 (ys.getD j lit0).2.2.2.2
      have hok := hy _ (hmem j hj)
      have q0 := hcell j 0 hj (by omega)
      have q1 := hcell j 1 hj (by omega)
      have q2 := hcell j 2 hj (by omega)
      have q3 := hcell j 3 hj (by omega)
      generalize ys.getD j lit0 = y at *
      exact ⟨⟨q0, ⟨y.2.1, y.2.2.1, q1, hok.2.2.1, hok.2.2.2.1⟩, q2, q3⟩, fun i hi => by simp [World.frozen?, hh], hok.2.2.2.2 g rfl⟩

theorem take_getD' {xs : List Itm} {k : Nat} (hk : k < xs.length) : xs.take (k + 1) = xs.take k ++ [xs.getD k it0] := by
  rw [List.take_succ_eq_append_getElem hk, List.getD_eq_getElem?_getD, List.getElem?_eq_getElem hk]
  rfl

end Go.Proofs.YtjdkaaepbkkchaaDoor
namespace Go.Proofs.YtjdkaaepbkkchaaDoor
open Go.RowKit
set_option linter.unusedVariables false
set_option maxRecDepth 100000

/-- What TrimLog answers. -/
def trimCode (bs room to : Int) (xs : List Itm) : Int := if logCode bs room xs ≠ 0 then logCode bs room xs else if ¬ (bs ≤ to ∧ to ≤ bs + (xs.length : Int)) then 3 else 0
def trimBase (bs room to : Int) (xs : List Itm) : Int := if trimCode bs room to xs = 0 then to else 0
def trimOut (bs room to : Int) (xs : List Itm) : List Itm := if trimCode bs room to xs = 0 then xs.drop (to - bs).toNat else []
theorem logCode_ok {bs room : Int} {xs : List Itm} (h : logCode bs room xs = 0) : (1 ≤ room ∧ room ≤ 16) ∧ (0 ≤ bs ∧ bs ≤ 9000) ∧ (xs.length : Int) ≤ room ∧ itemsCode xs = 0 ∧ bs + (xs.length : Int) ≤ 9000 := by
  unfold logCode at h
  split at h
  · omega
  · split at h
    · omega
    · split at h
      · omega
      · split at h
        · omega
        · refine ⟨by omega, by omega, by omega, by omega, by omega⟩
theorem Rt.drop {w : World} {lo hi n b off d : Nat} {xs : List Itm} (h : Rt w lo hi (some ⟨b, off, none⟩) n xs) (hd : d ≤ n) : Rt w lo hi (some ⟨b, off + d * 4, none⟩) (n - d) (xs.drop d) := by
  refine ⟨by rw [List.length_drop, h.1], by have := h.2.1; omega, h.2.2.1, fun hn => ?_⟩
  obtain ⟨b', off', e, h1, h2, hc⟩ := h.at_ (by omega)
  injection e with e
  injection e with e1 e2
  subst e1 e2
  refine ⟨b, off + d * 4, rfl, h1, h2, fun j hj => ?_⟩
  have := hc (d + j) (by omega)
  have e3 : off + (d + j) * 4 = off + d * 4 + j * 4 := by omega
  rw [e3] at this
  have e4 : (xs.drop d).getD j it0 = xs.getD (d + j) it0 := by simp [List.getD_eq_getElem?_getD, List.getElem?_drop]
  rw [e4]
  exact this
/-- A result's own block of three cells, behind a call. -/
theorem res3_cells {w w1 : World} {u v x : Value} {t : TypeId} (hb1 : Below (w.alloc (.cells #[u, v, x] t)).heap.size (w.alloc (.cells #[u, v, x] t)) w1) :
    (w1.cell? ⟨w.heap.size, 0, none⟩ = some u ∧ w1.cell? ⟨w.heap.size, 1, none⟩ = some v ∧ w1.cell? ⟨w.heap.size, 2, none⟩ = some x) ∧ (∀ j, j < 3 → w1.frozen? ⟨w.heap.size, j, none⟩ = false) ∧ Below w.heap.size w w1 ∧ w.heap.size < w1.heap.size := by
  have d0 := hb1.cell (p := ⟨w.heap.size, 0, none⟩) (by simp)
  have d1 := hb1.cell (p := ⟨w.heap.size, 1, none⟩) (by simp)
  have d2 := hb1.cell (p := ⟨w.heap.size, 2, none⟩) (by simp)
  have ff := fun j => hb1.frozen (p := ⟨w.heap.size, j, none⟩) (by simp)
  simp [go_sem] at d0 d1 d2 ff
  have hz := hb1.size
  simp only [World.size_alloc] at hz
  exact ⟨⟨d0, d1, d2⟩, fun j _ => ff j, ((Below.refl w.heap.size w).alloc (Nat.le_refl _) _).trans (hb1.mono (by simp)), by omega⟩
theorem three_cells {w : World} {g : Nat} {u v x : Value} (h0 : w.cell? ⟨g, 0, none⟩ = some u) (h1 : w.cell? ⟨g, 1, none⟩ = some v) (h2 : w.cell? ⟨g, 2, none⟩ = some x) (a b c : Value) :
    (((w.setCell ⟨g, 0, none⟩ a).setCell ⟨g, 1, none⟩ b).setCell ⟨g, 2, none⟩ c).cell? ⟨g, 0, none⟩ = some a ∧ (((w.setCell ⟨g, 0, none⟩ a).setCell ⟨g, 1, none⟩ b).setCell ⟨g, 2, none⟩ c).cell? ⟨g, 1, none⟩ = some b ∧ (((w.setCell ⟨g, 0, none⟩ a).setCell ⟨g, 1, none⟩ b).setCell ⟨g, 2, none⟩ c).cell? ⟨g, 2, none⟩ = some c := by
  refine ⟨?_, ?_, ?_⟩
  · rw [World.cell?_setCell_other _ _ _ _ (by simp), World.cell?_setCell_other _ _ _ _ (by simp)]
    exact World.cell?_setCell_same _ _ _ h0
  · rw [World.cell?_setCell_other _ _ _ _ (by simp)]
    exact World.cell?_setCell_same _ _ _ ((World.cell?_setCell_other _ _ _ _ (by simp)).trans h1)
  · exact World.cell?_setCell_same _ _ _ ((World.cell?_setCell_other _ _ _ _ (by simp)).trans ((World.cell?_setCell_other _ _ _ _ (by simp)).trans h2))
/-- And behind its three stores. -/
theorem resT_done {w w1 : World} (hb : Below w.heap.size w w1) (x y z : Value) :
    Below w.heap.size w (((w1.setCell ⟨w.heap.size, 0, none⟩ x).setCell ⟨w.heap.size, 1, none⟩ y).setCell ⟨w.heap.size, 2, none⟩ z) ∧
    ∀ {lo n : Nat} {G : Option Addr} {xs : List Itm}, Wt w1 lo w1.heap.size G n xs → w.heap.size < lo → Wt (((w1.setCell ⟨w.heap.size, 0, none⟩ x).setCell ⟨w.heap.size, 1, none⟩ y).setCell ⟨w.heap.size, 2, none⟩ z) w.heap.size (((w1.setCell ⟨w.heap.size, 0, none⟩ x).setCell ⟨w.heap.size, 1, none⟩ y).setCell ⟨w.heap.size, 2, none⟩ z).heap.size G n xs := by
  have hk : Keep w.heap.size (w.heap.size + 1) w1 (((w1.setCell ⟨w.heap.size, 0, none⟩ x).setCell ⟨w.heap.size, 1, none⟩ y).setCell ⟨w.heap.size, 2, none⟩ z) :=
    (((Keep.refl _ _ w1).setCell (p := ⟨w.heap.size, 0, none⟩) ⟨Nat.le_refl _, Nat.lt_succ_self _⟩ x).setCell (p := ⟨w.heap.size, 1, none⟩) ⟨Nat.le_refl _, Nat.lt_succ_self _⟩ y).setCell (p := ⟨w.heap.size, 2, none⟩) ⟨Nat.le_refl _, Nat.lt_succ_self _⟩ z
  exact ⟨((hb.setCell (Nat.le_refl _) _).setCell (Nat.le_refl _) _).setCell (Nat.le_refl _) _, fun hw hlo => (hw.keep hk (by omega)).wide (by omega) hk.size (Nat.le_refl _)⟩

end Go.Proofs.YtjdkaaepbkkchaaDoor
namespace Go.Proofs.YtjdkaaepbkkchaaDoor
open Go.RowKit
set_option linter.unusedVariables false
set_option maxRecDepth 100000

theorem mem_sumLen {xs : List Itm} {x : Itm} (hx : x ∈ xs) : x.2.1.length ≤ sumLen xs := by
  induction xs with
  | nil => simp at hx
  | cons y ys ih =>
    have e : sumLen (y :: ys) = y.2.1.length + sumLen ys := by simp [sumLen]
    rcases List.mem_cons.1 hx with rfl | hx
    · omega
    · have := ih hx
      omega
end Go.Proofs.YtjdkaaepbkkchaaDoor
