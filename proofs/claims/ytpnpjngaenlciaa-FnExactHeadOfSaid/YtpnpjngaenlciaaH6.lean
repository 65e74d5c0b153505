/-
  The proof of who wrote it: l2Mac; and the model's PadMessage, HashOf, MacOf.
-/
import Derived.Test.YtpnpjngaenlciaaH5
import Derived.Test.YtpnpjngaenlciaaApp
namespace Go.Proofs.Ytpnpjngaenlciaa
open Go.RowKit
set_option linter.unusedVariables false
set_option maxRecDepth 100000

/-- A row of n bytes of the call's own; the first k are told by f. -/
def Row8 (w : World) (g n k : Nat) (f : Nat → Int) : Prop :=
  ∃ cs, w.heap[g]? = some (.cells cs 5 (0, 0)) ∧ cs.size = n ∧ ∀ j, j < k → cs[j]? = some (.int .u8 (f j))
section
variable {w w' : World} {g n k : Nat} {f : Nat → Int}
theorem Row8.lt (h : Row8 w g n k f) : g < w.heap.size := by
  obtain ⟨cs, h1, _⟩ := h
  rcases Nat.lt_or_ge g w.heap.size with hlt | hge
  · exact hlt
  · rw [Array.getElem?_eq_none hge] at h1; cases h1
theorem Row8.start (w : World) (cs : Array Value) (hs : cs.size = n) (f : Nat → Int) : Row8 (w.alloc (.cells cs 5)) w.heap.size n 0 f := by
  refine ⟨cs, ?_, hs, fun j hj => by omega⟩
  show (w.heap.push _)[w.heap.size]? = _
  simp
theorem Row8.cell (h : Row8 w g n k f) {j : Nat} (hj : j < n) : ∃ v, w.cell? ⟨g, j, none⟩ = some v := by
  obtain ⟨cs, h1, h2, _⟩ := h
  refine ⟨cs[j]'(by omega), ?_⟩
  simp [World.cell?, h1, h2, hj]
theorem Row8.frozen (h : Row8 w g n k f) (j : Nat) : w.frozen? ⟨g, j, none⟩ = false := by
  obtain ⟨cs, h1, _⟩ := h
  simp [World.frozen?, h1]
theorem Row8.step (h : Row8 w g n k f) (hk : k < n) : Row8 (w.setCell ⟨g, k, none⟩ (.int .u8 (f k))) g n (k + 1) f := by
  obtain ⟨cs, h1, h2, h3⟩ := h
  refine ⟨cs.setIfInBounds k (.int .u8 (f k)), by simp [World.setCell, Array.getElem?_modify, h1], by simpa using h2, fun j hj => ?_⟩
  rw [Array.getElem?_setIfInBounds]
  by_cases e : k = j
  · subst e; simp [h2, hk]
  · rw [if_neg e]; exact h3 j (by omega)
theorem Row8.keep {lo hi : Nat} (h : Row8 w g n k f) (ke : Keep lo hi w w') (ho : g < lo ∨ hi ≤ g) : Row8 w' g n k f := by
  have hl := h.lt
  obtain ⟨cs, h1, h2, h3⟩ := h
  exact ⟨cs, (ke.block g hl ho).trans h1, h2, h3⟩
theorem Row8.own (h : Row8 w g n n f) (hm : n ≤ maxLen) {base : Nat} (hb : base ≤ g) : w.ownsRow base 5 1 (.slice (some ⟨g, 0, none⟩) n n) n (((List.range n).map f).map (Value.int .u8)) := by
  obtain ⟨cs, h1, h2, h3⟩ := h
  refine ⟨by simp, .inr ⟨g, n, cs, rfl, hb, h1, Nat.le_refl _, hm, by omega, ?_⟩⟩
  refine List.ext_getElem (by simp [h2]) fun j h4 h5 => ?_
  have hj : j < n := by simpa using h5
  have := h3 j hj
  rw [Array.getElem?_eq_getElem (by omega)] at this
  simp only [List.getElem_take, Array.getElem_toList, List.getElem_map, List.getElem_range]
  exact Option.some.inj this
end

/-- The key's bytes, zeros behind them. -/
def keyAt (ks : List Int) (j : Nat) : Int := if j < ks.length then ks.getD j 0 else 0
def innerL (ks : List Int) : List Int := (List.range 64).map fun j => bits .xor .u8 (keyAt ks j) 54
def outerL (ks : List Int) : List Int := (List.range 64).map fun j => bits .xor .u8 (keyAt ks j) 92
/-- HMAC. -/
def macL (ks ds : List Int) : List Int := hashL (outerL ks ++ hashL (innerL ks ++ ds))
theorem bits_u8 (op : BinOp) (x y : Int) : 0 ≤ bits op .u8 x y ∧ bits op .u8 x y ≤ 255 := by
  have := wf_bits op .u8 x y
  simpa [Lit.wf, IntKind.min, IntKind.max, IntKind.signed, IntKind.bits] using this
theorem innerL_len (ks : List Int) : (innerL ks).length = 64 := by simp [innerL]
theorem outerL_len (ks : List Int) : (outerL ks).length = 64 := by simp [outerL]
theorem innerL_byte (ks : List Int) : ∀ x ∈ innerL ks, 0 ≤ x ∧ x ≤ 255 := by
  intro x hx
  simp only [innerL, List.mem_map] at hx
  obtain ⟨j, _, rfl⟩ := hx
  exact bits_u8 _ _ _
theorem outerL_byte (ks : List Int) : ∀ x ∈ outerL ks, 0 ≤ x ∧ x ≤ 255 := by
  intro x hx
  simp only [outerL, List.mem_map] at hx
  obtain ⟨j, _, rfl⟩ := hx
  exact bits_u8 _ _ _
theorem macL_len (ks ds : List Int) : (macL ks ds).length = 32 := hashL_len _
theorem macL_byte (ks ds : List Int) : ∀ x ∈ macL ks ds, 0 ≤ x ∧ x ≤ 255 := hashL_byte _

end Go.Proofs.Ytpnpjngaenlciaa
