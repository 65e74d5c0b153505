/-
  Items, rows of items, logs, rows of atoms, as the row opens them.
-/
import Derived.Test.YtjdkaaepbkkchaaOp
import Derived.Test.YtjdkaaepbkkchaaT3
import Derived.Deep.Slices
namespace Go.Proofs.Ytjdkaaepbkkchaa
open Go.ChangeShapes Go.WideShapes Go.ChangeAt Go.RowKit Go.Joins Go.Deep
set_option linter.unusedVariables false
set_option maxRecDepth 100000

section
variable {H : Type} {enc : TypeId × Value → H} {P : Program} {W w : World} {base b0 fuel : Nat} {spare : Nat → Bool} {held : Bool} {v v0 v1 v2 v3 : Value} {y x : DataW H × List MemPlace}
theorem bytes_of_trod (h : DataW.trod enc Try.prog W base (fun _ => true) held fuel 33 [v] = some y) :
    ∃ G n c xs, v = .slice G n c ∧ xs.length = n ∧ Rd W 0 W.heap.size G n xs ∧ (G = none → c = 0) := by
  rcases open_ints Try.underlying33 Try.underlying5 (by kernel_rfl) h with ⟨hcs, _⟩ | ⟨a, l, c', zs, hcs, _, hl, hm, hz, _, hcell, hwz⟩
  · simp at hcs
    exact ⟨none, 0, 0, [], hcs, rfl, Rd.of_row (zs := []) (cap := 0) (.inl ⟨rfl, rfl, rfl, rfl⟩), fun _ => rfl⟩
  · simp at hcs
    have hr : Rd W 0 W.heap.size (some a) l (zs.take l) := Rd.of_row (zs := zs) (cap := c') (.inr ⟨a, rfl, hl, hm, by simpa using hz, hcell, hwz⟩)
    exact ⟨some a, l, c', _, hcs, hr.len, hr, fun e => by cases e⟩
theorem trod_agg4 {t : TypeId} {f0 f1 f2 f3 : Field} (hs : P.underlying t = some (.struct #[f0, f1, f2, f3])) (hone : oneCellFields P #[f0, f1, f2, f3] = true)
    (h : DataW.trod enc P w base spare held fuel t [v0, v1, v2, v3] = some x) :
    ∃ (y0 y1 y2 y3 : DataW H × List MemPlace) (n : Nat), DataW.trod enc P w base spare held n f0.type [v0] = some y0 ∧ DataW.trod enc P w base spare held n f1.type [v1] = some y1 ∧ DataW.trod enc P w base spare held n f2.type [v2] = some y2 ∧
      DataW.trod enc P w base spare held n f3.type [v3] = some y3 := by
  obtain ⟨y0, y1, y2, y3, n, hx, _, h0, h1, h2, h3⟩ := trod_struct4 hs h
  obtain ⟨o0, k0⟩ := hone_of hone 0 f0 rfl
  obtain ⟨o1, k1⟩ := hone_of hone 1 f1 rfl
  obtain ⟨o2, k2⟩ := hone_of hone 2 f2 rfl
  obtain ⟨o3, k3⟩ := hone_of hone 3 f3 rfl
  exact ⟨y0, y1, y2, y3, n, by simpa [o0, k0] using h0, by simpa [o1, k1] using h1, by simpa [o2, k2] using h2, by simpa [o3, k3] using h3⟩
theorem trod_agg3 {t : TypeId} {f0 f1 f2 : Field} (hs : P.underlying t = some (.struct #[f0, f1, f2])) (hone : oneCellFields P #[f0, f1, f2] = true)
    (h : DataW.trod enc P w base spare held fuel t [v0, v1, v2] = some x) :
    ∃ (y0 y1 y2 : DataW H × List MemPlace) (n : Nat), DataW.trod enc P w base spare held n f0.type [v0] = some y0 ∧ DataW.trod enc P w base spare held n f1.type [v1] = some y1 ∧ DataW.trod enc P w base spare held n f2.type [v2] = some y2 := by
  obtain ⟨y0, y1, y2, n, hx, _, h0, h1, h2⟩ := trod_struct3 hs h
  obtain ⟨o0, k0⟩ := hone_of hone 0 f0 rfl
  obtain ⟨o1, k1⟩ := hone_of hone 1 f1 rfl
  obtain ⟨o2, k2⟩ := hone_of hone 2 f2 rfl
  exact ⟨y0, y1, y2, n, by simpa [o0, k0] using h0, by simpa [o1, k1] using h1, by simpa [o2, k2] using h2⟩

/-- Four cells that read as an item. -/
theorem item_of_trod (h : DataW.trod enc Try.prog W base (fun _ => true) held fuel 73 [v0, v1, v2, v3] = some y) :
    ∃ (x : Itm) (G : Option Addr) (c : Nat), v0 = .int .i64 x.1 ∧ v1 = .slice G x.2.1.length c ∧ v2 = .int .i64 x.2.2.1 ∧ v3 = .int .i64 x.2.2.2 ∧ Rd W 0 W.heap.size G x.2.1.length x.2.1 ∧ (G = none → c = 0) := by
  obtain ⟨y0, y1, y2, y3, n, h0, h1, h2, h3⟩ := trod_agg4 Try.underlying73 (by kernel_rfl) h
  obtain ⟨k, hk, _, _⟩ := DataW.trod_int Try.underlying2 h0
  obtain ⟨p, hp, _, _⟩ := DataW.trod_int Try.underlying2 h2
  obtain ⟨q, hq, _, _⟩ := DataW.trod_int Try.underlying2 h3
  obtain ⟨G, n, c, xs, e, hl, hr, hc⟩ := bytes_of_trod h1
  simp at hk hp hq
  subst hl
  exact ⟨(k, xs, p, q), G, c, hk, e, hp, hq, hr, hc⟩
theorem cellsItem : Try.prog.cellsOf 73 = 4 := by kernel_rfl
theorem list4 {α : Type} {l : List α} (h : l.length = 4) : ∃ a b c d, l = [a, b, c, d] := by
  match l, h with
  | [a, b, c, d], _ => exact ⟨a, b, c, d, rfl⟩
theorem list3 {α : Type} {l : List α} (h : l.length = 3) : ∃ a b c, l = [a, b, c] := by
  match l, h with
  | [a, b, c], _ => exact ⟨a, b, c, rfl⟩
theorem add_none (b off j : Nat) : (⟨b, off, none⟩ : Addr).add j = ⟨b, off + j, none⟩ := by unfold Addr.add; split <;> simp_all
theorem spot_none {a : Addr} {u : Value} (h : W.cell? a = some u) : a.spot = none := World.cell?_spot h
/-- A slice of items behind its reading. -/
theorem items_of_trod (h : DataW.trod enc Try.prog W base (fun _ => true) held fuel 22 [v] = some y) :
    ∃ A n c xs, v = .slice A n c ∧ Rt W 0 W.heap.size A n xs := by
  rcases open_slice Try.underlying22 h with ⟨hcs, _⟩ | ⟨a, len, cap, m, fu, D, Pl, hcs, _, hl, hm, hmm, _, hel⟩
  · simp at hcs
    exact ⟨none, 0, 0, [], hcs, rfl, Nat.zero_le _, Nat.le_refl _, fun h => absurd h (by omega)⟩
  · simp at hcs
    have hmc : m = cap := by simpa using hmm
    have hsp : 0 < len → a.spot = none := fun h0 => by
      obtain ⟨cs', h1, _⟩ := hel 0 (by omega)
      rw [cellsItem] at h1
      obtain ⟨_, hlen, hcell⟩ := World.cells?_some h1
      obtain ⟨u0, u1, u2, u3, rfl⟩ := list4 hlen
      have c0 := hcell 0 (by omega)
      rw [Go.Deep.add_add] at c0
      exact spot_none (W := W) (u := u0) (by simpa [Addr.add] using c0)
    have each : ∀ i, i < len → ∃ x : Itm, a.spot = none ∧ ItAt W 0 W.heap.size a.block (a.off + i * 4) x := by
      intro i hi
      obtain ⟨cs', h1, h2⟩ := hel i (by omega)
      rw [cellsItem] at h1
      obtain ⟨_, hlen, hcell⟩ := World.cells?_some h1
      obtain ⟨u0, u1, u2, u3, rfl⟩ := list4 hlen
      obtain ⟨x, G, c, rfl, rfl, rfl, rfl, hr, hc⟩ := item_of_trod h2
      have c0 := hcell 0 (by omega)
      have c1 := hcell 1 (by omega)
      have c2 := hcell 2 (by omega)
      have c3 := hcell 3 (by omega)
      rw [Go.Deep.add_add] at c0 c1 c2 c3
      have hsp := hsp (by omega)
      refine ⟨x, hsp, ?_⟩
      obtain ⟨b, off, sp⟩ := a
      simp only at hsp
      subst hsp
      rw [add_none] at c0 c1 c2 c3
      exact ⟨c0, ⟨G, c, c1, hr, hc⟩, c2, c3⟩
    obtain ⟨X, hX⟩ := choose_lt each
    refine ⟨some a, len, cap, (List.range len).map X, hcs, by simp, by omega, Nat.le_refl _, fun hn => ?_⟩
    obtain ⟨b, off, sp⟩ := a
    have hsp := (hX 0 hn).1
    simp only at hsp
    subst hsp
    refine ⟨b, off, rfl, Nat.zero_le _, World.block_lt_of_cell? W _ (hX 0 hn).2.1, fun j hj => ?_⟩
    have e : ((List.range len).map X).getD j it0 = X j := by simp [List.getD_eq_getElem?_getD, hj]
    rw [e]
    exact (hX j hj).2
theorem open_items {r : Reach} {d : DataW H} {p : List MemPlace} (hv : Value.okWide Try.prog W r b0 22 v) (h : DataW.Trod enc Try.prog W base (fun _ => true) held 22 v d p) :
    ∃ A n c xs, v = .slice A n c ∧ Rt W 0 W.heap.size A n xs := by
  obtain ⟨f, hf⟩ := h
  obtain ⟨A, n, c, rfl⟩ := okWide_slice Try.underlying22 hv
  exact items_of_trod (v := .slice A n c) (by simpa [Value.cells] using hf)
theorem open_item {r : Reach} {d : DataW H} {p : List MemPlace} (hv : Value.okWide Try.prog W r b0 73 v) (h : DataW.Trod enc Try.prog W base (fun _ => true) held 73 v d p) :
    ∃ (k pp q : Int) (A : Option Addr) (n c : Nat) (xs : List Int), v = .agg #[.int .i64 k, .slice A n c, .int .i64 pp, .int .i64 q] ∧ Rd W 0 W.heap.size A n xs ∧ (A = none → c = 0) := by
  obtain ⟨c0, c1, c2, c3, y0, y1, y2, y3, m, rfl, rfl, rfl, h0, h1, h2, h3⟩ := open_agg4 Try.underlying73 (by kernel_rfl) cellsItem hv h
  obtain ⟨k, hk, _, _⟩ := DataW.trod_int Try.underlying2 h0
  obtain ⟨pp, hp, _, _⟩ := DataW.trod_int Try.underlying2 h2
  obtain ⟨q, hq, _, _⟩ := DataW.trod_int Try.underlying2 h3
  obtain ⟨G, n, c, xs, e, hl, hr, hc⟩ := bytes_of_trod h1
  simp at hk hp hq
  subst hk hp hq e
  exact ⟨k, pp, q, G, n, c, xs, rfl, hr, hc⟩
end
end Go.Proofs.Ytjdkaaepbkkchaa
