/-
  The atoms of what was typed: the two kinds' methods; impl.atomsOf.
-/
import Derived.Test.YtlgpbnngepkkmaaV1
import Derived.Test.YtlgpbnngepkkmaaT7
namespace Go.Proofs.Ytlgpbnngepkkmaa
open Go.RowKit
set_option linter.unusedVariables false
set_option maxRecDepth 100000

theorem OwnA.none_ (w : World) (base : Nat) : OwnA w base none 0 0 [] := ⟨⟨rfl, .inl ⟨rfl, rfl⟩⟩, Nat.zero_le _, fun x hx => by simp at hx⟩

set_option maxHeartbeats 4000000 in
theorem keyAtoms_any (A : Option Addr) (n c lo hi : Nat) (xb : List Int) (w : World) (h : Rd w lo hi A n xb) (hn : n ≤ 1048576) :
    Calls Try.prog 102 #[.agg #[.slice A n c]] w fun e w' => ∃ G m cap, e = .returned (.slice G m cap) ∧ OwnA w' w.heap.size G m cap (bytesA xb) ∧ Below w.heap.size w w' := by
  have hint := h.int
  have hl := h.len
  have htop := h.top
  obtain ⟨I0, hi0, hz0, hz1, hz2⟩ := info_parts info_atom
  have hb0 : Below w.heap.size w (w.alloc (.cells #[.slice A n c] 105)) := (Below.refl _ _).alloc (Nat.le_refl _) _
  go_enter Try.func102, Try.ntmps102
  go_wp2_with fail
  go_loopw [3, 5, 9] (fun o _ i wq => ∃ (t : Nat) (G : Option Addr) (m cap : Nat), t ≤ n ∧ i = .int .i64 (t : Int) ∧ o = .slice G m cap ∧ OwnA wq w.heap.size G m cap (bytesA (xb.take t)) ∧ Below w.heap.size w wq) (fun _ _ i _ => n - (intOf i).toNat)
  case atStart => exact ⟨0, _, _, _, Nat.zero_le _, rfl, rfl, by simpa [bytesA] using OwnA.none_ _ _, hb0⟩
  case round =>
    obtain ⟨t, G2, m2, cap2, ht, rfl, rfl, hO2, hB2⟩ := hrel
    have hz2' := hB2.size
    by_cases htl : t < n
    · have rg2 := h.keep (Keep.of_below hB2 0 0) (by omega)
      obtain ⟨cb, cof, rfl, d1, d2, dc⟩ := rg2.at_ (by omega)
      have hv := dc t htl
      have hvb := rg2.byteAt htl
      have hbt := bytesA_take (bs := xb) (k := t) (by omega)
      have hol2 := hO2.len
      have hbl := bytesA_len (xb.take t)
      rw [List.length_take] at hbl
      have j0 : (0 : Int) ≤ (t : Int) := by omega
      have j1 : (t : Int) < (n : Int) := by omega
      have own2 := hO2.1
      have hml : m2 + 1 ≤ maxLen := by unfold maxLen; omega
      have hmb : (m2 + 1) * 24 ≤ 140737488355328 := by omega
      generalize xb.getD t 0 = v at *
      generalize bytesA (xb.take t) = gs at *
      have HGT := Lib.hid hbt
      have HP : Hid ((m2 + 1) * 3 ≤ maxLen) := by
        show _ ≤ _
        unfold maxLen
        omega
      clear dc rg2 hbt hbl hol2 h hb0
      go_wp2_with (at_builtin; refine wpList_append_lies _ rfl (.tmp 13) (.tmp 17) 38 rfl w.heap.size 94 I0 (.agg #[.int .i64 0, .int .i64 0, .int .i64 0]) 3 24 Try.underlying38 hi0 hz0 hz1 hz2 rfl (by decide) _ _ _ rfl (own2.alloc _) ⟨wr.heap.size, 0, none⟩ 1 1 [.int .i64 1, .int .i64 v, .int .i64 0] rfl rfl (World.news_of_block (cs := #[.int .i64 1, .int .i64 v, .int .i64 0]) (t := 94) (fr := (0, 0)) (heap_alloc_new wr _)) (by simp [Value.oneCell']) (by omega) hml hmb ?c5 (wr.heap.size + 1) (by simp) ?_)
      case c5 => simp; omega
      intro g2 cap3 W2 own3 hgrow2 hat2 hgl2
      have hO3 := hO2.push own3 HP.out (fun u hu => by
        simp at hu
        rcases hu with rfl | rfl | rfl <;> omega)
      have hB3 : Below w.heap.size w W2 := Below.of_grown (hB2.alloc hz2' _) hgrow2 (by simp; omega) (fun q e => (own2.lt q e).1)
      have HO3 := Lib.hid hO3
      have HB3 := Lib.hid hB3
      clear own2 own3 hgrow2 hat2 hO2 hB2 hO3 hB3 hv
      go_wp2_with fail
      go_roundw
      case rel => exact ⟨t + 1, _, _, _, by omega, by go_num, rfl, by rw [HGT.out]; exact HO3.out, HB3.out⟩
      case measure => simp [intOf]; omega
    · have et : t = n := by omega
      have hxt : xb.take t = xb := List.take_of_length_le (by omega)
      rw [hxt] at hO2
      have HO3 := Lib.hid hO2
      have HB3 := Lib.hid hB2
      clear hO2 hB2 hxt
      go_wp2_with fail
      go_ret
      exact ⟨_, _, _, rfl, HO3.out, HB3.out⟩

set_option maxHeartbeats 400000 in
theorem sizeAtoms_any (p q : Int) (w : World) (hp : -9223372036854775808 ≤ p ∧ p ≤ 9223372036854775807) (hq : -9223372036854775808 ≤ q ∧ q ≤ 9223372036854775807) :
    Calls Try.prog 103 #[.agg #[.int .i64 p, .int .i64 q]] w fun e w' => ∃ G m cap, e = .returned (.slice G m cap) ∧ OwnA w' w.heap.size G m cap [2, p, q] ∧ Below w.heap.size w w' := by
  have ho : OwnA ((w.alloc (.cells #[.int .i64 p, .int .i64 q] 107)).alloc (.cells #[.int .i64 2, .int .i64 p, .int .i64 q] 94)) w.heap.size (some ⟨w.heap.size + 1, 0, none⟩) 1 1 [2, p, q] := by
    refine ⟨?_, by decide, fun x hx => ?_⟩
    · have := World.ownsRow_lit (base := w.heap.size) (size := 3) (e := 94) (w.alloc (.cells #[.int .i64 p, .int .i64 q] 107)) #[.int .i64 2, .int .i64 p, .int .i64 q] 1 (by simp) (by decide) rfl
      simpa using this
    · simp at hx
      rcases hx with rfl | rfl | rfl <;> omega
  have hb := ((Below.refl w.heap.size w).alloc (Nat.le_refl _) (.cells #[.int .i64 p, .int .i64 q] 107)).alloc (by simp) (.cells #[.int .i64 2, .int .i64 p, .int .i64 q] 94)
  go_enter Try.func103, Try.ntmps103
  go_wp2_with fail
  go_ret
  exact ⟨_, _, _, rfl, ho, hb⟩

/-- One row of atoms behind another. -/
theorem OwnA.join {w w' : World} {base base' n c m d g cap : Nat} {A D : Option Addr} {fs gs : List Int} (h : OwnA w base A n c fs) (h2 : OwnA w base' D m d gs)
    (ho : w'.ownsRow base 94 3 (.slice (some ⟨g, 0, none⟩) (n + m) cap) (n + m) (fs.map (Value.int .i64) ++ gs.map (Value.int .i64))) (hn : (n + m) * 3 ≤ maxLen) : OwnA w' base (some ⟨g, 0, none⟩) (n + m) cap (fs ++ gs) := by
  refine ⟨?_, hn, fun u hu => ?_⟩
  · rw [List.map_append]
    exact ho
  · rcases List.mem_append.1 hu with hu | hu
    · exact h.2.2 u hu
    · exact h2.2.2 u hu
/-- Its cells. -/
theorem OwnA.news {w : World} {base g n c : Nat} {fs : List Int} (h : OwnA w base (some ⟨g, 0, none⟩) n c fs) : ∀ j u, (fs.map (Value.int .i64))[j]? = some u → w.cell? ((⟨g, 0, none⟩ : Addr).add j) = some u := by
  intro j u hu
  rcases h.1.2 with ⟨hv, rfl⟩ | ⟨g', cap, cur, hv, hg, hh, hnc, _, hcs, ht⟩
  · cases hv
  · injection hv with hA _ _
    injection hA with hA
    injection hA with hA _
    subst hA
    have hadd : (⟨g, 0, none⟩ : Addr).add j = ⟨g, j, none⟩ := by unfold Addr.add; split <;> simp_all
    have hj : j < n * 3 := by
      have h1 := h.len
      have h2 := (List.getElem?_eq_some_iff.1 hu).1
      simp only [List.length_map] at h2
      omega
    rw [hadd]
    rw [← ht, List.getElem?_take_of_lt hj, Array.getElem?_toList] at hu
    simp only [World.cell?, hh]
    exact hu
/-- A row of atoms with something in it lies in one block. -/
theorem OwnA.form {w : World} {base n c : Nat} {A : Option Addr} {fs : List Int} (h : OwnA w base A n c fs) (hn : 0 < n) : ∃ g, A = some ⟨g, 0, none⟩ := by
  rcases h.1.2 with ⟨hv, rfl⟩ | ⟨g', cap, cur, hv, _⟩
  · omega
  · injection hv with hA _ _
    exact ⟨g', hA⟩
theorem methodKey (v : Value) (w : World) : (method 243 105 (.agg #[v]) "loop.example/g00799/impl.atoms").run Try.prog w = .ok (102, .agg #[v]) w := by kernel_rfl
theorem methodSize (u v : Value) (w : World) : (method 243 107 (.agg #[u, v]) "loop.example/g00799/impl.atoms").run Try.prog w = .ok (103, .agg #[u, v]) w := by kernel_rfl
end Go.Proofs.Ytlgpbnngepkkmaa
