/-
  impl.AtomsOf with the room of an empty answer; an append of atoms read from anywhere, at a step of a drawn region.
-/
import Derived.Test.YtlgpbnngepkkmaaV3b
import Derived.Laws.AppendOwnNone
namespace Go.Proofs.Ytlgpbnngepkkmaa
open Go.RowKit
set_option linter.unusedVariables false
set_option maxRecDepth 100000

theorem OwnA.room {w : World} {base n c : Nat} {A : Option Addr} {fs : List Int} (h : OwnA w base A n c fs) : A = none → c = 0 := by
  rcases h.1.2 with ⟨hv, _⟩ | ⟨_, cap, _, hv, _⟩
  · injection hv with _ _ e
    exact fun _ => e
  · injection hv with hA _ _
    exact fun e => by rw [hA] at e; cases e
theorem Ri.news3 {w : World} {lo hi n b off : Nat} {fs : List Int} (h : Ri w lo hi (some ⟨b, off, none⟩) n fs) (hn : 0 < n) : ∀ j u, (fs.map (Value.int .i64))[j]? = some u → w.cell? ((⟨b, off, none⟩ : Addr).add j) = some u := by
  intro j u hu
  obtain ⟨b', off', e, _, _, hc⟩ := h.at_ hn
  injection e with e
  injection e with e1 e2
  subst e1 e2
  have hadd : (⟨b, off, none⟩ : Addr).add j = ⟨b, off + j, none⟩ := by unfold Addr.add; split <;> simp_all
  have hj : j < fs.length := by
    have h2 := (List.getElem?_eq_some_iff.1 hu).1
    simpa using h2
  rw [hadd, hc j (by rw [← h.len]; exact hj)]
  rw [List.getElem?_map, List.getElem?_eq_getElem hj] at hu
  rw [List.getD_eq_getElem?_getD, List.getElem?_eq_getElem hj]
  exact hu
theorem step_append_atoms {P : Program} {w : World} {ops : Array Oper} {o : Oper} {a : Act} {K : Act → World → Prop} {Q : Exit → Act → World → Prop} {E : Prop} (hgd : o.guard = none) (s x : Operand) (t : TypeId)
    (ho : o.op = Op.call { callee := Callee.builtin Builtin.append, args := #[s, x], argTypes := #[t, t] })
    (base : Nat) (i : TypeInfo) (z : Value) (ht : P.underlying t = some (.slice 94)) (hi : P.info? 94 = some i) (hz : i.zero = some z)
    (hsize : i.size = 3) (hby : i.bytes = 24) (hzs : z.cells.size = 3)
    (g k cap : Nat) (fs : List Int) (hs : a.eval s = .slice (some ⟨g, 0, none⟩) k cap) (hown : OwnA w base (some ⟨g, 0, none⟩) k cap fs)
    (A : Option Addr) (m c lo hi' : Nat) (gs : List Int) (hx : a.eval x = .slice A m c) (h2 : Ri w lo hi' A (m * 3) gs) (hgz : A = none → c = 0)
    (h63 : k + m ≤ 4000000) (hbase : base ≤ w.heap.size)
    (h : ∀ g' cap' w', OwnA w' base (some ⟨g', 0, none⟩) (k + m) cap' (fs ++ gs) → w.grownBy w' (some g) → K (a.put o.dst (.slice (some ⟨g', 0, none⟩) (k + m) cap')) w') :
    if Region.wanted o (yielded ops a.tmps) = true then Oper.wp P o a w K Q else E := by
  have hw : Region.wanted o (yielded ops a.tmps) = true := by simp [Region.wanted, hgd]
  rw [if_pos hw]
  rcases Nat.eq_zero_or_pos m with h0 | h0
  · subst h0
    obtain rfl : gs = [] := List.eq_nil_of_length_eq_zero (by simpa using h2.len)
    rcases A with _ | ad
    · obtain rfl : c = 0 := hgz rfl
      have hrun := run_append_owned_none (P := P) (w := w) base t o.type 94 i 3 ht hi _ k _ hown.1
      unfold Oper.wp
      simp [execOp, ho, resolve, invoke, builtin, hs, hx, hrun, Result.andThen]
      exact h g cap w (by simpa using hown) (World.grownBy.refl w _)
    · have hkc : k ≤ cap := by
        rcases hown.1.2 with ⟨hv, _⟩ | ⟨_, cap', _, hv, _, _, hnc, _⟩
        · cases hv
        · injection hv with _ _ e'
          omega
      obtain ⟨w', hrun, own', grow'⟩ := run_append_fits (P := P) w base t o.type 94 i 3 ht hi hsize g k cap _ hown.1 ad 0 c [] rfl (by simp) (by simp) (by omega)
      unfold Oper.wp
      simp [execOp, ho, resolve, invoke, builtin, hs, hx, hrun, Result.andThen]
      exact h g cap w' ⟨by simpa using own', by simpa using hown.2.1, by simpa using hown.2.2⟩ grow'
  · obtain ⟨b, off, rfl, _, _, _⟩ := h2.at_ (by omega)
    refine wp_append_lies w s x t ho base 94 i z 3 24 ht hi hz hsize hby hzs (by decide) _ k _ hs hown.1 ⟨b, off, none⟩ m c (gs.map (Value.int .i64)) hx (by simp [h2.len]) (h2.news3 (by omega)) (ints_oneCell _ _) h0 (by unfold maxLen; omega) (by omega) hbase w.heap.size rfl ?_
    intro g' cap' w' own' grow' hat hlt
    refine h g' cap' w' ⟨?_, by unfold maxLen; omega, fun u hu => ?_⟩ grow'
    · rw [List.map_append]
      exact own'
    · rcases List.mem_append.1 hu with hu | hu
      · exact hown.2.2 u hu
      · exact h2.byte u hu

set_option maxHeartbeats 2000000 in
theorem implAtoms_c (A : Option Addr) (n c hi : Nat) (xs : List Itm) (w : World) (h : Rt w 0 hi A n xs) :
    Calls Try.prog 16 #[.slice A n c] w fun e w' => ∃ G m cap, e = .returned (.agg #[.int .i64 (atomsCode xs), .slice G m cap]) ∧ Wi w' w.heap.size w'.heap.size G (m * 3) (atomsOut xs) ∧ m ≤ 1048576 ∧ (G = none → cap = 0) ∧ Below w.heap.size w w' := by
  have hint := h.int
  have hl := h.len
  have htop := h.top
  by_cases hn : 100 < n
  · have hc : atomsCode xs = 2 := by unfold atomsCode; rw [if_pos (by omega)]
    have ho : atomsOut xs = [] := by unfold atomsOut; rw [if_neg (by rw [hc]; decide)]
    rw [hc, ho]
    have hn2 : (100 : Int) < (n : Int) := by omega
    clear hc ho
    go_enter Try.func16, Try.ntmps16
    go_wp2_with fail
    refine bodyPost_ret (v := .agg #[.int .i64 2, .slice none 0 0]) (by simp [results, Try.results16, go_sem]) rfl ⟨none, 0, 0, rfl, Wi.empty_top _ _, Nat.zero_le _, fun _ => rfl, ?_⟩
    repeat first
      | exact Below.refl _ _
      | refine Below.setCell ?_ (by simp; try omega) _
      | refine Below.alloc ?_ (by simp; try omega) _
  · have hc : atomsCode xs = itemsCode xs := by unfold atomsCode; rw [if_neg (by omega)]
    have hn2 : ¬ (100 : Int) < (n : Int) := by omega
    have hka : Keep 0 0 w (w.alloc (.cells #[.int .i64 0, .slice none 0 0] 40)) := (Keep.refl 0 0 w).alloc _
    have h1 := h.keep hka (by omega)
    by_cases hz : itemsCode xs = 0
    · have ho : atomsOut xs = atomsL xs := by unfold atomsOut; rw [if_pos (by rw [hc]; exact hz)]
      rw [hc, ho, hz]
      have hev := itemsCode_each hz
      have hs := sumLen_ok hev
      have hr := hev
      have HI := Lib.hid (itemsFault_any A n c hi xs _ h1)
      rw [hz] at HI
      have HR := Lib.hid hr
      clear ho hev hr h hc hz
      generalize hal : atomsL xs = fs at *
      have HAL := Lib.hid hal
      clear hal
      go_enter Try.func16, Try.ntmps16
      go_wp2_with fail
      refine HI.out.mono ?_
      rintro e w1 ⟨rfl, k1⟩
      have h2 := h1.keep (Keep.of_below k1 0 0) (by omega)
      have HA := Lib.hid (atomsOf_any A n c hi xs w1 h2 (by omega) HR.out)
      go_wp2_with fail
      refine HA.out.mono ?_
      rintro e w2 ⟨G, m, cap, rfl, hO, hb2⟩
      rw [HAL.out] at hO
      have hbb := k1.trans (hb2.mono k1.size)
      obtain ⟨d0, d1, f0, f1, hb, hzz⟩ := res_cells hbb
      obtain ⟨e0, e1⟩ := two_cells d0 d1 (.int .i64 0) (.slice G m cap)
      have hk1 := k1.size
      simp only [World.size_alloc] at hk1
      obtain ⟨r2, hb3⟩ := resI_done hb hzz (.int .i64 0) (.slice G m cap) hO.wi (by omega)
      have HGZ := Lib.hid hO.room
      have hml : m ≤ 1048576 := by
        have := hO.len
        have := atomsL_len xs
        rw [HAL.out] at this
        omega
      clear hbb hO hb hb2 k1 h1 h2 HA HI
      go_wp2_with fail
      exact bodyPost_ret (v := .agg #[.int .i64 0, .slice G m cap]) (by simp [results, Try.results16, go_sem, e0, e1]) rfl ⟨G, m, cap, rfl, r2, hml, HGZ.out, hb3⟩
    · have ho : atomsOut xs = [] := by unfold atomsOut; rw [if_neg (by rw [hc]; exact hz)]
      rw [hc, ho]
      have HI := Lib.hid (itemsFault_any A n c hi xs _ h1)
      have hzb : (itemsCode xs != 0) = true := by simp [hz]
      generalize itemsCode xs = ic at *
      clear ho hc h h1
      go_enter Try.func16, Try.ntmps16
      go_wp2_with fail
      refine HI.out.mono ?_
      rintro e w1 ⟨rfl, k1⟩
      have hbb := k1
      obtain ⟨d0, d1, f0, f1, hb, hzz⟩ := res_cells hbb
      obtain ⟨e0, e1⟩ := two_cells d0 d1 (.int .i64 ic) (.slice none 0 0)
      have hk1 := k1.size
      have hb3 : Below w.heap.size w ((w1.setCell ⟨w.heap.size, 0, none⟩ (.int .i64 ic)).setCell ⟨w.heap.size, 1, none⟩ (.slice none 0 0)) := (hb.setCell (Nat.le_refl _) _).setCell (Nat.le_refl _) _
      clear hbb hb k1 HI
      go_wp2_with fail
      exact bodyPost_ret (v := .agg #[.int .i64 ic, .slice none 0 0]) (by simp [results, Try.results16, go_sem, e0, e1]) rfl ⟨none, 0, 0, rfl, Wi.empty_top _ _, Nat.zero_le _, fun _ => rfl, hb3⟩
end Go.Proofs.Ytlgpbnngepkkmaa
