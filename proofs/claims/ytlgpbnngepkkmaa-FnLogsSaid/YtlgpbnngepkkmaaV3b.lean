/-
  impl.AtomsOf.
-/
import Derived.Test.YtlgpbnngepkkmaaV3
import Derived.Test.YtlgpbnngepkkmaaV2
namespace Go.Proofs.Ytlgpbnngepkkmaa
open Go.RowKit
set_option linter.unusedVariables false
set_option maxRecDepth 100000

theorem item_ok {k p q : Int} {n : Nat} (h : itemCode k n p q = 0) : (k = 1 ∧ p = 0 ∧ q = 0 ∧ 1 ≤ n ∧ n ≤ 8) ∨ (k = 2 ∧ n = 0 ∧ (1 ≤ p ∧ p ≤ 999) ∧ (1 ≤ q ∧ q ≤ 999)) := by
  unfold itemCode at h
  split at h
  · split at h
    · omega
    · left; omega
  · split at h
    · split at h
      · omega
      · right; omega
    · omega

set_option maxHeartbeats 4000000 in
theorem atomsOf_any (A : Option Addr) (n c hi : Nat) (xs : List Itm) (w : World) (h : Rt w 0 hi A n xs) (hb : n ≤ 100) (hev : ∀ x ∈ xs, cdOf x = 0) :
    Calls Try.prog 58 #[.slice A n c] w fun e w' => ∃ G m cap, e = .returned (.slice G m cap) ∧ OwnA w' w.heap.size G m cap (atomsL xs) ∧ Below w.heap.size w w' := by
  have hint := h.int
  have hl := h.len
  have htop := h.top
  have hsl := sumLen_ok hev
  have mK := methodKey
  have mS := methodSize
  obtain ⟨I0, hi0, hz0, hz1, hz2⟩ := info_parts info_atom
  go_enter Try.func58, Try.ntmps58
  go_wp2_with fail
  go_loopw [3, 5, 8] (fun o _ i wr => ∃ (k : Nat) (G : Option Addr) (m cap : Nat), k ≤ n ∧ i = .int .i64 (k : Int) ∧ o = .slice G m cap ∧ OwnA wr w.heap.size G m cap (atomsL (xs.take k)) ∧ Below w.heap.size w wr) (fun _ _ i _ => n - (intOf i).toNat)
  case atStart => exact ⟨0, _, _, _, Nat.zero_le _, rfl, rfl, by simpa [atomsL] using OwnA.none_ _ _, Below.refl _ _⟩
  case round =>
    obtain ⟨k, G, m, cap, hk, rfl, rfl, hO, hB⟩ := hrel
    by_cases hlt : k < n
    · obtain ⟨b, off, rfl, h1, h2, hc⟩ := h.at_ (by omega)
      obtain ⟨a0, ⟨GB, cg, a1, rg, _⟩, a2, a3⟩ := (hc k hlt).keep (Keep.of_below hB 0 0) h2 (Nat.zero_le _) htop (by omega)
      have hat := atomsL_take (xs := xs) (k := k) (by omega)
      have hal := atomsL_len (xs.take k)
      have hst := sumLen_take_le xs k
      rw [List.length_take] at hal
      have hxm : xs.getD k it0 ∈ xs := by
        rw [List.getD_eq_getElem?_getD, List.getElem?_eq_getElem (by omega : k < xs.length)]
        simp
      have hcd := hev _ hxm
      generalize xs.getD k it0 = x at *
      obtain ⟨xk, xb, xp, xq⟩ := x
      simp only at a0 a1 a2 a3 rg
      have hzz := hB.size
      have i0 : (0 : Int) ≤ (k : Int) := by omega
      have i1 : (k : Int) < (n : Int) := by omega
      have hol := hO.len
      have hol2 : m * 3 ≤ 1000 * 3 := by omega
      generalize hfz : atomsL (xs.take k) = fs at *
      have HAT := Lib.hid hat
      clear hfz hst hal hxm hc h hat hol hev
      have hbl : b < wr.heap.size := by omega
      rcases item_ok hcd with ⟨rfl, rfl, rfl, hn1, hn8⟩ | ⟨rfl, hn0, hp, hq⟩
      · have HS : Hid (atomA (1, xb, 0, 0) = bytesA xb) := rfl
        have ka := (Keep.refl 0 0 wr).alloc (.cells #[.int .i64 1, .slice GB xb.length cg, .int .i64 0, .int .i64 0] 28)
        have rg1 := rg.keep ka (by omega)
        have hB0 := hB.alloc hzz (.cells #[.int .i64 1, .slice GB xb.length cg, .int .i64 0, .int .i64 0] 28)
        clear hcd rg
        go_wp2_with fail
        refine (typedOf_key GB xb.length cg _).mono ?_
        rintro e w1 ⟨rfl, k1⟩
        have rg2 := rg1.keep k1 (by omega)
        have hB1 := hB0.trans (k1.below (by omega) hB0.size)
        have hO1 := (hO.keep ka (by omega)).keep k1 (by omega)
        have HC := Lib.hid (keyAtoms_any GB xb.length cg _ _ xb w1 rg2 (by omega))
        have hz1' := hB1.size
        clear rg1 rg2 hB0 k1 ka hO hB a0 a1 a2 a3
        go_wp2_with fail
        refine HC.out.mono ?_
        rintro e w2 ⟨G2, m2, cap2, rfl, hO2, hb2⟩
        have hl2 := hO2.len
        have hbl2 := bytesA_len xb
        obtain ⟨g2, rfl⟩ := hO2.form (by omega)
        have hO3 := hO1.keep (Keep.of_below hb2 0 0) (by omega)
        have hB2 := hB1.trans (hb2.mono hz1')
        have hz2' := hB2.size
        have own0 := hO3.1
        have hnw := hO2.news
        have hml : m + m2 ≤ maxLen := by unfold maxLen; omega
        have hmb : (m + m2) * 24 ≤ 140737488355328 := by omega
        clear HC hO1 hB1 hb2
        go_wp2_with (at_builtin; refine wpList_append_lies _ rfl (.tmp 12) (.tmp 15) 38 rfl w.heap.size 94 I0 (.agg #[.int .i64 0, .int .i64 0, .int .i64 0]) 3 24 Try.underlying38 hi0 hz0 hz1 hz2 rfl (by decide) _ _ _ rfl own0 ⟨g2, 0, none⟩ m2 cap2 ((bytesA xb).map (Value.int .i64)) rfl (by simp; omega) hnw (ints_oneCell _ _) (by omega) hml hmb hz2' w2.heap.size rfl ?_)
        intro g4 cap4 W2 own4 hgrow4 hat4 hgl4
        have hO4 := hO3.join hO2 own4 (by unfold maxLen; omega)
        have hB4 : Below w.heap.size w W2 := Below.of_grown hB2 hgrow4 hz2' (fun q e => (own0.lt q e).1)
        rw [← HS.out, ← HAT.out] at hO4
        have HO4 := Lib.hid hO4
        have HB4 := Lib.hid hB4
        clear own0 own4 hgrow4 hat4 hO2 hO3 hB2 hO4 hB4 hnw hl2 hbl2
        go_wp2_with fail
        go_roundw
        case rel => exact ⟨k + 1, _, _, _, by omega, by go_num, rfl, HO4.out, HB4.out⟩
        case measure => simp [intOf]; omega
      · obtain rfl : xb = [] := List.eq_nil_of_length_eq_zero hn0
        have HS : Hid (atomA (2, [], xp, xq) = [2, xp, xq]) := rfl
        have ka := (Keep.refl 0 0 wr).alloc (.cells #[.int .i64 2, .slice GB 0 cg, .int .i64 xp, .int .i64 xq] 28)
        have hB0 := hB.alloc hzz (.cells #[.int .i64 2, .slice GB 0 cg, .int .i64 xp, .int .i64 xq] 28)
        have a1' : wr.cell? ⟨b, off + k * 4 + 1, none⟩ = some (.slice GB 0 cg) := a1
        clear hcd rg a1
        go_wp2_with fail
        refine (typedOf_size xp xq GB cg _).mono ?_
        rintro e w1 ⟨rfl, k1⟩
        have hB1 := hB0.trans (k1.below (by omega) hB0.size)
        have hO1 := (hO.keep ka (by omega)).keep k1 (by omega)
        have HC := Lib.hid (sizeAtoms_any xp xq w1 (by omega) (by omega))
        have hz1' := hB1.size
        clear hB0 k1 ka hO hB a0 a1' a2 a3
        go_wp2_with fail
        refine HC.out.mono ?_
        rintro e w2 ⟨G2, m2, cap2, rfl, hO2, hb2⟩
        have hl2 := hO2.len
        obtain rfl : m2 = 1 := by simp at hl2; omega
        obtain ⟨g2, rfl⟩ := hO2.form (by omega)
        have hO3 := hO1.keep (Keep.of_below hb2 0 0) (by omega)
        have hB2 := hB1.trans (hb2.mono hz1')
        have hz2' := hB2.size
        have own0 := hO3.1
        have hnw := hO2.news
        have hml : m + 1 ≤ maxLen := by unfold maxLen; omega
        have hmb : (m + 1) * 24 ≤ 140737488355328 := by omega
        clear HC hO1 hB1 hb2
        go_wp2_with (at_builtin; refine wpList_append_lies _ rfl (.tmp 12) (.tmp 15) 38 rfl w.heap.size 94 I0 (.agg #[.int .i64 0, .int .i64 0, .int .i64 0]) 3 24 Try.underlying38 hi0 hz0 hz1 hz2 rfl (by decide) _ _ _ rfl own0 ⟨g2, 0, none⟩ 1 cap2 ([2, xp, xq].map (Value.int .i64)) rfl (by simp) hnw (ints_oneCell _ _) (by omega) hml hmb hz2' w2.heap.size rfl ?_)
        intro g4 cap4 W2 own4 hgrow4 hat4 hgl4
        have hO4 := hO3.join hO2 own4 (by unfold maxLen; omega)
        have hB4 : Below w.heap.size w W2 := Below.of_grown hB2 hgrow4 hz2' (fun q e => (own0.lt q e).1)
        rw [← HS.out, ← HAT.out] at hO4
        have HO4 := Lib.hid hO4
        have HB4 := Lib.hid hB4
        clear own0 own4 hgrow4 hat4 hO2 hO3 hB2 hO4 hB4 hnw hl2
        go_wp2_with fail
        go_roundw
        case rel => exact ⟨k + 1, _, _, _, by omega, by go_num, rfl, HO4.out, HB4.out⟩
        case measure => simp [intOf]; omega
    · have ek : k = n := by omega
      have hxt : xs.take k = xs := List.take_of_length_le (by omega)
      rw [hxt] at hO
      go_wp2_with fail
      go_ret
      exact ⟨_, _, _, rfl, hO, hB⟩

set_option maxHeartbeats 2000000 in
theorem implAtoms_any (A : Option Addr) (n c hi : Nat) (xs : List Itm) (w : World) (h : Rt w 0 hi A n xs) :
    Calls Try.prog 16 #[.slice A n c] w fun e w' => ∃ G m cap, e = .returned (.agg #[.int .i64 (atomsCode xs), .slice G m cap]) ∧ Wi w' w.heap.size w'.heap.size G (m * 3) (atomsOut xs) ∧ m ≤ 1048576 ∧ Below w.heap.size w w' := by
  have hint := h.int
  have hl := h.len
  have htop := h.top
  by_cases hn : 100 < n
  · have hc : atomsCode xs = 2 := by unfold atomsCode; rw [if_pos (by omega)]
    have ho : atomsOut xs = [] := by unfold atomsOut; rw [if_neg (by rw [hc]; decide)]
    rw [hc, ho]
    have hn2 : (100 : Int) < (n : Int) := by omega
    clear hc ho
    go_enter Try.func16, Try.ntmps16
    go_wp2_with fail
    refine bodyPost_ret (v := .agg #[.int .i64 2, .slice none 0 0]) (by simp [results, Try.results16, go_sem]) rfl ⟨none, 0, 0, rfl, Wi.empty_top _ _, Nat.zero_le _, ?_⟩
    repeat first
      | exact Below.refl _ _
      | refine Below.setCell ?_ (by simp; try omega) _
      | refine Below.alloc ?_ (by simp; try omega) _
  · have hc : atomsCode xs = itemsCode xs := by unfold atomsCode; rw [if_neg (by omega)]
    have hn2 : ¬ (100 : Int) < (n : Int) := by omega
    have hka : Keep 0 0 w (w.alloc (.cells #[.int .i64 0, .slice none 0 0] 40)) := (Keep.refl 0 0 w).alloc _
    have h1 := h.keep hka (by omega)
    by_cases hz : itemsCode xs = 0
    · have ho : atomsOut xs = atomsL xs := by unfold atomsOut; rw [if_pos (by rw [hc]; exact hz)]
      rw [hc, ho, hz]
      have hev := itemsCode_each hz
      have hs := sumLen_ok hev
      have hr := hev
      have HI := Lib.hid (itemsFault_any A n c hi xs _ h1)
      rw [hz] at HI
      have HR := Lib.hid hr
      clear ho hev hr h hc hz
      generalize hal : atomsL xs = fs at *
      have HAL := Lib.hid hal
      clear hal
      go_enter Try.func16, Try.ntmps16
      go_wp2_with fail
      refine HI.out.mono ?_
      rintro e w1 ⟨rfl, k1⟩
      have h2 := h1.keep (Keep.of_below k1 0 0) (by omega)
      have HA := Lib.hid (atomsOf_any A n c hi xs w1 h2 (by omega) HR.out)
      go_wp2_with fail
      refine HA.out.mono ?_
      rintro e w2 ⟨G, m, cap, rfl, hO, hb2⟩
      rw [HAL.out] at hO
      have hbb := k1.trans (hb2.mono k1.size)
      obtain ⟨d0, d1, f0, f1, hb, hzz⟩ := res_cells hbb
      obtain ⟨e0, e1⟩ := two_cells d0 d1 (.int .i64 0) (.slice G m cap)
      have hk1 := k1.size
      simp only [World.size_alloc] at hk1
      obtain ⟨r2, hb3⟩ := resI_done hb hzz (.int .i64 0) (.slice G m cap) hO.wi (by omega)
      have hml : m ≤ 1048576 := by
        have := hO.len
        have := atomsL_len xs
        rw [HAL.out] at this
        omega
      clear hbb hO hb hb2 k1 h1 h2 HA HI
      go_wp2_with fail
      exact bodyPost_ret (v := .agg #[.int .i64 0, .slice G m cap]) (by simp [results, Try.results16, go_sem, e0, e1]) rfl ⟨G, m, cap, rfl, r2, hml, hb3⟩
    · have ho : atomsOut xs = [] := by unfold atomsOut; rw [if_neg (by rw [hc]; exact hz)]
      rw [hc, ho]
      have HI := Lib.hid (itemsFault_any A n c hi xs _ h1)
      have hzb : (itemsCode xs != 0) = true := by simp [hz]
      generalize itemsCode xs = ic at *
      clear ho hc h h1
      go_enter Try.func16, Try.ntmps16
      go_wp2_with fail
      refine HI.out.mono ?_
      rintro e w1 ⟨rfl, k1⟩
      have hbb := k1
      obtain ⟨d0, d1, f0, f1, hb, hzz⟩ := res_cells hbb
      obtain ⟨e0, e1⟩ := two_cells d0 d1 (.int .i64 ic) (.slice none 0 0)
      have hk1 := k1.size
      have hb3 : Below w.heap.size w ((w1.setCell ⟨w.heap.size, 0, none⟩ (.int .i64 ic)).setCell ⟨w.heap.size, 1, none⟩ (.slice none 0 0)) := (hb.setCell (Nat.le_refl _) _).setCell (Nat.le_refl _) _
      clear hbb hb k1 HI
      go_wp2_with fail
      exact bodyPost_ret (v := .agg #[.int .i64 ic, .slice none 0 0]) (by simp [results, Try.results16, go_sem, e0, e1]) rfl ⟨none, 0, 0, rfl, Wi.empty_top _ _, Nat.zero_le _, hb3⟩
end Go.Proofs.Ytlgpbnngepkkmaa
