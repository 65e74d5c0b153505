/-
  The laws' helpers on an answer with a code and atoms; the model's AtomsOf.
-/
import Derived.Test.YtlgpbnngepkkmaaT6
namespace Go.Proofs.Ytlgpbnngepkkmaa
open Go.RowKit
set_option linter.unusedVariables false
set_option maxRecDepth 100000




theorem itemsCode_each : ∀ {xs : List Itm}, itemsCode xs = 0 → ∀ x ∈ xs, cdOf x = 0
  | [], _, x, hx => by simp at hx
  | y :: ys, h, x, hx => by
    unfold itemsCode at h
    by_cases hy : cdOf y = 0
    · rw [if_pos hy] at h
      rcases List.mem_cons.1 hx with rfl | hx
      · exact hy
      · exact itemsCode_each h x hx
    · rw [if_neg hy] at h
      exact absurd h hy
theorem cdOf_ok {x : Itm} (h : cdOf x = 0) : x.2.1.length ≤ 8 ∧ (-9223372036854775808 ≤ x.2.2.1 ∧ x.2.2.1 ≤ 9223372036854775807) ∧ (-9223372036854775808 ≤ x.2.2.2 ∧ x.2.2.2 ≤ 9223372036854775807) := by
  unfold cdOf itemCode at h
  split at h
  · split at h
    · omega
    · omega
  · split at h
    · split at h
      · omega
      · omega
    · omega
theorem sumLen_ok {xs : List Itm} (h : ∀ x ∈ xs, cdOf x = 0) : sumLen xs ≤ 8 * xs.length := by
  induction xs with
  | nil => simp [sumLen]
  | cons x xs ih =>
    have e2 : sumLen (x :: xs) = x.2.1.length + sumLen xs := by simp [sumLen]
    have := (cdOf_ok (h x (by simp))).1
    have := ih fun y hy => h y (by simp [hy])
    rw [e2, List.length_cons]
    omega

/-- What AtomsOf answers. -/
def atomsCode (xs : List Itm) : Int := if 100 < xs.length then 2 else itemsCode xs
def atomsOut (xs : List Itm) : List Int := if atomsCode xs = 0 then atomsL xs else []

set_option maxHeartbeats 2000000 in
theorem specAtoms_any (A : Option Addr) (n c hi : Nat) (xs : List Itm) (w : World) (h : Rt w 0 hi A n xs) :
    Calls Try.prog 22 #[.slice A n c] w fun e w' => ∃ G m cap, e = .returned (.agg #[.int .i64 (atomsCode xs), .slice G m cap]) ∧ Wi w' w.heap.size w'.heap.size G (m * 3) (atomsOut xs) ∧ m ≤ 1048576 ∧ Below w.heap.size w w' := by
  have hint := h.int
  have hl := h.len
  have htop := h.top
  by_cases hn : 100 < n
  · have hc : atomsCode xs = 2 := by unfold atomsCode; rw [if_pos (by omega)]
    have ho : atomsOut xs = [] := by unfold atomsOut; rw [if_neg (by rw [hc]; decide)]
    rw [hc, ho]
    have hn2 : (100 : Int) < (n : Int) := by omega
    clear hc ho
    go_enter Try.func22, Try.ntmps22
    go_wp2_with fail
    refine bodyPost_ret (v := .agg #[.int .i64 2, .slice none 0 0]) (by simp [results, Try.results22, go_sem]) rfl ⟨none, 0, 0, rfl, Wi.empty_top _ _, Nat.zero_le _, ?_⟩
    repeat first
      | exact Below.refl _ _
      | refine Below.setCell ?_ (by simp; try omega) _
      | refine Below.alloc ?_ (by simp; try omega) _
  · have hc : atomsCode xs = itemsCode xs := by unfold atomsCode; rw [if_neg (by omega)]
    have hn2 : ¬ (100 : Int) < (n : Int) := by omega
    have hka : Keep 0 0 w (w.alloc (.cells #[.int .i64 0, .slice none 0 0] 40)) := (Keep.refl 0 0 w).alloc _
    have h1 := h.keep hka (by omega)
    by_cases hz : itemsCode xs = 0
    · have ho : atomsOut xs = atomsL xs := by unfold atomsOut; rw [if_pos (by rw [hc]; exact hz)]
      rw [hc, ho, hz]
      have hev := itemsCode_each hz
      have hs := sumLen_ok hev
      have hr := fun x hx => (cdOf_ok (hev x hx)).2
      have HI := Lib.hid (l5Items_any A n c 0 hi xs _ h1)
      rw [hz] at HI
      have HR := Lib.hid hr
      clear ho hev hr h hc hz
      generalize hal : atomsL xs = fs at *
      have HAL := Lib.hid hal
      clear hal
      go_enter Try.func22, Try.ntmps22
      go_wp2_with fail
      refine HI.out.mono ?_
      rintro e w1 ⟨rfl, k1⟩
      have h2 := h1.keep k1 (by omega)
      have HA := Lib.hid (l5Atoms_any A n c hi xs w1 h2 (by omega) HR.out)
      go_wp2_with fail
      refine HA.out.mono ?_
      rintro e w2 ⟨G, m, cap, rfl, hO, hb2⟩
      rw [HAL.out] at hO
      have hbb := (k1.below (B := (w.alloc (.cells #[.int .i64 0, .slice none 0 0] 40)).heap.size) (by omega) (Nat.le_refl _)).trans (hb2.mono k1.size)
      obtain ⟨d0, d1, f0, f1, hb, hzz⟩ := res_cells hbb
      obtain ⟨e0, e1⟩ := two_cells d0 d1 (.int .i64 0) (.slice G m cap)
      have hk1 := k1.size
      simp only [World.size_alloc] at hk1
      obtain ⟨r2, hb3⟩ := resI_done hb hzz (.int .i64 0) (.slice G m cap) hO.wi (by omega)
      have hml : m ≤ 1048576 := by
        have := hO.len
        have := atomsL_len xs
        rw [HAL.out] at this
        omega
      clear hbb hO hb hb2 k1 h1 h2 HA HI
      go_wp2_with fail
      exact bodyPost_ret (v := .agg #[.int .i64 0, .slice G m cap]) (by simp [results, Try.results22, go_sem, e0, e1]) rfl ⟨G, m, cap, rfl, r2, hml, hb3⟩
    · have ho : atomsOut xs = [] := by unfold atomsOut; rw [if_neg (by rw [hc]; exact hz)]
      rw [hc, ho]
      have HI := Lib.hid (l5Items_any A n c 0 hi xs _ h1)
      have hzb : (itemsCode xs != 0) = true := by simp [hz]
      generalize itemsCode xs = ic at *
      clear ho hc h h1
      go_enter Try.func22, Try.ntmps22
      go_wp2_with fail
      refine HI.out.mono ?_
      rintro e w1 ⟨rfl, k1⟩
      have hbb := k1.below (B := (w.alloc (.cells #[.int .i64 0, .slice none 0 0] 40)).heap.size) (by omega) (Nat.le_refl _)
      obtain ⟨d0, d1, f0, f1, hb, hzz⟩ := res_cells hbb
      obtain ⟨e0, e1⟩ := two_cells d0 d1 (.int .i64 ic) (.slice none 0 0)
      have hk1 := k1.size
      have hb3 : Below w.heap.size w ((w1.setCell ⟨w.heap.size, 0, none⟩ (.int .i64 ic)).setCell ⟨w.heap.size, 1, none⟩ (.slice none 0 0)) := (hb.setCell (Nat.le_refl _) _).setCell (Nat.le_refl _) _
      clear hbb hb k1 HI
      go_wp2_with fail
      exact bodyPost_ret (v := .agg #[.int .i64 ic, .slice none 0 0]) (by simp [results, Try.results22, go_sem, e0, e1]) rfl ⟨none, 0, 0, rfl, Wi.empty_top _ _, Nat.zero_le _, hb3⟩
end Go.Proofs.Ytlgpbnngepkkmaa
