/-
  impl.AddItem.
-/
import Derived.Test.YtlgpbnngepkkmaaTc
import Derived.Test.YtlgpbnngepkkmaaV2
import Derived.Deep.RegionLaw
import Derived.Deep.CutRange
namespace Go.Proofs.Ytlgpbnngepkkmaa
open Go.RowKit
set_option linter.unusedVariables false
set_option maxRecDepth 100000

set_option maxHeartbeats 4000000 in
theorem implAdd_c (bs room k p q : Int) (A D : Option Addr) (n c m d hi hi' : Nat) (xs : List Itm) (ys : List Int) (w : World) (h : Rt w 0 hi A n xs) (hx : Rd w 0 hi' D m ys) (gz : D = none → d = 0) (hbs : -9223372036854775808 ≤ bs ∧ bs ≤ 9223372036854775807) :
    Calls Try.prog 12 #[.agg #[.int .i64 bs, .slice A n c], .int .i64 room, .agg #[.int .i64 k, .slice D m d, .int .i64 p, .int .i64 q]] w (LogPostC w (addCode bs room xs (k, ys, p, q)) (addBase bs room xs (k, ys, p, q)) (addOut bs room xs (k, ys, p, q))) := by
  obtain rfl : m = ys.length := hx.len.symm
  have hint := h.int
  have hl := h.len
  have htop := h.top
  have htop' := hx.top
  have hmi := hx.int
  have hcd : cdOf (k, ys, p, q) = itemCode k ys.length p q := rfl
  have ka := (((Keep.refl 0 0 w).alloc (.cells #[.int .i64 bs, .slice A n c] 26)).alloc (.cells #[.int .i64 k, .slice D ys.length d, .int .i64 p, .int .i64 q] 28)).alloc (.cells #[.int .i64 0, .int .i64 0, .slice none 0 0] 32)
  have h2 := h.keep ka (by omega)
  have hx2 := hx.keep ka (by omega)
  have HL := Lib.hid (implLogFault_any bs room A n c hi xs _ h2)
  by_cases hc : logCode bs room xs = 0
  · obtain ⟨hr, hb, hm, hi0, hf⟩ := logCode_ok hc
    rw [hc] at HL
    by_cases hic : itemCode k ys.length p q = 0
    · by_cases h9 : 9000 ≤ bs + (n : Int)
      · have e0 : addCode bs room xs (k, ys, p, q) = 8 := by unfold addCode; rw [if_neg (by simp [hc]), if_neg (by rw [hcd, hic]; decide), if_pos (by omega)]
        have e1 : addBase bs room xs (k, ys, p, q) = 0 := by unfold addBase; rw [if_neg (by rw [e0]; decide)]
        have e2 : addOut bs room xs (k, ys, p, q) = [] := by unfold addOut; rw [if_neg (by rw [e0]; decide)]
        rw [e0, e1, e2]
        clear e0 e1 e2
        have h9e : bs + (n : Int) = 9000 := by omega
        have HIC := Lib.hid hic
        clear hc hic hi0 hcd h hx h2 hx2 ka gz
        go_enter Try.func12, Try.ntmps12
        go_wp2_with fail
        refine HL.out.mono ?_
        rintro e w1 ⟨rfl, k1⟩
        have c0 := k1.cell (p := ⟨w.heap.size, 0, none⟩) (by simp; try omega)
        have c1 := k1.cell (p := ⟨w.heap.size, 1, none⟩) (by simp; try omega)
        have x0 := k1.cell (p := ⟨w.heap.size + 1, 0, none⟩) (by simp; try omega)
        have x1 := k1.cell (p := ⟨w.heap.size + 1, 1, none⟩) (by simp; try omega)
        have x2 := k1.cell (p := ⟨w.heap.size + 1, 2, none⟩) (by simp; try omega)
        have x3 := k1.cell (p := ⟨w.heap.size + 1, 3, none⟩) (by simp; try omega)
        have r0 := k1.cell (p := ⟨w.heap.size + 1 + 1, 0, none⟩) (by simp; try omega)
        have r1 := k1.cell (p := ⟨w.heap.size + 1 + 1, 1, none⟩) (by simp; try omega)
        have r2 := k1.cell (p := ⟨w.heap.size + 1 + 1, 2, none⟩) (by simp; try omega)
        have z0 := k1.frozen (p := ⟨w.heap.size + 1 + 1, 0, none⟩) (by simp; try omega)
        have z1 := k1.frozen (p := ⟨w.heap.size + 1 + 1, 1, none⟩) (by simp; try omega)
        have z2 := k1.frozen (p := ⟨w.heap.size + 1 + 1, 2, none⟩) (by simp; try omega)
        simp [go_sem] at c0 c1 x0 x1 x2 x3 r0 r1 r2 z0 z1 z2
        go_wp2_with fail
        have h3i := implItem_any k p q D ys.length d w1 hmi
        rw [HIC.out] at h3i
        refine h3i.mono ?_
        rintro e wz ⟨rfl, k2⟩
        have hzz := k2.size
        have hz1 := k1.size
        simp only [World.size_alloc] at hz1
        replace c0 := (k2.cell (p := ⟨w.heap.size, 0, none⟩) (by show w.heap.size < _; omega)).trans c0
        replace c1 := (k2.cell (p := ⟨w.heap.size, 1, none⟩) (by show w.heap.size < _; omega)).trans c1
        replace x0 := (k2.cell (p := ⟨w.heap.size + 1, 0, none⟩) (by show w.heap.size + 1 < _; omega)).trans x0
        replace x1 := (k2.cell (p := ⟨w.heap.size + 1, 1, none⟩) (by show w.heap.size + 1 < _; omega)).trans x1
        replace x2 := (k2.cell (p := ⟨w.heap.size + 1, 2, none⟩) (by show w.heap.size + 1 < _; omega)).trans x2
        replace x3 := (k2.cell (p := ⟨w.heap.size + 1, 3, none⟩) (by show w.heap.size + 1 < _; omega)).trans x3
        replace r0 := (k2.cell (p := ⟨w.heap.size + 1 + 1, 0, none⟩) (by show w.heap.size + 1 + 1 < _; omega)).trans r0
        replace r1 := (k2.cell (p := ⟨w.heap.size + 1 + 1, 1, none⟩) (by show w.heap.size + 1 + 1 < _; omega)).trans r1
        replace r2 := (k2.cell (p := ⟨w.heap.size + 1 + 1, 2, none⟩) (by show w.heap.size + 1 + 1 < _; omega)).trans r2
        replace z0 := (k2.frozen (p := ⟨w.heap.size + 1 + 1, 0, none⟩) (by show w.heap.size + 1 + 1 < _; omega)).trans z0
        replace z1 := (k2.frozen (p := ⟨w.heap.size + 1 + 1, 1, none⟩) (by show w.heap.size + 1 + 1 < _; omega)).trans z1
        replace z2 := (k2.frozen (p := ⟨w.heap.size + 1 + 1, 2, none⟩) (by show w.heap.size + 1 + 1 < _; omega)).trans z2
        go_wp2_with fail
        refine (behind_any bs A n c wz (by omega) (by omega) (by omega)).mono ?_
        rintro e w5 ⟨rfl, rfl⟩
        have hbb := k1.trans (k2.mono k1.size)
        clear k1 k2
        obtain ⟨q0, q1, q2⟩ := three_cells r0 r1 r2 (.int .i64 8) (.int .i64 0) (.slice none 0 0)
        have hzx := hbb.size
        simp only [World.size_alloc] at hzx
        have hw2 : Below w.heap.size w wz := (((Below.refl w.heap.size w).alloc (Nat.le_refl _) (.cells #[.int .i64 bs, .slice A n c] 26)).alloc (by simp) (.cells #[.int .i64 k, .slice D ys.length d, .int .i64 p, .int .i64 q] 28)).trans (((Below.refl ((w.alloc (.cells #[.int .i64 bs, .slice A n c] 26)).alloc (.cells #[.int .i64 k, .slice D ys.length d, .int .i64 p, .int .i64 q] 28)).heap.size ((w.alloc (.cells #[.int .i64 bs, .slice A n c] 26)).alloc (.cells #[.int .i64 k, .slice D ys.length d, .int .i64 p, .int .i64 q] 28))).alloc (Nat.le_refl _) (.cells #[.int .i64 0, .int .i64 0, .slice none 0 0] 32)).mono (by simp; omega) |>.trans (hbb.mono (by simp; omega)))
        have hB : Below w.heap.size w (((wz.setCell ⟨w.heap.size + 1 + 1, 0, none⟩ (.int .i64 8)).setCell ⟨w.heap.size + 1 + 1, 1, none⟩ (.int .i64 0)).setCell ⟨w.heap.size + 1 + 1, 2, none⟩ (.slice none 0 0)) := ((hw2.setCell (by show w.heap.size ≤ w.heap.size + 1 + 1; omega) _).setCell (by show w.heap.size ≤ w.heap.size + 1 + 1; omega) _).setCell (by show w.heap.size ≤ w.heap.size + 1 + 1; omega) _
        have HB := Lib.hid hB
        clear hbb hw2 hB
        go_wp2_with fail
        exact bodyPost_ret (v := .agg #[.int .i64 8, .int .i64 0, .slice none 0 0]) (by simp [results, Try.results12, go_sem, q0, q1, q2]) rfl ⟨none, 0, 0, rfl, Wt.empty_top _ _, Nat.le_refl _, HB.out⟩
      · by_cases h7 : room ≤ (n : Int)
        · have e0 : addCode bs room xs (k, ys, p, q) = 7 := by unfold addCode; rw [if_neg (by simp [hc]), if_neg (by rw [hcd, hic]; decide), if_neg (by omega), if_pos (by omega)]
          have e1 : addBase bs room xs (k, ys, p, q) = 0 := by unfold addBase; rw [if_neg (by rw [e0]; decide)]
          have e2 : addOut bs room xs (k, ys, p, q) = [] := by unfold addOut; rw [if_neg (by rw [e0]; decide)]
          rw [e0, e1, e2]
          clear e0 e1 e2
          have h7e : (n : Int) = room := by omega
          have h9b : ((bs + (n : Int)) == 9000) = false := by simp; omega
          have HIC := Lib.hid hic
          clear hc hic hi0 hcd h hx h2 hx2 ka gz
          go_enter Try.func12, Try.ntmps12
          go_wp2_with fail
          refine HL.out.mono ?_
          rintro e w1 ⟨rfl, k1⟩
          have c0 := k1.cell (p := ⟨w.heap.size, 0, none⟩) (by simp; try omega)
          have c1 := k1.cell (p := ⟨w.heap.size, 1, none⟩) (by simp; try omega)
          have x0 := k1.cell (p := ⟨w.heap.size + 1, 0, none⟩) (by simp; try omega)
          have x1 := k1.cell (p := ⟨w.heap.size + 1, 1, none⟩) (by simp; try omega)
          have x2 := k1.cell (p := ⟨w.heap.size + 1, 2, none⟩) (by simp; try omega)
          have x3 := k1.cell (p := ⟨w.heap.size + 1, 3, none⟩) (by simp; try omega)
          have r0 := k1.cell (p := ⟨w.heap.size + 1 + 1, 0, none⟩) (by simp; try omega)
          have r1 := k1.cell (p := ⟨w.heap.size + 1 + 1, 1, none⟩) (by simp; try omega)
          have r2 := k1.cell (p := ⟨w.heap.size + 1 + 1, 2, none⟩) (by simp; try omega)
          have z0 := k1.frozen (p := ⟨w.heap.size + 1 + 1, 0, none⟩) (by simp; try omega)
          have z1 := k1.frozen (p := ⟨w.heap.size + 1 + 1, 1, none⟩) (by simp; try omega)
          have z2 := k1.frozen (p := ⟨w.heap.size + 1 + 1, 2, none⟩) (by simp; try omega)
          simp [go_sem] at c0 c1 x0 x1 x2 x3 r0 r1 r2 z0 z1 z2
          go_wp2_with fail
          have h3i := implItem_any k p q D ys.length d w1 hmi
          rw [HIC.out] at h3i
          refine h3i.mono ?_
          rintro e wz ⟨rfl, k2⟩
          have hzz := k2.size
          have hz1 := k1.size
          simp only [World.size_alloc] at hz1
          replace c0 := (k2.cell (p := ⟨w.heap.size, 0, none⟩) (by show w.heap.size < _; omega)).trans c0
          replace c1 := (k2.cell (p := ⟨w.heap.size, 1, none⟩) (by show w.heap.size < _; omega)).trans c1
          replace x0 := (k2.cell (p := ⟨w.heap.size + 1, 0, none⟩) (by show w.heap.size + 1 < _; omega)).trans x0
          replace x1 := (k2.cell (p := ⟨w.heap.size + 1, 1, none⟩) (by show w.heap.size + 1 < _; omega)).trans x1
          replace x2 := (k2.cell (p := ⟨w.heap.size + 1, 2, none⟩) (by show w.heap.size + 1 < _; omega)).trans x2
          replace x3 := (k2.cell (p := ⟨w.heap.size + 1, 3, none⟩) (by show w.heap.size + 1 < _; omega)).trans x3
          replace r0 := (k2.cell (p := ⟨w.heap.size + 1 + 1, 0, none⟩) (by show w.heap.size + 1 + 1 < _; omega)).trans r0
          replace r1 := (k2.cell (p := ⟨w.heap.size + 1 + 1, 1, none⟩) (by show w.heap.size + 1 + 1 < _; omega)).trans r1
          replace r2 := (k2.cell (p := ⟨w.heap.size + 1 + 1, 2, none⟩) (by show w.heap.size + 1 + 1 < _; omega)).trans r2
          replace z0 := (k2.frozen (p := ⟨w.heap.size + 1 + 1, 0, none⟩) (by show w.heap.size + 1 + 1 < _; omega)).trans z0
          replace z1 := (k2.frozen (p := ⟨w.heap.size + 1 + 1, 1, none⟩) (by show w.heap.size + 1 + 1 < _; omega)).trans z1
          replace z2 := (k2.frozen (p := ⟨w.heap.size + 1 + 1, 2, none⟩) (by show w.heap.size + 1 + 1 < _; omega)).trans z2
          go_wp2_with fail
          refine (behind_any bs A n c wz (by omega) (by omega) (by omega)).mono ?_
          rintro e w5 ⟨rfl, rfl⟩
          go_wp2_with fail
          have hbb := k1.trans (k2.mono k1.size)
          clear k1 k2
          obtain ⟨q0, q1, q2⟩ := three_cells r0 r1 r2 (.int .i64 7) (.int .i64 0) (.slice none 0 0)
          have hzx := hbb.size
          simp only [World.size_alloc] at hzx
          have hw2 : Below w.heap.size w wz := (((Below.refl w.heap.size w).alloc (Nat.le_refl _) (.cells #[.int .i64 bs, .slice A n c] 26)).alloc (by simp) (.cells #[.int .i64 k, .slice D ys.length d, .int .i64 p, .int .i64 q] 28)).trans (((Below.refl ((w.alloc (.cells #[.int .i64 bs, .slice A n c] 26)).alloc (.cells #[.int .i64 k, .slice D ys.length d, .int .i64 p, .int .i64 q] 28)).heap.size ((w.alloc (.cells #[.int .i64 bs, .slice A n c] 26)).alloc (.cells #[.int .i64 k, .slice D ys.length d, .int .i64 p, .int .i64 q] 28))).alloc (Nat.le_refl _) (.cells #[.int .i64 0, .int .i64 0, .slice none 0 0] 32)).mono (by simp; omega) |>.trans (hbb.mono (by simp; omega)))
          have hB : Below w.heap.size w (((wz.setCell ⟨w.heap.size + 1 + 1, 0, none⟩ (.int .i64 7)).setCell ⟨w.heap.size + 1 + 1, 1, none⟩ (.int .i64 0)).setCell ⟨w.heap.size + 1 + 1, 2, none⟩ (.slice none 0 0)) := ((hw2.setCell (by show w.heap.size ≤ w.heap.size + 1 + 1; omega) _).setCell (by show w.heap.size ≤ w.heap.size + 1 + 1; omega) _).setCell (by show w.heap.size ≤ w.heap.size + 1 + 1; omega) _
          have HB := Lib.hid hB
          clear hbb hw2 hB
          go_wp2_with fail
          exact bodyPost_ret (v := .agg #[.int .i64 7, .int .i64 0, .slice none 0 0]) (by simp [results, Try.results12, go_sem, q0, q1, q2]) rfl ⟨none, 0, 0, rfl, Wt.empty_top _ _, Nat.le_refl _, HB.out⟩
        · have e0 : addCode bs room xs (k, ys, p, q) = 0 := by unfold addCode; rw [if_neg (by simp [hc]), if_neg (by rw [hcd, hic]; decide), if_neg (by omega), if_neg (by omega)]
          have e1 : addBase bs room xs (k, ys, p, q) = bs := by unfold addBase; rw [if_pos e0]
          have e2 : addOut bs room xs (k, ys, p, q) = xs ++ [(k, ys, p, q)] := by unfold addOut; rw [if_pos e0]
          rw [e0, e1, e2]
          clear e0 e1 e2
          have h9b : ((bs + (n : Int)) == 9000) = false := by simp; omega
          have h7b : ((n : Int) == room) = false := by simp; omega
          have HIC := Lib.hid hic
          have HI := Lib.hid hi0
          have hm8 : ys.length ≤ 8 := (cdOf_ok (x := (k, ys, p, q)) (by rw [hcd]; exact hic)).1
          obtain ⟨I0, hii, iz0, iz1, iz2⟩ := info_parts info_item
          clear hc hic hi0 hcd h hx
          go_enter Try.func12, Try.ntmps12
          go_wp2_with fail
          refine HL.out.mono ?_
          rintro e w1 ⟨rfl, k1⟩
          have h3 := h2.keep (Keep.of_below k1 0 0) (by omega)
          have hx3 := hx2.keep (Keep.of_below k1 0 0) (by omega)
          have c0 := k1.cell (p := ⟨w.heap.size, 0, none⟩) (by simp; try omega)
          have c1 := k1.cell (p := ⟨w.heap.size, 1, none⟩) (by simp; try omega)
          have x0 := k1.cell (p := ⟨w.heap.size + 1, 0, none⟩) (by simp; try omega)
          have x1 := k1.cell (p := ⟨w.heap.size + 1, 1, none⟩) (by simp; try omega)
          have x2 := k1.cell (p := ⟨w.heap.size + 1, 2, none⟩) (by simp; try omega)
          have x3 := k1.cell (p := ⟨w.heap.size + 1, 3, none⟩) (by simp; try omega)
          have r0 := k1.cell (p := ⟨w.heap.size + 1 + 1, 0, none⟩) (by simp; try omega)
          have r1 := k1.cell (p := ⟨w.heap.size + 1 + 1, 1, none⟩) (by simp; try omega)
          have r2 := k1.cell (p := ⟨w.heap.size + 1 + 1, 2, none⟩) (by simp; try omega)
          have z0 := k1.frozen (p := ⟨w.heap.size + 1 + 1, 0, none⟩) (by simp; try omega)
          have z1 := k1.frozen (p := ⟨w.heap.size + 1 + 1, 1, none⟩) (by simp; try omega)
          have z2 := k1.frozen (p := ⟨w.heap.size + 1 + 1, 2, none⟩) (by simp; try omega)
          simp [go_sem] at c0 c1 x0 x1 x2 x3 r0 r1 r2 z0 z1 z2
          go_wp2_with fail
          have h3i := implItem_any k p q D ys.length d w1 hmi
          rw [HIC.out] at h3i
          refine h3i.mono ?_
          rintro e wz ⟨rfl, k2⟩
          have hzz := k2.size
          have hz1 := k1.size
          simp only [World.size_alloc] at hz1
          replace c0 := (k2.cell (p := ⟨w.heap.size, 0, none⟩) (by show w.heap.size < _; omega)).trans c0
          replace c1 := (k2.cell (p := ⟨w.heap.size, 1, none⟩) (by show w.heap.size < _; omega)).trans c1
          replace x0 := (k2.cell (p := ⟨w.heap.size + 1, 0, none⟩) (by show w.heap.size + 1 < _; omega)).trans x0
          replace x1 := (k2.cell (p := ⟨w.heap.size + 1, 1, none⟩) (by show w.heap.size + 1 < _; omega)).trans x1
          replace x2 := (k2.cell (p := ⟨w.heap.size + 1, 2, none⟩) (by show w.heap.size + 1 < _; omega)).trans x2
          replace x3 := (k2.cell (p := ⟨w.heap.size + 1, 3, none⟩) (by show w.heap.size + 1 < _; omega)).trans x3
          replace r0 := (k2.cell (p := ⟨w.heap.size + 1 + 1, 0, none⟩) (by show w.heap.size + 1 + 1 < _; omega)).trans r0
          replace r1 := (k2.cell (p := ⟨w.heap.size + 1 + 1, 1, none⟩) (by show w.heap.size + 1 + 1 < _; omega)).trans r1
          replace r2 := (k2.cell (p := ⟨w.heap.size + 1 + 1, 2, none⟩) (by show w.heap.size + 1 + 1 < _; omega)).trans r2
          replace z0 := (k2.frozen (p := ⟨w.heap.size + 1 + 1, 0, none⟩) (by show w.heap.size + 1 + 1 < _; omega)).trans z0
          replace z1 := (k2.frozen (p := ⟨w.heap.size + 1 + 1, 1, none⟩) (by show w.heap.size + 1 + 1 < _; omega)).trans z1
          replace z2 := (k2.frozen (p := ⟨w.heap.size + 1 + 1, 2, none⟩) (by show w.heap.size + 1 + 1 < _; omega)).trans z2
          have h4 := h3.keep (Keep.of_below k2 0 0) (by omega)
          have hx4 := hx3.keep (Keep.of_below k2 0 0) (by omega)
          go_wp2_with fail
          refine (behind_any bs A n c wz (by omega) (by omega) (by omega)).mono ?_
          rintro e w5 ⟨rfl, rfl⟩
          have hev := itemsCode_each HI.out
          have hsx : ∀ x ∈ xs, x.2.1.length ≤ 4194304 := fun x hx => by have := (cdOf_ok (hev x hx)).1; omega
          have HSX := Lib.hid hsx
          have hbb := k1.trans (k2.mono k1.size)
          have hzx := hbb.size
          simp only [World.size_alloc] at hzx
          have hw2 : Below w.heap.size w wz := (((Below.refl w.heap.size w).alloc (Nat.le_refl _) (.cells #[.int .i64 bs, .slice A n c] 26)).alloc (by simp) (.cells #[.int .i64 k, .slice D ys.length d, .int .i64 p, .int .i64 q] 28)).trans (((Below.refl ((w.alloc (.cells #[.int .i64 bs, .slice A n c] 26)).alloc (.cells #[.int .i64 k, .slice D ys.length d, .int .i64 p, .int .i64 q] 28)).heap.size ((w.alloc (.cells #[.int .i64 bs, .slice A n c] 26)).alloc (.cells #[.int .i64 k, .slice D ys.length d, .int .i64 p, .int .i64 q] 28))).alloc (Nat.le_refl _) (.cells #[.int .i64 0, .int .i64 0, .slice none 0 0] 32)).mono (by simp; omega) |>.trans (hbb.mono (by simp; omega)))
          have HW2 := Lib.hid hw2
          clear hev hsx h2 hx2 h3 hx3 ka k1 k2 hbb hw2 HL
          go_upto_region 11 with fail
          go_cut [45] from 35 to 45 (fun _ wx => AddC w (w.heap.size + 1 + 1) bs (xs ++ [(k, ys, p, q)]) wx)
          case first =>
            have bD : Below wz.heap.size wz wz.drew := ⟨rfl, rfl, rfl, Nat.le_refl _, fun _ _ => rfl⟩
            have kd : Keep 0 0 wz wz.drew := ⟨rfl, rfl, rfl, Nat.le_refl _, fun _ _ _ => rfl⟩
            have h5 := h4.keep kd (by omega)
            have hx5 := hx4.keep kd (by omega)
            have hR : V3 wz.drew (w.heap.size + 1 + 1) (.int .i64 0) (.int .i64 0) (.slice none 0 0) := ⟨⟨r0, r1, r2⟩, z0, z1, z2⟩
            replace c0 : wz.drew.cell? ⟨w.heap.size, 0, none⟩ = _ := c0
            replace c1 : wz.drew.cell? ⟨w.heap.size, 1, none⟩ = _ := c1
            replace x0 : wz.drew.cell? ⟨w.heap.size + 1, 0, none⟩ = _ := x0
            replace x1 : wz.drew.cell? ⟨w.heap.size + 1, 1, none⟩ = _ := x1
            replace x2 : wz.drew.cell? ⟨w.heap.size + 1, 2, none⟩ = _ := x2
            replace x3 : wz.drew.cell? ⟨w.heap.size + 1, 3, none⟩ = _ := x3
            have zD : wz.drew.heap.size = wz.heap.size := rfl
            have hn16 : n ≤ 16 := by omega
            clear r0 r1 r2 z0 z1 z2 hl htop htop' hr hb hf hzz hz1 h9b h7b h9 h7 hmi hint
            clear h4 hx4 kd
            go_region_law (first
              | (refine step_append_lies _ (by rfl) _ _ _ (by rfl) wz.heap.size 28 I0 (.agg #[.int .i64 0, .slice none 0 0, .int .i64 0, .int .i64 0]) 4 48 Try.underlying24 hii iz0 iz1 iz2 rfl (by decide) (.slice GG n cap) n _ (by rfl) (own0.alloc _) ⟨v2.heap.size, 0, none⟩ 1 1 (cell4 ((k, ys, p, q), GB, cb, v1.heap.size, v2.heap.size)) (by rfl) (by rfl) (World.news_of_block (cs := #[.int .i64 k, .slice GB ys.length cb, .int .i64 p, .int .i64 q]) (t := 28) (fr := (0, 0)) (heap_alloc_new v2 _)) (by simp [Value.oneCell', cell4]) (by omega) hml hmb (by simp; omega) (v2.heap.size + 1) (by simp) ?_; intro g1 cap1 W1 own1 hgrow hat hgl; have hgo : ∀ g, Value.ownBlock (.slice GG n cap) = some g → wz.heap.size ≤ g := (fun g e => (own0.lt g e).1); replace c0 := (far_row' hgrow (p := ⟨w.heap.size, 0, none⟩) (by show w.heap.size < _; omega) (fun e => by have h9 : wz.heap.size ≤ w.heap.size := hgo _ e; omega)).1.trans c0; have hR9 := hR.far hgrow (by omega) (fun e => by have := hgo _ e; omega); obtain ⟨⟨r0, r1, r2⟩, z0, z1, z2⟩ := hR9; clear c0a; have hY1 := hY.push_any (by omega) hb2 hw hgz own1 hgrow hat; have hO1 : OwnT W1 wz.heap.size (some ⟨g1, 0, none⟩) (n + 1) cap1 (xs ++ [(k, ys, p, q)]) := ⟨_, (by rw [List.map_append, hzs]; rfl), hY1⟩; have hB1 : Below w.heap.size w W1 := Below.of_grown (hB1b.alloc (by omega) _) hgrow (by simp; omega) (fun q e => by have := hgo q e; omega); obtain ⟨q0, q1, q2⟩ := three_cells r0 r1 r2 (.int .i64 0) (.int .i64 bs) (.slice (some ⟨g1, 0, none⟩) (n + 1) cap1); have HAD := Lib.hid (add_doneC (bs := bs) (S := w.heap.size + 1 + 1) hO1 hB1 (by omega) (by omega)); clear hY hYa own0 own1 hgrow hat hw hb2 hY1 hO1 hB1 hB1b hB1a hgo)
              | (go_simp; go_at_call 51; refine (copyItems_any A n c hi xs _ h5 (by omega) HSX.out).mono ?_; rintro e v1 ⟨GG, cap, rfl, hO, hb1⟩; have hz1v : wz.heap.size ≤ v1.heap.size := hb1.size; have hzlt : w.heap.size + 1 + 1 < wz.drew.heap.size := (by show _ < wz.heap.size; omega); replace c0 := (hb1.cell (p := ⟨w.heap.size, 0, none⟩) (by show w.heap.size < _; omega)).trans c0; replace x0 := (hb1.cell (p := ⟨w.heap.size + 1, 0, none⟩) (by show w.heap.size + 1 < _; omega)).trans x0; replace x1 := (hb1.cell (p := ⟨w.heap.size + 1, 1, none⟩) (by show w.heap.size + 1 < _; omega)).trans x1; replace x2 := (hb1.cell (p := ⟨w.heap.size + 1, 2, none⟩) (by show w.heap.size + 1 < _; omega)).trans x2; replace x3 := (hb1.cell (p := ⟨w.heap.size + 1, 3, none⟩) (by show w.heap.size + 1 < _; omega)).trans x3; clear c1; replace hR := hR.below hb1 hzlt; have hx6 := hx5.keep (Keep.of_below hb1 0 0) (by omega); replace hO : OwnT v1 wz.heap.size GG n cap xs := hO; have hB1a : Below w.heap.size w v1 := HW2.out.trans ((bD.mono (by omega)).trans (hb1.mono (by show _ ≤ wz.heap.size; omega))); clear hb1 h5 hx5)
              | (go_simp; go_at_call 52; refine (copyItem_any k p q D ys.length d hi' ys v1 hx6 gz (by omega)).mono ?_; rintro e v2 ⟨GB, cb, rfl, hgz, hw, hb2⟩; have hz2v := hb2.size; obtain ⟨zs, hzs, hY⟩ := hO; have hYa := hY.below hb2; have own0 := hYa.1; have hml : n + 1 ≤ maxLen := (by unfold maxLen; omega); have hmb : (n + 1) * 48 ≤ 140737488355328 := (by omega); replace c0 := (hb2.cell (p := ⟨w.heap.size, 0, none⟩) (by show w.heap.size < _; omega)).trans c0; clear x0 x1 x2 x3 hx6; replace hR := hR.below hb2 (by omega); have hB1b := hB1a.trans (hb2.mono (by omega)); have c0a := (((Keep.refl 0 0 v2).alloc (.cells #[.int .i64 k, .slice GB ys.length cb, .int .i64 p, .int .i64 q] 28)).cell (p := ⟨w.heap.size, 0, none⟩) (by show w.heap.size < _; omega) (by show w.heap.size < 0 ∨ 0 ≤ w.heap.size; omega)).trans c0))
            all_goals
              go_wp2_with fail
              go_meet
              case rel => exact ⟨_, _, _, ⟨q0, q1, q2⟩, HAD.out⟩
          case rest =>
          obtain ⟨g1, n1, cap1, ⟨q0, q1, q2⟩, HAD⟩ := hcut
          have HAD2 := Lib.hid HAD
          clear HAD
          go_wp2_with fail
          exact bodyPost_ret (v := .agg #[.int .i64 0, .int .i64 bs, .slice (some ⟨g1, 0, none⟩) n1 cap1]) (by simp [results, Try.results12, go_sem, q0, q1, q2]) rfl HAD2.out
    · have e0 : addCode bs room xs (k, ys, p, q) = itemCode k ys.length p q := by unfold addCode; rw [if_neg (by simp [hc]), if_pos (by rw [hcd]; exact hic), hcd]
      have e1 : addBase bs room xs (k, ys, p, q) = 0 := by unfold addBase; rw [if_neg (by rw [e0]; exact hic)]
      have e2 : addOut bs room xs (k, ys, p, q) = [] := by unfold addOut; rw [if_neg (by rw [e0]; exact hic)]
      rw [e0, e1, e2]
      clear e0 e1 e2
      generalize hicc : itemCode k ys.length p q = ic at *
      have HIC := Lib.hid hicc
      have hcb : (ic != 0) = true := by simp [hic]
      clear hc hicc hi0 hcd h hx h2 hx2 ka gz
      go_enter Try.func12, Try.ntmps12
      go_wp2_with fail
      refine HL.out.mono ?_
      rintro e w1 ⟨rfl, k1⟩
      have c0 := k1.cell (p := ⟨w.heap.size, 0, none⟩) (by simp; try omega)
      have c1 := k1.cell (p := ⟨w.heap.size, 1, none⟩) (by simp; try omega)
      have x0 := k1.cell (p := ⟨w.heap.size + 1, 0, none⟩) (by simp; try omega)
      have x1 := k1.cell (p := ⟨w.heap.size + 1, 1, none⟩) (by simp; try omega)
      have x2 := k1.cell (p := ⟨w.heap.size + 1, 2, none⟩) (by simp; try omega)
      have x3 := k1.cell (p := ⟨w.heap.size + 1, 3, none⟩) (by simp; try omega)
      have r0 := k1.cell (p := ⟨w.heap.size + 1 + 1, 0, none⟩) (by simp; try omega)
      have r1 := k1.cell (p := ⟨w.heap.size + 1 + 1, 1, none⟩) (by simp; try omega)
      have r2 := k1.cell (p := ⟨w.heap.size + 1 + 1, 2, none⟩) (by simp; try omega)
      have z0 := k1.frozen (p := ⟨w.heap.size + 1 + 1, 0, none⟩) (by simp; try omega)
      have z1 := k1.frozen (p := ⟨w.heap.size + 1 + 1, 1, none⟩) (by simp; try omega)
      have z2 := k1.frozen (p := ⟨w.heap.size + 1 + 1, 2, none⟩) (by simp; try omega)
      simp [go_sem] at c0 c1 x0 x1 x2 x3 r0 r1 r2 z0 z1 z2
      go_wp2_with fail
      have h3i := implItem_any k p q D ys.length d w1 hmi
      rw [HIC.out] at h3i
      refine h3i.mono ?_
      rintro e wz ⟨rfl, k2⟩
      have hzz := k2.size
      have hz1 := k1.size
      simp only [World.size_alloc] at hz1
      replace c0 := (k2.cell (p := ⟨w.heap.size, 0, none⟩) (by show w.heap.size < _; omega)).trans c0
      replace c1 := (k2.cell (p := ⟨w.heap.size, 1, none⟩) (by show w.heap.size < _; omega)).trans c1
      replace x0 := (k2.cell (p := ⟨w.heap.size + 1, 0, none⟩) (by show w.heap.size + 1 < _; omega)).trans x0
      replace x1 := (k2.cell (p := ⟨w.heap.size + 1, 1, none⟩) (by show w.heap.size + 1 < _; omega)).trans x1
      replace x2 := (k2.cell (p := ⟨w.heap.size + 1, 2, none⟩) (by show w.heap.size + 1 < _; omega)).trans x2
      replace x3 := (k2.cell (p := ⟨w.heap.size + 1, 3, none⟩) (by show w.heap.size + 1 < _; omega)).trans x3
      replace r0 := (k2.cell (p := ⟨w.heap.size + 1 + 1, 0, none⟩) (by show w.heap.size + 1 + 1 < _; omega)).trans r0
      replace r1 := (k2.cell (p := ⟨w.heap.size + 1 + 1, 1, none⟩) (by show w.heap.size + 1 + 1 < _; omega)).trans r1
      replace r2 := (k2.cell (p := ⟨w.heap.size + 1 + 1, 2, none⟩) (by show w.heap.size + 1 + 1 < _; omega)).trans r2
      replace z0 := (k2.frozen (p := ⟨w.heap.size + 1 + 1, 0, none⟩) (by show w.heap.size + 1 + 1 < _; omega)).trans z0
      replace z1 := (k2.frozen (p := ⟨w.heap.size + 1 + 1, 1, none⟩) (by show w.heap.size + 1 + 1 < _; omega)).trans z1
      replace z2 := (k2.frozen (p := ⟨w.heap.size + 1 + 1, 2, none⟩) (by show w.heap.size + 1 + 1 < _; omega)).trans z2
      have hbb := k1.trans (k2.mono k1.size)
      clear k1 k2
      obtain ⟨q0, q1, q2⟩ := three_cells r0 r1 r2 (.int .i64 ic) (.int .i64 0) (.slice none 0 0)
      have hzx := hbb.size
      simp only [World.size_alloc] at hzx
      have hw2 : Below w.heap.size w wz := (((Below.refl w.heap.size w).alloc (Nat.le_refl _) (.cells #[.int .i64 bs, .slice A n c] 26)).alloc (by simp) (.cells #[.int .i64 k, .slice D ys.length d, .int .i64 p, .int .i64 q] 28)).trans (((Below.refl ((w.alloc (.cells #[.int .i64 bs, .slice A n c] 26)).alloc (.cells #[.int .i64 k, .slice D ys.length d, .int .i64 p, .int .i64 q] 28)).heap.size ((w.alloc (.cells #[.int .i64 bs, .slice A n c] 26)).alloc (.cells #[.int .i64 k, .slice D ys.length d, .int .i64 p, .int .i64 q] 28))).alloc (Nat.le_refl _) (.cells #[.int .i64 0, .int .i64 0, .slice none 0 0] 32)).mono (by simp; omega) |>.trans (hbb.mono (by simp; omega)))
      have hB : Below w.heap.size w (((wz.setCell ⟨w.heap.size + 1 + 1, 0, none⟩ (.int .i64 ic)).setCell ⟨w.heap.size + 1 + 1, 1, none⟩ (.int .i64 0)).setCell ⟨w.heap.size + 1 + 1, 2, none⟩ (.slice none 0 0)) := ((hw2.setCell (by show w.heap.size ≤ w.heap.size + 1 + 1; omega) _).setCell (by show w.heap.size ≤ w.heap.size + 1 + 1; omega) _).setCell (by show w.heap.size ≤ w.heap.size + 1 + 1; omega) _
      have HB := Lib.hid hB
      clear hbb hw2 hB
      go_wp2_with fail
      exact bodyPost_ret (v := .agg #[.int .i64 ic, .int .i64 0, .slice none 0 0]) (by simp [results, Try.results12, go_sem, q0, q1, q2]) rfl ⟨none, 0, 0, rfl, Wt.empty_top _ _, Nat.le_refl _, HB.out⟩
  · have e0 : addCode bs room xs (k, ys, p, q) = logCode bs room xs := by unfold addCode; rw [if_pos hc]
    have e1 : addBase bs room xs (k, ys, p, q) = 0 := by unfold addBase; rw [if_neg (by rw [e0]; exact hc)]
    have e2 : addOut bs room xs (k, ys, p, q) = [] := by unfold addOut; rw [if_neg (by rw [e0]; exact hc)]
    rw [e0, e1, e2]
    clear e0 e1 e2
    generalize logCode bs room xs = lc at *
    have hcb : (lc != 0) = true := by simp [hc]
    clear h hx h2 hx2 ka gz hcd
    go_enter Try.func12, Try.ntmps12
    go_wp2_with fail
    refine HL.out.mono ?_
    rintro e wz ⟨rfl, k1⟩
    have c0 := k1.cell (p := ⟨w.heap.size, 0, none⟩) (by simp; try omega)
    have c1 := k1.cell (p := ⟨w.heap.size, 1, none⟩) (by simp; try omega)
    have x0 := k1.cell (p := ⟨w.heap.size + 1, 0, none⟩) (by simp; try omega)
    have x1 := k1.cell (p := ⟨w.heap.size + 1, 1, none⟩) (by simp; try omega)
    have x2 := k1.cell (p := ⟨w.heap.size + 1, 2, none⟩) (by simp; try omega)
    have x3 := k1.cell (p := ⟨w.heap.size + 1, 3, none⟩) (by simp; try omega)
    have r0 := k1.cell (p := ⟨w.heap.size + 1 + 1, 0, none⟩) (by simp; try omega)
    have r1 := k1.cell (p := ⟨w.heap.size + 1 + 1, 1, none⟩) (by simp; try omega)
    have r2 := k1.cell (p := ⟨w.heap.size + 1 + 1, 2, none⟩) (by simp; try omega)
    have z0 := k1.frozen (p := ⟨w.heap.size + 1 + 1, 0, none⟩) (by simp; try omega)
    have z1 := k1.frozen (p := ⟨w.heap.size + 1 + 1, 1, none⟩) (by simp; try omega)
    have z2 := k1.frozen (p := ⟨w.heap.size + 1 + 1, 2, none⟩) (by simp; try omega)
    simp [go_sem] at c0 c1 x0 x1 x2 x3 r0 r1 r2 z0 z1 z2
    have hbb := k1
    clear k1
    obtain ⟨q0, q1, q2⟩ := three_cells r0 r1 r2 (.int .i64 lc) (.int .i64 0) (.slice none 0 0)
    have hzx := hbb.size
    simp only [World.size_alloc] at hzx
    have hw2 : Below w.heap.size w wz := (((Below.refl w.heap.size w).alloc (Nat.le_refl _) (.cells #[.int .i64 bs, .slice A n c] 26)).alloc (by simp) (.cells #[.int .i64 k, .slice D ys.length d, .int .i64 p, .int .i64 q] 28)).trans (((Below.refl ((w.alloc (.cells #[.int .i64 bs, .slice A n c] 26)).alloc (.cells #[.int .i64 k, .slice D ys.length d, .int .i64 p, .int .i64 q] 28)).heap.size ((w.alloc (.cells #[.int .i64 bs, .slice A n c] 26)).alloc (.cells #[.int .i64 k, .slice D ys.length d, .int .i64 p, .int .i64 q] 28))).alloc (Nat.le_refl _) (.cells #[.int .i64 0, .int .i64 0, .slice none 0 0] 32)).mono (by simp; omega) |>.trans (hbb.mono (by simp; omega)))
    have hB : Below w.heap.size w (((wz.setCell ⟨w.heap.size + 1 + 1, 0, none⟩ (.int .i64 lc)).setCell ⟨w.heap.size + 1 + 1, 1, none⟩ (.int .i64 0)).setCell ⟨w.heap.size + 1 + 1, 2, none⟩ (.slice none 0 0)) := ((hw2.setCell (by show w.heap.size ≤ w.heap.size + 1 + 1; omega) _).setCell (by show w.heap.size ≤ w.heap.size + 1 + 1; omega) _).setCell (by show w.heap.size ≤ w.heap.size + 1 + 1; omega) _
    have HB := Lib.hid hB
    clear hbb hw2 hB
    go_wp2_with fail
    exact bodyPost_ret (v := .agg #[.int .i64 lc, .int .i64 0, .slice none 0 0]) (by simp [results, Try.results12, go_sem, q0, q1, q2]) rfl ⟨none, 0, 0, rfl, Wt.empty_top _ _, Nat.le_refl _, HB.out⟩

theorem implAdd_any (bs room k p q : Int) (A D : Option Addr) (n c m d hi hi' : Nat) (xs : List Itm) (ys : List Int) (w : World) (h : Rt w 0 hi A n xs) (hx : Rd w 0 hi' D m ys) (gz : D = none → d = 0) (hbs : -9223372036854775808 ≤ bs ∧ bs ≤ 9223372036854775807) :
    Calls Try.prog 12 #[.agg #[.int .i64 bs, .slice A n c], .int .i64 room, .agg #[.int .i64 k, .slice D m d, .int .i64 p, .int .i64 q]] w (LogPost w (addCode bs room xs (k, ys, p, q)) (addBase bs room xs (k, ys, p, q)) (addOut bs room xs (k, ys, p, q))) :=
  (implAdd_c bs room k p q A D n c m d hi hi' xs ys w h hx gz hbs).mono fun _ _ h => h.less
end Go.Proofs.Ytlgpbnngepkkmaa
