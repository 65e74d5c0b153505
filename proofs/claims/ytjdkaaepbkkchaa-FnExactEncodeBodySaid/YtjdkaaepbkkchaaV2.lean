/-
  impl.LogFault.
-/
import Derived.Test.YtjdkaaepbkkchaaV1
import Derived.Test.YtjdkaaepbkkchaaT12
namespace Go.Proofs.Ytjdkaaepbkkchaa
open Go.RowKit
set_option linter.unusedVariables false
set_option maxRecDepth 100000

set_option maxHeartbeats 1000000 in
theorem itemsFault_any (A : Option Addr) (n c hi : Nat) (xs : List Itm) (w : World) (h : Rt w 0 hi A n xs) :
    Calls Try.prog 45 #[.slice A n c] w fun e w' => e = .returned (.int .i64 (itemsCode xs)) ∧ Below w.heap.size w w' := by
  have hint := h.int
  have hl := h.len
  have htop := h.top
  go_enter Try.func45, Try.ntmps45
  go_wp2_with fail
  go_loopw [8, 4, 5] (fun i _ _ wr => ∃ k : Nat, k ≤ n ∧ i = .int .i64 (k : Int) ∧ (∀ j, j < k → cdOf (xs.getD j it0) = 0) ∧ Below w.heap.size w wr) (fun i _ _ _ => n - (intOf i).toNat)
  case atStart => exact ⟨0, Nat.zero_le _, rfl, fun j hj => by omega, Below.refl _ _⟩
  case round =>
    obtain ⟨k, hk, rfl, hz, hke⟩ := hrel
    have hzz := hke.size
    by_cases hlt : k < n
    · obtain ⟨b, off, rfl, h1, h2, hc⟩ := h.at_ (by omega)
      obtain ⟨a0, ⟨G, cg, a1, rg, _⟩, a2, a3⟩ := (hc k hlt).keep (Keep.of_below hke 0 0) h2 (Nat.zero_le _) htop (by omega)
      have i0 : (0 : Int) ≤ (k : Int) := by omega
      have i1 : (k : Int) < (n : Int) := by omega
      have hf := itemsCode_first xs k (by omega) hz
      have hstep : cdOf (xs.getD k it0) = 0 → ∀ j, j < k + 1 → cdOf (xs.getD j it0) = 0 := fun e j hj => by
        by_cases ej : j = k
        · rw [ej]; exact e
        · exact hz j (by omega)
      generalize xs.getD k it0 = x at *
      obtain ⟨xk, xb, xp, xq⟩ := x
      simp only at a0 a1 a2 a3 rg
      have hxl := rg.int
      have hcd : cdOf (xk, xb, xp, xq) = itemCode xk xb.length xp xq := rfl
      rw [hcd] at hf hstep
      generalize hic : itemCode xk xb.length xp xq = ic at *
      have HI := Lib.hid hic
      have HF := Lib.hid hf
      have HS := Lib.hid hstep
      clear hic hf hstep hcd hz hc rg h
      go_wp2_with fail
      refine (implItem_any xk xp xq G xb.length cg _ hxl).mono ?_
      rintro e w1 ⟨rfl, k1⟩
      have hb1 : Below w.heap.size w w1 := by
        refine Below.trans ?_ (k1.mono (by first | omega | (simp; omega) | simp))
        repeat first
          | exact hke
          | refine Below.setCell ?_ (by first | omega | (simp; omega) | simp) _
          | refine Below.alloc ?_ (by first | omega | (simp; omega) | simp) _
      have HB := Lib.hid hb1
      clear hb1 k1 hke
      rw [HI.out]
      by_cases hic : ic = 0
      · have HS2 := Lib.hid (HS.out hic)
        subst hic
        go_wp2_with fail
        go_roundw
        case rel => exact ⟨k + 1, by omega, by go_num, HS2.out, HB.out⟩
        case measure => simp [intOf]; omega
      · have HR := Lib.hid (ret_int (HF.out hic).symm)
        have hib : (ic != 0) = true := by simp [hic]
        go_wp2_with fail
        go_ret
        exact ⟨HR.out, HB.out⟩
    · have HR := Lib.hid (ret_int (itemsCode_none xs (fun j hj => hz j (by omega))).symm)
      go_wp2_with fail
      go_ret
      exact ⟨HR.out, hke⟩

theorem behind_any (bs : Int) (A : Option Addr) (n c : Nat) (w : World) (h0 : 0 ≤ bs) (h1 : bs ≤ 1000000) (hn : n ≤ 1000000) :
    Calls Try.prog 46 #[.int .i64 bs, .slice A n c] w fun e w' => e = .returned (.int .i64 (bs + (n : Int))) ∧ w = w' := by
  go_enter Try.func46, Try.ntmps46
  go_wp2_with fail
  go_ret
  exact ⟨rfl, rfl⟩

set_option maxHeartbeats 2000000 in
theorem implLogFault_any (bs room : Int) (A : Option Addr) (n c hi : Nat) (xs : List Itm) (w : World) (h : Rt w 0 hi A n xs) :
    Calls Try.prog 29 #[.agg #[.int .i64 bs, .slice A n c], .int .i64 room] w fun e w' => e = .returned (.int .i64 (logCode bs room xs)) ∧ Below w.heap.size w w' := by
  have hint := h.int
  have hl := h.len
  have htop := h.top
  have hke : Below w.heap.size w w := Below.refl _ _
  obtain ⟨r, hr⟩ : ∃ r, decide ((room < 1 ∨ 16 < room) ∨ (bs < 0 ∨ 9000 < bs)) = r := ⟨_, rfl⟩
  have HR := Lib.hid hr
  by_cases hq : (room < 1 ∨ 16 < room) ∨ (bs < 0 ∨ 9000 < bs)
  · obtain rfl : true = r := by rw [← hr]; simp [hq]
    have HV := Lib.hid (ret_int (show (3 : Int) = logCode bs room xs from by unfold logCode; rw [if_pos (by omega)]))
    clear hr hq
    go_enter Try.func29, Try.ntmps29
    go_wp2_with fail
    refine (outside2 (w.heap.size + 1) 2 room 1 16 bs 0 9000 _ _ ?_ ?_ ?_ ?_ ?_ ?_ ?_ HR.out).mono ?_
    · simp
    · go_simp
    · go_simp
    · go_simp
    · go_simp
    · go_simp
    · go_simp
    rintro e w2 ⟨rfl, hb2⟩
    have HB2 := Lib.hid hb2
    have hbx : Below w.heap.size w w2 := by
      refine Below.trans ?_ (hb2.mono (by first | omega | (simp; omega) | simp))
      repeat first
        | exact hke
        | refine Below.setCell ?_ (by first | omega | (simp; omega) | simp) _
        | refine Below.alloc ?_ (by first | omega | (simp; omega) | simp) _
    have HB := Lib.hid hbx
    clear hb2 hbx
    go_wp2_with fail
    go_ret
    exact ⟨HV.out, HB.out⟩
  · obtain rfl : false = r := by rw [← hr]; simp [hq]
    have hrr : 1 ≤ room ∧ room ≤ 16 := by omega
    have hbb : 0 ≤ bs ∧ bs ≤ 9000 := by omega
    clear hr
    by_cases hm : room < (n : Int)
    · have HV := Lib.hid (ret_int (show (2 : Int) = logCode bs room xs from by unfold logCode; rw [if_neg (by omega), if_pos (by omega)]))
      clear hq
      go_enter Try.func29, Try.ntmps29
      go_wp2_with fail
      refine (outside2 (w.heap.size + 1) 2 room 1 16 bs 0 9000 _ _ ?_ ?_ ?_ ?_ ?_ ?_ ?_ HR.out).mono ?_
      · simp
      · go_simp
      · go_simp
      · go_simp
      · go_simp
      · go_simp
      · go_simp
      rintro e w2 ⟨rfl, hb2⟩
      have HB2 := Lib.hid hb2
      have hbx : Below w.heap.size w w2 := by
        refine Below.trans ?_ (hb2.mono (by first | omega | (simp; omega) | simp))
        repeat first
          | exact hke
          | refine Below.setCell ?_ (by first | omega | (simp; omega) | simp) _
          | refine Below.alloc ?_ (by first | omega | (simp; omega) | simp) _
      have HB := Lib.hid hbx
      clear hb2 hbx
      have c0 := HB2.out.cell (p := ⟨w.heap.size, 0, none⟩) (by simp; omega)
      have c1 := HB2.out.cell (p := ⟨w.heap.size, 1, none⟩) (by simp; omega)
      simp [go_sem] at c0 c1
      go_wp2_with fail
      go_ret
      exact ⟨HV.out, HB.out⟩
    · by_cases hc : itemsCode xs = 0
      · by_cases hf : 9000 < bs + (n : Int)
        · have HV := Lib.hid (ret_int (show (7 : Int) = logCode bs room xs from by unfold logCode; rw [if_neg (by omega), if_neg (by omega), if_neg (by simp [hc]), if_pos (by omega)]))
          clear hq
          go_enter Try.func29, Try.ntmps29
          go_wp2_with fail
          refine (outside2 (w.heap.size + 1) 2 room 1 16 bs 0 9000 _ _ ?_ ?_ ?_ ?_ ?_ ?_ ?_ HR.out).mono ?_
          · simp
          · go_simp
          · go_simp
          · go_simp
          · go_simp
          · go_simp
          · go_simp
          rintro e w2 ⟨rfl, hb2⟩
          have HB2 := Lib.hid hb2
          have hbx : Below w.heap.size w w2 := by
            refine Below.trans ?_ (hb2.mono (by first | omega | (simp; omega) | simp))
            repeat first
              | exact hke
              | refine Below.setCell ?_ (by first | omega | (simp; omega) | simp) _
              | refine Below.alloc ?_ (by first | omega | (simp; omega) | simp) _
          have HB := Lib.hid hbx
          clear hb2 hbx
          have c0 := HB2.out.cell (p := ⟨w.heap.size, 0, none⟩) (by simp; omega)
          have c1 := HB2.out.cell (p := ⟨w.heap.size, 1, none⟩) (by simp; omega)
          simp [go_sem] at c0 c1
          have h3 := h.keep (Keep.of_below HB.out 0 0) (by omega)
          have HI := Lib.hid (itemsFault_any A n c hi xs _ h3)
          rw [hc] at HI
          go_wp2_with fail
          refine HI.out.mono ?_
          rintro e w3 ⟨rfl, k3⟩
          have hlt0 : w.heap.size < w2.heap.size := World.block_lt_of_cell? w2 _ c0
          have d0 := (k3.cell (p := ⟨w.heap.size, 0, none⟩) hlt0).trans c0
          have d1 := (k3.cell (p := ⟨w.heap.size, 1, none⟩) hlt0).trans c1
          have HB3 := Lib.hid (HB.out.trans (k3.mono HB.out.size))
          clear k3 c0 c1
          go_wp2_with fail
          refine (behind_any bs A n c w3 (by omega) (by omega) (by omega)).mono ?_
          rintro e w4 ⟨rfl, rfl⟩
          go_wp2_with fail
          go_ret
          exact ⟨HV.out, HB3.out⟩
        · have HV := Lib.hid (ret_int (show (0 : Int) = logCode bs room xs from by unfold logCode; rw [if_neg (by omega), if_neg (by omega), if_neg (by simp [hc]), if_neg (by omega)]))
          clear hq
          go_enter Try.func29, Try.ntmps29
          go_wp2_with fail
          refine (outside2 (w.heap.size + 1) 2 room 1 16 bs 0 9000 _ _ ?_ ?_ ?_ ?_ ?_ ?_ ?_ HR.out).mono ?_
          · simp
          · go_simp
          · go_simp
          · go_simp
          · go_simp
          · go_simp
          · go_simp
          rintro e w2 ⟨rfl, hb2⟩
          have HB2 := Lib.hid hb2
          have hbx : Below w.heap.size w w2 := by
            refine Below.trans ?_ (hb2.mono (by first | omega | (simp; omega) | simp))
            repeat first
              | exact hke
              | refine Below.setCell ?_ (by first | omega | (simp; omega) | simp) _
              | refine Below.alloc ?_ (by first | omega | (simp; omega) | simp) _
          have HB := Lib.hid hbx
          clear hb2 hbx
          have c0 := HB2.out.cell (p := ⟨w.heap.size, 0, none⟩) (by simp; omega)
          have c1 := HB2.out.cell (p := ⟨w.heap.size, 1, none⟩) (by simp; omega)
          simp [go_sem] at c0 c1
          have h3 := h.keep (Keep.of_below HB.out 0 0) (by omega)
          have HI := Lib.hid (itemsFault_any A n c hi xs _ h3)
          rw [hc] at HI
          go_wp2_with fail
          refine HI.out.mono ?_
          rintro e w3 ⟨rfl, k3⟩
          have hlt0 : w.heap.size < w2.heap.size := World.block_lt_of_cell? w2 _ c0
          have d0 := (k3.cell (p := ⟨w.heap.size, 0, none⟩) hlt0).trans c0
          have d1 := (k3.cell (p := ⟨w.heap.size, 1, none⟩) hlt0).trans c1
          have HB3 := Lib.hid (HB.out.trans (k3.mono HB.out.size))
          clear k3 c0 c1
          go_wp2_with fail
          refine (behind_any bs A n c w3 (by omega) (by omega) (by omega)).mono ?_
          rintro e w4 ⟨rfl, rfl⟩
          go_wp2_with fail
          go_ret
          exact ⟨HV.out, HB3.out⟩
      · have HV := Lib.hid (ret_int (show itemsCode xs = logCode bs room xs from by unfold logCode; rw [if_neg (by omega), if_neg (by omega), if_pos hc]))
        clear hq
        generalize hic : itemsCode xs = ic at *
        have HIC := Lib.hid hic
        have hcb : (ic != 0) = true := by simp [hc]
        clear hic
        go_enter Try.func29, Try.ntmps29
        go_wp2_with fail
        refine (outside2 (w.heap.size + 1) 2 room 1 16 bs 0 9000 _ _ ?_ ?_ ?_ ?_ ?_ ?_ ?_ HR.out).mono ?_
        · simp
        · go_simp
        · go_simp
        · go_simp
        · go_simp
        · go_simp
        · go_simp
        rintro e w2 ⟨rfl, hb2⟩
        have HB2 := Lib.hid hb2
        have hbx : Below w.heap.size w w2 := by
          refine Below.trans ?_ (hb2.mono (by first | omega | (simp; omega) | simp))
          repeat first
            | exact hke
            | refine Below.setCell ?_ (by first | omega | (simp; omega) | simp) _
            | refine Below.alloc ?_ (by first | omega | (simp; omega) | simp) _
        have HB := Lib.hid hbx
        clear hb2 hbx
        have c0 := HB2.out.cell (p := ⟨w.heap.size, 0, none⟩) (by simp; omega)
        have c1 := HB2.out.cell (p := ⟨w.heap.size, 1, none⟩) (by simp; omega)
        simp [go_sem] at c0 c1
        have h3 := h.keep (Keep.of_below HB.out 0 0) (by omega)
        go_wp2_with fail
        refine (itemsFault_any A n c hi xs _ h3).mono ?_
        rintro e w3 ⟨rfl, k3⟩
        rw [HIC.out]
        have HB3 := Lib.hid (HB.out.trans (k3.mono HB.out.size))
        clear k3
        go_wp2_with fail
        go_ret
        exact ⟨HV.out, HB3.out⟩
end Go.Proofs.Ytjdkaaepbkkchaa
