/-
  V1, V2, V4, Ta, in one text.
-/
import Derived.Test.YtjdkaaepbkkchaaDoorT1
import Derived.Test.YtjdkaaepbkkchaaDoorOut
import Derived.Test.YtjdkaaepbkkchaaDoorO2
import Derived.Test.YtjdkaaepbkkchaaDoorZ1
import Derived.Test.YtjdkaaepbkkchaaDoorVc
namespace Go.Proofs.YtjdkaaepbkkchaaDoor
open Go.RowKit
set_option linter.unusedVariables false
set_option maxRecDepth 100000

theorem assKey (v : Value) (w : World) : (Instr.typeAssert (.iface 123 v) 120 123 true).run Tryd.prog w = .ok (.tuple #[v, .bool true]) w := by kernel_rfl
theorem assSize (v : Value) (w : World) : (Instr.typeAssert (.iface 125 v) 120 125 true).run Tryd.prog w = .ok (.tuple #[v, .bool true]) w := by kernel_rfl
theorem assKeyS (v : Value) (w : World) : (Instr.typeAssert (.iface 125 v) 120 123 true).run Tryd.prog w = .ok (.tuple #[.agg #[.slice none 0 0], .bool false]) w := by kernel_rfl
theorem assKeyN (w : World) : (Instr.typeAssert .nilIface 120 123 true).run Tryd.prog w = .ok (.tuple #[.agg #[.slice none 0 0], .bool false]) w := by kernel_rfl
theorem assSizeN (w : World) : (Instr.typeAssert .nilIface 120 125 true).run Tryd.prog w = .ok (.tuple #[.agg #[.int .i64 0, .int .i64 0], .bool false]) w := by kernel_rfl

set_option maxHeartbeats 1000000 in
theorem typedOf_key (A : Option Addr) (n c : Nat) (w : World) :
    Calls Tryd.prog 92 #[.agg #[.int .i64 1, .slice A n c, .int .i64 0, .int .i64 0]] w fun e w' => e = .returned (.iface 123 (.agg #[.slice A n c])) ∧ Keep 0 0 w w' := by
  have KA := Lib.hid ((Keep.refl 0 0 w).alloc (.cells #[.int .i64 1, .slice A n c, .int .i64 0, .int .i64 0] 55))
  go_enter Tryd.func92, Tryd.ntmps92
  go_wp2_with fail
  go_ret
  exact ⟨rfl, KA.out⟩
set_option maxHeartbeats 1000000 in
theorem typedOf_size (p q : Int) (A : Option Addr) (c : Nat) (w : World) :
    Calls Tryd.prog 92 #[.agg #[.int .i64 2, .slice A 0 c, .int .i64 p, .int .i64 q]] w fun e w' => e = .returned (.iface 125 (.agg #[.int .i64 p, .int .i64 q])) ∧ Keep 0 0 w w' := by
  have KA := Lib.hid ((Keep.refl 0 0 w).alloc (.cells #[.int .i64 2, .slice A 0 c, .int .i64 p, .int .i64 q] 55))
  go_enter Tryd.func92, Tryd.ntmps92
  go_wp2_with fail
  go_ret
  exact ⟨rfl, KA.out⟩
set_option maxHeartbeats 1000000 in
theorem typedOf_none (k p q : Int) (A : Option Addr) (n c : Nat) (w : World) (hn : n ≤ 9223372036854775807) (h1 : ¬ (k = 1 ∧ p = 0 ∧ q = 0)) (h2 : ¬ (k = 2 ∧ n = 0)) :
    Calls Tryd.prog 92 #[.agg #[.int .i64 k, .slice A n c, .int .i64 p, .int .i64 q]] w fun e w' => e = .returned .nilIface ∧ Keep 0 0 w w' := by
  have KA := Lib.hid ((Keep.refl 0 0 w).alloc (.cells #[.int .i64 k, .slice A n c, .int .i64 p, .int .i64 q] 55))
  by_cases k1 : k = 1
  · have k2b : (k == 2) = false := by simp; omega
    by_cases p0 : p = 0
    · have q0b : (q == 0) = false := by simp; omega
      subst k1 p0
      go_enter Tryd.func92, Tryd.ntmps92
      go_wp2_with fail
      go_ret
      exact ⟨rfl, KA.out⟩
    · have p0b : (p == 0) = false := by simp [p0]
      subst k1
      go_enter Tryd.func92, Tryd.ntmps92
      go_wp2_with fail
      go_ret
      exact ⟨rfl, KA.out⟩
  · have k1b : (k == 1) = false := by simp [k1]
    by_cases k2 : k = 2
    · have n0b : ((n : Int) == 0) = false := by simp; omega
      subst k2
      go_enter Tryd.func92, Tryd.ntmps92
      go_wp2_with fail
      go_ret
      exact ⟨rfl, KA.out⟩
    · have k2b : (k == 2) = false := by simp [k2]
      go_enter Tryd.func92, Tryd.ntmps92
      go_wp2_with fail
      go_ret
      exact ⟨rfl, KA.out⟩

set_option maxHeartbeats 2000000 in
theorem implItem_any (k p q : Int) (A : Option Addr) (n c : Nat) (w : World) (hn : n ≤ 9223372036854775807) :
    Calls Tryd.prog 87 #[.agg #[.int .i64 k, .slice A n c, .int .i64 p, .int .i64 q]] w fun e w' => e = .returned (.int .i64 (itemCode k n p q)) ∧ Below w.heap.size w w' := by
  have aK := assKey
  have aS := assSize
  have aKS := assKeyS
  have aKN := assKeyN
  have aSN := assSizeN
  have ka := (Keep.refl 0 0 w).alloc (.cells #[.int .i64 k, .slice A n c, .int .i64 p, .int .i64 q] 55)
  by_cases h1 : k = 1 ∧ p = 0 ∧ q = 0
  · obtain ⟨rfl, rfl, rfl⟩ := h1
    rw [itemCode_key]
    obtain ⟨r, hr⟩ : ∃ r, decide ((n : Int) < 1 ∨ (8 : Int) < (n : Int)) = r := ⟨_, rfl⟩
    have HR : Hid (decide ((n : Int) < 1 ∨ (8 : Int) < (n : Int)) = r) := hr
    have e0 : (if n < 1 ∨ 8 < n then (2 : Int) else 0) = if r = true then 2 else 0 := by
      rw [← hr]
      by_cases hx : n < 1 ∨ 8 < n
      · rw [if_pos hx, if_pos (by simp; omega)]
      · rw [if_neg hx, if_neg (by simp; omega)]
    rw [e0]
    clear e0 hr
    go_enter Tryd.func87, Tryd.ntmps87
    go_wp2_with fail
    refine (typedOf_key A n c _).mono ?_
    rintro e w1 ⟨rfl, k1⟩
    have hb := (ka.trans k1).below (B := w.heap.size) (by omega) (Nat.le_refl _)
    have hz := hb.size
    clear k1 ka
    go_wp2_with fail
    refine (outside1 (w1.heap.size + 1) 1 n 1 8 r _ ?_ ?_ ?_ ?_ HR.out).mono ?_
    · simp
    · go_simp
    · go_simp
    · go_simp
    rintro e w2 ⟨rfl, hb2⟩
    have hb3 := ((hb.alloc hz (.cells #[.slice A n c] 123)).alloc (by simp; omega) (.cells #[.int .i64 n, .int .i64 1, .int .i64 8] 84)).trans (hb2.mono (by simp; omega))
    have HB := Lib.hid hb3
    clear hb hb2 hb3
    cases r with
    | true =>
      go_wp2_with fail
      go_ret
      exact ⟨rfl, HB.out⟩
    | false =>
      go_wp2_with fail
      go_ret
      exact ⟨rfl, HB.out⟩
  · by_cases h2 : k = 2 ∧ n = 0
    · obtain ⟨rfl, rfl⟩ := h2
      rw [itemCode_size]
      obtain ⟨r, hr⟩ : ∃ r, decide ((p < 1 ∨ 999 < p) ∨ (q < 1 ∨ 999 < q)) = r := ⟨_, rfl⟩
      have HR : Hid (decide ((p < 1 ∨ 999 < p) ∨ (q < 1 ∨ 999 < q)) = r) := hr
      have e0 : (if ¬ (1 ≤ p ∧ p ≤ 999) ∨ ¬ (1 ≤ q ∧ q ≤ 999) then (3 : Int) else 0) = if r = true then 3 else 0 := by
        rw [← hr]
        by_cases hx : ¬ (1 ≤ p ∧ p ≤ 999) ∨ ¬ (1 ≤ q ∧ q ≤ 999)
        · rw [if_pos hx, if_pos (by simp; omega)]
        · rw [if_neg hx, if_neg (by simp; omega)]
      rw [e0]
      clear e0 hr h1
      go_enter Tryd.func87, Tryd.ntmps87
      go_wp2_with fail
      refine (typedOf_size p q A c _).mono ?_
      rintro e w1 ⟨rfl, k1⟩
      have hb := (ka.trans k1).below (B := w.heap.size) (by omega) (Nat.le_refl _)
      have hz := hb.size
      clear k1 ka
      go_wp2_with fail
      refine (outside2 (w1.heap.size + 1) 2 p 1 999 q 1 999 r _ ?_ ?_ ?_ ?_ ?_ ?_ ?_ HR.out).mono ?_
      · simp
      · go_simp
      · go_simp
      · go_simp
      · go_simp
      · go_simp
      · go_simp
      rintro e w2 ⟨rfl, hb2⟩
      have hb3 := ((hb.alloc hz (.cells #[.int .i64 p, .int .i64 q] 125)).alloc (by simp; omega) (.cells #[.int .i64 p, .int .i64 1, .int .i64 999, .int .i64 q, .int .i64 1, .int .i64 999] 84)).trans (hb2.mono (by simp; omega))
      have HB := Lib.hid hb3
      clear hb hb2 hb3
      cases r with
      | true =>
        go_wp2_with fail
        go_ret
        exact ⟨rfl, HB.out⟩
      | false =>
        go_wp2_with fail
        go_ret
        exact ⟨rfl, HB.out⟩
    · rw [itemCode_form h1 h2]
      have HN := Lib.hid (typedOf_none k p q A n c (w.alloc (.cells #[.int .i64 k, .slice A n c, .int .i64 p, .int .i64 q] 55)) hn h1 h2)
      clear h1 h2
      go_enter Tryd.func87, Tryd.ntmps87
      go_wp2_with fail
      refine HN.out.mono ?_
      rintro e w1 ⟨rfl, k1⟩
      have HB := Lib.hid ((ka.trans k1).below (B := w.heap.size) (by omega) (Nat.le_refl _))
      clear k1 ka
      go_wp2_with fail
      go_ret
      exact ⟨rfl, HB.out⟩
end Go.Proofs.YtjdkaaepbkkchaaDoor
namespace Go.Proofs.YtjdkaaepbkkchaaDoor
open Go.RowKit
set_option linter.unusedVariables false
set_option maxRecDepth 100000

set_option maxHeartbeats 1000000 in
theorem itemsFault_any (A : Option Addr) (n c hi : Nat) (xs : List Itm) (w : World) (h : Rt w 0 hi A n xs) :
    Calls Tryd.prog 76 #[.slice A n c] w fun e w' => e = .returned (.int .i64 (itemsCode xs)) ∧ Below w.heap.size w w' := by
  have hint := h.int
  have hl := h.len
  have htop := h.top
  go_enter Tryd.func76, Tryd.ntmps76
  go_wp2_with fail
  go_loopw [8, 4, 5] (fun i _ _ wr => ∃ k : Nat, k ≤ n ∧ i = .int .i64 (k : Int) ∧ (∀ j, j < k → cdOf (xs.getD j it0) = 0) ∧ Below w.heap.size w wr) (fun i _ _ _ => n - (intOf i).toNat)
  case atStart => exact ⟨0, Nat.zero_le _, rfl, fun j hj => by omega, Below.refl _ _⟩
  case round =>
    obtain ⟨k, hk, rfl, hz, hke⟩ := hrel
    have hzz := hke.size
    by_cases hlt : k < n
    · obtain ⟨b, off, rfl, h1, h2, hc⟩ := h.at_ (by omega)
      obtain ⟨a0, ⟨G, cg, a1, rg, _⟩, a2, a3⟩ := (hc k hlt).keep (Keep.of_below hke 0 0) h2 (Nat.zero_le _) htop (by omega)
      have i0 : (0 : Int) ≤ (k : Int) := by omega
      have i1 : (k : Int) < (n : Int) := by omega
      have hf := itemsCode_first xs k (by omega) hz
      have hstep : cdOf (xs.getD k it0) = 0 → ∀ j, j < k + 1 → cdOf (xs.getD j it0) = 0 := fun e j hj => by
        by_cases ej : j = k
        · rw [ej]; exact e
        · exact hz j (by omega)
      generalize xs.getD k it0 = x at *
      obtain ⟨xk, xb, xp, xq⟩ := x
      simp only at a0 a1 a2 a3 rg
      have hxl := rg.int
      have hcd : cdOf (xk, xb, xp, xq) = itemCode xk xb.length xp xq := rfl
      rw [hcd] at hf hstep
      generalize hic : itemCode xk xb.length xp xq = ic at *
      have HI := Lib.hid hic
      have HF := Lib.hid hf
      have HS := Lib.hid hstep
      clear hic hf hstep hcd hz hc rg h
      go_wp2_with fail
      refine (implItem_any xk xp xq G xb.length cg _ hxl).mono ?_
      rintro e w1 ⟨rfl, k1⟩
      have hb1 : Below w.heap.size w w1 := by
        refine Below.trans ?_ (k1.mono (by first | omega | (simp; omega) | simp))
        repeat first
          | exact hke
          | refine Below.setCell ?_ (by first | omega | (simp; omega) | simp) _
          | refine Below.alloc ?_ (by first | omega | (simp; omega) | simp) _
      have HB := Lib.hid hb1
      clear hb1 k1 hke
      rw [HI.out]
      by_cases hic : ic = 0
      · have HS2 := Lib.hid (HS.out hic)
        subst hic
        go_wp2_with fail
        go_roundw
        case rel => exact ⟨k + 1, by omega, by go_num, HS2.out, HB.out⟩
        case measure => simp [intOf]; omega
      · have HR := Lib.hid (ret_int (HF.out hic).symm)
        have hib : (ic != 0) = true := by simp [hic]
        go_wp2_with fail
        go_ret
        exact ⟨HR.out, HB.out⟩
    · have HR := Lib.hid (ret_int (itemsCode_none xs (fun j hj => hz j (by omega))).symm)
      go_wp2_with fail
      go_ret
      exact ⟨HR.out, hke⟩

theorem behind_any (bs : Int) (A : Option Addr) (n c : Nat) (w : World) (h0 : 0 ≤ bs) (h1 : bs ≤ 1000000) (hn : n ≤ 1000000) :
    Calls Tryd.prog 77 #[.int .i64 bs, .slice A n c] w fun e w' => e = .returned (.int .i64 (bs + (n : Int))) ∧ w = w' := by
  go_enter Tryd.func77, Tryd.ntmps77
  go_wp2_with fail
  go_ret
  exact ⟨rfl, rfl⟩

set_option maxHeartbeats 2000000 in
theorem implLogFault_any (bs room : Int) (A : Option Addr) (n c hi : Nat) (xs : List Itm) (w : World) (h : Rt w 0 hi A n xs) :
    Calls Tryd.prog 55 #[.agg #[.int .i64 bs, .slice A n c], .int .i64 room] w fun e w' => e = .returned (.int .i64 (logCode bs room xs)) ∧ Below w.heap.size w w' := by
  have hint := h.int
  have hl := h.len
  have htop := h.top
  have hke : Below w.heap.size w w := Below.refl _ _
  obtain ⟨r, hr⟩ : ∃ r, decide ((room < 1 ∨ 16 < room) ∨ (bs < 0 ∨ 9000 < bs)) = r := ⟨_, rfl⟩
  have HR := Lib.hid hr
  by_cases hq : (room < 1 ∨ 16 < room) ∨ (bs < 0 ∨ 9000 < bs)
  · obtain rfl : true = r := by rw [← hr]; simp [hq]
    have HV := Lib.hid (ret_int (show (3 : Int) = logCode bs room xs from by unfold logCode; rw [if_pos (by omega)]))
    clear hr hq
    go_enter Tryd.func55, Tryd.ntmps55
    go_wp2_with fail
    refine (outside2 (w.heap.size + 1) 2 room 1 16 bs 0 9000 _ _ ?_ ?_ ?_ ?_ ?_ ?_ ?_ HR.out).mono ?_
    · simp
    · go_simp
    · go_simp
    · go_simp
    · go_simp
    · go_simp
    · go_simp
    rintro e w2 ⟨rfl, hb2⟩
    have HB2 := Lib.hid hb2
    have hbx : Below w.heap.size w w2 := by
      refine Below.trans ?_ (hb2.mono (by first | omega | (simp; omega) | simp))
      repeat first
        | exact hke
        | refine Below.setCell ?_ (by first | omega | (simp; omega) | simp) _
        | refine Below.alloc ?_ (by first | omega | (simp; omega) | simp) _
    have HB := Lib.hid hbx
    clear hb2 hbx
    go_wp2_with fail
    go_ret
    exact ⟨HV.out, HB.out⟩
  · obtain rfl : false = r := by rw [← hr]; simp [hq]
    have hrr : 1 ≤ room ∧ room ≤ 16 := by omega
    have hbb : 0 ≤ bs ∧ bs ≤ 9000 := by omega
    clear hr
    by_cases hm : room < (n : Int)
    · have HV := Lib.hid (ret_int (show (2 : Int) = logCode bs room xs from by unfold logCode; rw [if_neg (by omega), if_pos (by omega)]))
      clear hq
      go_enter Tryd.func55, Tryd.ntmps55
      go_wp2_with fail
      refine (outside2 (w.heap.size + 1) 2 room 1 16 bs 0 9000 _ _ ?_ ?_ ?_ ?_ ?_ ?_ ?_ HR.out).mono ?_
      · simp
      · go_simp
      · go_simp
      · go_simp
      · go_simp
      · go_simp
      · go_simp
      rintro e w2 ⟨rfl, hb2⟩
      have HB2 := Lib.hid hb2
      have hbx : Below w.heap.size w w2 := by
        refine Below.trans ?_ (hb2.mono (by first | omega | (simp; omega) | simp))
        repeat first
          | exact hke
          | refine Below.setCell ?_ (by first | omega | (simp; omega) | simp) _
          | refine Below.alloc ?_ (by first | omega | (simp; omega) | simp) _
      have HB := Lib.hid hbx
      clear hb2 hbx
      have c0 := HB2.out.cell (p := ⟨w.heap.size, 0, none⟩) (by simp; omega)
      have c1 := HB2.out.cell (p := ⟨w.heap.size, 1, none⟩) (by simp; omega)
      simp [go_sem] at c0 c1
      go_wp2_with fail
      go_ret
      exact ⟨HV.out, HB.out⟩
    · by_cases hc : itemsCode xs = 0
      · by_cases hf : 9000 < bs + (n : Int)
        · have HV := Lib.hid (ret_int (show (7 : Int) = logCode bs room xs from by unfold logCode; rw [if_neg (by omega), if_neg (by omega), if_neg (by simp [hc]), if_pos (by omega)]))
          clear hq
          go_enter Tryd.func55, Tryd.ntmps55
          go_wp2_with fail
          refine (outside2 (w.heap.size + 1) 2 room 1 16 bs 0 9000 _ _ ?_ ?_ ?_ ?_ ?_ ?_ ?_ HR.out).mono ?_
          · simp
          · go_simp
          · go_simp
          · go_simp
          · go_simp
          · go_simp
          · go_simp
          rintro e w2 ⟨rfl, hb2⟩
          have HB2 := Lib.hid hb2
          have hbx : Below w.heap.size w w2 := by
            refine Below.trans ?_ (hb2.mono (by first | omega | (simp; omega) | simp))
            repeat first
              | exact hke
              | refine Below.setCell ?_ (by first | omega | (simp; omega) | simp) _
              | refine Below.alloc ?_ (by first | omega | (simp; omega) | simp) _
          have HB := Lib.hid hbx
          clear hb2 hbx
          have c0 := HB2.out.cell (p := ⟨w.heap.size, 0, none⟩) (by simp; omega)
          have c1 := HB2.out.cell (p := ⟨w.heap.size, 1, none⟩) (by simp; omega)
          simp [go_sem] at c0 c1
          have h3 := h.keep (Keep.of_below HB.out 0 0) (by omega)
          have HI := Lib.hid (itemsFault_any A n c hi xs _ h3)
          rw [hc] at HI
          go_wp2_with fail
          refine HI.out.mono ?_
          rintro e w3 ⟨rfl, k3⟩
          have hlt0 : w.heap.size < w2.heap.size := World.block_lt_of_cell? w2 _ c0
          have d0 := (k3.cell (p := ⟨w.heap.size, 0, none⟩) hlt0).trans c0
          have d1 := (k3.cell (p := ⟨w.heap.size, 1, none⟩) hlt0).trans c1
          have HB3 := Lib.hid (HB.out.trans (k3.mono HB.out.size))
          clear k3 c0 c1
          go_wp2_with fail
          refine (behind_any bs A n c w3 (by omega) (by omega) (by omega)).mono ?_
          rintro e w4 ⟨rfl, rfl⟩
          go_wp2_with fail
          go_ret
          exact ⟨HV.out, HB3.out⟩
        · have HV := Lib.hid (ret_int (show (0 : Int) = logCode bs room xs from by unfold logCode; rw [if_neg (by omega), if_neg (by omega), if_neg (by simp [hc]), if_neg (by omega)]))
          clear hq
          go_enter Tryd.func55, Tryd.ntmps55
          go_wp2_with fail
          refine (outside2 (w.heap.size + 1) 2 room 1 16 bs 0 9000 _ _ ?_ ?_ ?_ ?_ ?_ ?_ ?_ HR.out).mono ?_
          · simp
          · go_simp
          · go_simp
          · go_simp
          · go_simp
          · go_simp
          · go_simp
          rintro e w2 ⟨rfl, hb2⟩
          have HB2 := Lib.hid hb2
          have hbx : Below w.heap.size w w2 := by
            refine Below.trans ?_ (hb2.mono (by first | omega | (simp; omega) | simp))
            repeat first
              | exact hke
              | refine Below.setCell ?_ (by first | omega | (simp; omega) | simp) _
              | refine Below.alloc ?_ (by first | omega | (simp; omega) | simp) _
          have HB := Lib.hid hbx
          clear hb2 hbx
          have c0 := HB2.out.cell (p := ⟨w.heap.size, 0, none⟩) (by simp; omega)
          have c1 := HB2.out.cell (p := ⟨w.heap.size, 1, none⟩) (by simp; omega)
          simp [go_sem] at c0 c1
          have h3 := h.keep (Keep.of_below HB.out 0 0) (by omega)
          have HI := Lib.hid (itemsFault_any A n c hi xs _ h3)
          rw [hc] at HI
          go_wp2_with fail
          refine HI.out.mono ?_
          rintro e w3 ⟨rfl, k3⟩
          have hlt0 : w.heap.size < w2.heap.size := World.block_lt_of_cell? w2 _ c0
          have d0 := (k3.cell (p := ⟨w.heap.size, 0, none⟩) hlt0).trans c0
          have d1 := (k3.cell (p := ⟨w.heap.size, 1, none⟩) hlt0).trans c1
          have HB3 := Lib.hid (HB.out.trans (k3.mono HB.out.size))
          clear k3 c0 c1
          go_wp2_with fail
          refine (behind_any bs A n c w3 (by omega) (by omega) (by omega)).mono ?_
          rintro e w4 ⟨rfl, rfl⟩
          go_wp2_with fail
          go_ret
          exact ⟨HV.out, HB3.out⟩
      · have HV := Lib.hid (ret_int (show itemsCode xs = logCode bs room xs from by unfold logCode; rw [if_neg (by omega), if_neg (by omega), if_pos hc]))
        clear hq
        generalize hic : itemsCode xs = ic at *
        have HIC := Lib.hid hic
        have hcb : (ic != 0) = true := by simp [hc]
        clear hic
        go_enter Tryd.func55, Tryd.ntmps55
        go_wp2_with fail
        refine (outside2 (w.heap.size + 1) 2 room 1 16 bs 0 9000 _ _ ?_ ?_ ?_ ?_ ?_ ?_ ?_ HR.out).mono ?_
        · simp
        · go_simp
        · go_simp
        · go_simp
        · go_simp
        · go_simp
        · go_simp
        rintro e w2 ⟨rfl, hb2⟩
        have HB2 := Lib.hid hb2
        have hbx : Below w.heap.size w w2 := by
          refine Below.trans ?_ (hb2.mono (by first | omega | (simp; omega) | simp))
          repeat first
            | exact hke
            | refine Below.setCell ?_ (by first | omega | (simp; omega) | simp) _
            | refine Below.alloc ?_ (by first | omega | (simp; omega) | simp) _
        have HB := Lib.hid hbx
        clear hb2 hbx
        have c0 := HB2.out.cell (p := ⟨w.heap.size, 0, none⟩) (by simp; omega)
        have c1 := HB2.out.cell (p := ⟨w.heap.size, 1, none⟩) (by simp; omega)
        simp [go_sem] at c0 c1
        have h3 := h.keep (Keep.of_below HB.out 0 0) (by omega)
        go_wp2_with fail
        refine (itemsFault_any A n c hi xs _ h3).mono ?_
        rintro e w3 ⟨rfl, k3⟩
        rw [HIC.out]
        have HB3 := Lib.hid (HB.out.trans (k3.mono HB.out.size))
        clear k3
        go_wp2_with fail
        go_ret
        exact ⟨HV.out, HB3.out⟩
end Go.Proofs.YtjdkaaepbkkchaaDoor
namespace Go.Proofs.YtjdkaaepbkkchaaDoor
open Go.RowKit
set_option linter.unusedVariables false
set_option maxRecDepth 100000

theorem OwnY.push_any {w wa W1 : World} {base n c g1 cap cb : Nat} {G GB : Option Addr} {ys : List Lit} {x : Itm} {o : Obj} (h : OwnY w base G n c ys) (hbase : base ≤ w.heap.size) (hb : Below w.heap.size w wa)
    (hw : Wr wa w.heap.size wa.heap.size GB x.2.1.length x.2.1) (hgz : GB = none → cb = 0)
    (own1 : W1.ownsRow base 55 4 (.slice (some ⟨g1, 0, none⟩) (n + 1) cap) (n + 1) (ys.flatMap cell4 ++ cell4 (x, GB, cb, w.heap.size, wa.heap.size)))
    (hg : (wa.alloc o).grownBy W1 (Value.ownBlock (.slice G n c))) (hat : Value.ownBlock (.slice G n c) = some g1 ∨ g1 = wa.heap.size + 1) :
    OwnY W1 base (some ⟨g1, 0, none⟩) (n + 1) cap (ys ++ [(x, GB, cb, w.heap.size, wa.heap.size)]) := by
  have hz := hb.size
  have ha : Keep 0 0 wa (wa.alloc o) := (Keep.refl 0 0 wa).alloc o
  have hz1 := hg.size
  simp only [World.size_alloc] at hz1
  have hlt := h.1.lt
  have hkg : ∀ gq, Value.ownBlock (.slice G n c) = some gq → Keep gq (gq + 1) (wa.alloc o) W1 := fun gq e => ⟨hg.os, hg.tape, hg.output, hg.size, fun q hq ho => hg.block q hq (by rw [e]; intro e2; injection e2 with e2; omega)⟩
  have hkn : Value.ownBlock (.slice G n c) = none → Keep 0 0 (wa.alloc o) W1 := fun e => ⟨hg.os, hg.tape, hg.output, hg.size, fun q hq ho => hg.block q hq (by rw [e]; simp)⟩
  refine ⟨by rw [List.flatMap_append]; simpa using own1, by simp [h.2.1], ?_, fun y hy => ?_⟩
  · rw [List.pairwise_append]
    refine ⟨h.2.2.1, by simp, fun a ha b hb2 => ?_⟩
    rw [List.mem_singleton] at hb2
    subst hb2
    exact (h.2.2.2 a ha).2.1
  · rcases List.mem_append.1 hy with hy | hy
    · have hok := h.2.2.2 y hy
      have h2 := (hok.keep (Keep.of_below hb 0 0) (by omega)).keep ha (by omega)
      have h3 : LitOk W1 base (Value.ownBlock (.slice G n c)) y := by
        cases e : Value.ownBlock (.slice G n c) with
        | none => rw [e] at h2; exact h2.keep (hkn e) (by omega)
        | some gq =>
          have := hok.2.2.2.2 gq e
          rw [e] at h2
          exact h2.keep (hkg gq e) (by omega)
      refine ⟨h3.1, h3.2.1, h3.2.2.1, h3.2.2.2.1, fun g e => ?_⟩
      have e2 : g1 = g := by simpa [Value.ownBlock] using e
      subst e2
      rcases hat with e3 | e3
      · exact hok.2.2.2.2 _ e3
      · exact .inr (by have := hok.2.1; omega)
    · rw [List.mem_singleton] at hy
      subst hy
      refine ⟨hbase, by show wa.heap.size ≤ W1.heap.size; omega, ?_, hgz, fun g e => ?_⟩
      · have hw2 := hw.keep ha (by omega)
        cases e : Value.ownBlock (.slice G n c) with
        | none => exact hw2.keep (hkn e) (by omega)
        | some gq =>
          have := (hlt gq e).2
          exact hw2.keep (hkg gq e) (by omega)
      · have e2 : g1 = g := by simpa [Value.ownBlock] using e
        subst e2
        rcases hat with e3 | e3
        · have := (hlt _ e3).2
          exact .inl this
        · exact .inr (by show wa.heap.size ≤ g1; omega)

theorem OwnT.none_ (w : World) (base : Nat) : OwnT w base none 0 0 [] := ⟨[], rfl, ⟨rfl, .inl ⟨rfl, rfl⟩⟩, rfl, by simp, by simp⟩


end Go.Proofs.YtjdkaaepbkkchaaDoor
namespace Go.Proofs.YtjdkaaepbkkchaaDoor
open Go.RowKit
set_option linter.unusedVariables false
set_option maxRecDepth 100000

/-- A log's answer: this code, this base, these items, in new memory. -/
def LogPost (w : World) (tc tb : Int) (tos : List Itm) (e : Ending) (w' : World) : Prop :=
  ∃ G m cap, e = .returned (.agg #[.int .i64 tc, .int .i64 tb, .slice G m cap]) ∧ Wt w' w.heap.size w'.heap.size G m tos ∧ Below w.heap.size w w'
def addCode (bs room : Int) (xs : List Itm) (x : Itm) : Int := if logCode bs room xs ≠ 0 then logCode bs room xs else if cdOf x ≠ 0 then cdOf x else if 9000 ≤ bs + (xs.length : Int) then 8 else if room ≤ (xs.length : Int) then 7 else 0
def addBase (bs room : Int) (xs : List Itm) (x : Itm) : Int := if addCode bs room xs x = 0 then bs else 0
def addOut (bs room : Int) (xs : List Itm) (x : Itm) : List Itm := if addCode bs room xs x = 0 then xs ++ [x] else []
/-- What an append leaves as it was. -/
theorem far_row' {W W1 : World} {o : Obj} {v : Value} (hg : (W.alloc o).grownBy W1 (Value.ownBlock v)) {p : Addr} (hp : p.block < W.heap.size) (hn : Value.ownBlock v ≠ some p.block) : W1.cell? p = W.cell? p ∧ W1.frozen? p = W.frozen? p := by
  have kB : W1.heap[p.block]? = W.heap[p.block]? := by
    rw [hg.block p.block (by simp; omega) (fun e => hn e.symm)]
    exact Below.heap_alloc _ _ _ hp
  exact ⟨World.cell?_of_block (w := W) kB, World.frozen?_of_block (w := W) kB⟩
end Go.Proofs.YtjdkaaepbkkchaaDoor
