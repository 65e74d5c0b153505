/-
  toLog, szLog; eq, mark, held of a Log and of a LogResult.
-/
import Derived.Test.YtjibfncdkcmhcaaT10
namespace Go.Proofs.Ytjibfncdkcmhcaa
open Go.RowKit
set_option linter.unusedVariables false
set_option maxRecDepth 100000

set_option maxHeartbeats 400000 in
theorem szLog_any (base : Int) (A : Option Addr) (n c lo hi : Nat) (xs : List Itm) (left : Int) (w : World) (h : Rt w lo hi A n xs) (h0 : 0 ≤ left) (h1 : left ≤ 1099511627776) :
    Calls Try.prog 42 #[.agg #[.int .i64 base, .slice A n c], .int .i64 left] w fun e w' => e = .returned (.int .i64 (szT left xs)) ∧ Keep 0 0 w w' := by
  have k1 := (Keep.refl 0 0 w).alloc (.cells #[.int .i64 base, .slice A n c] 64)
  have r := h.keep k1 (by omega)
  have HC := szItemS_any A n c lo hi xs left _ r h0 h1
  have K1 := Lib.hid k1
  have hz : szT left xs = -1 ∨ 0 ≤ szT left xs := by unfold szT; split <;> omega
  generalize szT left xs = s at *
  have HCC := Lib.hid HC
  clear HC k1
  rcases hz with rfl | hz
  · go_enter Try.func42, Try.ntmps42
    go_wp2_with fail
    refine HCC.out.mono ?_
    rintro e w1 ⟨rfl, k2⟩
    have K2 := Lib.hid (K1.out.trans k2)
    go_wp2_with fail
    go_ret
    exact ⟨rfl, K2.out⟩
  · have hnn : ¬ s < 0 := by omega
    go_enter Try.func42, Try.ntmps42
    go_wp2_with fail
    refine HCC.out.mono ?_
    rintro e w1 ⟨rfl, k2⟩
    have K2 := Lib.hid (K1.out.trans k2)
    go_wp2_with fail
    go_ret
    exact ⟨rfl, K2.out⟩

set_option maxHeartbeats 400000 in
theorem toLog_any (top : Int) (A : Option Addr) (n c hi : Nat) (xs : List Itm) (w : World) (h : Rt w 0 hi A n xs) (hn : n ≤ 1099511627776) (hs : ∀ x ∈ xs, x.2.1.length ≤ 281474976710656) :
    Calls Try.prog 43 #[.agg #[.int .i64 top, .slice A n c]] w fun e w' => ∃ g, e = .returned (.agg #[.int .i64 top, .slice (some ⟨g, 0, none⟩) n n]) ∧ Wt w' w.heap.size w'.heap.size (some ⟨g, 0, none⟩) n xs ∧ Below w.heap.size w w' := by
  have ka := (((Keep.refl 0 0 w).alloc (.cells #[.int .i64 top, .slice A n c] 64)).alloc (.cells #[.int .i64 0, .slice none 0 0] 26)).alloc (.cells #[.int .i64 top, .slice none 0 0] 26)
  have h3 := h.keep ka (by omega)
  have HS := Lib.hid hs
  clear hs
  go_enter Try.func43, Try.ntmps43
  go_wp2_with fail
  refine (toItemS_any A n c hi xs _ h3 hn HS.out).mono ?_
  rintro e w1 ⟨g, rfl, wi, hb⟩
  have hz := hb.size
  have c10 := hb.cell (p := ⟨w.heap.size + 1, 0, none⟩) (by simp)
  have c11 := hb.cell (p := ⟨w.heap.size + 1, 1, none⟩) (by simp)
  have c20 := hb.cell (p := ⟨w.heap.size + 1 + 1, 0, none⟩) (by simp)
  have c21 := hb.cell (p := ⟨w.heap.size + 1 + 1, 1, none⟩) (by simp)
  have f10 := hb.frozen (p := ⟨w.heap.size + 1, 0, none⟩) (by simp)
  have f11 := hb.frozen (p := ⟨w.heap.size + 1, 1, none⟩) (by simp)
  have f20 := hb.frozen (p := ⟨w.heap.size + 1 + 1, 0, none⟩) (by simp)
  have f21 := hb.frozen (p := ⟨w.heap.size + 1 + 1, 1, none⟩) (by simp)
  simp [go_sem] at c10 c11 c20 c21 f10 f11 f20 f21
  have bb := (ka.below (B := w.heap.size) (by omega) (Nat.le_refl _)).trans (hb.mono ka.size)
  simp only [World.size_alloc] at hz wi
  have HF : Hid (∀ v1 v2 v3, ∃ g', Ending.returned (.agg #[.int .i64 top, .slice (some ⟨g, 0, none⟩) n n]) = .returned (.agg #[.int .i64 top, .slice (some ⟨g', 0, none⟩) n n]) ∧
      Wt (((w1.setCell ⟨w.heap.size + 1 + 1, 1, none⟩ v1).setCell ⟨w.heap.size + 1, 0, none⟩ v2).setCell ⟨w.heap.size + 1, 1, none⟩ v3) w.heap.size (((w1.setCell ⟨w.heap.size + 1 + 1, 1, none⟩ v1).setCell ⟨w.heap.size + 1, 0, none⟩ v2).setCell ⟨w.heap.size + 1, 1, none⟩ v3).heap.size (some ⟨g', 0, none⟩) n xs ∧
      Below w.heap.size w (((w1.setCell ⟨w.heap.size + 1 + 1, 1, none⟩ v1).setCell ⟨w.heap.size + 1, 0, none⟩ v2).setCell ⟨w.heap.size + 1, 1, none⟩ v3)) := fun v1 v2 v3 => by
    have k : Keep w.heap.size (w.heap.size + 1 + 1 + 1) w1 (((w1.setCell ⟨w.heap.size + 1 + 1, 1, none⟩ v1).setCell ⟨w.heap.size + 1, 0, none⟩ v2).setCell ⟨w.heap.size + 1, 1, none⟩ v3) :=
      (((Keep.refl _ _ w1).setCell (p := ⟨w.heap.size + 1 + 1, 1, none⟩) ⟨by show w.heap.size ≤ w.heap.size + 1 + 1; omega, by show w.heap.size + 1 + 1 < _; omega⟩ v1).setCell (p := ⟨w.heap.size + 1, 0, none⟩) ⟨by show w.heap.size ≤ w.heap.size + 1; omega, by show w.heap.size + 1 < _; omega⟩ v2).setCell (p := ⟨w.heap.size + 1, 1, none⟩) ⟨by show w.heap.size ≤ w.heap.size + 1; omega, by show w.heap.size + 1 < _; omega⟩ v3
    exact ⟨g, rfl, (wi.keep k (by omega)).wide (by omega) k.size (Nat.le_refl _), bb.trans (k.below (by omega) bb.size)⟩
  clear wi hb bb ka h3 h
  go_wp2_with fail
  exact bodyPost_ret (v := .agg #[.int .i64 top, .slice (some ⟨g, 0, none⟩) n n]) (by simp [results, Try.results43, go_sem, c10, c11]) rfl (HF.out _ _ _)

set_option maxHeartbeats 400000 in
theorem eqLog_true (bs : Int) (A A' : Option Addr) (n c c' lo hi lo' hi' : Nat) (xs : List Itm) (w : World) (h : Rt w lo hi A n xs) (h' : Rt w lo' hi' A' n xs) :
    Calls Try.prog 44 #[.agg #[.int .i64 bs, .slice A n c], .agg #[.int .i64 bs, .slice A' n c']] w fun e w' => e = .returned (.bool true) ∧ Keep 0 0 w w' := by
  have k1 := ((Keep.refl 0 0 w).alloc (.cells #[.int .i64 bs, .slice A n c] 26)).alloc (.cells #[.int .i64 bs, .slice A' n c'] 26)
  have r := h.keep k1 (by omega)
  have r' := h'.keep k1 (by omega)
  have K1 := Lib.hid k1
  clear k1
  go_enter Try.func44, Try.ntmps44
  go_wp2_with fail
  refine (eqItemS_true  _ _ n c c' _ _ _ _ xs _ r r').mono ?_
  rintro e w1 ⟨rfl, k2⟩
  have K2 := Lib.hid (K1.out.trans k2)
  go_wp2_with fail
  go_ret
  exact ⟨rfl, K2.out⟩

set_option maxHeartbeats 400000 in
theorem markLog_any (bs : Int) (A : Option Addr) (n c lo hi : Nat) (K : Int) (xs : List Itm) (w : World) (h : Wt w lo hi A n xs) (hK0 : 0 ≤ K) (hK : K + ((3 * n + sumLen xs : Nat) : Int) ≤ 9223372036854775807) :
    Calls Try.prog 46 #[.agg #[.int .i64 bs, .slice A n c], .int .i64 K] w fun e w' => e = .returned (.int .i64 (K + ((3 * n + sumLen xs : Nat) : Int))) ∧ Wt w' lo hi A n (markT K xs) ∧ Keep lo hi w w' := by
  have k1 := (Keep.refl 0 0 w).alloc (.cells #[.int .i64 bs, .slice A n c] 26)
  have r := h.keep k1 (by omega)
  have K1 := Lib.hid (k1.none_ lo hi)
  clear k1
  have hc := markItemS_any  A n c lo hi K xs _ r hK0 hK
  generalize K + ((3 * n + sumLen xs : Nat) : Int) = M at *
  have HC := Lib.hid hc
  clear hc
  go_enter Try.func46, Try.ntmps46
  go_wp2_with fail
  refine HC.out.mono ?_
  rintro e w1 ⟨rfl, hw1, hk1⟩
  go_wp2_with fail
  go_ret
  exact ⟨rfl, hw1, K1.out.trans hk1⟩

set_option maxHeartbeats 400000 in
theorem heldLog_any (bs : Int) (A : Option Addr) (n c lo hi : Nat) (K : Int) (xs : List Itm) (w : World) (hl : xs.length = n) (h : Rt w lo hi A n (markT K xs)) (hK0 : 0 ≤ K) (hK : K + ((3 * n + sumLen xs : Nat) : Int) ≤ 9223372036854775807) :
    Calls Try.prog 82 #[.agg #[.int .i64 bs, .slice A n c], .int .i64 K] w fun e w' => e = .returned (.int .i64 (K + ((3 * n + sumLen xs : Nat) : Int))) ∧ Keep 0 0 w w' := by
  have k1 := (Keep.refl 0 0 w).alloc (.cells #[.int .i64 bs, .slice A n c] 26)
  have r := h.keep k1 (by omega)
  have K1 := Lib.hid k1
  have hnn : ¬ K + ((3 * n + sumLen xs : Nat) : Int) < 0 := by omega
  clear k1
  have hc := heldItemS_any  A n c lo hi K xs _ hl r hK0 hK
  generalize K + ((3 * n + sumLen xs : Nat) : Int) = M at *
  have HC := Lib.hid hc
  clear hc
  go_enter Try.func82, Try.ntmps82
  go_wp2_with fail
  refine HC.out.mono ?_
  rintro e w1 ⟨rfl, rfl⟩
  have K2 := K1
  go_wp2_with fail
  go_ret
  exact ⟨rfl, K2.out⟩

set_option maxHeartbeats 400000 in
theorem eqLogResult_true (cd bs : Int) (A A' : Option Addr) (n c c' lo hi lo' hi' : Nat) (xs : List Itm) (w : World) (h : Rt w lo hi A n xs) (h' : Rt w lo' hi' A' n xs) :
    Calls Try.prog 45 #[.agg #[.int .i64 cd, .int .i64 bs, .slice A n c], .agg #[.int .i64 cd, .int .i64 bs, .slice A' n c']] w fun e w' => e = .returned (.bool true) ∧ Keep 0 0 w w' := by
  have k1 := ((Keep.refl 0 0 w).alloc (.cells #[.int .i64 cd, .int .i64 bs, .slice A n c] 32)).alloc (.cells #[.int .i64 cd, .int .i64 bs, .slice A' n c'] 32)
  have r := h.keep k1 (by omega)
  have r' := h'.keep k1 (by omega)
  have K1 := Lib.hid k1
  clear k1
  go_enter Try.func45, Try.ntmps45
  go_wp2_with fail
  refine (eqLog_true bs _ _ n c c' _ _ _ _ xs _ r r').mono ?_
  rintro e w1 ⟨rfl, k2⟩
  have K2 := Lib.hid (K1.out.trans k2)
  go_wp2_with fail
  go_ret
  exact ⟨rfl, K2.out⟩

set_option maxHeartbeats 400000 in
theorem markLogResult_any (cd bs : Int) (A : Option Addr) (n c lo hi : Nat) (K : Int) (xs : List Itm) (w : World) (h : Wt w lo hi A n xs) (hK0 : 0 ≤ K) (hK : K + ((3 * n + sumLen xs : Nat) : Int) ≤ 9223372036854775807) :
    Calls Try.prog 48 #[.agg #[.int .i64 cd, .int .i64 bs, .slice A n c], .int .i64 K] w fun e w' => e = .returned (.int .i64 (K + ((3 * n + sumLen xs : Nat) : Int))) ∧ Wt w' lo hi A n (markT K xs) ∧ Keep lo hi w w' := by
  have k1 := (Keep.refl 0 0 w).alloc (.cells #[.int .i64 cd, .int .i64 bs, .slice A n c] 32)
  have r := h.keep k1 (by omega)
  have K1 := Lib.hid (k1.none_ lo hi)
  clear k1
  have hc := markLog_any bs A n c lo hi K xs _ r hK0 hK
  generalize K + ((3 * n + sumLen xs : Nat) : Int) = M at *
  have HC := Lib.hid hc
  clear hc
  go_enter Try.func48, Try.ntmps48
  go_wp2_with fail
  refine HC.out.mono ?_
  rintro e w1 ⟨rfl, hw1, hk1⟩
  go_wp2_with fail
  go_ret
  exact ⟨rfl, hw1, K1.out.trans hk1⟩

set_option maxHeartbeats 400000 in
theorem heldLogResult_any (cd bs : Int) (A : Option Addr) (n c lo hi : Nat) (K : Int) (xs : List Itm) (w : World) (hl : xs.length = n) (h : Rt w lo hi A n (markT K xs)) (hK0 : 0 ≤ K) (hK : K + ((3 * n + sumLen xs : Nat) : Int) ≤ 9223372036854775807) :
    Calls Try.prog 49 #[.agg #[.int .i64 cd, .int .i64 bs, .slice A n c], .int .i64 K] w fun e w' => e = .returned (.int .i64 (K + ((3 * n + sumLen xs : Nat) : Int))) ∧ Keep 0 0 w w' := by
  have k1 := (Keep.refl 0 0 w).alloc (.cells #[.int .i64 cd, .int .i64 bs, .slice A n c] 32)
  have r := h.keep k1 (by omega)
  have K1 := Lib.hid k1
  have hnn : ¬ K + ((3 * n + sumLen xs : Nat) : Int) < 0 := by omega
  clear k1
  have hc := heldLog_any bs A n c lo hi K xs _ hl r hK0 hK
  generalize K + ((3 * n + sumLen xs : Nat) : Int) = M at *
  have HC := Lib.hid hc
  clear hc
  go_enter Try.func49, Try.ntmps49
  go_wp2_with fail
  refine HC.out.mono ?_
  rintro e w1 ⟨rfl, k2⟩
  have K2 := Lib.hid (K1.out.trans k2)
  go_wp2_with fail
  go_ret
  exact ⟨rfl, K2.out⟩

end Go.Proofs.Ytjibfncdkcmhcaa
