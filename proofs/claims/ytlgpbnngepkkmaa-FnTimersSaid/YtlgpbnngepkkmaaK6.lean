/-
  Chapter 6: the draws of the laws' arguments.
-/
import Derived.Test.YtlgpbnngepkkmaaK5
import Derived.Test.YtlgpbnngepkkmaaLwB
namespace Go.Proofs.Ytlgpbnngepkkmaa
open Go.RowKit
set_option linter.unusedVariables false
set_option maxRecDepth 100000

set_option maxHeartbeats 1000000 in
theorem lwAt3_any (A : Option Addr) (nc cc lo hi : Nat) (xs : List Int) (w : World) (h : Rd w lo hi A nc xs) :
    Calls Try.prog 30 #[.slice A nc cc, .int .i64 3, .int .i64 5000] w fun e w' => ∃ r : Int, e = .returned (.int .i64 r) ∧ (0 ≤ r ∧ r < 5000) ∧ Keep 0 0 w w' := by
  have hint := h.int
  by_cases h0 : nc = 0
  · subst h0
    go_enter Try.func30, Try.ntmps30
    go_wp2_with fail
    go_ret
    exact ⟨_, rfl, by omega, Keep.refl _ _ _⟩
  have hnc : 0 < nc := by omega
  obtain ⟨b, off, rfl, h1', h2', hc⟩ := Rd.at_ h hnc
  have z1 := hc (3 % nc) (Nat.mod_lt _ hnc)
  have y1 := Rd.byteAt' h (Nat.mod_lt 3 hnc)
  have p1 : (0 : Int) ≤ 3 % (nc : Int) ∧ (3 : Int) % (nc : Int) < (nc : Int) := rem_lt 3 nc hnc
  have q1 : (0 : Int) ≤ 3 / (nc : Int) ∧ (3 : Int) / (nc : Int) ≤ 3 := quo_le 3 nc
  have z2 := hc (4 % nc) (Nat.mod_lt _ hnc)
  have y2 := Rd.byteAt' h (Nat.mod_lt 4 hnc)
  have p2 : (0 : Int) ≤ 4 % (nc : Int) ∧ (4 : Int) % (nc : Int) < (nc : Int) := rem_lt 4 nc hnc
  have g0 : (0 : Int) < (nc : Int) := by omega
  have g1 : ((nc : Int) == 0) = false := by simp; omega
  clear hc
  go_enter Try.func30, Try.ntmps30
  go_wp2_with fail
  go_quiet (fail)
  go_wp2_with fail
  go_ret
  exact ⟨_, rfl, ⟨Int.emod_nonneg _ (by omega), Int.emod_lt_of_pos _ (by omega)⟩, (Keep.refl 0 0 w).drewN _⟩

set_option maxHeartbeats 1000000 in
theorem drawStamp_any (A : Option Addr) (n c hi : Nat) (xs : List Int) (w : World) (h : Rd w 0 hi A n xs) :
    Calls Try.prog 33 #[.slice A n c] w fun e w' => ∃ v : Int, e = .returned (.int .i64 v) ∧ (-10 ≤ v ∧ v ≤ 2000000) ∧ Below w.heap.size w w' := by
  have htop := h.top
  go_enter Try.func33, Try.ntmps33
  go_wp2_with fail
  refine (source_any A n c hi xs w h).mono ?_
  rintro e w1 ⟨s, rfl, hs, s0, b1⟩
  have bb := b1
  have z1 := b1.size
  clear b1
  go_wp2_with fail
  have ka := (Keep.refl 0 0 w1).alloc (.cells ([0, 65535, 65536, 1000000, 1000001, -1].map (Value.int .i64)).toArray 2)
  have ha := hs.keep ka (by have := hs.1; omega) (by omega)
  have n1 : w1.heap.size ≠ s := by have := hs.1; omega
  refine (pick_any s (0) w1.heap.size 6 A n c hi xs [0, 65535, 65536, 1000000, 1000001, -1] 6 _ ha (by omega) rfl (by omega) (by omega) n1 (by simp) (row_cells w1 [0, 65535, 65536, 1000000, 1000001, -1] _ _ rfl)).mono ?_
  rintro e w2 ⟨v, m_v, rfl, hs_v, kb⟩
  have kk := ((Keep.refl s (s + 1) w1).alloc (.cells ([0, 65535, 65536, 1000000, 1000001, -1].map (Value.int .i64)).toArray 2)).trans kb
  replace bb := bb.trans (kk.below (by omega) bb.size)
  have z_v := kk.size
  clear ka ha n1 kb kk
  have hv : -10 ≤ v ∧ v ≤ 2000000 := by simp at m_v; omega
  go_wp2_with fail
  go_ret
  exact ⟨v, rfl, hv, bb⟩

set_option maxHeartbeats 1000000 in
theorem drawPassed_any (A : Option Addr) (n c hi : Nat) (xs : List Int) (w : World) (h : Rd w 0 hi A n xs) :
    Calls Try.prog 35 #[.slice A n c] w fun e w' => ∃ v u : Int, e = .returned (.tuple #[.int .i64 v, .int .i64 u]) ∧ Below w.heap.size w w' := by
  have htop := h.top
  go_enter Try.func35, Try.ntmps35
  go_wp2_with fail
  refine (source_any A n c hi xs w h).mono ?_
  rintro e w1 ⟨s, rfl, hs, s0, b1⟩
  have bb := b1
  have z1 := b1.size
  clear b1
  go_wp2_with fail
  have ka := (Keep.refl 0 0 w1).alloc (.cells ([0, 5, 65535, 65536, 65540, 1000000, 1000001, -1].map (Value.int .i64)).toArray 2)
  have ha := hs.keep ka (by have := hs.1; omega) (by omega)
  have n1 : w1.heap.size ≠ s := by have := hs.1; omega
  refine (pick_any s (0) w1.heap.size 8 A n c hi xs [0, 5, 65535, 65536, 65540, 1000000, 1000001, -1] 8 _ ha (by omega) rfl (by omega) (by omega) n1 (by simp) (row_cells w1 [0, 5, 65535, 65536, 65540, 1000000, 1000001, -1] _ _ rfl)).mono ?_
  rintro e w2 ⟨v, m_v, rfl, hs_v, kb⟩
  have kk := ((Keep.refl s (s + 1) w1).alloc (.cells ([0, 5, 65535, 65536, 65540, 1000000, 1000001, -1].map (Value.int .i64)).toArray 2)).trans kb
  replace bb := bb.trans (kk.below (by omega) bb.size)
  have z_v := kk.size
  clear ka ha n1 kb kk
  go_wp2_with fail
  have ka := (Keep.refl 0 0 w2).alloc (.cells ([0, 5, 65535, 65536, -1, 9].map (Value.int .i64)).toArray 2)
  have ha := hs_v.keep ka (by have := hs_v.1; omega) (by omega)
  have n1 : w2.heap.size ≠ s := by have := hs_v.1; omega
  refine (pick_any s (0 + 1) w2.heap.size 6 A n c hi xs [0, 5, 65535, 65536, -1, 9] 6 _ ha (by omega) rfl (by omega) (by omega) n1 (by simp) (row_cells w2 [0, 5, 65535, 65536, -1, 9] _ _ rfl)).mono ?_
  rintro e w3 ⟨u, m_u, rfl, hs_u, kb⟩
  have kk := ((Keep.refl s (s + 1) w2).alloc (.cells ([0, 5, 65535, 65536, -1, 9].map (Value.int .i64)).toArray 2)).trans kb
  replace bb := bb.trans (kk.below (by omega) bb.size)
  have z_u := kk.size
  clear ka ha n1 kb kk
  go_wp2_with fail
  exact bodyPost_ret (v := .tuple #[.int .i64 v, .int .i64 u]) (by simp [results, Try.results35, go_sem]) rfl ⟨v, u, rfl, bb⟩

set_option maxHeartbeats 2000000 in
theorem drawSample_any (A : Option Addr) (n c hi : Nat) (xs : List Int) (w : World) (h : Rd w 0 hi A n xs) :
    Calls Try.prog 31 #[.slice A n c] w fun e w' => ∃ (k : Bool) (m s r ms : Int), e = .returned (.tuple #[.agg #[.bool k, .int .i64 m, .int .i64 s, .int .i64 r], .int .i64 ms]) ∧ Below w.heap.size w w' := by
  have htop := h.top
  go_enter Try.func31, Try.ntmps31
  go_wp2_with fail
  have hR := TBox.new w (.bool false) (.int .i64 0) (.int .i64 0) (.int .i64 0) 52
  have bb : Below w.heap.size w (w.alloc (.cells #[.bool false, .int .i64 0, .int .i64 0, .int .i64 0] 52)) := (Below.refl _ _).alloc (Nat.le_refl _) _
  have h0 := h.keep ((Keep.refl 0 0 w).alloc (.cells #[.bool false, .int .i64 0, .int .i64 0, .int .i64 0] 52)) (by omega)
  have z0 : (w.alloc (.cells #[.bool false, .int .i64 0, .int .i64 0, .int .i64 0] 52)).heap.size = w.heap.size + 1 := by simp
  generalize w.alloc (.cells #[.bool false, .int .i64 0, .int .i64 0, .int .i64 0] 52) = w0 at *
  refine (source_any A n c hi xs w0 h0).mono ?_
  rintro e w1 ⟨s, rfl, hs, s0, b1⟩
  have k1 := Keep.of_below b1 0 0
  have z1 := b1.size
  replace hR := hR.keepK (by omega) k1 (by omega)
  replace bb := bb.trans (b1.mono bb.size)
  clear b1 k1
  go_wp2_with fail
  refine (l6Draw_any s 0 A n c hi xs w1 hs (by omega)).mono ?_
  rintro e w2 ⟨k, m, sw, r, k2, rfl, hs2, hk2, ke2⟩
  have z2 := ke2.size
  replace hR := hR.keepK (by omega) ke2 (by omega)
  replace bb := bb.trans (ke2.below (by omega) bb.size)
  have hs1 := hs.1
  clear ke2 hs
  go_wp2_with fail
  have ka := (Keep.refl 0 0 w2).alloc (.cells ([0, 1, 50, 99, 5000, 5001, -1, 1000].map (Value.int .i64)).toArray 2)
  have ha := hs2.keep ka (by have := hs2.1; omega) (by omega)
  have n1 : w2.heap.size ≠ s := by have := hs2.1; omega
  refine (pick_any s (k2) w2.heap.size 8 A n c hi xs [0, 1, 50, 99, 5000, 5001, -1, 1000] 8 _ ha (by omega) rfl (by omega) (by omega) n1 (by simp) (row_cells w2 [0, 1, 50, 99, 5000, 5001, -1, 1000] _ _ rfl)).mono ?_
  rintro e w3 ⟨ms, m_ms, rfl, hs_ms, kb⟩
  have kk := ((Keep.refl s (s + 1) w2).alloc (.cells ([0, 1, 50, 99, 5000, 5001, -1, 1000].map (Value.int .i64)).toArray 2)).trans kb
  replace hR := hR.keepK (by omega) kk (by omega)
  replace bb := bb.trans (kk.below (by omega) bb.size)
  have z_ms := kk.size
  clear ka ha n1 kb kk
  have HF : Hid (∀ x0 x1 x2 x3 : Value, Below w.heap.size w ((((w3.setCell ⟨w.heap.size, 0, none⟩ x0).setCell ⟨w.heap.size, 1, none⟩ x1).setCell ⟨w.heap.size, 2, none⟩ x2).setCell ⟨w.heap.size, 3, none⟩ x3)) := fun x0 x1 x2 x3 => (((bb.setCell (Nat.le_refl _) _).setCell (Nat.le_refl _) _).setCell (Nat.le_refl _) _).setCell (Nat.le_refl _) _
  obtain ⟨r0, r1, r2, r3, _, _, _, _⟩ := (hR.set (.bool k) (.int .i64 m) (.int .i64 sw) (.int .i64 r)).1
  obtain ⟨q0, q1, q2, q3, p0, p1, p2, p3⟩ := hR
  clear bb
  go_wp2_with fail
  exact bodyPost_ret (v := .tuple #[.agg #[.bool k, .int .i64 m, .int .i64 sw, .int .i64 r], .int .i64 ms]) (by simp [results, Try.results31, go_sem, r0, r1, r2, r3]) rfl ⟨k, m, sw, r, ms, rfl, HF.out _ _ _ _⟩
end Go.Proofs.Ytlgpbnngepkkmaa
