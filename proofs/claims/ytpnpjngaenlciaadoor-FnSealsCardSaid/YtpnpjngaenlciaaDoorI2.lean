/-
  The words of a block, by the developers' function: impl.blockWords.
-/
import Derived.Test.YtpnpjngaenlciaaDoorI1
import Derived.Test.YtpnpjngaenlciaaDoorGet
import Derived.Test.YtpnpjngaenlciaaDoorLwB
import Derived.Deep.MidRow
import Derived.StillTailTactics
namespace Go.Proofs.YtpnpjngaenlciaaDoor
open Go.RowKit
set_option linter.unusedVariables false
set_option maxRecDepth 100000

theorem implGet4 (A : Option Addr) (c lo hi : Nat) (xs : List Int) (w : World) (h : Rd w lo hi A 4 xs) :
    Calls Tryd.prog 52 #[.slice A 4 c] w fun e w' => e = .returned (.agg #[.int .i64 0, .int .i64 (val xs)]) ∧ Below w.heap.size w w' := by
  have := implGet_any A 4 c lo hi xs w h
  rw [if_pos (by omega)] at this
  exact this

/-- n words, as a list of cells. -/
def WL (n : Nat) (V : Nat → Int) : List Value := (List.range n).map fun j => .int .u32 (V j)
theorem WL_len (n : Nat) (V : Nat → Int) : (WL n V).length = n := by simp [WL]
theorem WL_at (n : Nat) (V : Nat → Int) (j : Nat) (h : j < n) : (WL n V)[j]? = some (.int .u32 (V j)) := by simp [WL, h]
theorem WL_one (n : Nat) (V : Nat → Int) : ∀ v ∈ WL n V, v.oneCell' = true := by
  intro v hv
  simp only [WL, List.mem_map] at hv
  obtain ⟨_, _, rfl⟩ := hv
  rfl
theorem Wd.range {w : World} {g n : Nat} {V : Nat → Int} (h : Wd w g n V) : w.rangeAt g 0 (WL n V) := fun j v hv => by
  have hj : j < n := by
    have := (List.getElem?_eq_some_iff.1 hv).1
    rwa [WL_len] at this
  rw [Nat.zero_add, h.cell hj, ← hv, WL_at n V j hj]
theorem Wd.there {w : World} {g n : Nat} {V : Nat → Int} (h : Wd w g n V) : w.there g 0 n := fun j hj => by
  rw [Nat.zero_add, h.cell hj]
  exact ⟨rfl, h.frozen j⟩
theorem Below.setCells {B : Nat} {a : World} {b : Nat} (hb : B ≤ b) : ∀ (vs : List Value) (o : Nat) (w : World), Below B a w → Below B a (w.setCells b o vs)
  | [], _, _, h => h
  | v :: r, o, w, h => by
    rw [World.setCells]
    exact Below.setCells hb r (o + 1) _ (h.setCell (p := ⟨b, o, none⟩) hb v)

theorem size_w64 : (Tryd.prog.info? 115).map (·.size) = some 64 := by kernel_rfl
def zeros64 : List Int := List.replicate 64 0
theorem field_int (x v : Int) : ∀ w : World, (Instr.field 68 (.agg #[.int .i64 x, .int .i64 v]) 1).run Tryd.prog w = .ok (.int .i64 v) w := fun _ => by kernel_rfl
theorem zeros64_at (j : Nat) : zeros64.getD j 0 = 0 := by
  rw [zeros64, List.getD_eq_getElem?_getD, List.getElem?_replicate]; split <;> rfl
theorem zeros64_len : zeros64.length = 64 := by rw [zeros64, List.length_replicate]
/-- Two new rows of 64 zeros. -/
theorem two_rows (w : World) (xs : List Int) (cs : Array Value) (t : TypeId) (hz : cs = (zeros64.map (Value.int .u32)).toArray) :
    Wd ((w.alloc (.cells cs t)).alloc (.cells cs t)) w.heap.size 64 (fun _ => 0) ∧ Wd ((w.alloc (.cells cs t)).alloc (.cells cs t)) (w.heap.size + 1) 64 (W1 xs 0) ∧ Below w.heap.size w ((w.alloc (.cells cs t)).alloc (.cells cs t)) := by
  have h1 := (Wd.new w cs t zeros64 hz).congr (V' := fun _ => 0) (fun j _ => zeros64_at j)
  have h2 := (Wd.new (w.alloc (.cells cs t)) cs t zeros64 hz).congr (V' := W1 xs 0) (fun j _ => (zeros64_at j).trans (by simp [W1]))
  rw [zeros64_len] at h1 h2
  rw [World.size_alloc] at h2
  have hl := h1.lt
  exact ⟨h1.keep ((Keep.refl 0 0 _).alloc _) (by omega), h2, ((Below.refl _ _).alloc (Nat.le_refl _) _).alloc (by simp) _⟩
theorem wrap_u32_val (xs : List Int) (hb : ∀ x ∈ xs, 0 ≤ x ∧ x ≤ 255) (k : Nat) : IntKind.u32.wrap (val (part xs k 4)) = val (part xs k 4) := by
  have := part_val xs hb k
  rw [IntKind.wrap_u32]
  omega
theorem nextW_walk (V : Nat → Int) (t : Nat) : (V (t - 16) + V (t - 7) + sig0 (V (t - 15)) + sig1 (V (t - 2))) % 4294967296 = nextW V t := by
  unfold nextW; omega

set_option maxRecDepth 100000 in
set_option maxHeartbeats 2000000 in
theorem blockWords_any (b off c hi : Nat) (xs : List Int) (w : World) (h : Rd w 0 hi (some ⟨b, off, none⟩) 64 xs) (hc64 : 64 ≤ c) :
    Calls Tryd.prog 87 #[.slice (some ⟨b, off, none⟩) 64 c] w fun e w' => e = .returned (.agg (WL 64 (Ws xs 48)).toArray) ∧ Below w.heap.size w w' := by
  have hbyte := h.byte
  have HS2 := Lib.hid (two_rows w xs)
  go_enter Tryd.func87, Tryd.ntmps87
  go_wp2_with fail
  go_loopw [5, 8] (fun p i wr => ∃ k : Nat, k ≤ 16 ∧ i = .int .i64 k ∧ Wd wr w.heap.size 64 (fun _ => 0) ∧ Wd wr (w.heap.size + 1) 64 (W1 xs k) ∧ Below w.heap.size w wr) (fun _ i _ => 16 - (intOf i).toNat)
  case atStart => exact ⟨0, Nat.zero_le _, rfl, HS2.out _ _ rfl⟩
  case round =>
    obtain ⟨k, hk, rfl, h0, hw, hb⟩ := hrel
    by_cases hlt : k < 16
    · have hp := ((h.part_ (4 * k) 4 (by omega)).keep (Keep.of_below hb 0 0) (by omega)).wide (Nat.zero_le 0) (Nat.le_refl _) (Nat.le_trans h.top hb.size)
      have hval := wrap_u32_val xs hbyte (4 * k)
      have hck : ¬ c = 4 * k := by omega
      have hk1 : (k : Int) < 64 := by omega
      have hk2 : (k : Int) < 16 := by omega
      have e1 : (k : Int) * 4 = ((4 * k : Nat) : Int) := by omega
      have e2 : ((k : Int) + 1) * 4 = ((4 * k + 4 : Nat) : Int) := by omega
      have hc1 := hw.cell (show k < 64 by omega)
      have z := hb.size
      have hwl := hw.lt
      clear h
      go_wp2_with fail
      refine (implGet4 _ _ _ _ _ _ hp).mono ?_
      rintro e w1 ⟨rfl, hb1⟩
      have kk := Keep.of_below hb1 0 0
      have h01 := h0.keep kk (by omega)
      have hw1 := hw.keep kk (by omega)
      have bb := hb.trans (hb1.mono z)
      have hc2 := hw1.cell (show k < 64 by omega)
      have hf2 := hw1.frozen k
      have hs := hw1.set_ (show k < 64 by omega) (val (part xs (4 * k) 4))
      rw [W1_step] at hs
      have ks : Keep (w.heap.size + 1) (w.heap.size + 2) w1 (w1.setCell ⟨w.heap.size + 1, k, none⟩ (.int .u32 (val (part xs (4 * k) 4)))) := (Keep.refl _ _ _).setCell (p := ⟨w.heap.size + 1, k, none⟩) ⟨Nat.le_refl _, Nat.lt_succ_self _⟩ _
      have h02 := h01.keep ks (by omega)
      have bb2 := bb.setCell (p := ⟨w.heap.size + 1, k, none⟩) (Nat.le_succ _) (.int .u32 (val (part xs (4 * k) 4)))
      generalize val (part xs (4 * k) 4) = v at *
      have hfld := field_int 0 v
      have HS := Lib.hid hs
      have H0 := Lib.hid h02
      have HB := Lib.hid bb2
      clear hs h02 bb2 hw1 h01 bb hb1 kk hp h0 hw hb ks hc1
      go_wp2_with fail
      go_roundw
      case rel => exact ⟨k + 1, by omega, by go_num, H0.out, HS.out, HB.out⟩
      case measure => simp [intOf]; omega
    · have hw16 : Wd wr (w.heap.size + 1) 64 (Ws xs 0) := by
        have e : k = 16 := by omega
        rw [e] at hw; exact hw
      have hkk : ¬ (k : Int) < 16 := by omega
      clear h hw
      go_wp2_with fail
      go_loopw [6] (fun i wx => ∃ m : Nat, m ≤ 48 ∧ i = .int .i64 (16 + (m : Int)) ∧ Wd wx w.heap.size 64 (fun _ => 0) ∧ Wd wx (w.heap.size + 1) 64 (Ws xs m) ∧ Below w.heap.size w wx) (fun i _ => 64 - (intOf i).toNat)
      case atStart => exact ⟨0, Nat.zero_le _, rfl, h0, hw16, hb⟩
      case round =>
        obtain ⟨m, hm, rfl, h0, hw, hb⟩ := hrel
        by_cases hlt : m < 48
        · have c1 := hw.cell (show 16 + m - 15 < 64 by omega)
          have c2 := hw.cell (show 16 + m - 2 < 64 by omega)
          have c3 := hw.cell (show m < 64 by omega)
          have c4 := hw.cell (show 16 + m - 7 < 64 by omega)
          have c5 := hw.cell (show 16 + m < 64 by omega)
          have f5 := hw.frozen (16 + m)
          have u1 := Ws_u32 xs hbyte m (16 + m - 15)
          have u2 := Ws_u32 xs hbyte m (16 + m - 2)
          have hs : Wd (wr.setCell ⟨w.heap.size + 1, 16 + m, none⟩ (.int .u32 (nextW (Ws xs m) (16 + m)))) (w.heap.size + 1) 64 (Ws xs (m + 1)) := hw.set_ (show 16 + m < 64 by omega) (nextW (Ws xs m) (16 + m))
          have ks : Keep (w.heap.size + 1) (w.heap.size + 2) wr (wr.setCell ⟨w.heap.size + 1, 16 + m, none⟩ (.int .u32 (nextW (Ws xs m) (16 + m)))) := (Keep.refl _ _ _).setCell (p := ⟨w.heap.size + 1, 16 + m, none⟩) ⟨Nat.le_refl _, Nat.lt_succ_self _⟩ _
          have h02 := h0.keep ks (by omega)
          have hb2 := hb.setCell (p := ⟨w.heap.size + 1, 16 + m, none⟩) (Nat.le_succ _) (.int .u32 (nextW (Ws xs m) (16 + m)))
          rw [← nextW_walk, show 16 + m - 16 = m from by omega] at hs h02 hb2
          have g1 : (16 : Int) + (m : Int) < 64 := by omega
          have x0 : IntKind.i64.wrap (16 + (m : Int) - 16) = (m : Int) := by rw [IntKind.wrap_i64]; omega
          have x1 : IntKind.i64.wrap (16 + (m : Int) - 15) = ((16 + m - 15 : Nat) : Int) := by rw [IntKind.wrap_i64]; omega
          have x2 : IntKind.i64.wrap (16 + (m : Int) - 2) = ((16 + m - 2 : Nat) : Int) := by rw [IntKind.wrap_i64]; omega
          have x7 : IntKind.i64.wrap (16 + (m : Int) - 7) = ((16 + m - 7 : Nat) : Int) := by rw [IntKind.wrap_i64]; omega
          have y0 : (m : Int) < 64 := by omega
          have y1 : ((16 + m - 15 : Nat) : Int) < 64 := by omega
          have y2 : ((16 + m - 2 : Nat) : Int) < 64 := by omega
          have y7 : ((16 + m - 7 : Nat) : Int) < 64 := by omega
          have y16 : (0 : Int) ≤ 16 + (m : Int) := by omega
          generalize Ws xs m m = v0 at *
          generalize Ws xs m (16 + m - 15) = v1 at *
          generalize Ws xs m (16 + m - 7) = v9 at *
          generalize Ws xs m (16 + m - 2) = v14 at *
          generalize Ws xs m (16 + m) = v16 at *
          generalize 16 + m - 15 = q1 at *
          generalize 16 + m - 2 = q2 at *
          generalize 16 + m - 7 = q7 at *
          have HS := Lib.hid hs
          have HB := Lib.hid hb2
          have H0 := Lib.hid h02
          clear hs hb2 h02 ks hw hb h0 HS2
          go_wp2_with fail
          go_still_tail 23, (by kernel_rfl)
          still_call ((sig0_at v1 _ u1).mono (fun _ _ ⟨he, hw⟩ => ⟨he, hw.symm⟩))
          repeat still_step
          still_call ((sig1_at v14 _ u2).mono (fun _ _ ⟨he, hw⟩ => ⟨he, hw.symm⟩))
          repeat still_step
          refine wpStill_nil ?_
          change wpList _ _ _ _ _ wr.drew
          clear x0 x1 x2 x7 y1 y2 y7
          go_wp2_with fail
          go_roundw
          case rel => exact ⟨m + 1, by omega, by go_num, H0.out.drew, HS.out.drew, HB.out.drew⟩
          case measure => simp [intOf]; omega
          exact ⟨⟨m + 1, by omega, by go_num, H0.out.drew, HS.out.drew, HB.out.drew⟩, by simp [intOf]; omega⟩
        · obtain rfl : m = 48 := by omega
          have r1 := hw.range
          have t0 := h0.there
          have hr2 := World.rangeAt_setCells_same wr w.heap.size 0 (WL 64 (Ws xs 48)) (by rw [WL_len]; exact t0)
          have b2 := Below.setCells (Nat.le_refl _) (WL 64 (Ws xs 48)) 0 wr hb
          have hone := all_oneCell_toArray (WL_one 64 (Ws xs 48))
          have hlen := WL_len 64 (Ws xs 48)
          generalize hL : WL 64 (Ws xs 48) = L at *
          have HLL := Lib.hid hL
          clear hL
          have hrs := run_loadVar_mid (P := Tryd.prog) _ w.heap.size 0 115 L _ hr2 Tryd.underlying115 rfl (by rw [hlen]; exact size_w64)
          have HRS := Lib.hid hrs
          clear hrs
          have HR := Lib.hid hr2
          have HB := Lib.hid b2
          clear h0 hw hb hr2 b2 hw16 HS2
          go_wp2_with (first
            | (refine wpList_load_mid rfl 115 (.tmp 3) rfl (w.heap.size + 1) 0 rfl L _ r1 Tryd.underlying115 rfl (by rw [hlen]; exact size_w64) ?_)
            | (refine wpList_store_mid rfl 115 (.tmp 2) (.tmp 52) rfl w.heap.size 0 L.toArray rfl rfl (by simpa [hlen] using t0) (by simpa [hlen] using size_w64) hone ?_))
          have hrs := HRS.out
          exact bodyPost_ret (v := .agg L.toArray) (by simp [results, Tryd.results87, Act.put, asAddr, hrs]) rfl ⟨by rw [HLL.out], HB.out⟩
end Go.Proofs.YtpnpjngaenlciaaDoor
