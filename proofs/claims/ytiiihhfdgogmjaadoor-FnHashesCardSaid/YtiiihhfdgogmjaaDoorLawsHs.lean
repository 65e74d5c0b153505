/-
  The walk of FnHashes.
-/
import Derived.Test.YtiiihhfdgogmjaaDoorLawsH
import Derived.Test.YtiiihhfdgogmjaaDoorLwB
import Derived.Test.YtiiihhfdgogmjaaDoorDraws2
namespace Go.Proofs.YtiiihhfdgogmjaaDoor
open Go.RowKit
set_option linter.unusedVariables false

set_option maxHeartbeats 4000000 in
theorem hashes (A : Option Addr) (n c : Nat) (xs : List Int) (w : World) (h : Rd w 0 w.heap.size A n xs) (hkt : Kt w) :
    Calls Tryd.prog 3 #[.slice A n c] w fun e w' => e = .returned (.bool true) ∧ Below w.heap.size w w' := by
  have hg0 := hkt.1
  by_cases hn : 1048576 < n
  · go_enter Tryd.func3, Tryd.ntmps3
    go_wp2_with fail
    refine (lwBig_any A n c w true (by simpa using hn)).mono ?_
    rintro e w1 ⟨rfl, rfl⟩
    go_wp2_with fail
    go_ret
    exact ⟨rfl, Below.refl _ _⟩
  go_enter Tryd.func3, Tryd.ntmps3
  go_wp2_with fail
  refine (lwBig_any A n c w false (by simpa using hn)).mono ?_
  rintro e w' ⟨rfl, rfl⟩
  have bb := Below.refl w.heap.size w
  go_wp2_with fail
  refine (drawHash_any A n c _ xs w h).mono ?_
  rintro e w1 ⟨g1, l1, c1, ds, rfl, hl1, d0, hb1⟩
  have hk1 := Keep.of_below hb1 0 0
  have hz1 := hb1.size
  replace h := h.keep hk1 (by omega)
  replace hkt := hkt.keep hk1 (by omega)
  replace bb := bb.trans (hk1.below (by omega) bb.size)
  clear hb1 hk1
  obtain ⟨p0, hp0⟩ : ∃ p, manyCode (300 < l1) = p := ⟨_, rfl⟩
  obtain ⟨z0, hz0⟩ : ∃ zs, manyAns (300 < l1) (hashL ds) = zs := ⟨_, rfl⟩
  have HP0 := Lib.hid hp0
  have HZ0 := Lib.hid hz0
  clear hp0 hz0
  go_wp2_with fail
  refine (bans_at (implHash_any _ l1 c1 _ ds w1 d0.rd0 (fun h => by cases h) hkt) HP0.out HZ0.out).mono ?_
  rintro e w2 ⟨G0, cap0, rfl, _, u0, hb2⟩
  have hk2 := Keep.of_below hb2 0 0
  have hz2 := hb2.size
  replace h := h.keep hk2 (by omega)
  replace hkt := hkt.keep hk2 (by omega)
  replace d0 := d0.keep hk2 (by omega)
  replace bb := bb.trans (hk2.below (by omega) bb.size)
  clear hb2 hk2
  go_wp2_with fail
  have hk3 := (Keep.refl 0 0 w2).alloc (.cells #[.int .i64 p0, .slice G0 z0.length cap0] 26)
  have bx0 := Box2.new w2 (.int .i64 p0) (.slice G0 z0.length cap0) 26
  have hz3 : w2.heap.size + 1 ≤ (w2.alloc (.cells #[.int .i64 p0, .slice G0 z0.length cap0] 26)).heap.size := by simp
  replace h := h.keep hk3 (by omega)
  replace hkt := hkt.keep hk3 (by omega)
  replace d0 := d0.keep hk3 (by omega)
  replace u0 := u0.keep hk3 (by omega)
  replace bb := bb.trans (hk3.below (by omega) bb.size)
  clear hk3
  generalize w2.alloc (.cells #[.int .i64 p0, .slice G0 z0.length cap0] 26) = w3 at *
  obtain ⟨p1, hp1⟩ : ∃ p, manyCode (300 < l1) = p := ⟨_, rfl⟩
  obtain ⟨z1, hz1⟩ : ∃ zs, manyAns (300 < l1) (padL ds) = zs := ⟨_, rfl⟩
  have HP1 := Lib.hid hp1
  have HZ1 := Lib.hid hz1
  clear hp1 hz1
  refine (bans_at (implPad_any _ l1 c1 _ ds w3 d0.rd0 (fun h => by cases h)) HP1.out HZ1.out).mono ?_
  rintro e w4 ⟨G1, cap1, rfl, hcap1, u1, hb4⟩
  have hk4 := Keep.of_below hb4 0 0
  have hz4 := hb4.size
  replace h := h.keep hk4 (by omega)
  replace hkt := hkt.keep hk4 (by omega)
  replace d0 := d0.keep hk4 (by omega)
  replace u0 := u0.keep hk4 (by omega)
  replace bx0 := bx0.keep hk4 (by omega)
  replace bb := bb.trans (hk4.below (by omega) bb.size)
  clear hb4 hk4
  go_wp2_with fail
  have hk5 := (Keep.refl 0 0 w4).alloc (.cells #[.int .i64 p1, .slice G1 z1.length cap1] 26)
  have bx1 := Box2.new w4 (.int .i64 p1) (.slice G1 z1.length cap1) 26
  have hz5 : w4.heap.size + 1 ≤ (w4.alloc (.cells #[.int .i64 p1, .slice G1 z1.length cap1] 26)).heap.size := by simp
  replace h := h.keep hk5 (by omega)
  replace hkt := hkt.keep hk5 (by omega)
  replace d0 := d0.keep hk5 (by omega)
  replace u0 := u0.keep hk5 (by omega)
  replace bx0 := bx0.keep hk5 (by omega)
  replace u1 := u1.keep hk5 (by omega)
  replace bb := bb.trans (hk5.below (by omega) bb.size)
  clear hk5
  generalize w4.alloc (.cells #[.int .i64 p1, .slice G1 z1.length cap1] 26) = w5 at *
  refine (drawMac_any A n c _ xs w5 h).mono ?_
  rintro e w6 ⟨g2, l2, c2, g3, l3, c3, kv, dv, rfl, hl2, hl3, a0, b0, hb6⟩
  have hk6 := Keep.of_below hb6 0 0
  have hz6 := hb6.size
  replace h := h.keep hk6 (by omega)
  replace hkt := hkt.keep hk6 (by omega)
  replace d0 := d0.keep hk6 (by omega)
  replace u0 := u0.keep hk6 (by omega)
  replace bx0 := bx0.keep hk6 (by omega)
  replace u1 := u1.keep hk6 (by omega)
  replace bx1 := bx1.keep hk6 (by omega)
  replace bb := bb.trans (hk6.below (by omega) bb.size)
  clear hb6 hk6
  obtain ⟨p2, hp2⟩ : ∃ p, manyCode (300 < l3 ∨ 64 < l2) = p := ⟨_, rfl⟩
  obtain ⟨z2, hz2⟩ : ∃ zs, manyAns (300 < l3 ∨ 64 < l2) (macL kv dv) = zs := ⟨_, rfl⟩
  have HP2 := Lib.hid hp2
  have HZ2 := Lib.hid hz2
  clear hp2 hz2
  go_wp2_with fail
  refine (bans_at (implMac_at _ _ l2 c2 l3 c3 _ _ kv dv w6 a0.rd0 b0.rd0 (fun h => by cases h) (fun h => by cases h) hkt) HP2.out HZ2.out).mono ?_
  rintro e w7 ⟨G2, cap2, rfl, _, u2, hb7⟩
  have hk7 := Keep.of_below hb7 0 0
  have hz7 := hb7.size
  replace h := h.keep hk7 (by omega)
  replace hkt := hkt.keep hk7 (by omega)
  replace d0 := d0.keep hk7 (by omega)
  replace u0 := u0.keep hk7 (by omega)
  replace bx0 := bx0.keep hk7 (by omega)
  replace u1 := u1.keep hk7 (by omega)
  replace bx1 := bx1.keep hk7 (by omega)
  replace a0 := a0.keep hk7 (by omega)
  replace b0 := b0.keep hk7 (by omega)
  replace bb := bb.trans (hk7.below (by omega) bb.size)
  clear hb7 hk7
  go_wp2_with fail
  have hk8 := (Keep.refl 0 0 w7).alloc (.cells #[.int .i64 p2, .slice G2 z2.length cap2] 26)
  have bx2 := Box2.new w7 (.int .i64 p2) (.slice G2 z2.length cap2) 26
  have hz8 : w7.heap.size + 1 ≤ (w7.alloc (.cells #[.int .i64 p2, .slice G2 z2.length cap2] 26)).heap.size := by simp
  replace h := h.keep hk8 (by omega)
  replace hkt := hkt.keep hk8 (by omega)
  replace d0 := d0.keep hk8 (by omega)
  replace u0 := u0.keep hk8 (by omega)
  replace bx0 := bx0.keep hk8 (by omega)
  replace u1 := u1.keep hk8 (by omega)
  replace bx1 := bx1.keep hk8 (by omega)
  replace a0 := a0.keep hk8 (by omega)
  replace b0 := b0.keep hk8 (by omega)
  replace u2 := u2.keep hk8 (by omega)
  replace bb := bb.trans (hk8.below (by omega) bb.size)
  clear hk8
  generalize w7.alloc (.cells #[.int .i64 p2, .slice G2 z2.length cap2] 26) = w8 at *
  clear hkt
  have e00 := bx0.2.1
  have e01 := bx0.2.2
  have e10 := bx1.2.1
  have e11 := bx1.2.2
  have e20 := bx2.2.1
  have e21 := bx2.2.2
  have t0 := bx0.1
  have t1 := bx1.1
  have t2 := bx2.1
  have dd : Keep 0 0 w8 w8.drew := ⟨rfl, rfl, rfl, Nat.le_refl _, fun _ _ _ => rfl⟩
  replace h := h.keep dd (by omega)
  replace d0 := d0.keep dd (by omega)
  replace u0 := u0.keep dd (by omega)
  replace u1 := u1.keep dd (by omega)
  replace a0 := a0.keep dd (by omega)
  replace b0 := b0.keep dd (by omega)
  replace u2 := u2.keep dd (by omega)
  replace bb := bb.trans (dd.below (by omega) bb.size)
  have szd : w8.heap.size ≤ w8.drew.heap.size := Nat.le_refl _
  clear bx0 bx1 bx2 dd
  go_region_held3 (fun w' => w'.cell? ⟨w2.heap.size, 0, none⟩ = some (.int .i64 p0) ∧ w'.cell? ⟨w2.heap.size, 1, none⟩ = some (.slice G0 z0.length cap0) ∧ w'.cell? ⟨w4.heap.size, 0, none⟩ = some (.int .i64 p1) ∧ w'.cell? ⟨w4.heap.size, 1, none⟩ = some (.slice G1 z1.length cap1) ∧ w'.cell? ⟨w7.heap.size, 0, none⟩ = some (.int .i64 p2) ∧ w'.cell? ⟨w7.heap.size, 1, none⟩ = some (.slice G2 z2.length cap2))
    (first
      | go_keep
      | (go_split_ands; refine ⟨?_, ?_, ?_, ?_, ?_, ?_⟩ <;> ((refine (hb.cell (by simp; omega)).trans ?_); assumption)))
    (first
      | (go_at_call 13; refine (bans_at (specHash_any _ l1 c1 _ ds _ d0.rd0 (fun h => by cases h)) HP0.out HZ0.out).mono ?_; rintro e v1 ⟨Gx, capx, rfl, _, ux, hb⟩; have kx := Keep.of_below hb 0 0; have szx := hb.size; replace h := h.keep kx (by omega); replace d0 := d0.keep kx (by omega); replace u0 := u0.keep kx (by omega); replace u1 := u1.keep kx (by omega); replace a0 := a0.keep kx (by omega); replace b0 := b0.keep kx (by omega); replace u2 := u2.keep kx (by omega); replace bb := bb.trans (kx.below (by omega) bb.size); have uxr := ux.1; have u0r := u0.1)
      | (go_at_call 12; refine (lwBytes_true _ _ _ _ _ _ _ _ _ _ _ _ (by assumption) (by assumption)).mono ?_; rintro e v2 ⟨rfl, hb⟩; have kx := Keep.of_below hb 0 0; have szx := hb.size; replace h := h.keep kx (by omega); replace d0 := d0.keep kx (by omega); replace u0 := u0.keep kx (by omega); replace u1 := u1.keep kx (by omega); replace a0 := a0.keep kx (by omega); replace b0 := b0.keep kx (by omega); replace u2 := u2.keep kx (by omega); replace bb := bb.trans (kx.below (by omega) bb.size))
      | (go_at_call 14; refine (bans_at (specPad_any _ l1 c1 _ ds _ d0.rd0 (fun h => by cases h)) HP1.out HZ1.out).mono ?_; rintro e v3 ⟨Gy, capy, rfl, _, uy, hb⟩; have kx := Keep.of_below hb 0 0; have szx := hb.size; replace h := h.keep kx (by omega); replace d0 := d0.keep kx (by omega); replace u0 := u0.keep kx (by omega); replace u1 := u1.keep kx (by omega); replace a0 := a0.keep kx (by omega); replace b0 := b0.keep kx (by omega); replace u2 := u2.keep kx (by omega); replace bb := bb.trans (kx.below (by omega) bb.size); have uyr := uy.1; have u1r := u1.1)
      | (go_at_call 15; refine (bans_at (specMac_at _ _ l2 c2 l3 c3 _ _ kv dv _ a0.rd0 b0.rd0 (fun h => by cases h) (fun h => by cases h)) HP2.out HZ2.out).mono ?_; rintro e v4 ⟨Gz, capz, rfl, _, uz, hb⟩; have kx := Keep.of_below hb 0 0; have szx := hb.size; replace h := h.keep kx (by omega); replace d0 := d0.keep kx (by omega); replace u0 := u0.keep kx (by omega); replace u1 := u1.keep kx (by omega); replace a0 := a0.keep kx (by omega); replace b0 := b0.keep kx (by omega); replace u2 := u2.keep kx (by omega); replace bb := bb.trans (kx.below (by omega) bb.size); have uzr := uz.1; have u2r := u2.1))
  
  rename_i hHeld
  obtain ⟨f00, f01, f10, f11, f20, f21⟩ := hHeld
  have bx0 : Box2 v2 w2.heap.size (.int .i64 p0) (.slice G0 z0.length cap0) := ⟨by omega, f00, f01⟩
  have bx1 : Box2 v2 w4.heap.size (.int .i64 p1) (.slice G1 z1.length cap1) := ⟨by omega, f10, f11⟩
  have bx2 : Box2 v2 w7.heap.size (.int .i64 p2) (.slice G2 z2.length cap2) := ⟨by omega, f20, f21⟩
  clear f00 f01 f10 f11 f20 f21 e00 e01 e10 e11 e20 e21 uxr u0r uyr u1r uzr u2r ux uy uz h hb kx
  by_cases hk : 300 < l1
  · have hp0 : p0 = 2 := by rw [← HP0.out]; exact if_pos hk
    have hp1 : p1 = 2 := by rw [← HP1.out]; exact if_pos hk
    subst hp0 hp1
    generalize z0.length = q0 at *
    generalize z1.length = q1 at *
    by_cases hm : 300 < l3 ∨ 64 < l2
    · have hp2 : p2 = 2 := by rw [← HP2.out]; exact if_pos hm
      subst hp2
      generalize z2.length = q2 at *
      clear HP0 HP1 HP2 HZ0 HZ1 HZ2 hm hk
      have bx0c0 := bx0.2.1
      have bx0c1 := bx0.2.2
      have bx1c0 := bx1.2.1
      have bx1c1 := bx1.2.2
      have bx2c0 := bx2.2.1
      have bx2c1 := bx2.2.2
      go_wp2_with fail
      clear bx0c0 bx0c1
      clear bx1c0 bx1c1
      clear bx2c0 bx2c1
      go_ret
      exact ⟨rfl, bb⟩
    · have hp2 : p2 = 0 := by rw [← HP2.out]; exact if_neg hm
      have hn2 : z2.length = 32 := by rw [← HZ2.out]; unfold manyAns; rw [if_neg hm, macL_len]
      subst hp2
      generalize z2.length = q2 at *
      have g5 : ((q2 : Int) == 32) = true := by simp; omega
      clear hn2
      clear HP0 HP1 HP2 HZ0 HZ1 HZ2 hm hk
      have bx0c0 := bx0.2.1
      have bx0c1 := bx0.2.2
      have bx1c0 := bx1.2.1
      have bx1c1 := bx1.2.2
      have bx2c0 := bx2.2.1
      have bx2c1 := bx2.2.2
      go_wp2_with fail
      clear bx0c0 bx0c1
      clear bx1c0 bx1c1
      clear bx2c0 bx2c1
      go_ret
      exact ⟨rfl, bb⟩
  · have hp0 : p0 = 0 := by rw [← HP0.out]; exact if_neg hk
    have hp1 : p1 = 0 := by rw [← HP1.out]; exact if_neg hk
    have hz0 : z0 = hashL ds := by rw [← HZ0.out]; exact if_neg hk
    have hz1 : z1 = padL ds := by rw [← HZ1.out]; exact if_neg hk
    have hn0 : z0.length = 32 := by rw [hz0, hashL_len]
    have hdl := d0.1.len
    have hpl : z1.length = padEnd l1 + 8 := by rw [hz1, padL_len, hdl]
    have hpe := padEnd_at l1
    have hpg := padEnd_ge l1
    have hcut : Rd v2 0 v2.heap.size G1 l1 ds := by
      have hr := u1.rd0
      have hpt : part z1 0 l1 = ds := by
        rw [hz1]
        unfold part padL pads
        rw [List.drop_zero, List.append_assoc, ← hdl, List.take_left]
      obtain ⟨b, off, rfl, _, _, _⟩ := hr.at_ (by omega)
      have := hr.part_ 0 l1 (by omega)
      rw [hpt] at this
      exact this.wide (Nat.le_refl _) u1.1.top (Nat.le_refl _)
    subst hp0 hp1
    generalize hq0 : z0.length = q0 at *
    generalize hq1 : z1.length = q1 at *
    have g1 : ((q0 : Int) == 32) = true := by simp; omega
    have g2 : ((q1 : Int) % 64 != 0) = false := by simp; omega
    have g3 : ¬ (q1 : Int) < (l1 : Int) + 9 := by omega
    have g4 : (l1 : Int) ≤ (cap1 : Int) := by omega
    clear hz0 hz1 hn0 hpl hpe hpg hq0 hq1
    by_cases hm : 300 < l3 ∨ 64 < l2
    · have hp2 : p2 = 2 := by rw [← HP2.out]; exact if_pos hm
      subst hp2
      generalize z2.length = q2 at *
      clear HP0 HP1 HP2 HZ0 HZ1 HZ2 hm hk
      have bx0c0 := bx0.2.1
      have bx0c1 := bx0.2.2
      have bx1c0 := bx1.2.1
      have bx1c1 := bx1.2.2
      have bx2c0 := bx2.2.1
      have bx2c1 := bx2.2.2
      go_wp2_with fail
      clear bx0c0 bx0c1
      clear bx1c0 bx1c1
      clear bx2c0 bx2c1
      refine (lwSame_any _ _ l1 _ l1 _ _ _ _ _ ds ds v2 hcut d0.1).mono ?_
      rintro e vq ⟨rfl, rfl⟩
      have de : decide (ds = ds) = true := by simp
      have bx0c0 := bx0.2.1
      have bx0c1 := bx0.2.2
      have bx1c0 := bx1.2.1
      have bx1c1 := bx1.2.2
      have bx2c0 := bx2.2.1
      have bx2c1 := bx2.2.2
      go_wp2_with fail
      clear bx0c0 bx0c1
      clear bx1c0 bx1c1
      clear bx2c0 bx2c1
      go_ret
      exact ⟨rfl, bb⟩
    · have hp2 : p2 = 0 := by rw [← HP2.out]; exact if_neg hm
      have hn2 : z2.length = 32 := by rw [← HZ2.out]; unfold manyAns; rw [if_neg hm, macL_len]
      subst hp2
      generalize z2.length = q2 at *
      have g5 : ((q2 : Int) == 32) = true := by simp; omega
      clear hn2
      clear HP0 HP1 HP2 HZ0 HZ1 HZ2 hm hk
      have bx0c0 := bx0.2.1
      have bx0c1 := bx0.2.2
      have bx1c0 := bx1.2.1
      have bx1c1 := bx1.2.2
      have bx2c0 := bx2.2.1
      have bx2c1 := bx2.2.2
      go_wp2_with fail
      clear bx0c0 bx0c1
      clear bx1c0 bx1c1
      clear bx2c0 bx2c1
      refine (lwSame_any _ _ l1 _ l1 _ _ _ _ _ ds ds v2 hcut d0.1).mono ?_
      rintro e vq ⟨rfl, rfl⟩
      have de : decide (ds = ds) = true := by simp
      have bx0c0 := bx0.2.1
      have bx0c1 := bx0.2.2
      have bx1c0 := bx1.2.1
      have bx1c1 := bx1.2.2
      have bx2c0 := bx2.2.1
      have bx2c1 := bx2.2.2
      go_wp2_with fail
      clear bx0c0 bx0c1
      clear bx1c0 bx1c1
      clear bx2c0 bx2c1
      go_ret
      exact ⟨rfl, bb⟩
end Go.Proofs.YtiiihhfdgogmjaaDoor
