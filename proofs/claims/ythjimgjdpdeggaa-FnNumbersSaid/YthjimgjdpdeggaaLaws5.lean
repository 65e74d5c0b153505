/-
  The walk of FnNumbers.
-/
import Derived.Test.YthjimgjdpdeggaaMath1
import Derived.Test.YthjimgjdpdeggaaMix2
import Derived.Test.YthjimgjdpdeggaaBR
import Derived.Test.YthjimgjdpdeggaaLaws2
import Derived.Test.YthjimgjdpdeggaaLaws3
import Derived.Test.YthjimgjdpdeggaaLaws4
import Derived.Test.YthjimgjdpdeggaaDraws1
namespace Go.Proofs.Ythjimgjdpdeggaa
open Go.RowKit
set_option linter.unusedVariables false

theorem implGet_at (gc gv : Int) (A : Option Addr) (n c lo hi : Nat) (xs : List Int) (w : World) (h : Rd w lo hi A n xs) (hg : getAns n xs = (gc, gv)) :
    Calls Try.prog 12 #[.slice A n c] w fun e w' => e = .returned (.agg #[.int .i64 gc, .int .i64 gv]) ∧ Below w.heap.size w w' := by
  have := implGet_ans A n c lo hi xs w h
  rw [hg] at this
  exact this
theorem specGet_at (gc gv : Int) (A : Option Addr) (n c lo hi : Nat) (xs : List Int) (w : World) (h : Rd w lo hi A n xs) (hg : getAns n xs = (gc, gv)) :
    Calls Try.prog 18 #[.slice A n c] w fun e w' => e = .returned (.agg #[.int .i64 gc, .int .i64 gv]) ∧ Below w.heap.size w w' := by
  have := specGet_ans A n c lo hi xs w h
  rw [hg] at this
  exact this

set_option maxHeartbeats 400000 in
theorem lwBig_any (A : Option Addr) (n c : Nat) (w : World) (r : Bool) (hr : decide (1048576 < n) = r) :
    Calls Try.prog 8 #[.slice A n c] w fun e w' => e = .returned (.bool r) ∧ w = w' := by
  subst hr
  go_enter Try.func8, Try.ntmps8
  go_wp2_with fail
  go_ret
  exact ⟨ret_bool (by simp; omega), rfl⟩

set_option maxHeartbeats 400000 in
theorem lwBytes_true (x : Int) (A A' : Option Addr) (n c c' lo hi lo' hi' : Nat) (xs : List Int) (w : World) (h : Rd w lo hi A n xs) (h' : Rd w lo' hi' A' n xs) :
    Calls Try.prog 16 #[.agg #[.int .i64 x, .slice A n c], .agg #[.int .i64 x, .slice A' n c']] w fun e w' => e = .returned (.bool true) ∧ Below w.heap.size w w' := by
  have k1 := ((Keep.refl 0 0 w).alloc (.cells #[.int .i64 x, .slice A n c] 27)).alloc (.cells #[.int .i64 x, .slice A' n c'] 27)
  have r := h.keep k1 (by omega)
  have r' := h'.keep k1 (by omega)
  have hb : Below w.heap.size w ((w.alloc (.cells #[.int .i64 x, .slice A n c] 27)).alloc (.cells #[.int .i64 x, .slice A' n c'] 27)) := ((Below.refl _ w).alloc (Nat.le_refl _) _).alloc (by simp) _
  have HB := Lib.hid hb
  clear k1 hb
  go_enter Try.func16, Try.ntmps16
  go_wp2_with fail
  refine (lwSame_any _ _ n c n c' _ _ _ _ xs xs _ r r').mono ?_
  rintro e w1 ⟨rfl, rfl⟩
  go_wp2_with fail
  go_ret
  exact ⟨ret_bool (by simp), HB.out⟩

theorem field_bytes (x : Int) (G : Option Addr) (n c : Nat) : ∀ w : World, (Instr.field 27 (.agg #[.int .i64 x, .slice G n c]) 1).run Try.prog w = .ok (.slice G n c) w := fun _ => by kernel_rfl

set_option maxHeartbeats 4000000 in
theorem numbers (A : Option Addr) (n c : Nat) (xs : List Int) (w : World) (h : Rd w 0 w.heap.size A n xs) :
    Calls Try.prog 3 #[.slice A n c] w fun e w' => e = .returned (.bool true) ∧ Below w.heap.size w w' := by
  by_cases hn : 1048576 < n
  · go_enter Try.func3, Try.ntmps3
    go_wp2_with fail
    refine (lwBig_any A n c w true (by simpa using hn)).mono ?_
    rintro e w1 ⟨rfl, rfl⟩
    go_wp2_with fail
    go_ret
    exact ⟨rfl, Below.refl _ _⟩
  go_enter Try.func3, Try.ntmps3
  go_wp2_with fail
  refine (lwBig_any A n c w false (by simpa using hn)).mono ?_
  rintro e w' ⟨rfl, rfl⟩
  have bb := Below.refl w.heap.size w
  go_wp2_with fail
  refine (drawPut_any A n c _ xs w h).mono ?_
  rintro e w1 ⟨a, sz, rfl, ha, hs, hb1⟩
  have hk1 := Keep.of_below hb1 0 0
  have hz1 := hb1.size
  replace h := h.keep hk1 (by omega)
  replace bb := bb.trans (hk1.below (by omega) bb.size)
  clear hb1 hk1
  obtain ⟨p, hp⟩ : ∃ p, putCode a sz = p := ⟨_, rfl⟩
  obtain ⟨l, hl⟩ : ∃ l, putLen a sz = l := ⟨_, rfl⟩
  obtain ⟨zs, hz⟩ : ∃ zs, digs a (putLen a sz) = zs := ⟨_, rfl⟩
  have hl3 : l ≤ 7 := hl ▸ putLen_le a sz
  have HP := Lib.hid hp
  have HL := Lib.hid hl
  have HZ := Lib.hid hz
  clear hp hl hz
  go_wp2_with fail
  refine (implPut_ans a sz p l zs w1 ha hs HP.out HL.out HZ.out).mono ?_
  rintro e w2 ⟨G, cap, rfl, u0, hb2⟩
  have hk2 := Keep.of_below hb2 0 0
  have hz2 := hb2.size
  replace h := h.keep hk2 (by omega)
  replace bb := bb.trans (hk2.below (by omega) bb.size)
  clear hb2 hk2
  go_wp2_with fail
  have hk3 := (Keep.refl 0 0 w2).alloc (.cells #[.int .i64 p, .slice G l cap] 27)
  have bx0 := Box2.new w2 (.int .i64 p) (.slice G l cap) 27
  have hz3 : w2.heap.size + 1 ≤ (w2.alloc (.cells #[.int .i64 p, .slice G l cap] 27)).heap.size := by simp
  replace h := h.keep hk3 (by omega)
  replace u0 := u0.keep hk3 (by omega)
  replace bb := bb.trans (hk3.below (by omega) bb.size)
  clear hk3
  generalize w2.alloc (.cells #[.int .i64 p, .slice G l cap] 27) = w3 at *
  refine (drawGet_any A n c _ xs w3 h).mono ?_
  rintro e w4 ⟨g1, l1, c1, ds, rfl, hl1, d0, hb4⟩
  have hk4 := Keep.of_below hb4 0 0
  have hz4 := hb4.size
  replace h := h.keep hk4 (by omega)
  replace u0 := u0.keep hk4 (by omega)
  replace bx0 := bx0.keep hk4 (by omega)
  replace bb := bb.trans (hk4.below (by omega) bb.size)
  clear hb4 hk4
  obtain ⟨⟨gc, gv⟩, hg⟩ : ∃ q, getAns l1 ds = q := ⟨_, rfl⟩
  have HG := Lib.hid hg
  clear hg
  go_wp2_with fail
  refine (implGet_at gc gv _ l1 c1 _ _ ds w4 d0.1 HG.out).mono ?_
  rintro e w5 ⟨rfl, hb5⟩
  have hk5 := Keep.of_below hb5 0 0
  have hz5 := hb5.size
  replace h := h.keep hk5 (by omega)
  replace u0 := u0.keep hk5 (by omega)
  replace bx0 := bx0.keep hk5 (by omega)
  replace d0 := d0.keep hk5 (by omega)
  replace bb := bb.trans (hk5.below (by omega) bb.size)
  clear hb5 hk5
  go_wp2_with fail
  have hk6 := (Keep.refl 0 0 w5).alloc (.cells #[.int .i64 gc, .int .i64 gv] 31)
  have bx1 := Box2.new w5 (.int .i64 gc) (.int .i64 gv) 31
  have hz6 : w5.heap.size + 1 ≤ (w5.alloc (.cells #[.int .i64 gc, .int .i64 gv] 31)).heap.size := by simp
  replace h := h.keep hk6 (by omega)
  replace u0 := u0.keep hk6 (by omega)
  replace bx0 := bx0.keep hk6 (by omega)
  replace d0 := d0.keep hk6 (by omega)
  replace bb := bb.trans (hk6.below (by omega) bb.size)
  clear hk6
  generalize w5.alloc (.cells #[.int .i64 gc, .int .i64 gv] 31) = w6 at *
  refine (drawMix_any A n c _ xs w6 h).mono ?_
  rintro e w7 ⟨g2, l2, c2, g3, l3, c3, av, bv, rfl, hl2, hl3', a0, b0, hb7⟩
  have hk7 := Keep.of_below hb7 0 0
  have hz7 := hb7.size
  replace h := h.keep hk7 (by omega)
  replace u0 := u0.keep hk7 (by omega)
  replace bx0 := bx0.keep hk7 (by omega)
  replace d0 := d0.keep hk7 (by omega)
  replace bx1 := bx1.keep hk7 (by omega)
  replace bb := bb.trans (hk7.below (by omega) bb.size)
  clear hb7 hk7
  obtain ⟨mc, hmc⟩ : ∃ p, mixCode l2 l3 = p := ⟨_, rfl⟩
  obtain ⟨ml, hml⟩ : ∃ l, mixLen l2 l3 = l := ⟨_, rfl⟩
  obtain ⟨ms, hms⟩ : ∃ zs, mix (mixLen l2 l3) av bv = zs := ⟨_, rfl⟩
  have hml3 : ml ≤ 300 := hml ▸ mixLen_le l2 l3
  have MC := Lib.hid hmc
  have ML := Lib.hid hml
  have MS := Lib.hid hms
  clear hmc hml hms
  go_wp2_with fail
  refine (implMix_ans _ _ l2 c2 l3 c3 _ _ _ _ av bv ms mc ml w7 MC.out ML.out MS.out a0.1 b0.1).mono ?_
  rintro e w8 ⟨G4, c4, rfl, m0, hb8⟩
  have hk8 := Keep.of_below hb8 0 0
  have hz8 := hb8.size
  replace h := h.keep hk8 (by omega)
  replace u0 := u0.keep hk8 (by omega)
  replace bx0 := bx0.keep hk8 (by omega)
  replace d0 := d0.keep hk8 (by omega)
  replace bx1 := bx1.keep hk8 (by omega)
  replace a0 := a0.keep hk8 (by omega)
  replace b0 := b0.keep hk8 (by omega)
  replace bb := bb.trans (hk8.below (by omega) bb.size)
  clear hb8 hk8
  go_wp2_with fail
  have hk9 := (Keep.refl 0 0 w8).alloc (.cells #[.int .i64 mc, .slice G4 ml c4] 27)
  have bx2 := Box2.new w8 (.int .i64 mc) (.slice G4 ml c4) 27
  have hz9 : w8.heap.size + 1 ≤ (w8.alloc (.cells #[.int .i64 mc, .slice G4 ml c4] 27)).heap.size := by simp
  replace h := h.keep hk9 (by omega)
  replace u0 := u0.keep hk9 (by omega)
  replace bx0 := bx0.keep hk9 (by omega)
  replace d0 := d0.keep hk9 (by omega)
  replace bx1 := bx1.keep hk9 (by omega)
  replace a0 := a0.keep hk9 (by omega)
  replace b0 := b0.keep hk9 (by omega)
  replace m0 := m0.keep hk9 (by omega)
  replace bb := bb.trans (hk9.below (by omega) bb.size)
  clear hk9
  generalize w8.alloc (.cells #[.int .i64 mc, .slice G4 ml c4] 27) = w9 at *
  refine (drawSame_any A n c _ xs w9 h).mono ?_
  rintro e w10 ⟨g5, l5, c5, g6, l6, c6, es, fs, rfl, hl5, hl6, x0, y0, hb10⟩
  have hk10 := Keep.of_below hb10 0 0
  have hz10 := hb10.size
  replace h := h.keep hk10 (by omega)
  replace u0 := u0.keep hk10 (by omega)
  replace bx0 := bx0.keep hk10 (by omega)
  replace d0 := d0.keep hk10 (by omega)
  replace bx1 := bx1.keep hk10 (by omega)
  replace a0 := a0.keep hk10 (by omega)
  replace b0 := b0.keep hk10 (by omega)
  replace m0 := m0.keep hk10 (by omega)
  replace bx2 := bx2.keep hk10 (by omega)
  replace bb := bb.trans (hk10.below (by omega) bb.size)
  clear hb10 hk10
  go_wp2_with fail
  have e00 := bx0.2.1
  have e01 := bx0.2.2
  have e10 := bx1.2.1
  have e11 := bx1.2.2
  have e20 := bx2.2.1
  have e21 := bx2.2.2
  have t0 := bx0.1
  have t1 := bx1.1
  have t2 := bx2.1
  have dd : Keep 0 0 w10 w10.drew := ⟨rfl, rfl, rfl, Nat.le_refl _, fun _ _ _ => rfl⟩
  replace h := h.keep dd (by omega)
  replace u0 := u0.keep dd (by omega)
  replace d0 := d0.keep dd (by omega)
  replace a0 := a0.keep dd (by omega)
  replace b0 := b0.keep dd (by omega)
  replace m0 := m0.keep dd (by omega)
  replace x0 := x0.keep dd (by omega)
  replace y0 := y0.keep dd (by omega)
  replace bb := bb.trans (dd.below (by omega) bb.size)
  have sz10 : w10.heap.size ≤ w10.drew.heap.size := Nat.le_refl _
  clear bx0 bx1 bx2 dd
  go_region_held3 (fun w' => w'.cell? ⟨w2.heap.size, 0, none⟩ = some (.int .i64 p) ∧ w'.cell? ⟨w2.heap.size, 1, none⟩ = some (.slice G l cap) ∧ w'.cell? ⟨w5.heap.size, 0, none⟩ = some (.int .i64 gc) ∧ w'.cell? ⟨w5.heap.size, 1, none⟩ = some (.int .i64 gv) ∧ w'.cell? ⟨w8.heap.size, 0, none⟩ = some (.int .i64 mc) ∧ w'.cell? ⟨w8.heap.size, 1, none⟩ = some (.slice G4 ml c4))
    (first
      | go_keep
      | (go_split_ands; refine ⟨?_, ?_, ?_, ?_, ?_, ?_⟩ <;> ((refine (hb.cell (by simp; omega)).trans ?_); assumption)))
    (first
      | (go_at_call 17; refine (specPut_ans a sz p l zs _ ha hs HP.out HL.out HZ.out).mono ?_; rintro e v1 ⟨Gx, capx, rfl, ux, hb⟩; have kx := Keep.of_below hb 0 0; have szx := hb.size; replace h := h.keep kx (by omega); replace u0 := u0.keep kx (by omega); replace d0 := d0.keep kx (by omega); replace a0 := a0.keep kx (by omega); replace b0 := b0.keep kx (by omega); replace m0 := m0.keep kx (by omega); replace x0 := x0.keep kx (by omega); replace y0 := y0.keep kx (by omega); replace bb := bb.trans (kx.below (by omega) bb.size); have uxr := ux.1; have u0r := u0.1)
      | (go_at_call 16; refine (lwBytes_true _ _ _ _ _ _ _ _ _ _ _ _ (by assumption) (by assumption)).mono ?_; rintro e v2 ⟨rfl, hb⟩; have kx := Keep.of_below hb 0 0; have szx := hb.size; replace h := h.keep kx (by omega); replace u0 := u0.keep kx (by omega); replace d0 := d0.keep kx (by omega); replace a0 := a0.keep kx (by omega); replace b0 := b0.keep kx (by omega); replace m0 := m0.keep kx (by omega); replace x0 := x0.keep kx (by omega); replace y0 := y0.keep kx (by omega); replace bb := bb.trans (kx.below (by omega) bb.size); have d0r := d0.1)
      | (go_at_call 18; refine (specGet_at gc gv _ _ _ _ _ ds _ d0.1 HG.out).mono ?_; rintro e v3 ⟨rfl, hb⟩; have kx := Keep.of_below hb 0 0; have szx := hb.size; replace h := h.keep kx (by omega); replace u0 := u0.keep kx (by omega); replace d0 := d0.keep kx (by omega); replace a0 := a0.keep kx (by omega); replace b0 := b0.keep kx (by omega); replace m0 := m0.keep kx (by omega); replace x0 := x0.keep kx (by omega); replace y0 := y0.keep kx (by omega); replace bb := bb.trans (kx.below (by omega) bb.size))
      | (go_at_call 19; refine (specMix_ans _ _ l2 c2 l3 c3 _ _ _ _ av bv ms mc ml _ MC.out ML.out MS.out a0.1 b0.1).mono ?_; rintro e v4 ⟨Gy, capy, rfl, uy, hb⟩; have kx := Keep.of_below hb 0 0; have szx := hb.size; replace h := h.keep kx (by omega); replace u0 := u0.keep kx (by omega); replace d0 := d0.keep kx (by omega); replace a0 := a0.keep kx (by omega); replace b0 := b0.keep kx (by omega); replace m0 := m0.keep kx (by omega); replace x0 := x0.keep kx (by omega); replace y0 := y0.keep kx (by omega); replace bb := bb.trans (kx.below (by omega) bb.size); have uyr := uy.1; have m0r := m0.1)
      | (go_at_call 20; refine (implSame_any _ _ l5 c5 l6 c6 _ _ _ _ es fs _ x0.1 y0.1).mono ?_; rintro e v5 ⟨rfl, rfl⟩)
      | (go_at_call 21; refine (lwSame_any _ _ l5 c5 l6 c6 _ _ _ _ es fs _ x0.1 y0.1).mono ?_; rintro e v6 ⟨rfl, rfl⟩))
  
  rename_i hHeld
  obtain ⟨f00, f01, f10, f11, f20, f21⟩ := hHeld
  have bx0 : Box2 v2 w2.heap.size (.int .i64 p) (.slice G l cap) := ⟨by omega, f00, f01⟩
  have bx1 : Box2 v2 w5.heap.size (.int .i64 gc) (.int .i64 gv) := ⟨by omega, f10, f11⟩
  have bx2 : Box2 v2 w8.heap.size (.int .i64 mc) (.slice G4 ml c4) := ⟨by omega, f20, f21⟩
  clear f00 f01 f10 f11 f20 f21 e00 e01 e10 e11 e20 e21 uxr u0r d0r uyr m0r ux uy h x0 y0 hb kx
  by_cases hok : PutOk a sz
  · have hp0 : p = 0 := by rw [← HP.out]; exact putCode_ok hok
    have hll : l = sz.toNat := by rw [← HL.out]; exact putLen_ok hok
    have hzz : zs = digs a l := by rw [← HZ.out, HL.out]
    have hsh : sh a l = 0 := by rw [hll]; exact hok.2.2.2
    have GA : Hid (getAns l zs = (0, a)) := by
      show _ = _
      unfold getAns
      rw [if_pos ⟨by have := hok.1; omega, by omega⟩, hzz, val_digs a l hsh]
    subst hp0
    clear hll hzz hsh
    clear HP HL HZ hok
    by_cases hgk : 1 ≤ l1 ∧ l1 ≤ 7
    · have hgq : gc = 0 ∧ gv = val ds := by
        have := HG.out
        unfold getAns at this
        rw [if_pos hgk] at this
        injection this with e1 e2
        exact ⟨e1.symm, e2.symm⟩
      obtain ⟨rfl, rfl⟩ := hgq
      have hdl := d0.1.len
      have hdb := d0.1.byte
      have hpo : PutOk (val ds) (l1 : Int) := by
        have := put_of_get ds hdb (by omega) (by omega)
        rw [hdl] at this
        exact this
      have PC : Hid (putCode (val ds) (l1 : Int) = 0) := putCode_ok hpo
      have PL : Hid (putLen (val ds) (l1 : Int) = l1) := by
        show _ = _
        rw [putLen_ok hpo, Int.toNat_natCast]
      have PZ : Hid (digs (val ds) (putLen (val ds) (l1 : Int)) = ds) := by
        show _ = _
        rw [PL.out, ← hdl]
        exact digs_val ds hdb
      have hv : -9223372036854775808 ≤ val ds ∧ val ds ≤ 9223372036854775807 := by
        have h1 := val_max ds hdb (by omega)
        have h2 := hpo.2.2.1
        omega
      clear hdl hdb hpo
      clear HG
      by_cases hmk : l3 < l2 ∨ 300 < l2
      · have hmq : mc = 2 := by rw [← MC.out]; exact mixCode_bad hmk
        subst hmq
        clear MC ML MS hmk hgk
        have bx0c0 := bx0.2.1
        have bx0c1 := bx0.2.2
        have bx1c0 := bx1.2.1
        have bx1c1 := bx1.2.2
        have bx2c0 := bx2.2.1
        have bx2c1 := bx2.2.2
        go_wp2_with fail
        clear bx0c0 bx0c1
        clear bx1c0 bx1c1
        clear bx2c0 bx2c1
        refine (implGet_at 0 a _ _ _ _ _ zs v2 u0.1 GA.out).mono ?_
        rintro e w41 ⟨rfl, hb41⟩
        have hk41 := Keep.of_below hb41 0 0
        have hz41 := hb41.size
        replace u0 := u0.keep hk41 (by omega)
        replace d0 := d0.keep hk41 (by omega)
        replace a0 := a0.keep hk41 (by omega)
        replace b0 := b0.keep hk41 (by omega)
        replace m0 := m0.keep hk41 (by omega)
        replace bx0 := bx0.keep hk41 (by omega)
        replace bx1 := bx1.keep hk41 (by omega)
        replace bx2 := bx2.keep hk41 (by omega)
        replace bb := bb.trans (hk41.below (by omega) bb.size)
        clear hb41 hk41
        have bx0c0 := bx0.2.1
        have bx0c1 := bx0.2.2
        have bx1c0 := bx1.2.1
        have bx1c1 := bx1.2.2
        have bx2c0 := bx2.2.1
        have bx2c1 := bx2.2.2
        go_wp2_with fail
        clear bx0c0 bx0c1
        clear bx1c0 bx1c1
        clear bx2c0 bx2c1
        refine (implPut_ans (val ds) (l1 : Int) 0 l1 ds w41 hv (by omega) PC.out PL.out PZ.out).mono ?_
        rintro e w42 ⟨G6, cap6, rfl, u6, hb42⟩
        have hk42 := Keep.of_below hb42 0 0
        have hz42 := hb42.size
        replace u0 := u0.keep hk42 (by omega)
        replace d0 := d0.keep hk42 (by omega)
        replace a0 := a0.keep hk42 (by omega)
        replace b0 := b0.keep hk42 (by omega)
        replace m0 := m0.keep hk42 (by omega)
        replace bx0 := bx0.keep hk42 (by omega)
        replace bx1 := bx1.keep hk42 (by omega)
        replace bx2 := bx2.keep hk42 (by omega)
        replace bb := bb.trans (hk42.below (by omega) bb.size)
        clear hb42 hk42
        have fb := field_bytes 0 G6 l1 cap6
        go_wp2_with fail
        refine (lwSame_any _ _ l1 _ l1 _ _ _ _ _ ds ds w42 u6.1 d0.1).mono ?_
        rintro e vq ⟨rfl, rfl⟩
        have de : decide (ds = ds) = true := by simp
        have bx0c0 := bx0.2.1
        have bx0c1 := bx0.2.2
        have bx1c0 := bx1.2.1
        have bx1c1 := bx1.2.2
        have bx2c0 := bx2.2.1
        have bx2c1 := bx2.2.2
        go_wp2_with fail
        clear bx0c0 bx0c1
        clear bx1c0 bx1c1
        clear bx2c0 bx2c1
        go_ret
        exact ⟨rfl, bb⟩
      · have hmq : mc = 0 := by rw [← MC.out]; exact mixCode_good hmk
        have hmlq : ml = l2 := by rw [← ML.out]; exact mixLen_good hmk
        subst hmq hmlq
        have hms : ms = mix ml av bv := by rw [← MS.out, mixLen_good hmk]
        have hal := a0.1.len
        have hab := a0.1.byte
        have hbl := b0.1.len
        have hbb := b0.1.byte
        have MMC : Hid (mixCode ml l3 = 0) := mixCode_good hmk
        have MML : Hid (mixLen ml l3 = ml) := mixLen_good hmk
        have MMS : Hid (mix (mixLen ml l3) ms bv = av) := by
          show _ = _
          rw [MML.out, hms, ← hal]
          exact mix_mix av bv hab hbb (by omega)
        clear hms hal hab hbl hbb
        clear MC ML MS hmk hgk
        have bx0c0 := bx0.2.1
        have bx0c1 := bx0.2.2
        have bx1c0 := bx1.2.1
        have bx1c1 := bx1.2.2
        have bx2c0 := bx2.2.1
        have bx2c1 := bx2.2.2
        go_wp2_with fail
        clear bx0c0 bx0c1
        clear bx1c0 bx1c1
        clear bx2c0 bx2c1
        refine (implGet_at 0 a _ _ _ _ _ zs v2 u0.1 GA.out).mono ?_
        rintro e w41 ⟨rfl, hb41⟩
        have hk41 := Keep.of_below hb41 0 0
        have hz41 := hb41.size
        replace u0 := u0.keep hk41 (by omega)
        replace d0 := d0.keep hk41 (by omega)
        replace a0 := a0.keep hk41 (by omega)
        replace b0 := b0.keep hk41 (by omega)
        replace m0 := m0.keep hk41 (by omega)
        replace bx0 := bx0.keep hk41 (by omega)
        replace bx1 := bx1.keep hk41 (by omega)
        replace bx2 := bx2.keep hk41 (by omega)
        replace bb := bb.trans (hk41.below (by omega) bb.size)
        clear hb41 hk41
        have bx0c0 := bx0.2.1
        have bx0c1 := bx0.2.2
        have bx1c0 := bx1.2.1
        have bx1c1 := bx1.2.2
        have bx2c0 := bx2.2.1
        have bx2c1 := bx2.2.2
        go_wp2_with fail
        clear bx0c0 bx0c1
        clear bx1c0 bx1c1
        clear bx2c0 bx2c1
        refine (implPut_ans (val ds) (l1 : Int) 0 l1 ds w41 hv (by omega) PC.out PL.out PZ.out).mono ?_
        rintro e w42 ⟨G6, cap6, rfl, u6, hb42⟩
        have hk42 := Keep.of_below hb42 0 0
        have hz42 := hb42.size
        replace u0 := u0.keep hk42 (by omega)
        replace d0 := d0.keep hk42 (by omega)
        replace a0 := a0.keep hk42 (by omega)
        replace b0 := b0.keep hk42 (by omega)
        replace m0 := m0.keep hk42 (by omega)
        replace bx0 := bx0.keep hk42 (by omega)
        replace bx1 := bx1.keep hk42 (by omega)
        replace bx2 := bx2.keep hk42 (by omega)
        replace bb := bb.trans (hk42.below (by omega) bb.size)
        clear hb42 hk42
        have fb := field_bytes 0 G6 l1 cap6
        go_wp2_with fail
        refine (lwSame_any _ _ l1 _ l1 _ _ _ _ _ ds ds w42 u6.1 d0.1).mono ?_
        rintro e vq ⟨rfl, rfl⟩
        have de : decide (ds = ds) = true := by simp
        have bx0c0 := bx0.2.1
        have bx0c1 := bx0.2.2
        have bx1c0 := bx1.2.1
        have bx1c1 := bx1.2.2
        have bx2c0 := bx2.2.1
        have bx2c1 := bx2.2.2
        go_wp2_with fail
        clear bx0c0 bx0c1
        clear bx1c0 bx1c1
        clear bx2c0 bx2c1
        refine (implMix_ans _ _ ml _ l3 _ _ _ _ _ ms bv av 0 ml w42 MMC.out MML.out MMS.out m0.1 b0.1).mono ?_
        rintro e w43 ⟨G7, cap7, rfl, u7, hb43⟩
        have hk43 := Keep.of_below hb43 0 0
        have hz43 := hb43.size
        replace u0 := u0.keep hk43 (by omega)
        replace d0 := d0.keep hk43 (by omega)
        replace a0 := a0.keep hk43 (by omega)
        replace b0 := b0.keep hk43 (by omega)
        replace m0 := m0.keep hk43 (by omega)
        replace bx0 := bx0.keep hk43 (by omega)
        replace bx1 := bx1.keep hk43 (by omega)
        replace bx2 := bx2.keep hk43 (by omega)
        replace u6 := u6.keep hk43 (by omega)
        replace bb := bb.trans (hk43.below (by omega) bb.size)
        clear hb43 hk43
        have fc := field_bytes 0 G7 ml cap7
        go_wp2_with fail
        refine (lwSame_any _ _ ml _ ml _ _ _ _ _ av av w43 u7.1 a0.1).mono ?_
        rintro e vr ⟨rfl, rfl⟩
        have df : decide (av = av) = true := by simp
        have bx0c0 := bx0.2.1
        have bx0c1 := bx0.2.2
        have bx1c0 := bx1.2.1
        have bx1c1 := bx1.2.2
        have bx2c0 := bx2.2.1
        have bx2c1 := bx2.2.2
        go_wp2_with fail
        clear bx0c0 bx0c1
        clear bx1c0 bx1c1
        clear bx2c0 bx2c1
        go_ret
        exact ⟨rfl, bb⟩
    · have hgq : gc = 2 ∧ gv = 0 := by
        have := HG.out
        unfold getAns at this
        rw [if_neg hgk] at this
        injection this with e1 e2
        exact ⟨e1.symm, e2.symm⟩
      obtain ⟨rfl, rfl⟩ := hgq
      clear HG
      by_cases hmk : l3 < l2 ∨ 300 < l2
      · have hmq : mc = 2 := by rw [← MC.out]; exact mixCode_bad hmk
        subst hmq
        clear MC ML MS hmk hgk
        have bx0c0 := bx0.2.1
        have bx0c1 := bx0.2.2
        have bx1c0 := bx1.2.1
        have bx1c1 := bx1.2.2
        have bx2c0 := bx2.2.1
        have bx2c1 := bx2.2.2
        go_wp2_with fail
        clear bx0c0 bx0c1
        clear bx1c0 bx1c1
        clear bx2c0 bx2c1
        refine (implGet_at 0 a _ _ _ _ _ zs v2 u0.1 GA.out).mono ?_
        rintro e w41 ⟨rfl, hb41⟩
        have hk41 := Keep.of_below hb41 0 0
        have hz41 := hb41.size
        replace u0 := u0.keep hk41 (by omega)
        replace d0 := d0.keep hk41 (by omega)
        replace a0 := a0.keep hk41 (by omega)
        replace b0 := b0.keep hk41 (by omega)
        replace m0 := m0.keep hk41 (by omega)
        replace bx0 := bx0.keep hk41 (by omega)
        replace bx1 := bx1.keep hk41 (by omega)
        replace bx2 := bx2.keep hk41 (by omega)
        replace bb := bb.trans (hk41.below (by omega) bb.size)
        clear hb41 hk41
        have bx0c0 := bx0.2.1
        have bx0c1 := bx0.2.2
        have bx1c0 := bx1.2.1
        have bx1c1 := bx1.2.2
        have bx2c0 := bx2.2.1
        have bx2c1 := bx2.2.2
        go_wp2_with fail
        clear bx0c0 bx0c1
        clear bx1c0 bx1c1
        clear bx2c0 bx2c1
        go_ret
        exact ⟨rfl, bb⟩
      · have hmq : mc = 0 := by rw [← MC.out]; exact mixCode_good hmk
        have hmlq : ml = l2 := by rw [← ML.out]; exact mixLen_good hmk
        subst hmq hmlq
        have hms : ms = mix ml av bv := by rw [← MS.out, mixLen_good hmk]
        have hal := a0.1.len
        have hab := a0.1.byte
        have hbl := b0.1.len
        have hbb := b0.1.byte
        have MMC : Hid (mixCode ml l3 = 0) := mixCode_good hmk
        have MML : Hid (mixLen ml l3 = ml) := mixLen_good hmk
        have MMS : Hid (mix (mixLen ml l3) ms bv = av) := by
          show _ = _
          rw [MML.out, hms, ← hal]
          exact mix_mix av bv hab hbb (by omega)
        clear hms hal hab hbl hbb
        clear MC ML MS hmk hgk
        have bx0c0 := bx0.2.1
        have bx0c1 := bx0.2.2
        have bx1c0 := bx1.2.1
        have bx1c1 := bx1.2.2
        have bx2c0 := bx2.2.1
        have bx2c1 := bx2.2.2
        go_wp2_with fail
        clear bx0c0 bx0c1
        clear bx1c0 bx1c1
        clear bx2c0 bx2c1
        refine (implGet_at 0 a _ _ _ _ _ zs v2 u0.1 GA.out).mono ?_
        rintro e w41 ⟨rfl, hb41⟩
        have hk41 := Keep.of_below hb41 0 0
        have hz41 := hb41.size
        replace u0 := u0.keep hk41 (by omega)
        replace d0 := d0.keep hk41 (by omega)
        replace a0 := a0.keep hk41 (by omega)
        replace b0 := b0.keep hk41 (by omega)
        replace m0 := m0.keep hk41 (by omega)
        replace bx0 := bx0.keep hk41 (by omega)
        replace bx1 := bx1.keep hk41 (by omega)
        replace bx2 := bx2.keep hk41 (by omega)
        replace bb := bb.trans (hk41.below (by omega) bb.size)
        clear hb41 hk41
        have bx0c0 := bx0.2.1
        have bx0c1 := bx0.2.2
        have bx1c0 := bx1.2.1
        have bx1c1 := bx1.2.2
        have bx2c0 := bx2.2.1
        have bx2c1 := bx2.2.2
        go_wp2_with fail
        clear bx0c0 bx0c1
        clear bx1c0 bx1c1
        clear bx2c0 bx2c1
        refine (implMix_ans _ _ ml _ l3 _ _ _ _ _ ms bv av 0 ml w41 MMC.out MML.out MMS.out m0.1 b0.1).mono ?_
        rintro e w42 ⟨G7, cap7, rfl, u7, hb42⟩
        have hk42 := Keep.of_below hb42 0 0
        have hz42 := hb42.size
        replace u0 := u0.keep hk42 (by omega)
        replace d0 := d0.keep hk42 (by omega)
        replace a0 := a0.keep hk42 (by omega)
        replace b0 := b0.keep hk42 (by omega)
        replace m0 := m0.keep hk42 (by omega)
        replace bx0 := bx0.keep hk42 (by omega)
        replace bx1 := bx1.keep hk42 (by omega)
        replace bx2 := bx2.keep hk42 (by omega)
        replace bb := bb.trans (hk42.below (by omega) bb.size)
        clear hb42 hk42
        have fc := field_bytes 0 G7 ml cap7
        go_wp2_with fail
        refine (lwSame_any _ _ ml _ ml _ _ _ _ _ av av w42 u7.1 a0.1).mono ?_
        rintro e vr ⟨rfl, rfl⟩
        have df : decide (av = av) = true := by simp
        have bx0c0 := bx0.2.1
        have bx0c1 := bx0.2.2
        have bx1c0 := bx1.2.1
        have bx1c1 := bx1.2.2
        have bx2c0 := bx2.2.1
        have bx2c1 := bx2.2.2
        go_wp2_with fail
        clear bx0c0 bx0c1
        clear bx1c0 bx1c1
        clear bx2c0 bx2c1
        go_ret
        exact ⟨rfl, bb⟩
  · have hp0 : p = 3 := by rw [← HP.out]; exact putCode_no hok
    subst hp0
    clear HP HL HZ hok
    by_cases hgk : 1 ≤ l1 ∧ l1 ≤ 7
    · have hgq : gc = 0 ∧ gv = val ds := by
        have := HG.out
        unfold getAns at this
        rw [if_pos hgk] at this
        injection this with e1 e2
        exact ⟨e1.symm, e2.symm⟩
      obtain ⟨rfl, rfl⟩ := hgq
      have hdl := d0.1.len
      have hdb := d0.1.byte
      have hpo : PutOk (val ds) (l1 : Int) := by
        have := put_of_get ds hdb (by omega) (by omega)
        rw [hdl] at this
        exact this
      have PC : Hid (putCode (val ds) (l1 : Int) = 0) := putCode_ok hpo
      have PL : Hid (putLen (val ds) (l1 : Int) = l1) := by
        show _ = _
        rw [putLen_ok hpo, Int.toNat_natCast]
      have PZ : Hid (digs (val ds) (putLen (val ds) (l1 : Int)) = ds) := by
        show _ = _
        rw [PL.out, ← hdl]
        exact digs_val ds hdb
      have hv : -9223372036854775808 ≤ val ds ∧ val ds ≤ 9223372036854775807 := by
        have h1 := val_max ds hdb (by omega)
        have h2 := hpo.2.2.1
        omega
      clear hdl hdb hpo
      clear HG
      by_cases hmk : l3 < l2 ∨ 300 < l2
      · have hmq : mc = 2 := by rw [← MC.out]; exact mixCode_bad hmk
        subst hmq
        clear MC ML MS hmk hgk
        have bx0c0 := bx0.2.1
        have bx0c1 := bx0.2.2
        have bx1c0 := bx1.2.1
        have bx1c1 := bx1.2.2
        have bx2c0 := bx2.2.1
        have bx2c1 := bx2.2.2
        go_wp2_with fail
        clear bx0c0 bx0c1
        clear bx1c0 bx1c1
        clear bx2c0 bx2c1
        refine (implPut_ans (val ds) (l1 : Int) 0 l1 ds v2 hv (by omega) PC.out PL.out PZ.out).mono ?_
        rintro e w41 ⟨G6, cap6, rfl, u6, hb41⟩
        have hk41 := Keep.of_below hb41 0 0
        have hz41 := hb41.size
        replace u0 := u0.keep hk41 (by omega)
        replace d0 := d0.keep hk41 (by omega)
        replace a0 := a0.keep hk41 (by omega)
        replace b0 := b0.keep hk41 (by omega)
        replace m0 := m0.keep hk41 (by omega)
        replace bx0 := bx0.keep hk41 (by omega)
        replace bx1 := bx1.keep hk41 (by omega)
        replace bx2 := bx2.keep hk41 (by omega)
        replace bb := bb.trans (hk41.below (by omega) bb.size)
        clear hb41 hk41
        have fb := field_bytes 0 G6 l1 cap6
        go_wp2_with fail
        refine (lwSame_any _ _ l1 _ l1 _ _ _ _ _ ds ds w41 u6.1 d0.1).mono ?_
        rintro e vq ⟨rfl, rfl⟩
        have de : decide (ds = ds) = true := by simp
        have bx0c0 := bx0.2.1
        have bx0c1 := bx0.2.2
        have bx1c0 := bx1.2.1
        have bx1c1 := bx1.2.2
        have bx2c0 := bx2.2.1
        have bx2c1 := bx2.2.2
        go_wp2_with fail
        clear bx0c0 bx0c1
        clear bx1c0 bx1c1
        clear bx2c0 bx2c1
        go_ret
        exact ⟨rfl, bb⟩
      · have hmq : mc = 0 := by rw [← MC.out]; exact mixCode_good hmk
        have hmlq : ml = l2 := by rw [← ML.out]; exact mixLen_good hmk
        subst hmq hmlq
        have hms : ms = mix ml av bv := by rw [← MS.out, mixLen_good hmk]
        have hal := a0.1.len
        have hab := a0.1.byte
        have hbl := b0.1.len
        have hbb := b0.1.byte
        have MMC : Hid (mixCode ml l3 = 0) := mixCode_good hmk
        have MML : Hid (mixLen ml l3 = ml) := mixLen_good hmk
        have MMS : Hid (mix (mixLen ml l3) ms bv = av) := by
          show _ = _
          rw [MML.out, hms, ← hal]
          exact mix_mix av bv hab hbb (by omega)
        clear hms hal hab hbl hbb
        clear MC ML MS hmk hgk
        have bx0c0 := bx0.2.1
        have bx0c1 := bx0.2.2
        have bx1c0 := bx1.2.1
        have bx1c1 := bx1.2.2
        have bx2c0 := bx2.2.1
        have bx2c1 := bx2.2.2
        go_wp2_with fail
        clear bx0c0 bx0c1
        clear bx1c0 bx1c1
        clear bx2c0 bx2c1
        refine (implPut_ans (val ds) (l1 : Int) 0 l1 ds v2 hv (by omega) PC.out PL.out PZ.out).mono ?_
        rintro e w41 ⟨G6, cap6, rfl, u6, hb41⟩
        have hk41 := Keep.of_below hb41 0 0
        have hz41 := hb41.size
        replace u0 := u0.keep hk41 (by omega)
        replace d0 := d0.keep hk41 (by omega)
        replace a0 := a0.keep hk41 (by omega)
        replace b0 := b0.keep hk41 (by omega)
        replace m0 := m0.keep hk41 (by omega)
        replace bx0 := bx0.keep hk41 (by omega)
        replace bx1 := bx1.keep hk41 (by omega)
        replace bx2 := bx2.keep hk41 (by omega)
        replace bb := bb.trans (hk41.below (by omega) bb.size)
        clear hb41 hk41
        have fb := field_bytes 0 G6 l1 cap6
        go_wp2_with fail
        refine (lwSame_any _ _ l1 _ l1 _ _ _ _ _ ds ds w41 u6.1 d0.1).mono ?_
        rintro e vq ⟨rfl, rfl⟩
        have de : decide (ds = ds) = true := by simp
        have bx0c0 := bx0.2.1
        have bx0c1 := bx0.2.2
        have bx1c0 := bx1.2.1
        have bx1c1 := bx1.2.2
        have bx2c0 := bx2.2.1
        have bx2c1 := bx2.2.2
        go_wp2_with fail
        clear bx0c0 bx0c1
        clear bx1c0 bx1c1
        clear bx2c0 bx2c1
        refine (implMix_ans _ _ ml _ l3 _ _ _ _ _ ms bv av 0 ml w41 MMC.out MML.out MMS.out m0.1 b0.1).mono ?_
        rintro e w42 ⟨G7, cap7, rfl, u7, hb42⟩
        have hk42 := Keep.of_below hb42 0 0
        have hz42 := hb42.size
        replace u0 := u0.keep hk42 (by omega)
        replace d0 := d0.keep hk42 (by omega)
        replace a0 := a0.keep hk42 (by omega)
        replace b0 := b0.keep hk42 (by omega)
        replace m0 := m0.keep hk42 (by omega)
        replace bx0 := bx0.keep hk42 (by omega)
        replace bx1 := bx1.keep hk42 (by omega)
        replace bx2 := bx2.keep hk42 (by omega)
        replace u6 := u6.keep hk42 (by omega)
        replace bb := bb.trans (hk42.below (by omega) bb.size)
        clear hb42 hk42
        have fc := field_bytes 0 G7 ml cap7
        go_wp2_with fail
        refine (lwSame_any _ _ ml _ ml _ _ _ _ _ av av w42 u7.1 a0.1).mono ?_
        rintro e vr ⟨rfl, rfl⟩
        have df : decide (av = av) = true := by simp
        have bx0c0 := bx0.2.1
        have bx0c1 := bx0.2.2
        have bx1c0 := bx1.2.1
        have bx1c1 := bx1.2.2
        have bx2c0 := bx2.2.1
        have bx2c1 := bx2.2.2
        go_wp2_with fail
        clear bx0c0 bx0c1
        clear bx1c0 bx1c1
        clear bx2c0 bx2c1
        go_ret
        exact ⟨rfl, bb⟩
    · have hgq : gc = 2 ∧ gv = 0 := by
        have := HG.out
        unfold getAns at this
        rw [if_neg hgk] at this
        injection this with e1 e2
        exact ⟨e1.symm, e2.symm⟩
      obtain ⟨rfl, rfl⟩ := hgq
      clear HG
      by_cases hmk : l3 < l2 ∨ 300 < l2
      · have hmq : mc = 2 := by rw [← MC.out]; exact mixCode_bad hmk
        subst hmq
        clear MC ML MS hmk hgk
        have bx0c0 := bx0.2.1
        have bx0c1 := bx0.2.2
        have bx1c0 := bx1.2.1
        have bx1c1 := bx1.2.2
        have bx2c0 := bx2.2.1
        have bx2c1 := bx2.2.2
        go_wp2_with fail
        clear bx0c0 bx0c1
        clear bx1c0 bx1c1
        clear bx2c0 bx2c1
        go_ret
        exact ⟨rfl, bb⟩
      · have hmq : mc = 0 := by rw [← MC.out]; exact mixCode_good hmk
        have hmlq : ml = l2 := by rw [← ML.out]; exact mixLen_good hmk
        subst hmq hmlq
        have hms : ms = mix ml av bv := by rw [← MS.out, mixLen_good hmk]
        have hal := a0.1.len
        have hab := a0.1.byte
        have hbl := b0.1.len
        have hbb := b0.1.byte
        have MMC : Hid (mixCode ml l3 = 0) := mixCode_good hmk
        have MML : Hid (mixLen ml l3 = ml) := mixLen_good hmk
        have MMS : Hid (mix (mixLen ml l3) ms bv = av) := by
          show _ = _
          rw [MML.out, hms, ← hal]
          exact mix_mix av bv hab hbb (by omega)
        clear hms hal hab hbl hbb
        clear MC ML MS hmk hgk
        have bx0c0 := bx0.2.1
        have bx0c1 := bx0.2.2
        have bx1c0 := bx1.2.1
        have bx1c1 := bx1.2.2
        have bx2c0 := bx2.2.1
        have bx2c1 := bx2.2.2
        go_wp2_with fail
        clear bx0c0 bx0c1
        clear bx1c0 bx1c1
        clear bx2c0 bx2c1
        refine (implMix_ans _ _ ml _ l3 _ _ _ _ _ ms bv av 0 ml v2 MMC.out MML.out MMS.out m0.1 b0.1).mono ?_
        rintro e w41 ⟨G7, cap7, rfl, u7, hb41⟩
        have hk41 := Keep.of_below hb41 0 0
        have hz41 := hb41.size
        replace u0 := u0.keep hk41 (by omega)
        replace d0 := d0.keep hk41 (by omega)
        replace a0 := a0.keep hk41 (by omega)
        replace b0 := b0.keep hk41 (by omega)
        replace m0 := m0.keep hk41 (by omega)
        replace bx0 := bx0.keep hk41 (by omega)
        replace bx1 := bx1.keep hk41 (by omega)
        replace bx2 := bx2.keep hk41 (by omega)
        replace bb := bb.trans (hk41.below (by omega) bb.size)
        clear hb41 hk41
        have fc := field_bytes 0 G7 ml cap7
        go_wp2_with fail
        refine (lwSame_any _ _ ml _ ml _ _ _ _ _ av av w41 u7.1 a0.1).mono ?_
        rintro e vr ⟨rfl, rfl⟩
        have df : decide (av = av) = true := by simp
        have bx0c0 := bx0.2.1
        have bx0c1 := bx0.2.2
        have bx1c0 := bx1.2.1
        have bx1c1 := bx1.2.2
        have bx2c0 := bx2.2.1
        have bx2c1 := bx2.2.2
        go_wp2_with fail
        clear bx0c0 bx0c1
        clear bx1c0 bx1c1
        clear bx2c0 bx2c1
        go_ret
        exact ⟨rfl, bb⟩
end Go.Proofs.Ythjimgjdpdeggaa
