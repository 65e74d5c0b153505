/-
  The walk of FnReplays.
-/
import Derived.Test.YtebdgdmdjgkboaaR10
import Derived.Test.YtebdgdmdjgkboaaR15
import Derived.Test.YtebdgdmdjgkboaaR16
import Derived.Test.YtebdgdmdjgkboaaM4
import Derived.Test.YtebdgdmdjgkboaaLwB
import Derived.Deep.RegionHeld3
import Derived.Deep.CutRange
namespace Go.Proofs.Ytebdgdmdjgkboaa
open Go.RowKit
set_option linter.unusedVariables false
set_option maxRecDepth 100000

theorem int_at {f : FuncId} {args : Array Value} {w : World} {c d : Int} {R : World → Prop} (h : Calls Try.prog f args w fun e w' => e = .returned (.int .i64 c) ∧ R w') (hc : c = d) : Calls Try.prog f args w fun e w' => e = .returned (.int .i64 d) ∧ R w' := hc ▸ h

theorem fault_first : faultCode (-1) [] = 0 := by decide

set_option maxHeartbeats 8000000 in
theorem replays (A : Option Addr) (n c : Nat) (xs : List Int) (w : World) (h : Rd w 0 w.heap.size A n xs) :
    Calls Try.prog 3 #[.slice A n c] w fun e w' => e = .returned (.bool true) ∧ Below w.heap.size w w' := by
  have hint := h.int
  by_cases hn : 1048576 < n
  · go_enter Try.func3, Try.ntmps3
    go_wp2_with fail
    refine (lwBig_any A n c w true (decide_eq_true hn)).mono ?_
    rintro e w0 ⟨rfl, rfl⟩
    go_wp2_with fail
    go_ret
    exact ⟨rfl, Below.refl _ _⟩
  go_enter Try.func3, Try.ntmps3
  have bb := Below.refl w.heap.size w
  go_wp2_with fail
  refine (lwBig_any A n c w false (decide_eq_false hn)).mono ?_
  rintro e w0 ⟨rfl, rfl⟩
  go_wp2_with fail
  refine (drawTake_any A n c _ xs w h).mono ?_
  rintro e w1 ⟨t, sq, G0, cap0, zr, rfl, ht, hsq, hzr, or0, hb1⟩
  have hk1 := Keep.of_below hb1 0 0
  have hz1 := hb1.size
  replace h := h.keep hk1 (by omega)
  replace bb := bb.trans (hk1.below (by omega) bb.size)
  clear hb1 hk1
  obtain ⟨cc, hcc⟩ : ∃ cc, checkCode t zr sq = cc := ⟨_, rfl⟩
  obtain ⟨mm, hmm⟩ : ∃ mm, tkTop t zr sq = mm := ⟨_, rfl⟩
  obtain ⟨zt, hzt⟩ : ∃ zt, tkSeen t zr sq = zt := ⟨_, rfl⟩
  obtain ⟨fc, hfc⟩ : ∃ fc, faultCode t zr = fc := ⟨_, rfl⟩
  have hlt : zt.length ≤ 23 := by have := tkSeen_len t zr sq; rw [hzt] at this; omega
  have HC := Lib.hid hcc
  have HM := Lib.hid hmm
  have HZ := Lib.hid hzt
  have HFC := Lib.hid hfc
  clear hcc hmm hzt hfc
  go_wp2_with fail
  have hk2 := (Keep.refl 0 0 w1).alloc (.cells #[.int .i64 t, .slice G0 zr.length cap0] 26)
  have br := Box2.new w1 (.int .i64 t) (.slice G0 zr.length cap0) 26
  have hz2 : w1.heap.size + 1 ≤ (w1.alloc (.cells #[.int .i64 t, .slice G0 zr.length cap0] 26)).heap.size := by simp
  replace h := h.keep hk2 (by omega)
  replace or0 := or0.keep hk2 (by omega)
  replace bb := bb.trans (hk2.below (by omega) bb.size)
  clear hk2
  generalize w1.alloc (.cells #[.int .i64 t, .slice G0 zr.length cap0] 26) = w2 at *
  refine (tk_at (implTake_any t sq G0 zr.length cap0 _ _ zr w2 or0.wi.1 (by omega) (by omega)) HC.out HM.out HZ.out).mono ?_
  rintro e w3 ⟨G1, cap1, rfl, ot, hb3⟩
  have hk3 := Keep.of_below hb3 0 0
  have hz3 := hb3.size
  replace h := h.keep hk3 (by omega)
  replace or0 := or0.keep hk3 (by omega)
  replace br := br.keep hk3 (by omega)
  replace bb := bb.trans (hk3.below (by omega) bb.size)
  clear hb3 hk3
  go_wp2_with fail
  have hk4 := (Keep.refl 0 0 w3).alloc (.cells #[.int .i64 cc, .int .i64 mm, .slice G1 zt.length cap1] 30)
  have bt := Box3.new w3 (.int .i64 cc) (.int .i64 mm) (.slice G1 zt.length cap1) 30
  have hz4 : w3.heap.size + 1 ≤ (w3.alloc (.cells #[.int .i64 cc, .int .i64 mm, .slice G1 zt.length cap1] 30)).heap.size := by simp
  replace h := h.keep hk4 (by omega)
  replace or0 := or0.keep hk4 (by omega)
  replace br := br.keep hk4 (by omega)
  replace ot := ot.keep hk4 (by omega)
  replace bb := bb.trans (hk4.below (by omega) bb.size)
  clear hk4
  generalize w3.alloc (.cells #[.int .i64 cc, .int .i64 mm, .slice G1 zt.length cap1] 30) = w4 at *
  refine (drawCheck_any A n c _ xs w4 h).mono ?_
  rintro e w5 ⟨tx, nx, G2, cap2, zx, rfl, htx, hnx, hzx, ox, hb5⟩
  have hk5 := Keep.of_below hb5 0 0
  have hz5 := hb5.size
  replace h := h.keep hk5 (by omega)
  replace or0 := or0.keep hk5 (by omega)
  replace br := br.keep hk5 (by omega)
  replace ot := ot.keep hk5 (by omega)
  replace bt := bt.keep hk5 (by omega)
  replace bb := bb.trans (hk5.below (by omega) bb.size)
  clear hb5 hk5
  obtain ⟨ck, hck⟩ : ∃ ck, checkCode tx zx nx = ck := ⟨_, rfl⟩
  have HK := Lib.hid hck
  clear hck
  go_wp2_with fail
  have hk6 := (Keep.refl 0 0 w5).alloc (.cells #[.int .i64 tx, .slice G2 zx.length cap2] 26)
  have bx := Box2.new w5 (.int .i64 tx) (.slice G2 zx.length cap2) 26
  have hz6 : w5.heap.size + 1 ≤ (w5.alloc (.cells #[.int .i64 tx, .slice G2 zx.length cap2] 26)).heap.size := by simp
  replace h := h.keep hk6 (by omega)
  replace or0 := or0.keep hk6 (by omega)
  replace br := br.keep hk6 (by omega)
  replace ot := ot.keep hk6 (by omega)
  replace bt := bt.keep hk6 (by omega)
  replace ox := ox.keep hk6 (by omega)
  replace bb := bb.trans (hk6.below (by omega) bb.size)
  clear hk6
  generalize w5.alloc (.cells #[.int .i64 tx, .slice G2 zx.length cap2] 26) = w6 at *
  refine (drawSame_any A n c _ xs w6 h).mono ?_
  rintro e w7 ⟨ta, tb, G3, G4, cap3, cap4, za, zb, rfl, hta, htb, hza, hzb, oa, ob, hb7⟩
  have hk7 := Keep.of_below hb7 0 0
  have hz7 := hb7.size
  replace h := h.keep hk7 (by omega)
  replace or0 := or0.keep hk7 (by omega)
  replace br := br.keep hk7 (by omega)
  replace ot := ot.keep hk7 (by omega)
  replace bt := bt.keep hk7 (by omega)
  replace ox := ox.keep hk7 (by omega)
  replace bx := bx.keep hk7 (by omega)
  replace bb := bb.trans (hk7.below (by omega) bb.size)
  clear hb7 hk7
  obtain ⟨rr, hrr⟩ : ∃ rr, decide (ta = tb ∧ za = zb) = rr := ⟨_, rfl⟩
  have HR := Lib.hid hrr
  clear hrr
  go_upto_region 7 with fail
  have ba : Box2 ((w7.alloc (.cells #[.int .i64 ta, .slice G3 za.length cap3] 26)).alloc (.cells #[.int .i64 tb, .slice G4 zb.length cap4] 26)) w7.heap.size (.int .i64 ta) (.slice G3 za.length cap3) := (Box2.new w7 _ _ _).keep ((Keep.refl 0 0 _).alloc _) (by omega)
  have bb2 : Box2 ((w7.alloc (.cells #[.int .i64 ta, .slice G3 za.length cap3] 26)).alloc (.cells #[.int .i64 tb, .slice G4 zb.length cap4] 26)) (w7.heap.size + 1) (.int .i64 tb) (.slice G4 zb.length cap4) := by simpa using Box2.new (w7.alloc (.cells #[.int .i64 ta, .slice G3 za.length cap3] 26)) (.int .i64 tb) (.slice G4 zb.length cap4) 26
  have hkq := ((Keep.refl 0 0 w7).alloc (.cells #[.int .i64 ta, .slice G3 za.length cap3] 26)).alloc (.cells #[.int .i64 tb, .slice G4 zb.length cap4] 26)
  replace h := h.keep hkq (by omega)
  replace or0 := or0.keep hkq (by omega)
  replace br := br.keep hkq (by omega)
  replace ot := ot.keep hkq (by omega)
  replace bt := bt.keep hkq (by omega)
  replace ox := ox.keep hkq (by omega)
  replace bx := bx.keep hkq (by omega)
  replace oa := oa.keep hkq (by omega)
  replace ob := ob.keep hkq (by omega)
  replace bb := bb.trans (hkq.below (by omega) bb.size)
  clear hkq
  have hzq : w7.heap.size + 2 ≤ ((w7.alloc (.cells #[.int .i64 ta, .slice G3 za.length cap3] 26)).alloc (.cells #[.int .i64 tb, .slice G4 zb.length cap4] 26)).heap.size := by simp
  generalize (w7.alloc (.cells #[.int .i64 ta, .slice G3 za.length cap3] 26)).alloc (.cells #[.int .i64 tb, .slice G4 zb.length cap4] 26) = wq at *
  go_wp2_with fail
  refine (implNewR_any wq).mono ?_
  rintro e w8 ⟨A9, c9, rfl, hb8⟩
  have hk8 := Keep.of_below hb8 0 0
  have hz8 := hb8.size
  replace h := h.keep hk8 (by omega)
  replace or0 := or0.keep hk8 (by omega)
  replace br := br.keep hk8 (by omega)
  replace ot := ot.keep hk8 (by omega)
  replace bt := bt.keep hk8 (by omega)
  replace ox := ox.keep hk8 (by omega)
  replace bx := bx.keep hk8 (by omega)
  replace oa := oa.keep hk8 (by omega)
  replace ob := ob.keep hk8 (by omega)
  replace ba := ba.keep hk8 (by omega)
  replace bb2 := bb2.keep hk8 (by omega)
  replace bb := bb.trans (hk8.below (by omega) bb.size)
  clear hb8 hk8
  go_wp2_with fail
  have hk9 := (Keep.refl 0 0 w8).alloc (.cells #[.int .i64 0, .int .i64 (-1), .slice A9 0 c9] 30)
  have bf := Box3.new w8 (.int .i64 0) (.int .i64 (-1)) (.slice A9 0 c9) 30
  have hz9 : w8.heap.size + 1 ≤ (w8.alloc (.cells #[.int .i64 0, .int .i64 (-1), .slice A9 0 c9] 30)).heap.size := by simp
  replace h := h.keep hk9 (by omega)
  replace or0 := or0.keep hk9 (by omega)
  replace br := br.keep hk9 (by omega)
  replace ot := ot.keep hk9 (by omega)
  replace bt := bt.keep hk9 (by omega)
  replace ox := ox.keep hk9 (by omega)
  replace bx := bx.keep hk9 (by omega)
  replace oa := oa.keep hk9 (by omega)
  replace ob := ob.keep hk9 (by omega)
  replace ba := ba.keep hk9 (by omega)
  replace bb2 := bb2.keep hk9 (by omega)
  replace bb := bb.trans (hk9.below (by omega) bb.size)
  clear hk9
  generalize w8.alloc (.cells #[.int .i64 0, .int .i64 (-1), .slice A9 0 c9] 30) = w9 at *
  clear h
  go_cut [89] from 34 to 89 (fun sv wx => sv = .bool false ∧ Below w9.heap.size w9 wx)
  case first =>
    have kd : Keep 0 0 w9 w9.drew := ⟨rfl, rfl, rfl, Nat.le_refl _, fun _ _ _ => rfl⟩
    have bd : Below w9.heap.size w9 w9.drew := ⟨rfl, rfl, rfl, Nat.le_refl _, fun _ _ => rfl⟩
    have r0 := (or0.wi.1.wide (lo' := 0) (Nat.zero_le _) (Nat.le_refl _) (Nat.le_refl _)).keep kd (by omega)
    have rt := ot.1.keep kd (by omega)
    have rx := ox.wi.1.keep kd (by omega)
    have ra := oa.wi.1.keep kd (by omega)
    have rb := ob.wi.1.keep kd (by omega)
    have brlt := br.1
    have brc0 := br.2.1
    have brc1 := br.2.2
    have btlt := bt.1
    have btc0 := bt.2.1
    have btc1 := bt.2.2.1
    have btc2 := bt.2.2.2
    have bxlt := bx.1
    have bxc0 := bx.2.1
    have bxc1 := bx.2.2
    have balt := ba.1
    have bac0 := ba.2.1
    have bac1 := ba.2.2
    have bb2lt := bb2.1
    have bb2c0 := bb2.2.1
    have bb2c1 := bb2.2.2
    have bflt := bf.1
    have bfc0 := bf.2.1
    have bfc1 := bf.2.2.1
    have bfc2 := bf.2.2.2
    have szd : w9.heap.size ≤ w9.drew.heap.size := Nat.le_refl _
    have f0 : ∀ (p m : Int) (G : Option Addr) (n c : Nat) (w : World), (Instr.field 30 (.agg #[.int .i64 p, .int .i64 m, .slice G n c]) 0).run Try.prog w = .ok (.int .i64 p) w := fun _ _ _ _ _ _ => by kernel_rfl
    have f1 : ∀ (p m : Int) (G : Option Addr) (n c : Nat) (w : World), (Instr.field 30 (.agg #[.int .i64 p, .int .i64 m, .slice G n c]) 1).run Try.prog w = .ok (.agg #[.int .i64 m, .slice G n c]) w := fun _ _ _ _ _ _ => by kernel_rfl
    clear or0 ot ox oa ob bb br bt bx ba bb2 bf kd
    go_region_held3 (fun w' => w'.cell? ⟨w1.heap.size, 0, none⟩ = some (.int .i64 t) ∧ w'.cell? ⟨w1.heap.size, 1, none⟩ = some (.slice G0 zr.length cap0) ∧ w'.cell? ⟨w3.heap.size, 0, none⟩ = some (.int .i64 cc) ∧ w'.cell? ⟨w3.heap.size, 1, none⟩ = some (.int .i64 mm) ∧ w'.cell? ⟨w3.heap.size, 2, none⟩ = some (.slice G1 zt.length cap1) ∧ w'.cell? ⟨w5.heap.size, 0, none⟩ = some (.int .i64 tx) ∧ w'.cell? ⟨w5.heap.size, 1, none⟩ = some (.slice G2 zx.length cap2) ∧ w'.cell? ⟨w7.heap.size, 0, none⟩ = some (.int .i64 ta) ∧ w'.cell? ⟨w7.heap.size, 1, none⟩ = some (.slice G3 za.length cap3) ∧ w'.cell? ⟨w7.heap.size + 1, 0, none⟩ = some (.int .i64 tb) ∧ w'.cell? ⟨w7.heap.size + 1, 1, none⟩ = some (.slice G4 zb.length cap4) ∧ w'.cell? ⟨w8.heap.size, 0, none⟩ = some (.int .i64 0) ∧ w'.cell? ⟨w8.heap.size, 1, none⟩ = some (.int .i64 (-1)) ∧ w'.cell? ⟨w8.heap.size, 2, none⟩ = some (.slice A9 0 c9))
      (first
        | go_keep
        | (go_split_ands; refine ⟨?_, ?_, ?_, ?_, ?_, ?_, ?_, ?_, ?_, ?_, ?_, ?_, ?_, ?_⟩ <;> ((refine (hb.cell (by simp; omega)).trans ?_); assumption)))
      (first
        | (go_at_call 15; refine (tk_at (specTake_any t sq _ _ _ _ zr _ r0 (by omega) (by omega)) HC.out HM.out HZ.out).mono ?_; rintro e v ⟨Gx, capx, rfl, ux, hb⟩; have kx := Keep.of_below hb 0 0; have szx := hb.size; replace r0 := r0.keep kx (by omega); replace rt := rt.keep kx (by omega); replace rx := rx.keep kx (by omega); replace ra := ra.keep kx (by omega); replace rb := rb.keep kx (by omega); replace bd := bd.trans (hb.mono bd.size); have szd := bd.size)
        | (go_at_call_of 16 G1; refine (implSameR_any mm mm _ _ _ _ _ _ _ _ _ _ zt zt _ true rt ux.1 (decide_eq_true ⟨rfl, rfl⟩)).mono ?_; rintro e v ⟨rfl, hk⟩; have hb := hk.below (by omega) (Nat.le_refl _); have kx := Keep.of_below hb 0 0; have szx := hb.size; replace r0 := r0.keep kx (by omega); replace rt := rt.keep kx (by omega); replace rx := rx.keep kx (by omega); replace ra := ra.keep kx (by omega); replace rb := rb.keep kx (by omega); replace bd := bd.trans (hb.mono bd.size); have szd := bd.size)
        | (go_at_call_of 16 G3; refine (implSameR_any ta tb _ _ _ _ _ _ _ _ _ _ za zb _ rr ra rb HR.out).mono ?_; rintro e v ⟨rfl, hk⟩; have hb := hk.below (by omega) (Nat.le_refl _); have kx := Keep.of_below hb 0 0; have szx := hb.size; replace r0 := r0.keep kx (by omega); replace rt := rt.keep kx (by omega); replace rx := rx.keep kx (by omega); replace ra := ra.keep kx (by omega); replace rb := rb.keep kx (by omega); replace bd := bd.trans (hb.mono bd.size); have szd := bd.size)
        | (go_at_call 17; refine (int_at (implCheck_any tx nx _ _ _ _ _ zx _ rx (by omega)) HK.out).mono ?_; rintro e v ⟨rfl, hb⟩; have kx := Keep.of_below hb 0 0; have szx := hb.size; replace r0 := r0.keep kx (by omega); replace rt := rt.keep kx (by omega); replace rx := rx.keep kx (by omega); replace ra := ra.keep kx (by omega); replace rb := rb.keep kx (by omega); replace bd := bd.trans (hb.mono bd.size); have szd := bd.size)
        | (go_at_call 18; refine (int_at (specCheck_any tx nx _ _ _ _ _ zx _ rx (by omega)) HK.out).mono ?_; rintro e v ⟨rfl, hk⟩; have hb := hk.below (by omega) (Nat.le_refl _); have kx := Keep.of_below hb 0 0; have szx := hb.size; replace r0 := r0.keep kx (by omega); replace rt := rt.keep kx (by omega); replace rx := rx.keep kx (by omega); replace ra := ra.keep kx (by omega); replace rb := rb.keep kx (by omega); replace bd := bd.trans (hb.mono bd.size); have szd := bd.size)
        | (go_at_call_of 19 G3; refine (specSameR_any ta tb _ _ _ _ _ _ _ _ _ _ za zb _ rr ra rb HR.out).mono ?_; rintro e v ⟨rfl, hk⟩; have hb := hk.below (by omega) (Nat.le_refl _); have kx := Keep.of_below hb 0 0; have szx := hb.size; replace r0 := r0.keep kx (by omega); replace rt := rt.keep kx (by omega); replace rx := rx.keep kx (by omega); replace ra := ra.keep kx (by omega); replace rb := rb.keep kx (by omega); replace bd := bd.trans (hb.mono bd.size); have szd := bd.size)
        | (go_at_call_of 19 A9; refine (specSameR_any (-1) (-1) A9 none 0 c9 0 0 0 0 0 0 [] [] _ true (Ri.empty _ _ (Nat.zero_le _)) (Ri.empty _ _ (Nat.zero_le _)) (decide_eq_true ⟨rfl, rfl⟩)).mono ?_; rintro e v ⟨rfl, hk⟩; have hb := hk.below (by omega) (Nat.le_refl _); have kx := Keep.of_below hb 0 0; have szx := hb.size; replace r0 := r0.keep kx (by omega); replace rt := rt.keep kx (by omega); replace rx := rx.keep kx (by omega); replace ra := ra.keep kx (by omega); replace rb := rb.keep kx (by omega); replace bd := bd.trans (hb.mono bd.size); have szd := bd.size)
        | (go_at_call_of 20 G0; refine (int_at (implFault_any t _ _ _ _ _ zr _ r0 (by omega)) HFC.out).mono ?_; rintro e v ⟨rfl, hb⟩; have kx := Keep.of_below hb 0 0; have szx := hb.size; replace r0 := r0.keep kx (by omega); replace rt := rt.keep kx (by omega); replace rx := rx.keep kx (by omega); replace ra := ra.keep kx (by omega); replace rb := rb.keep kx (by omega); replace bd := bd.trans (hb.mono bd.size); have szd := bd.size)
        | (go_at_call_of 20 A9; refine (int_at (implFault_any (-1) A9 0 c9 0 0 [] _ (Ri.empty _ _ (Nat.zero_le _)) (by omega)) fault_first).mono ?_; rintro e v ⟨rfl, hb⟩; have kx := Keep.of_below hb 0 0; have szx := hb.size; replace r0 := r0.keep kx (by omega); replace rt := rt.keep kx (by omega); replace rx := rx.keep kx (by omega); replace ra := ra.keep kx (by omega); replace rb := rb.keep kx (by omega); replace bd := bd.trans (hb.mono bd.size); have szd := bd.size)
        | (go_at_call 21; refine (int_at (specFault_any t _ _ _ _ _ zr _ r0 (by omega)) HFC.out).mono ?_; rintro e v ⟨rfl, hk⟩; have hb := hk.below (by omega) (Nat.le_refl _); have kx := Keep.of_below hb 0 0; have szx := hb.size; replace r0 := r0.keep kx (by omega); replace rt := rt.keep kx (by omega); replace rx := rx.keep kx (by omega); replace ra := ra.keep kx (by omega); replace rb := rb.keep kx (by omega); replace bd := bd.trans (hb.mono bd.size); have szd := bd.size)
        | (go_at_call 22; refine (specNewR_any _).mono ?_; rintro e v ⟨rfl, hk⟩; have hb := hk.below (by omega) (Nat.le_refl _); have kx := Keep.of_below hb 0 0; have szx := hb.size; replace r0 := r0.keep kx (by omega); replace rt := rt.keep kx (by omega); replace rx := rx.keep kx (by omega); replace ra := ra.keep kx (by omega); replace rb := rb.keep kx (by omega); replace bd := bd.trans (hb.mono bd.size); have szd := bd.size))
    all_goals
      go_wp2_with fail
      go_meet
      case rel => exact ⟨rfl, bd⟩
  case rest =>
  obtain ⟨rfl, hb10⟩ := hcut
  have hk10 := Keep.of_below hb10 0 0
  have hz10 := hb10.size
  replace or0 := or0.keep hk10 (by omega)
  replace br := br.keep hk10 (by omega)
  replace ot := ot.keep hk10 (by omega)
  replace bt := bt.keep hk10 (by omega)
  replace ox := ox.keep hk10 (by omega)
  replace bx := bx.keep hk10 (by omega)
  replace oa := oa.keep hk10 (by omega)
  replace ob := ob.keep hk10 (by omega)
  replace ba := ba.keep hk10 (by omega)
  replace bb2 := bb2.keep hk10 (by omega)
  replace bf := bf.keep hk10 (by omega)
  replace bb := bb.trans (hk10.below (by omega) bb.size)
  clear hb10 hk10
  generalize hwc10 : wc = w10 at *
  clear hwc10
  by_cases hc : cc = 0
  · have hck : checkCode t zr sq = 0 := HC.out.trans hc
    have hsq9 := (took hck).2.1
    have hm1 : mm = max t sq := HM.out.symm.trans (take_yes hck).1
    have hz1 : zt = takeL (max t sq) sq zr := HZ.out.symm.trans (take_yes hck).2
    have tt := (check_seq hck).1
    have F1 : Hid (faultCode mm zt = 0) := by show _; rw [hm1, hz1]; exact took_ok hck
    have F2 : Hid (checkCode mm zt sq = 9) := by show _; rw [hm1, hz1]; exact took_seq hck
    have F3 : Hid (∀ x ∈ zr, checkCode mm zt x = 9) := by show _; rw [hm1, hz1]; exact fun x hx => took_seen hck hx
    have F4 : Hid (mm < 9999 → checkCode mm zt (mm + 1) = 0) := by show _; rw [hm1, hz1]; exact fun h => took_next hck h
    have mb : 0 ≤ mm ∧ mm ≤ 9999 ∧ t ≤ mm ∧ sq ≤ mm := by omega
    subst hc
    clear hck hm1 hz1 HC HM HZ HK HR HFC tt hsq9 ox oa ob bx ba bb2 bf
    have rt := ot.1
    clear ot
    have rr0 := or0.wi.1
    clear or0
    have btc0 := bt.2.1
    have btc1 := bt.2.2.1
    have btc2 := bt.2.2.2
    go_wp2_with fail
    clear btc0 btc1 btc2
    refine (int_at (implFault_any mm G1 zt.length cap1 _ _ zt w10 rt (by omega)) F1.out).mono ?_
    rintro e w111 ⟨rfl, hb111⟩
    have hk111 := Keep.of_below hb111 0 0
    have hz111 := hb111.size
    replace br := br.keep hk111 (by omega)
    replace bt := bt.keep hk111 (by omega)
    replace rt := rt.keep hk111 (by omega)
    replace rr0 := rr0.keep hk111 (by omega)
    replace bb := bb.trans (hk111.below (by omega) bb.size)
    clear hb111 hk111
    have btc0 := bt.2.1
    have btc1 := bt.2.2.1
    have btc2 := bt.2.2.2
    go_wp2_with fail
    clear btc0 btc1 btc2
    refine (int_at (implCheck_any mm sq G1 zt.length cap1 _ _ zt w111 rt (by omega)) F2.out).mono ?_
    rintro e w112 ⟨rfl, hb112⟩
    have hk112 := Keep.of_below hb112 0 0
    have hz112 := hb112.size
    replace br := br.keep hk112 (by omega)
    replace bt := bt.keep hk112 (by omega)
    replace rt := rt.keep hk112 (by omega)
    replace rr0 := rr0.keep hk112 (by omega)
    replace bb := bb.trans (hk112.below (by omega) bb.size)
    clear hb112 hk112
    have n1 : ¬ mm < t := by omega
    have n2 : ¬ mm < sq := by omega
    have brc0 := br.2.1
    have brc1 := br.2.2
    go_wp2_with fail
    clear brc0 brc1 n1 n2
    go_loopw [12] (fun i wr => ∃ k : Nat, k ≤ zr.length ∧ i = .int .i64 (k : Int) ∧ Below w112.heap.size w112 wr) (fun i _ => zr.length - (intOf i).toNat)
    case atStart => exact ⟨0, Nat.zero_le _, rfl, Below.refl _ _⟩
    case round =>
      obtain ⟨k, hk, rfl, hbw⟩ := hrel
      have hkw := Keep.of_below hbw 0 0
      have hzw := hbw.size
      replace br := br.keep hkw (by omega)
      replace bt := bt.keep hkw (by omega)
      replace rt := rt.keep hkw (by omega)
      replace rr0 := rr0.keep hkw (by omega)
      replace bb := bb.trans (hkw.below (by omega) bb.size)
      clear hkw
      have brc1 := br.2.2
      have brlt := br.1
      have btc1 := bt.2.2.1
      have btc2 := bt.2.2.2
      have btlt := bt.1
      by_cases hlk : k < zr.length
      · obtain ⟨ab, off, rfl, _, hab, hcx⟩ := rr0.at_ (by omega)
        have rtop := rr0.top
        have hck := hcx k hlk
        have i0 : (0 : Int) ≤ (k : Int) := by omega
        have i1 : (k : Int) < (zr.length : Int) := by omega
        have HX : Hid (checkCode mm zt (zr.getD k 0) = 9) := F3.out _ (getD_mem zr k hlk)
        generalize zr.getD k 0 = x at *
        go_upto_region 18 with fail
        have kd : Keep 0 0 wr wr.drew := ⟨rfl, rfl, rfl, Nat.le_refl _, fun _ _ _ => rfl⟩
        have rtd := rt.keep kd (by omega)
        have bd : Below wr.heap.size wr wr.drew := ⟨rfl, rfl, rfl, Nat.le_refl _, fun _ _ => rfl⟩
        have szd : wr.heap.size ≤ wr.drew.heap.size := Nat.le_refl _
        have HB := Lib.hid hbw
        clear kd bb br bt rr0 hcx hbw
        go_region_held3 (fun w' => w'.cell? ⟨w3.heap.size, 1, none⟩ = some (.int .i64 mm) ∧ w'.cell? ⟨w3.heap.size, 2, none⟩ = some (.slice G1 zt.length cap1) ∧ w'.cell? ⟨w1.heap.size, 1, none⟩ = some (.slice (some ⟨ab, off, none⟩) zr.length cap0) ∧ w'.cell? ⟨ab, off + k, none⟩ = some (.int .i64 x))
          (first
            | go_keep
            | (go_split_ands; refine ⟨?_, ?_, ?_, ?_⟩ <;> ((refine (hb.cell (by simp; omega)).trans ?_); assumption)))
          ((go_at_call 17; refine (int_at (implCheck_any mm x _ _ _ _ _ zt _ rtd (by omega)) HX.out).mono ?_; rintro e v ⟨rfl, hb⟩; have bd := bd.trans (hb.mono bd.size)))
        all_goals
          go_wp2_with fail
          go_roundw
          case rel => exact ⟨k + 1, by omega, by go_num, HB.out.trans (bd.mono (by omega))⟩
          case measure => simp [intOf]; omega
      · have ek : k = zr.length := by omega
        by_cases h9 : 9999 ≤ mm
        · go_wp2_with fail
          go_ret
          exact ⟨rfl, bb⟩
        · have HN : Hid (checkCode mm zt (mm + 1) = 0) := F4.out (by omega)
          have hw1 : IntKind.i64.wrap (mm + 1) = mm + 1 := by rw [IntKind.wrap_i64]; omega
          go_wp2_with fail
          refine (int_at (implCheck_any mm (mm + 1) G1 zt.length cap1 _ _ zt wr rt (by omega)) HN.out).mono ?_
          rintro e wz ⟨rfl, hbz⟩
          have bz := bb.trans (hbz.mono bb.size)
          go_wp2_with fail
          go_ret
          exact ⟨rfl, bz⟩
  · have hck : checkCode t zr sq ≠ 0 := fun e => hc (HC.out.symm.trans e)
    have hz0 : zt = [] := HZ.out.symm.trans (take_no hck).2
    have hcb : (cc != 0) = true := by simp [hc]
    subst hz0
    clear hck
    have btc0 := bt.2.1
    have btc1 := bt.2.2.1
    have btc2 := bt.2.2.2
    go_wp2_with fail
    clear btc0 btc1 btc2
    go_ret
    exact ⟨rfl, bb⟩

end Go.Proofs.Ytebdgdmdjgkboaa
