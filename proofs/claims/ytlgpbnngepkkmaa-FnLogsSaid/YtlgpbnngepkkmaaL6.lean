/-
  The walk of FnLogs.
-/
import Derived.Test.YtlgpbnngepkkmaaED
import Derived.Test.YtlgpbnngepkkmaaL5a
import Derived.Test.YtlgpbnngepkkmaaL2
import Derived.Test.YtlgpbnngepkkmaaL3a
import Derived.Test.YtlgpbnngepkkmaaL3
import Derived.Test.YtlgpbnngepkkmaaV6a
import Derived.Test.YtlgpbnngepkkmaaV6b
import Derived.Test.YtlgpbnngepkkmaaV3c
import Derived.Test.YtlgpbnngepkkmaaT17
import Derived.Test.YtlgpbnngepkkmaaT5
import Derived.Test.YtlgpbnngepkkmaaV5
import Derived.Deep.RegionHeld3
import Derived.Deep.RegionLaw
import Derived.Deep.CutRange
namespace Go.Proofs.Ytlgpbnngepkkmaa
open Go.RowKit
set_option linter.unusedVariables false
set_option maxRecDepth 100000

theorem m_small {xs : List Itm} {q : List Int} {m : Nat} (h : q.length = m * 3) (hq : atomsOut xs = q) (hc : atomsCode xs = 0) : m ≤ 1000 := by
  have hl : ¬ 100 < xs.length := fun e => by unfold atomsCode at hc; rw [if_pos e] at hc; omega
  have hi : itemsCode xs = 0 := by unfold atomsCode at hc; rw [if_neg hl] at hc; exact hc
  have hs := sumLen_ok (itemsCode_each hi)
  have ha := atomsL_len xs
  have ho : atomsOut xs = atomsL xs := by unfold atomsOut; rw [if_pos hc]
  rw [ho] at hq
  rw [hq] at ha
  omega
theorem ao_atc {f : FuncId} {args : Array Value} {w : World} {c : Int} {m : Nat} {xs : List Itm} {zs : List Int}
    (h : Calls Try.prog f args w fun e w' => ∃ G m cap, e = .returned (.agg #[.int .i64 (atomsCode xs), .slice G m cap]) ∧ Wi w' w.heap.size w'.heap.size G (m * 3) (atomsOut xs) ∧ m ≤ 1048576 ∧ (G = none → cap = 0) ∧ Below w.heap.size w w')
    (hc : atomsCode xs = c) (hz : atomsOut xs = zs) (hm : zs.length = m * 3) :
    Calls Try.prog f args w fun e w' => ∃ G cap, e = .returned (.agg #[.int .i64 c, .slice G m cap]) ∧ Wi w' w.heap.size w'.heap.size G (m * 3) zs ∧ (G = none → cap = 0) ∧ Below w.heap.size w w' := by
  subst hc hz
  refine h.mono ?_
  rintro e w' ⟨G, m', cap, rfl, hw, _, hg, hb⟩
  have hl := hw.1.len
  obtain rfl : m' = m := by omega
  exact ⟨G, cap, rfl, hw, hg, hb⟩
theorem OwnA.block {w : World} {base g n c : Nat} {fs : List Int} (h : OwnA w base (some ⟨g, 0, none⟩) n c fs) : base ≤ g := by
  rcases h.1.2 with ⟨hv, _⟩ | ⟨g', cap, _, hv, hg, _⟩
  · cases hv
  · injection hv with hA _ _
    injection hA with hA
    injection hA with hA _
    omega
theorem int_at {f : FuncId} {args : Array Value} {w : World} {c d : Int} {R : World → Prop} (h : Calls Try.prog f args w fun e w' => e = .returned (.int .i64 c) ∧ R w') (hc : c = d) : Calls Try.prog f args w fun e w' => e = .returned (.int .i64 d) ∧ R w' := hc ▸ h

set_option maxHeartbeats 8000000 in
theorem logs (A : Option Addr) (n c : Nat) (xs : List Int) (w : World) (h : Rd w 0 w.heap.size A n xs) :
    Calls Try.prog 3 #[.slice A n c] w fun e w' => e = .returned (.bool true) ∧ Below w.heap.size w w' := by
  have hint := h.int
  by_cases hn : 1048576 < n
  · go_enter Try.func3, Try.ntmps3
    go_wp2_with fail
    refine (lwBig_any A n c w true (decide_eq_true hn)).mono ?_
    rintro e w0 ⟨rfl, rfl⟩
    go_wp2_with fail
    go_ret
    exact ⟨rfl, Below.refl _ _⟩
  go_enter Try.func3, Try.ntmps3
  have bb := Below.refl w.heap.size w
  go_wp2_with fail
  refine (lwBig_any A n c w false (decide_eq_false hn)).mono ?_
  rintro e w0 ⟨rfl, rfl⟩
  go_wp2_with fail
  refine (drawAdd_any A n c _ xs w h).mono ?_
  rintro e w1 ⟨bs, room, gl, nl, capl, zl, x, GB, cb, rfl, hbs, rl, rx, hgz, hnl, hb1⟩
  have hk1 := Keep.of_below hb1 0 0
  have hz1 := hb1.size
  replace h := h.keep hk1 (by omega)
  replace bb := bb.trans (hk1.below (by omega) bb.size)
  clear hb1 hk1
  obtain ⟨xk, xb, xp, xq⟩ := x
  simp only at rx ⊢
  have hbs' : -9223372036854775808 ≤ bs ∧ bs ≤ 9223372036854775807 := by omega
  obtain ⟨cc, hcc⟩ : ∃ cc, addCode bs room zl (xk, xb, xp, xq) = cc := ⟨_, rfl⟩
  obtain ⟨tb, htb⟩ : ∃ tb, addBase bs room zl (xk, xb, xp, xq) = tb := ⟨_, rfl⟩
  obtain ⟨zs, hzs⟩ : ∃ zs, addOut bs room zl (xk, xb, xp, xq) = zs := ⟨_, rfl⟩
  obtain ⟨lf, hlf⟩ : ∃ lf, logCode bs room zl = lf := ⟨_, rfl⟩
  obtain ⟨xf, hxf⟩ : ∃ xf, itemCode xk xb.length xp xq = xf := ⟨_, rfl⟩
  have HCC := Lib.hid hcc
  have HTB := Lib.hid htb
  have HZS := Lib.hid hzs
  have HLF := Lib.hid hlf
  have HXF := Lib.hid hxf
  clear hcc htb hzs hlf hxf
  go_upto_region 4 with fail
  have bl : Box2 ((w1.alloc (.cells #[.int .i64 bs, .slice (some ⟨gl, 0, none⟩) nl capl] 26)).alloc (.cells #[.int .i64 xk, .slice GB xb.length cb, .int .i64 xp, .int .i64 xq] 28)) w1.heap.size (.int .i64 bs) (.slice (some ⟨gl, 0, none⟩) nl capl) := (Box2.new w1 _ _ _).keep ((Keep.refl 0 0 _).alloc _) (by omega)
  have bi : Box4 ((w1.alloc (.cells #[.int .i64 bs, .slice (some ⟨gl, 0, none⟩) nl capl] 26)).alloc (.cells #[.int .i64 xk, .slice GB xb.length cb, .int .i64 xp, .int .i64 xq] 28)) (w1.heap.size + 1) (.int .i64 xk) (.slice GB xb.length cb) (.int .i64 xp) (.int .i64 xq) := by simpa using Box4.new (w1.alloc (.cells #[.int .i64 bs, .slice (some ⟨gl, 0, none⟩) nl capl] 26)) (.int .i64 xk) (.slice GB xb.length cb) (.int .i64 xp) (.int .i64 xq) 28
  have hkq := ((Keep.refl 0 0 w1).alloc (.cells #[.int .i64 bs, .slice (some ⟨gl, 0, none⟩) nl capl] 26)).alloc (.cells #[.int .i64 xk, .slice GB xb.length cb, .int .i64 xp, .int .i64 xq] 28)
  replace h := h.keep hkq (by omega)
  replace rl := rl.keep hkq (by omega)
  replace rx := rx.keep hkq (by omega)
  replace bb := bb.trans (hkq.below (by omega) bb.size)
  clear hkq
  have hzq : w1.heap.size + 2 ≤ ((w1.alloc (.cells #[.int .i64 bs, .slice (some ⟨gl, 0, none⟩) nl capl] 26)).alloc (.cells #[.int .i64 xk, .slice GB xb.length cb, .int .i64 xp, .int .i64 xq] 28)).heap.size := by simp
  generalize (w1.alloc (.cells #[.int .i64 bs, .slice (some ⟨gl, 0, none⟩) nl capl] 26)).alloc (.cells #[.int .i64 xk, .slice GB xb.length cb, .int .i64 xp, .int .i64 xq] 28) = wq at *
  have blc0 := bl.2.1
  have blc1 := bl.2.2
  have bic0 := bi.2.1
  have bic1 := bi.2.2.1
  have bic2 := bi.2.2.2.1
  have bic3 := bi.2.2.2.2
  go_wp2_with fail
  clear blc0 blc1
  clear bic0 bic1 bic2 bic3
  refine (lpc_at (implAdd_c bs room xk xp xq (some ⟨gl, 0, none⟩) GB nl capl xb.length cb _ _ zl xb wq (rl.wide (Nat.zero_le _) (Nat.le_refl _) rl.top) (rx.wide (Nat.zero_le _) (Nat.le_refl _) rx.top) hgz hbs') HCC.out HTB.out HZS.out).mono ?_
  rintro e w2 ⟨G1, cap1, rfl, za, hza, hb2⟩
  have hk2 := Keep.of_below hb2 0 0
  have hz2 := hb2.size
  replace h := h.keep hk2 (by omega)
  replace rl := rl.keep hk2 (by omega)
  replace rx := rx.keep hk2 (by omega)
  replace bl := bl.keep hk2 (by omega)
  replace bi := bi.keep hk2 (by omega)
  replace bb := bb.trans (hk2.below (by omega) bb.size)
  clear hb2 hk2
  go_wp2_with fail
  have hk3 := (Keep.refl 0 0 w2).alloc (.cells #[.int .i64 cc, .int .i64 tb, .slice G1 zs.length cap1] 32)
  have ba := Box3.new w2 (.int .i64 cc) (.int .i64 tb) (.slice G1 zs.length cap1) 32
  have hz3 : w2.heap.size + 1 ≤ (w2.alloc (.cells #[.int .i64 cc, .int .i64 tb, .slice G1 zs.length cap1] 32)).heap.size := by simp
  replace h := h.keep hk3 (by omega)
  replace rl := rl.keep hk3 (by omega)
  replace rx := rx.keep hk3 (by omega)
  replace bl := bl.keep hk3 (by omega)
  replace bi := bi.keep hk3 (by omega)
  replace za := za.keep hk3 (by omega)
  replace bb := bb.trans (hk3.below (by omega) bb.size)
  clear hk3
  generalize w2.alloc (.cells #[.int .i64 cc, .int .i64 tb, .slice G1 zs.length cap1] 32) = w3 at *
  refine (drawTrim_any A n c _ xs w3 h).mono ?_
  rintro e w4 ⟨bs2, room2, tt, gm, nm, capm, zm, rfl, hbs2, rm, hcapm, hnm, hb4⟩
  have hk4 := Keep.of_below hb4 0 0
  have hz4 := hb4.size
  replace h := h.keep hk4 (by omega)
  replace rl := rl.keep hk4 (by omega)
  replace rx := rx.keep hk4 (by omega)
  replace bl := bl.keep hk4 (by omega)
  replace bi := bi.keep hk4 (by omega)
  replace za := za.keep hk4 (by omega)
  replace ba := ba.keep hk4 (by omega)
  replace bb := bb.trans (hk4.below (by omega) bb.size)
  clear hb4 hk4
  have hbs2' : -9223372036854775808 ≤ bs2 ∧ bs2 ≤ 9223372036854775807 := by omega
  have hcm' : nm ≤ capm ∧ capm ≤ 9223372036854775807 := by unfold maxLen at hcapm; omega
  obtain ⟨cc2, hcc⟩ : ∃ cc, trimCode bs2 room2 tt zm = cc := ⟨_, rfl⟩
  obtain ⟨tb2, htb⟩ : ∃ tb, trimBase bs2 room2 tt zm = tb := ⟨_, rfl⟩
  obtain ⟨zs2, hzs⟩ : ∃ zs, trimOut bs2 room2 tt zm = zs := ⟨_, rfl⟩
  have HCC2 := Lib.hid hcc
  have HTB2 := Lib.hid htb
  have HZS2 := Lib.hid hzs
  clear hcc htb hzs
  go_wp2_with fail
  have hk5 := (Keep.refl 0 0 w4).alloc (.cells #[.int .i64 bs2, .slice (some ⟨gm, 0, none⟩) nm capm] 26)
  have bm := Box2.new w4 (.int .i64 bs2) (.slice (some ⟨gm, 0, none⟩) nm capm) 26
  have hz5 : w4.heap.size + 1 ≤ (w4.alloc (.cells #[.int .i64 bs2, .slice (some ⟨gm, 0, none⟩) nm capm] 26)).heap.size := by simp
  replace h := h.keep hk5 (by omega)
  replace rl := rl.keep hk5 (by omega)
  replace rx := rx.keep hk5 (by omega)
  replace bl := bl.keep hk5 (by omega)
  replace bi := bi.keep hk5 (by omega)
  replace za := za.keep hk5 (by omega)
  replace ba := ba.keep hk5 (by omega)
  replace rm := rm.keep hk5 (by omega)
  replace bb := bb.trans (hk5.below (by omega) bb.size)
  clear hk5
  generalize w4.alloc (.cells #[.int .i64 bs2, .slice (some ⟨gm, 0, none⟩) nm capm] 26) = w5 at *
  refine (lp_at (implTrim_any bs2 room2 tt gm 0 nm capm _ zm w5 (rm.wide (Nat.zero_le _) (Nat.le_refl _) rm.top) hcm' hbs2') HCC2.out HTB2.out HZS2.out).mono ?_
  rintro e w6 ⟨G2, cap2, rfl, zt, hb6⟩
  have hk6 := Keep.of_below hb6 0 0
  have hz6 := hb6.size
  replace h := h.keep hk6 (by omega)
  replace rl := rl.keep hk6 (by omega)
  replace rx := rx.keep hk6 (by omega)
  replace bl := bl.keep hk6 (by omega)
  replace bi := bi.keep hk6 (by omega)
  replace za := za.keep hk6 (by omega)
  replace ba := ba.keep hk6 (by omega)
  replace rm := rm.keep hk6 (by omega)
  replace bm := bm.keep hk6 (by omega)
  replace bb := bb.trans (hk6.below (by omega) bb.size)
  clear hb6 hk6
  go_wp2_with fail
  have hk7 := (Keep.refl 0 0 w6).alloc (.cells #[.int .i64 cc2, .int .i64 tb2, .slice G2 zs2.length cap2] 32)
  have bt := Box3.new w6 (.int .i64 cc2) (.int .i64 tb2) (.slice G2 zs2.length cap2) 32
  have hz7 : w6.heap.size + 1 ≤ (w6.alloc (.cells #[.int .i64 cc2, .int .i64 tb2, .slice G2 zs2.length cap2] 32)).heap.size := by simp
  replace h := h.keep hk7 (by omega)
  replace rl := rl.keep hk7 (by omega)
  replace rx := rx.keep hk7 (by omega)
  replace bl := bl.keep hk7 (by omega)
  replace bi := bi.keep hk7 (by omega)
  replace za := za.keep hk7 (by omega)
  replace ba := ba.keep hk7 (by omega)
  replace rm := rm.keep hk7 (by omega)
  replace bm := bm.keep hk7 (by omega)
  replace zt := zt.keep hk7 (by omega)
  replace bb := bb.trans (hk7.below (by omega) bb.size)
  clear hk7
  generalize w6.alloc (.cells #[.int .i64 cc2, .int .i64 tb2, .slice G2 zs2.length cap2] 32) = w7 at *
  refine (drawAtoms_any A n c _ xs w7 h).mono ?_
  rintro e w8 ⟨ga, na, capa, la, rfl, ra, hcapa, hna, hb8⟩
  have hk8 := Keep.of_below hb8 0 0
  have hz8 := hb8.size
  replace h := h.keep hk8 (by omega)
  replace rl := rl.keep hk8 (by omega)
  replace rx := rx.keep hk8 (by omega)
  replace bl := bl.keep hk8 (by omega)
  replace bi := bi.keep hk8 (by omega)
  replace za := za.keep hk8 (by omega)
  replace ba := ba.keep hk8 (by omega)
  replace rm := rm.keep hk8 (by omega)
  replace bm := bm.keep hk8 (by omega)
  replace zt := zt.keep hk8 (by omega)
  replace bt := bt.keep hk8 (by omega)
  replace bb := bb.trans (hk8.below (by omega) bb.size)
  clear hb8 hk8
  obtain ⟨mm, hmm, hmx⟩ := atomsOut_three la
  obtain ⟨cc3, hcc⟩ : ∃ cc, atomsCode la = cc := ⟨_, rfl⟩
  obtain ⟨zs3, hzs⟩ : ∃ zs, atomsOut la = zs := ⟨_, rfl⟩
  rw [hzs] at hmm
  have HCC3 := Lib.hid hcc
  have HZS3 := Lib.hid hzs
  have HMM := Lib.hid hmm
  clear hcc hzs hmm
  go_wp2_with fail
  refine (ao_at (implAtoms_any (some ⟨ga, 0, none⟩) na capa _ la w8 (ra.wide (Nat.zero_le _) (Nat.le_refl _) ra.top)) HCC3.out HZS3.out HMM.out).mono ?_
  rintro e w9 ⟨G3, cap3, rfl, z3, hb9⟩
  have hk9 := Keep.of_below hb9 0 0
  have hz9 := hb9.size
  replace h := h.keep hk9 (by omega)
  replace rl := rl.keep hk9 (by omega)
  replace rx := rx.keep hk9 (by omega)
  replace bl := bl.keep hk9 (by omega)
  replace bi := bi.keep hk9 (by omega)
  replace za := za.keep hk9 (by omega)
  replace ba := ba.keep hk9 (by omega)
  replace rm := rm.keep hk9 (by omega)
  replace bm := bm.keep hk9 (by omega)
  replace zt := zt.keep hk9 (by omega)
  replace bt := bt.keep hk9 (by omega)
  replace ra := ra.keep hk9 (by omega)
  replace bb := bb.trans (hk9.below (by omega) bb.size)
  clear hb9 hk9
  have hmm3 : mm ≤ 9223372036854775807 := by have := z3.1.max; unfold maxLen at this; omega
  go_wp2_with fail
  have hk10 := (Keep.refl 0 0 w9).alloc (.cells #[.int .i64 cc3, .slice G3 mm cap3] 40)
  have bs_ := Box2.new w9 (.int .i64 cc3) (.slice G3 mm cap3) 40
  have hz10 : w9.heap.size + 1 ≤ (w9.alloc (.cells #[.int .i64 cc3, .slice G3 mm cap3] 40)).heap.size := by simp
  replace h := h.keep hk10 (by omega)
  replace rl := rl.keep hk10 (by omega)
  replace rx := rx.keep hk10 (by omega)
  replace bl := bl.keep hk10 (by omega)
  replace bi := bi.keep hk10 (by omega)
  replace za := za.keep hk10 (by omega)
  replace ba := ba.keep hk10 (by omega)
  replace rm := rm.keep hk10 (by omega)
  replace bm := bm.keep hk10 (by omega)
  replace zt := zt.keep hk10 (by omega)
  replace bt := bt.keep hk10 (by omega)
  replace ra := ra.keep hk10 (by omega)
  replace z3 := z3.keep hk10 (by omega)
  replace bb := bb.trans (hk10.below (by omega) bb.size)
  clear hk10
  generalize w9.alloc (.cells #[.int .i64 cc3, .slice G3 mm cap3] 40) = w10 at *
  refine (drawSameItems_any A n c _ xs w10 h).mono ?_
  rintro e w11 ⟨Ap, np, cp, zp, Aq, nq, cq, zq, rfl, rp, rq, hb11⟩
  have hk11 := Keep.of_below hb11 0 0
  have hz11 := hb11.size
  replace h := h.keep hk11 (by omega)
  replace rl := rl.keep hk11 (by omega)
  replace rx := rx.keep hk11 (by omega)
  replace bl := bl.keep hk11 (by omega)
  replace bi := bi.keep hk11 (by omega)
  replace za := za.keep hk11 (by omega)
  replace ba := ba.keep hk11 (by omega)
  replace rm := rm.keep hk11 (by omega)
  replace bm := bm.keep hk11 (by omega)
  replace zt := zt.keep hk11 (by omega)
  replace bt := bt.keep hk11 (by omega)
  replace ra := ra.keep hk11 (by omega)
  replace z3 := z3.keep hk11 (by omega)
  replace bs_ := bs_.keep hk11 (by omega)
  replace bb := bb.trans (hk11.below (by omega) bb.size)
  clear hb11 hk11
  obtain ⟨rr, hrr⟩ : ∃ rr, decide (zp = zq) = rr := ⟨_, rfl⟩
  have HRR := Lib.hid hrr
  clear hrr
  go_wp2_with fail
  refine (drawSameAtoms_any A n c _ xs w11 h).mono ?_
  rintro e w12 ⟨Au, nu, cu, fu, Av, nv, cv, fv, rfl, ru, rv, hnu, hnv, hb12⟩
  have hk12 := Keep.of_below hb12 0 0
  have hz12 := hb12.size
  replace h := h.keep hk12 (by omega)
  replace rl := rl.keep hk12 (by omega)
  replace rx := rx.keep hk12 (by omega)
  replace bl := bl.keep hk12 (by omega)
  replace bi := bi.keep hk12 (by omega)
  replace za := za.keep hk12 (by omega)
  replace ba := ba.keep hk12 (by omega)
  replace rm := rm.keep hk12 (by omega)
  replace bm := bm.keep hk12 (by omega)
  replace zt := zt.keep hk12 (by omega)
  replace bt := bt.keep hk12 (by omega)
  replace ra := ra.keep hk12 (by omega)
  replace z3 := z3.keep hk12 (by omega)
  replace bs_ := bs_.keep hk12 (by omega)
  replace rp := rp.keep hk12 (by omega)
  replace rq := rq.keep hk12 (by omega)
  replace bb := bb.trans (hk12.below (by omega) bb.size)
  clear hb12 hk12
  obtain ⟨ss, hss⟩ : ∃ ss, decide (fu = fv) = ss := ⟨_, rfl⟩
  have HSS := Lib.hid hss
  clear hss
  have hzz : zs.length ≤ 100 := by have := (addOut_small bs room zl (xk, xb, xp, xq)).1; rw [HZS.out] at this; have := rl.len; omega
  go_upto_region 11 with fail
  go_cut [160] from 54 to 160 (fun sv wx => sv = .bool false ∧ Below w12.heap.size w12 wx)
  case first =>
    as_aux_lemma =>
      have kd : Keep 0 0 w12 w12.drew := ⟨rfl, rfl, rfl, Nat.le_refl _, fun _ _ _ => rfl⟩
      have bd : Below w12.heap.size w12 w12.drew := ⟨rfl, rfl, rfl, Nat.le_refl _, fun _ _ => rfl⟩
      have szd : w12.heap.size ≤ w12.drew.heap.size := Nat.le_refl _
      have sl := Lib.hid (fun (W : World) (kb : Below w12.heap.size w12 W) => (rl.wide (Nat.zero_le _) (Nat.le_refl _) rl.top).keep (Keep.of_below kb 0 0) (by omega))
      have sx := Lib.hid (fun (W : World) (kb : Below w12.heap.size w12 W) => (rx.wide (Nat.zero_le _) (Nat.le_refl _) rx.top).keep (Keep.of_below kb 0 0) (by omega))
      have sa := Lib.hid (fun (W : World) (kb : Below w12.heap.size w12 W) => (za.rt.wide (Nat.zero_le _) (Nat.le_refl _) za.top).keep (Keep.of_below kb 0 0) (by omega))
      have sm := Lib.hid (fun (W : World) (kb : Below w12.heap.size w12 W) => (rm.wide (Nat.zero_le _) (Nat.le_refl _) rm.top).keep (Keep.of_below kb 0 0) (by omega))
      have st := Lib.hid (fun (W : World) (kb : Below w12.heap.size w12 W) => (zt.rt.wide (Nat.zero_le _) (Nat.le_refl _) zt.top).keep (Keep.of_below kb 0 0) (by omega))
      have sr := Lib.hid (fun (W : World) (kb : Below w12.heap.size w12 W) => (ra.wide (Nat.zero_le _) (Nat.le_refl _) ra.top).keep (Keep.of_below kb 0 0) (by omega))
      have s3 := Lib.hid (fun (W : World) (kb : Below w12.heap.size w12 W) => z3.1.keep (Keep.of_below kb 0 0) (by omega))
      have sp := Lib.hid (fun (W : World) (kb : Below w12.heap.size w12 W) => (rp.wide (Nat.zero_le _) (Nat.le_refl _) rp.top).keep (Keep.of_below kb 0 0) (by omega))
      have sq := Lib.hid (fun (W : World) (kb : Below w12.heap.size w12 W) => (rq.wide (Nat.zero_le _) (Nat.le_refl _) rq.top).keep (Keep.of_below kb 0 0) (by omega))
      have su := Lib.hid (fun (W : World) (kb : Below w12.heap.size w12 W) => ru.keep (Keep.of_below kb 0 0) (by omega))
      have sv := Lib.hid (fun (W : World) (kb : Below w12.heap.size w12 W) => rv.keep (Keep.of_below kb 0 0) (by omega))
      have balt := ba.1
      have ba_0 := ba.2.1
      have ba_1 := ba.2.2.1
      have ba_2 := ba.2.2.2
      have bllt := bl.1
      have bl_0 := bl.2.1
      have bl_1 := bl.2.2
      have bilt := bi.1
      have bi_0 := bi.2.1
      have bi_1 := bi.2.2.1
      have bi_2 := bi.2.2.2.1
      have bi_3 := bi.2.2.2.2
      have bmlt := bm.1
      have bm_0 := bm.2.1
      have bm_1 := bm.2.2
      have btlt := bt.1
      have bt_0 := bt.2.1
      have bt_1 := bt.2.2.1
      have bt_2 := bt.2.2.2
      have bs_lt := bs_.1
      have bs__0 := bs_.2.1
      have bs__1 := bs_.2.2
      have f0 : ∀ (p m : Int) (G : Option Addr) (n c : Nat) (w : World), (Instr.field 32 (.agg #[.int .i64 p, .int .i64 m, .slice G n c]) 0).run Try.prog w = .ok (.int .i64 p) w := fun _ _ _ _ _ _ => by kernel_rfl
      have f1 : ∀ (p m : Int) (G : Option Addr) (n c : Nat) (w : World), (Instr.field 32 (.agg #[.int .i64 p, .int .i64 m, .slice G n c]) 1).run Try.prog w = .ok (.agg #[.int .i64 m, .slice G n c]) w := fun _ _ _ _ _ _ => by kernel_rfl
      have f2 : ∀ (m : Int) (G : Option Addr) (n c : Nat) (w : World), (Instr.field 26 (.agg #[.int .i64 m, .slice G n c]) 0).run Try.prog w = .ok (.int .i64 m) w := fun _ _ _ _ _ => by kernel_rfl
      have f3 : ∀ (m : Int) (G : Option Addr) (n c : Nat) (w : World), (Instr.field 26 (.agg #[.int .i64 m, .slice G n c]) 1).run Try.prog w = .ok (.slice G n c) w := fun _ _ _ _ _ => by kernel_rfl
      have f4 : ∀ (m : Int) (G : Option Addr) (n c : Nat) (w : World), (Instr.field 40 (.agg #[.int .i64 m, .slice G n c]) 0).run Try.prog w = .ok (.int .i64 m) w := fun _ _ _ _ _ => by kernel_rfl
      have f5 : ∀ (m : Int) (G : Option Addr) (n c : Nat) (w : World), (Instr.field 40 (.agg #[.int .i64 m, .slice G n c]) 1).run Try.prog w = .ok (.slice G n c) w := fun _ _ _ _ _ => by kernel_rfl
      clear h rl rx za rm zt ra z3 rp rq ru rv bb ba bl bi bm bt bs_ kd
      have HS := Lib.hid (fun (w' : World) (kb : Below w12.heap.size w12 w') => (⟨(kb.cell balt).trans ba_0, (kb.cell balt).trans ba_1, (kb.cell balt).trans ba_2, (kb.cell bllt).trans bl_0, (kb.cell bllt).trans bl_1, (kb.cell bilt).trans bi_0, (kb.cell bilt).trans bi_1, (kb.cell bilt).trans bi_2, (kb.cell bilt).trans bi_3, (kb.cell bmlt).trans bm_0, (kb.cell bmlt).trans bm_1, (kb.cell btlt).trans bt_0, (kb.cell btlt).trans bt_1, (kb.cell btlt).trans bt_2, (kb.cell bs_lt).trans bs__0, (kb.cell bs_lt).trans bs__1⟩ : w'.cell? ⟨w2.heap.size, 0, none⟩ = some (.int .i64 cc) ∧ w'.cell? ⟨w2.heap.size, 1, none⟩ = some (.int .i64 tb) ∧ w'.cell? ⟨w2.heap.size, 2, none⟩ = some (.slice G1 zs.length cap1) ∧ w'.cell? ⟨w1.heap.size, 0, none⟩ = some (.int .i64 bs) ∧ w'.cell? ⟨w1.heap.size, 1, none⟩ = some (.slice (some ⟨gl, 0, none⟩) nl capl) ∧ w'.cell? ⟨w1.heap.size + 1, 0, none⟩ = some (.int .i64 xk) ∧ w'.cell? ⟨w1.heap.size + 1, 1, none⟩ = some (.slice GB xb.length cb) ∧ w'.cell? ⟨w1.heap.size + 1, 2, none⟩ = some (.int .i64 xp) ∧ w'.cell? ⟨w1.heap.size + 1, 3, none⟩ = some (.int .i64 xq) ∧ w'.cell? ⟨w4.heap.size, 0, none⟩ = some (.int .i64 bs2) ∧ w'.cell? ⟨w4.heap.size, 1, none⟩ = some (.slice (some ⟨gm, 0, none⟩) nm capm) ∧ w'.cell? ⟨w6.heap.size, 0, none⟩ = some (.int .i64 cc2) ∧ w'.cell? ⟨w6.heap.size, 1, none⟩ = some (.int .i64 tb2) ∧ w'.cell? ⟨w6.heap.size, 2, none⟩ = some (.slice G2 zs2.length cap2) ∧ w'.cell? ⟨w9.heap.size, 0, none⟩ = some (.int .i64 cc3) ∧ w'.cell? ⟨w9.heap.size, 1, none⟩ = some (.slice G3 mm cap3)))
      simp only [List.append_eq, List.cons_append, List.nil_append]
      refine wp_region_held_drew (S := fun w' => w'.cell? ⟨w2.heap.size, 0, none⟩ = some (.int .i64 cc) ∧ w'.cell? ⟨w2.heap.size, 1, none⟩ = some (.int .i64 tb) ∧ w'.cell? ⟨w2.heap.size, 2, none⟩ = some (.slice G1 zs.length cap1) ∧ w'.cell? ⟨w1.heap.size, 0, none⟩ = some (.int .i64 bs) ∧ w'.cell? ⟨w1.heap.size, 1, none⟩ = some (.slice (some ⟨gl, 0, none⟩) nl capl) ∧ w'.cell? ⟨w1.heap.size + 1, 0, none⟩ = some (.int .i64 xk) ∧ w'.cell? ⟨w1.heap.size + 1, 1, none⟩ = some (.slice GB xb.length cb) ∧ w'.cell? ⟨w1.heap.size + 1, 2, none⟩ = some (.int .i64 xp) ∧ w'.cell? ⟨w1.heap.size + 1, 3, none⟩ = some (.int .i64 xq) ∧ w'.cell? ⟨w4.heap.size, 0, none⟩ = some (.int .i64 bs2) ∧ w'.cell? ⟨w4.heap.size, 1, none⟩ = some (.slice (some ⟨gm, 0, none⟩) nm capm) ∧ w'.cell? ⟨w6.heap.size, 0, none⟩ = some (.int .i64 cc2) ∧ w'.cell? ⟨w6.heap.size, 1, none⟩ = some (.int .i64 tb2) ∧ w'.cell? ⟨w6.heap.size, 2, none⟩ = some (.slice G2 zs2.length cap2) ∧ w'.cell? ⟨w9.heap.size, 0, none⟩ = some (.int .i64 cc3) ∧ w'.cell? ⟨w9.heap.size, 1, none⟩ = some (.slice G3 mm cap3)) (by kernel_rfl) ?sSa (fun hHeld0 => ?sRa)
      · first | exact HS.out _ bd | ((try dsimp only); go_keep)
      refine wpAnyH_take (i := 0) (oi := { dst := some 54, op := Op.fieldAddr 32 (Operand.tmp 6) 0, type := 0, pos := "laws.go:198", after := #[], guard := none }) (v := ?va0) rfl (by as_aux_lemma => kernel_rfl) (by as_aux_lemma => kernel_rfl) (by as_aux_lemma => kernel_rfl) (fun _ _ _ h => h) (Or.inl ⟨(by as_aux_lemma => rfl), ?ya0⟩) (by assumption) ?ra0
      case ya0 =>
        intro w hSw
        (try dsimp only at hSw)
        go_simp
        (try with_reducible rfl)
      try simp only [Act.put, List.setIfInBounds_toArray, List.set_cons_zero, List.set_cons_succ]
      refine wpAnyH_take (i := 1) (oi := { dst := some 55, op := Op.load 2 (Operand.tmp 54), type := 2, pos := "laws.go:198", after := #[{ on := 0, ground := Ground.data }], guard := none }) (v := ?va1) rfl (by as_aux_lemma => kernel_rfl) (by as_aux_lemma => kernel_rfl) (by as_aux_lemma => kernel_rfl) (fun _ _ _ h => h) (Or.inl ⟨(by as_aux_lemma => rfl), ?ya1⟩) (by assumption) ?ra1
      case ya1 =>
        intro w hSw
        (try dsimp only at hSw)
        go_simp
        (try with_reducible rfl)
      try simp only [Act.put, List.setIfInBounds_toArray, List.set_cons_zero, List.set_cons_succ]
      refine wpAnyH_take (i := 2) (oi := { dst := some 56, op := Op.load 26 (Operand.tmp 3), type := 26, pos := "laws.go:198", after := #[], guard := none }) (v := ?va2) rfl (by as_aux_lemma => kernel_rfl) (by as_aux_lemma => kernel_rfl) (by as_aux_lemma => kernel_rfl) (fun _ _ _ h => h) (Or.inl ⟨(by as_aux_lemma => rfl), ?ya2⟩) (by assumption) ?ra2
      case ya2 =>
        intro w hSw
        (try dsimp only at hSw)
        go_simp
        (try with_reducible rfl)
      try simp only [Act.put, List.setIfInBounds_toArray, List.set_cons_zero, List.set_cons_succ]
      refine wpAnyH_take (i := 3) (oi := { dst := some 57, op := Op.move (Operand.tmp 4), type := 2, pos := "laws.go:198", after := #[], guard := none }) (v := ?va3) rfl (by as_aux_lemma => kernel_rfl) (by as_aux_lemma => kernel_rfl) (by as_aux_lemma => kernel_rfl) (fun _ _ _ h => h) (Or.inl ⟨(by as_aux_lemma => rfl), ?ya3⟩) (by assumption) ?ra3
      case ya3 =>
        intro w hSw
        (try dsimp only at hSw)
        go_simp
        (try with_reducible rfl)
      try simp only [Act.put, List.setIfInBounds_toArray, List.set_cons_zero, List.set_cons_succ]
      refine wpAnyH_take (i := 4) (oi := { dst := some 58, op := Op.load 28 (Operand.tmp 5), type := 28, pos := "laws.go:198", after := #[], guard := none }) (v := ?va4) rfl (by as_aux_lemma => kernel_rfl) (by as_aux_lemma => kernel_rfl) (by as_aux_lemma => kernel_rfl) (fun _ _ _ h => h) (Or.inl ⟨(by as_aux_lemma => rfl), ?ya4⟩) (by assumption) ?ra4
      case ya4 =>
        intro w hSw
        (try dsimp only at hSw)
        go_simp
        (try with_reducible rfl)
      try simp only [Act.put, List.setIfInBounds_toArray, List.set_cons_zero, List.set_cons_succ]
      refine wpAnyH_ready (rs := [5]) (by as_aux_lemma => kernel_rfl) (by simp) ?ra5
      refine AllReadyH.cons (o := { dst := some 59, op := Op.call { callee := Callee.value (Operand.func 19), args := #[Operand.tmp 56, Operand.tmp 57, Operand.tmp 58], argTypes := #[26, 2, 28] }, type := 32, pos := "laws.go:198", after := #[{ on := 2, ground := Ground.data }, { on := 3, ground := Ground.data }, { on := 4, ground := Ground.data }], guard := none }) rfl (fun K hK => ?ka5) AllReadyH.nil
      go_simp
      (go_at_call 19; refine (lp_at (specAdd_any bs room xk xp xq (some ⟨gl, 0, none⟩) GB nl capl xb.length cb _ _ zl xb _ (sl.out _ bd) (sx.out _ bd) hgz hbs') HCC.out HTB.out HZS.out).mono ?_; rintro e v ⟨Gx, capx, rfl, ux, hb⟩; replace bd := bd.trans (hb.mono bd.size); have szd := bd.size)
      (try go_wp2_with fail)
      refine hK.out _ _ ?sa5 (fun hHeld1 => ?ta5)
      · first | exact HS.out _ bd | ((try dsimp only); go_keep)
      clear hK K hHeld0
      try simp only [Act.put, List.setIfInBounds_toArray, List.set_cons_zero, List.set_cons_succ]
      as_aux_lemma =>
       refine wpAnyH_take (i := 6) (oi := { dst := some 60, op := Op.field 32 (Operand.tmp 59) 0, type := 2, pos := "laws.go:198", after := #[{ on := 5, ground := Ground.data }], guard := none }) (v := ?va6) rfl (by as_aux_lemma => kernel_rfl) (by as_aux_lemma => kernel_rfl) (by as_aux_lemma => kernel_rfl) (fun _ _ _ h => h) (Or.inl ⟨(by as_aux_lemma => rfl), ?ya6⟩) (by assumption) ?ra6
       case ya6 =>
         intro w hSw
         (try dsimp only at hSw)
         go_simp
         (try with_reducible rfl)
       try simp only [Act.put, List.setIfInBounds_toArray, List.set_cons_zero, List.set_cons_succ]
       refine wpAnyH_take (i := 7) (oi := { dst := some 61, op := Op.binOp BinOp.neq 2 (Operand.tmp 55) (Operand.tmp 60) 2, type := 4, pos := "laws.go:198", after := #[{ on := 1, ground := Ground.data }, { on := 6, ground := Ground.data }], guard := none }) (v := ?va7) rfl (by as_aux_lemma => kernel_rfl) (by as_aux_lemma => kernel_rfl) (by as_aux_lemma => kernel_rfl) (fun _ _ _ h => h) (Or.inl ⟨(by as_aux_lemma => rfl), ?ya7⟩) (by assumption) ?ra7
       case ya7 =>
         intro w hSw
         (try dsimp only at hSw)
         go_simp
         (try with_reducible rfl)
       try simp only [Act.put, List.setIfInBounds_toArray, List.set_cons_zero, List.set_cons_succ]
       refine wpAnyH_take (i := 8) (oi := { dst := some 62, op := Op.move (Operand.tmp 61), type := 4, pos := "laws.go:198", after := #[{ on := 7, ground := Ground.data }, { on := 5, ground := Ground.chain }], guard := none }) (v := ?va8) rfl (by as_aux_lemma => kernel_rfl) (by as_aux_lemma => kernel_rfl) (by as_aux_lemma => kernel_rfl) (fun _ _ _ h => h) (Or.inl ⟨(by as_aux_lemma => rfl), ?ya8⟩) (by assumption) ?ra8
       case ya8 =>
         intro w hSw
         (try dsimp only at hSw)
         go_simp
         (try with_reducible rfl)
       try simp only [Act.put, List.setIfInBounds_toArray, List.set_cons_zero, List.set_cons_succ]
       refine wpAnyH_take (i := 9) (oi := { dst := some 63, op := Op.fieldAddr 32 (Operand.tmp 6) 1, type := 0, pos := "laws.go:198", after := #[{ on := 8, ground := Ground.guard }], guard := some (8, false) }) (v := ?va9) rfl (by as_aux_lemma => kernel_rfl) (by as_aux_lemma => kernel_rfl) (by as_aux_lemma => kernel_rfl) (fun _ _ _ h => h) (Or.inl ⟨(by as_aux_lemma => rfl), ?ya9⟩) (by assumption) ?ra9
       case ya9 =>
         intro w hSw
         (try dsimp only at hSw)
         go_simp
         (try with_reducible rfl)
       try simp only [Act.put, List.setIfInBounds_toArray, List.set_cons_zero, List.set_cons_succ]
       refine wpAnyH_take (i := 10) (oi := { dst := some 64, op := Op.fieldAddr 26 (Operand.tmp 63) 0, type := 0, pos := "laws.go:198", after := #[{ on := 9, ground := Ground.data }, { on := 8, ground := Ground.guard }], guard := some (8, false) }) (v := ?va10) rfl (by as_aux_lemma => kernel_rfl) (by as_aux_lemma => kernel_rfl) (by as_aux_lemma => kernel_rfl) (fun _ _ _ h => h) (Or.inl ⟨(by as_aux_lemma => rfl), ?ya10⟩) (by assumption) ?ra10
       case ya10 =>
         intro w hSw
         (try dsimp only at hSw)
         go_simp
         (try with_reducible rfl)
       try simp only [Act.put, List.setIfInBounds_toArray, List.set_cons_zero, List.set_cons_succ]
       refine wpAnyH_take (i := 11) (oi := { dst := some 65, op := Op.load 2 (Operand.tmp 64), type := 2, pos := "laws.go:198", after := #[{ on := 10, ground := Ground.data }, { on := 8, ground := Ground.guard }], guard := some (8, false) }) (v := ?va11) rfl (by as_aux_lemma => kernel_rfl) (by as_aux_lemma => kernel_rfl) (by as_aux_lemma => kernel_rfl) (fun _ _ _ h => h) (Or.inl ⟨(by as_aux_lemma => rfl), ?ya11⟩) (by assumption) ?ra11
       case ya11 =>
         intro w hSw
         (try dsimp only at hSw)
         go_simp
         (try with_reducible rfl)
       try simp only [Act.put, List.setIfInBounds_toArray, List.set_cons_zero, List.set_cons_succ]
       refine wpAnyH_take (i := 12) (oi := { dst := some 66, op := Op.load 26 (Operand.tmp 3), type := 26, pos := "laws.go:198", after := #[{ on := 8, ground := Ground.guard }], guard := some (8, false) }) (v := ?va12) rfl (by as_aux_lemma => kernel_rfl) (by as_aux_lemma => kernel_rfl) (by as_aux_lemma => kernel_rfl) (fun _ _ _ h => h) (Or.inl ⟨(by as_aux_lemma => rfl), ?ya12⟩) (by assumption) ?ra12
       case ya12 =>
         intro w hSw
         (try dsimp only at hSw)
         go_simp
         (try with_reducible rfl)
       try simp only [Act.put, List.setIfInBounds_toArray, List.set_cons_zero, List.set_cons_succ]
       refine wpAnyH_take (i := 13) (oi := { dst := some 67, op := Op.move (Operand.tmp 4), type := 2, pos := "laws.go:198", after := #[{ on := 8, ground := Ground.guard }], guard := some (8, false) }) (v := ?va13) rfl (by as_aux_lemma => kernel_rfl) (by as_aux_lemma => kernel_rfl) (by as_aux_lemma => kernel_rfl) (fun _ _ _ h => h) (Or.inl ⟨(by as_aux_lemma => rfl), ?ya13⟩) (by assumption) ?ra13
       case ya13 =>
         intro w hSw
         (try dsimp only at hSw)
         go_simp
         (try with_reducible rfl)
       try simp only [Act.put, List.setIfInBounds_toArray, List.set_cons_zero, List.set_cons_succ]
       refine wpAnyH_take (i := 14) (oi := { dst := some 68, op := Op.load 28 (Operand.tmp 5), type := 28, pos := "laws.go:198", after := #[{ on := 8, ground := Ground.guard }], guard := some (8, false) }) (v := ?va14) rfl (by as_aux_lemma => kernel_rfl) (by as_aux_lemma => kernel_rfl) (by as_aux_lemma => kernel_rfl) (fun _ _ _ h => h) (Or.inl ⟨(by as_aux_lemma => rfl), ?ya14⟩) (by assumption) ?ra14
       case ya14 =>
         intro w hSw
         (try dsimp only at hSw)
         go_simp
         (try with_reducible rfl)
       try simp only [Act.put, List.setIfInBounds_toArray, List.set_cons_zero, List.set_cons_succ]
       refine wpAnyH_ready (rs := [15]) (by as_aux_lemma => kernel_rfl) (by simp) ?ra15
       refine AllReadyH.cons (o := { dst := some 69, op := Op.call { callee := Callee.value (Operand.func 19), args := #[Operand.tmp 66, Operand.tmp 67, Operand.tmp 68], argTypes := #[26, 2, 28] }, type := 32, pos := "laws.go:198", after := #[{ on := 12, ground := Ground.data }, { on := 13, ground := Ground.data }, { on := 14, ground := Ground.data }, { on := 8, ground := Ground.chain }, { on := 8, ground := Ground.guard }], guard := some (8, false) }) rfl (fun K hK => ?ka15) AllReadyH.nil
       go_simp
       (go_at_call 19; refine (lp_at (specAdd_any bs room xk xp xq (some ⟨gl, 0, none⟩) GB nl capl xb.length cb _ _ zl xb _ (sl.out _ bd) (sx.out _ bd) hgz hbs') HCC.out HTB.out HZS.out).mono ?_; rintro e v ⟨Gx, capx, rfl, ux, hb⟩; replace bd := bd.trans (hb.mono bd.size); have szd := bd.size)
       (try go_wp2_with fail)
       refine hK.out _ _ ?sa15 (fun hHeld2 => ?ta15)
       · first | exact HS.out _ bd | ((try dsimp only); go_keep)
       clear hK K hHeld1
       try simp only [Act.put, List.setIfInBounds_toArray, List.set_cons_zero, List.set_cons_succ]
       as_aux_lemma =>
        refine wpAnyH_take (i := 16) (oi := { dst := some 70, op := Op.field 32 (Operand.tmp 69) 1, type := 26, pos := "laws.go:198", after := #[{ on := 15, ground := Ground.data }, { on := 8, ground := Ground.guard }], guard := some (8, false) }) (v := ?va16) rfl (by as_aux_lemma => kernel_rfl) (by as_aux_lemma => kernel_rfl) (by as_aux_lemma => kernel_rfl) (fun _ _ _ h => h) (Or.inl ⟨(by as_aux_lemma => rfl), ?ya16⟩) (by assumption) ?ra16
        case ya16 =>
          intro w hSw
          (try dsimp only at hSw)
          go_simp
          (try with_reducible rfl)
        try simp only [Act.put, List.setIfInBounds_toArray, List.set_cons_zero, List.set_cons_succ]
        refine wpAnyH_take (i := 17) (oi := { dst := some 71, op := Op.field 26 (Operand.tmp 70) 0, type := 2, pos := "laws.go:198", after := #[{ on := 16, ground := Ground.data }, { on := 8, ground := Ground.guard }], guard := some (8, false) }) (v := ?va17) rfl (by as_aux_lemma => kernel_rfl) (by as_aux_lemma => kernel_rfl) (by as_aux_lemma => kernel_rfl) (fun _ _ _ h => h) (Or.inl ⟨(by as_aux_lemma => rfl), ?ya17⟩) (by assumption) ?ra17
        case ya17 =>
          intro w hSw
          (try dsimp only at hSw)
          go_simp
          (try with_reducible rfl)
        try simp only [Act.put, List.setIfInBounds_toArray, List.set_cons_zero, List.set_cons_succ]
        refine wpAnyH_take (i := 18) (oi := { dst := some 72, op := Op.binOp BinOp.neq 2 (Operand.tmp 65) (Operand.tmp 71) 2, type := 4, pos := "laws.go:198", after := #[{ on := 11, ground := Ground.data }, { on := 17, ground := Ground.data }, { on := 8, ground := Ground.guard }], guard := some (8, false) }) (v := ?va18) rfl (by as_aux_lemma => kernel_rfl) (by as_aux_lemma => kernel_rfl) (by as_aux_lemma => kernel_rfl) (fun _ _ _ h => h) (Or.inl ⟨(by as_aux_lemma => rfl), ?ya18⟩) (by assumption) ?ra18
        case ya18 =>
          intro w hSw
          (try dsimp only at hSw)
          go_simp
          (try with_reducible rfl)
        try simp only [Act.put, List.setIfInBounds_toArray, List.set_cons_zero, List.set_cons_succ]
        refine wpAnyH_take (i := 19) (oi := { dst := some 73, op := Op.pick (Operand.tmp 62) (Operand.const (Value.bool true)) (Operand.tmp 72), type := 4, pos := "laws.go:198", after := #[{ on := 8, ground := Ground.data }, { on := 18, ground := Ground.data }], guard := none }) (v := ?va19) rfl (by as_aux_lemma => kernel_rfl) (by as_aux_lemma => kernel_rfl) (by as_aux_lemma => kernel_rfl) (fun _ _ _ h => h) (Or.inl ⟨(by as_aux_lemma => rfl), ?ya19⟩) (by assumption) ?ra19
        case ya19 =>
          intro w hSw
          (try dsimp only at hSw)
          go_simp
          (try with_reducible rfl)
        try simp only [Act.put, List.setIfInBounds_toArray, List.set_cons_zero, List.set_cons_succ]
        refine wpAnyH_take (i := 20) (oi := { dst := some 74, op := Op.move (Operand.tmp 73), type := 4, pos := "laws.go:198", after := #[{ on := 19, ground := Ground.data }, { on := 15, ground := Ground.chain }], guard := none }) (v := ?va20) rfl (by as_aux_lemma => kernel_rfl) (by as_aux_lemma => kernel_rfl) (by as_aux_lemma => kernel_rfl) (fun _ _ _ h => h) (Or.inl ⟨(by as_aux_lemma => rfl), ?ya20⟩) (by assumption) ?ra20
        case ya20 =>
          intro w hSw
          (try dsimp only at hSw)
          go_simp
          (try with_reducible rfl)
        try simp only [Act.put, List.setIfInBounds_toArray, List.set_cons_zero, List.set_cons_succ]
        refine wpAnyH_take (i := 21) (oi := { dst := some 75, op := Op.fieldAddr 32 (Operand.tmp 6) 1, type := 0, pos := "laws.go:198", after := #[{ on := 20, ground := Ground.guard }], guard := some (20, false) }) (v := ?va21) rfl (by as_aux_lemma => kernel_rfl) (by as_aux_lemma => kernel_rfl) (by as_aux_lemma => kernel_rfl) (fun _ _ _ h => h) (Or.inl ⟨(by as_aux_lemma => rfl), ?ya21⟩) (by assumption) ?ra21
        case ya21 =>
          intro w hSw
          (try dsimp only at hSw)
          go_simp
          (try with_reducible rfl)
        try simp only [Act.put, List.setIfInBounds_toArray, List.set_cons_zero, List.set_cons_succ]
        refine wpAnyH_take (i := 22) (oi := { dst := some 76, op := Op.fieldAddr 26 (Operand.tmp 75) 1, type := 0, pos := "laws.go:198", after := #[{ on := 21, ground := Ground.data }, { on := 20, ground := Ground.guard }], guard := some (20, false) }) (v := ?va22) rfl (by as_aux_lemma => kernel_rfl) (by as_aux_lemma => kernel_rfl) (by as_aux_lemma => kernel_rfl) (fun _ _ _ h => h) (Or.inl ⟨(by as_aux_lemma => rfl), ?ya22⟩) (by assumption) ?ra22
        case ya22 =>
          intro w hSw
          (try dsimp only at hSw)
          go_simp
          (try with_reducible rfl)
        try simp only [Act.put, List.setIfInBounds_toArray, List.set_cons_zero, List.set_cons_succ]
        refine wpAnyH_take (i := 23) (oi := { dst := some 77, op := Op.load 24 (Operand.tmp 76), type := 24, pos := "laws.go:198", after := #[{ on := 22, ground := Ground.data }, { on := 20, ground := Ground.guard }], guard := some (20, false) }) (v := ?va23) rfl (by as_aux_lemma => kernel_rfl) (by as_aux_lemma => kernel_rfl) (by as_aux_lemma => kernel_rfl) (fun _ _ _ h => h) (Or.inl ⟨(by as_aux_lemma => rfl), ?ya23⟩) (by assumption) ?ra23
        case ya23 =>
          intro w hSw
          (try dsimp only at hSw)
          go_simp
          (try with_reducible rfl)
        try simp only [Act.put, List.setIfInBounds_toArray, List.set_cons_zero, List.set_cons_succ]
        refine wpAnyH_take (i := 24) (oi := { dst := some 78, op := Op.load 26 (Operand.tmp 3), type := 26, pos := "laws.go:198", after := #[{ on := 20, ground := Ground.guard }], guard := some (20, false) }) (v := ?va24) rfl (by as_aux_lemma => kernel_rfl) (by as_aux_lemma => kernel_rfl) (by as_aux_lemma => kernel_rfl) (fun _ _ _ h => h) (Or.inl ⟨(by as_aux_lemma => rfl), ?ya24⟩) (by assumption) ?ra24
        case ya24 =>
          intro w hSw
          (try dsimp only at hSw)
          go_simp
          (try with_reducible rfl)
        try simp only [Act.put, List.setIfInBounds_toArray, List.set_cons_zero, List.set_cons_succ]
        refine wpAnyH_take (i := 25) (oi := { dst := some 79, op := Op.move (Operand.tmp 4), type := 2, pos := "laws.go:198", after := #[{ on := 20, ground := Ground.guard }], guard := some (20, false) }) (v := ?va25) rfl (by as_aux_lemma => kernel_rfl) (by as_aux_lemma => kernel_rfl) (by as_aux_lemma => kernel_rfl) (fun _ _ _ h => h) (Or.inl ⟨(by as_aux_lemma => rfl), ?ya25⟩) (by assumption) ?ra25
        case ya25 =>
          intro w hSw
          (try dsimp only at hSw)
          go_simp
          (try with_reducible rfl)
        try simp only [Act.put, List.setIfInBounds_toArray, List.set_cons_zero, List.set_cons_succ]
        refine wpAnyH_take (i := 26) (oi := { dst := some 80, op := Op.load 28 (Operand.tmp 5), type := 28, pos := "laws.go:198", after := #[{ on := 20, ground := Ground.guard }], guard := some (20, false) }) (v := ?va26) rfl (by as_aux_lemma => kernel_rfl) (by as_aux_lemma => kernel_rfl) (by as_aux_lemma => kernel_rfl) (fun _ _ _ h => h) (Or.inl ⟨(by as_aux_lemma => rfl), ?ya26⟩) (by assumption) ?ra26
        case ya26 =>
          intro w hSw
          (try dsimp only at hSw)
          go_simp
          (try with_reducible rfl)
        try simp only [Act.put, List.setIfInBounds_toArray, List.set_cons_zero, List.set_cons_succ]
        refine wpAnyH_ready (rs := [27]) (by as_aux_lemma => kernel_rfl) (by simp) ?ra27
        refine AllReadyH.cons (o := { dst := some 81, op := Op.call { callee := Callee.value (Operand.func 19), args := #[Operand.tmp 78, Operand.tmp 79, Operand.tmp 80], argTypes := #[26, 2, 28] }, type := 32, pos := "laws.go:198", after := #[{ on := 24, ground := Ground.data }, { on := 25, ground := Ground.data }, { on := 26, ground := Ground.data }, { on := 20, ground := Ground.chain }, { on := 20, ground := Ground.guard }], guard := some (20, false) }) rfl (fun K hK => ?ka27) AllReadyH.nil
        go_simp
        (go_at_call 19; refine (lp_at (specAdd_any bs room xk xp xq (some ⟨gl, 0, none⟩) GB nl capl xb.length cb _ _ zl xb _ (sl.out _ bd) (sx.out _ bd) hgz hbs') HCC.out HTB.out HZS.out).mono ?_; rintro e v ⟨Gx, capx, rfl, ux, hb⟩; replace bd := bd.trans (hb.mono bd.size); have szd := bd.size)
        (try go_wp2_with fail)
        refine hK.out _ _ ?sa27 (fun hHeld3 => ?ta27)
        · first | exact HS.out _ bd | ((try dsimp only); go_keep)
        clear hK K hHeld2
        try simp only [Act.put, List.setIfInBounds_toArray, List.set_cons_zero, List.set_cons_succ]
        as_aux_lemma =>
         refine wpAnyH_take (i := 28) (oi := { dst := some 82, op := Op.field 32 (Operand.tmp 81) 1, type := 26, pos := "laws.go:198", after := #[{ on := 27, ground := Ground.data }, { on := 20, ground := Ground.guard }], guard := some (20, false) }) (v := ?va28) rfl (by as_aux_lemma => kernel_rfl) (by as_aux_lemma => kernel_rfl) (by as_aux_lemma => kernel_rfl) (fun _ _ _ h => h) (Or.inl ⟨(by as_aux_lemma => rfl), ?ya28⟩) (by assumption) ?ra28
         case ya28 =>
           intro w hSw
           (try dsimp only at hSw)
           go_simp
           (try with_reducible rfl)
         try simp only [Act.put, List.setIfInBounds_toArray, List.set_cons_zero, List.set_cons_succ]
         refine wpAnyH_take (i := 29) (oi := { dst := some 83, op := Op.field 26 (Operand.tmp 82) 1, type := 24, pos := "laws.go:198", after := #[{ on := 28, ground := Ground.data }, { on := 20, ground := Ground.guard }], guard := some (20, false) }) (v := ?va29) rfl (by as_aux_lemma => kernel_rfl) (by as_aux_lemma => kernel_rfl) (by as_aux_lemma => kernel_rfl) (fun _ _ _ h => h) (Or.inl ⟨(by as_aux_lemma => rfl), ?ya29⟩) (by assumption) ?ra29
         case ya29 =>
           intro w hSw
           (try dsimp only at hSw)
           go_simp
           (try with_reducible rfl)
         try simp only [Act.put, List.setIfInBounds_toArray, List.set_cons_zero, List.set_cons_succ]
         refine wpAnyH_ready (rs := [30]) (by as_aux_lemma => kernel_rfl) (by simp) ?ra30
         refine AllReadyH.cons (o := { dst := some 84, op := Op.call { callee := Callee.value (Operand.func 20), args := #[Operand.tmp 77, Operand.tmp 83], argTypes := #[24, 24] }, type := 4, pos := "laws.go:198", after := #[{ on := 23, ground := Ground.data }, { on := 29, ground := Ground.data }, { on := 27, ground := Ground.chain }, { on := 20, ground := Ground.guard }], guard := some (20, false) }) rfl (fun K hK => ?ka30) AllReadyH.nil
         go_simp
         (go_at_call_of 20 G1; refine (implSameItems_any G1 _ zs.length cap1 zs.length _ _ _ zs zs _ true (sa.out _ bd) (ux.rt.wide (lo' := 0) (Nat.zero_le _) (Nat.le_refl _) ux.top) (decide_eq_true rfl)).mono ?_; rintro e v ⟨rfl, hb⟩; replace bd := bd.trans (hb.mono bd.size); have szd := bd.size)
         (try go_wp2_with fail)
         refine hK.out _ _ ?sa30 (fun hHeld4 => ?ta30)
         · first | exact HS.out _ bd | ((try dsimp only); go_keep)
         clear hK K hHeld3
         try simp only [Act.put, List.setIfInBounds_toArray, List.set_cons_zero, List.set_cons_succ]
         as_aux_lemma =>
          refine wpAnyH_take (i := 31) (oi := { dst := some 85, op := Op.unOp UnOp.not 4 (Operand.tmp 84), type := 4, pos := "laws.go:198", after := #[{ on := 30, ground := Ground.data }, { on := 20, ground := Ground.guard }], guard := some (20, false) }) (v := ?va31) rfl (by as_aux_lemma => kernel_rfl) (by as_aux_lemma => kernel_rfl) (by as_aux_lemma => kernel_rfl) (fun _ _ _ h => h) (Or.inl ⟨(by as_aux_lemma => rfl), ?ya31⟩) (by assumption) ?ra31
          case ya31 =>
            intro w hSw
            (try dsimp only at hSw)
            go_simp
            (try with_reducible rfl)
          try simp only [Act.put, List.setIfInBounds_toArray, List.set_cons_zero, List.set_cons_succ]
          refine wpAnyH_take (i := 32) (oi := { dst := some 86, op := Op.pick (Operand.tmp 74) (Operand.const (Value.bool true)) (Operand.tmp 85), type := 4, pos := "laws.go:198", after := #[{ on := 20, ground := Ground.data }, { on := 31, ground := Ground.data }], guard := none }) (v := ?va32) rfl (by as_aux_lemma => kernel_rfl) (by as_aux_lemma => kernel_rfl) (by as_aux_lemma => kernel_rfl) (fun _ _ _ h => h) (Or.inl ⟨(by as_aux_lemma => rfl), ?ya32⟩) (by assumption) ?ra32
          case ya32 =>
            intro w hSw
            (try dsimp only at hSw)
            go_simp
            (try with_reducible rfl)
          try simp only [Act.put, List.setIfInBounds_toArray, List.set_cons_zero, List.set_cons_succ]
          refine wpAnyH_take (i := 33) (oi := { dst := some 87, op := Op.move (Operand.tmp 86), type := 4, pos := "laws.go:198", after := #[{ on := 32, ground := Ground.data }, { on := 30, ground := Ground.chain }], guard := none }) (v := ?va33) rfl (by as_aux_lemma => kernel_rfl) (by as_aux_lemma => kernel_rfl) (by as_aux_lemma => kernel_rfl) (fun _ _ _ h => h) (Or.inl ⟨(by as_aux_lemma => rfl), ?ya33⟩) (by assumption) ?ra33
          case ya33 =>
            intro w hSw
            (try dsimp only at hSw)
            go_simp
            (try with_reducible rfl)
          try simp only [Act.put, List.setIfInBounds_toArray, List.set_cons_zero, List.set_cons_succ]
          refine wpAnyH_take (i := 34) (oi := { dst := some 88, op := Op.fieldAddr 32 (Operand.tmp 10) 0, type := 0, pos := "laws.go:198", after := #[{ on := 33, ground := Ground.guard }], guard := some (33, false) }) (v := ?va34) rfl (by as_aux_lemma => kernel_rfl) (by as_aux_lemma => kernel_rfl) (by as_aux_lemma => kernel_rfl) (fun _ _ _ h => h) (Or.inl ⟨(by as_aux_lemma => rfl), ?ya34⟩) (by assumption) ?ra34
          case ya34 =>
            intro w hSw
            (try dsimp only at hSw)
            go_simp
            (try with_reducible rfl)
          try simp only [Act.put, List.setIfInBounds_toArray, List.set_cons_zero, List.set_cons_succ]
          refine wpAnyH_take (i := 35) (oi := { dst := some 89, op := Op.load 2 (Operand.tmp 88), type := 2, pos := "laws.go:198", after := #[{ on := 34, ground := Ground.data }, { on := 33, ground := Ground.guard }], guard := some (33, false) }) (v := ?va35) rfl (by as_aux_lemma => kernel_rfl) (by as_aux_lemma => kernel_rfl) (by as_aux_lemma => kernel_rfl) (fun _ _ _ h => h) (Or.inl ⟨(by as_aux_lemma => rfl), ?ya35⟩) (by assumption) ?ra35
          case ya35 =>
            intro w hSw
            (try dsimp only at hSw)
            go_simp
            (try with_reducible rfl)
          try simp only [Act.put, List.setIfInBounds_toArray, List.set_cons_zero, List.set_cons_succ]
          refine wpAnyH_take (i := 36) (oi := { dst := some 90, op := Op.load 26 (Operand.tmp 7), type := 26, pos := "laws.go:198", after := #[{ on := 33, ground := Ground.guard }], guard := some (33, false) }) (v := ?va36) rfl (by as_aux_lemma => kernel_rfl) (by as_aux_lemma => kernel_rfl) (by as_aux_lemma => kernel_rfl) (fun _ _ _ h => h) (Or.inl ⟨(by as_aux_lemma => rfl), ?ya36⟩) (by assumption) ?ra36
          case ya36 =>
            intro w hSw
            (try dsimp only at hSw)
            go_simp
            (try with_reducible rfl)
          try simp only [Act.put, List.setIfInBounds_toArray, List.set_cons_zero, List.set_cons_succ]
          refine wpAnyH_take (i := 37) (oi := { dst := some 91, op := Op.move (Operand.tmp 8), type := 2, pos := "laws.go:198", after := #[{ on := 33, ground := Ground.guard }], guard := some (33, false) }) (v := ?va37) rfl (by as_aux_lemma => kernel_rfl) (by as_aux_lemma => kernel_rfl) (by as_aux_lemma => kernel_rfl) (fun _ _ _ h => h) (Or.inl ⟨(by as_aux_lemma => rfl), ?ya37⟩) (by assumption) ?ra37
          case ya37 =>
            intro w hSw
            (try dsimp only at hSw)
            go_simp
            (try with_reducible rfl)
          try simp only [Act.put, List.setIfInBounds_toArray, List.set_cons_zero, List.set_cons_succ]
          refine wpAnyH_take (i := 38) (oi := { dst := some 92, op := Op.move (Operand.tmp 9), type := 2, pos := "laws.go:198", after := #[{ on := 33, ground := Ground.guard }], guard := some (33, false) }) (v := ?va38) rfl (by as_aux_lemma => kernel_rfl) (by as_aux_lemma => kernel_rfl) (by as_aux_lemma => kernel_rfl) (fun _ _ _ h => h) (Or.inl ⟨(by as_aux_lemma => rfl), ?ya38⟩) (by assumption) ?ra38
          case ya38 =>
            intro w hSw
            (try dsimp only at hSw)
            go_simp
            (try with_reducible rfl)
          try simp only [Act.put, List.setIfInBounds_toArray, List.set_cons_zero, List.set_cons_succ]
          refine wpAnyH_ready (rs := [39]) (by as_aux_lemma => kernel_rfl) (by simp) ?ra39
          refine AllReadyH.cons (o := { dst := some 93, op := Op.call { callee := Callee.value (Operand.func 21), args := #[Operand.tmp 90, Operand.tmp 91, Operand.tmp 92], argTypes := #[26, 2, 2] }, type := 32, pos := "laws.go:198", after := #[{ on := 36, ground := Ground.data }, { on := 37, ground := Ground.data }, { on := 38, ground := Ground.data }, { on := 33, ground := Ground.chain }, { on := 33, ground := Ground.guard }], guard := some (33, false) }) rfl (fun K hK => ?ka39) AllReadyH.nil
          go_simp
          (go_at_call 21; refine (lp_at (specTrim_lp bs2 room2 tt gm 0 nm capm _ zm _ (sm.out _ bd) hcm' hbs2') HCC2.out HTB2.out HZS2.out).mono ?_; rintro e v ⟨Gx, capx, rfl, ux, hb⟩; replace bd := bd.trans (hb.mono bd.size); have szd := bd.size)
          (try go_wp2_with fail)
          refine hK.out _ _ ?sa39 (fun hHeld5 => ?ta39)
          · first | exact HS.out _ bd | ((try dsimp only); go_keep)
          clear hK K hHeld4
          try simp only [Act.put, List.setIfInBounds_toArray, List.set_cons_zero, List.set_cons_succ]
          as_aux_lemma =>
           refine wpAnyH_take (i := 40) (oi := { dst := some 94, op := Op.field 32 (Operand.tmp 93) 0, type := 2, pos := "laws.go:198", after := #[{ on := 39, ground := Ground.data }, { on := 33, ground := Ground.guard }], guard := some (33, false) }) (v := ?va40) rfl (by as_aux_lemma => kernel_rfl) (by as_aux_lemma => kernel_rfl) (by as_aux_lemma => kernel_rfl) (fun _ _ _ h => h) (Or.inl ⟨(by as_aux_lemma => rfl), ?ya40⟩) (by assumption) ?ra40
           case ya40 =>
             intro w hSw
             (try dsimp only at hSw)
             go_simp
             (try with_reducible rfl)
           try simp only [Act.put, List.setIfInBounds_toArray, List.set_cons_zero, List.set_cons_succ]
           refine wpAnyH_take (i := 41) (oi := { dst := some 95, op := Op.binOp BinOp.neq 2 (Operand.tmp 89) (Operand.tmp 94) 2, type := 4, pos := "laws.go:198", after := #[{ on := 35, ground := Ground.data }, { on := 40, ground := Ground.data }, { on := 33, ground := Ground.guard }], guard := some (33, false) }) (v := ?va41) rfl (by as_aux_lemma => kernel_rfl) (by as_aux_lemma => kernel_rfl) (by as_aux_lemma => kernel_rfl) (fun _ _ _ h => h) (Or.inl ⟨(by as_aux_lemma => rfl), ?ya41⟩) (by assumption) ?ra41
           case ya41 =>
             intro w hSw
             (try dsimp only at hSw)
             go_simp
             (try with_reducible rfl)
           try simp only [Act.put, List.setIfInBounds_toArray, List.set_cons_zero, List.set_cons_succ]
           refine wpAnyH_take (i := 42) (oi := { dst := some 96, op := Op.pick (Operand.tmp 87) (Operand.const (Value.bool true)) (Operand.tmp 95), type := 4, pos := "laws.go:198", after := #[{ on := 33, ground := Ground.data }, { on := 41, ground := Ground.data }], guard := none }) (v := ?va42) rfl (by as_aux_lemma => kernel_rfl) (by as_aux_lemma => kernel_rfl) (by as_aux_lemma => kernel_rfl) (fun _ _ _ h => h) (Or.inl ⟨(by as_aux_lemma => rfl), ?ya42⟩) (by assumption) ?ra42
           case ya42 =>
             intro w hSw
             (try dsimp only at hSw)
             go_simp
             (try with_reducible rfl)
           try simp only [Act.put, List.setIfInBounds_toArray, List.set_cons_zero, List.set_cons_succ]
           refine wpAnyH_take (i := 43) (oi := { dst := some 97, op := Op.move (Operand.tmp 96), type := 4, pos := "laws.go:198", after := #[{ on := 42, ground := Ground.data }, { on := 39, ground := Ground.chain }], guard := none }) (v := ?va43) rfl (by as_aux_lemma => kernel_rfl) (by as_aux_lemma => kernel_rfl) (by as_aux_lemma => kernel_rfl) (fun _ _ _ h => h) (Or.inl ⟨(by as_aux_lemma => rfl), ?ya43⟩) (by assumption) ?ra43
           case ya43 =>
             intro w hSw
             (try dsimp only at hSw)
             go_simp
             (try with_reducible rfl)
           try simp only [Act.put, List.setIfInBounds_toArray, List.set_cons_zero, List.set_cons_succ]
           refine wpAnyH_take (i := 44) (oi := { dst := some 98, op := Op.fieldAddr 32 (Operand.tmp 10) 1, type := 0, pos := "laws.go:198", after := #[{ on := 43, ground := Ground.guard }], guard := some (43, false) }) (v := ?va44) rfl (by as_aux_lemma => kernel_rfl) (by as_aux_lemma => kernel_rfl) (by as_aux_lemma => kernel_rfl) (fun _ _ _ h => h) (Or.inl ⟨(by as_aux_lemma => rfl), ?ya44⟩) (by assumption) ?ra44
           case ya44 =>
             intro w hSw
             (try dsimp only at hSw)
             go_simp
             (try with_reducible rfl)
           try simp only [Act.put, List.setIfInBounds_toArray, List.set_cons_zero, List.set_cons_succ]
           refine wpAnyH_take (i := 45) (oi := { dst := some 99, op := Op.fieldAddr 26 (Operand.tmp 98) 1, type := 0, pos := "laws.go:198", after := #[{ on := 44, ground := Ground.data }, { on := 43, ground := Ground.guard }], guard := some (43, false) }) (v := ?va45) rfl (by as_aux_lemma => kernel_rfl) (by as_aux_lemma => kernel_rfl) (by as_aux_lemma => kernel_rfl) (fun _ _ _ h => h) (Or.inl ⟨(by as_aux_lemma => rfl), ?ya45⟩) (by assumption) ?ra45
           case ya45 =>
             intro w hSw
             (try dsimp only at hSw)
             go_simp
             (try with_reducible rfl)
           try simp only [Act.put, List.setIfInBounds_toArray, List.set_cons_zero, List.set_cons_succ]
           refine wpAnyH_take (i := 46) (oi := { dst := some 100, op := Op.load 24 (Operand.tmp 99), type := 24, pos := "laws.go:198", after := #[{ on := 45, ground := Ground.data }, { on := 43, ground := Ground.guard }], guard := some (43, false) }) (v := ?va46) rfl (by as_aux_lemma => kernel_rfl) (by as_aux_lemma => kernel_rfl) (by as_aux_lemma => kernel_rfl) (fun _ _ _ h => h) (Or.inl ⟨(by as_aux_lemma => rfl), ?ya46⟩) (by assumption) ?ra46
           case ya46 =>
             intro w hSw
             (try dsimp only at hSw)
             go_simp
             (try with_reducible rfl)
           try simp only [Act.put, List.setIfInBounds_toArray, List.set_cons_zero, List.set_cons_succ]
           refine wpAnyH_take (i := 47) (oi := { dst := some 101, op := Op.load 26 (Operand.tmp 7), type := 26, pos := "laws.go:198", after := #[{ on := 43, ground := Ground.guard }], guard := some (43, false) }) (v := ?va47) rfl (by as_aux_lemma => kernel_rfl) (by as_aux_lemma => kernel_rfl) (by as_aux_lemma => kernel_rfl) (fun _ _ _ h => h) (Or.inl ⟨(by as_aux_lemma => rfl), ?ya47⟩) (by assumption) ?ra47
           case ya47 =>
             intro w hSw
             (try dsimp only at hSw)
             go_simp
             (try with_reducible rfl)
           try simp only [Act.put, List.setIfInBounds_toArray, List.set_cons_zero, List.set_cons_succ]
           refine wpAnyH_take (i := 48) (oi := { dst := some 102, op := Op.move (Operand.tmp 8), type := 2, pos := "laws.go:198", after := #[{ on := 43, ground := Ground.guard }], guard := some (43, false) }) (v := ?va48) rfl (by as_aux_lemma => kernel_rfl) (by as_aux_lemma => kernel_rfl) (by as_aux_lemma => kernel_rfl) (fun _ _ _ h => h) (Or.inl ⟨(by as_aux_lemma => rfl), ?ya48⟩) (by assumption) ?ra48
           case ya48 =>
             intro w hSw
             (try dsimp only at hSw)
             go_simp
             (try with_reducible rfl)
           try simp only [Act.put, List.setIfInBounds_toArray, List.set_cons_zero, List.set_cons_succ]
           refine wpAnyH_take (i := 49) (oi := { dst := some 103, op := Op.move (Operand.tmp 9), type := 2, pos := "laws.go:198", after := #[{ on := 43, ground := Ground.guard }], guard := some (43, false) }) (v := ?va49) rfl (by as_aux_lemma => kernel_rfl) (by as_aux_lemma => kernel_rfl) (by as_aux_lemma => kernel_rfl) (fun _ _ _ h => h) (Or.inl ⟨(by as_aux_lemma => rfl), ?ya49⟩) (by assumption) ?ra49
           case ya49 =>
             intro w hSw
             (try dsimp only at hSw)
             go_simp
             (try with_reducible rfl)
           try simp only [Act.put, List.setIfInBounds_toArray, List.set_cons_zero, List.set_cons_succ]
           refine wpAnyH_ready (rs := [50]) (by as_aux_lemma => kernel_rfl) (by simp) ?ra50
           refine AllReadyH.cons (o := { dst := some 104, op := Op.call { callee := Callee.value (Operand.func 21), args := #[Operand.tmp 101, Operand.tmp 102, Operand.tmp 103], argTypes := #[26, 2, 2] }, type := 32, pos := "laws.go:198", after := #[{ on := 47, ground := Ground.data }, { on := 48, ground := Ground.data }, { on := 49, ground := Ground.data }, { on := 43, ground := Ground.chain }, { on := 43, ground := Ground.guard }], guard := some (43, false) }) rfl (fun K hK => ?ka50) AllReadyH.nil
           go_simp
           (go_at_call 21; refine (lp_at (specTrim_lp bs2 room2 tt gm 0 nm capm _ zm _ (sm.out _ bd) hcm' hbs2') HCC2.out HTB2.out HZS2.out).mono ?_; rintro e v ⟨Gx, capx, rfl, ux, hb⟩; replace bd := bd.trans (hb.mono bd.size); have szd := bd.size)
           (try go_wp2_with fail)
           refine hK.out _ _ ?sa50 (fun hHeld6 => ?ta50)
           · first | exact HS.out _ bd | ((try dsimp only); go_keep)
           clear hK K hHeld5
           try simp only [Act.put, List.setIfInBounds_toArray, List.set_cons_zero, List.set_cons_succ]
           as_aux_lemma =>
            refine wpAnyH_take (i := 51) (oi := { dst := some 105, op := Op.field 32 (Operand.tmp 104) 1, type := 26, pos := "laws.go:198", after := #[{ on := 50, ground := Ground.data }, { on := 43, ground := Ground.guard }], guard := some (43, false) }) (v := ?va51) rfl (by as_aux_lemma => kernel_rfl) (by as_aux_lemma => kernel_rfl) (by as_aux_lemma => kernel_rfl) (fun _ _ _ h => h) (Or.inl ⟨(by as_aux_lemma => rfl), ?ya51⟩) (by assumption) ?ra51
            case ya51 =>
              intro w hSw
              (try dsimp only at hSw)
              go_simp
              (try with_reducible rfl)
            try simp only [Act.put, List.setIfInBounds_toArray, List.set_cons_zero, List.set_cons_succ]
            refine wpAnyH_take (i := 52) (oi := { dst := some 106, op := Op.field 26 (Operand.tmp 105) 1, type := 24, pos := "laws.go:198", after := #[{ on := 51, ground := Ground.data }, { on := 43, ground := Ground.guard }], guard := some (43, false) }) (v := ?va52) rfl (by as_aux_lemma => kernel_rfl) (by as_aux_lemma => kernel_rfl) (by as_aux_lemma => kernel_rfl) (fun _ _ _ h => h) (Or.inl ⟨(by as_aux_lemma => rfl), ?ya52⟩) (by assumption) ?ra52
            case ya52 =>
              intro w hSw
              (try dsimp only at hSw)
              go_simp
              (try with_reducible rfl)
            try simp only [Act.put, List.setIfInBounds_toArray, List.set_cons_zero, List.set_cons_succ]
            refine wpAnyH_ready (rs := [53]) (by as_aux_lemma => kernel_rfl) (by simp) ?ra53
            refine AllReadyH.cons (o := { dst := some 107, op := Op.call { callee := Callee.value (Operand.func 20), args := #[Operand.tmp 100, Operand.tmp 106], argTypes := #[24, 24] }, type := 4, pos := "laws.go:198", after := #[{ on := 46, ground := Ground.data }, { on := 52, ground := Ground.data }, { on := 50, ground := Ground.chain }, { on := 43, ground := Ground.guard }], guard := some (43, false) }) rfl (fun K hK => ?ka53) AllReadyH.nil
            go_simp
            (go_at_call_of 20 G2; refine (implSameItems_any G2 _ zs2.length cap2 zs2.length _ _ _ zs2 zs2 _ true (st.out _ bd) (ux.rt.wide (lo' := 0) (Nat.zero_le _) (Nat.le_refl _) ux.top) (decide_eq_true rfl)).mono ?_; rintro e v ⟨rfl, hb⟩; replace bd := bd.trans (hb.mono bd.size); have szd := bd.size)
            (try go_wp2_with fail)
            refine hK.out _ _ ?sa53 (fun hHeld7 => ?ta53)
            · first | exact HS.out _ bd | ((try dsimp only); go_keep)
            clear hK K hHeld6
            try simp only [Act.put, List.setIfInBounds_toArray, List.set_cons_zero, List.set_cons_succ]
            as_aux_lemma =>
             refine wpAnyH_take (i := 54) (oi := { dst := some 108, op := Op.unOp UnOp.not 4 (Operand.tmp 107), type := 4, pos := "laws.go:198", after := #[{ on := 53, ground := Ground.data }, { on := 43, ground := Ground.guard }], guard := some (43, false) }) (v := ?va54) rfl (by as_aux_lemma => kernel_rfl) (by as_aux_lemma => kernel_rfl) (by as_aux_lemma => kernel_rfl) (fun _ _ _ h => h) (Or.inl ⟨(by as_aux_lemma => rfl), ?ya54⟩) (by assumption) ?ra54
             case ya54 =>
               intro w hSw
               (try dsimp only at hSw)
               go_simp
               (try with_reducible rfl)
             try simp only [Act.put, List.setIfInBounds_toArray, List.set_cons_zero, List.set_cons_succ]
             refine wpAnyH_take (i := 55) (oi := { dst := some 109, op := Op.pick (Operand.tmp 97) (Operand.const (Value.bool true)) (Operand.tmp 108), type := 4, pos := "laws.go:198", after := #[{ on := 43, ground := Ground.data }, { on := 54, ground := Ground.data }], guard := none }) (v := ?va55) rfl (by as_aux_lemma => kernel_rfl) (by as_aux_lemma => kernel_rfl) (by as_aux_lemma => kernel_rfl) (fun _ _ _ h => h) (Or.inl ⟨(by as_aux_lemma => rfl), ?ya55⟩) (by assumption) ?ra55
             case ya55 =>
               intro w hSw
               (try dsimp only at hSw)
               go_simp
               (try with_reducible rfl)
             try simp only [Act.put, List.setIfInBounds_toArray, List.set_cons_zero, List.set_cons_succ]
             refine wpAnyH_take (i := 56) (oi := { dst := some 110, op := Op.move (Operand.tmp 109), type := 4, pos := "laws.go:198", after := #[{ on := 55, ground := Ground.data }, { on := 53, ground := Ground.chain }], guard := none }) (v := ?va56) rfl (by as_aux_lemma => kernel_rfl) (by as_aux_lemma => kernel_rfl) (by as_aux_lemma => kernel_rfl) (fun _ _ _ h => h) (Or.inl ⟨(by as_aux_lemma => rfl), ?ya56⟩) (by assumption) ?ra56
             case ya56 =>
               intro w hSw
               (try dsimp only at hSw)
               go_simp
               (try with_reducible rfl)
             try simp only [Act.put, List.setIfInBounds_toArray, List.set_cons_zero, List.set_cons_succ]
             refine wpAnyH_take (i := 57) (oi := { dst := some 111, op := Op.fieldAddr 40 (Operand.tmp 12) 0, type := 0, pos := "laws.go:198", after := #[{ on := 56, ground := Ground.guard }], guard := some (56, false) }) (v := ?va57) rfl (by as_aux_lemma => kernel_rfl) (by as_aux_lemma => kernel_rfl) (by as_aux_lemma => kernel_rfl) (fun _ _ _ h => h) (Or.inl ⟨(by as_aux_lemma => rfl), ?ya57⟩) (by assumption) ?ra57
             case ya57 =>
               intro w hSw
               (try dsimp only at hSw)
               go_simp
               (try with_reducible rfl)
             try simp only [Act.put, List.setIfInBounds_toArray, List.set_cons_zero, List.set_cons_succ]
             refine wpAnyH_take (i := 58) (oi := { dst := some 112, op := Op.load 2 (Operand.tmp 111), type := 2, pos := "laws.go:198", after := #[{ on := 57, ground := Ground.data }, { on := 56, ground := Ground.guard }], guard := some (56, false) }) (v := ?va58) rfl (by as_aux_lemma => kernel_rfl) (by as_aux_lemma => kernel_rfl) (by as_aux_lemma => kernel_rfl) (fun _ _ _ h => h) (Or.inl ⟨(by as_aux_lemma => rfl), ?ya58⟩) (by assumption) ?ra58
             case ya58 =>
               intro w hSw
               (try dsimp only at hSw)
               go_simp
               (try with_reducible rfl)
             try simp only [Act.put, List.setIfInBounds_toArray, List.set_cons_zero, List.set_cons_succ]
             refine wpAnyH_take (i := 59) (oi := { dst := some 113, op := Op.move (Operand.tmp 11), type := 24, pos := "laws.go:198", after := #[{ on := 56, ground := Ground.guard }], guard := some (56, false) }) (v := ?va59) rfl (by as_aux_lemma => kernel_rfl) (by as_aux_lemma => kernel_rfl) (by as_aux_lemma => kernel_rfl) (fun _ _ _ h => h) (Or.inl ⟨(by as_aux_lemma => rfl), ?ya59⟩) (by assumption) ?ra59
             case ya59 =>
               intro w hSw
               (try dsimp only at hSw)
               go_simp
               (try with_reducible rfl)
             try simp only [Act.put, List.setIfInBounds_toArray, List.set_cons_zero, List.set_cons_succ]
             refine wpAnyH_ready (rs := [60]) (by as_aux_lemma => kernel_rfl) (by simp) ?ra60
             refine AllReadyH.cons (o := { dst := some 114, op := Op.call { callee := Callee.value (Operand.func 22), args := #[Operand.tmp 113], argTypes := #[24] }, type := 40, pos := "laws.go:198", after := #[{ on := 59, ground := Ground.data }, { on := 56, ground := Ground.chain }, { on := 56, ground := Ground.guard }], guard := some (56, false) }) rfl (fun K hK => ?ka60) AllReadyH.nil
             go_simp
             (go_at_call 22; refine (ao_at (specAtoms_any (some ⟨ga, 0, none⟩) na capa _ la _ (sr.out _ bd)) HCC3.out HZS3.out HMM.out).mono ?_; rintro e v ⟨Gx, capx, rfl, ux, hb⟩; replace bd := bd.trans (hb.mono bd.size); have szd := bd.size)
             (try go_wp2_with fail)
             refine hK.out _ _ ?sa60 (fun hHeld8 => ?ta60)
             · first | exact HS.out _ bd | ((try dsimp only); go_keep)
             clear hK K hHeld7
             try simp only [Act.put, List.setIfInBounds_toArray, List.set_cons_zero, List.set_cons_succ]
             as_aux_lemma =>
              refine wpAnyH_take (i := 61) (oi := { dst := some 115, op := Op.field 40 (Operand.tmp 114) 0, type := 2, pos := "laws.go:198", after := #[{ on := 60, ground := Ground.data }, { on := 56, ground := Ground.guard }], guard := some (56, false) }) (v := ?va61) rfl (by as_aux_lemma => kernel_rfl) (by as_aux_lemma => kernel_rfl) (by as_aux_lemma => kernel_rfl) (fun _ _ _ h => h) (Or.inl ⟨(by as_aux_lemma => rfl), ?ya61⟩) (by assumption) ?ra61
              case ya61 =>
                intro w hSw
                (try dsimp only at hSw)
                go_simp
                (try with_reducible rfl)
              try simp only [Act.put, List.setIfInBounds_toArray, List.set_cons_zero, List.set_cons_succ]
              refine wpAnyH_take (i := 62) (oi := { dst := some 116, op := Op.binOp BinOp.neq 2 (Operand.tmp 112) (Operand.tmp 115) 2, type := 4, pos := "laws.go:198", after := #[{ on := 58, ground := Ground.data }, { on := 61, ground := Ground.data }, { on := 56, ground := Ground.guard }], guard := some (56, false) }) (v := ?va62) rfl (by as_aux_lemma => kernel_rfl) (by as_aux_lemma => kernel_rfl) (by as_aux_lemma => kernel_rfl) (fun _ _ _ h => h) (Or.inl ⟨(by as_aux_lemma => rfl), ?ya62⟩) (by assumption) ?ra62
              case ya62 =>
                intro w hSw
                (try dsimp only at hSw)
                go_simp
                (try with_reducible rfl)
              try simp only [Act.put, List.setIfInBounds_toArray, List.set_cons_zero, List.set_cons_succ]
              refine wpAnyH_take (i := 63) (oi := { dst := some 117, op := Op.pick (Operand.tmp 110) (Operand.const (Value.bool true)) (Operand.tmp 116), type := 4, pos := "laws.go:198", after := #[{ on := 56, ground := Ground.data }, { on := 62, ground := Ground.data }], guard := none }) (v := ?va63) rfl (by as_aux_lemma => kernel_rfl) (by as_aux_lemma => kernel_rfl) (by as_aux_lemma => kernel_rfl) (fun _ _ _ h => h) (Or.inl ⟨(by as_aux_lemma => rfl), ?ya63⟩) (by assumption) ?ra63
              case ya63 =>
                intro w hSw
                (try dsimp only at hSw)
                go_simp
                (try with_reducible rfl)
              try simp only [Act.put, List.setIfInBounds_toArray, List.set_cons_zero, List.set_cons_succ]
              refine wpAnyH_take (i := 64) (oi := { dst := some 118, op := Op.move (Operand.tmp 117), type := 4, pos := "laws.go:198", after := #[{ on := 63, ground := Ground.data }, { on := 60, ground := Ground.chain }], guard := none }) (v := ?va64) rfl (by as_aux_lemma => kernel_rfl) (by as_aux_lemma => kernel_rfl) (by as_aux_lemma => kernel_rfl) (fun _ _ _ h => h) (Or.inl ⟨(by as_aux_lemma => rfl), ?ya64⟩) (by assumption) ?ra64
              case ya64 =>
                intro w hSw
                (try dsimp only at hSw)
                go_simp
                (try with_reducible rfl)
              try simp only [Act.put, List.setIfInBounds_toArray, List.set_cons_zero, List.set_cons_succ]
              refine wpAnyH_take (i := 65) (oi := { dst := some 119, op := Op.fieldAddr 40 (Operand.tmp 12) 1, type := 0, pos := "laws.go:198", after := #[{ on := 64, ground := Ground.guard }], guard := some (64, false) }) (v := ?va65) rfl (by as_aux_lemma => kernel_rfl) (by as_aux_lemma => kernel_rfl) (by as_aux_lemma => kernel_rfl) (fun _ _ _ h => h) (Or.inl ⟨(by as_aux_lemma => rfl), ?ya65⟩) (by assumption) ?ra65
              case ya65 =>
                intro w hSw
                (try dsimp only at hSw)
                go_simp
                (try with_reducible rfl)
              try simp only [Act.put, List.setIfInBounds_toArray, List.set_cons_zero, List.set_cons_succ]
              refine wpAnyH_take (i := 66) (oi := { dst := some 120, op := Op.load 38 (Operand.tmp 119), type := 38, pos := "laws.go:198", after := #[{ on := 65, ground := Ground.data }, { on := 64, ground := Ground.guard }], guard := some (64, false) }) (v := ?va66) rfl (by as_aux_lemma => kernel_rfl) (by as_aux_lemma => kernel_rfl) (by as_aux_lemma => kernel_rfl) (fun _ _ _ h => h) (Or.inl ⟨(by as_aux_lemma => rfl), ?ya66⟩) (by assumption) ?ra66
              case ya66 =>
                intro w hSw
                (try dsimp only at hSw)
                go_simp
                (try with_reducible rfl)
              try simp only [Act.put, List.setIfInBounds_toArray, List.set_cons_zero, List.set_cons_succ]
              refine wpAnyH_take (i := 67) (oi := { dst := some 121, op := Op.move (Operand.tmp 11), type := 24, pos := "laws.go:198", after := #[{ on := 64, ground := Ground.guard }], guard := some (64, false) }) (v := ?va67) rfl (by as_aux_lemma => kernel_rfl) (by as_aux_lemma => kernel_rfl) (by as_aux_lemma => kernel_rfl) (fun _ _ _ h => h) (Or.inl ⟨(by as_aux_lemma => rfl), ?ya67⟩) (by assumption) ?ra67
              case ya67 =>
                intro w hSw
                (try dsimp only at hSw)
                go_simp
                (try with_reducible rfl)
              try simp only [Act.put, List.setIfInBounds_toArray, List.set_cons_zero, List.set_cons_succ]
              refine wpAnyH_ready (rs := [68]) (by as_aux_lemma => kernel_rfl) (by simp) ?ra68
              refine AllReadyH.cons (o := { dst := some 122, op := Op.call { callee := Callee.value (Operand.func 22), args := #[Operand.tmp 121], argTypes := #[24] }, type := 40, pos := "laws.go:198", after := #[{ on := 67, ground := Ground.data }, { on := 64, ground := Ground.chain }, { on := 64, ground := Ground.guard }], guard := some (64, false) }) rfl (fun K hK => ?ka68) AllReadyH.nil
              go_simp
              (go_at_call 22; refine (ao_at (specAtoms_any (some ⟨ga, 0, none⟩) na capa _ la _ (sr.out _ bd)) HCC3.out HZS3.out HMM.out).mono ?_; rintro e v ⟨Gx, capx, rfl, ux, hb⟩; replace bd := bd.trans (hb.mono bd.size); have szd := bd.size)
              (try go_wp2_with fail)
              refine hK.out _ _ ?sa68 (fun hHeld9 => ?ta68)
              · first | exact HS.out _ bd | ((try dsimp only); go_keep)
              clear hK K hHeld8
              try simp only [Act.put, List.setIfInBounds_toArray, List.set_cons_zero, List.set_cons_succ]
              as_aux_lemma =>
               refine wpAnyH_take (i := 69) (oi := { dst := some 123, op := Op.field 40 (Operand.tmp 122) 1, type := 38, pos := "laws.go:198", after := #[{ on := 68, ground := Ground.data }, { on := 64, ground := Ground.guard }], guard := some (64, false) }) (v := ?va69) rfl (by as_aux_lemma => kernel_rfl) (by as_aux_lemma => kernel_rfl) (by as_aux_lemma => kernel_rfl) (fun _ _ _ h => h) (Or.inl ⟨(by as_aux_lemma => rfl), ?ya69⟩) (by assumption) ?ra69
               case ya69 =>
                 intro w hSw
                 (try dsimp only at hSw)
                 go_simp
                 (try with_reducible rfl)
               try simp only [Act.put, List.setIfInBounds_toArray, List.set_cons_zero, List.set_cons_succ]
               refine wpAnyH_ready (rs := [70]) (by as_aux_lemma => kernel_rfl) (by simp) ?ra70
               refine AllReadyH.cons (o := { dst := some 124, op := Op.call { callee := Callee.value (Operand.func 23), args := #[Operand.tmp 120, Operand.tmp 123], argTypes := #[38, 38] }, type := 4, pos := "laws.go:198", after := #[{ on := 66, ground := Ground.data }, { on := 69, ground := Ground.data }, { on := 68, ground := Ground.chain }, { on := 64, ground := Ground.guard }], guard := some (64, false) }) rfl (fun K hK => ?ka70) AllReadyH.nil
               go_simp
               (go_at_call_of 23 G3; refine (implSameAtoms_any G3 _ mm cap3 mm _ _ _ _ _ zs3 zs3 _ true (by omega) (by omega) (s3.out _ bd) ux.1 (decide_eq_true rfl)).mono ?_; rintro e v ⟨rfl, hk⟩; have hb := hk.below (by omega) (Nat.le_refl _); replace bd := bd.trans (hb.mono bd.size); have szd := bd.size)
               (try go_wp2_with fail)
               refine hK.out _ _ ?sa70 (fun hHeld10 => ?ta70)
               · first | exact HS.out _ bd | ((try dsimp only); go_keep)
               clear hK K hHeld9
               try simp only [Act.put, List.setIfInBounds_toArray, List.set_cons_zero, List.set_cons_succ]
               as_aux_lemma =>
                refine wpAnyH_take (i := 71) (oi := { dst := some 125, op := Op.unOp UnOp.not 4 (Operand.tmp 124), type := 4, pos := "laws.go:198", after := #[{ on := 70, ground := Ground.data }, { on := 64, ground := Ground.guard }], guard := some (64, false) }) (v := ?va71) rfl (by as_aux_lemma => kernel_rfl) (by as_aux_lemma => kernel_rfl) (by as_aux_lemma => kernel_rfl) (fun _ _ _ h => h) (Or.inl ⟨(by as_aux_lemma => rfl), ?ya71⟩) (by assumption) ?ra71
                case ya71 =>
                  intro w hSw
                  (try dsimp only at hSw)
                  go_simp
                  (try with_reducible rfl)
                try simp only [Act.put, List.setIfInBounds_toArray, List.set_cons_zero, List.set_cons_succ]
                refine wpAnyH_take (i := 72) (oi := { dst := some 126, op := Op.pick (Operand.tmp 118) (Operand.const (Value.bool true)) (Operand.tmp 125), type := 4, pos := "laws.go:198", after := #[{ on := 64, ground := Ground.data }, { on := 71, ground := Ground.data }], guard := none }) (v := ?va72) rfl (by as_aux_lemma => kernel_rfl) (by as_aux_lemma => kernel_rfl) (by as_aux_lemma => kernel_rfl) (fun _ _ _ h => h) (Or.inl ⟨(by as_aux_lemma => rfl), ?ya72⟩) (by assumption) ?ra72
                case ya72 =>
                  intro w hSw
                  (try dsimp only at hSw)
                  go_simp
                  (try with_reducible rfl)
                try simp only [Act.put, List.setIfInBounds_toArray, List.set_cons_zero, List.set_cons_succ]
                refine wpAnyH_take (i := 73) (oi := { dst := some 127, op := Op.move (Operand.tmp 126), type := 4, pos := "laws.go:198", after := #[{ on := 72, ground := Ground.data }, { on := 70, ground := Ground.chain }], guard := none }) (v := ?va73) rfl (by as_aux_lemma => kernel_rfl) (by as_aux_lemma => kernel_rfl) (by as_aux_lemma => kernel_rfl) (fun _ _ _ h => h) (Or.inl ⟨(by as_aux_lemma => rfl), ?ya73⟩) (by assumption) ?ra73
                case ya73 =>
                  intro w hSw
                  (try dsimp only at hSw)
                  go_simp
                  (try with_reducible rfl)
                try simp only [Act.put, List.setIfInBounds_toArray, List.set_cons_zero, List.set_cons_succ]
                refine wpAnyH_take (i := 74) (oi := { dst := some 128, op := Op.move (Operand.tmp 13), type := 24, pos := "laws.go:198", after := #[{ on := 73, ground := Ground.guard }], guard := some (73, false) }) (v := ?va74) rfl (by as_aux_lemma => kernel_rfl) (by as_aux_lemma => kernel_rfl) (by as_aux_lemma => kernel_rfl) (fun _ _ _ h => h) (Or.inl ⟨(by as_aux_lemma => rfl), ?ya74⟩) (by assumption) ?ra74
                case ya74 =>
                  intro w hSw
                  (try dsimp only at hSw)
                  go_simp
                  (try with_reducible rfl)
                try simp only [Act.put, List.setIfInBounds_toArray, List.set_cons_zero, List.set_cons_succ]
                refine wpAnyH_take (i := 75) (oi := { dst := some 129, op := Op.move (Operand.tmp 14), type := 24, pos := "laws.go:198", after := #[{ on := 73, ground := Ground.guard }], guard := some (73, false) }) (v := ?va75) rfl (by as_aux_lemma => kernel_rfl) (by as_aux_lemma => kernel_rfl) (by as_aux_lemma => kernel_rfl) (fun _ _ _ h => h) (Or.inl ⟨(by as_aux_lemma => rfl), ?ya75⟩) (by assumption) ?ra75
                case ya75 =>
                  intro w hSw
                  (try dsimp only at hSw)
                  go_simp
                  (try with_reducible rfl)
                try simp only [Act.put, List.setIfInBounds_toArray, List.set_cons_zero, List.set_cons_succ]
                refine wpAnyH_take (i := 77) (oi := { dst := some 131, op := Op.move (Operand.tmp 13), type := 24, pos := "laws.go:198", after := #[{ on := 73, ground := Ground.guard }], guard := some (73, false) }) (v := ?va77) rfl (by as_aux_lemma => kernel_rfl) (by as_aux_lemma => kernel_rfl) (by as_aux_lemma => kernel_rfl) (fun _ _ _ h => h) (Or.inl ⟨(by as_aux_lemma => rfl), ?ya77⟩) (by assumption) ?ra77
                case ya77 =>
                  intro w hSw
                  (try dsimp only at hSw)
                  go_simp
                  (try with_reducible rfl)
                try simp only [Act.put, List.setIfInBounds_toArray, List.set_cons_zero, List.set_cons_succ]
                refine wpAnyH_take (i := 78) (oi := { dst := some 132, op := Op.move (Operand.tmp 14), type := 24, pos := "laws.go:198", after := #[{ on := 73, ground := Ground.guard }], guard := some (73, false) }) (v := ?va78) rfl (by as_aux_lemma => kernel_rfl) (by as_aux_lemma => kernel_rfl) (by as_aux_lemma => kernel_rfl) (fun _ _ _ h => h) (Or.inl ⟨(by as_aux_lemma => rfl), ?ya78⟩) (by assumption) ?ra78
                case ya78 =>
                  intro w hSw
                  (try dsimp only at hSw)
                  go_simp
                  (try with_reducible rfl)
                try simp only [Act.put, List.setIfInBounds_toArray, List.set_cons_zero, List.set_cons_succ]
                refine wpAnyH_ready (rs := [76]) (by as_aux_lemma => kernel_rfl) (by simp) ?ra76
                refine AllReadyH.cons (o := { dst := some 130, op := Op.call { callee := Callee.value (Operand.func 20), args := #[Operand.tmp 128, Operand.tmp 129], argTypes := #[24, 24] }, type := 4, pos := "laws.go:198", after := #[{ on := 74, ground := Ground.data }, { on := 75, ground := Ground.data }, { on := 73, ground := Ground.chain }, { on := 73, ground := Ground.guard }], guard := some (73, false) }) rfl (fun K hK => ?ka76) AllReadyH.nil
                go_simp
                (go_at_call_of 20 Ap; refine (implSameItems_any Ap Aq np cp nq cq _ _ zp zq _ rr (sp.out _ bd) (sq.out _ bd) HRR.out).mono ?_; rintro e v ⟨rfl, hb⟩; replace bd := bd.trans (hb.mono bd.size); have szd := bd.size)
                (try go_wp2_with fail)
                refine hK.out _ _ ?sa76 (fun hHeld11 => ?ta76)
                · first | exact HS.out _ bd | ((try dsimp only); go_keep)
                clear hK K hHeld10
                try simp only [Act.put, List.setIfInBounds_toArray, List.set_cons_zero, List.set_cons_succ]
                as_aux_lemma =>
                 refine wpAnyH_ready (rs := [79]) (by as_aux_lemma => kernel_rfl) (by simp) ?ra79
                 refine AllReadyH.cons (o := { dst := some 133, op := Op.call { callee := Callee.value (Operand.func 24), args := #[Operand.tmp 131, Operand.tmp 132], argTypes := #[24, 24] }, type := 4, pos := "laws.go:198", after := #[{ on := 77, ground := Ground.data }, { on := 78, ground := Ground.data }, { on := 76, ground := Ground.chain }, { on := 73, ground := Ground.guard }], guard := some (73, false) }) rfl (fun K hK => ?ka79) AllReadyH.nil
                 go_simp
                 (go_at_call 24; refine (specSameItems_any Ap Aq np cp nq cq _ _ _ _ zp zq _ rr (sp.out _ bd) (sq.out _ bd) HRR.out).mono ?_; rintro e v ⟨rfl, hk⟩; have hb := hk.below (by omega) (Nat.le_refl _); replace bd := bd.trans (hb.mono bd.size); have szd := bd.size)
                 (try go_wp2_with fail)
                 refine hK.out _ _ ?sa79 (fun hHeld12 => ?ta79)
                 · first | exact HS.out _ bd | ((try dsimp only); go_keep)
                 clear hK K hHeld11
                 try simp only [Act.put, List.setIfInBounds_toArray, List.set_cons_zero, List.set_cons_succ]
                 as_aux_lemma =>
                  refine wpAnyH_take (i := 80) (oi := { dst := some 134, op := Op.binOp BinOp.neq 4 (Operand.tmp 130) (Operand.tmp 133) 4, type := 4, pos := "laws.go:198", after := #[{ on := 76, ground := Ground.data }, { on := 79, ground := Ground.data }, { on := 73, ground := Ground.guard }], guard := some (73, false) }) (v := ?va80) rfl (by as_aux_lemma => kernel_rfl) (by as_aux_lemma => kernel_rfl) (by as_aux_lemma => kernel_rfl) (fun _ _ _ h => h) (Or.inl ⟨(by as_aux_lemma => rfl), ?ya80⟩) (by assumption) ?ra80
                  case ya80 =>
                    intro w hSw
                    (try dsimp only at hSw)
                    go_simp
                    (try with_reducible rfl)
                  try simp only [Act.put, List.setIfInBounds_toArray, List.set_cons_zero, List.set_cons_succ]
                  refine wpAnyH_take (i := 81) (oi := { dst := some 135, op := Op.pick (Operand.tmp 127) (Operand.const (Value.bool true)) (Operand.tmp 134), type := 4, pos := "laws.go:198", after := #[{ on := 73, ground := Ground.data }, { on := 80, ground := Ground.data }], guard := none }) (v := ?va81) rfl (by as_aux_lemma => kernel_rfl) (by as_aux_lemma => kernel_rfl) (by as_aux_lemma => kernel_rfl) (fun _ _ _ h => h) (Or.inl ⟨(by as_aux_lemma => rfl), ?ya81⟩) (by assumption) ?ra81
                  case ya81 =>
                    intro w hSw
                    (try dsimp only at hSw)
                    go_simp
                    (try with_reducible rfl)
                  try simp only [Act.put, List.setIfInBounds_toArray, List.set_cons_zero, List.set_cons_succ]
                  refine wpAnyH_take (i := 82) (oi := { dst := some 136, op := Op.move (Operand.tmp 135), type := 4, pos := "laws.go:198", after := #[{ on := 81, ground := Ground.data }, { on := 79, ground := Ground.chain }], guard := none }) (v := ?va82) rfl (by as_aux_lemma => kernel_rfl) (by as_aux_lemma => kernel_rfl) (by as_aux_lemma => kernel_rfl) (fun _ _ _ h => h) (Or.inl ⟨(by as_aux_lemma => rfl), ?ya82⟩) (by assumption) ?ra82
                  case ya82 =>
                    intro w hSw
                    (try dsimp only at hSw)
                    go_simp
                    (try with_reducible rfl)
                  try simp only [Act.put, List.setIfInBounds_toArray, List.set_cons_zero, List.set_cons_succ]
                  refine wpAnyH_take (i := 83) (oi := { dst := some 137, op := Op.move (Operand.tmp 15), type := 38, pos := "laws.go:198", after := #[{ on := 82, ground := Ground.guard }], guard := some (82, false) }) (v := ?va83) rfl (by as_aux_lemma => kernel_rfl) (by as_aux_lemma => kernel_rfl) (by as_aux_lemma => kernel_rfl) (fun _ _ _ h => h) (Or.inl ⟨(by as_aux_lemma => rfl), ?ya83⟩) (by assumption) ?ra83
                  case ya83 =>
                    intro w hSw
                    (try dsimp only at hSw)
                    go_simp
                    (try with_reducible rfl)
                  try simp only [Act.put, List.setIfInBounds_toArray, List.set_cons_zero, List.set_cons_succ]
                  refine wpAnyH_take (i := 84) (oi := { dst := some 138, op := Op.move (Operand.tmp 16), type := 38, pos := "laws.go:198", after := #[{ on := 82, ground := Ground.guard }], guard := some (82, false) }) (v := ?va84) rfl (by as_aux_lemma => kernel_rfl) (by as_aux_lemma => kernel_rfl) (by as_aux_lemma => kernel_rfl) (fun _ _ _ h => h) (Or.inl ⟨(by as_aux_lemma => rfl), ?ya84⟩) (by assumption) ?ra84
                  case ya84 =>
                    intro w hSw
                    (try dsimp only at hSw)
                    go_simp
                    (try with_reducible rfl)
                  try simp only [Act.put, List.setIfInBounds_toArray, List.set_cons_zero, List.set_cons_succ]
                  refine wpAnyH_take (i := 86) (oi := { dst := some 140, op := Op.move (Operand.tmp 15), type := 38, pos := "laws.go:198", after := #[{ on := 82, ground := Ground.guard }], guard := some (82, false) }) (v := ?va86) rfl (by as_aux_lemma => kernel_rfl) (by as_aux_lemma => kernel_rfl) (by as_aux_lemma => kernel_rfl) (fun _ _ _ h => h) (Or.inl ⟨(by as_aux_lemma => rfl), ?ya86⟩) (by assumption) ?ra86
                  case ya86 =>
                    intro w hSw
                    (try dsimp only at hSw)
                    go_simp
                    (try with_reducible rfl)
                  try simp only [Act.put, List.setIfInBounds_toArray, List.set_cons_zero, List.set_cons_succ]
                  refine wpAnyH_take (i := 87) (oi := { dst := some 141, op := Op.move (Operand.tmp 16), type := 38, pos := "laws.go:198", after := #[{ on := 82, ground := Ground.guard }], guard := some (82, false) }) (v := ?va87) rfl (by as_aux_lemma => kernel_rfl) (by as_aux_lemma => kernel_rfl) (by as_aux_lemma => kernel_rfl) (fun _ _ _ h => h) (Or.inl ⟨(by as_aux_lemma => rfl), ?ya87⟩) (by assumption) ?ra87
                  case ya87 =>
                    intro w hSw
                    (try dsimp only at hSw)
                    go_simp
                    (try with_reducible rfl)
                  try simp only [Act.put, List.setIfInBounds_toArray, List.set_cons_zero, List.set_cons_succ]
                  refine wpAnyH_ready (rs := [85]) (by as_aux_lemma => kernel_rfl) (by simp) ?ra85
                  refine AllReadyH.cons (o := { dst := some 139, op := Op.call { callee := Callee.value (Operand.func 23), args := #[Operand.tmp 137, Operand.tmp 138], argTypes := #[38, 38] }, type := 4, pos := "laws.go:198", after := #[{ on := 83, ground := Ground.data }, { on := 84, ground := Ground.data }, { on := 82, ground := Ground.chain }, { on := 82, ground := Ground.guard }], guard := some (82, false) }) rfl (fun K hK => ?ka85) AllReadyH.nil
                  go_simp
                  (go_at_call_of 23 Au; refine (implSameAtoms_any Au Av nu cu nv cv _ _ _ _ fu fv _ ss (by omega) (by omega) (su.out _ bd) (sv.out _ bd) HSS.out).mono ?_; rintro e v ⟨rfl, hk⟩; have hb := hk.below (by omega) (Nat.le_refl _); replace bd := bd.trans (hb.mono bd.size); have szd := bd.size)
                  (try go_wp2_with fail)
                  refine hK.out _ _ ?sa85 (fun hHeld13 => ?ta85)
                  · first | exact HS.out _ bd | ((try dsimp only); go_keep)
                  clear hK K hHeld12
                  try simp only [Act.put, List.setIfInBounds_toArray, List.set_cons_zero, List.set_cons_succ]
                  as_aux_lemma =>
                   refine wpAnyH_ready (rs := [88]) (by as_aux_lemma => kernel_rfl) (by simp) ?ra88
                   refine AllReadyH.cons (o := { dst := some 142, op := Op.call { callee := Callee.value (Operand.func 25), args := #[Operand.tmp 140, Operand.tmp 141], argTypes := #[38, 38] }, type := 4, pos := "laws.go:198", after := #[{ on := 86, ground := Ground.data }, { on := 87, ground := Ground.data }, { on := 85, ground := Ground.chain }, { on := 82, ground := Ground.guard }], guard := some (82, false) }) rfl (fun K hK => ?ka88) AllReadyH.nil
                   go_simp
                   (go_at_call 25; refine (specSameAtoms_any Au Av nu cu nv cv _ _ _ _ fu fv _ ss (by omega) (by omega) (su.out _ bd) (sv.out _ bd) HSS.out).mono ?_; rintro e v ⟨rfl, hk⟩; have hb := hk.below (by omega) (Nat.le_refl _); replace bd := bd.trans (hb.mono bd.size); have szd := bd.size)
                   (try go_wp2_with fail)
                   refine hK.out _ _ ?sa88 (fun hHeld14 => ?ta88)
                   · first | exact HS.out _ bd | ((try dsimp only); go_keep)
                   clear hK K hHeld13
                   try simp only [Act.put, List.setIfInBounds_toArray, List.set_cons_zero, List.set_cons_succ]
                   as_aux_lemma =>
                    refine wpAnyH_take (i := 89) (oi := { dst := some 143, op := Op.binOp BinOp.neq 4 (Operand.tmp 139) (Operand.tmp 142) 4, type := 4, pos := "laws.go:198", after := #[{ on := 85, ground := Ground.data }, { on := 88, ground := Ground.data }, { on := 82, ground := Ground.guard }], guard := some (82, false) }) (v := ?va89) rfl (by as_aux_lemma => kernel_rfl) (by as_aux_lemma => kernel_rfl) (by as_aux_lemma => kernel_rfl) (fun _ _ _ h => h) (Or.inl ⟨(by as_aux_lemma => rfl), ?ya89⟩) (by assumption) ?ra89
                    case ya89 =>
                      intro w hSw
                      (try dsimp only at hSw)
                      go_simp
                      (try with_reducible rfl)
                    try simp only [Act.put, List.setIfInBounds_toArray, List.set_cons_zero, List.set_cons_succ]
                    refine wpAnyH_take (i := 90) (oi := { dst := some 144, op := Op.pick (Operand.tmp 136) (Operand.const (Value.bool true)) (Operand.tmp 143), type := 4, pos := "laws.go:198", after := #[{ on := 82, ground := Ground.data }, { on := 89, ground := Ground.data }], guard := none }) (v := ?va90) rfl (by as_aux_lemma => kernel_rfl) (by as_aux_lemma => kernel_rfl) (by as_aux_lemma => kernel_rfl) (fun _ _ _ h => h) (Or.inl ⟨(by as_aux_lemma => rfl), ?ya90⟩) (by assumption) ?ra90
                    case ya90 =>
                      intro w hSw
                      (try dsimp only at hSw)
                      go_simp
                      (try with_reducible rfl)
                    try simp only [Act.put, List.setIfInBounds_toArray, List.set_cons_zero, List.set_cons_succ]
                    refine wpAnyH_take (i := 91) (oi := { dst := some 145, op := Op.move (Operand.tmp 144), type := 4, pos := "laws.go:198", after := #[{ on := 90, ground := Ground.data }, { on := 88, ground := Ground.chain }], guard := none }) (v := ?va91) rfl (by as_aux_lemma => kernel_rfl) (by as_aux_lemma => kernel_rfl) (by as_aux_lemma => kernel_rfl) (fun _ _ _ h => h) (Or.inl ⟨(by as_aux_lemma => rfl), ?ya91⟩) (by assumption) ?ra91
                    case ya91 =>
                      intro w hSw
                      (try dsimp only at hSw)
                      go_simp
                      (try with_reducible rfl)
                    try simp only [Act.put, List.setIfInBounds_toArray, List.set_cons_zero, List.set_cons_succ]
                    refine wpAnyH_take (i := 92) (oi := { dst := some 146, op := Op.load 26 (Operand.tmp 3), type := 26, pos := "laws.go:198", after := #[{ on := 91, ground := Ground.guard }], guard := some (91, false) }) (v := ?va92) rfl (by as_aux_lemma => kernel_rfl) (by as_aux_lemma => kernel_rfl) (by as_aux_lemma => kernel_rfl) (fun _ _ _ h => h) (Or.inl ⟨(by as_aux_lemma => rfl), ?ya92⟩) (by assumption) ?ra92
                    case ya92 =>
                      intro w hSw
                      (try dsimp only at hSw)
                      go_simp
                      (try with_reducible rfl)
                    try simp only [Act.put, List.setIfInBounds_toArray, List.set_cons_zero, List.set_cons_succ]
                    refine wpAnyH_take (i := 93) (oi := { dst := some 147, op := Op.move (Operand.tmp 4), type := 2, pos := "laws.go:198", after := #[{ on := 91, ground := Ground.guard }], guard := some (91, false) }) (v := ?va93) rfl (by as_aux_lemma => kernel_rfl) (by as_aux_lemma => kernel_rfl) (by as_aux_lemma => kernel_rfl) (fun _ _ _ h => h) (Or.inl ⟨(by as_aux_lemma => rfl), ?ya93⟩) (by assumption) ?ra93
                    case ya93 =>
                      intro w hSw
                      (try dsimp only at hSw)
                      go_simp
                      (try with_reducible rfl)
                    try simp only [Act.put, List.setIfInBounds_toArray, List.set_cons_zero, List.set_cons_succ]
                    refine wpAnyH_take (i := 95) (oi := { dst := some 149, op := Op.load 26 (Operand.tmp 3), type := 26, pos := "laws.go:198", after := #[{ on := 91, ground := Ground.guard }], guard := some (91, false) }) (v := ?va95) rfl (by as_aux_lemma => kernel_rfl) (by as_aux_lemma => kernel_rfl) (by as_aux_lemma => kernel_rfl) (fun _ _ _ h => h) (Or.inl ⟨(by as_aux_lemma => rfl), ?ya95⟩) (by assumption) ?ra95
                    case ya95 =>
                      intro w hSw
                      (try dsimp only at hSw)
                      go_simp
                      (try with_reducible rfl)
                    try simp only [Act.put, List.setIfInBounds_toArray, List.set_cons_zero, List.set_cons_succ]
                    refine wpAnyH_take (i := 96) (oi := { dst := some 150, op := Op.move (Operand.tmp 4), type := 2, pos := "laws.go:198", after := #[{ on := 91, ground := Ground.guard }], guard := some (91, false) }) (v := ?va96) rfl (by as_aux_lemma => kernel_rfl) (by as_aux_lemma => kernel_rfl) (by as_aux_lemma => kernel_rfl) (fun _ _ _ h => h) (Or.inl ⟨(by as_aux_lemma => rfl), ?ya96⟩) (by assumption) ?ra96
                    case ya96 =>
                      intro w hSw
                      (try dsimp only at hSw)
                      go_simp
                      (try with_reducible rfl)
                    try simp only [Act.put, List.setIfInBounds_toArray, List.set_cons_zero, List.set_cons_succ]
                    refine wpAnyH_ready (rs := [94]) (by as_aux_lemma => kernel_rfl) (by simp) ?ra94
                    refine AllReadyH.cons (o := { dst := some 148, op := Op.call { callee := Callee.value (Operand.func 26), args := #[Operand.tmp 146, Operand.tmp 147], argTypes := #[26, 2] }, type := 2, pos := "laws.go:198", after := #[{ on := 92, ground := Ground.data }, { on := 93, ground := Ground.data }, { on := 91, ground := Ground.chain }, { on := 91, ground := Ground.guard }], guard := some (91, false) }) rfl (fun K hK => ?ka94) AllReadyH.nil
                    go_simp
                    (go_at_call 26; refine (int_at (implLogFault_any bs room _ nl capl _ zl _ (sl.out _ bd)) HLF.out).mono ?_; rintro e v ⟨rfl, hb⟩; replace bd := bd.trans (hb.mono bd.size); have szd := bd.size)
                    (try go_wp2_with fail)
                    refine hK.out _ _ ?sa94 (fun hHeld15 => ?ta94)
                    · first | exact HS.out _ bd | ((try dsimp only); go_keep)
                    clear hK K hHeld14
                    try simp only [Act.put, List.setIfInBounds_toArray, List.set_cons_zero, List.set_cons_succ]
                    as_aux_lemma =>
                     refine wpAnyH_ready (rs := [97]) (by as_aux_lemma => kernel_rfl) (by simp) ?ra97
                     refine AllReadyH.cons (o := { dst := some 151, op := Op.call { callee := Callee.value (Operand.func 27), args := #[Operand.tmp 149, Operand.tmp 150], argTypes := #[26, 2] }, type := 2, pos := "laws.go:198", after := #[{ on := 95, ground := Ground.data }, { on := 96, ground := Ground.data }, { on := 94, ground := Ground.chain }, { on := 91, ground := Ground.guard }], guard := some (91, false) }) rfl (fun K hK => ?ka97) AllReadyH.nil
                     go_simp
                     (go_at_call 27; refine (int_at (specLogFault_any bs room _ nl capl _ _ zl _ (sl.out _ bd)) HLF.out).mono ?_; rintro e v ⟨rfl, hk⟩; have hb := hk.below (by omega) (Nat.le_refl _); replace bd := bd.trans (hb.mono bd.size); have szd := bd.size)
                     (try go_wp2_with fail)
                     refine hK.out _ _ ?sa97 (fun hHeld16 => ?ta97)
                     · first | exact HS.out _ bd | ((try dsimp only); go_keep)
                     clear hK K hHeld15
                     try simp only [Act.put, List.setIfInBounds_toArray, List.set_cons_zero, List.set_cons_succ]
                     as_aux_lemma =>
                      refine wpAnyH_take (i := 98) (oi := { dst := some 152, op := Op.binOp BinOp.neq 2 (Operand.tmp 148) (Operand.tmp 151) 2, type := 4, pos := "laws.go:198", after := #[{ on := 94, ground := Ground.data }, { on := 97, ground := Ground.data }, { on := 91, ground := Ground.guard }], guard := some (91, false) }) (v := ?va98) rfl (by as_aux_lemma => kernel_rfl) (by as_aux_lemma => kernel_rfl) (by as_aux_lemma => kernel_rfl) (fun _ _ _ h => h) (Or.inl ⟨(by as_aux_lemma => rfl), ?ya98⟩) (by assumption) ?ra98
                      case ya98 =>
                        intro w hSw
                        (try dsimp only at hSw)
                        go_simp
                        (try with_reducible rfl)
                      try simp only [Act.put, List.setIfInBounds_toArray, List.set_cons_zero, List.set_cons_succ]
                      refine wpAnyH_take (i := 99) (oi := { dst := some 153, op := Op.pick (Operand.tmp 145) (Operand.const (Value.bool true)) (Operand.tmp 152), type := 4, pos := "laws.go:198", after := #[{ on := 91, ground := Ground.data }, { on := 98, ground := Ground.data }], guard := none }) (v := ?va99) rfl (by as_aux_lemma => kernel_rfl) (by as_aux_lemma => kernel_rfl) (by as_aux_lemma => kernel_rfl) (fun _ _ _ h => h) (Or.inl ⟨(by as_aux_lemma => rfl), ?ya99⟩) (by assumption) ?ra99
                      case ya99 =>
                        intro w hSw
                        (try dsimp only at hSw)
                        go_simp
                        (try with_reducible rfl)
                      try simp only [Act.put, List.setIfInBounds_toArray, List.set_cons_zero, List.set_cons_succ]
                      refine wpAnyH_take (i := 100) (oi := { dst := some 154, op := Op.move (Operand.tmp 153), type := 4, pos := "laws.go:198", after := #[{ on := 99, ground := Ground.data }, { on := 97, ground := Ground.chain }], guard := none }) (v := ?va100) rfl (by as_aux_lemma => kernel_rfl) (by as_aux_lemma => kernel_rfl) (by as_aux_lemma => kernel_rfl) (fun _ _ _ h => h) (Or.inl ⟨(by as_aux_lemma => rfl), ?ya100⟩) (by assumption) ?ra100
                      case ya100 =>
                        intro w hSw
                        (try dsimp only at hSw)
                        go_simp
                        (try with_reducible rfl)
                      try simp only [Act.put, List.setIfInBounds_toArray, List.set_cons_zero, List.set_cons_succ]
                      refine wpAnyH_take (i := 101) (oi := { dst := some 155, op := Op.load 28 (Operand.tmp 5), type := 28, pos := "laws.go:198", after := #[{ on := 100, ground := Ground.guard }], guard := some (100, false) }) (v := ?va101) rfl (by as_aux_lemma => kernel_rfl) (by as_aux_lemma => kernel_rfl) (by as_aux_lemma => kernel_rfl) (fun _ _ _ h => h) (Or.inl ⟨(by as_aux_lemma => rfl), ?ya101⟩) (by assumption) ?ra101
                      case ya101 =>
                        intro w hSw
                        (try dsimp only at hSw)
                        go_simp
                        (try with_reducible rfl)
                      try simp only [Act.put, List.setIfInBounds_toArray, List.set_cons_zero, List.set_cons_succ]
                      refine wpAnyH_take (i := 103) (oi := { dst := some 157, op := Op.load 28 (Operand.tmp 5), type := 28, pos := "laws.go:198", after := #[{ on := 100, ground := Ground.guard }], guard := some (100, false) }) (v := ?va103) rfl (by as_aux_lemma => kernel_rfl) (by as_aux_lemma => kernel_rfl) (by as_aux_lemma => kernel_rfl) (fun _ _ _ h => h) (Or.inl ⟨(by as_aux_lemma => rfl), ?ya103⟩) (by assumption) ?ra103
                      case ya103 =>
                        intro w hSw
                        (try dsimp only at hSw)
                        go_simp
                        (try with_reducible rfl)
                      try simp only [Act.put, List.setIfInBounds_toArray, List.set_cons_zero, List.set_cons_succ]
                      refine wpAnyH_ready (rs := [102]) (by as_aux_lemma => kernel_rfl) (by simp) ?ra102
                      refine AllReadyH.cons (o := { dst := some 156, op := Op.call { callee := Callee.value (Operand.func 28), args := #[Operand.tmp 155], argTypes := #[28] }, type := 2, pos := "laws.go:198", after := #[{ on := 101, ground := Ground.data }, { on := 100, ground := Ground.chain }, { on := 100, ground := Ground.guard }], guard := some (100, false) }) rfl (fun K hK => ?ka102) AllReadyH.nil
                      go_simp
                      (go_at_call 28; refine (int_at (implItem_any xk xp xq GB xb.length cb _ (sx.out _ bd).int) HXF.out).mono ?_; rintro e v ⟨rfl, hb⟩; replace bd := bd.trans (hb.mono bd.size); have szd := bd.size)
                      (try go_wp2_with fail)
                      refine hK.out _ _ ?sa102 (fun hHeld17 => ?ta102)
                      · first | exact HS.out _ bd | ((try dsimp only); go_keep)
                      clear hK K hHeld16
                      try simp only [Act.put, List.setIfInBounds_toArray, List.set_cons_zero, List.set_cons_succ]
                      as_aux_lemma =>
                       refine wpAnyH_ready (rs := [104]) (by as_aux_lemma => kernel_rfl) (by simp) ?ra104
                       refine AllReadyH.cons (o := { dst := some 158, op := Op.call { callee := Callee.value (Operand.func 29), args := #[Operand.tmp 157], argTypes := #[28] }, type := 2, pos := "laws.go:198", after := #[{ on := 103, ground := Ground.data }, { on := 102, ground := Ground.chain }, { on := 100, ground := Ground.guard }], guard := some (100, false) }) rfl (fun K hK => ?ka104) AllReadyH.nil
                       go_simp
                       (go_at_call 29; refine (int_at (specItem_any xk xp xq GB xb.length cb _ (sx.out _ bd).int) HXF.out).mono ?_; rintro e v ⟨rfl, hk⟩; have hb := hk.below (by omega) (Nat.le_refl _); replace bd := bd.trans (hb.mono bd.size); have szd := bd.size)
                       (try go_wp2_with fail)
                       refine hK.out _ _ ?sa104 (fun hHeld18 => ?ta104)
                       · first | exact HS.out _ bd | ((try dsimp only); go_keep)
                       clear hK K hHeld17
                       try simp only [Act.put, List.setIfInBounds_toArray, List.set_cons_zero, List.set_cons_succ]
                       as_aux_lemma =>
                        refine wpAnyH_take (i := 105) (oi := { dst := some 159, op := Op.binOp BinOp.neq 2 (Operand.tmp 156) (Operand.tmp 158) 2, type := 4, pos := "laws.go:198", after := #[{ on := 102, ground := Ground.data }, { on := 104, ground := Ground.data }, { on := 100, ground := Ground.guard }], guard := some (100, false) }) (v := ?va105) rfl (by as_aux_lemma => kernel_rfl) (by as_aux_lemma => kernel_rfl) (by as_aux_lemma => kernel_rfl) (fun _ _ _ h => h) (Or.inl ⟨(by as_aux_lemma => rfl), ?ya105⟩) (by assumption) ?ra105
                        case ya105 =>
                          intro w hSw
                          (try dsimp only at hSw)
                          go_simp
                          (try with_reducible rfl)
                        try simp only [Act.put, List.setIfInBounds_toArray, List.set_cons_zero, List.set_cons_succ]
                        refine wpAnyH_take (i := 106) (oi := { dst := some 160, op := Op.pick (Operand.tmp 154) (Operand.const (Value.bool true)) (Operand.tmp 159), type := 4, pos := "laws.go:198", after := #[{ on := 100, ground := Ground.data }, { on := 105, ground := Ground.data }], guard := none }) (v := ?va106) rfl (by as_aux_lemma => kernel_rfl) (by as_aux_lemma => kernel_rfl) (by as_aux_lemma => kernel_rfl) (fun _ _ _ h => h) (Or.inl ⟨(by as_aux_lemma => rfl), ?ya106⟩) (by assumption) ?ra106
                        case ya106 =>
                          intro w hSw
                          (try dsimp only at hSw)
                          go_simp
                          (try with_reducible rfl)
                        try simp only [Act.put, List.setIfInBounds_toArray, List.set_cons_zero, List.set_cons_succ]
                        refine wpAnyH_done (by as_aux_lemma => kernel_rfl) ?ea _
                        all_goals
                          go_wp2_with fail
                          go_meet
                          case rel => exact ⟨rfl, bd⟩
  case rest =>
  obtain ⟨rfl, hb13⟩ := hcut
  have hk13 := Keep.of_below hb13 0 0
  have hz13 := hb13.size
  replace h := h.keep hk13 (by omega)
  replace rl := rl.keep hk13 (by omega)
  replace rx := rx.keep hk13 (by omega)
  replace bl := bl.keep hk13 (by omega)
  replace bi := bi.keep hk13 (by omega)
  replace za := za.keep hk13 (by omega)
  replace ba := ba.keep hk13 (by omega)
  replace rm := rm.keep hk13 (by omega)
  replace bm := bm.keep hk13 (by omega)
  replace zt := zt.keep hk13 (by omega)
  replace bt := bt.keep hk13 (by omega)
  replace ra := ra.keep hk13 (by omega)
  replace z3 := z3.keep hk13 (by omega)
  replace bs_ := bs_.keep hk13 (by omega)
  replace rp := rp.keep hk13 (by omega)
  replace rq := rq.keep hk13 (by omega)
  replace ru := ru.keep hk13 (by omega)
  replace rv := rv.keep hk13 (by omega)
  replace bb := bb.trans (hk13.below (by omega) bb.size)
  clear hb13 hk13
  generalize hwc13 : wc = w13 at *
  clear hwc13
  clear rp
  clear rq
  clear ru
  clear rv
  go_upto_region 13 with fail
  go_cut [207] from 161 to 207 (fun sv wx => sv = .bool false ∧ Below w13.heap.size w13 wx)
  case first =>
    as_aux_lemma =>
      have kd : Keep 0 0 w13 w13.drew := ⟨rfl, rfl, rfl, Nat.le_refl _, fun _ _ _ => rfl⟩
      have bd : Below w13.heap.size w13 w13.drew := ⟨rfl, rfl, rfl, Nat.le_refl _, fun _ _ => rfl⟩
      have szd : w13.heap.size ≤ w13.drew.heap.size := Nat.le_refl _
      have sa := (za.rt.wide (Nat.zero_le _) (Nat.le_refl _) za.top).keep kd (by omega)
      have sl := (rl.wide (Nat.zero_le _) (Nat.le_refl _) rl.top).keep kd (by omega)
      have sx := (rx.wide (Nat.zero_le _) (Nat.le_refl _) rx.top).keep kd (by omega)
      have balt := ba.1
      have ba_0 := ba.2.1
      have ba_1 := ba.2.2.1
      have ba_2 := ba.2.2.2
      have bllt := bl.1
      have bl_0 := bl.2.1
      have bl_1 := bl.2.2
      have bilt := bi.1
      have bi_0 := bi.2.1
      have bi_1 := bi.2.2.1
      have bi_2 := bi.2.2.2.1
      have bi_3 := bi.2.2.2.2
      clear h rl rx za rm zt ra z3 bb ba bl bi bm bt bs_ kd
      by_cases hc0 : cc = 0
      · obtain ⟨e1, e2, e3⟩ := add_ok (HCC.out.trans hc0)
        have f1 : tb = bs := HTB.out.symm.trans e1
        have f2 : zs = zl ++ [(xk, xb, xp, xq)] := HZS.out.symm.trans e2
        have f3 : zl.length = nl := sl.len
        have f4 : zs.length = nl + 1 := by rw [f2]; simp [f3]
        have E3 : Hid (logCode tb room zs = 0) := by show _ = _; rw [f1, f2]; exact e3
        have ST := Lib.hid (fun (W : World) (H : Nat) (h : Rt W 0 H G1 zs.length zs) => h.take_ nl (by omega))
        have ET : Hid (decide (zs.take nl = zl) = true) := by show _ = _; refine decide_eq_true ?_; rw [f2, ← f3]; simp
        have ED : Hid (decide (zs.drop nl = [(xk, xb, xp, xq)]) = true) := by show _ = _; refine decide_eq_true ?_; rw [f2, ← f3]; simp
        rw [f4] at hza ST ba_2 sa
        rw [hc0] at ba_0
        obtain ⟨ab, aof, rfl, _, _, _⟩ := sa.at_ (by omega)
        have SD := Lib.hid (fun (W : World) (H : Nat) (h : Rt W 0 H (some ⟨ab, aof, none⟩) (nl + 1) zs) => (by have h9 := h.drop (d := nl) (by omega); rwa [show nl + 1 - nl = 1 by omega] at h9 : Rt W 0 H (some ⟨ab, aof + nl * 4, none⟩) 1 (zs.drop nl)))
        have hwn : IntKind.i64.wrap ((nl : Int) + 1) = (nl : Int) + 1 := by rw [IntKind.wrap_i64]; omega
        have g1 : (nl : Int) ≤ (cap1 : Int) := by omega
        have g2 : (0 : Int) ≤ (nl : Int) := by omega
        have g3 : nl < cap1 := by omega
        have g4 : (nl : Int) ≤ (nl : Int) + 1 := by omega
        have g5 : (nl : Int) + 1 ≤ (cap1 : Int) := by omega
        have g6 : (0 : Int) ≤ (nl : Int) + 1 := by omega
        have g7 : (nl : Int) < (cap1 : Int) := by omega
        have hne : ¬ cap1 = nl := by omega
        clear e1 e2 e3 f1 f2 f3 f4 hc0
        have HS := Lib.hid (fun (w' : World) (kb : Below w13.heap.size w13 w') => (⟨(kb.cell balt).trans ba_0, (kb.cell balt).trans ba_1, (kb.cell balt).trans ba_2, (kb.cell bllt).trans bl_0, (kb.cell bllt).trans bl_1, (kb.cell bilt).trans bi_0, (kb.cell bilt).trans bi_1, (kb.cell bilt).trans bi_2, (kb.cell bilt).trans bi_3⟩ : w'.cell? ⟨w2.heap.size, 0, none⟩ = some (.int .i64 0) ∧ w'.cell? ⟨w2.heap.size, 1, none⟩ = some (.int .i64 tb) ∧ w'.cell? ⟨w2.heap.size, 2, none⟩ = some (.slice (some ⟨ab, aof, none⟩) (nl + 1) cap1) ∧ w'.cell? ⟨w1.heap.size, 0, none⟩ = some (.int .i64 bs) ∧ w'.cell? ⟨w1.heap.size, 1, none⟩ = some (.slice (some ⟨gl, 0, none⟩) nl capl) ∧ w'.cell? ⟨w1.heap.size + 1, 0, none⟩ = some (.int .i64 xk) ∧ w'.cell? ⟨w1.heap.size + 1, 1, none⟩ = some (.slice GB xb.length cb) ∧ w'.cell? ⟨w1.heap.size + 1, 2, none⟩ = some (.int .i64 xp) ∧ w'.cell? ⟨w1.heap.size + 1, 3, none⟩ = some (.int .i64 xq)))
        try simp only [List.append_eq, List.cons_append, List.nil_append]
        refine wp_region_held_drew (S := fun w' => w'.cell? ⟨w2.heap.size, 0, none⟩ = some (.int .i64 0) ∧ w'.cell? ⟨w2.heap.size, 1, none⟩ = some (.int .i64 tb) ∧ w'.cell? ⟨w2.heap.size, 2, none⟩ = some (.slice (some ⟨ab, aof, none⟩) (nl + 1) cap1) ∧ w'.cell? ⟨w1.heap.size, 0, none⟩ = some (.int .i64 bs) ∧ w'.cell? ⟨w1.heap.size, 1, none⟩ = some (.slice (some ⟨gl, 0, none⟩) nl capl) ∧ w'.cell? ⟨w1.heap.size + 1, 0, none⟩ = some (.int .i64 xk) ∧ w'.cell? ⟨w1.heap.size + 1, 1, none⟩ = some (.slice GB xb.length cb) ∧ w'.cell? ⟨w1.heap.size + 1, 2, none⟩ = some (.int .i64 xp) ∧ w'.cell? ⟨w1.heap.size + 1, 3, none⟩ = some (.int .i64 xq)) (by kernel_rfl) ?sSb (fun hHeld0 => ?sRb)
        · first | exact HS.out _ bd | exact HS.out _ (bd.alloc szd _) | ((try dsimp only); go_keep)
        refine wpAnyH_take (i := 0) (oi := { dst := some 161, op := Op.fieldAddr 32 (Operand.tmp 6) 0, type := 0, pos := "laws.go:201", after := #[], guard := none }) (v := ?vb1) rfl (by as_aux_lemma => kernel_rfl) (by as_aux_lemma => kernel_rfl) (by as_aux_lemma => kernel_rfl) (fun _ _ _ h => h) (Or.inl ⟨(by as_aux_lemma => rfl), ?yb1⟩) (by assumption) ?rb1
        case yb1 =>
          intro w hSw
          (try dsimp only at hSw)
          go_simp
          (try with_reducible rfl)
        try simp only [Act.put, List.setIfInBounds_toArray, List.set_cons_zero, List.set_cons_succ]
        refine wpAnyH_take (i := 1) (oi := { dst := some 162, op := Op.load 2 (Operand.tmp 161), type := 2, pos := "laws.go:201", after := #[{ on := 0, ground := Ground.data }], guard := none }) (v := ?vb2) rfl (by as_aux_lemma => kernel_rfl) (by as_aux_lemma => kernel_rfl) (by as_aux_lemma => kernel_rfl) (fun _ _ _ h => h) (Or.inl ⟨(by as_aux_lemma => rfl), ?yb2⟩) (by assumption) ?rb2
        case yb2 =>
          intro w hSw
          (try dsimp only at hSw)
          go_simp
          (try with_reducible rfl)
        try simp only [Act.put, List.setIfInBounds_toArray, List.set_cons_zero, List.set_cons_succ]
        refine wpAnyH_take (i := 2) (oi := { dst := some 163, op := Op.binOp BinOp.eql 2 (Operand.tmp 162) (Operand.const (Value.int IntKind.i64 0)) 2, type := 4, pos := "laws.go:201", after := #[{ on := 1, ground := Ground.data }], guard := none }) (v := ?vb3) rfl (by as_aux_lemma => kernel_rfl) (by as_aux_lemma => kernel_rfl) (by as_aux_lemma => kernel_rfl) (fun _ _ _ h => h) (Or.inl ⟨(by as_aux_lemma => rfl), ?yb3⟩) (by assumption) ?rb3
        case yb3 =>
          intro w hSw
          (try dsimp only at hSw)
          go_simp
          (try with_reducible rfl)
        try simp only [Act.put, List.setIfInBounds_toArray, List.set_cons_zero, List.set_cons_succ]
        refine wpAnyH_take (i := 3) (oi := { dst := some 164, op := Op.move (Operand.tmp 163), type := 4, pos := "laws.go:201", after := #[{ on := 2, ground := Ground.data }], guard := none }) (v := ?vb4) rfl (by as_aux_lemma => kernel_rfl) (by as_aux_lemma => kernel_rfl) (by as_aux_lemma => kernel_rfl) (fun _ _ _ h => h) (Or.inl ⟨(by as_aux_lemma => rfl), ?yb4⟩) (by assumption) ?rb4
        case yb4 =>
          intro w hSw
          (try dsimp only at hSw)
          go_simp
          (try with_reducible rfl)
        try simp only [Act.put, List.setIfInBounds_toArray, List.set_cons_zero, List.set_cons_succ]
        refine wpAnyH_take (i := 4) (oi := { dst := some 165, op := Op.fieldAddr 32 (Operand.tmp 6) 1, type := 0, pos := "laws.go:201", after := #[{ on := 3, ground := Ground.guard }], guard := some (3, true) }) (v := ?vb5) rfl (by as_aux_lemma => kernel_rfl) (by as_aux_lemma => kernel_rfl) (by as_aux_lemma => kernel_rfl) (fun _ _ _ h => h) (Or.inl ⟨(by as_aux_lemma => rfl), ?yb5⟩) (by assumption) ?rb5
        case yb5 =>
          intro w hSw
          (try dsimp only at hSw)
          go_simp
          (try with_reducible rfl)
        try simp only [Act.put, List.setIfInBounds_toArray, List.set_cons_zero, List.set_cons_succ]
        refine wpAnyH_take (i := 5) (oi := { dst := some 166, op := Op.load 26 (Operand.tmp 165), type := 26, pos := "laws.go:201", after := #[{ on := 4, ground := Ground.data }, { on := 3, ground := Ground.guard }], guard := some (3, true) }) (v := ?vb6) rfl (by as_aux_lemma => kernel_rfl) (by as_aux_lemma => kernel_rfl) (by as_aux_lemma => kernel_rfl) (fun _ _ _ h => h) (Or.inl ⟨(by as_aux_lemma => rfl), ?yb6⟩) (by assumption) ?rb6
        case yb6 =>
          intro w hSw
          (try dsimp only at hSw)
          go_simp
          (try with_reducible rfl)
        try simp only [Act.put, List.setIfInBounds_toArray, List.set_cons_zero, List.set_cons_succ]
        refine wpAnyH_take (i := 6) (oi := { dst := some 167, op := Op.move (Operand.tmp 4), type := 2, pos := "laws.go:201", after := #[{ on := 3, ground := Ground.guard }], guard := some (3, true) }) (v := ?vb7) rfl (by as_aux_lemma => kernel_rfl) (by as_aux_lemma => kernel_rfl) (by as_aux_lemma => kernel_rfl) (fun _ _ _ h => h) (Or.inl ⟨(by as_aux_lemma => rfl), ?yb7⟩) (by assumption) ?rb7
        case yb7 =>
          intro w hSw
          (try dsimp only at hSw)
          go_simp
          (try with_reducible rfl)
        try simp only [Act.put, List.setIfInBounds_toArray, List.set_cons_zero, List.set_cons_succ]
        refine wpAnyH_ready (rs := [7]) (by as_aux_lemma => kernel_rfl) (by simp) ?rb8
        refine AllReadyH.cons (o := { dst := some 168, op := Op.call { callee := Callee.value (Operand.func 26), args := #[Operand.tmp 166, Operand.tmp 167], argTypes := #[26, 2] }, type := 2, pos := "laws.go:201", after := #[{ on := 5, ground := Ground.data }, { on := 6, ground := Ground.data }, { on := 3, ground := Ground.chain }, { on := 3, ground := Ground.guard }], guard := some (3, true) }) rfl (fun K hK => ?kb9) AllReadyH.nil
        go_simp
        (go_at_call 26; refine (int_at (implLogFault_any tb room _ (nl + 1) cap1 _ zs _ sa) E3.out).mono ?_; rintro e v ⟨rfl, hb⟩; have kx := Keep.of_below hb 0 0; have szx := hb.size; replace sa := sa.keep kx (by omega); replace sl := sl.keep kx (by omega); replace sx := sx.keep kx (by omega); replace bd := bd.trans (hb.mono bd.size); have szd := bd.size)
        (try go_wp2_with fail)
        refine hK.out _ _ ?sb9 (fun hHeld1 => ?tb9)
        · first | exact HS.out _ bd | exact HS.out _ (bd.alloc szd _) | ((try dsimp only); go_keep)
        clear hK K hHeld0
        try simp only [Act.put, List.setIfInBounds_toArray, List.set_cons_zero, List.set_cons_succ]
        as_aux_lemma =>
         refine wpAnyH_take (i := 8) (oi := { dst := some 169, op := Op.binOp BinOp.neq 2 (Operand.tmp 168) (Operand.const (Value.int IntKind.i64 0)) 2, type := 4, pos := "laws.go:201", after := #[{ on := 7, ground := Ground.data }, { on := 3, ground := Ground.guard }], guard := some (3, true) }) (v := ?vb10) rfl (by as_aux_lemma => kernel_rfl) (by as_aux_lemma => kernel_rfl) (by as_aux_lemma => kernel_rfl) (fun _ _ _ h => h) (Or.inl ⟨(by as_aux_lemma => rfl), ?yb10⟩) (by assumption) ?rb10
         case yb10 =>
           intro w hSw
           (try dsimp only at hSw)
           go_simp
           (try with_reducible rfl)
         try simp only [Act.put, List.setIfInBounds_toArray, List.set_cons_zero, List.set_cons_succ]
         refine wpAnyH_take (i := 9) (oi := { dst := some 170, op := Op.move (Operand.tmp 169), type := 4, pos := "laws.go:201", after := #[{ on := 8, ground := Ground.data }, { on := 7, ground := Ground.chain }, { on := 3, ground := Ground.guard }], guard := some (3, true) }) (v := ?vb11) rfl (by as_aux_lemma => kernel_rfl) (by as_aux_lemma => kernel_rfl) (by as_aux_lemma => kernel_rfl) (fun _ _ _ h => h) (Or.inl ⟨(by as_aux_lemma => rfl), ?yb11⟩) (by assumption) ?rb11
         case yb11 =>
           intro w hSw
           (try dsimp only at hSw)
           go_simp
           (try with_reducible rfl)
         try simp only [Act.put, List.setIfInBounds_toArray, List.set_cons_zero, List.set_cons_succ]
         refine wpAnyH_take (i := 10) (oi := { dst := some 171, op := Op.fieldAddr 32 (Operand.tmp 6) 1, type := 0, pos := "laws.go:201", after := #[{ on := 9, ground := Ground.guard }], guard := some (9, false) }) (v := ?vb12) rfl (by as_aux_lemma => kernel_rfl) (by as_aux_lemma => kernel_rfl) (by as_aux_lemma => kernel_rfl) (fun _ _ _ h => h) (Or.inl ⟨(by as_aux_lemma => rfl), ?yb12⟩) (by assumption) ?rb12
         case yb12 =>
           intro w hSw
           (try dsimp only at hSw)
           go_simp
           (try with_reducible rfl)
         try simp only [Act.put, List.setIfInBounds_toArray, List.set_cons_zero, List.set_cons_succ]
         refine wpAnyH_take (i := 11) (oi := { dst := some 172, op := Op.fieldAddr 26 (Operand.tmp 171) 1, type := 0, pos := "laws.go:201", after := #[{ on := 10, ground := Ground.data }, { on := 9, ground := Ground.guard }], guard := some (9, false) }) (v := ?vb13) rfl (by as_aux_lemma => kernel_rfl) (by as_aux_lemma => kernel_rfl) (by as_aux_lemma => kernel_rfl) (fun _ _ _ h => h) (Or.inl ⟨(by as_aux_lemma => rfl), ?yb13⟩) (by assumption) ?rb13
         case yb13 =>
           intro w hSw
           (try dsimp only at hSw)
           go_simp
           (try with_reducible rfl)
         try simp only [Act.put, List.setIfInBounds_toArray, List.set_cons_zero, List.set_cons_succ]
         refine wpAnyH_take (i := 12) (oi := { dst := some 173, op := Op.load 24 (Operand.tmp 172), type := 24, pos := "laws.go:201", after := #[{ on := 11, ground := Ground.data }, { on := 9, ground := Ground.guard }], guard := some (9, false) }) (v := ?vb14) rfl (by as_aux_lemma => kernel_rfl) (by as_aux_lemma => kernel_rfl) (by as_aux_lemma => kernel_rfl) (fun _ _ _ h => h) (Or.inl ⟨(by as_aux_lemma => rfl), ?yb14⟩) (by assumption) ?rb14
         case yb14 =>
           intro w hSw
           (try dsimp only at hSw)
           go_simp
           (try with_reducible rfl)
         try simp only [Act.put, List.setIfInBounds_toArray, List.set_cons_zero, List.set_cons_succ]
         refine wpAnyH_take (i := 13) (oi := { dst := some 174, op := Op.call { callee := Callee.builtin Builtin.len, args := #[Operand.tmp 173], argTypes := #[24] }, type := 3, pos := "laws.go:201", after := #[{ on := 12, ground := Ground.data }, { on := 9, ground := Ground.guard }], guard := some (9, false) }) (v := ?vb15) rfl (by as_aux_lemma => kernel_rfl) (by as_aux_lemma => kernel_rfl) (by as_aux_lemma => kernel_rfl) (fun _ _ _ h => h) (Or.inl ⟨(by as_aux_lemma => rfl), ?yb15⟩) (by assumption) ?rb15
         case yb15 =>
           intro w hSw
           (try dsimp only at hSw)
           go_simp
           (try with_reducible rfl)
         try simp only [Act.put, List.setIfInBounds_toArray, List.set_cons_zero, List.set_cons_succ]
         refine wpAnyH_take (i := 14) (oi := { dst := some 175, op := Op.fieldAddr 26 (Operand.tmp 3) 1, type := 0, pos := "laws.go:201", after := #[{ on := 9, ground := Ground.guard }], guard := some (9, false) }) (v := ?vb16) rfl (by as_aux_lemma => kernel_rfl) (by as_aux_lemma => kernel_rfl) (by as_aux_lemma => kernel_rfl) (fun _ _ _ h => h) (Or.inl ⟨(by as_aux_lemma => rfl), ?yb16⟩) (by assumption) ?rb16
         case yb16 =>
           intro w hSw
           (try dsimp only at hSw)
           go_simp
           (try with_reducible rfl)
         try simp only [Act.put, List.setIfInBounds_toArray, List.set_cons_zero, List.set_cons_succ]
         refine wpAnyH_take (i := 15) (oi := { dst := some 176, op := Op.load 24 (Operand.tmp 175), type := 24, pos := "laws.go:201", after := #[{ on := 14, ground := Ground.data }, { on := 9, ground := Ground.guard }], guard := some (9, false) }) (v := ?vb17) rfl (by as_aux_lemma => kernel_rfl) (by as_aux_lemma => kernel_rfl) (by as_aux_lemma => kernel_rfl) (fun _ _ _ h => h) (Or.inl ⟨(by as_aux_lemma => rfl), ?yb17⟩) (by assumption) ?rb17
         case yb17 =>
           intro w hSw
           (try dsimp only at hSw)
           go_simp
           (try with_reducible rfl)
         try simp only [Act.put, List.setIfInBounds_toArray, List.set_cons_zero, List.set_cons_succ]
         refine wpAnyH_take (i := 16) (oi := { dst := some 177, op := Op.call { callee := Callee.builtin Builtin.len, args := #[Operand.tmp 176], argTypes := #[24] }, type := 3, pos := "laws.go:201", after := #[{ on := 15, ground := Ground.data }, { on := 9, ground := Ground.guard }], guard := some (9, false) }) (v := ?vb18) rfl (by as_aux_lemma => kernel_rfl) (by as_aux_lemma => kernel_rfl) (by as_aux_lemma => kernel_rfl) (fun _ _ _ h => h) (Or.inl ⟨(by as_aux_lemma => rfl), ?yb18⟩) (by assumption) ?rb18
         case yb18 =>
           intro w hSw
           (try dsimp only at hSw)
           go_simp
           (try with_reducible rfl)
         try simp only [Act.put, List.setIfInBounds_toArray, List.set_cons_zero, List.set_cons_succ]
         refine wpAnyH_take (i := 17) (oi := { dst := some 178, op := Op.binOp BinOp.add 3 (Operand.tmp 177) (Operand.const (Value.int IntKind.i64 1)) 3, type := 3, pos := "laws.go:201", after := #[{ on := 16, ground := Ground.data }, { on := 9, ground := Ground.guard }], guard := some (9, false) }) (v := ?vb19) rfl (by as_aux_lemma => kernel_rfl) (by as_aux_lemma => kernel_rfl) (by as_aux_lemma => kernel_rfl) (fun _ _ _ h => h) (Or.inl ⟨(by as_aux_lemma => rfl), ?yb19⟩) (by assumption) ?rb19
         case yb19 =>
           intro w hSw
           (try dsimp only at hSw)
           go_simp
           (try with_reducible rfl)
         try simp only [Act.put, List.setIfInBounds_toArray, List.set_cons_zero, List.set_cons_succ]
         refine wpAnyH_take (i := 18) (oi := { dst := some 179, op := Op.binOp BinOp.neq 3 (Operand.tmp 174) (Operand.tmp 178) 3, type := 4, pos := "laws.go:201", after := #[{ on := 13, ground := Ground.data }, { on := 17, ground := Ground.data }, { on := 9, ground := Ground.guard }], guard := some (9, false) }) (v := ?vb20) rfl (by as_aux_lemma => kernel_rfl) (by as_aux_lemma => kernel_rfl) (by as_aux_lemma => kernel_rfl) (fun _ _ _ h => h) (Or.inl ⟨(by as_aux_lemma => rfl), ?yb20⟩) (by assumption) ?rb20
         case yb20 =>
           intro w hSw
           (try dsimp only at hSw)
           go_simp
           (try with_reducible rfl)
         try simp only [Act.put, List.setIfInBounds_toArray, List.set_cons_zero, List.set_cons_succ]
         refine wpAnyH_take (i := 19) (oi := { dst := some 180, op := Op.pick (Operand.tmp 170) (Operand.const (Value.bool true)) (Operand.tmp 179), type := 4, pos := "laws.go:201", after := #[{ on := 9, ground := Ground.data }, { on := 18, ground := Ground.data }, { on := 3, ground := Ground.guard }], guard := some (3, true) }) (v := ?vb21) rfl (by as_aux_lemma => kernel_rfl) (by as_aux_lemma => kernel_rfl) (by as_aux_lemma => kernel_rfl) (fun _ _ _ h => h) (Or.inl ⟨(by as_aux_lemma => rfl), ?yb21⟩) (by assumption) ?rb21
         case yb21 =>
           intro w hSw
           (try dsimp only at hSw)
           go_simp
           (try with_reducible rfl)
         try simp only [Act.put, List.setIfInBounds_toArray, List.set_cons_zero, List.set_cons_succ]
         refine wpAnyH_take (i := 20) (oi := { dst := some 181, op := Op.move (Operand.tmp 180), type := 4, pos := "laws.go:201", after := #[{ on := 19, ground := Ground.data }, { on := 9, ground := Ground.chain }, { on := 3, ground := Ground.guard }], guard := some (3, true) }) (v := ?vb22) rfl (by as_aux_lemma => kernel_rfl) (by as_aux_lemma => kernel_rfl) (by as_aux_lemma => kernel_rfl) (fun _ _ _ h => h) (Or.inl ⟨(by as_aux_lemma => rfl), ?yb22⟩) (by assumption) ?rb22
         case yb22 =>
           intro w hSw
           (try dsimp only at hSw)
           go_simp
           (try with_reducible rfl)
         try simp only [Act.put, List.setIfInBounds_toArray, List.set_cons_zero, List.set_cons_succ]
         refine wpAnyH_take (i := 21) (oi := { dst := some 182, op := Op.fieldAddr 32 (Operand.tmp 6) 1, type := 0, pos := "laws.go:201", after := #[{ on := 20, ground := Ground.guard }], guard := some (20, false) }) (v := ?vb23) rfl (by as_aux_lemma => kernel_rfl) (by as_aux_lemma => kernel_rfl) (by as_aux_lemma => kernel_rfl) (fun _ _ _ h => h) (Or.inl ⟨(by as_aux_lemma => rfl), ?yb23⟩) (by assumption) ?rb23
         case yb23 =>
           intro w hSw
           (try dsimp only at hSw)
           go_simp
           (try with_reducible rfl)
         try simp only [Act.put, List.setIfInBounds_toArray, List.set_cons_zero, List.set_cons_succ]
         refine wpAnyH_take (i := 22) (oi := { dst := some 183, op := Op.fieldAddr 26 (Operand.tmp 182) 1, type := 0, pos := "laws.go:201", after := #[{ on := 21, ground := Ground.data }, { on := 20, ground := Ground.guard }], guard := some (20, false) }) (v := ?vb24) rfl (by as_aux_lemma => kernel_rfl) (by as_aux_lemma => kernel_rfl) (by as_aux_lemma => kernel_rfl) (fun _ _ _ h => h) (Or.inl ⟨(by as_aux_lemma => rfl), ?yb24⟩) (by assumption) ?rb24
         case yb24 =>
           intro w hSw
           (try dsimp only at hSw)
           go_simp
           (try with_reducible rfl)
         try simp only [Act.put, List.setIfInBounds_toArray, List.set_cons_zero, List.set_cons_succ]
         refine wpAnyH_take (i := 23) (oi := { dst := some 184, op := Op.load 24 (Operand.tmp 183), type := 24, pos := "laws.go:201", after := #[{ on := 22, ground := Ground.data }, { on := 20, ground := Ground.guard }], guard := some (20, false) }) (v := ?vb25) rfl (by as_aux_lemma => kernel_rfl) (by as_aux_lemma => kernel_rfl) (by as_aux_lemma => kernel_rfl) (fun _ _ _ h => h) (Or.inl ⟨(by as_aux_lemma => rfl), ?yb25⟩) (by assumption) ?rb25
         case yb25 =>
           intro w hSw
           (try dsimp only at hSw)
           go_simp
           (try with_reducible rfl)
         try simp only [Act.put, List.setIfInBounds_toArray, List.set_cons_zero, List.set_cons_succ]
         refine wpAnyH_take (i := 24) (oi := { dst := some 185, op := Op.fieldAddr 26 (Operand.tmp 3) 1, type := 0, pos := "laws.go:201", after := #[{ on := 20, ground := Ground.guard }], guard := some (20, false) }) (v := ?vb26) rfl (by as_aux_lemma => kernel_rfl) (by as_aux_lemma => kernel_rfl) (by as_aux_lemma => kernel_rfl) (fun _ _ _ h => h) (Or.inl ⟨(by as_aux_lemma => rfl), ?yb26⟩) (by assumption) ?rb26
         case yb26 =>
           intro w hSw
           (try dsimp only at hSw)
           go_simp
           (try with_reducible rfl)
         try simp only [Act.put, List.setIfInBounds_toArray, List.set_cons_zero, List.set_cons_succ]
         refine wpAnyH_take (i := 25) (oi := { dst := some 186, op := Op.load 24 (Operand.tmp 185), type := 24, pos := "laws.go:201", after := #[{ on := 24, ground := Ground.data }, { on := 20, ground := Ground.guard }], guard := some (20, false) }) (v := ?vb27) rfl (by as_aux_lemma => kernel_rfl) (by as_aux_lemma => kernel_rfl) (by as_aux_lemma => kernel_rfl) (fun _ _ _ h => h) (Or.inl ⟨(by as_aux_lemma => rfl), ?yb27⟩) (by assumption) ?rb27
         case yb27 =>
           intro w hSw
           (try dsimp only at hSw)
           go_simp
           (try with_reducible rfl)
         try simp only [Act.put, List.setIfInBounds_toArray, List.set_cons_zero, List.set_cons_succ]
         refine wpAnyH_take (i := 26) (oi := { dst := some 187, op := Op.call { callee := Callee.builtin Builtin.len, args := #[Operand.tmp 186], argTypes := #[24] }, type := 3, pos := "laws.go:201", after := #[{ on := 25, ground := Ground.data }, { on := 20, ground := Ground.guard }], guard := some (20, false) }) (v := ?vb28) rfl (by as_aux_lemma => kernel_rfl) (by as_aux_lemma => kernel_rfl) (by as_aux_lemma => kernel_rfl) (fun _ _ _ h => h) (Or.inl ⟨(by as_aux_lemma => rfl), ?yb28⟩) (by assumption) ?rb28
         case yb28 =>
           intro w hSw
           (try dsimp only at hSw)
           go_simp
           (try with_reducible rfl)
         try simp only [Act.put, List.setIfInBounds_toArray, List.set_cons_zero, List.set_cons_succ]
         refine wpAnyH_take (i := 27) (oi := { dst := some 188, op := Op.slice 24 (Operand.tmp 184) none (some (Operand.tmp 187)) none, type := 24, pos := "laws.go:201", after := #[{ on := 23, ground := Ground.data }, { on := 26, ground := Ground.data }, { on := 20, ground := Ground.guard }], guard := some (20, false) }) (v := ?vb29) rfl (by as_aux_lemma => kernel_rfl) (by as_aux_lemma => kernel_rfl) (by as_aux_lemma => kernel_rfl) (fun _ _ _ h => h) (Or.inl ⟨(by as_aux_lemma => rfl), ?yb29⟩) (by assumption) ?rb29
         case yb29 =>
           intro w hSw
           (try dsimp only at hSw)
           go_simp
           (try with_reducible rfl)
         try simp only [Act.put, List.setIfInBounds_toArray, List.set_cons_zero, List.set_cons_succ]
         refine wpAnyH_take (i := 28) (oi := { dst := some 189, op := Op.fieldAddr 26 (Operand.tmp 3) 1, type := 0, pos := "laws.go:201", after := #[{ on := 20, ground := Ground.guard }], guard := some (20, false) }) (v := ?vb30) rfl (by as_aux_lemma => kernel_rfl) (by as_aux_lemma => kernel_rfl) (by as_aux_lemma => kernel_rfl) (fun _ _ _ h => h) (Or.inl ⟨(by as_aux_lemma => rfl), ?yb30⟩) (by assumption) ?rb30
         case yb30 =>
           intro w hSw
           (try dsimp only at hSw)
           go_simp
           (try with_reducible rfl)
         try simp only [Act.put, List.setIfInBounds_toArray, List.set_cons_zero, List.set_cons_succ]
         refine wpAnyH_take (i := 29) (oi := { dst := some 190, op := Op.load 24 (Operand.tmp 189), type := 24, pos := "laws.go:201", after := #[{ on := 28, ground := Ground.data }, { on := 20, ground := Ground.guard }], guard := some (20, false) }) (v := ?vb31) rfl (by as_aux_lemma => kernel_rfl) (by as_aux_lemma => kernel_rfl) (by as_aux_lemma => kernel_rfl) (fun _ _ _ h => h) (Or.inl ⟨(by as_aux_lemma => rfl), ?yb31⟩) (by assumption) ?rb31
         case yb31 =>
           intro w hSw
           (try dsimp only at hSw)
           go_simp
           (try with_reducible rfl)
         try simp only [Act.put, List.setIfInBounds_toArray, List.set_cons_zero, List.set_cons_succ]
         refine wpAnyH_ready (rs := [30]) (by as_aux_lemma => kernel_rfl) (by simp) ?rb32
         refine AllReadyH.cons (o := { dst := some 191, op := Op.call { callee := Callee.value (Operand.func 20), args := #[Operand.tmp 188, Operand.tmp 190], argTypes := #[24, 24] }, type := 4, pos := "laws.go:201", after := #[{ on := 27, ground := Ground.data }, { on := 29, ground := Ground.data }, { on := 20, ground := Ground.chain }, { on := 20, ground := Ground.guard }], guard := some (20, false) }) rfl (fun K hK => ?kb33) AllReadyH.nil
         go_simp
         (go_at_call_of 20 gl; refine (implSameItems_any (some ⟨ab, aof, none⟩) (some ⟨gl, 0, none⟩) nl cap1 nl capl _ _ (zs.take nl) zl _ true (ST.out _ _ sa) sl ET.out).mono ?_; rintro e v ⟨rfl, hb⟩; have kx := Keep.of_below hb 0 0; have szx := hb.size; replace sa := sa.keep kx (by omega); replace sl := sl.keep kx (by omega); replace sx := sx.keep kx (by omega); replace bd := bd.trans (hb.mono bd.size); have szd := bd.size)
         (try go_wp2_with fail)
         refine hK.out _ _ ?sb33 (fun hHeld2 => ?tb33)
         · first | exact HS.out _ bd | exact HS.out _ (bd.alloc szd _) | ((try dsimp only); go_keep)
         clear hK K hHeld1
         try simp only [Act.put, List.setIfInBounds_toArray, List.set_cons_zero, List.set_cons_succ]
         as_aux_lemma =>
          refine wpAnyH_take (i := 31) (oi := { dst := some 192, op := Op.unOp UnOp.not 4 (Operand.tmp 191), type := 4, pos := "laws.go:201", after := #[{ on := 30, ground := Ground.data }, { on := 20, ground := Ground.guard }], guard := some (20, false) }) (v := ?vb34) rfl (by as_aux_lemma => kernel_rfl) (by as_aux_lemma => kernel_rfl) (by as_aux_lemma => kernel_rfl) (fun _ _ _ h => h) (Or.inl ⟨(by as_aux_lemma => rfl), ?yb34⟩) (by assumption) ?rb34
          case yb34 =>
            intro w hSw
            (try dsimp only at hSw)
            go_simp
            (try with_reducible rfl)
          try simp only [Act.put, List.setIfInBounds_toArray, List.set_cons_zero, List.set_cons_succ]
          refine wpAnyH_take (i := 32) (oi := { dst := some 193, op := Op.pick (Operand.tmp 181) (Operand.const (Value.bool true)) (Operand.tmp 192), type := 4, pos := "laws.go:201", after := #[{ on := 20, ground := Ground.data }, { on := 31, ground := Ground.data }, { on := 3, ground := Ground.guard }], guard := some (3, true) }) (v := ?vb35) rfl (by as_aux_lemma => kernel_rfl) (by as_aux_lemma => kernel_rfl) (by as_aux_lemma => kernel_rfl) (fun _ _ _ h => h) (Or.inl ⟨(by as_aux_lemma => rfl), ?yb35⟩) (by assumption) ?rb35
          case yb35 =>
            intro w hSw
            (try dsimp only at hSw)
            go_simp
            (try with_reducible rfl)
          try simp only [Act.put, List.setIfInBounds_toArray, List.set_cons_zero, List.set_cons_succ]
          refine wpAnyH_take (i := 33) (oi := { dst := some 194, op := Op.move (Operand.tmp 193), type := 4, pos := "laws.go:201", after := #[{ on := 32, ground := Ground.data }, { on := 30, ground := Ground.chain }, { on := 3, ground := Ground.guard }], guard := some (3, true) }) (v := ?vb36) rfl (by as_aux_lemma => kernel_rfl) (by as_aux_lemma => kernel_rfl) (by as_aux_lemma => kernel_rfl) (fun _ _ _ h => h) (Or.inl ⟨(by as_aux_lemma => rfl), ?yb36⟩) (by assumption) ?rb36
          case yb36 =>
            intro w hSw
            (try dsimp only at hSw)
            go_simp
            (try with_reducible rfl)
          try simp only [Act.put, List.setIfInBounds_toArray, List.set_cons_zero, List.set_cons_succ]
          refine wpAnyH_take (i := 34) (oi := { dst := some 195, op := Op.fieldAddr 32 (Operand.tmp 6) 1, type := 0, pos := "laws.go:201", after := #[{ on := 33, ground := Ground.guard }], guard := some (33, false) }) (v := ?vb37) rfl (by as_aux_lemma => kernel_rfl) (by as_aux_lemma => kernel_rfl) (by as_aux_lemma => kernel_rfl) (fun _ _ _ h => h) (Or.inl ⟨(by as_aux_lemma => rfl), ?yb37⟩) (by assumption) ?rb37
          case yb37 =>
            intro w hSw
            (try dsimp only at hSw)
            go_simp
            (try with_reducible rfl)
          try simp only [Act.put, List.setIfInBounds_toArray, List.set_cons_zero, List.set_cons_succ]
          refine wpAnyH_take (i := 35) (oi := { dst := some 196, op := Op.fieldAddr 26 (Operand.tmp 195) 1, type := 0, pos := "laws.go:201", after := #[{ on := 34, ground := Ground.data }, { on := 33, ground := Ground.guard }], guard := some (33, false) }) (v := ?vb38) rfl (by as_aux_lemma => kernel_rfl) (by as_aux_lemma => kernel_rfl) (by as_aux_lemma => kernel_rfl) (fun _ _ _ h => h) (Or.inl ⟨(by as_aux_lemma => rfl), ?yb38⟩) (by assumption) ?rb38
          case yb38 =>
            intro w hSw
            (try dsimp only at hSw)
            go_simp
            (try with_reducible rfl)
          try simp only [Act.put, List.setIfInBounds_toArray, List.set_cons_zero, List.set_cons_succ]
          refine wpAnyH_take (i := 36) (oi := { dst := some 197, op := Op.load 24 (Operand.tmp 196), type := 24, pos := "laws.go:201", after := #[{ on := 35, ground := Ground.data }, { on := 33, ground := Ground.guard }], guard := some (33, false) }) (v := ?vb39) rfl (by as_aux_lemma => kernel_rfl) (by as_aux_lemma => kernel_rfl) (by as_aux_lemma => kernel_rfl) (fun _ _ _ h => h) (Or.inl ⟨(by as_aux_lemma => rfl), ?yb39⟩) (by assumption) ?rb39
          case yb39 =>
            intro w hSw
            (try dsimp only at hSw)
            go_simp
            (try with_reducible rfl)
          try simp only [Act.put, List.setIfInBounds_toArray, List.set_cons_zero, List.set_cons_succ]
          refine wpAnyH_take (i := 37) (oi := { dst := some 198, op := Op.fieldAddr 26 (Operand.tmp 3) 1, type := 0, pos := "laws.go:201", after := #[{ on := 33, ground := Ground.guard }], guard := some (33, false) }) (v := ?vb40) rfl (by as_aux_lemma => kernel_rfl) (by as_aux_lemma => kernel_rfl) (by as_aux_lemma => kernel_rfl) (fun _ _ _ h => h) (Or.inl ⟨(by as_aux_lemma => rfl), ?yb40⟩) (by assumption) ?rb40
          case yb40 =>
            intro w hSw
            (try dsimp only at hSw)
            go_simp
            (try with_reducible rfl)
          try simp only [Act.put, List.setIfInBounds_toArray, List.set_cons_zero, List.set_cons_succ]
          refine wpAnyH_take (i := 38) (oi := { dst := some 199, op := Op.load 24 (Operand.tmp 198), type := 24, pos := "laws.go:201", after := #[{ on := 37, ground := Ground.data }, { on := 33, ground := Ground.guard }], guard := some (33, false) }) (v := ?vb41) rfl (by as_aux_lemma => kernel_rfl) (by as_aux_lemma => kernel_rfl) (by as_aux_lemma => kernel_rfl) (fun _ _ _ h => h) (Or.inl ⟨(by as_aux_lemma => rfl), ?yb41⟩) (by assumption) ?rb41
          case yb41 =>
            intro w hSw
            (try dsimp only at hSw)
            go_simp
            (try with_reducible rfl)
          try simp only [Act.put, List.setIfInBounds_toArray, List.set_cons_zero, List.set_cons_succ]
          refine wpAnyH_take (i := 39) (oi := { dst := some 200, op := Op.call { callee := Callee.builtin Builtin.len, args := #[Operand.tmp 199], argTypes := #[24] }, type := 3, pos := "laws.go:201", after := #[{ on := 38, ground := Ground.data }, { on := 33, ground := Ground.guard }], guard := some (33, false) }) (v := ?vb42) rfl (by as_aux_lemma => kernel_rfl) (by as_aux_lemma => kernel_rfl) (by as_aux_lemma => kernel_rfl) (fun _ _ _ h => h) (Or.inl ⟨(by as_aux_lemma => rfl), ?yb42⟩) (by assumption) ?rb42
          case yb42 =>
            intro w hSw
            (try dsimp only at hSw)
            go_simp
            (try with_reducible rfl)
          try simp only [Act.put, List.setIfInBounds_toArray, List.set_cons_zero, List.set_cons_succ]
          refine wpAnyH_take (i := 40) (oi := { dst := some 201, op := Op.slice 24 (Operand.tmp 197) (some (Operand.tmp 200)) none none, type := 24, pos := "laws.go:201", after := #[{ on := 36, ground := Ground.data }, { on := 39, ground := Ground.data }, { on := 33, ground := Ground.guard }], guard := some (33, false) }) (v := ?vb43) rfl (by as_aux_lemma => kernel_rfl) (by as_aux_lemma => kernel_rfl) (by as_aux_lemma => kernel_rfl) (fun _ _ _ h => h) (Or.inl ⟨(by as_aux_lemma => rfl), ?yb43⟩) (by assumption) ?rb43
          case yb43 =>
            intro w hSw
            (try dsimp only at hSw)
            go_simp
            (try with_reducible rfl)
          try simp only [Act.put, List.setIfInBounds_toArray, List.set_cons_zero, List.set_cons_succ]
          refine wpAnyH_take (i := 41) (oi := { dst := some 202, op := Op.load 28 (Operand.tmp 5), type := 28, pos := "laws.go:201", after := #[{ on := 33, ground := Ground.guard }], guard := some (33, false) }) (v := ?vb44) rfl (by as_aux_lemma => kernel_rfl) (by as_aux_lemma => kernel_rfl) (by as_aux_lemma => kernel_rfl) (fun _ _ _ h => h) (Or.inl ⟨(by as_aux_lemma => rfl), ?yb44⟩) (by assumption) ?rb44
          case yb44 =>
            intro w hSw
            (try dsimp only at hSw)
            go_simp
            (try with_reducible rfl)
          try simp only [Act.put, List.setIfInBounds_toArray, List.set_cons_zero, List.set_cons_succ]
          refine wpAnyH_ready (rs := [42]) (by as_aux_lemma => kernel_rfl) (by simp) ?rb45
          refine AllReadyH.cons (o := { dst := some 203, op := Op.buildSlice 24 1 #[(0, Operand.tmp 202)], type := 24, pos := "laws.go:201", after := #[{ on := 41, ground := Ground.data }, { on := 33, ground := Ground.guard }], guard := some (33, false) }) rfl (fun K hK => ?kb46) AllReadyH.nil
          go_simp
          refine hK.out _ _ ?sb46 (fun hHeld3 => ?tb46)
          · first | exact HS.out _ bd | exact HS.out _ (bd.alloc szd _) | ((try dsimp only); go_keep)
          clear hK K hHeld2
          try simp only [Act.put, List.setIfInBounds_toArray, List.set_cons_zero, List.set_cons_succ]
          as_aux_lemma =>
           refine wpAnyH_ready (rs := [43]) (by as_aux_lemma => kernel_rfl) (by simp) ?rb47
           refine AllReadyH.cons (o := { dst := some 204, op := Op.call { callee := Callee.value (Operand.func 20), args := #[Operand.tmp 201, Operand.tmp 203], argTypes := #[24, 24] }, type := 4, pos := "laws.go:201", after := #[{ on := 40, ground := Ground.data }, { on := 42, ground := Ground.data }, { on := 33, ground := Ground.chain }, { on := 33, ground := Ground.guard }], guard := some (33, false) }) rfl (fun K hK => ?kb48) AllReadyH.nil
           go_simp
           (go_at_call 20; refine (implSameItems_any (some ⟨ab, aof + nl * 4, none⟩) _ 1 (cap1 - nl) 1 1 _ _ (zs.drop nl) [(xk, xb, xp, xq)] (v.alloc (.cells #[.int .i64 xk, .slice GB xb.length cb, .int .i64 xp, .int .i64 xq] 28)) true (SD.out _ _ (sa.keep ((Keep.refl 0 0 v).alloc _) (by omega))) (Rt.one v xk xp xq GB cb xb _ (sx.wide (Nat.zero_le _) (by omega) (Nat.le_refl _)) hgz) ED.out).mono ?_; rintro e v' ⟨rfl, hb⟩; replace bd := (bd.alloc (by omega) (.cells #[.int .i64 xk, .slice GB xb.length cb, .int .i64 xp, .int .i64 xq] 28)).trans (hb.mono (by simp; omega)))
           (try go_wp2_with fail)
           refine hK.out _ _ ?sb48 (fun hHeld4 => ?tb48)
           · first | exact HS.out _ bd | exact HS.out _ (bd.alloc szd _) | ((try dsimp only); go_keep)
           clear hK K hHeld3
           try simp only [Act.put, List.setIfInBounds_toArray, List.set_cons_zero, List.set_cons_succ]
           as_aux_lemma =>
            refine wpAnyH_take (i := 44) (oi := { dst := some 205, op := Op.unOp UnOp.not 4 (Operand.tmp 204), type := 4, pos := "laws.go:201", after := #[{ on := 43, ground := Ground.data }, { on := 33, ground := Ground.guard }], guard := some (33, false) }) (v := ?vb49) rfl (by as_aux_lemma => kernel_rfl) (by as_aux_lemma => kernel_rfl) (by as_aux_lemma => kernel_rfl) (fun _ _ _ h => h) (Or.inl ⟨(by as_aux_lemma => rfl), ?yb49⟩) (by assumption) ?rb49
            case yb49 =>
              intro w hSw
              (try dsimp only at hSw)
              go_simp
              (try with_reducible rfl)
            try simp only [Act.put, List.setIfInBounds_toArray, List.set_cons_zero, List.set_cons_succ]
            refine wpAnyH_take (i := 45) (oi := { dst := some 206, op := Op.pick (Operand.tmp 194) (Operand.const (Value.bool true)) (Operand.tmp 205), type := 4, pos := "laws.go:201", after := #[{ on := 33, ground := Ground.data }, { on := 44, ground := Ground.data }, { on := 3, ground := Ground.guard }], guard := some (3, true) }) (v := ?vb50) rfl (by as_aux_lemma => kernel_rfl) (by as_aux_lemma => kernel_rfl) (by as_aux_lemma => kernel_rfl) (fun _ _ _ h => h) (Or.inl ⟨(by as_aux_lemma => rfl), ?yb50⟩) (by assumption) ?rb50
            case yb50 =>
              intro w hSw
              (try dsimp only at hSw)
              go_simp
              (try with_reducible rfl)
            try simp only [Act.put, List.setIfInBounds_toArray, List.set_cons_zero, List.set_cons_succ]
            refine wpAnyH_take (i := 46) (oi := { dst := some 207, op := Op.pick (Operand.tmp 164) (Operand.tmp 206) (Operand.const (Value.bool false)), type := 4, pos := "laws.go:201", after := #[{ on := 3, ground := Ground.data }, { on := 45, ground := Ground.data }], guard := none }) (v := ?vb51) rfl (by as_aux_lemma => kernel_rfl) (by as_aux_lemma => kernel_rfl) (by as_aux_lemma => kernel_rfl) (fun _ _ _ h => h) (Or.inl ⟨(by as_aux_lemma => rfl), ?yb51⟩) (by assumption) ?rb51
            case yb51 =>
              intro w hSw
              (try dsimp only at hSw)
              go_simp
              (try with_reducible rfl)
            try simp only [Act.put, List.setIfInBounds_toArray, List.set_cons_zero, List.set_cons_succ]
            refine wpAnyH_done (by as_aux_lemma => kernel_rfl) ?eb7_30_42_43 _
            go_wp2_with fail
            go_meet
            case rel => exact ⟨rfl, bd⟩
      · have hcb : (cc == 0) = false := by simp [hc0]
        go_quiet (fail)
        go_wp2_with fail
        go_meet
        case rel => exact ⟨rfl, ⟨rfl, rfl, rfl, Nat.le_refl _, fun _ _ => rfl⟩⟩
  case rest =>
  obtain ⟨rfl, hb14⟩ := hcut
  have hk14 := Keep.of_below hb14 0 0
  have hz14 := hb14.size
  replace h := h.keep hk14 (by omega)
  replace rl := rl.keep hk14 (by omega)
  replace rx := rx.keep hk14 (by omega)
  replace bl := bl.keep hk14 (by omega)
  replace bi := bi.keep hk14 (by omega)
  replace za := za.keep hk14 (by omega)
  replace ba := ba.keep hk14 (by omega)
  replace rm := rm.keep hk14 (by omega)
  replace bm := bm.keep hk14 (by omega)
  replace zt := zt.keep hk14 (by omega)
  replace bt := bt.keep hk14 (by omega)
  replace ra := ra.keep hk14 (by omega)
  replace z3 := z3.keep hk14 (by omega)
  replace bs_ := bs_.keep hk14 (by omega)
  replace bb := bb.trans (hk14.below (by omega) bb.size)
  clear hb14 hk14
  generalize hwc14 : wc = w14 at *
  clear hwc14
  go_upto_region 15 with fail
  go_cut [238] from 208 to 238 (fun sv wx => sv = .bool false ∧ Below w14.heap.size w14 wx)
  case first =>
    as_aux_lemma =>
      have kd : Keep 0 0 w14 w14.drew := ⟨rfl, rfl, rfl, Nat.le_refl _, fun _ _ _ => rfl⟩
      have bd : Below w14.heap.size w14 w14.drew := ⟨rfl, rfl, rfl, Nat.le_refl _, fun _ _ => rfl⟩
      have szd : w14.heap.size ≤ w14.drew.heap.size := Nat.le_refl _
      have st := (zt.rt.wide (Nat.zero_le _) (Nat.le_refl _) zt.top).keep kd (by omega)
      have sm := (rm.wide (Nat.zero_le _) (Nat.le_refl _) rm.top).keep kd (by omega)
      have btlt := bt.1
      have bt_0 := bt.2.1
      have bt_1 := bt.2.2.1
      have bt_2 := bt.2.2.2
      have bmlt := bm.1
      have bm_0 := bm.2.1
      have bm_1 := bm.2.2
      clear h rl rx za rm zt ra z3 bb ba bl bi bm bt bs_ kd
      by_cases hc0 : cc2 = 0
      · obtain ⟨e1, e2, e3, e4⟩ := trim_ok (HCC2.out.trans hc0)
        have f1 : tb2 = tt := HTB2.out.symm.trans e1
        have f2 : zs2 = zm.drop (tt - bs2).toNat := HZS2.out.symm.trans e2
        have f3 : zm.length = nm := sm.len
        obtain ⟨d, hd⟩ := Int.eq_ofNat_of_zero_le (show 0 ≤ tt - bs2 by omega)
        have hd2 : (tt - bs2).toNat = d := by rw [hd, Int.toNat_natCast]
        rw [hd2] at f2 e4
        have E3 : Hid (logCode tt room2 zs2 = 0) := by show _ = _; rw [f2]; exact e4
        have EE : Hid (decide (zs2 = zm.drop d) = true) := decide_eq_true f2
        have hdn : d ≤ nm := by omega
        have hw : IntKind.i64.wrap (tt - bs2) = (d : Int) := by rw [IntKind.wrap_i64]; omega
        have g1 : (0 : Int) ≤ (d : Int) := by omega
        have g2 : (d : Int) ≤ (nm : Int) := by omega
        have g3 : (d : Int) ≤ (capm : Int) := by omega
        rw [f1] at bt_1
        rw [hc0] at bt_0
        have HF2 := Lib.hid f2
        clear e1 e2 e3 e4 f1 f2 hd2 hc0 hd
        by_cases hdc : d < capm
        · have hne : ¬ capm = d := by omega
          have SD := Lib.hid (fun (W : World) (H : Nat) (h : Rt W 0 H (some ⟨gm, 0, none⟩) nm zm) => (by have h9 := h.drop hdn; rwa [Nat.zero_add] at h9 : Rt W 0 H (some ⟨gm, d * 4, none⟩) (nm - d) (zm.drop d)))
          have HS := Lib.hid (fun (w' : World) (kb : Below w14.heap.size w14 w') => (⟨(kb.cell btlt).trans bt_0, (kb.cell btlt).trans bt_1, (kb.cell btlt).trans bt_2, (kb.cell bmlt).trans bm_0, (kb.cell bmlt).trans bm_1⟩ : w'.cell? ⟨w6.heap.size, 0, none⟩ = some (.int .i64 0) ∧ w'.cell? ⟨w6.heap.size, 1, none⟩ = some (.int .i64 tt) ∧ w'.cell? ⟨w6.heap.size, 2, none⟩ = some (.slice G2 zs2.length cap2) ∧ w'.cell? ⟨w4.heap.size, 0, none⟩ = some (.int .i64 bs2) ∧ w'.cell? ⟨w4.heap.size, 1, none⟩ = some (.slice (some ⟨gm, 0, none⟩) nm capm)))
          try simp only [List.append_eq, List.cons_append, List.nil_append]
          refine wp_region_held_drew (S := fun w' => w'.cell? ⟨w6.heap.size, 0, none⟩ = some (.int .i64 0) ∧ w'.cell? ⟨w6.heap.size, 1, none⟩ = some (.int .i64 tt) ∧ w'.cell? ⟨w6.heap.size, 2, none⟩ = some (.slice G2 zs2.length cap2) ∧ w'.cell? ⟨w4.heap.size, 0, none⟩ = some (.int .i64 bs2) ∧ w'.cell? ⟨w4.heap.size, 1, none⟩ = some (.slice (some ⟨gm, 0, none⟩) nm capm)) (by kernel_rfl) ?sSc (fun hHeld0 => ?sRc)
          · first | exact HS.out _ bd | exact HS.out _ (bd.alloc szd _) | ((try dsimp only); go_keep)
          refine wpAnyH_take (i := 0) (oi := { dst := some 208, op := Op.fieldAddr 32 (Operand.tmp 10) 0, type := 0, pos := "laws.go:204", after := #[], guard := none }) (v := ?vc1) rfl (by as_aux_lemma => kernel_rfl) (by as_aux_lemma => kernel_rfl) (by as_aux_lemma => kernel_rfl) (fun _ _ _ h => h) (Or.inl ⟨(by as_aux_lemma => rfl), ?yc1⟩) (by assumption) ?rc1
          case yc1 =>
            intro w hSw
            (try dsimp only at hSw)
            go_simp
            (try with_reducible rfl)
          try simp only [Act.put, List.setIfInBounds_toArray, List.set_cons_zero, List.set_cons_succ]
          refine wpAnyH_take (i := 1) (oi := { dst := some 209, op := Op.load 2 (Operand.tmp 208), type := 2, pos := "laws.go:204", after := #[{ on := 0, ground := Ground.data }], guard := none }) (v := ?vc2) rfl (by as_aux_lemma => kernel_rfl) (by as_aux_lemma => kernel_rfl) (by as_aux_lemma => kernel_rfl) (fun _ _ _ h => h) (Or.inl ⟨(by as_aux_lemma => rfl), ?yc2⟩) (by assumption) ?rc2
          case yc2 =>
            intro w hSw
            (try dsimp only at hSw)
            go_simp
            (try with_reducible rfl)
          try simp only [Act.put, List.setIfInBounds_toArray, List.set_cons_zero, List.set_cons_succ]
          refine wpAnyH_take (i := 2) (oi := { dst := some 210, op := Op.binOp BinOp.eql 2 (Operand.tmp 209) (Operand.const (Value.int IntKind.i64 0)) 2, type := 4, pos := "laws.go:204", after := #[{ on := 1, ground := Ground.data }], guard := none }) (v := ?vc3) rfl (by as_aux_lemma => kernel_rfl) (by as_aux_lemma => kernel_rfl) (by as_aux_lemma => kernel_rfl) (fun _ _ _ h => h) (Or.inl ⟨(by as_aux_lemma => rfl), ?yc3⟩) (by assumption) ?rc3
          case yc3 =>
            intro w hSw
            (try dsimp only at hSw)
            go_simp
            (try with_reducible rfl)
          try simp only [Act.put, List.setIfInBounds_toArray, List.set_cons_zero, List.set_cons_succ]
          refine wpAnyH_take (i := 3) (oi := { dst := some 211, op := Op.move (Operand.tmp 210), type := 4, pos := "laws.go:204", after := #[{ on := 2, ground := Ground.data }], guard := none }) (v := ?vc4) rfl (by as_aux_lemma => kernel_rfl) (by as_aux_lemma => kernel_rfl) (by as_aux_lemma => kernel_rfl) (fun _ _ _ h => h) (Or.inl ⟨(by as_aux_lemma => rfl), ?yc4⟩) (by assumption) ?rc4
          case yc4 =>
            intro w hSw
            (try dsimp only at hSw)
            go_simp
            (try with_reducible rfl)
          try simp only [Act.put, List.setIfInBounds_toArray, List.set_cons_zero, List.set_cons_succ]
          refine wpAnyH_take (i := 4) (oi := { dst := some 212, op := Op.fieldAddr 32 (Operand.tmp 10) 1, type := 0, pos := "laws.go:204", after := #[{ on := 3, ground := Ground.guard }], guard := some (3, true) }) (v := ?vc5) rfl (by as_aux_lemma => kernel_rfl) (by as_aux_lemma => kernel_rfl) (by as_aux_lemma => kernel_rfl) (fun _ _ _ h => h) (Or.inl ⟨(by as_aux_lemma => rfl), ?yc5⟩) (by assumption) ?rc5
          case yc5 =>
            intro w hSw
            (try dsimp only at hSw)
            go_simp
            (try with_reducible rfl)
          try simp only [Act.put, List.setIfInBounds_toArray, List.set_cons_zero, List.set_cons_succ]
          refine wpAnyH_take (i := 5) (oi := { dst := some 213, op := Op.load 26 (Operand.tmp 212), type := 26, pos := "laws.go:204", after := #[{ on := 4, ground := Ground.data }, { on := 3, ground := Ground.guard }], guard := some (3, true) }) (v := ?vc6) rfl (by as_aux_lemma => kernel_rfl) (by as_aux_lemma => kernel_rfl) (by as_aux_lemma => kernel_rfl) (fun _ _ _ h => h) (Or.inl ⟨(by as_aux_lemma => rfl), ?yc6⟩) (by assumption) ?rc6
          case yc6 =>
            intro w hSw
            (try dsimp only at hSw)
            go_simp
            (try with_reducible rfl)
          try simp only [Act.put, List.setIfInBounds_toArray, List.set_cons_zero, List.set_cons_succ]
          refine wpAnyH_take (i := 6) (oi := { dst := some 214, op := Op.move (Operand.tmp 8), type := 2, pos := "laws.go:204", after := #[{ on := 3, ground := Ground.guard }], guard := some (3, true) }) (v := ?vc7) rfl (by as_aux_lemma => kernel_rfl) (by as_aux_lemma => kernel_rfl) (by as_aux_lemma => kernel_rfl) (fun _ _ _ h => h) (Or.inl ⟨(by as_aux_lemma => rfl), ?yc7⟩) (by assumption) ?rc7
          case yc7 =>
            intro w hSw
            (try dsimp only at hSw)
            go_simp
            (try with_reducible rfl)
          try simp only [Act.put, List.setIfInBounds_toArray, List.set_cons_zero, List.set_cons_succ]
          refine wpAnyH_ready (rs := [7]) (by as_aux_lemma => kernel_rfl) (by simp) ?rc8
          refine AllReadyH.cons (o := { dst := some 215, op := Op.call { callee := Callee.value (Operand.func 26), args := #[Operand.tmp 213, Operand.tmp 214], argTypes := #[26, 2] }, type := 2, pos := "laws.go:204", after := #[{ on := 5, ground := Ground.data }, { on := 6, ground := Ground.data }, { on := 3, ground := Ground.chain }, { on := 3, ground := Ground.guard }], guard := some (3, true) }) rfl (fun K hK => ?kc9) AllReadyH.nil
          go_simp
          (go_at_call 26; refine (int_at (implLogFault_any tt room2 G2 zs2.length cap2 _ zs2 _ st) E3.out).mono ?_; rintro e v ⟨rfl, hb⟩; have kx := Keep.of_below hb 0 0; have szx := hb.size; replace st := st.keep kx (by omega); replace sm := sm.keep kx (by omega); replace bd := bd.trans (hb.mono bd.size); have szd := bd.size)
          (try go_wp2_with fail)
          refine hK.out _ _ ?sc9 (fun hHeld1 => ?tc9)
          · first | exact HS.out _ bd | exact HS.out _ (bd.alloc szd _) | ((try dsimp only); go_keep)
          clear hK K hHeld0
          try simp only [Act.put, List.setIfInBounds_toArray, List.set_cons_zero, List.set_cons_succ]
          as_aux_lemma =>
           refine wpAnyH_take (i := 8) (oi := { dst := some 216, op := Op.binOp BinOp.neq 2 (Operand.tmp 215) (Operand.const (Value.int IntKind.i64 0)) 2, type := 4, pos := "laws.go:204", after := #[{ on := 7, ground := Ground.data }, { on := 3, ground := Ground.guard }], guard := some (3, true) }) (v := ?vc10) rfl (by as_aux_lemma => kernel_rfl) (by as_aux_lemma => kernel_rfl) (by as_aux_lemma => kernel_rfl) (fun _ _ _ h => h) (Or.inl ⟨(by as_aux_lemma => rfl), ?yc10⟩) (by assumption) ?rc10
           case yc10 =>
             intro w hSw
             (try dsimp only at hSw)
             go_simp
             (try with_reducible rfl)
           try simp only [Act.put, List.setIfInBounds_toArray, List.set_cons_zero, List.set_cons_succ]
           refine wpAnyH_take (i := 9) (oi := { dst := some 217, op := Op.move (Operand.tmp 216), type := 4, pos := "laws.go:204", after := #[{ on := 8, ground := Ground.data }, { on := 7, ground := Ground.chain }, { on := 3, ground := Ground.guard }], guard := some (3, true) }) (v := ?vc11) rfl (by as_aux_lemma => kernel_rfl) (by as_aux_lemma => kernel_rfl) (by as_aux_lemma => kernel_rfl) (fun _ _ _ h => h) (Or.inl ⟨(by as_aux_lemma => rfl), ?yc11⟩) (by assumption) ?rc11
           case yc11 =>
             intro w hSw
             (try dsimp only at hSw)
             go_simp
             (try with_reducible rfl)
           try simp only [Act.put, List.setIfInBounds_toArray, List.set_cons_zero, List.set_cons_succ]
           refine wpAnyH_take (i := 10) (oi := { dst := some 218, op := Op.fieldAddr 32 (Operand.tmp 10) 1, type := 0, pos := "laws.go:204", after := #[{ on := 9, ground := Ground.guard }], guard := some (9, false) }) (v := ?vc12) rfl (by as_aux_lemma => kernel_rfl) (by as_aux_lemma => kernel_rfl) (by as_aux_lemma => kernel_rfl) (fun _ _ _ h => h) (Or.inl ⟨(by as_aux_lemma => rfl), ?yc12⟩) (by assumption) ?rc12
           case yc12 =>
             intro w hSw
             (try dsimp only at hSw)
             go_simp
             (try with_reducible rfl)
           try simp only [Act.put, List.setIfInBounds_toArray, List.set_cons_zero, List.set_cons_succ]
           refine wpAnyH_take (i := 11) (oi := { dst := some 219, op := Op.fieldAddr 26 (Operand.tmp 218) 0, type := 0, pos := "laws.go:204", after := #[{ on := 10, ground := Ground.data }, { on := 9, ground := Ground.guard }], guard := some (9, false) }) (v := ?vc13) rfl (by as_aux_lemma => kernel_rfl) (by as_aux_lemma => kernel_rfl) (by as_aux_lemma => kernel_rfl) (fun _ _ _ h => h) (Or.inl ⟨(by as_aux_lemma => rfl), ?yc13⟩) (by assumption) ?rc13
           case yc13 =>
             intro w hSw
             (try dsimp only at hSw)
             go_simp
             (try with_reducible rfl)
           try simp only [Act.put, List.setIfInBounds_toArray, List.set_cons_zero, List.set_cons_succ]
           refine wpAnyH_take (i := 12) (oi := { dst := some 220, op := Op.load 2 (Operand.tmp 219), type := 2, pos := "laws.go:204", after := #[{ on := 11, ground := Ground.data }, { on := 9, ground := Ground.guard }], guard := some (9, false) }) (v := ?vc14) rfl (by as_aux_lemma => kernel_rfl) (by as_aux_lemma => kernel_rfl) (by as_aux_lemma => kernel_rfl) (fun _ _ _ h => h) (Or.inl ⟨(by as_aux_lemma => rfl), ?yc14⟩) (by assumption) ?rc14
           case yc14 =>
             intro w hSw
             (try dsimp only at hSw)
             go_simp
             (try with_reducible rfl)
           try simp only [Act.put, List.setIfInBounds_toArray, List.set_cons_zero, List.set_cons_succ]
           refine wpAnyH_take (i := 13) (oi := { dst := some 221, op := Op.move (Operand.tmp 9), type := 2, pos := "laws.go:204", after := #[{ on := 9, ground := Ground.guard }], guard := some (9, false) }) (v := ?vc15) rfl (by as_aux_lemma => kernel_rfl) (by as_aux_lemma => kernel_rfl) (by as_aux_lemma => kernel_rfl) (fun _ _ _ h => h) (Or.inl ⟨(by as_aux_lemma => rfl), ?yc15⟩) (by assumption) ?rc15
           case yc15 =>
             intro w hSw
             (try dsimp only at hSw)
             go_simp
             (try with_reducible rfl)
           try simp only [Act.put, List.setIfInBounds_toArray, List.set_cons_zero, List.set_cons_succ]
           refine wpAnyH_take (i := 14) (oi := { dst := some 222, op := Op.binOp BinOp.neq 2 (Operand.tmp 220) (Operand.tmp 221) 2, type := 4, pos := "laws.go:204", after := #[{ on := 12, ground := Ground.data }, { on := 13, ground := Ground.data }, { on := 9, ground := Ground.guard }], guard := some (9, false) }) (v := ?vc16) rfl (by as_aux_lemma => kernel_rfl) (by as_aux_lemma => kernel_rfl) (by as_aux_lemma => kernel_rfl) (fun _ _ _ h => h) (Or.inl ⟨(by as_aux_lemma => rfl), ?yc16⟩) (by assumption) ?rc16
           case yc16 =>
             intro w hSw
             (try dsimp only at hSw)
             go_simp
             (try with_reducible rfl)
           try simp only [Act.put, List.setIfInBounds_toArray, List.set_cons_zero, List.set_cons_succ]
           refine wpAnyH_take (i := 15) (oi := { dst := some 223, op := Op.pick (Operand.tmp 217) (Operand.const (Value.bool true)) (Operand.tmp 222), type := 4, pos := "laws.go:204", after := #[{ on := 9, ground := Ground.data }, { on := 14, ground := Ground.data }, { on := 3, ground := Ground.guard }], guard := some (3, true) }) (v := ?vc17) rfl (by as_aux_lemma => kernel_rfl) (by as_aux_lemma => kernel_rfl) (by as_aux_lemma => kernel_rfl) (fun _ _ _ h => h) (Or.inl ⟨(by as_aux_lemma => rfl), ?yc17⟩) (by assumption) ?rc17
           case yc17 =>
             intro w hSw
             (try dsimp only at hSw)
             go_simp
             (try with_reducible rfl)
           try simp only [Act.put, List.setIfInBounds_toArray, List.set_cons_zero, List.set_cons_succ]
           refine wpAnyH_take (i := 16) (oi := { dst := some 224, op := Op.move (Operand.tmp 223), type := 4, pos := "laws.go:204", after := #[{ on := 15, ground := Ground.data }, { on := 9, ground := Ground.chain }, { on := 3, ground := Ground.guard }], guard := some (3, true) }) (v := ?vc18) rfl (by as_aux_lemma => kernel_rfl) (by as_aux_lemma => kernel_rfl) (by as_aux_lemma => kernel_rfl) (fun _ _ _ h => h) (Or.inl ⟨(by as_aux_lemma => rfl), ?yc18⟩) (by assumption) ?rc18
           case yc18 =>
             intro w hSw
             (try dsimp only at hSw)
             go_simp
             (try with_reducible rfl)
           try simp only [Act.put, List.setIfInBounds_toArray, List.set_cons_zero, List.set_cons_succ]
           refine wpAnyH_take (i := 17) (oi := { dst := some 225, op := Op.fieldAddr 32 (Operand.tmp 10) 1, type := 0, pos := "laws.go:204", after := #[{ on := 16, ground := Ground.guard }], guard := some (16, false) }) (v := ?vc19) rfl (by as_aux_lemma => kernel_rfl) (by as_aux_lemma => kernel_rfl) (by as_aux_lemma => kernel_rfl) (fun _ _ _ h => h) (Or.inl ⟨(by as_aux_lemma => rfl), ?yc19⟩) (by assumption) ?rc19
           case yc19 =>
             intro w hSw
             (try dsimp only at hSw)
             go_simp
             (try with_reducible rfl)
           try simp only [Act.put, List.setIfInBounds_toArray, List.set_cons_zero, List.set_cons_succ]
           refine wpAnyH_take (i := 18) (oi := { dst := some 226, op := Op.fieldAddr 26 (Operand.tmp 225) 1, type := 0, pos := "laws.go:204", after := #[{ on := 17, ground := Ground.data }, { on := 16, ground := Ground.guard }], guard := some (16, false) }) (v := ?vc20) rfl (by as_aux_lemma => kernel_rfl) (by as_aux_lemma => kernel_rfl) (by as_aux_lemma => kernel_rfl) (fun _ _ _ h => h) (Or.inl ⟨(by as_aux_lemma => rfl), ?yc20⟩) (by assumption) ?rc20
           case yc20 =>
             intro w hSw
             (try dsimp only at hSw)
             go_simp
             (try with_reducible rfl)
           try simp only [Act.put, List.setIfInBounds_toArray, List.set_cons_zero, List.set_cons_succ]
           refine wpAnyH_take (i := 19) (oi := { dst := some 227, op := Op.load 24 (Operand.tmp 226), type := 24, pos := "laws.go:204", after := #[{ on := 18, ground := Ground.data }, { on := 16, ground := Ground.guard }], guard := some (16, false) }) (v := ?vc21) rfl (by as_aux_lemma => kernel_rfl) (by as_aux_lemma => kernel_rfl) (by as_aux_lemma => kernel_rfl) (fun _ _ _ h => h) (Or.inl ⟨(by as_aux_lemma => rfl), ?yc21⟩) (by assumption) ?rc21
           case yc21 =>
             intro w hSw
             (try dsimp only at hSw)
             go_simp
             (try with_reducible rfl)
           try simp only [Act.put, List.setIfInBounds_toArray, List.set_cons_zero, List.set_cons_succ]
           refine wpAnyH_take (i := 20) (oi := { dst := some 228, op := Op.fieldAddr 26 (Operand.tmp 7) 1, type := 0, pos := "laws.go:204", after := #[{ on := 16, ground := Ground.guard }], guard := some (16, false) }) (v := ?vc22) rfl (by as_aux_lemma => kernel_rfl) (by as_aux_lemma => kernel_rfl) (by as_aux_lemma => kernel_rfl) (fun _ _ _ h => h) (Or.inl ⟨(by as_aux_lemma => rfl), ?yc22⟩) (by assumption) ?rc22
           case yc22 =>
             intro w hSw
             (try dsimp only at hSw)
             go_simp
             (try with_reducible rfl)
           try simp only [Act.put, List.setIfInBounds_toArray, List.set_cons_zero, List.set_cons_succ]
           refine wpAnyH_take (i := 21) (oi := { dst := some 229, op := Op.load 24 (Operand.tmp 228), type := 24, pos := "laws.go:204", after := #[{ on := 20, ground := Ground.data }, { on := 16, ground := Ground.guard }], guard := some (16, false) }) (v := ?vc23) rfl (by as_aux_lemma => kernel_rfl) (by as_aux_lemma => kernel_rfl) (by as_aux_lemma => kernel_rfl) (fun _ _ _ h => h) (Or.inl ⟨(by as_aux_lemma => rfl), ?yc23⟩) (by assumption) ?rc23
           case yc23 =>
             intro w hSw
             (try dsimp only at hSw)
             go_simp
             (try with_reducible rfl)
           try simp only [Act.put, List.setIfInBounds_toArray, List.set_cons_zero, List.set_cons_succ]
           refine wpAnyH_take (i := 22) (oi := { dst := some 230, op := Op.move (Operand.tmp 9), type := 2, pos := "laws.go:204", after := #[{ on := 16, ground := Ground.guard }], guard := some (16, false) }) (v := ?vc24) rfl (by as_aux_lemma => kernel_rfl) (by as_aux_lemma => kernel_rfl) (by as_aux_lemma => kernel_rfl) (fun _ _ _ h => h) (Or.inl ⟨(by as_aux_lemma => rfl), ?yc24⟩) (by assumption) ?rc24
           case yc24 =>
             intro w hSw
             (try dsimp only at hSw)
             go_simp
             (try with_reducible rfl)
           try simp only [Act.put, List.setIfInBounds_toArray, List.set_cons_zero, List.set_cons_succ]
           refine wpAnyH_take (i := 23) (oi := { dst := some 231, op := Op.fieldAddr 26 (Operand.tmp 7) 0, type := 0, pos := "laws.go:204", after := #[{ on := 16, ground := Ground.guard }], guard := some (16, false) }) (v := ?vc25) rfl (by as_aux_lemma => kernel_rfl) (by as_aux_lemma => kernel_rfl) (by as_aux_lemma => kernel_rfl) (fun _ _ _ h => h) (Or.inl ⟨(by as_aux_lemma => rfl), ?yc25⟩) (by assumption) ?rc25
           case yc25 =>
             intro w hSw
             (try dsimp only at hSw)
             go_simp
             (try with_reducible rfl)
           try simp only [Act.put, List.setIfInBounds_toArray, List.set_cons_zero, List.set_cons_succ]
           refine wpAnyH_take (i := 24) (oi := { dst := some 232, op := Op.load 2 (Operand.tmp 231), type := 2, pos := "laws.go:204", after := #[{ on := 23, ground := Ground.data }, { on := 16, ground := Ground.guard }], guard := some (16, false) }) (v := ?vc26) rfl (by as_aux_lemma => kernel_rfl) (by as_aux_lemma => kernel_rfl) (by as_aux_lemma => kernel_rfl) (fun _ _ _ h => h) (Or.inl ⟨(by as_aux_lemma => rfl), ?yc26⟩) (by assumption) ?rc26
           case yc26 =>
             intro w hSw
             (try dsimp only at hSw)
             go_simp
             (try with_reducible rfl)
           try simp only [Act.put, List.setIfInBounds_toArray, List.set_cons_zero, List.set_cons_succ]
           refine wpAnyH_take (i := 25) (oi := { dst := some 233, op := Op.binOp BinOp.sub 2 (Operand.tmp 230) (Operand.tmp 232) 2, type := 2, pos := "laws.go:204", after := #[{ on := 22, ground := Ground.data }, { on := 24, ground := Ground.data }, { on := 16, ground := Ground.guard }], guard := some (16, false) }) (v := ?vc27) rfl (by as_aux_lemma => kernel_rfl) (by as_aux_lemma => kernel_rfl) (by as_aux_lemma => kernel_rfl) (fun _ _ _ h => h) (Or.inl ⟨(by as_aux_lemma => rfl), ?yc27⟩) (by assumption) ?rc27
           case yc27 =>
             intro w hSw
             (try dsimp only at hSw)
             go_simp
             (try with_reducible rfl)
           try simp only [Act.put, List.setIfInBounds_toArray, List.set_cons_zero, List.set_cons_succ]
           refine wpAnyH_take (i := 26) (oi := { dst := some 234, op := Op.slice 24 (Operand.tmp 229) (some (Operand.tmp 233)) none none, type := 24, pos := "laws.go:204", after := #[{ on := 21, ground := Ground.data }, { on := 25, ground := Ground.data }, { on := 16, ground := Ground.guard }], guard := some (16, false) }) (v := ?vc28) rfl (by as_aux_lemma => kernel_rfl) (by as_aux_lemma => kernel_rfl) (by as_aux_lemma => kernel_rfl) (fun _ _ _ h => h) (Or.inl ⟨(by as_aux_lemma => rfl), ?yc28⟩) (by assumption) ?rc28
           case yc28 =>
             intro w hSw
             (try dsimp only at hSw)
             go_simp
             (try with_reducible rfl)
           try simp only [Act.put, List.setIfInBounds_toArray, List.set_cons_zero, List.set_cons_succ]
           refine wpAnyH_ready (rs := [27]) (by as_aux_lemma => kernel_rfl) (by simp) ?rc29
           refine AllReadyH.cons (o := { dst := some 235, op := Op.call { callee := Callee.value (Operand.func 20), args := #[Operand.tmp 227, Operand.tmp 234], argTypes := #[24, 24] }, type := 4, pos := "laws.go:204", after := #[{ on := 19, ground := Ground.data }, { on := 26, ground := Ground.data }, { on := 16, ground := Ground.chain }, { on := 16, ground := Ground.guard }], guard := some (16, false) }) rfl (fun K hK => ?kc30) AllReadyH.nil
           go_simp
           (go_at_call 20; refine (implSameItems_any G2 (some ⟨gm, d * 4, none⟩) zs2.length cap2 (nm - d) (capm - d) _ _ zs2 (zm.drop d) _ true st (SD.out _ _ sm) EE.out).mono ?_; rintro e v ⟨rfl, hb⟩; have kx := Keep.of_below hb 0 0; have szx := hb.size; replace st := st.keep kx (by omega); replace sm := sm.keep kx (by omega); replace bd := bd.trans (hb.mono bd.size); have szd := bd.size)
           (try go_wp2_with fail)
           refine hK.out _ _ ?sc30 (fun hHeld2 => ?tc30)
           · first | exact HS.out _ bd | exact HS.out _ (bd.alloc szd _) | ((try dsimp only); go_keep)
           clear hK K hHeld1
           try simp only [Act.put, List.setIfInBounds_toArray, List.set_cons_zero, List.set_cons_succ]
           as_aux_lemma =>
            refine wpAnyH_take (i := 28) (oi := { dst := some 236, op := Op.unOp UnOp.not 4 (Operand.tmp 235), type := 4, pos := "laws.go:204", after := #[{ on := 27, ground := Ground.data }, { on := 16, ground := Ground.guard }], guard := some (16, false) }) (v := ?vc31) rfl (by as_aux_lemma => kernel_rfl) (by as_aux_lemma => kernel_rfl) (by as_aux_lemma => kernel_rfl) (fun _ _ _ h => h) (Or.inl ⟨(by as_aux_lemma => rfl), ?yc31⟩) (by assumption) ?rc31
            case yc31 =>
              intro w hSw
              (try dsimp only at hSw)
              go_simp
              (try with_reducible rfl)
            try simp only [Act.put, List.setIfInBounds_toArray, List.set_cons_zero, List.set_cons_succ]
            refine wpAnyH_take (i := 29) (oi := { dst := some 237, op := Op.pick (Operand.tmp 224) (Operand.const (Value.bool true)) (Operand.tmp 236), type := 4, pos := "laws.go:204", after := #[{ on := 16, ground := Ground.data }, { on := 28, ground := Ground.data }, { on := 3, ground := Ground.guard }], guard := some (3, true) }) (v := ?vc32) rfl (by as_aux_lemma => kernel_rfl) (by as_aux_lemma => kernel_rfl) (by as_aux_lemma => kernel_rfl) (fun _ _ _ h => h) (Or.inl ⟨(by as_aux_lemma => rfl), ?yc32⟩) (by assumption) ?rc32
            case yc32 =>
              intro w hSw
              (try dsimp only at hSw)
              go_simp
              (try with_reducible rfl)
            try simp only [Act.put, List.setIfInBounds_toArray, List.set_cons_zero, List.set_cons_succ]
            refine wpAnyH_take (i := 30) (oi := { dst := some 238, op := Op.pick (Operand.tmp 211) (Operand.tmp 237) (Operand.const (Value.bool false)), type := 4, pos := "laws.go:204", after := #[{ on := 3, ground := Ground.data }, { on := 29, ground := Ground.data }], guard := none }) (v := ?vc33) rfl (by as_aux_lemma => kernel_rfl) (by as_aux_lemma => kernel_rfl) (by as_aux_lemma => kernel_rfl) (fun _ _ _ h => h) (Or.inl ⟨(by as_aux_lemma => rfl), ?yc33⟩) (by assumption) ?rc33
            case yc33 =>
              intro w hSw
              (try dsimp only at hSw)
              go_simp
              (try with_reducible rfl)
            try simp only [Act.put, List.setIfInBounds_toArray, List.set_cons_zero, List.set_cons_succ]
            refine wpAnyH_done (by as_aux_lemma => kernel_rfl) ?ec7_27 _
            go_wp2_with fail
            go_meet
            case rel => exact ⟨rfl, bd⟩
        · have hcn : nm = capm := by omega
          have hdn2 : nm = d := by omega
          subst hcn
          subst hdn2
          have SD := Lib.hid (fun (W : World) (H : Nat) (h : Rt W 0 H (some ⟨gm, 0, none⟩) nm zm) => (by have h9 := h.drop hdn; rw [Nat.sub_self] at h9; exact ⟨h9.1, Nat.zero_le _, h9.2.2.1, fun h => absurd h (by omega)⟩ : Rt W 0 H (some ⟨gm, 0, none⟩) 0 (zm.drop nm)))
          have HS := Lib.hid (fun (w' : World) (kb : Below w14.heap.size w14 w') => (⟨(kb.cell btlt).trans bt_0, (kb.cell btlt).trans bt_1, (kb.cell btlt).trans bt_2, (kb.cell bmlt).trans bm_0, (kb.cell bmlt).trans bm_1⟩ : w'.cell? ⟨w6.heap.size, 0, none⟩ = some (.int .i64 0) ∧ w'.cell? ⟨w6.heap.size, 1, none⟩ = some (.int .i64 tt) ∧ w'.cell? ⟨w6.heap.size, 2, none⟩ = some (.slice G2 zs2.length cap2) ∧ w'.cell? ⟨w4.heap.size, 0, none⟩ = some (.int .i64 bs2) ∧ w'.cell? ⟨w4.heap.size, 1, none⟩ = some (.slice (some ⟨gm, 0, none⟩) nm nm)))
          try simp only [List.append_eq, List.cons_append, List.nil_append]
          refine wp_region_held_drew (S := fun w' => w'.cell? ⟨w6.heap.size, 0, none⟩ = some (.int .i64 0) ∧ w'.cell? ⟨w6.heap.size, 1, none⟩ = some (.int .i64 tt) ∧ w'.cell? ⟨w6.heap.size, 2, none⟩ = some (.slice G2 zs2.length cap2) ∧ w'.cell? ⟨w4.heap.size, 0, none⟩ = some (.int .i64 bs2) ∧ w'.cell? ⟨w4.heap.size, 1, none⟩ = some (.slice (some ⟨gm, 0, none⟩) nm nm)) (by kernel_rfl) ?sSe (fun hHeld0 => ?sRe)
          · first | exact HS.out _ bd | exact HS.out _ (bd.alloc szd _) | ((try dsimp only); go_keep)
          refine wpAnyH_take (i := 0) (oi := { dst := some 208, op := Op.fieldAddr 32 (Operand.tmp 10) 0, type := 0, pos := "laws.go:204", after := #[], guard := none }) (v := ?ve1) rfl (by as_aux_lemma => kernel_rfl) (by as_aux_lemma => kernel_rfl) (by as_aux_lemma => kernel_rfl) (fun _ _ _ h => h) (Or.inl ⟨(by as_aux_lemma => rfl), ?ye1⟩) (by assumption) ?re1
          case ye1 =>
            intro w hSw
            (try dsimp only at hSw)
            go_simp
            (try with_reducible rfl)
          try simp only [Act.put, List.setIfInBounds_toArray, List.set_cons_zero, List.set_cons_succ]
          refine wpAnyH_take (i := 1) (oi := { dst := some 209, op := Op.load 2 (Operand.tmp 208), type := 2, pos := "laws.go:204", after := #[{ on := 0, ground := Ground.data }], guard := none }) (v := ?ve2) rfl (by as_aux_lemma => kernel_rfl) (by as_aux_lemma => kernel_rfl) (by as_aux_lemma => kernel_rfl) (fun _ _ _ h => h) (Or.inl ⟨(by as_aux_lemma => rfl), ?ye2⟩) (by assumption) ?re2
          case ye2 =>
            intro w hSw
            (try dsimp only at hSw)
            go_simp
            (try with_reducible rfl)
          try simp only [Act.put, List.setIfInBounds_toArray, List.set_cons_zero, List.set_cons_succ]
          refine wpAnyH_take (i := 2) (oi := { dst := some 210, op := Op.binOp BinOp.eql 2 (Operand.tmp 209) (Operand.const (Value.int IntKind.i64 0)) 2, type := 4, pos := "laws.go:204", after := #[{ on := 1, ground := Ground.data }], guard := none }) (v := ?ve3) rfl (by as_aux_lemma => kernel_rfl) (by as_aux_lemma => kernel_rfl) (by as_aux_lemma => kernel_rfl) (fun _ _ _ h => h) (Or.inl ⟨(by as_aux_lemma => rfl), ?ye3⟩) (by assumption) ?re3
          case ye3 =>
            intro w hSw
            (try dsimp only at hSw)
            go_simp
            (try with_reducible rfl)
          try simp only [Act.put, List.setIfInBounds_toArray, List.set_cons_zero, List.set_cons_succ]
          refine wpAnyH_take (i := 3) (oi := { dst := some 211, op := Op.move (Operand.tmp 210), type := 4, pos := "laws.go:204", after := #[{ on := 2, ground := Ground.data }], guard := none }) (v := ?ve4) rfl (by as_aux_lemma => kernel_rfl) (by as_aux_lemma => kernel_rfl) (by as_aux_lemma => kernel_rfl) (fun _ _ _ h => h) (Or.inl ⟨(by as_aux_lemma => rfl), ?ye4⟩) (by assumption) ?re4
          case ye4 =>
            intro w hSw
            (try dsimp only at hSw)
            go_simp
            (try with_reducible rfl)
          try simp only [Act.put, List.setIfInBounds_toArray, List.set_cons_zero, List.set_cons_succ]
          refine wpAnyH_take (i := 4) (oi := { dst := some 212, op := Op.fieldAddr 32 (Operand.tmp 10) 1, type := 0, pos := "laws.go:204", after := #[{ on := 3, ground := Ground.guard }], guard := some (3, true) }) (v := ?ve5) rfl (by as_aux_lemma => kernel_rfl) (by as_aux_lemma => kernel_rfl) (by as_aux_lemma => kernel_rfl) (fun _ _ _ h => h) (Or.inl ⟨(by as_aux_lemma => rfl), ?ye5⟩) (by assumption) ?re5
          case ye5 =>
            intro w hSw
            (try dsimp only at hSw)
            go_simp
            (try with_reducible rfl)
          try simp only [Act.put, List.setIfInBounds_toArray, List.set_cons_zero, List.set_cons_succ]
          refine wpAnyH_take (i := 5) (oi := { dst := some 213, op := Op.load 26 (Operand.tmp 212), type := 26, pos := "laws.go:204", after := #[{ on := 4, ground := Ground.data }, { on := 3, ground := Ground.guard }], guard := some (3, true) }) (v := ?ve6) rfl (by as_aux_lemma => kernel_rfl) (by as_aux_lemma => kernel_rfl) (by as_aux_lemma => kernel_rfl) (fun _ _ _ h => h) (Or.inl ⟨(by as_aux_lemma => rfl), ?ye6⟩) (by assumption) ?re6
          case ye6 =>
            intro w hSw
            (try dsimp only at hSw)
            go_simp
            (try with_reducible rfl)
          try simp only [Act.put, List.setIfInBounds_toArray, List.set_cons_zero, List.set_cons_succ]
          refine wpAnyH_take (i := 6) (oi := { dst := some 214, op := Op.move (Operand.tmp 8), type := 2, pos := "laws.go:204", after := #[{ on := 3, ground := Ground.guard }], guard := some (3, true) }) (v := ?ve7) rfl (by as_aux_lemma => kernel_rfl) (by as_aux_lemma => kernel_rfl) (by as_aux_lemma => kernel_rfl) (fun _ _ _ h => h) (Or.inl ⟨(by as_aux_lemma => rfl), ?ye7⟩) (by assumption) ?re7
          case ye7 =>
            intro w hSw
            (try dsimp only at hSw)
            go_simp
            (try with_reducible rfl)
          try simp only [Act.put, List.setIfInBounds_toArray, List.set_cons_zero, List.set_cons_succ]
          refine wpAnyH_ready (rs := [7]) (by as_aux_lemma => kernel_rfl) (by simp) ?re8
          refine AllReadyH.cons (o := { dst := some 215, op := Op.call { callee := Callee.value (Operand.func 26), args := #[Operand.tmp 213, Operand.tmp 214], argTypes := #[26, 2] }, type := 2, pos := "laws.go:204", after := #[{ on := 5, ground := Ground.data }, { on := 6, ground := Ground.data }, { on := 3, ground := Ground.chain }, { on := 3, ground := Ground.guard }], guard := some (3, true) }) rfl (fun K hK => ?ke9) AllReadyH.nil
          go_simp
          (go_at_call 26; refine (int_at (implLogFault_any tt room2 G2 zs2.length cap2 _ zs2 _ st) E3.out).mono ?_; rintro e v ⟨rfl, hb⟩; have kx := Keep.of_below hb 0 0; have szx := hb.size; replace st := st.keep kx (by omega); replace sm := sm.keep kx (by omega); replace bd := bd.trans (hb.mono bd.size); have szd := bd.size)
          (try go_wp2_with fail)
          refine hK.out _ _ ?se9 (fun hHeld1 => ?te9)
          · first | exact HS.out _ bd | exact HS.out _ (bd.alloc szd _) | ((try dsimp only); go_keep)
          clear hK K hHeld0
          try simp only [Act.put, List.setIfInBounds_toArray, List.set_cons_zero, List.set_cons_succ]
          as_aux_lemma =>
           refine wpAnyH_take (i := 8) (oi := { dst := some 216, op := Op.binOp BinOp.neq 2 (Operand.tmp 215) (Operand.const (Value.int IntKind.i64 0)) 2, type := 4, pos := "laws.go:204", after := #[{ on := 7, ground := Ground.data }, { on := 3, ground := Ground.guard }], guard := some (3, true) }) (v := ?ve10) rfl (by as_aux_lemma => kernel_rfl) (by as_aux_lemma => kernel_rfl) (by as_aux_lemma => kernel_rfl) (fun _ _ _ h => h) (Or.inl ⟨(by as_aux_lemma => rfl), ?ye10⟩) (by assumption) ?re10
           case ye10 =>
             intro w hSw
             (try dsimp only at hSw)
             go_simp
             (try with_reducible rfl)
           try simp only [Act.put, List.setIfInBounds_toArray, List.set_cons_zero, List.set_cons_succ]
           refine wpAnyH_take (i := 9) (oi := { dst := some 217, op := Op.move (Operand.tmp 216), type := 4, pos := "laws.go:204", after := #[{ on := 8, ground := Ground.data }, { on := 7, ground := Ground.chain }, { on := 3, ground := Ground.guard }], guard := some (3, true) }) (v := ?ve11) rfl (by as_aux_lemma => kernel_rfl) (by as_aux_lemma => kernel_rfl) (by as_aux_lemma => kernel_rfl) (fun _ _ _ h => h) (Or.inl ⟨(by as_aux_lemma => rfl), ?ye11⟩) (by assumption) ?re11
           case ye11 =>
             intro w hSw
             (try dsimp only at hSw)
             go_simp
             (try with_reducible rfl)
           try simp only [Act.put, List.setIfInBounds_toArray, List.set_cons_zero, List.set_cons_succ]
           refine wpAnyH_take (i := 10) (oi := { dst := some 218, op := Op.fieldAddr 32 (Operand.tmp 10) 1, type := 0, pos := "laws.go:204", after := #[{ on := 9, ground := Ground.guard }], guard := some (9, false) }) (v := ?ve12) rfl (by as_aux_lemma => kernel_rfl) (by as_aux_lemma => kernel_rfl) (by as_aux_lemma => kernel_rfl) (fun _ _ _ h => h) (Or.inl ⟨(by as_aux_lemma => rfl), ?ye12⟩) (by assumption) ?re12
           case ye12 =>
             intro w hSw
             (try dsimp only at hSw)
             go_simp
             (try with_reducible rfl)
           try simp only [Act.put, List.setIfInBounds_toArray, List.set_cons_zero, List.set_cons_succ]
           refine wpAnyH_take (i := 11) (oi := { dst := some 219, op := Op.fieldAddr 26 (Operand.tmp 218) 0, type := 0, pos := "laws.go:204", after := #[{ on := 10, ground := Ground.data }, { on := 9, ground := Ground.guard }], guard := some (9, false) }) (v := ?ve13) rfl (by as_aux_lemma => kernel_rfl) (by as_aux_lemma => kernel_rfl) (by as_aux_lemma => kernel_rfl) (fun _ _ _ h => h) (Or.inl ⟨(by as_aux_lemma => rfl), ?ye13⟩) (by assumption) ?re13
           case ye13 =>
             intro w hSw
             (try dsimp only at hSw)
             go_simp
             (try with_reducible rfl)
           try simp only [Act.put, List.setIfInBounds_toArray, List.set_cons_zero, List.set_cons_succ]
           refine wpAnyH_take (i := 12) (oi := { dst := some 220, op := Op.load 2 (Operand.tmp 219), type := 2, pos := "laws.go:204", after := #[{ on := 11, ground := Ground.data }, { on := 9, ground := Ground.guard }], guard := some (9, false) }) (v := ?ve14) rfl (by as_aux_lemma => kernel_rfl) (by as_aux_lemma => kernel_rfl) (by as_aux_lemma => kernel_rfl) (fun _ _ _ h => h) (Or.inl ⟨(by as_aux_lemma => rfl), ?ye14⟩) (by assumption) ?re14
           case ye14 =>
             intro w hSw
             (try dsimp only at hSw)
             go_simp
             (try with_reducible rfl)
           try simp only [Act.put, List.setIfInBounds_toArray, List.set_cons_zero, List.set_cons_succ]
           refine wpAnyH_take (i := 13) (oi := { dst := some 221, op := Op.move (Operand.tmp 9), type := 2, pos := "laws.go:204", after := #[{ on := 9, ground := Ground.guard }], guard := some (9, false) }) (v := ?ve15) rfl (by as_aux_lemma => kernel_rfl) (by as_aux_lemma => kernel_rfl) (by as_aux_lemma => kernel_rfl) (fun _ _ _ h => h) (Or.inl ⟨(by as_aux_lemma => rfl), ?ye15⟩) (by assumption) ?re15
           case ye15 =>
             intro w hSw
             (try dsimp only at hSw)
             go_simp
             (try with_reducible rfl)
           try simp only [Act.put, List.setIfInBounds_toArray, List.set_cons_zero, List.set_cons_succ]
           refine wpAnyH_take (i := 14) (oi := { dst := some 222, op := Op.binOp BinOp.neq 2 (Operand.tmp 220) (Operand.tmp 221) 2, type := 4, pos := "laws.go:204", after := #[{ on := 12, ground := Ground.data }, { on := 13, ground := Ground.data }, { on := 9, ground := Ground.guard }], guard := some (9, false) }) (v := ?ve16) rfl (by as_aux_lemma => kernel_rfl) (by as_aux_lemma => kernel_rfl) (by as_aux_lemma => kernel_rfl) (fun _ _ _ h => h) (Or.inl ⟨(by as_aux_lemma => rfl), ?ye16⟩) (by assumption) ?re16
           case ye16 =>
             intro w hSw
             (try dsimp only at hSw)
             go_simp
             (try with_reducible rfl)
           try simp only [Act.put, List.setIfInBounds_toArray, List.set_cons_zero, List.set_cons_succ]
           refine wpAnyH_take (i := 15) (oi := { dst := some 223, op := Op.pick (Operand.tmp 217) (Operand.const (Value.bool true)) (Operand.tmp 222), type := 4, pos := "laws.go:204", after := #[{ on := 9, ground := Ground.data }, { on := 14, ground := Ground.data }, { on := 3, ground := Ground.guard }], guard := some (3, true) }) (v := ?ve17) rfl (by as_aux_lemma => kernel_rfl) (by as_aux_lemma => kernel_rfl) (by as_aux_lemma => kernel_rfl) (fun _ _ _ h => h) (Or.inl ⟨(by as_aux_lemma => rfl), ?ye17⟩) (by assumption) ?re17
           case ye17 =>
             intro w hSw
             (try dsimp only at hSw)
             go_simp
             (try with_reducible rfl)
           try simp only [Act.put, List.setIfInBounds_toArray, List.set_cons_zero, List.set_cons_succ]
           refine wpAnyH_take (i := 16) (oi := { dst := some 224, op := Op.move (Operand.tmp 223), type := 4, pos := "laws.go:204", after := #[{ on := 15, ground := Ground.data }, { on := 9, ground := Ground.chain }, { on := 3, ground := Ground.guard }], guard := some (3, true) }) (v := ?ve18) rfl (by as_aux_lemma => kernel_rfl) (by as_aux_lemma => kernel_rfl) (by as_aux_lemma => kernel_rfl) (fun _ _ _ h => h) (Or.inl ⟨(by as_aux_lemma => rfl), ?ye18⟩) (by assumption) ?re18
           case ye18 =>
             intro w hSw
             (try dsimp only at hSw)
             go_simp
             (try with_reducible rfl)
           try simp only [Act.put, List.setIfInBounds_toArray, List.set_cons_zero, List.set_cons_succ]
           refine wpAnyH_take (i := 17) (oi := { dst := some 225, op := Op.fieldAddr 32 (Operand.tmp 10) 1, type := 0, pos := "laws.go:204", after := #[{ on := 16, ground := Ground.guard }], guard := some (16, false) }) (v := ?ve19) rfl (by as_aux_lemma => kernel_rfl) (by as_aux_lemma => kernel_rfl) (by as_aux_lemma => kernel_rfl) (fun _ _ _ h => h) (Or.inl ⟨(by as_aux_lemma => rfl), ?ye19⟩) (by assumption) ?re19
           case ye19 =>
             intro w hSw
             (try dsimp only at hSw)
             go_simp
             (try with_reducible rfl)
           try simp only [Act.put, List.setIfInBounds_toArray, List.set_cons_zero, List.set_cons_succ]
           refine wpAnyH_take (i := 18) (oi := { dst := some 226, op := Op.fieldAddr 26 (Operand.tmp 225) 1, type := 0, pos := "laws.go:204", after := #[{ on := 17, ground := Ground.data }, { on := 16, ground := Ground.guard }], guard := some (16, false) }) (v := ?ve20) rfl (by as_aux_lemma => kernel_rfl) (by as_aux_lemma => kernel_rfl) (by as_aux_lemma => kernel_rfl) (fun _ _ _ h => h) (Or.inl ⟨(by as_aux_lemma => rfl), ?ye20⟩) (by assumption) ?re20
           case ye20 =>
             intro w hSw
             (try dsimp only at hSw)
             go_simp
             (try with_reducible rfl)
           try simp only [Act.put, List.setIfInBounds_toArray, List.set_cons_zero, List.set_cons_succ]
           refine wpAnyH_take (i := 19) (oi := { dst := some 227, op := Op.load 24 (Operand.tmp 226), type := 24, pos := "laws.go:204", after := #[{ on := 18, ground := Ground.data }, { on := 16, ground := Ground.guard }], guard := some (16, false) }) (v := ?ve21) rfl (by as_aux_lemma => kernel_rfl) (by as_aux_lemma => kernel_rfl) (by as_aux_lemma => kernel_rfl) (fun _ _ _ h => h) (Or.inl ⟨(by as_aux_lemma => rfl), ?ye21⟩) (by assumption) ?re21
           case ye21 =>
             intro w hSw
             (try dsimp only at hSw)
             go_simp
             (try with_reducible rfl)
           try simp only [Act.put, List.setIfInBounds_toArray, List.set_cons_zero, List.set_cons_succ]
           refine wpAnyH_take (i := 20) (oi := { dst := some 228, op := Op.fieldAddr 26 (Operand.tmp 7) 1, type := 0, pos := "laws.go:204", after := #[{ on := 16, ground := Ground.guard }], guard := some (16, false) }) (v := ?ve22) rfl (by as_aux_lemma => kernel_rfl) (by as_aux_lemma => kernel_rfl) (by as_aux_lemma => kernel_rfl) (fun _ _ _ h => h) (Or.inl ⟨(by as_aux_lemma => rfl), ?ye22⟩) (by assumption) ?re22
           case ye22 =>
             intro w hSw
             (try dsimp only at hSw)
             go_simp
             (try with_reducible rfl)
           try simp only [Act.put, List.setIfInBounds_toArray, List.set_cons_zero, List.set_cons_succ]
           refine wpAnyH_take (i := 21) (oi := { dst := some 229, op := Op.load 24 (Operand.tmp 228), type := 24, pos := "laws.go:204", after := #[{ on := 20, ground := Ground.data }, { on := 16, ground := Ground.guard }], guard := some (16, false) }) (v := ?ve23) rfl (by as_aux_lemma => kernel_rfl) (by as_aux_lemma => kernel_rfl) (by as_aux_lemma => kernel_rfl) (fun _ _ _ h => h) (Or.inl ⟨(by as_aux_lemma => rfl), ?ye23⟩) (by assumption) ?re23
           case ye23 =>
             intro w hSw
             (try dsimp only at hSw)
             go_simp
             (try with_reducible rfl)
           try simp only [Act.put, List.setIfInBounds_toArray, List.set_cons_zero, List.set_cons_succ]
           refine wpAnyH_take (i := 22) (oi := { dst := some 230, op := Op.move (Operand.tmp 9), type := 2, pos := "laws.go:204", after := #[{ on := 16, ground := Ground.guard }], guard := some (16, false) }) (v := ?ve24) rfl (by as_aux_lemma => kernel_rfl) (by as_aux_lemma => kernel_rfl) (by as_aux_lemma => kernel_rfl) (fun _ _ _ h => h) (Or.inl ⟨(by as_aux_lemma => rfl), ?ye24⟩) (by assumption) ?re24
           case ye24 =>
             intro w hSw
             (try dsimp only at hSw)
             go_simp
             (try with_reducible rfl)
           try simp only [Act.put, List.setIfInBounds_toArray, List.set_cons_zero, List.set_cons_succ]
           refine wpAnyH_take (i := 23) (oi := { dst := some 231, op := Op.fieldAddr 26 (Operand.tmp 7) 0, type := 0, pos := "laws.go:204", after := #[{ on := 16, ground := Ground.guard }], guard := some (16, false) }) (v := ?ve25) rfl (by as_aux_lemma => kernel_rfl) (by as_aux_lemma => kernel_rfl) (by as_aux_lemma => kernel_rfl) (fun _ _ _ h => h) (Or.inl ⟨(by as_aux_lemma => rfl), ?ye25⟩) (by assumption) ?re25
           case ye25 =>
             intro w hSw
             (try dsimp only at hSw)
             go_simp
             (try with_reducible rfl)
           try simp only [Act.put, List.setIfInBounds_toArray, List.set_cons_zero, List.set_cons_succ]
           refine wpAnyH_take (i := 24) (oi := { dst := some 232, op := Op.load 2 (Operand.tmp 231), type := 2, pos := "laws.go:204", after := #[{ on := 23, ground := Ground.data }, { on := 16, ground := Ground.guard }], guard := some (16, false) }) (v := ?ve26) rfl (by as_aux_lemma => kernel_rfl) (by as_aux_lemma => kernel_rfl) (by as_aux_lemma => kernel_rfl) (fun _ _ _ h => h) (Or.inl ⟨(by as_aux_lemma => rfl), ?ye26⟩) (by assumption) ?re26
           case ye26 =>
             intro w hSw
             (try dsimp only at hSw)
             go_simp
             (try with_reducible rfl)
           try simp only [Act.put, List.setIfInBounds_toArray, List.set_cons_zero, List.set_cons_succ]
           refine wpAnyH_take (i := 25) (oi := { dst := some 233, op := Op.binOp BinOp.sub 2 (Operand.tmp 230) (Operand.tmp 232) 2, type := 2, pos := "laws.go:204", after := #[{ on := 22, ground := Ground.data }, { on := 24, ground := Ground.data }, { on := 16, ground := Ground.guard }], guard := some (16, false) }) (v := ?ve27) rfl (by as_aux_lemma => kernel_rfl) (by as_aux_lemma => kernel_rfl) (by as_aux_lemma => kernel_rfl) (fun _ _ _ h => h) (Or.inl ⟨(by as_aux_lemma => rfl), ?ye27⟩) (by assumption) ?re27
           case ye27 =>
             intro w hSw
             (try dsimp only at hSw)
             go_simp
             (try with_reducible rfl)
           try simp only [Act.put, List.setIfInBounds_toArray, List.set_cons_zero, List.set_cons_succ]
           refine wpAnyH_take (i := 26) (oi := { dst := some 234, op := Op.slice 24 (Operand.tmp 229) (some (Operand.tmp 233)) none none, type := 24, pos := "laws.go:204", after := #[{ on := 21, ground := Ground.data }, { on := 25, ground := Ground.data }, { on := 16, ground := Ground.guard }], guard := some (16, false) }) (v := ?ve28) rfl (by as_aux_lemma => kernel_rfl) (by as_aux_lemma => kernel_rfl) (by as_aux_lemma => kernel_rfl) (fun _ _ _ h => h) (Or.inl ⟨(by as_aux_lemma => rfl), ?ye28⟩) (by assumption) ?re28
           case ye28 =>
             intro w hSw
             (try dsimp only at hSw)
             go_simp
             (try with_reducible rfl)
           try simp only [Act.put, List.setIfInBounds_toArray, List.set_cons_zero, List.set_cons_succ]
           refine wpAnyH_ready (rs := [27]) (by as_aux_lemma => kernel_rfl) (by simp) ?re29
           refine AllReadyH.cons (o := { dst := some 235, op := Op.call { callee := Callee.value (Operand.func 20), args := #[Operand.tmp 227, Operand.tmp 234], argTypes := #[24, 24] }, type := 4, pos := "laws.go:204", after := #[{ on := 19, ground := Ground.data }, { on := 26, ground := Ground.data }, { on := 16, ground := Ground.chain }, { on := 16, ground := Ground.guard }], guard := some (16, false) }) rfl (fun K hK => ?ke30) AllReadyH.nil
           go_simp
           (go_at_call 20; refine (implSameItems_any G2 (some ⟨gm, 0, none⟩) zs2.length cap2 0 _ _ _ zs2 (zm.drop nm) _ true st (SD.out _ _ sm) EE.out).mono ?_; rintro e v ⟨rfl, hb⟩; have kx := Keep.of_below hb 0 0; have szx := hb.size; replace st := st.keep kx (by omega); replace sm := sm.keep kx (by omega); replace bd := bd.trans (hb.mono bd.size); have szd := bd.size)
           (try go_wp2_with fail)
           refine hK.out _ _ ?se30 (fun hHeld2 => ?te30)
           · first | exact HS.out _ bd | exact HS.out _ (bd.alloc szd _) | ((try dsimp only); go_keep)
           clear hK K hHeld1
           try simp only [Act.put, List.setIfInBounds_toArray, List.set_cons_zero, List.set_cons_succ]
           as_aux_lemma =>
            refine wpAnyH_take (i := 28) (oi := { dst := some 236, op := Op.unOp UnOp.not 4 (Operand.tmp 235), type := 4, pos := "laws.go:204", after := #[{ on := 27, ground := Ground.data }, { on := 16, ground := Ground.guard }], guard := some (16, false) }) (v := ?ve31) rfl (by as_aux_lemma => kernel_rfl) (by as_aux_lemma => kernel_rfl) (by as_aux_lemma => kernel_rfl) (fun _ _ _ h => h) (Or.inl ⟨(by as_aux_lemma => rfl), ?ye31⟩) (by assumption) ?re31
            case ye31 =>
              intro w hSw
              (try dsimp only at hSw)
              go_simp
              (try with_reducible rfl)
            try simp only [Act.put, List.setIfInBounds_toArray, List.set_cons_zero, List.set_cons_succ]
            refine wpAnyH_take (i := 29) (oi := { dst := some 237, op := Op.pick (Operand.tmp 224) (Operand.const (Value.bool true)) (Operand.tmp 236), type := 4, pos := "laws.go:204", after := #[{ on := 16, ground := Ground.data }, { on := 28, ground := Ground.data }, { on := 3, ground := Ground.guard }], guard := some (3, true) }) (v := ?ve32) rfl (by as_aux_lemma => kernel_rfl) (by as_aux_lemma => kernel_rfl) (by as_aux_lemma => kernel_rfl) (fun _ _ _ h => h) (Or.inl ⟨(by as_aux_lemma => rfl), ?ye32⟩) (by assumption) ?re32
            case ye32 =>
              intro w hSw
              (try dsimp only at hSw)
              go_simp
              (try with_reducible rfl)
            try simp only [Act.put, List.setIfInBounds_toArray, List.set_cons_zero, List.set_cons_succ]
            refine wpAnyH_take (i := 30) (oi := { dst := some 238, op := Op.pick (Operand.tmp 211) (Operand.tmp 237) (Operand.const (Value.bool false)), type := 4, pos := "laws.go:204", after := #[{ on := 3, ground := Ground.data }, { on := 29, ground := Ground.data }], guard := none }) (v := ?ve33) rfl (by as_aux_lemma => kernel_rfl) (by as_aux_lemma => kernel_rfl) (by as_aux_lemma => kernel_rfl) (fun _ _ _ h => h) (Or.inl ⟨(by as_aux_lemma => rfl), ?ye33⟩) (by assumption) ?re33
            case ye33 =>
              intro w hSw
              (try dsimp only at hSw)
              go_simp
              (try with_reducible rfl)
            try simp only [Act.put, List.setIfInBounds_toArray, List.set_cons_zero, List.set_cons_succ]
            refine wpAnyH_done (by as_aux_lemma => kernel_rfl) ?ee7_27 _
            go_wp2_with fail
            go_meet
            case rel => exact ⟨rfl, bd⟩
      · have hcb : (cc2 == 0) = false := by simp [hc0]
        go_quiet (fail)
        go_wp2_with fail
        go_meet
        case rel => exact ⟨rfl, ⟨rfl, rfl, rfl, Nat.le_refl _, fun _ _ => rfl⟩⟩
  case rest =>
  obtain ⟨rfl, hb15⟩ := hcut
  have hk15 := Keep.of_below hb15 0 0
  have hz15 := hb15.size
  replace h := h.keep hk15 (by omega)
  replace rl := rl.keep hk15 (by omega)
  replace rx := rx.keep hk15 (by omega)
  replace bl := bl.keep hk15 (by omega)
  replace bi := bi.keep hk15 (by omega)
  replace za := za.keep hk15 (by omega)
  replace ba := ba.keep hk15 (by omega)
  replace rm := rm.keep hk15 (by omega)
  replace bm := bm.keep hk15 (by omega)
  replace zt := zt.keep hk15 (by omega)
  replace bt := bt.keep hk15 (by omega)
  replace ra := ra.keep hk15 (by omega)
  replace z3 := z3.keep hk15 (by omega)
  replace bs_ := bs_.keep hk15 (by omega)
  replace bb := bb.trans (hk15.below (by omega) bb.size)
  clear hb15 hk15
  generalize hwc15 : wc = w15 at *
  clear hwc15
  have hlast : cc3 ≠ 0 ∨ cc3 = 0 := by omega
  rcases hlast with hc3 | hc3
  · have hcb : (cc3 != 0) = true := by simp [hc3]
    have bsc0 := bs_.2.1
    have bsc1 := bs_.2.2
    go_wp2_with fail
    go_ret
    exact ⟨rfl, bb⟩
  obtain ⟨hl100, _⟩ := atoms_ok (HCC3.out.trans hc3) 0
  have hral := ra.len
  subst hc3
  have bs_c0 := bs_.2.1
  have bs_c1 := bs_.2.2
  go_wp2_with fail
  clear bs_c0 bs_c1
  refine (lwAt2_any A n c _ _ xs ((na : Int) + 1) w15 h (by omega)).mono ?_
  rintro e w16 ⟨cut, rfl, hcut, hk16⟩
  have hz16 := hk16.size
  replace h := h.keep hk16 (by omega)
  replace rl := rl.keep hk16 (by omega)
  replace rx := rx.keep hk16 (by omega)
  replace bl := bl.keep hk16 (by omega)
  replace bi := bi.keep hk16 (by omega)
  replace za := za.keep hk16 (by omega)
  replace ba := ba.keep hk16 (by omega)
  replace rm := rm.keep hk16 (by omega)
  replace bm := bm.keep hk16 (by omega)
  replace zt := zt.keep hk16 (by omega)
  replace bt := bt.keep hk16 (by omega)
  replace ra := ra.keep hk16 (by omega)
  replace z3 := z3.keep hk16 (by omega)
  replace bs_ := bs_.keep hk16 (by omega)
  replace bb := bb.trans (hk16.below (by omega) bb.size)
  clear hk16
  obtain ⟨ct, rfl⟩ := Int.eq_ofNat_of_zero_le hcut.1
  have hct : ct ≤ na := by omega
  go_upto_region 20 with fail
  go_cut [2] from 247 to 262 (fun sv wx => sv = .bool true ∧ Below w16.heap.size w16 wx)
  case first =>
    as_aux_lemma =>
      have kd : Keep 0 0 w16 w16.drew := ⟨rfl, rfl, rfl, Nat.le_refl _, fun _ _ _ => rfl⟩
      have bd : Below w16.heap.size w16 w16.drew := ⟨rfl, rfl, rfl, Nat.le_refl _, fun _ _ => rfl⟩
      have szd : w16.heap.size ≤ w16.drew.heap.size := Nat.le_refl _
      have hbl : w9.heap.size < w16.heap.size := bs_.1
      have ka0 := (Keep.refl 0 0 w16).alloc (.cells #[] 94)
      have ka : Keep 0 0 w16 (w16.alloc (.cells #[] 94)).drew := ⟨ka0.os, ka0.tape, ka0.output, ka0.size, ka0.block⟩
      have s3 := (z3.1.wide (lo' := 0) (Nat.zero_le _) (by omega) (Nat.le_refl _)).keep kd (by omega)
      have s3z := (z3.1.wide (lo' := 0) (Nat.zero_le _) (by omega) (Nat.le_refl _)).keep ka (by omega)
      have b1 : w16.drew.cell? ⟨w9.heap.size, 1, none⟩ = some (.slice G3 mm cap3) := bs_.2.2
      have b1z := (ka0.cell (p := ⟨w9.heap.size, 1, none⟩) hbl (by show w9.heap.size < 0 ∨ 0 ≤ w9.heap.size; omega)).trans bs_.2.2
      have zz : (w16.alloc (.cells #[] 94)).drew.heap.size = w16.heap.size + 1 := by simp
      have bdz : Below w16.heap.size w16 (w16.alloc (.cells #[] 94)).drew := ka.below (by omega) (Nat.le_refl _)
      have hE : OwnA (w16.alloc (.cells #[] 94)).drew w16.heap.size (some ⟨w16.heap.size, 0, none⟩) 0 0 [] := ⟨(World.ownsRow_lit w16 #[] 0 (Nat.le_refl _) (Nat.zero_le _) rfl : (w16.alloc (.cells #[] 94)).ownsRow _ _ 3 _ 0 []), Nat.zero_le _, fun x hx => by simp at hx⟩
      obtain ⟨_, k1, k2, k3⟩ := atoms_ok HCC3.out ct
      obtain ⟨q1, hq1⟩ : ∃ q, atomsOut (la.take ct) = q := ⟨_, rfl⟩
      obtain ⟨q2, hq2⟩ : ∃ q, atomsOut (la.drop ct) = q := ⟨_, rfl⟩
      obtain ⟨m1, hm1, hx1⟩ := atomsOut_three (la.take ct)
      obtain ⟨m2, hm2, hx2⟩ := atomsOut_three (la.drop ct)
      rw [hq1] at hm1 k3
      rw [hq2] at hm2 k3
      rw [HZS3.out] at k3
      have hm1b : m1 ≤ 1000 := m_small hm1 hq1 k1
      have hm2b : m2 ≤ 1000 := m_small hm2 hq2 k2
      have EQ := Lib.hid k3
      have sr := (ra.wide (lo' := 0) (hi' := w16.heap.size) (Nat.zero_le _) ra.top (Nat.le_refl _)).keep kd (by omega)
      have srz := (ra.wide (lo' := 0) (hi' := w16.heap.size) (Nat.zero_le _) ra.top (Nat.le_refl _)).keep ka (by omega)
      have HC1 := Lib.hid (fun (W : World) (hW : W = w16.drew ∨ W = (w16.alloc (.cells #[] 94)).drew) => (by
        have PW : Rt W 0 w16.heap.size (some ⟨ga, 0, none⟩) na la ∧ Ri W 0 w16.heap.size G3 (mm * 3) zs3 ∧ W.cell? ⟨w9.heap.size, 1, none⟩ = some (.slice G3 mm cap3) ∧ Below w16.heap.size w16 W := by
          rcases hW with rfl | rfl
          · exact ⟨sr, s3, b1, bd⟩
          · exact ⟨srz, s3z, b1z, bdz⟩
        obtain ⟨p1, p2, p3, p4⟩ := PW
        have p5 := p4.size
        refine (ao_atc (implAtoms_c (some ⟨ga, 0, none⟩) ct capa _ (la.take ct) W (p1.take_ ct hct)) k1 hq1 hm1).mono ?_
        rintro e v1 ⟨G1, c1, rfl, u1, gz1, hb1⟩
        have kx := Keep.of_below hb1 0 0
        have zv := hb1.size
        exact ⟨G1, c1, rfl, u1.wide p5 (Nat.le_refl _) (Nat.le_refl _), gz1, p1.keep kx (by omega), p2.keep kx (by omega), (kx.cell (p := ⟨w9.heap.size, 1, none⟩) (by show w9.heap.size < _; omega) (by show w9.heap.size < 0 ∨ 0 ≤ w9.heap.size; omega)).trans p3, p4.trans (hb1.mono p5), kx⟩ :
        Calls Try.prog 16 #[.slice (some ⟨ga, 0, none⟩) ct capa] W (fun e v1 => ∃ G1 c1, e = .returned (.agg #[.int .i64 0, .slice G1 m1 c1]) ∧ Wi v1 w16.heap.size v1.heap.size G1 (m1 * 3) q1 ∧ (G1 = none → c1 = 0) ∧ Rt v1 0 w16.heap.size (some ⟨ga, 0, none⟩) na la ∧ Ri v1 0 w16.heap.size G3 (mm * 3) zs3 ∧ v1.cell? ⟨w9.heap.size, 1, none⟩ = some (.slice G3 mm cap3) ∧ Below w16.heap.size w16 v1 ∧ Keep 0 0 W v1)))
      have g1 : (0 : Int) ≤ (ct : Int) := by omega
      have g2 : (ct : Int) ≤ (na : Int) := by omega
      have g3 : (ct : Int) ≤ (capa : Int) := by omega
      obtain ⟨I0, hii, iz0, iz1, iz2⟩ := info_parts info_atom
      have f5 : ∀ (m : Int) (G : Option Addr) (n c : Nat) (w : World), (Instr.field 40 (.agg #[.int .i64 m, .slice G n c]) 1).run Try.prog w = .ok (.slice G n c) w := fun _ _ _ _ _ => by kernel_rfl
      by_cases hdc : ct < capa
      · have hne : ¬ capa = ct := by omega
        have HC2 := Lib.hid (fun (hi : Nat) (W : World) (h : Rt W 0 hi (some ⟨ga, 0, none⟩) na la) => ao_atc (implAtoms_c (some ⟨ga, ct * 4, none⟩) (na - ct) (capa - ct) hi (la.drop ct) W (by have h9 := h.drop (d := ct) hct; rwa [Nat.zero_add] at h9)) k2 hq2 hm2)
        clear h ra z3 bb bs_ kd ka ka0
        try simp only [List.append_eq, List.cons_append, List.nil_append]
        refine wp_region_held_drew (S := fun w' => w'.cell? ⟨w9.heap.size, 1, none⟩ = some (.slice G3 mm cap3)) (by kernel_rfl) ?sSd1 (fun hHeld0 => ?sRd1)
        · first | assumption | ((try dsimp only); first | assumption | go_keep)
        refine wpAnyH_take (i := 1) (oi := { dst := some 248, op := Op.move (Operand.tmp 11), type := 24, pos := "laws.go:211", after := #[], guard := none }) (v := ?vd11) rfl (by as_aux_lemma => kernel_rfl) (by as_aux_lemma => kernel_rfl) (by as_aux_lemma => kernel_rfl) (fun _ _ _ h => h) (Or.inl ⟨(by as_aux_lemma => rfl), ?yd11⟩) (by assumption) ?rd11
        case yd11 =>
          intro w hSw
          (try dsimp only at hSw)
          go_simp
          (try with_reducible rfl)
        try simp only [Act.put, List.setIfInBounds_toArray, List.set_cons_zero, List.set_cons_succ]
        refine wpAnyH_take (i := 2) (oi := { dst := some 249, op := Op.move (Operand.tmp 17), type := 2, pos := "laws.go:211", after := #[], guard := none }) (v := ?vd12) rfl (by as_aux_lemma => kernel_rfl) (by as_aux_lemma => kernel_rfl) (by as_aux_lemma => kernel_rfl) (fun _ _ _ h => h) (Or.inl ⟨(by as_aux_lemma => rfl), ?yd12⟩) (by assumption) ?rd12
        case yd12 =>
          intro w hSw
          (try dsimp only at hSw)
          go_simp
          (try with_reducible rfl)
        try simp only [Act.put, List.setIfInBounds_toArray, List.set_cons_zero, List.set_cons_succ]
        refine wpAnyH_take (i := 3) (oi := { dst := some 250, op := Op.slice 24 (Operand.tmp 248) none (some (Operand.tmp 249)) none, type := 24, pos := "laws.go:211", after := #[{ on := 1, ground := Ground.data }, { on := 2, ground := Ground.data }], guard := none }) (v := ?vd13) rfl (by as_aux_lemma => kernel_rfl) (by as_aux_lemma => kernel_rfl) (by as_aux_lemma => kernel_rfl) (fun _ _ _ h => h) (Or.inl ⟨(by as_aux_lemma => rfl), ?yd13⟩) (by assumption) ?rd13
        case yd13 =>
          intro w hSw
          (try dsimp only at hSw)
          go_simp
          (try with_reducible rfl)
        try simp only [Act.put, List.setIfInBounds_toArray, List.set_cons_zero, List.set_cons_succ]
        refine wpAnyH_take (i := 7) (oi := { dst := some 254, op := Op.move (Operand.tmp 11), type := 24, pos := "laws.go:211", after := #[], guard := none }) (v := ?vd14) rfl (by as_aux_lemma => kernel_rfl) (by as_aux_lemma => kernel_rfl) (by as_aux_lemma => kernel_rfl) (fun _ _ _ h => h) (Or.inl ⟨(by as_aux_lemma => rfl), ?yd14⟩) (by assumption) ?rd14
        case yd14 =>
          intro w hSw
          (try dsimp only at hSw)
          go_simp
          (try with_reducible rfl)
        try simp only [Act.put, List.setIfInBounds_toArray, List.set_cons_zero, List.set_cons_succ]
        refine wpAnyH_take (i := 8) (oi := { dst := some 255, op := Op.move (Operand.tmp 17), type := 2, pos := "laws.go:211", after := #[], guard := none }) (v := ?vd15) rfl (by as_aux_lemma => kernel_rfl) (by as_aux_lemma => kernel_rfl) (by as_aux_lemma => kernel_rfl) (fun _ _ _ h => h) (Or.inl ⟨(by as_aux_lemma => rfl), ?yd15⟩) (by assumption) ?rd15
        case yd15 =>
          intro w hSw
          (try dsimp only at hSw)
          go_simp
          (try with_reducible rfl)
        try simp only [Act.put, List.setIfInBounds_toArray, List.set_cons_zero, List.set_cons_succ]
        refine wpAnyH_take (i := 9) (oi := { dst := some 256, op := Op.slice 24 (Operand.tmp 254) (some (Operand.tmp 255)) none none, type := 24, pos := "laws.go:211", after := #[{ on := 7, ground := Ground.data }, { on := 8, ground := Ground.data }], guard := none }) (v := ?vd16) rfl (by as_aux_lemma => kernel_rfl) (by as_aux_lemma => kernel_rfl) (by as_aux_lemma => kernel_rfl) (fun _ _ _ h => h) (Or.inl ⟨(by as_aux_lemma => rfl), ?yd16⟩) (by assumption) ?rd16
        case yd16 =>
          intro w hSw
          (try dsimp only at hSw)
          go_simp
          (try with_reducible rfl)
        try simp only [Act.put, List.setIfInBounds_toArray, List.set_cons_zero, List.set_cons_succ]
        refine wpAnyH_take (i := 13) (oi := { dst := some 260, op := Op.fieldAddr 40 (Operand.tmp 12) 1, type := 0, pos := "laws.go:211", after := #[], guard := none }) (v := ?vd17) rfl (by as_aux_lemma => kernel_rfl) (by as_aux_lemma => kernel_rfl) (by as_aux_lemma => kernel_rfl) (fun _ _ _ h => h) (Or.inl ⟨(by as_aux_lemma => rfl), ?yd17⟩) (by assumption) ?rd17
        case yd17 =>
          intro w hSw
          (try dsimp only at hSw)
          go_simp
          (try with_reducible rfl)
        try simp only [Act.put, List.setIfInBounds_toArray, List.set_cons_zero, List.set_cons_succ]
        refine wpAnyH_take (i := 14) (oi := { dst := some 261, op := Op.load 38 (Operand.tmp 260), type := 38, pos := "laws.go:211", after := #[{ on := 13, ground := Ground.data }], guard := none }) (v := ?vd18) rfl (by as_aux_lemma => kernel_rfl) (by as_aux_lemma => kernel_rfl) (by as_aux_lemma => kernel_rfl) (fun _ _ _ h => h) (Or.inl ⟨(by as_aux_lemma => rfl), ?yd18⟩) (by assumption) ?rd18
        case yd18 =>
          intro w hSw
          (try dsimp only at hSw)
          go_simp
          (try with_reducible rfl)
        try simp only [Act.put, List.setIfInBounds_toArray, List.set_cons_zero, List.set_cons_succ]
        refine wpAnyH_ready (rs := [0, 4]) (by as_aux_lemma => kernel_rfl) (by simp) ?rd19
        refine AllReadyH.cons (o := { dst := some 247, op := Op.buildSlice 38 0 #[], type := 38, pos := "laws.go:211", after := #[], guard := none }) rfl (fun K hK => ?kd110) ?md110
        case kd110 =>
          go_simp
          refine hK.out _ _ ?sd110 (fun hHeld1 => ?td110)
          · first | assumption | ((try dsimp only); first | assumption | go_keep)
          clear hK K hHeld0
          try simp only [Act.put, List.setIfInBounds_toArray, List.set_cons_zero, List.set_cons_succ]
          as_aux_lemma =>
           refine wpAnyH_ready (rs := [4]) (by as_aux_lemma => kernel_rfl) (by simp) ?rd111
           refine AllReadyH.cons (o := { dst := some 251, op := Op.call { callee := Callee.value (Operand.func 16), args := #[Operand.tmp 250], argTypes := #[24] }, type := 40, pos := "laws.go:211", after := #[{ on := 3, ground := Ground.data }], guard := none }) rfl (fun K hK => ?kd112) AllReadyH.nil
           (have hg := HC1; clear hg; (try go_simp); go_at_call 16; refine (HC1.out _ (by first | exact Or.inl rfl | exact Or.inr rfl)).mono ?_; rintro e v1 ⟨G1, c1, rfl, u1, gz1, sr1, s31, b1v, bd1, kx⟩; clear HC1; have zw1 : w16.heap.size ≤ v1.heap.size := bd1.size; have kz := (Keep.refl 0 0 v1).alloc (.cells #[] 94); have zz1 := kz.size; have b1vz := (kz.cell (p := ⟨w9.heap.size, 1, none⟩) (by show w9.heap.size < _; omega) (by first | (show w9.heap.size < 0 ∨ 0 ≤ w9.heap.size; omega) | (show w9.heap.size < w16.heap.size ∨ w16.heap.size + 1 ≤ w9.heap.size; omega) | (show w9.heap.size < v1.heap.size ∨ v1.heap.size + 1 ≤ w9.heap.size; omega) | (show w9.heap.size < g6 ∨ g6 + 1 ≤ w9.heap.size; omega))).trans b1v; have u1z := u1.keep kz (by omega))
           (try go_wp2_with fail)
           refine hK.out _ _ ?sd112 (fun hHeld2 => ?td112)
           · first | assumption | ((try dsimp only); first | assumption | go_keep)
           clear hK K hHeld1
           try simp only [Act.put, List.setIfInBounds_toArray, List.set_cons_zero, List.set_cons_succ]
           as_aux_lemma =>
            refine wpAnyH_take (i := 5) (oi := { dst := some 252, op := Op.field 40 (Operand.tmp 251) 1, type := 38, pos := "laws.go:211", after := #[{ on := 4, ground := Ground.data }], guard := none }) (v := ?vd113) rfl (by as_aux_lemma => kernel_rfl) (by as_aux_lemma => kernel_rfl) (by as_aux_lemma => kernel_rfl) (fun _ _ _ h => h) (Or.inl ⟨(by as_aux_lemma => rfl), ?yd113⟩) (by assumption) ?rd113
            case yd113 =>
              intro w hSw
              (try dsimp only at hSw)
              go_simp
              (try with_reducible rfl)
            try simp only [Act.put, List.setIfInBounds_toArray, List.set_cons_zero, List.set_cons_succ]
            refine wpAnyH_ready (rs := [6]) (by as_aux_lemma => kernel_rfl) (by simp) ?rd114
            refine AllReadyH.cons (o := { dst := some 253, op := Op.call { callee := Callee.builtin Builtin.append, args := #[Operand.tmp 247, Operand.tmp 252], argTypes := #[38, 38] }, type := 38, pos := "laws.go:211", after := #[{ on := 0, ground := Ground.data }, { on := 5, ground := Ground.data }, { on := 4, ground := Ground.chain }], guard := none }) rfl (fun K hK => ?kd115) AllReadyH.nil
            (have hg := gz1; clear hg; refine step_append_atoms (by rfl) (.tmp 247) (.tmp 252) 38 (by rfl) w16.heap.size I0 (.agg #[.int .i64 0, .int .i64 0, .int .i64 0]) Try.underlying38 hii iz0 iz1 iz2 rfl w16.heap.size 0 0 [] (by rfl) (hE.keep kx (.inl (Nat.zero_le _))) G1 m1 c1 _ _ q1 (by rfl) u1.1 gz1 (by omega) (by first | omega | (simp; omega)) ?_; intro g6 c6 W1 hO1 hgr1; rw [List.nil_append, Nat.zero_add] at hO1; have kW : Keep w16.heap.size (w16.heap.size + 1) v1 W1 := Keep.of_append hgr1; have zW := kW.size; have zW1 : w16.heap.size ≤ W1.heap.size := (by first | omega | (simp at zW; omega)); have sr2 := sr1.keep kW (by omega); have s32 := s31.keep kW (by omega); have b1W := (kW.cell (p := ⟨w9.heap.size, 1, none⟩) (by show w9.heap.size < _; omega) (by first | (show w9.heap.size < 0 ∨ 0 ≤ w9.heap.size; omega) | (show w9.heap.size < w16.heap.size ∨ w16.heap.size + 1 ≤ w9.heap.size; omega) | (show w9.heap.size < v1.heap.size ∨ v1.heap.size + 1 ≤ w9.heap.size; omega) | (show w9.heap.size < g6 ∨ g6 + 1 ≤ w9.heap.size; omega))).trans b1v; have bd2 : Below w16.heap.size w16 W1 := bd1.trans (kW.below (by omega) bd1.size); clear gz1)
            refine hK.out _ _ ?sd115 (fun hHeld3 => ?td115)
            · first | assumption | ((try dsimp only); first | assumption | go_keep)
            clear hK K hHeld2
            try simp only [Act.put, List.setIfInBounds_toArray, List.set_cons_zero, List.set_cons_succ]
            as_aux_lemma =>
             refine wpAnyH_ready (rs := [10]) (by as_aux_lemma => kernel_rfl) (by simp) ?rd116
             refine AllReadyH.cons (o := { dst := some 257, op := Op.call { callee := Callee.value (Operand.func 16), args := #[Operand.tmp 256], argTypes := #[24] }, type := 40, pos := "laws.go:211", after := #[{ on := 9, ground := Ground.data }, { on := 6, ground := Ground.chain }], guard := none }) rfl (fun K hK => ?kd117) AllReadyH.nil
             (have hg := sr2; have hg2 := HC2; clear hg hg2; (try go_simp); go_at_call 16; refine (HC2.out _ W1 sr2).mono ?_; rintro e v2 ⟨G2', c2, rfl, u2, gz2, hb2⟩; have kx2 := Keep.of_below hb2 0 0; have zv2 := hb2.size; have hO2 := hO1.keep kx2 (.inl (Nat.zero_le _)); have s33 := s32.keep kx2 (by omega); have bd3 := bd2.trans (hb2.mono bd2.size); have b1v2 := (kx2.cell (p := ⟨w9.heap.size, 1, none⟩) (by show w9.heap.size < _; omega) (by first | (show w9.heap.size < 0 ∨ 0 ≤ w9.heap.size; omega) | (show w9.heap.size < w16.heap.size ∨ w16.heap.size + 1 ≤ w9.heap.size; omega) | (show w9.heap.size < v1.heap.size ∨ v1.heap.size + 1 ≤ w9.heap.size; omega) | (show w9.heap.size < g6 ∨ g6 + 1 ≤ w9.heap.size; omega))).trans b1W; clear HC2)
             (try go_wp2_with fail)
             refine hK.out _ _ ?sd117 (fun hHeld4 => ?td117)
             · first | assumption | ((try dsimp only); first | assumption | go_keep)
             clear hK K hHeld3
             try simp only [Act.put, List.setIfInBounds_toArray, List.set_cons_zero, List.set_cons_succ]
             as_aux_lemma =>
              refine wpAnyH_take (i := 11) (oi := { dst := some 258, op := Op.field 40 (Operand.tmp 257) 1, type := 38, pos := "laws.go:211", after := #[{ on := 10, ground := Ground.data }], guard := none }) (v := ?vd118) rfl (by as_aux_lemma => kernel_rfl) (by as_aux_lemma => kernel_rfl) (by as_aux_lemma => kernel_rfl) (fun _ _ _ h => h) (Or.inl ⟨(by as_aux_lemma => rfl), ?yd118⟩) (by assumption) ?rd118
              case yd118 =>
                intro w hSw
                (try dsimp only at hSw)
                go_simp
                (try with_reducible rfl)
              try simp only [Act.put, List.setIfInBounds_toArray, List.set_cons_zero, List.set_cons_succ]
              refine wpAnyH_ready (rs := [12]) (by as_aux_lemma => kernel_rfl) (by simp) ?rd119
              refine AllReadyH.cons (o := { dst := some 259, op := Op.call { callee := Callee.builtin Builtin.append, args := #[Operand.tmp 253, Operand.tmp 258], argTypes := #[38, 38] }, type := 38, pos := "laws.go:211", after := #[{ on := 6, ground := Ground.data }, { on := 11, ground := Ground.data }, { on := 10, ground := Ground.chain }], guard := none }) rfl (fun K hK => ?kd120) AllReadyH.nil
              (have hg := gz2; clear hg; refine step_append_atoms (by rfl) (.tmp 253) (.tmp 258) 38 (by rfl) w16.heap.size I0 (.agg #[.int .i64 0, .int .i64 0, .int .i64 0]) Try.underlying38 hii iz0 iz1 iz2 rfl g6 m1 c6 q1 (by rfl) hO2 G2' m2 c2 _ _ q2 (by rfl) u2.1 gz2 (by omega) bd3.size ?_; intro g8 c8 W2 hO3 hgr2; have kW2 : Keep g6 (g6 + 1) v2 W2 := Keep.of_append hgr2; have hg6 : w16.heap.size ≤ g6 := hO2.block; have s34 := s33.keep kW2 (by omega); have bd4 := bd3.trans (kW2.below (by omega) bd3.size); have b1W2 := (kW2.cell (p := ⟨w9.heap.size, 1, none⟩) (by show w9.heap.size < _; omega) (by first | (show w9.heap.size < 0 ∨ 0 ≤ w9.heap.size; omega) | (show w9.heap.size < w16.heap.size ∨ w16.heap.size + 1 ≤ w9.heap.size; omega) | (show w9.heap.size < v1.heap.size ∨ v1.heap.size + 1 ≤ w9.heap.size; omega) | (show w9.heap.size < g6 ∨ g6 + 1 ≤ w9.heap.size; omega))).trans b1v2; clear gz2)
              refine hK.out _ _ ?sd120 (fun hHeld5 => ?td120)
              · first | assumption | ((try dsimp only); first | assumption | go_keep)
              clear hK K hHeld4
              try simp only [Act.put, List.setIfInBounds_toArray, List.set_cons_zero, List.set_cons_succ]
              as_aux_lemma =>
               refine wpAnyH_ready (rs := [15]) (by as_aux_lemma => kernel_rfl) (by simp) ?rd121
               refine AllReadyH.cons (o := { dst := some 262, op := Op.call { callee := Callee.value (Operand.func 23), args := #[Operand.tmp 259, Operand.tmp 261], argTypes := #[38, 38] }, type := 4, pos := "laws.go:211", after := #[{ on := 12, ground := Ground.data }, { on := 14, ground := Ground.data }, { on := 12, ground := Ground.chain }], guard := none }) rfl (fun K hK => ?kd122) AllReadyH.nil
               (have hg := s34; clear hg; (try go_simp); go_at_call 23; refine (implSameAtoms_any (some ⟨g8, 0, none⟩) G3 (m1 + m2) c8 mm cap3 _ _ _ _ (q1 ++ q2) zs3 W2 true (by omega) hmm3 hO3.wi.1 s34 (decide_eq_true EQ.out)).mono ?_; rintro e v5 ⟨rfl, hk5⟩; have hb5 : Below w16.heap.size W2 v5 := hk5.below (by omega) bd4.size; have bdF := bd4.trans hb5; have b1v5 := (hb5.cell (p := ⟨w9.heap.size, 1, none⟩) (show w9.heap.size < w16.heap.size from hbl)).trans b1W2)
               (try go_wp2_with fail)
               refine hK.out _ _ ?sd122 (fun hHeld6 => ?td122)
               · first | assumption | ((try dsimp only); first | assumption | go_keep)
               clear hK K hHeld5
               try simp only [Act.put, List.setIfInBounds_toArray, List.set_cons_zero, List.set_cons_succ]
               as_aux_lemma =>
                refine wpAnyH_take (i := 16) (oi := { dst := some 2, op := Op.assign (Operand.tmp 262), type := 4, pos := "laws.go:211", after := #[{ on := 15, ground := Ground.data }, { on := 15, ground := Ground.chain }, { on := 0, ground := Ground.phase }, { on := 1, ground := Ground.phase }, { on := 2, ground := Ground.phase }, { on := 3, ground := Ground.phase }, { on := 4, ground := Ground.phase }, { on := 5, ground := Ground.phase }, { on := 6, ground := Ground.phase }, { on := 7, ground := Ground.phase }, { on := 8, ground := Ground.phase }, { on := 9, ground := Ground.phase }, { on := 10, ground := Ground.phase }, { on := 11, ground := Ground.phase }, { on := 12, ground := Ground.phase }, { on := 13, ground := Ground.phase }, { on := 14, ground := Ground.phase }, { on := 15, ground := Ground.phase }], guard := none }) (v := ?vd123) rfl (by as_aux_lemma => kernel_rfl) (by as_aux_lemma => kernel_rfl) (by as_aux_lemma => kernel_rfl) (fun _ _ _ h => h) (Or.inl ⟨(by as_aux_lemma => rfl), ?yd123⟩) (by assumption) ?rd123
                case yd123 =>
                  intro w hSw
                  (try dsimp only at hSw)
                  go_simp
                  (try with_reducible rfl)
                try simp only [Act.put, List.setIfInBounds_toArray, List.set_cons_zero, List.set_cons_succ]
                refine wpAnyH_done (by as_aux_lemma => kernel_rfl) ?ed10_4_6_10_12_15 _
                all_goals
                  go_wp2_with fail
                  go_meet
                  case rel => exact ⟨rfl, bdF⟩
        refine AllReadyH.cons (o := { dst := some 251, op := Op.call { callee := Callee.value (Operand.func 16), args := #[Operand.tmp 250], argTypes := #[24] }, type := 40, pos := "laws.go:211", after := #[{ on := 3, ground := Ground.data }], guard := none }) rfl (fun K hK => ?kd124) AllReadyH.nil
        (have hg := HC1; clear hg; (try go_simp); go_at_call 16; refine (HC1.out _ (by first | exact Or.inl rfl | exact Or.inr rfl)).mono ?_; rintro e v1 ⟨G1, c1, rfl, u1, gz1, sr1, s31, b1v, bd1, kx⟩; clear HC1; have zw1 : w16.heap.size ≤ v1.heap.size := bd1.size; have kz := (Keep.refl 0 0 v1).alloc (.cells #[] 94); have zz1 := kz.size; have b1vz := (kz.cell (p := ⟨w9.heap.size, 1, none⟩) (by show w9.heap.size < _; omega) (by first | (show w9.heap.size < 0 ∨ 0 ≤ w9.heap.size; omega) | (show w9.heap.size < w16.heap.size ∨ w16.heap.size + 1 ≤ w9.heap.size; omega) | (show w9.heap.size < v1.heap.size ∨ v1.heap.size + 1 ≤ w9.heap.size; omega) | (show w9.heap.size < g6 ∨ g6 + 1 ≤ w9.heap.size; omega))).trans b1v; have u1z := u1.keep kz (by omega))
        (try go_wp2_with fail)
        refine hK.out _ _ ?sd124 (fun hHeld1 => ?td124)
        · first | assumption | ((try dsimp only); first | assumption | go_keep)
        clear hK K hHeld0
        try simp only [Act.put, List.setIfInBounds_toArray, List.set_cons_zero, List.set_cons_succ]
        as_aux_lemma =>
         refine wpAnyH_take (i := 5) (oi := { dst := some 252, op := Op.field 40 (Operand.tmp 251) 1, type := 38, pos := "laws.go:211", after := #[{ on := 4, ground := Ground.data }], guard := none }) (v := ?vd125) rfl (by as_aux_lemma => kernel_rfl) (by as_aux_lemma => kernel_rfl) (by as_aux_lemma => kernel_rfl) (fun _ _ _ h => h) (Or.inl ⟨(by as_aux_lemma => rfl), ?yd125⟩) (by assumption) ?rd125
         case yd125 =>
           intro w hSw
           (try dsimp only at hSw)
           go_simp
           (try with_reducible rfl)
         try simp only [Act.put, List.setIfInBounds_toArray, List.set_cons_zero, List.set_cons_succ]
         refine wpAnyH_ready (rs := [0]) (by as_aux_lemma => kernel_rfl) (by simp) ?rd126
         refine AllReadyH.cons (o := { dst := some 247, op := Op.buildSlice 38 0 #[], type := 38, pos := "laws.go:211", after := #[], guard := none }) rfl (fun K hK => ?kd127) AllReadyH.nil
         go_simp
         refine hK.out _ _ ?sd127 (fun hHeld2 => ?td127)
         · first | assumption | ((try dsimp only); first | assumption | go_keep)
         clear hK K hHeld1
         try simp only [Act.put, List.setIfInBounds_toArray, List.set_cons_zero, List.set_cons_succ]
         as_aux_lemma =>
          refine wpAnyH_ready (rs := [6]) (by as_aux_lemma => kernel_rfl) (by simp) ?rd128
          refine AllReadyH.cons (o := { dst := some 253, op := Op.call { callee := Callee.builtin Builtin.append, args := #[Operand.tmp 247, Operand.tmp 252], argTypes := #[38, 38] }, type := 38, pos := "laws.go:211", after := #[{ on := 0, ground := Ground.data }, { on := 5, ground := Ground.data }, { on := 4, ground := Ground.chain }], guard := none }) rfl (fun K hK => ?kd129) AllReadyH.nil
          (have hg := gz1; clear hg; refine step_append_atoms (by rfl) (.tmp 247) (.tmp 252) 38 (by rfl) w16.heap.size I0 (.agg #[.int .i64 0, .int .i64 0, .int .i64 0]) Try.underlying38 hii iz0 iz1 iz2 rfl v1.heap.size 0 0 [] (by rfl) (⟨(World.ownsRow_lit (base := w16.heap.size) v1 #[] 0 zw1 (Nat.zero_le _) rfl : (v1.alloc (.cells #[] 94)).ownsRow _ _ 3 _ 0 []), Nat.zero_le _, fun x hx => by simp at hx⟩ : OwnA (v1.alloc (.cells #[] 94)) w16.heap.size (some ⟨v1.heap.size, 0, none⟩) 0 0 []) G1 m1 c1 _ _ q1 (by rfl) u1z.1 gz1 (by omega) (by first | omega | (simp; omega)) ?_; intro g6 c6 W1 hO1 hgr1; rw [List.nil_append, Nat.zero_add] at hO1; have kW : Keep v1.heap.size (v1.heap.size + 1) (v1.alloc (.cells #[] 94)) W1 := Keep.of_append hgr1; have zW := kW.size; have zW1 : w16.heap.size ≤ W1.heap.size := (by first | omega | (simp at zW; omega)); have sr2 := (sr1.keep kz (by omega)).keep kW (by omega); have s32 := (s31.keep kz (by omega)).keep kW (by omega); have b1W := (kW.cell (p := ⟨w9.heap.size, 1, none⟩) (by show w9.heap.size < _; omega) (by first | (show w9.heap.size < 0 ∨ 0 ≤ w9.heap.size; omega) | (show w9.heap.size < w16.heap.size ∨ w16.heap.size + 1 ≤ w9.heap.size; omega) | (show w9.heap.size < v1.heap.size ∨ v1.heap.size + 1 ≤ w9.heap.size; omega) | (show w9.heap.size < g6 ∨ g6 + 1 ≤ w9.heap.size; omega))).trans b1vz; have bd2 : Below w16.heap.size w16 W1 := (bd1.alloc zw1 (.cells #[] 94)).trans (kW.below (by omega) (bd1.alloc zw1 (.cells #[] 94)).size); clear gz1)
          refine hK.out _ _ ?sd129 (fun hHeld3 => ?td129)
          · first | assumption | ((try dsimp only); first | assumption | go_keep)
          clear hK K hHeld2
          try simp only [Act.put, List.setIfInBounds_toArray, List.set_cons_zero, List.set_cons_succ]
          as_aux_lemma =>
           refine wpAnyH_ready (rs := [10]) (by as_aux_lemma => kernel_rfl) (by simp) ?rd130
           refine AllReadyH.cons (o := { dst := some 257, op := Op.call { callee := Callee.value (Operand.func 16), args := #[Operand.tmp 256], argTypes := #[24] }, type := 40, pos := "laws.go:211", after := #[{ on := 9, ground := Ground.data }, { on := 6, ground := Ground.chain }], guard := none }) rfl (fun K hK => ?kd131) AllReadyH.nil
           (have hg := sr2; have hg2 := HC2; clear hg hg2; (try go_simp); go_at_call 16; refine (HC2.out _ W1 sr2).mono ?_; rintro e v2 ⟨G2', c2, rfl, u2, gz2, hb2⟩; have kx2 := Keep.of_below hb2 0 0; have zv2 := hb2.size; have hO2 := hO1.keep kx2 (.inl (Nat.zero_le _)); have s33 := s32.keep kx2 (by omega); have bd3 := bd2.trans (hb2.mono bd2.size); have b1v2 := (kx2.cell (p := ⟨w9.heap.size, 1, none⟩) (by show w9.heap.size < _; omega) (by first | (show w9.heap.size < 0 ∨ 0 ≤ w9.heap.size; omega) | (show w9.heap.size < w16.heap.size ∨ w16.heap.size + 1 ≤ w9.heap.size; omega) | (show w9.heap.size < v1.heap.size ∨ v1.heap.size + 1 ≤ w9.heap.size; omega) | (show w9.heap.size < g6 ∨ g6 + 1 ≤ w9.heap.size; omega))).trans b1W; clear HC2)
           (try go_wp2_with fail)
           refine hK.out _ _ ?sd131 (fun hHeld4 => ?td131)
           · first | assumption | ((try dsimp only); first | assumption | go_keep)
           clear hK K hHeld3
           try simp only [Act.put, List.setIfInBounds_toArray, List.set_cons_zero, List.set_cons_succ]
           as_aux_lemma =>
            refine wpAnyH_take (i := 11) (oi := { dst := some 258, op := Op.field 40 (Operand.tmp 257) 1, type := 38, pos := "laws.go:211", after := #[{ on := 10, ground := Ground.data }], guard := none }) (v := ?vd132) rfl (by as_aux_lemma => kernel_rfl) (by as_aux_lemma => kernel_rfl) (by as_aux_lemma => kernel_rfl) (fun _ _ _ h => h) (Or.inl ⟨(by as_aux_lemma => rfl), ?yd132⟩) (by assumption) ?rd132
            case yd132 =>
              intro w hSw
              (try dsimp only at hSw)
              go_simp
              (try with_reducible rfl)
            try simp only [Act.put, List.setIfInBounds_toArray, List.set_cons_zero, List.set_cons_succ]
            refine wpAnyH_ready (rs := [12]) (by as_aux_lemma => kernel_rfl) (by simp) ?rd133
            refine AllReadyH.cons (o := { dst := some 259, op := Op.call { callee := Callee.builtin Builtin.append, args := #[Operand.tmp 253, Operand.tmp 258], argTypes := #[38, 38] }, type := 38, pos := "laws.go:211", after := #[{ on := 6, ground := Ground.data }, { on := 11, ground := Ground.data }, { on := 10, ground := Ground.chain }], guard := none }) rfl (fun K hK => ?kd134) AllReadyH.nil
            (have hg := gz2; clear hg; refine step_append_atoms (by rfl) (.tmp 253) (.tmp 258) 38 (by rfl) w16.heap.size I0 (.agg #[.int .i64 0, .int .i64 0, .int .i64 0]) Try.underlying38 hii iz0 iz1 iz2 rfl g6 m1 c6 q1 (by rfl) hO2 G2' m2 c2 _ _ q2 (by rfl) u2.1 gz2 (by omega) bd3.size ?_; intro g8 c8 W2 hO3 hgr2; have kW2 : Keep g6 (g6 + 1) v2 W2 := Keep.of_append hgr2; have hg6 : w16.heap.size ≤ g6 := hO2.block; have s34 := s33.keep kW2 (by omega); have bd4 := bd3.trans (kW2.below (by omega) bd3.size); have b1W2 := (kW2.cell (p := ⟨w9.heap.size, 1, none⟩) (by show w9.heap.size < _; omega) (by first | (show w9.heap.size < 0 ∨ 0 ≤ w9.heap.size; omega) | (show w9.heap.size < w16.heap.size ∨ w16.heap.size + 1 ≤ w9.heap.size; omega) | (show w9.heap.size < v1.heap.size ∨ v1.heap.size + 1 ≤ w9.heap.size; omega) | (show w9.heap.size < g6 ∨ g6 + 1 ≤ w9.heap.size; omega))).trans b1v2; clear gz2)
            refine hK.out _ _ ?sd134 (fun hHeld5 => ?td134)
            · first | assumption | ((try dsimp only); first | assumption | go_keep)
            clear hK K hHeld4
            try simp only [Act.put, List.setIfInBounds_toArray, List.set_cons_zero, List.set_cons_succ]
            as_aux_lemma =>
             refine wpAnyH_ready (rs := [15]) (by as_aux_lemma => kernel_rfl) (by simp) ?rd135
             refine AllReadyH.cons (o := { dst := some 262, op := Op.call { callee := Callee.value (Operand.func 23), args := #[Operand.tmp 259, Operand.tmp 261], argTypes := #[38, 38] }, type := 4, pos := "laws.go:211", after := #[{ on := 12, ground := Ground.data }, { on := 14, ground := Ground.data }, { on := 12, ground := Ground.chain }], guard := none }) rfl (fun K hK => ?kd136) AllReadyH.nil
             (have hg := s34; clear hg; (try go_simp); go_at_call 23; refine (implSameAtoms_any (some ⟨g8, 0, none⟩) G3 (m1 + m2) c8 mm cap3 _ _ _ _ (q1 ++ q2) zs3 W2 true (by omega) hmm3 hO3.wi.1 s34 (decide_eq_true EQ.out)).mono ?_; rintro e v5 ⟨rfl, hk5⟩; have hb5 : Below w16.heap.size W2 v5 := hk5.below (by omega) bd4.size; have bdF := bd4.trans hb5; have b1v5 := (hb5.cell (p := ⟨w9.heap.size, 1, none⟩) (show w9.heap.size < w16.heap.size from hbl)).trans b1W2)
             (try go_wp2_with fail)
             refine hK.out _ _ ?sd136 (fun hHeld6 => ?td136)
             · first | assumption | ((try dsimp only); first | assumption | go_keep)
             clear hK K hHeld5
             try simp only [Act.put, List.setIfInBounds_toArray, List.set_cons_zero, List.set_cons_succ]
             as_aux_lemma =>
              refine wpAnyH_take (i := 16) (oi := { dst := some 2, op := Op.assign (Operand.tmp 262), type := 4, pos := "laws.go:211", after := #[{ on := 15, ground := Ground.data }, { on := 15, ground := Ground.chain }, { on := 0, ground := Ground.phase }, { on := 1, ground := Ground.phase }, { on := 2, ground := Ground.phase }, { on := 3, ground := Ground.phase }, { on := 4, ground := Ground.phase }, { on := 5, ground := Ground.phase }, { on := 6, ground := Ground.phase }, { on := 7, ground := Ground.phase }, { on := 8, ground := Ground.phase }, { on := 9, ground := Ground.phase }, { on := 10, ground := Ground.phase }, { on := 11, ground := Ground.phase }, { on := 12, ground := Ground.phase }, { on := 13, ground := Ground.phase }, { on := 14, ground := Ground.phase }, { on := 15, ground := Ground.phase }], guard := none }) (v := ?vd137) rfl (by as_aux_lemma => kernel_rfl) (by as_aux_lemma => kernel_rfl) (by as_aux_lemma => kernel_rfl) (fun _ _ _ h => h) (Or.inl ⟨(by as_aux_lemma => rfl), ?yd137⟩) (by assumption) ?rd137
              case yd137 =>
                intro w hSw
                (try dsimp only at hSw)
                go_simp
                (try with_reducible rfl)
              try simp only [Act.put, List.setIfInBounds_toArray, List.set_cons_zero, List.set_cons_succ]
              refine wpAnyH_done (by as_aux_lemma => kernel_rfl) ?ed14_0_6_10_12_15 _
              all_goals
                go_wp2_with fail
                go_meet
                case rel => exact ⟨rfl, bdF⟩
      · have hcn : na = capa := by omega
        have hdn2 : na = ct := by omega
        subst hcn
        subst hdn2
        have HC2 := Lib.hid (fun (hi : Nat) (W : World) (h : Rt W 0 hi (some ⟨ga, 0, none⟩) na la) => ao_atc (implAtoms_c (some ⟨ga, 0, none⟩) 0 0 hi (la.drop na) W (by have h9 := h.drop (d := na) (Nat.le_refl _); rw [Nat.sub_self] at h9; exact ⟨h9.1, Nat.zero_le _, h9.2.2.1, fun h => absurd h (by omega)⟩)) k2 hq2 hm2)
        clear h ra z3 bb bs_ kd ka ka0
        try simp only [List.append_eq, List.cons_append, List.nil_append]
        refine wp_region_held_drew (S := fun w' => w'.cell? ⟨w9.heap.size, 1, none⟩ = some (.slice G3 mm cap3)) (by kernel_rfl) ?sSd2 (fun hHeld0 => ?sRd2)
        · first | assumption | ((try dsimp only); first | assumption | go_keep)
        refine wpAnyH_take (i := 1) (oi := { dst := some 248, op := Op.move (Operand.tmp 11), type := 24, pos := "laws.go:211", after := #[], guard := none }) (v := ?vd21) rfl (by as_aux_lemma => kernel_rfl) (by as_aux_lemma => kernel_rfl) (by as_aux_lemma => kernel_rfl) (fun _ _ _ h => h) (Or.inl ⟨(by as_aux_lemma => rfl), ?yd21⟩) (by assumption) ?rd21
        case yd21 =>
          intro w hSw
          (try dsimp only at hSw)
          go_simp
          (try with_reducible rfl)
        try simp only [Act.put, List.setIfInBounds_toArray, List.set_cons_zero, List.set_cons_succ]
        refine wpAnyH_take (i := 2) (oi := { dst := some 249, op := Op.move (Operand.tmp 17), type := 2, pos := "laws.go:211", after := #[], guard := none }) (v := ?vd22) rfl (by as_aux_lemma => kernel_rfl) (by as_aux_lemma => kernel_rfl) (by as_aux_lemma => kernel_rfl) (fun _ _ _ h => h) (Or.inl ⟨(by as_aux_lemma => rfl), ?yd22⟩) (by assumption) ?rd22
        case yd22 =>
          intro w hSw
          (try dsimp only at hSw)
          go_simp
          (try with_reducible rfl)
        try simp only [Act.put, List.setIfInBounds_toArray, List.set_cons_zero, List.set_cons_succ]
        refine wpAnyH_take (i := 3) (oi := { dst := some 250, op := Op.slice 24 (Operand.tmp 248) none (some (Operand.tmp 249)) none, type := 24, pos := "laws.go:211", after := #[{ on := 1, ground := Ground.data }, { on := 2, ground := Ground.data }], guard := none }) (v := ?vd23) rfl (by as_aux_lemma => kernel_rfl) (by as_aux_lemma => kernel_rfl) (by as_aux_lemma => kernel_rfl) (fun _ _ _ h => h) (Or.inl ⟨(by as_aux_lemma => rfl), ?yd23⟩) (by assumption) ?rd23
        case yd23 =>
          intro w hSw
          (try dsimp only at hSw)
          go_simp
          (try with_reducible rfl)
        try simp only [Act.put, List.setIfInBounds_toArray, List.set_cons_zero, List.set_cons_succ]
        refine wpAnyH_take (i := 7) (oi := { dst := some 254, op := Op.move (Operand.tmp 11), type := 24, pos := "laws.go:211", after := #[], guard := none }) (v := ?vd24) rfl (by as_aux_lemma => kernel_rfl) (by as_aux_lemma => kernel_rfl) (by as_aux_lemma => kernel_rfl) (fun _ _ _ h => h) (Or.inl ⟨(by as_aux_lemma => rfl), ?yd24⟩) (by assumption) ?rd24
        case yd24 =>
          intro w hSw
          (try dsimp only at hSw)
          go_simp
          (try with_reducible rfl)
        try simp only [Act.put, List.setIfInBounds_toArray, List.set_cons_zero, List.set_cons_succ]
        refine wpAnyH_take (i := 8) (oi := { dst := some 255, op := Op.move (Operand.tmp 17), type := 2, pos := "laws.go:211", after := #[], guard := none }) (v := ?vd25) rfl (by as_aux_lemma => kernel_rfl) (by as_aux_lemma => kernel_rfl) (by as_aux_lemma => kernel_rfl) (fun _ _ _ h => h) (Or.inl ⟨(by as_aux_lemma => rfl), ?yd25⟩) (by assumption) ?rd25
        case yd25 =>
          intro w hSw
          (try dsimp only at hSw)
          go_simp
          (try with_reducible rfl)
        try simp only [Act.put, List.setIfInBounds_toArray, List.set_cons_zero, List.set_cons_succ]
        refine wpAnyH_take (i := 9) (oi := { dst := some 256, op := Op.slice 24 (Operand.tmp 254) (some (Operand.tmp 255)) none none, type := 24, pos := "laws.go:211", after := #[{ on := 7, ground := Ground.data }, { on := 8, ground := Ground.data }], guard := none }) (v := ?vd26) rfl (by as_aux_lemma => kernel_rfl) (by as_aux_lemma => kernel_rfl) (by as_aux_lemma => kernel_rfl) (fun _ _ _ h => h) (Or.inl ⟨(by as_aux_lemma => rfl), ?yd26⟩) (by assumption) ?rd26
        case yd26 =>
          intro w hSw
          (try dsimp only at hSw)
          go_simp
          (try with_reducible rfl)
        try simp only [Act.put, List.setIfInBounds_toArray, List.set_cons_zero, List.set_cons_succ]
        refine wpAnyH_take (i := 13) (oi := { dst := some 260, op := Op.fieldAddr 40 (Operand.tmp 12) 1, type := 0, pos := "laws.go:211", after := #[], guard := none }) (v := ?vd27) rfl (by as_aux_lemma => kernel_rfl) (by as_aux_lemma => kernel_rfl) (by as_aux_lemma => kernel_rfl) (fun _ _ _ h => h) (Or.inl ⟨(by as_aux_lemma => rfl), ?yd27⟩) (by assumption) ?rd27
        case yd27 =>
          intro w hSw
          (try dsimp only at hSw)
          go_simp
          (try with_reducible rfl)
        try simp only [Act.put, List.setIfInBounds_toArray, List.set_cons_zero, List.set_cons_succ]
        refine wpAnyH_take (i := 14) (oi := { dst := some 261, op := Op.load 38 (Operand.tmp 260), type := 38, pos := "laws.go:211", after := #[{ on := 13, ground := Ground.data }], guard := none }) (v := ?vd28) rfl (by as_aux_lemma => kernel_rfl) (by as_aux_lemma => kernel_rfl) (by as_aux_lemma => kernel_rfl) (fun _ _ _ h => h) (Or.inl ⟨(by as_aux_lemma => rfl), ?yd28⟩) (by assumption) ?rd28
        case yd28 =>
          intro w hSw
          (try dsimp only at hSw)
          go_simp
          (try with_reducible rfl)
        try simp only [Act.put, List.setIfInBounds_toArray, List.set_cons_zero, List.set_cons_succ]
        refine wpAnyH_ready (rs := [0, 4]) (by as_aux_lemma => kernel_rfl) (by simp) ?rd29
        refine AllReadyH.cons (o := { dst := some 247, op := Op.buildSlice 38 0 #[], type := 38, pos := "laws.go:211", after := #[], guard := none }) rfl (fun K hK => ?kd210) ?md210
        case kd210 =>
          go_simp
          refine hK.out _ _ ?sd210 (fun hHeld1 => ?td210)
          · first | assumption | ((try dsimp only); first | assumption | go_keep)
          clear hK K hHeld0
          try simp only [Act.put, List.setIfInBounds_toArray, List.set_cons_zero, List.set_cons_succ]
          as_aux_lemma =>
           refine wpAnyH_ready (rs := [4]) (by as_aux_lemma => kernel_rfl) (by simp) ?rd211
           refine AllReadyH.cons (o := { dst := some 251, op := Op.call { callee := Callee.value (Operand.func 16), args := #[Operand.tmp 250], argTypes := #[24] }, type := 40, pos := "laws.go:211", after := #[{ on := 3, ground := Ground.data }], guard := none }) rfl (fun K hK => ?kd212) AllReadyH.nil
           (have hg := HC1; clear hg; (try go_simp); go_at_call 16; refine (HC1.out _ (by first | exact Or.inl rfl | exact Or.inr rfl)).mono ?_; rintro e v1 ⟨G1, c1, rfl, u1, gz1, sr1, s31, b1v, bd1, kx⟩; clear HC1; have zw1 : w16.heap.size ≤ v1.heap.size := bd1.size; have kz := (Keep.refl 0 0 v1).alloc (.cells #[] 94); have zz1 := kz.size; have b1vz := (kz.cell (p := ⟨w9.heap.size, 1, none⟩) (by show w9.heap.size < _; omega) (by first | (show w9.heap.size < 0 ∨ 0 ≤ w9.heap.size; omega) | (show w9.heap.size < w16.heap.size ∨ w16.heap.size + 1 ≤ w9.heap.size; omega) | (show w9.heap.size < v1.heap.size ∨ v1.heap.size + 1 ≤ w9.heap.size; omega) | (show w9.heap.size < g6 ∨ g6 + 1 ≤ w9.heap.size; omega))).trans b1v; have u1z := u1.keep kz (by omega))
           (try go_wp2_with fail)
           refine hK.out _ _ ?sd212 (fun hHeld2 => ?td212)
           · first | assumption | ((try dsimp only); first | assumption | go_keep)
           clear hK K hHeld1
           try simp only [Act.put, List.setIfInBounds_toArray, List.set_cons_zero, List.set_cons_succ]
           as_aux_lemma =>
            refine wpAnyH_take (i := 5) (oi := { dst := some 252, op := Op.field 40 (Operand.tmp 251) 1, type := 38, pos := "laws.go:211", after := #[{ on := 4, ground := Ground.data }], guard := none }) (v := ?vd213) rfl (by as_aux_lemma => kernel_rfl) (by as_aux_lemma => kernel_rfl) (by as_aux_lemma => kernel_rfl) (fun _ _ _ h => h) (Or.inl ⟨(by as_aux_lemma => rfl), ?yd213⟩) (by assumption) ?rd213
            case yd213 =>
              intro w hSw
              (try dsimp only at hSw)
              go_simp
              (try with_reducible rfl)
            try simp only [Act.put, List.setIfInBounds_toArray, List.set_cons_zero, List.set_cons_succ]
            refine wpAnyH_ready (rs := [6]) (by as_aux_lemma => kernel_rfl) (by simp) ?rd214
            refine AllReadyH.cons (o := { dst := some 253, op := Op.call { callee := Callee.builtin Builtin.append, args := #[Operand.tmp 247, Operand.tmp 252], argTypes := #[38, 38] }, type := 38, pos := "laws.go:211", after := #[{ on := 0, ground := Ground.data }, { on := 5, ground := Ground.data }, { on := 4, ground := Ground.chain }], guard := none }) rfl (fun K hK => ?kd215) AllReadyH.nil
            (have hg := gz1; clear hg; refine step_append_atoms (by rfl) (.tmp 247) (.tmp 252) 38 (by rfl) w16.heap.size I0 (.agg #[.int .i64 0, .int .i64 0, .int .i64 0]) Try.underlying38 hii iz0 iz1 iz2 rfl w16.heap.size 0 0 [] (by rfl) (hE.keep kx (.inl (Nat.zero_le _))) G1 m1 c1 _ _ q1 (by rfl) u1.1 gz1 (by omega) (by first | omega | (simp; omega)) ?_; intro g6 c6 W1 hO1 hgr1; rw [List.nil_append, Nat.zero_add] at hO1; have kW : Keep w16.heap.size (w16.heap.size + 1) v1 W1 := Keep.of_append hgr1; have zW := kW.size; have zW1 : w16.heap.size ≤ W1.heap.size := (by first | omega | (simp at zW; omega)); have sr2 := sr1.keep kW (by omega); have s32 := s31.keep kW (by omega); have b1W := (kW.cell (p := ⟨w9.heap.size, 1, none⟩) (by show w9.heap.size < _; omega) (by first | (show w9.heap.size < 0 ∨ 0 ≤ w9.heap.size; omega) | (show w9.heap.size < w16.heap.size ∨ w16.heap.size + 1 ≤ w9.heap.size; omega) | (show w9.heap.size < v1.heap.size ∨ v1.heap.size + 1 ≤ w9.heap.size; omega) | (show w9.heap.size < g6 ∨ g6 + 1 ≤ w9.heap.size; omega))).trans b1v; have bd2 : Below w16.heap.size w16 W1 := bd1.trans (kW.below (by omega) bd1.size); clear gz1)
            refine hK.out _ _ ?sd215 (fun hHeld3 => ?td215)
            · first | assumption | ((try dsimp only); first | assumption | go_keep)
            clear hK K hHeld2
            try simp only [Act.put, List.setIfInBounds_toArray, List.set_cons_zero, List.set_cons_succ]
            as_aux_lemma =>
             refine wpAnyH_ready (rs := [10]) (by as_aux_lemma => kernel_rfl) (by simp) ?rd216
             refine AllReadyH.cons (o := { dst := some 257, op := Op.call { callee := Callee.value (Operand.func 16), args := #[Operand.tmp 256], argTypes := #[24] }, type := 40, pos := "laws.go:211", after := #[{ on := 9, ground := Ground.data }, { on := 6, ground := Ground.chain }], guard := none }) rfl (fun K hK => ?kd217) AllReadyH.nil
             (have hg := sr2; have hg2 := HC2; clear hg hg2; (try go_simp); go_at_call 16; refine (HC2.out _ W1 sr2).mono ?_; rintro e v2 ⟨G2', c2, rfl, u2, gz2, hb2⟩; have kx2 := Keep.of_below hb2 0 0; have zv2 := hb2.size; have hO2 := hO1.keep kx2 (.inl (Nat.zero_le _)); have s33 := s32.keep kx2 (by omega); have bd3 := bd2.trans (hb2.mono bd2.size); have b1v2 := (kx2.cell (p := ⟨w9.heap.size, 1, none⟩) (by show w9.heap.size < _; omega) (by first | (show w9.heap.size < 0 ∨ 0 ≤ w9.heap.size; omega) | (show w9.heap.size < w16.heap.size ∨ w16.heap.size + 1 ≤ w9.heap.size; omega) | (show w9.heap.size < v1.heap.size ∨ v1.heap.size + 1 ≤ w9.heap.size; omega) | (show w9.heap.size < g6 ∨ g6 + 1 ≤ w9.heap.size; omega))).trans b1W; clear HC2)
             (try go_wp2_with fail)
             refine hK.out _ _ ?sd217 (fun hHeld4 => ?td217)
             · first | assumption | ((try dsimp only); first | assumption | go_keep)
             clear hK K hHeld3
             try simp only [Act.put, List.setIfInBounds_toArray, List.set_cons_zero, List.set_cons_succ]
             as_aux_lemma =>
              refine wpAnyH_take (i := 11) (oi := { dst := some 258, op := Op.field 40 (Operand.tmp 257) 1, type := 38, pos := "laws.go:211", after := #[{ on := 10, ground := Ground.data }], guard := none }) (v := ?vd218) rfl (by as_aux_lemma => kernel_rfl) (by as_aux_lemma => kernel_rfl) (by as_aux_lemma => kernel_rfl) (fun _ _ _ h => h) (Or.inl ⟨(by as_aux_lemma => rfl), ?yd218⟩) (by assumption) ?rd218
              case yd218 =>
                intro w hSw
                (try dsimp only at hSw)
                go_simp
                (try with_reducible rfl)
              try simp only [Act.put, List.setIfInBounds_toArray, List.set_cons_zero, List.set_cons_succ]
              refine wpAnyH_ready (rs := [12]) (by as_aux_lemma => kernel_rfl) (by simp) ?rd219
              refine AllReadyH.cons (o := { dst := some 259, op := Op.call { callee := Callee.builtin Builtin.append, args := #[Operand.tmp 253, Operand.tmp 258], argTypes := #[38, 38] }, type := 38, pos := "laws.go:211", after := #[{ on := 6, ground := Ground.data }, { on := 11, ground := Ground.data }, { on := 10, ground := Ground.chain }], guard := none }) rfl (fun K hK => ?kd220) AllReadyH.nil
              (have hg := gz2; clear hg; refine step_append_atoms (by rfl) (.tmp 253) (.tmp 258) 38 (by rfl) w16.heap.size I0 (.agg #[.int .i64 0, .int .i64 0, .int .i64 0]) Try.underlying38 hii iz0 iz1 iz2 rfl g6 m1 c6 q1 (by rfl) hO2 G2' m2 c2 _ _ q2 (by rfl) u2.1 gz2 (by omega) bd3.size ?_; intro g8 c8 W2 hO3 hgr2; have kW2 : Keep g6 (g6 + 1) v2 W2 := Keep.of_append hgr2; have hg6 : w16.heap.size ≤ g6 := hO2.block; have s34 := s33.keep kW2 (by omega); have bd4 := bd3.trans (kW2.below (by omega) bd3.size); have b1W2 := (kW2.cell (p := ⟨w9.heap.size, 1, none⟩) (by show w9.heap.size < _; omega) (by first | (show w9.heap.size < 0 ∨ 0 ≤ w9.heap.size; omega) | (show w9.heap.size < w16.heap.size ∨ w16.heap.size + 1 ≤ w9.heap.size; omega) | (show w9.heap.size < v1.heap.size ∨ v1.heap.size + 1 ≤ w9.heap.size; omega) | (show w9.heap.size < g6 ∨ g6 + 1 ≤ w9.heap.size; omega))).trans b1v2; clear gz2)
              refine hK.out _ _ ?sd220 (fun hHeld5 => ?td220)
              · first | assumption | ((try dsimp only); first | assumption | go_keep)
              clear hK K hHeld4
              try simp only [Act.put, List.setIfInBounds_toArray, List.set_cons_zero, List.set_cons_succ]
              as_aux_lemma =>
               refine wpAnyH_ready (rs := [15]) (by as_aux_lemma => kernel_rfl) (by simp) ?rd221
               refine AllReadyH.cons (o := { dst := some 262, op := Op.call { callee := Callee.value (Operand.func 23), args := #[Operand.tmp 259, Operand.tmp 261], argTypes := #[38, 38] }, type := 4, pos := "laws.go:211", after := #[{ on := 12, ground := Ground.data }, { on := 14, ground := Ground.data }, { on := 12, ground := Ground.chain }], guard := none }) rfl (fun K hK => ?kd222) AllReadyH.nil
               (have hg := s34; clear hg; (try go_simp); go_at_call 23; refine (implSameAtoms_any (some ⟨g8, 0, none⟩) G3 (m1 + m2) c8 mm cap3 _ _ _ _ (q1 ++ q2) zs3 W2 true (by omega) hmm3 hO3.wi.1 s34 (decide_eq_true EQ.out)).mono ?_; rintro e v5 ⟨rfl, hk5⟩; have hb5 : Below w16.heap.size W2 v5 := hk5.below (by omega) bd4.size; have bdF := bd4.trans hb5; have b1v5 := (hb5.cell (p := ⟨w9.heap.size, 1, none⟩) (show w9.heap.size < w16.heap.size from hbl)).trans b1W2)
               (try go_wp2_with fail)
               refine hK.out _ _ ?sd222 (fun hHeld6 => ?td222)
               · first | assumption | ((try dsimp only); first | assumption | go_keep)
               clear hK K hHeld5
               try simp only [Act.put, List.setIfInBounds_toArray, List.set_cons_zero, List.set_cons_succ]
               as_aux_lemma =>
                refine wpAnyH_take (i := 16) (oi := { dst := some 2, op := Op.assign (Operand.tmp 262), type := 4, pos := "laws.go:211", after := #[{ on := 15, ground := Ground.data }, { on := 15, ground := Ground.chain }, { on := 0, ground := Ground.phase }, { on := 1, ground := Ground.phase }, { on := 2, ground := Ground.phase }, { on := 3, ground := Ground.phase }, { on := 4, ground := Ground.phase }, { on := 5, ground := Ground.phase }, { on := 6, ground := Ground.phase }, { on := 7, ground := Ground.phase }, { on := 8, ground := Ground.phase }, { on := 9, ground := Ground.phase }, { on := 10, ground := Ground.phase }, { on := 11, ground := Ground.phase }, { on := 12, ground := Ground.phase }, { on := 13, ground := Ground.phase }, { on := 14, ground := Ground.phase }, { on := 15, ground := Ground.phase }], guard := none }) (v := ?vd223) rfl (by as_aux_lemma => kernel_rfl) (by as_aux_lemma => kernel_rfl) (by as_aux_lemma => kernel_rfl) (fun _ _ _ h => h) (Or.inl ⟨(by as_aux_lemma => rfl), ?yd223⟩) (by assumption) ?rd223
                case yd223 =>
                  intro w hSw
                  (try dsimp only at hSw)
                  go_simp
                  (try with_reducible rfl)
                try simp only [Act.put, List.setIfInBounds_toArray, List.set_cons_zero, List.set_cons_succ]
                refine wpAnyH_done (by as_aux_lemma => kernel_rfl) ?ed20_4_6_10_12_15 _
                all_goals
                  go_wp2_with fail
                  go_meet
                  case rel => exact ⟨rfl, bdF⟩
        refine AllReadyH.cons (o := { dst := some 251, op := Op.call { callee := Callee.value (Operand.func 16), args := #[Operand.tmp 250], argTypes := #[24] }, type := 40, pos := "laws.go:211", after := #[{ on := 3, ground := Ground.data }], guard := none }) rfl (fun K hK => ?kd224) AllReadyH.nil
        (have hg := HC1; clear hg; (try go_simp); go_at_call 16; refine (HC1.out _ (by first | exact Or.inl rfl | exact Or.inr rfl)).mono ?_; rintro e v1 ⟨G1, c1, rfl, u1, gz1, sr1, s31, b1v, bd1, kx⟩; clear HC1; have zw1 : w16.heap.size ≤ v1.heap.size := bd1.size; have kz := (Keep.refl 0 0 v1).alloc (.cells #[] 94); have zz1 := kz.size; have b1vz := (kz.cell (p := ⟨w9.heap.size, 1, none⟩) (by show w9.heap.size < _; omega) (by first | (show w9.heap.size < 0 ∨ 0 ≤ w9.heap.size; omega) | (show w9.heap.size < w16.heap.size ∨ w16.heap.size + 1 ≤ w9.heap.size; omega) | (show w9.heap.size < v1.heap.size ∨ v1.heap.size + 1 ≤ w9.heap.size; omega) | (show w9.heap.size < g6 ∨ g6 + 1 ≤ w9.heap.size; omega))).trans b1v; have u1z := u1.keep kz (by omega))
        (try go_wp2_with fail)
        refine hK.out _ _ ?sd224 (fun hHeld1 => ?td224)
        · first | assumption | ((try dsimp only); first | assumption | go_keep)
        clear hK K hHeld0
        try simp only [Act.put, List.setIfInBounds_toArray, List.set_cons_zero, List.set_cons_succ]
        as_aux_lemma =>
         refine wpAnyH_take (i := 5) (oi := { dst := some 252, op := Op.field 40 (Operand.tmp 251) 1, type := 38, pos := "laws.go:211", after := #[{ on := 4, ground := Ground.data }], guard := none }) (v := ?vd225) rfl (by as_aux_lemma => kernel_rfl) (by as_aux_lemma => kernel_rfl) (by as_aux_lemma => kernel_rfl) (fun _ _ _ h => h) (Or.inl ⟨(by as_aux_lemma => rfl), ?yd225⟩) (by assumption) ?rd225
         case yd225 =>
           intro w hSw
           (try dsimp only at hSw)
           go_simp
           (try with_reducible rfl)
         try simp only [Act.put, List.setIfInBounds_toArray, List.set_cons_zero, List.set_cons_succ]
         refine wpAnyH_ready (rs := [0]) (by as_aux_lemma => kernel_rfl) (by simp) ?rd226
         refine AllReadyH.cons (o := { dst := some 247, op := Op.buildSlice 38 0 #[], type := 38, pos := "laws.go:211", after := #[], guard := none }) rfl (fun K hK => ?kd227) AllReadyH.nil
         go_simp
         refine hK.out _ _ ?sd227 (fun hHeld2 => ?td227)
         · first | assumption | ((try dsimp only); first | assumption | go_keep)
         clear hK K hHeld1
         try simp only [Act.put, List.setIfInBounds_toArray, List.set_cons_zero, List.set_cons_succ]
         as_aux_lemma =>
          refine wpAnyH_ready (rs := [6]) (by as_aux_lemma => kernel_rfl) (by simp) ?rd228
          refine AllReadyH.cons (o := { dst := some 253, op := Op.call { callee := Callee.builtin Builtin.append, args := #[Operand.tmp 247, Operand.tmp 252], argTypes := #[38, 38] }, type := 38, pos := "laws.go:211", after := #[{ on := 0, ground := Ground.data }, { on := 5, ground := Ground.data }, { on := 4, ground := Ground.chain }], guard := none }) rfl (fun K hK => ?kd229) AllReadyH.nil
          (have hg := gz1; clear hg; refine step_append_atoms (by rfl) (.tmp 247) (.tmp 252) 38 (by rfl) w16.heap.size I0 (.agg #[.int .i64 0, .int .i64 0, .int .i64 0]) Try.underlying38 hii iz0 iz1 iz2 rfl v1.heap.size 0 0 [] (by rfl) (⟨(World.ownsRow_lit (base := w16.heap.size) v1 #[] 0 zw1 (Nat.zero_le _) rfl : (v1.alloc (.cells #[] 94)).ownsRow _ _ 3 _ 0 []), Nat.zero_le _, fun x hx => by simp at hx⟩ : OwnA (v1.alloc (.cells #[] 94)) w16.heap.size (some ⟨v1.heap.size, 0, none⟩) 0 0 []) G1 m1 c1 _ _ q1 (by rfl) u1z.1 gz1 (by omega) (by first | omega | (simp; omega)) ?_; intro g6 c6 W1 hO1 hgr1; rw [List.nil_append, Nat.zero_add] at hO1; have kW : Keep v1.heap.size (v1.heap.size + 1) (v1.alloc (.cells #[] 94)) W1 := Keep.of_append hgr1; have zW := kW.size; have zW1 : w16.heap.size ≤ W1.heap.size := (by first | omega | (simp at zW; omega)); have sr2 := (sr1.keep kz (by omega)).keep kW (by omega); have s32 := (s31.keep kz (by omega)).keep kW (by omega); have b1W := (kW.cell (p := ⟨w9.heap.size, 1, none⟩) (by show w9.heap.size < _; omega) (by first | (show w9.heap.size < 0 ∨ 0 ≤ w9.heap.size; omega) | (show w9.heap.size < w16.heap.size ∨ w16.heap.size + 1 ≤ w9.heap.size; omega) | (show w9.heap.size < v1.heap.size ∨ v1.heap.size + 1 ≤ w9.heap.size; omega) | (show w9.heap.size < g6 ∨ g6 + 1 ≤ w9.heap.size; omega))).trans b1vz; have bd2 : Below w16.heap.size w16 W1 := (bd1.alloc zw1 (.cells #[] 94)).trans (kW.below (by omega) (bd1.alloc zw1 (.cells #[] 94)).size); clear gz1)
          refine hK.out _ _ ?sd229 (fun hHeld3 => ?td229)
          · first | assumption | ((try dsimp only); first | assumption | go_keep)
          clear hK K hHeld2
          try simp only [Act.put, List.setIfInBounds_toArray, List.set_cons_zero, List.set_cons_succ]
          as_aux_lemma =>
           refine wpAnyH_ready (rs := [10]) (by as_aux_lemma => kernel_rfl) (by simp) ?rd230
           refine AllReadyH.cons (o := { dst := some 257, op := Op.call { callee := Callee.value (Operand.func 16), args := #[Operand.tmp 256], argTypes := #[24] }, type := 40, pos := "laws.go:211", after := #[{ on := 9, ground := Ground.data }, { on := 6, ground := Ground.chain }], guard := none }) rfl (fun K hK => ?kd231) AllReadyH.nil
           (have hg := sr2; have hg2 := HC2; clear hg hg2; (try go_simp); go_at_call 16; refine (HC2.out _ W1 sr2).mono ?_; rintro e v2 ⟨G2', c2, rfl, u2, gz2, hb2⟩; have kx2 := Keep.of_below hb2 0 0; have zv2 := hb2.size; have hO2 := hO1.keep kx2 (.inl (Nat.zero_le _)); have s33 := s32.keep kx2 (by omega); have bd3 := bd2.trans (hb2.mono bd2.size); have b1v2 := (kx2.cell (p := ⟨w9.heap.size, 1, none⟩) (by show w9.heap.size < _; omega) (by first | (show w9.heap.size < 0 ∨ 0 ≤ w9.heap.size; omega) | (show w9.heap.size < w16.heap.size ∨ w16.heap.size + 1 ≤ w9.heap.size; omega) | (show w9.heap.size < v1.heap.size ∨ v1.heap.size + 1 ≤ w9.heap.size; omega) | (show w9.heap.size < g6 ∨ g6 + 1 ≤ w9.heap.size; omega))).trans b1W; clear HC2)
           (try go_wp2_with fail)
           refine hK.out _ _ ?sd231 (fun hHeld4 => ?td231)
           · first | assumption | ((try dsimp only); first | assumption | go_keep)
           clear hK K hHeld3
           try simp only [Act.put, List.setIfInBounds_toArray, List.set_cons_zero, List.set_cons_succ]
           as_aux_lemma =>
            refine wpAnyH_take (i := 11) (oi := { dst := some 258, op := Op.field 40 (Operand.tmp 257) 1, type := 38, pos := "laws.go:211", after := #[{ on := 10, ground := Ground.data }], guard := none }) (v := ?vd232) rfl (by as_aux_lemma => kernel_rfl) (by as_aux_lemma => kernel_rfl) (by as_aux_lemma => kernel_rfl) (fun _ _ _ h => h) (Or.inl ⟨(by as_aux_lemma => rfl), ?yd232⟩) (by assumption) ?rd232
            case yd232 =>
              intro w hSw
              (try dsimp only at hSw)
              go_simp
              (try with_reducible rfl)
            try simp only [Act.put, List.setIfInBounds_toArray, List.set_cons_zero, List.set_cons_succ]
            refine wpAnyH_ready (rs := [12]) (by as_aux_lemma => kernel_rfl) (by simp) ?rd233
            refine AllReadyH.cons (o := { dst := some 259, op := Op.call { callee := Callee.builtin Builtin.append, args := #[Operand.tmp 253, Operand.tmp 258], argTypes := #[38, 38] }, type := 38, pos := "laws.go:211", after := #[{ on := 6, ground := Ground.data }, { on := 11, ground := Ground.data }, { on := 10, ground := Ground.chain }], guard := none }) rfl (fun K hK => ?kd234) AllReadyH.nil
            (have hg := gz2; clear hg; refine step_append_atoms (by rfl) (.tmp 253) (.tmp 258) 38 (by rfl) w16.heap.size I0 (.agg #[.int .i64 0, .int .i64 0, .int .i64 0]) Try.underlying38 hii iz0 iz1 iz2 rfl g6 m1 c6 q1 (by rfl) hO2 G2' m2 c2 _ _ q2 (by rfl) u2.1 gz2 (by omega) bd3.size ?_; intro g8 c8 W2 hO3 hgr2; have kW2 : Keep g6 (g6 + 1) v2 W2 := Keep.of_append hgr2; have hg6 : w16.heap.size ≤ g6 := hO2.block; have s34 := s33.keep kW2 (by omega); have bd4 := bd3.trans (kW2.below (by omega) bd3.size); have b1W2 := (kW2.cell (p := ⟨w9.heap.size, 1, none⟩) (by show w9.heap.size < _; omega) (by first | (show w9.heap.size < 0 ∨ 0 ≤ w9.heap.size; omega) | (show w9.heap.size < w16.heap.size ∨ w16.heap.size + 1 ≤ w9.heap.size; omega) | (show w9.heap.size < v1.heap.size ∨ v1.heap.size + 1 ≤ w9.heap.size; omega) | (show w9.heap.size < g6 ∨ g6 + 1 ≤ w9.heap.size; omega))).trans b1v2; clear gz2)
            refine hK.out _ _ ?sd234 (fun hHeld5 => ?td234)
            · first | assumption | ((try dsimp only); first | assumption | go_keep)
            clear hK K hHeld4
            try simp only [Act.put, List.setIfInBounds_toArray, List.set_cons_zero, List.set_cons_succ]
            as_aux_lemma =>
             refine wpAnyH_ready (rs := [15]) (by as_aux_lemma => kernel_rfl) (by simp) ?rd235
             refine AllReadyH.cons (o := { dst := some 262, op := Op.call { callee := Callee.value (Operand.func 23), args := #[Operand.tmp 259, Operand.tmp 261], argTypes := #[38, 38] }, type := 4, pos := "laws.go:211", after := #[{ on := 12, ground := Ground.data }, { on := 14, ground := Ground.data }, { on := 12, ground := Ground.chain }], guard := none }) rfl (fun K hK => ?kd236) AllReadyH.nil
             (have hg := s34; clear hg; (try go_simp); go_at_call 23; refine (implSameAtoms_any (some ⟨g8, 0, none⟩) G3 (m1 + m2) c8 mm cap3 _ _ _ _ (q1 ++ q2) zs3 W2 true (by omega) hmm3 hO3.wi.1 s34 (decide_eq_true EQ.out)).mono ?_; rintro e v5 ⟨rfl, hk5⟩; have hb5 : Below w16.heap.size W2 v5 := hk5.below (by omega) bd4.size; have bdF := bd4.trans hb5; have b1v5 := (hb5.cell (p := ⟨w9.heap.size, 1, none⟩) (show w9.heap.size < w16.heap.size from hbl)).trans b1W2)
             (try go_wp2_with fail)
             refine hK.out _ _ ?sd236 (fun hHeld6 => ?td236)
             · first | assumption | ((try dsimp only); first | assumption | go_keep)
             clear hK K hHeld5
             try simp only [Act.put, List.setIfInBounds_toArray, List.set_cons_zero, List.set_cons_succ]
             as_aux_lemma =>
              refine wpAnyH_take (i := 16) (oi := { dst := some 2, op := Op.assign (Operand.tmp 262), type := 4, pos := "laws.go:211", after := #[{ on := 15, ground := Ground.data }, { on := 15, ground := Ground.chain }, { on := 0, ground := Ground.phase }, { on := 1, ground := Ground.phase }, { on := 2, ground := Ground.phase }, { on := 3, ground := Ground.phase }, { on := 4, ground := Ground.phase }, { on := 5, ground := Ground.phase }, { on := 6, ground := Ground.phase }, { on := 7, ground := Ground.phase }, { on := 8, ground := Ground.phase }, { on := 9, ground := Ground.phase }, { on := 10, ground := Ground.phase }, { on := 11, ground := Ground.phase }, { on := 12, ground := Ground.phase }, { on := 13, ground := Ground.phase }, { on := 14, ground := Ground.phase }, { on := 15, ground := Ground.phase }], guard := none }) (v := ?vd237) rfl (by as_aux_lemma => kernel_rfl) (by as_aux_lemma => kernel_rfl) (by as_aux_lemma => kernel_rfl) (fun _ _ _ h => h) (Or.inl ⟨(by as_aux_lemma => rfl), ?yd237⟩) (by assumption) ?rd237
              case yd237 =>
                intro w hSw
                (try dsimp only at hSw)
                go_simp
                (try with_reducible rfl)
              try simp only [Act.put, List.setIfInBounds_toArray, List.set_cons_zero, List.set_cons_succ]
              refine wpAnyH_done (by as_aux_lemma => kernel_rfl) ?ed24_0_6_10_12_15 _
              all_goals
                go_wp2_with fail
                go_meet
                case rel => exact ⟨rfl, bdF⟩
  case rest =>
  obtain ⟨rfl, hb17⟩ := hcut
  have hk17 := Keep.of_below hb17 0 0
  have hz17 := hb17.size
  replace h := h.keep hk17 (by omega)
  replace rl := rl.keep hk17 (by omega)
  replace rx := rx.keep hk17 (by omega)
  replace bl := bl.keep hk17 (by omega)
  replace bi := bi.keep hk17 (by omega)
  replace za := za.keep hk17 (by omega)
  replace ba := ba.keep hk17 (by omega)
  replace rm := rm.keep hk17 (by omega)
  replace bm := bm.keep hk17 (by omega)
  replace zt := zt.keep hk17 (by omega)
  replace bt := bt.keep hk17 (by omega)
  replace ra := ra.keep hk17 (by omega)
  replace z3 := z3.keep hk17 (by omega)
  replace bs_ := bs_.keep hk17 (by omega)
  replace bb := bb.trans (hk17.below (by omega) bb.size)
  clear hb17 hk17
  generalize hwc17 : wc = w17 at *
  clear hwc17
  go_wp2_with fail
  go_ret
  exact ⟨rfl, bb⟩

end Go.Proofs.Ytlgpbnngepkkmaa
