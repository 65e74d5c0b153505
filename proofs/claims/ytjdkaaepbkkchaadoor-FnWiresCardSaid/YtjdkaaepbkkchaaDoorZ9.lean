/-
  W33, in one text.
-/
import Derived.Test.YtjdkaaepbkkchaaDoorZ8
import Derived.Test.YtjdkaaepbkkchaaDoorZ7
import Derived.Test.YtjdkaaepbkkchaaDoorW18
import Derived.Deep.CutRange
namespace Go.Proofs.YtjdkaaepbkkchaaDoor
open Go.RowKit
set_option linter.unusedVariables false
set_option maxRecDepth 100000

theorem decRep_link {ps : List Int} (hb : ∀ x ∈ ps, 0 ≤ x ∧ x ≤ 255) {q0 q1 q2 q3 : Int} (h : decRepV ps = .agg #[.int .i64 q0, .int .i64 q1, .int .i64 q2, .int .i64 q3]) (h0 : q0 = 0) : repAns q1 q2 q3 = ps := by
  unfold decRepV at h
  split at h
  · rename_i hr
    simp at h
    obtain ⟨_, rfl, rfl, rfl⟩ := h
    exact (rep_same hb (by rw [hr.1]; exact Nat.le_refl _)).2 hr
  · simp at h
    omega
theorem decRep_back {a s c : Int} (h : replyCode a s c = 0) : decRepV (repAns a s c) = .agg #[.int .i64 0, .int .i64 a, .int .i64 s, .int .i64 c] := by
  have h' : (0 ≤ a ∧ a ≤ 9000) ∧ stampsOk s c := by
    by_cases k : (0 ≤ a ∧ a ≤ 9000) ∧ stampsOk s c
    · exact k
    · rw [replyCode_no k] at h; omega
  obtain ⟨ha, hs, hc⟩ := h'
  have s4 : sh a 4 = 0 := by
    unfold sh
    rw [show (256 : Int) ^ 4 = 4294967296 from by decide]
    omega
  have s2 : sh s 2 = 0 := by
    unfold sh
    rw [show (256 : Int) ^ 2 = 65536 from by decide]
    omega
  have s3 : sh c 3 = 0 := by
    unfold sh
    rw [show (256 : Int) ^ 3 = 16777216 from by decide]
    omega
  have e : repAns a s c = digs a 4 ++ (digs s 2 ++ digs c 3) := by unfold repAns repL; rw [if_pos h]; try simp
  have r1 : rv1 (repAns a s c) = a := by
    rw [e]; unfold rv1
    rw [List.take_left' (digs_len a 4), val_digs a 4 s4]
  have r2 : rv2 (repAns a s c) = s := by
    rw [e]; unfold rv2
    rw [List.drop_left' (digs_len a 4), List.take_left' (digs_len s 2), val_digs s 2 s2]
  have r3 : rv3 (repAns a s c) = c := by
    rw [e]; unfold rv3
    rw [show digs a 4 ++ (digs s 2 ++ digs c 3) = (digs a 4 ++ digs s 2) ++ digs c 3 by simp, List.drop_left' (by simp [digs_len]), List.take_of_length_le (by rw [digs_len]; exact Nat.le_refl _), val_digs c 3 s3]
  have hr : isRep (repAns a s c) := ⟨by rw [e]; simp [digs_len], by rw [r1, r2, r3]; exact h⟩
  unfold decRepV
  rw [if_pos hr, r1, r2, r3]
theorem Rd.addr {w : World} {lo hi n c : Nat} {A : Option Addr} {xs : List Int} (h : Rd w lo hi A n xs) (hn : 0 < n) : (A = none ∧ c = 0) ∨ ∃ g off, A = some ⟨g, off, none⟩ := by
  obtain ⟨b, off, e, _⟩ := h.at_ hn
  exact .inr ⟨b, off, e⟩
set_option maxHeartbeats 8000000 in
theorem wires (A : Option Addr) (n c : Nat) (xs : List Int) (w : World) (h : Rd w 0 w.heap.size A n xs) (ea : Addr) (ke : Ke ea w) :
    Calls Tryd.prog 3 #[.slice A n c] w fun e w' => e = .returned (.bool true) ∧ Below w.heap.size w w' := by
  have hint := h.int
  have hke := ke.1
  by_cases hbig : 1048576 < n
  · go_enter Tryd.func3, Tryd.ntmps3
    go_wp2_with fail
    refine (lwBig_any A n c _ true (decide_eq_true hbig)).mono ?_
    rintro e _ ⟨rfl, rfl⟩
    go_wp2_with fail
    go_ret
    exact ⟨rfl, Below.refl _ _⟩
  go_enter Tryd.func3, Tryd.ntmps3
  go_wp2_with fail
  refine (lwBig_any A n c w false (decide_eq_false hbig)).mono ?_
  rintro e _ ⟨rfl, rfl⟩
  have bb := Below.refl w.heap.size w
  go_wp2_with fail
  refine (drawEncBody_any A n c _ xs w h).mono ?_
  rintro e w1 ⟨bs, st, ec, gz, nz, capz, zs, rfl, hn5, zr, hsm, hb1⟩
  have hk1 := Keep.of_below hb1 0 0
  have hz1 := hb1.size
  replace h := h.keep hk1 (by omega)
  replace ke := ke.keep hk1 (by omega)
  replace bb := bb.trans (hk1.below (by omega) bb.size)
  clear hb1 hk1
  replace zr := zr.wide (lo' := 0) (Nat.zero_le _) (Nat.le_refl _) zr.top
  have IE := Lib.hid (fun hi' w' (h' : Rt w' 0 hi' (some ⟨gz, 0, none⟩) nz zs) => implEncBody_any bs st ec _ nz capz hi' zs w' h')
  have SE := Lib.hid (fun hi' w' (h' : Rt w' 0 hi' (some ⟨gz, 0, none⟩) nz zs) => specEncBody_any bs st ec _ nz capz hi' zs w' h')
  have IF := Lib.hid (fun hi' w' (h' : Rt w' 0 hi' (some ⟨gz, 0, none⟩) nz zs) => implBodyFault_any bs st ec _ nz capz hi' zs w' h')
  obtain ⟨p, hp⟩ : ∃ p, bodyCode bs st ec zs = p := ⟨_, rfl⟩
  obtain ⟨ye, hye⟩ : ∃ ye, bodyAns bs st ec zs = ye := ⟨_, rfl⟩
  rw [hp, hye] at IE SE
  rw [hp] at IF
  have HP := Lib.hid hp
  have HYE := Lib.hid hye
  have HZL := Lib.hid zr.len
  clear hp hye hsm
  go_wp2_with fail
  have hk2 := (Keep.refl 0 0 w1).alloc (.cells #[.int .i64 bs, .int .i64 st, .int .i64 ec, .slice (some ⟨gz, 0, none⟩) nz capz] 26)
  have bb3 := BoxL.new w1 [.int .i64 bs, .int .i64 st, .int .i64 ec, .slice (some ⟨gz, 0, none⟩) nz capz] #[.int .i64 bs, .int .i64 st, .int .i64 ec, .slice (some ⟨gz, 0, none⟩) nz capz] 26 rfl
  have hz2 : w1.heap.size + 1 ≤ (w1.alloc (.cells #[.int .i64 bs, .int .i64 st, .int .i64 ec, .slice (some ⟨gz, 0, none⟩) nz capz] 26)).heap.size := by simp
  replace h := h.keep hk2 (by omega)
  replace ke := ke.keep hk2 (by omega)
  replace zr := zr.keep hk2 (by omega)
  replace bb := bb.trans (hk2.below (by omega) bb.size)
  clear hk2
  generalize w1.alloc (.cells #[.int .i64 bs, .int .i64 st, .int .i64 ec, .slice (some ⟨gz, 0, none⟩) nz capz] 26) = w2 at *
  refine (IE.out _ w2 zr).mono ?_
  rintro e w3 ⟨Ge, cape, rfl, hge, hce, ve, hb3⟩
  have hk3 := Keep.of_below hb3 0 0
  have hz3 := hb3.size
  replace h := h.keep hk3 (by omega)
  replace ke := ke.keep hk3 (by omega)
  replace zr := zr.keep hk3 (by omega)
  replace bb3 := bb3.keep hk3 (by omega)
  replace bb := bb.trans (hk3.below (by omega) bb.size)
  clear hb3 hk3
  have bb3lt := bb3.lt
  have bb3c0 := bb3.at_ 0 _ rfl
  have bb3c1 := bb3.at_ 1 _ rfl
  have bb3c2 := bb3.at_ 2 _ rfl
  have bb3c3 := bb3.at_ 3 _ rfl
  go_wp2_with fail
  clear bb3lt bb3c0 bb3c1 bb3c2 bb3c3
  have hk4 := (Keep.refl 0 0 w3).alloc (.cells #[.int .i64 p, .slice Ge ye.length cape] 29)
  have be := BoxL.new w3 [.int .i64 p, .slice Ge ye.length cape] #[.int .i64 p, .slice Ge ye.length cape] 29 rfl
  have hz4 : w3.heap.size + 1 ≤ (w3.alloc (.cells #[.int .i64 p, .slice Ge ye.length cape] 29)).heap.size := by simp
  replace h := h.keep hk4 (by omega)
  replace ke := ke.keep hk4 (by omega)
  replace zr := zr.keep hk4 (by omega)
  replace bb3 := bb3.keep hk4 (by omega)
  replace ve := ve.keep hk4 (by omega)
  replace bb := bb.trans (hk4.below (by omega) bb.size)
  clear hk4
  generalize w3.alloc (.cells #[.int .i64 p, .slice Ge ye.length cape] 29) = w4 at *
  refine (drawDecBody_any A n c _ xs w4 h).mono ?_
  rintro e w5 ⟨gp, np, cp, yp, rfl, pr, hpc, hp2, hb5⟩
  have hk5 := Keep.of_below hb5 0 0
  have hz5 := hb5.size
  replace h := h.keep hk5 (by omega)
  replace ke := ke.keep hk5 (by omega)
  replace zr := zr.keep hk5 (by omega)
  replace bb3 := bb3.keep hk5 (by omega)
  replace ve := ve.keep hk5 (by omega)
  replace be := be.keep hk5 (by omega)
  replace bb := bb.trans (hk5.below (by omega) bb.size)
  clear hb5 hk5
  obtain ⟨cd, b2, s2, e2, ys, ht⟩ := dec_some yp
  have SD := Lib.hid (fun hi' w' (r : Rd w' 0 hi' (some ⟨gp, 0, none⟩) np yp) => specDecBody_any _ np cp hi' yp cd b2 s2 e2 ys w' r hpc (by omega) ht)
  have HPL := Lib.hid pr.len
  have HPB := Lib.hid pr.byte
  go_wp2_with fail
  refine (implDecBody_any ea _ np cp _ yp cd b2 s2 e2 ys w5 pr hpc (.inr ⟨_, _, rfl⟩) ke ht).mono ?_
  rintro e w6 ⟨Gd, capd, rfl, od, hb6⟩
  have hk6 := Keep.of_below hb6 0 0
  have hz6 := hb6.size
  replace h := h.keep hk6 (by omega)
  replace ke := ke.keep hk6 (by omega)
  replace zr := zr.keep hk6 (by omega)
  replace bb3 := bb3.keep hk6 (by omega)
  replace ve := ve.keep hk6 (by omega)
  replace be := be.keep hk6 (by omega)
  replace pr := pr.keep hk6 (by omega)
  replace bb := bb.trans (hk6.below (by omega) bb.size)
  clear hb6 hk6
  go_wp2_with fail
  have hk7 := (Keep.refl 0 0 w6).alloc (.cells #[.int .i64 cd, .int .i64 b2, .int .i64 s2, .int .i64 e2, .slice Gd ys.length capd] 33)
  have bdd := BoxL.new w6 [.int .i64 cd, .int .i64 b2, .int .i64 s2, .int .i64 e2, .slice Gd ys.length capd] #[.int .i64 cd, .int .i64 b2, .int .i64 s2, .int .i64 e2, .slice Gd ys.length capd] 33 rfl
  have hz7 : w6.heap.size + 1 ≤ (w6.alloc (.cells #[.int .i64 cd, .int .i64 b2, .int .i64 s2, .int .i64 e2, .slice Gd ys.length capd] 33)).heap.size := by simp
  replace h := h.keep hk7 (by omega)
  replace ke := ke.keep hk7 (by omega)
  replace zr := zr.keep hk7 (by omega)
  replace bb3 := bb3.keep hk7 (by omega)
  replace ve := ve.keep hk7 (by omega)
  replace be := be.keep hk7 (by omega)
  replace pr := pr.keep hk7 (by omega)
  replace od := od.keep hk7 (by omega)
  replace bb := bb.trans (hk7.below (by omega) bb.size)
  clear hk7
  generalize w6.alloc (.cells #[.int .i64 cd, .int .i64 b2, .int .i64 s2, .int .i64 e2, .slice Gd ys.length capd] 33) = w7 at *
  refine (drawEncReply_any A n c _ xs w7 h).mono ?_
  rintro e w8 ⟨ra, rs, rc, rfl, hb8⟩
  have hk8 := Keep.of_below hb8 0 0
  have hz8 := hb8.size
  replace h := h.keep hk8 (by omega)
  replace ke := ke.keep hk8 (by omega)
  replace zr := zr.keep hk8 (by omega)
  replace bb3 := bb3.keep hk8 (by omega)
  replace ve := ve.keep hk8 (by omega)
  replace be := be.keep hk8 (by omega)
  replace pr := pr.keep hk8 (by omega)
  replace od := od.keep hk8 (by omega)
  replace bdd := bdd.keep hk8 (by omega)
  replace bb := bb.trans (hk8.below (by omega) bb.size)
  clear hb8 hk8
  have IE2 := Lib.hid (fun w' => implEncReply_any ra rs rc w')
  have SE2 := Lib.hid (fun w' => specEncReply_any ra rs rc w')
  have IF2 := Lib.hid (fun w' => implReplyFault_any ra rs rc w')
  obtain ⟨q, hq⟩ : ∃ q, replyCode ra rs rc = q := ⟨_, rfl⟩
  obtain ⟨yf, hyf⟩ : ∃ yf, repAns ra rs rc = yf := ⟨_, rfl⟩
  rw [hq, hyf] at IE2 SE2
  rw [hq] at IF2
  have HQ := Lib.hid hq
  have HYF := Lib.hid hyf
  clear hq hyf
  go_wp2_with fail
  have hk9 := (Keep.refl 0 0 w8).alloc (.cells #[.int .i64 ra, .int .i64 rs, .int .i64 rc] 36)
  have br := BoxL.new w8 [.int .i64 ra, .int .i64 rs, .int .i64 rc] #[.int .i64 ra, .int .i64 rs, .int .i64 rc] 36 rfl
  have hz9 : w8.heap.size + 1 ≤ (w8.alloc (.cells #[.int .i64 ra, .int .i64 rs, .int .i64 rc] 36)).heap.size := by simp
  replace h := h.keep hk9 (by omega)
  replace ke := ke.keep hk9 (by omega)
  replace zr := zr.keep hk9 (by omega)
  replace bb3 := bb3.keep hk9 (by omega)
  replace ve := ve.keep hk9 (by omega)
  replace be := be.keep hk9 (by omega)
  replace pr := pr.keep hk9 (by omega)
  replace od := od.keep hk9 (by omega)
  replace bdd := bdd.keep hk9 (by omega)
  replace bb := bb.trans (hk9.below (by omega) bb.size)
  clear hk9
  generalize w8.alloc (.cells #[.int .i64 ra, .int .i64 rs, .int .i64 rc] 36) = w9 at *
  refine (IE2.out w9).mono ?_
  rintro e w10 ⟨Gf, capf, rfl, hgf, hcf, vf, hb10⟩
  have hk10 := Keep.of_below hb10 0 0
  have hz10 := hb10.size
  replace h := h.keep hk10 (by omega)
  replace ke := ke.keep hk10 (by omega)
  replace zr := zr.keep hk10 (by omega)
  replace bb3 := bb3.keep hk10 (by omega)
  replace ve := ve.keep hk10 (by omega)
  replace be := be.keep hk10 (by omega)
  replace pr := pr.keep hk10 (by omega)
  replace od := od.keep hk10 (by omega)
  replace bdd := bdd.keep hk10 (by omega)
  replace br := br.keep hk10 (by omega)
  replace bb := bb.trans (hk10.below (by omega) bb.size)
  clear hb10 hk10
  have brlt := br.lt
  have brc0 := br.at_ 0 _ rfl
  have brc1 := br.at_ 1 _ rfl
  have brc2 := br.at_ 2 _ rfl
  go_wp2_with fail
  clear brlt brc0 brc1 brc2
  have hk11 := (Keep.refl 0 0 w10).alloc (.cells #[.int .i64 q, .slice Gf yf.length capf] 29)
  have bf := BoxL.new w10 [.int .i64 q, .slice Gf yf.length capf] #[.int .i64 q, .slice Gf yf.length capf] 29 rfl
  have hz11 : w10.heap.size + 1 ≤ (w10.alloc (.cells #[.int .i64 q, .slice Gf yf.length capf] 29)).heap.size := by simp
  replace h := h.keep hk11 (by omega)
  replace ke := ke.keep hk11 (by omega)
  replace zr := zr.keep hk11 (by omega)
  replace bb3 := bb3.keep hk11 (by omega)
  replace ve := ve.keep hk11 (by omega)
  replace be := be.keep hk11 (by omega)
  replace pr := pr.keep hk11 (by omega)
  replace od := od.keep hk11 (by omega)
  replace bdd := bdd.keep hk11 (by omega)
  replace br := br.keep hk11 (by omega)
  replace vf := vf.keep hk11 (by omega)
  replace bb := bb.trans (hk11.below (by omega) bb.size)
  clear hk11
  generalize w10.alloc (.cells #[.int .i64 q, .slice Gf yf.length capf] 29) = w11 at *
  refine (drawDecReply_any A n c _ xs w11 h).mono ?_
  rintro e w12 ⟨gd, nd, cdd, yd, rfl, dr, hdc, hd2, hb12⟩
  have hk12 := Keep.of_below hb12 0 0
  have hz12 := hb12.size
  replace h := h.keep hk12 (by omega)
  replace ke := ke.keep hk12 (by omega)
  replace zr := zr.keep hk12 (by omega)
  replace bb3 := bb3.keep hk12 (by omega)
  replace ve := ve.keep hk12 (by omega)
  replace be := be.keep hk12 (by omega)
  replace pr := pr.keep hk12 (by omega)
  replace od := od.keep hk12 (by omega)
  replace bdd := bdd.keep hk12 (by omega)
  replace br := br.keep hk12 (by omega)
  replace vf := vf.keep hk12 (by omega)
  replace bf := bf.keep hk12 (by omega)
  replace bb := bb.trans (hk12.below (by omega) bb.size)
  clear hb12 hk12
  obtain ⟨q0, q1, q2, q3, hqq⟩ := decRepV_form yd
  have SG := Lib.hid (fun hi' w' (r : Rd w' 0 hi' (some ⟨gd, 0, none⟩) nd yd) => specDecReply_any _ nd cdd hi' yd w' r hdc)
  have IG := Lib.hid (fun hi' w' (r : Rd w' 0 hi' (some ⟨gd, 0, none⟩) nd yd) (k' : Ke ea w') => implDecReply_any ea _ nd cdd hi' yd w' r hdc (.inr ⟨_, _, rfl⟩) k')
  rw [hqq] at SG IG
  have HQQ := Lib.hid hqq
  have HDB := Lib.hid dr.byte
  clear hqq
  go_wp2_with fail
  refine (IG.out _ w12 dr ke).mono ?_
  rintro e w13 ⟨rfl, hb13⟩
  have hk13 := Keep.of_below hb13 0 0
  have hz13 := hb13.size
  replace h := h.keep hk13 (by omega)
  replace ke := ke.keep hk13 (by omega)
  replace zr := zr.keep hk13 (by omega)
  replace bb3 := bb3.keep hk13 (by omega)
  replace ve := ve.keep hk13 (by omega)
  replace be := be.keep hk13 (by omega)
  replace pr := pr.keep hk13 (by omega)
  replace od := od.keep hk13 (by omega)
  replace bdd := bdd.keep hk13 (by omega)
  replace br := br.keep hk13 (by omega)
  replace vf := vf.keep hk13 (by omega)
  replace bf := bf.keep hk13 (by omega)
  replace dr := dr.keep hk13 (by omega)
  replace bb := bb.trans (hk13.below (by omega) bb.size)
  clear hb13 hk13
  go_wp2_with fail
  have hk14 := (Keep.refl 0 0 w13).alloc (.cells #[.int .i64 q0, .int .i64 q1, .int .i64 q2, .int .i64 q3] 40)
  have bg := BoxL.new w13 [.int .i64 q0, .int .i64 q1, .int .i64 q2, .int .i64 q3] #[.int .i64 q0, .int .i64 q1, .int .i64 q2, .int .i64 q3] 40 rfl
  have hz14 : w13.heap.size + 1 ≤ (w13.alloc (.cells #[.int .i64 q0, .int .i64 q1, .int .i64 q2, .int .i64 q3] 40)).heap.size := by simp
  replace h := h.keep hk14 (by omega)
  replace ke := ke.keep hk14 (by omega)
  replace zr := zr.keep hk14 (by omega)
  replace bb3 := bb3.keep hk14 (by omega)
  replace ve := ve.keep hk14 (by omega)
  replace be := be.keep hk14 (by omega)
  replace pr := pr.keep hk14 (by omega)
  replace od := od.keep hk14 (by omega)
  replace bdd := bdd.keep hk14 (by omega)
  replace br := br.keep hk14 (by omega)
  replace vf := vf.keep hk14 (by omega)
  replace bf := bf.keep hk14 (by omega)
  replace dr := dr.keep hk14 (by omega)
  replace bb := bb.trans (hk14.below (by omega) bb.size)
  clear hk14
  generalize w13.alloc (.cells #[.int .i64 q0, .int .i64 q1, .int .i64 q2, .int .i64 q3] 40) = w14 at *
  go_upto_region 11 with fail
  go_cut [90] from 30 to 90 (fun sv wx => sv = .bool false ∧ Below w14.heap.size w14 wx)
  case first =>
    have fa : ∀ (x0 x1 x2 x3 : Int) (G : Option Addr) (n c : Nat) (w : World), (Instr.field 33 (.agg #[.int .i64 x0, .int .i64 x1, .int .i64 x2, .int .i64 x3, .slice G n c]) 0).run Tryd.prog w = .ok (.int .i64 x0) w := fun _ _ _ _ _ _ _ _ => by kernel_rfl
    have fb : ∀ (x0 x1 x2 x3 : Int) (G : Option Addr) (n c : Nat) (w : World), (Instr.field 33 (.agg #[.int .i64 x0, .int .i64 x1, .int .i64 x2, .int .i64 x3, .slice G n c]) 1).run Tryd.prog w = .ok (.agg #[.int .i64 x1, .int .i64 x2, .int .i64 x3, .slice G n c]) w := fun _ _ _ _ _ _ _ _ => by kernel_rfl
    have fc : ∀ (x1 x2 x3 : Int) (G : Option Addr) (n c : Nat) (w : World), (Instr.field 26 (.agg #[.int .i64 x1, .int .i64 x2, .int .i64 x3, .slice G n c]) 0).run Tryd.prog w = .ok (.int .i64 x1) w := fun _ _ _ _ _ _ _ => by kernel_rfl
    have fd : ∀ (x1 x2 x3 : Int) (G : Option Addr) (n c : Nat) (w : World), (Instr.field 26 (.agg #[.int .i64 x1, .int .i64 x2, .int .i64 x3, .slice G n c]) 3).run Tryd.prog w = .ok (.slice G n c) w := fun _ _ _ _ _ _ _ => by kernel_rfl
    have bd : Below w14.heap.size w14 w14.drew := ⟨rfl, rfl, rfl, Nat.le_refl _, fun _ _ => rfl⟩
    have szd := bd.size
    have FZ := Lib.hid (fun (w' : World) (kb : Below w14.heap.size w14 w') => zr.keep (Keep.of_below kb 0 0) (by omega))
    have FE := Lib.hid (fun (w' : World) (kb : Below w14.heap.size w14 w') => ve.1.keep (Keep.of_below kb 0 0) (by omega))
    have FP := Lib.hid (fun (w' : World) (kb : Below w14.heap.size w14 w') => pr.keep (Keep.of_below kb 0 0) (by omega))
    have FD := Lib.hid (fun (w' : World) (kb : Below w14.heap.size w14 w') => od.rt0.keep (Keep.of_below kb 0 0) (by omega))
    have FF := Lib.hid (fun (w' : World) (kb : Below w14.heap.size w14 w') => vf.1.keep (Keep.of_below kb 0 0) (by omega))
    have FG := Lib.hid (fun (w' : World) (kb : Below w14.heap.size w14 w') => dr.keep (Keep.of_below kb 0 0) (by omega))
    have HSB := Lib.hid (fun (w' : World) (kb : Below w14.heap.size w14 w') => (⟨(bb3.below kb).at_ 0 _ rfl, (bb3.below kb).at_ 1 _ rfl, (bb3.below kb).at_ 2 _ rfl, (bb3.below kb).at_ 3 _ rfl, (be.below kb).at_ 0 _ rfl, (be.below kb).at_ 1 _ rfl, (bdd.below kb).at_ 0 _ rfl, (bdd.below kb).at_ 1 _ rfl, (bdd.below kb).at_ 2 _ rfl, (bdd.below kb).at_ 3 _ rfl, (bdd.below kb).at_ 4 _ rfl, (br.below kb).at_ 0 _ rfl, (br.below kb).at_ 1 _ rfl, (br.below kb).at_ 2 _ rfl, (bf.below kb).at_ 0 _ rfl, (bf.below kb).at_ 1 _ rfl, (bg.below kb).at_ 0 _ rfl, (bg.below kb).at_ 1 _ rfl, (bg.below kb).at_ 2 _ rfl, (bg.below kb).at_ 3 _ rfl⟩ : w'.cell? ⟨w1.heap.size, 0, none⟩ = some (.int .i64 bs) ∧ w'.cell? ⟨w1.heap.size, 1, none⟩ = some (.int .i64 st) ∧ w'.cell? ⟨w1.heap.size, 2, none⟩ = some (.int .i64 ec) ∧ w'.cell? ⟨w1.heap.size, 3, none⟩ = some (.slice (some ⟨gz, 0, none⟩) nz capz) ∧ w'.cell? ⟨w3.heap.size, 0, none⟩ = some (.int .i64 p) ∧ w'.cell? ⟨w3.heap.size, 1, none⟩ = some (.slice Ge ye.length cape) ∧ w'.cell? ⟨w6.heap.size, 0, none⟩ = some (.int .i64 cd) ∧ w'.cell? ⟨w6.heap.size, 1, none⟩ = some (.int .i64 b2) ∧ w'.cell? ⟨w6.heap.size, 2, none⟩ = some (.int .i64 s2) ∧ w'.cell? ⟨w6.heap.size, 3, none⟩ = some (.int .i64 e2) ∧ w'.cell? ⟨w6.heap.size, 4, none⟩ = some (.slice Gd ys.length capd) ∧ w'.cell? ⟨w8.heap.size, 0, none⟩ = some (.int .i64 ra) ∧ w'.cell? ⟨w8.heap.size, 1, none⟩ = some (.int .i64 rs) ∧ w'.cell? ⟨w8.heap.size, 2, none⟩ = some (.int .i64 rc) ∧ w'.cell? ⟨w10.heap.size, 0, none⟩ = some (.int .i64 q) ∧ w'.cell? ⟨w10.heap.size, 1, none⟩ = some (.slice Gf yf.length capf) ∧ w'.cell? ⟨w13.heap.size, 0, none⟩ = some (.int .i64 q0) ∧ w'.cell? ⟨w13.heap.size, 1, none⟩ = some (.int .i64 q1) ∧ w'.cell? ⟨w13.heap.size, 2, none⟩ = some (.int .i64 q2) ∧ w'.cell? ⟨w13.heap.size, 3, none⟩ = some (.int .i64 q3)))
    clear h ke zr ve pr od vf dr bb bb3 be bdd br bf bg
    try simp only [List.append_eq, List.cons_append, List.nil_append]
    refine wp_region_held_drew (S := fun w' => w'.cell? ⟨w1.heap.size, 0, none⟩ = some (.int .i64 bs) ∧ w'.cell? ⟨w1.heap.size, 1, none⟩ = some (.int .i64 st) ∧ w'.cell? ⟨w1.heap.size, 2, none⟩ = some (.int .i64 ec) ∧ w'.cell? ⟨w1.heap.size, 3, none⟩ = some (.slice (some ⟨gz, 0, none⟩) nz capz) ∧ w'.cell? ⟨w3.heap.size, 0, none⟩ = some (.int .i64 p) ∧ w'.cell? ⟨w3.heap.size, 1, none⟩ = some (.slice Ge ye.length cape) ∧ w'.cell? ⟨w6.heap.size, 0, none⟩ = some (.int .i64 cd) ∧ w'.cell? ⟨w6.heap.size, 1, none⟩ = some (.int .i64 b2) ∧ w'.cell? ⟨w6.heap.size, 2, none⟩ = some (.int .i64 s2) ∧ w'.cell? ⟨w6.heap.size, 3, none⟩ = some (.int .i64 e2) ∧ w'.cell? ⟨w6.heap.size, 4, none⟩ = some (.slice Gd ys.length capd) ∧ w'.cell? ⟨w8.heap.size, 0, none⟩ = some (.int .i64 ra) ∧ w'.cell? ⟨w8.heap.size, 1, none⟩ = some (.int .i64 rs) ∧ w'.cell? ⟨w8.heap.size, 2, none⟩ = some (.int .i64 rc) ∧ w'.cell? ⟨w10.heap.size, 0, none⟩ = some (.int .i64 q) ∧ w'.cell? ⟨w10.heap.size, 1, none⟩ = some (.slice Gf yf.length capf) ∧ w'.cell? ⟨w13.heap.size, 0, none⟩ = some (.int .i64 q0) ∧ w'.cell? ⟨w13.heap.size, 1, none⟩ = some (.int .i64 q1) ∧ w'.cell? ⟨w13.heap.size, 2, none⟩ = some (.int .i64 q2) ∧ w'.cell? ⟨w13.heap.size, 3, none⟩ = some (.int .i64 q3)) (by kernel_rfl) ?sSa (fun hHeld0 => ?sRa)
    · first | exact HSB.out _ bd | ((try dsimp only); go_keep)
    refine wpAnyH_take (i := 0) (oi := { dst := some 30, op := Op.load 29 (Operand.tmp 4), type := 29, pos := "laws.go:248", after := #[], guard := none }) (v := ?va1) rfl (by as_aux_lemma => kernel_rfl) (by as_aux_lemma => kernel_rfl) (by as_aux_lemma => kernel_rfl) (fun _ _ _ h => h) (Or.inl ⟨(by as_aux_lemma => rfl), ?ya1⟩) (by assumption) ?ra1
    case ya1 =>
      intro w hSw
      (try dsimp only at hSw)
      go_simp
      (try with_reducible rfl)
    try simp only [Act.put, List.setIfInBounds_toArray, List.set_cons_zero, List.set_cons_succ]
    refine wpAnyH_take (i := 1) (oi := { dst := some 31, op := Op.load 26 (Operand.tmp 3), type := 26, pos := "laws.go:248", after := #[], guard := none }) (v := ?va2) rfl (by as_aux_lemma => kernel_rfl) (by as_aux_lemma => kernel_rfl) (by as_aux_lemma => kernel_rfl) (fun _ _ _ h => h) (Or.inl ⟨(by as_aux_lemma => rfl), ?ya2⟩) (by assumption) ?ra2
    case ya2 =>
      intro w hSw
      (try dsimp only at hSw)
      go_simp
      (try with_reducible rfl)
    try simp only [Act.put, List.setIfInBounds_toArray, List.set_cons_zero, List.set_cons_succ]
    refine wpAnyH_ready (rs := [2]) (by as_aux_lemma => kernel_rfl) (by simp) ?ra3
    refine AllReadyH.cons (o := { dst := some 32, op := Op.call { callee := Callee.value (Operand.func 16), args := #[Operand.tmp 31], argTypes := #[26] }, type := 29, pos := "laws.go:248", after := #[{ on := 1, ground := Ground.data }], guard := none }) rfl (fun K hK => ?ka3) AllReadyH.nil
    go_simp
    (go_at_call 16; refine (SE.out _ _ (FZ.out _ bd)).mono ?_; rintro e u ⟨Gx, capx, rfl, gx, cx, ux, hb⟩; replace bd := bd.trans (hb.mono szd); have szd := bd.size)
    refine hK.out _ _ ?sa3 (fun hHeld3 => ?ta3)
    · first | exact HSB.out _ bd | ((try dsimp only); go_keep)
    clear hK K
    try simp only [Act.put, List.setIfInBounds_toArray, List.set_cons_zero, List.set_cons_succ]
    refine wpAnyH_ready (rs := [3]) (by as_aux_lemma => kernel_rfl) (by simp) ?ra4
    refine AllReadyH.cons (o := { dst := some 33, op := Op.call { callee := Callee.value (Operand.func 15), args := #[Operand.tmp 30, Operand.tmp 32], argTypes := #[29, 29] }, type := 4, pos := "laws.go:248", after := #[{ on := 0, ground := Ground.data }, { on := 2, ground := Ground.data }, { on := 2, ground := Ground.chain }], guard := none }) rfl (fun K hK => ?ka4) AllReadyH.nil
    go_simp
    (go_at_call 15; refine (lwBytes_true p Ge _ ye.length cape _ _ _ _ _ ye _ (FE.out _ bd) ux.1).mono ?_; rintro e u ⟨rfl, hb⟩; replace bd := bd.trans (hb.mono szd); have szd := bd.size)
    refine hK.out _ _ ?sa4 (fun hHeld4 => ?ta4)
    · first | exact HSB.out _ bd | ((try dsimp only); go_keep)
    clear hK K
    try simp only [Act.put, List.setIfInBounds_toArray, List.set_cons_zero, List.set_cons_succ]
    refine wpAnyH_take (i := 4) (oi := { dst := some 34, op := Op.unOp UnOp.not 4 (Operand.tmp 33), type := 4, pos := "laws.go:248", after := #[{ on := 3, ground := Ground.data }], guard := none }) (v := ?va5) rfl (by as_aux_lemma => kernel_rfl) (by as_aux_lemma => kernel_rfl) (by as_aux_lemma => kernel_rfl) (fun _ _ _ h => h) (Or.inl ⟨(by as_aux_lemma => rfl), ?ya5⟩) (by assumption) ?ra5
    case ya5 =>
      intro w hSw
      (try dsimp only at hSw)
      go_simp
      (try with_reducible rfl)
    try simp only [Act.put, List.setIfInBounds_toArray, List.set_cons_zero, List.set_cons_succ]
    refine wpAnyH_take (i := 5) (oi := { dst := some 35, op := Op.move (Operand.tmp 34), type := 4, pos := "laws.go:248", after := #[{ on := 4, ground := Ground.data }, { on := 3, ground := Ground.chain }], guard := none }) (v := ?va6) rfl (by as_aux_lemma => kernel_rfl) (by as_aux_lemma => kernel_rfl) (by as_aux_lemma => kernel_rfl) (fun _ _ _ h => h) (Or.inl ⟨(by as_aux_lemma => rfl), ?ya6⟩) (by assumption) ?ra6
    case ya6 =>
      intro w hSw
      (try dsimp only at hSw)
      go_simp
      (try with_reducible rfl)
    try simp only [Act.put, List.setIfInBounds_toArray, List.set_cons_zero, List.set_cons_succ]
    refine wpAnyH_take (i := 6) (oi := { dst := some 36, op := Op.fieldAddr 33 (Operand.tmp 6) 0, type := 0, pos := "laws.go:248", after := #[{ on := 5, ground := Ground.guard }], guard := some (5, false) }) (v := ?va7) rfl (by as_aux_lemma => kernel_rfl) (by as_aux_lemma => kernel_rfl) (by as_aux_lemma => kernel_rfl) (fun _ _ _ h => h) (Or.inl ⟨(by as_aux_lemma => rfl), ?ya7⟩) (by assumption) ?ra7
    case ya7 =>
      intro w hSw
      (try dsimp only at hSw)
      go_simp
      (try with_reducible rfl)
    try simp only [Act.put, List.setIfInBounds_toArray, List.set_cons_zero, List.set_cons_succ]
    refine wpAnyH_take (i := 7) (oi := { dst := some 37, op := Op.load 2 (Operand.tmp 36), type := 2, pos := "laws.go:248", after := #[{ on := 6, ground := Ground.data }, { on := 5, ground := Ground.guard }], guard := some (5, false) }) (v := ?va8) rfl (by as_aux_lemma => kernel_rfl) (by as_aux_lemma => kernel_rfl) (by as_aux_lemma => kernel_rfl) (fun _ _ _ h => h) (Or.inl ⟨(by as_aux_lemma => rfl), ?ya8⟩) (by assumption) ?ra8
    case ya8 =>
      intro w hSw
      (try dsimp only at hSw)
      go_simp
      (try with_reducible rfl)
    try simp only [Act.put, List.setIfInBounds_toArray, List.set_cons_zero, List.set_cons_succ]
    refine wpAnyH_take (i := 8) (oi := { dst := some 38, op := Op.move (Operand.tmp 5), type := 22, pos := "laws.go:248", after := #[{ on := 5, ground := Ground.guard }], guard := some (5, false) }) (v := ?va9) rfl (by as_aux_lemma => kernel_rfl) (by as_aux_lemma => kernel_rfl) (by as_aux_lemma => kernel_rfl) (fun _ _ _ h => h) (Or.inl ⟨(by as_aux_lemma => rfl), ?ya9⟩) (by assumption) ?ra9
    case ya9 =>
      intro w hSw
      (try dsimp only at hSw)
      go_simp
      (try with_reducible rfl)
    try simp only [Act.put, List.setIfInBounds_toArray, List.set_cons_zero, List.set_cons_succ]
    refine wpAnyH_ready (rs := [9]) (by as_aux_lemma => kernel_rfl) (by simp) ?ra10
    refine AllReadyH.cons (o := { dst := some 39, op := Op.call { callee := Callee.value (Operand.func 17), args := #[Operand.tmp 38], argTypes := #[22] }, type := 33, pos := "laws.go:248", after := #[{ on := 8, ground := Ground.data }, { on := 5, ground := Ground.chain }, { on := 5, ground := Ground.guard }], guard := some (5, false) }) rfl (fun K hK => ?ka10) AllReadyH.nil
    go_simp
    (go_at_call 17; refine (SD.out _ _ (FP.out _ bd)).mono ?_; rintro e u ⟨Gx, capx, rfl, ox, hb⟩; replace bd := bd.trans (hb.mono szd); have szd := bd.size)
    refine hK.out _ _ ?sa10 (fun hHeld10 => ?ta10)
    · first | exact HSB.out _ bd | ((try dsimp only); go_keep)
    clear hK K
    try simp only [Act.put, List.setIfInBounds_toArray, List.set_cons_zero, List.set_cons_succ]
    refine wpAnyH_take (i := 10) (oi := { dst := some 40, op := Op.field 33 (Operand.tmp 39) 0, type := 2, pos := "laws.go:248", after := #[{ on := 9, ground := Ground.data }, { on := 5, ground := Ground.guard }], guard := some (5, false) }) (v := ?va11) rfl (by as_aux_lemma => kernel_rfl) (by as_aux_lemma => kernel_rfl) (by as_aux_lemma => kernel_rfl) (fun _ _ _ h => h) (Or.inl ⟨(by as_aux_lemma => rfl), ?ya11⟩) (by assumption) ?ra11
    case ya11 =>
      intro w hSw
      (try dsimp only at hSw)
      go_simp
      (try with_reducible rfl)
    try simp only [Act.put, List.setIfInBounds_toArray, List.set_cons_zero, List.set_cons_succ]
    refine wpAnyH_take (i := 11) (oi := { dst := some 41, op := Op.binOp BinOp.neq 2 (Operand.tmp 37) (Operand.tmp 40) 2, type := 4, pos := "laws.go:248", after := #[{ on := 7, ground := Ground.data }, { on := 10, ground := Ground.data }, { on := 5, ground := Ground.guard }], guard := some (5, false) }) (v := ?va12) rfl (by as_aux_lemma => kernel_rfl) (by as_aux_lemma => kernel_rfl) (by as_aux_lemma => kernel_rfl) (fun _ _ _ h => h) (Or.inl ⟨(by as_aux_lemma => rfl), ?ya12⟩) (by assumption) ?ra12
    case ya12 =>
      intro w hSw
      (try dsimp only at hSw)
      go_simp
      (try with_reducible rfl)
    try simp only [Act.put, List.setIfInBounds_toArray, List.set_cons_zero, List.set_cons_succ]
    refine wpAnyH_take (i := 12) (oi := { dst := some 42, op := Op.pick (Operand.tmp 35) (Operand.const (Value.bool true)) (Operand.tmp 41), type := 4, pos := "laws.go:248", after := #[{ on := 5, ground := Ground.data }, { on := 11, ground := Ground.data }], guard := none }) (v := ?va13) rfl (by as_aux_lemma => kernel_rfl) (by as_aux_lemma => kernel_rfl) (by as_aux_lemma => kernel_rfl) (fun _ _ _ h => h) (Or.inl ⟨(by as_aux_lemma => rfl), ?ya13⟩) (by assumption) ?ra13
    case ya13 =>
      intro w hSw
      (try dsimp only at hSw)
      go_simp
      (try with_reducible rfl)
    try simp only [Act.put, List.setIfInBounds_toArray, List.set_cons_zero, List.set_cons_succ]
    refine wpAnyH_take (i := 13) (oi := { dst := some 43, op := Op.move (Operand.tmp 42), type := 4, pos := "laws.go:248", after := #[{ on := 12, ground := Ground.data }, { on := 9, ground := Ground.chain }], guard := none }) (v := ?va14) rfl (by as_aux_lemma => kernel_rfl) (by as_aux_lemma => kernel_rfl) (by as_aux_lemma => kernel_rfl) (fun _ _ _ h => h) (Or.inl ⟨(by as_aux_lemma => rfl), ?ya14⟩) (by assumption) ?ra14
    case ya14 =>
      intro w hSw
      (try dsimp only at hSw)
      go_simp
      (try with_reducible rfl)
    try simp only [Act.put, List.setIfInBounds_toArray, List.set_cons_zero, List.set_cons_succ]
    refine wpAnyH_take (i := 14) (oi := { dst := some 44, op := Op.fieldAddr 33 (Operand.tmp 6) 1, type := 0, pos := "laws.go:248", after := #[{ on := 13, ground := Ground.guard }], guard := some (13, false) }) (v := ?va15) rfl (by as_aux_lemma => kernel_rfl) (by as_aux_lemma => kernel_rfl) (by as_aux_lemma => kernel_rfl) (fun _ _ _ h => h) (Or.inl ⟨(by as_aux_lemma => rfl), ?ya15⟩) (by assumption) ?ra15
    case ya15 =>
      intro w hSw
      (try dsimp only at hSw)
      go_simp
      (try with_reducible rfl)
    try simp only [Act.put, List.setIfInBounds_toArray, List.set_cons_zero, List.set_cons_succ]
    refine wpAnyH_take (i := 15) (oi := { dst := some 45, op := Op.fieldAddr 26 (Operand.tmp 44) 0, type := 0, pos := "laws.go:248", after := #[{ on := 14, ground := Ground.data }, { on := 13, ground := Ground.guard }], guard := some (13, false) }) (v := ?va16) rfl (by as_aux_lemma => kernel_rfl) (by as_aux_lemma => kernel_rfl) (by as_aux_lemma => kernel_rfl) (fun _ _ _ h => h) (Or.inl ⟨(by as_aux_lemma => rfl), ?ya16⟩) (by assumption) ?ra16
    case ya16 =>
      intro w hSw
      (try dsimp only at hSw)
      go_simp
      (try with_reducible rfl)
    try simp only [Act.put, List.setIfInBounds_toArray, List.set_cons_zero, List.set_cons_succ]
    refine wpAnyH_take (i := 16) (oi := { dst := some 46, op := Op.load 2 (Operand.tmp 45), type := 2, pos := "laws.go:248", after := #[{ on := 15, ground := Ground.data }, { on := 13, ground := Ground.guard }], guard := some (13, false) }) (v := ?va17) rfl (by as_aux_lemma => kernel_rfl) (by as_aux_lemma => kernel_rfl) (by as_aux_lemma => kernel_rfl) (fun _ _ _ h => h) (Or.inl ⟨(by as_aux_lemma => rfl), ?ya17⟩) (by assumption) ?ra17
    case ya17 =>
      intro w hSw
      (try dsimp only at hSw)
      go_simp
      (try with_reducible rfl)
    try simp only [Act.put, List.setIfInBounds_toArray, List.set_cons_zero, List.set_cons_succ]
    refine wpAnyH_take (i := 17) (oi := { dst := some 47, op := Op.move (Operand.tmp 5), type := 22, pos := "laws.go:248", after := #[{ on := 13, ground := Ground.guard }], guard := some (13, false) }) (v := ?va18) rfl (by as_aux_lemma => kernel_rfl) (by as_aux_lemma => kernel_rfl) (by as_aux_lemma => kernel_rfl) (fun _ _ _ h => h) (Or.inl ⟨(by as_aux_lemma => rfl), ?ya18⟩) (by assumption) ?ra18
    case ya18 =>
      intro w hSw
      (try dsimp only at hSw)
      go_simp
      (try with_reducible rfl)
    try simp only [Act.put, List.setIfInBounds_toArray, List.set_cons_zero, List.set_cons_succ]
    refine wpAnyH_ready (rs := [18]) (by as_aux_lemma => kernel_rfl) (by simp) ?ra19
    refine AllReadyH.cons (o := { dst := some 48, op := Op.call { callee := Callee.value (Operand.func 17), args := #[Operand.tmp 47], argTypes := #[22] }, type := 33, pos := "laws.go:248", after := #[{ on := 17, ground := Ground.data }, { on := 13, ground := Ground.chain }, { on := 13, ground := Ground.guard }], guard := some (13, false) }) rfl (fun K hK => ?ka19) AllReadyH.nil
    go_simp
    (go_at_call 17; refine (SD.out _ _ (FP.out _ bd)).mono ?_; rintro e u ⟨Gx, capx, rfl, ox, hb⟩; replace bd := bd.trans (hb.mono szd); have szd := bd.size)
    refine hK.out _ _ ?sa19 (fun hHeld19 => ?ta19)
    · first | exact HSB.out _ bd | ((try dsimp only); go_keep)
    clear hK K
    try simp only [Act.put, List.setIfInBounds_toArray, List.set_cons_zero, List.set_cons_succ]
    refine wpAnyH_take (i := 19) (oi := { dst := some 49, op := Op.field 33 (Operand.tmp 48) 1, type := 26, pos := "laws.go:248", after := #[{ on := 18, ground := Ground.data }, { on := 13, ground := Ground.guard }], guard := some (13, false) }) (v := ?va20) rfl (by as_aux_lemma => kernel_rfl) (by as_aux_lemma => kernel_rfl) (by as_aux_lemma => kernel_rfl) (fun _ _ _ h => h) (Or.inl ⟨(by as_aux_lemma => rfl), ?ya20⟩) (by assumption) ?ra20
    case ya20 =>
      intro w hSw
      (try dsimp only at hSw)
      go_simp
      (try with_reducible rfl)
    try simp only [Act.put, List.setIfInBounds_toArray, List.set_cons_zero, List.set_cons_succ]
    refine wpAnyH_take (i := 20) (oi := { dst := some 50, op := Op.field 26 (Operand.tmp 49) 0, type := 2, pos := "laws.go:248", after := #[{ on := 19, ground := Ground.data }, { on := 13, ground := Ground.guard }], guard := some (13, false) }) (v := ?va21) rfl (by as_aux_lemma => kernel_rfl) (by as_aux_lemma => kernel_rfl) (by as_aux_lemma => kernel_rfl) (fun _ _ _ h => h) (Or.inl ⟨(by as_aux_lemma => rfl), ?ya21⟩) (by assumption) ?ra21
    case ya21 =>
      intro w hSw
      (try dsimp only at hSw)
      go_simp
      (try with_reducible rfl)
    try simp only [Act.put, List.setIfInBounds_toArray, List.set_cons_zero, List.set_cons_succ]
    refine wpAnyH_take (i := 21) (oi := { dst := some 51, op := Op.binOp BinOp.neq 2 (Operand.tmp 46) (Operand.tmp 50) 2, type := 4, pos := "laws.go:248", after := #[{ on := 16, ground := Ground.data }, { on := 20, ground := Ground.data }, { on := 13, ground := Ground.guard }], guard := some (13, false) }) (v := ?va22) rfl (by as_aux_lemma => kernel_rfl) (by as_aux_lemma => kernel_rfl) (by as_aux_lemma => kernel_rfl) (fun _ _ _ h => h) (Or.inl ⟨(by as_aux_lemma => rfl), ?ya22⟩) (by assumption) ?ra22
    case ya22 =>
      intro w hSw
      (try dsimp only at hSw)
      go_simp
      (try with_reducible rfl)
    try simp only [Act.put, List.setIfInBounds_toArray, List.set_cons_zero, List.set_cons_succ]
    refine wpAnyH_take (i := 22) (oi := { dst := some 52, op := Op.pick (Operand.tmp 43) (Operand.const (Value.bool true)) (Operand.tmp 51), type := 4, pos := "laws.go:248", after := #[{ on := 13, ground := Ground.data }, { on := 21, ground := Ground.data }], guard := none }) (v := ?va23) rfl (by as_aux_lemma => kernel_rfl) (by as_aux_lemma => kernel_rfl) (by as_aux_lemma => kernel_rfl) (fun _ _ _ h => h) (Or.inl ⟨(by as_aux_lemma => rfl), ?ya23⟩) (by assumption) ?ra23
    case ya23 =>
      intro w hSw
      (try dsimp only at hSw)
      go_simp
      (try with_reducible rfl)
    try simp only [Act.put, List.setIfInBounds_toArray, List.set_cons_zero, List.set_cons_succ]
    refine wpAnyH_take (i := 23) (oi := { dst := some 53, op := Op.move (Operand.tmp 52), type := 4, pos := "laws.go:248", after := #[{ on := 22, ground := Ground.data }, { on := 18, ground := Ground.chain }], guard := none }) (v := ?va24) rfl (by as_aux_lemma => kernel_rfl) (by as_aux_lemma => kernel_rfl) (by as_aux_lemma => kernel_rfl) (fun _ _ _ h => h) (Or.inl ⟨(by as_aux_lemma => rfl), ?ya24⟩) (by assumption) ?ra24
    case ya24 =>
      intro w hSw
      (try dsimp only at hSw)
      go_simp
      (try with_reducible rfl)
    try simp only [Act.put, List.setIfInBounds_toArray, List.set_cons_zero, List.set_cons_succ]
    refine wpAnyH_take (i := 24) (oi := { dst := some 54, op := Op.fieldAddr 33 (Operand.tmp 6) 1, type := 0, pos := "laws.go:248", after := #[{ on := 23, ground := Ground.guard }], guard := some (23, false) }) (v := ?va25) rfl (by as_aux_lemma => kernel_rfl) (by as_aux_lemma => kernel_rfl) (by as_aux_lemma => kernel_rfl) (fun _ _ _ h => h) (Or.inl ⟨(by as_aux_lemma => rfl), ?ya25⟩) (by assumption) ?ra25
    case ya25 =>
      intro w hSw
      (try dsimp only at hSw)
      go_simp
      (try with_reducible rfl)
    try simp only [Act.put, List.setIfInBounds_toArray, List.set_cons_zero, List.set_cons_succ]
    refine wpAnyH_take (i := 25) (oi := { dst := some 55, op := Op.fieldAddr 26 (Operand.tmp 54) 3, type := 0, pos := "laws.go:248", after := #[{ on := 24, ground := Ground.data }, { on := 23, ground := Ground.guard }], guard := some (23, false) }) (v := ?va26) rfl (by as_aux_lemma => kernel_rfl) (by as_aux_lemma => kernel_rfl) (by as_aux_lemma => kernel_rfl) (fun _ _ _ h => h) (Or.inl ⟨(by as_aux_lemma => rfl), ?ya26⟩) (by assumption) ?ra26
    case ya26 =>
      intro w hSw
      (try dsimp only at hSw)
      go_simp
      (try with_reducible rfl)
    try simp only [Act.put, List.setIfInBounds_toArray, List.set_cons_zero, List.set_cons_succ]
    refine wpAnyH_take (i := 26) (oi := { dst := some 56, op := Op.load 24 (Operand.tmp 55), type := 24, pos := "laws.go:248", after := #[{ on := 25, ground := Ground.data }, { on := 23, ground := Ground.guard }], guard := some (23, false) }) (v := ?va27) rfl (by as_aux_lemma => kernel_rfl) (by as_aux_lemma => kernel_rfl) (by as_aux_lemma => kernel_rfl) (fun _ _ _ h => h) (Or.inl ⟨(by as_aux_lemma => rfl), ?ya27⟩) (by assumption) ?ra27
    case ya27 =>
      intro w hSw
      (try dsimp only at hSw)
      go_simp
      (try with_reducible rfl)
    try simp only [Act.put, List.setIfInBounds_toArray, List.set_cons_zero, List.set_cons_succ]
    refine wpAnyH_take (i := 27) (oi := { dst := some 57, op := Op.move (Operand.tmp 5), type := 22, pos := "laws.go:248", after := #[{ on := 23, ground := Ground.guard }], guard := some (23, false) }) (v := ?va28) rfl (by as_aux_lemma => kernel_rfl) (by as_aux_lemma => kernel_rfl) (by as_aux_lemma => kernel_rfl) (fun _ _ _ h => h) (Or.inl ⟨(by as_aux_lemma => rfl), ?ya28⟩) (by assumption) ?ra28
    case ya28 =>
      intro w hSw
      (try dsimp only at hSw)
      go_simp
      (try with_reducible rfl)
    try simp only [Act.put, List.setIfInBounds_toArray, List.set_cons_zero, List.set_cons_succ]
    refine wpAnyH_ready (rs := [28]) (by as_aux_lemma => kernel_rfl) (by simp) ?ra29
    refine AllReadyH.cons (o := { dst := some 58, op := Op.call { callee := Callee.value (Operand.func 17), args := #[Operand.tmp 57], argTypes := #[22] }, type := 33, pos := "laws.go:248", after := #[{ on := 27, ground := Ground.data }, { on := 23, ground := Ground.chain }, { on := 23, ground := Ground.guard }], guard := some (23, false) }) rfl (fun K hK => ?ka29) AllReadyH.nil
    go_simp
    (go_at_call 17; refine (SD.out _ _ (FP.out _ bd)).mono ?_; rintro e u ⟨Gx, capx, rfl, ox, hb⟩; replace bd := bd.trans (hb.mono szd); have szd := bd.size)
    refine hK.out _ _ ?sa29 (fun hHeld29 => ?ta29)
    · first | exact HSB.out _ bd | ((try dsimp only); go_keep)
    clear hK K
    try simp only [Act.put, List.setIfInBounds_toArray, List.set_cons_zero, List.set_cons_succ]
    refine wpAnyH_take (i := 29) (oi := { dst := some 59, op := Op.field 33 (Operand.tmp 58) 1, type := 26, pos := "laws.go:248", after := #[{ on := 28, ground := Ground.data }, { on := 23, ground := Ground.guard }], guard := some (23, false) }) (v := ?va30) rfl (by as_aux_lemma => kernel_rfl) (by as_aux_lemma => kernel_rfl) (by as_aux_lemma => kernel_rfl) (fun _ _ _ h => h) (Or.inl ⟨(by as_aux_lemma => rfl), ?ya30⟩) (by assumption) ?ra30
    case ya30 =>
      intro w hSw
      (try dsimp only at hSw)
      go_simp
      (try with_reducible rfl)
    try simp only [Act.put, List.setIfInBounds_toArray, List.set_cons_zero, List.set_cons_succ]
    refine wpAnyH_take (i := 30) (oi := { dst := some 60, op := Op.field 26 (Operand.tmp 59) 3, type := 24, pos := "laws.go:248", after := #[{ on := 29, ground := Ground.data }, { on := 23, ground := Ground.guard }], guard := some (23, false) }) (v := ?va31) rfl (by as_aux_lemma => kernel_rfl) (by as_aux_lemma => kernel_rfl) (by as_aux_lemma => kernel_rfl) (fun _ _ _ h => h) (Or.inl ⟨(by as_aux_lemma => rfl), ?ya31⟩) (by assumption) ?ra31
    case ya31 =>
      intro w hSw
      (try dsimp only at hSw)
      go_simp
      (try with_reducible rfl)
    try simp only [Act.put, List.setIfInBounds_toArray, List.set_cons_zero, List.set_cons_succ]
    refine wpAnyH_ready (rs := [31]) (by as_aux_lemma => kernel_rfl) (by simp) ?ra32
    refine AllReadyH.cons (o := { dst := some 61, op := Op.call { callee := Callee.value (Operand.func 18), args := #[Operand.tmp 56, Operand.tmp 60], argTypes := #[24, 24] }, type := 4, pos := "laws.go:248", after := #[{ on := 26, ground := Ground.data }, { on := 30, ground := Ground.data }, { on := 28, ground := Ground.chain }, { on := 23, ground := Ground.guard }], guard := some (23, false) }) rfl (fun K hK => ?ka32) AllReadyH.nil
    go_simp
    (go_at_call 18; refine (implSameItems_any Gd _ ys.length capd ys.length _ _ _ ys ys _ true (FD.out _ bd) ox.rt0 (decide_eq_true rfl)).mono ?_; rintro e u ⟨rfl, hb⟩; replace bd := bd.trans (hb.mono szd); have szd := bd.size)
    refine hK.out _ _ ?sa32 (fun hHeld32 => ?ta32)
    · first | exact HSB.out _ bd | ((try dsimp only); go_keep)
    clear hK K
    try simp only [Act.put, List.setIfInBounds_toArray, List.set_cons_zero, List.set_cons_succ]
    refine wpAnyH_take (i := 32) (oi := { dst := some 62, op := Op.unOp UnOp.not 4 (Operand.tmp 61), type := 4, pos := "laws.go:248", after := #[{ on := 31, ground := Ground.data }, { on := 23, ground := Ground.guard }], guard := some (23, false) }) (v := ?va33) rfl (by as_aux_lemma => kernel_rfl) (by as_aux_lemma => kernel_rfl) (by as_aux_lemma => kernel_rfl) (fun _ _ _ h => h) (Or.inl ⟨(by as_aux_lemma => rfl), ?ya33⟩) (by assumption) ?ra33
    case ya33 =>
      intro w hSw
      (try dsimp only at hSw)
      go_simp
      (try with_reducible rfl)
    try simp only [Act.put, List.setIfInBounds_toArray, List.set_cons_zero, List.set_cons_succ]
    refine wpAnyH_take (i := 33) (oi := { dst := some 63, op := Op.pick (Operand.tmp 53) (Operand.const (Value.bool true)) (Operand.tmp 62), type := 4, pos := "laws.go:248", after := #[{ on := 23, ground := Ground.data }, { on := 32, ground := Ground.data }], guard := none }) (v := ?va34) rfl (by as_aux_lemma => kernel_rfl) (by as_aux_lemma => kernel_rfl) (by as_aux_lemma => kernel_rfl) (fun _ _ _ h => h) (Or.inl ⟨(by as_aux_lemma => rfl), ?ya34⟩) (by assumption) ?ra34
    case ya34 =>
      intro w hSw
      (try dsimp only at hSw)
      go_simp
      (try with_reducible rfl)
    try simp only [Act.put, List.setIfInBounds_toArray, List.set_cons_zero, List.set_cons_succ]
    refine wpAnyH_take (i := 34) (oi := { dst := some 64, op := Op.move (Operand.tmp 63), type := 4, pos := "laws.go:248", after := #[{ on := 33, ground := Ground.data }, { on := 31, ground := Ground.chain }], guard := none }) (v := ?va35) rfl (by as_aux_lemma => kernel_rfl) (by as_aux_lemma => kernel_rfl) (by as_aux_lemma => kernel_rfl) (fun _ _ _ h => h) (Or.inl ⟨(by as_aux_lemma => rfl), ?ya35⟩) (by assumption) ?ra35
    case ya35 =>
      intro w hSw
      (try dsimp only at hSw)
      go_simp
      (try with_reducible rfl)
    try simp only [Act.put, List.setIfInBounds_toArray, List.set_cons_zero, List.set_cons_succ]
    refine wpAnyH_take (i := 35) (oi := { dst := some 65, op := Op.load 29 (Operand.tmp 8), type := 29, pos := "laws.go:248", after := #[{ on := 34, ground := Ground.guard }], guard := some (34, false) }) (v := ?va36) rfl (by as_aux_lemma => kernel_rfl) (by as_aux_lemma => kernel_rfl) (by as_aux_lemma => kernel_rfl) (fun _ _ _ h => h) (Or.inl ⟨(by as_aux_lemma => rfl), ?ya36⟩) (by assumption) ?ra36
    case ya36 =>
      intro w hSw
      (try dsimp only at hSw)
      go_simp
      (try with_reducible rfl)
    try simp only [Act.put, List.setIfInBounds_toArray, List.set_cons_zero, List.set_cons_succ]
    refine wpAnyH_take (i := 36) (oi := { dst := some 66, op := Op.load 36 (Operand.tmp 7), type := 36, pos := "laws.go:248", after := #[{ on := 34, ground := Ground.guard }], guard := some (34, false) }) (v := ?va37) rfl (by as_aux_lemma => kernel_rfl) (by as_aux_lemma => kernel_rfl) (by as_aux_lemma => kernel_rfl) (fun _ _ _ h => h) (Or.inl ⟨(by as_aux_lemma => rfl), ?ya37⟩) (by assumption) ?ra37
    case ya37 =>
      intro w hSw
      (try dsimp only at hSw)
      go_simp
      (try with_reducible rfl)
    try simp only [Act.put, List.setIfInBounds_toArray, List.set_cons_zero, List.set_cons_succ]
    refine wpAnyH_ready (rs := [37]) (by as_aux_lemma => kernel_rfl) (by simp) ?ra38
    refine AllReadyH.cons (o := { dst := some 67, op := Op.call { callee := Callee.value (Operand.func 19), args := #[Operand.tmp 66], argTypes := #[36] }, type := 29, pos := "laws.go:248", after := #[{ on := 36, ground := Ground.data }, { on := 34, ground := Ground.chain }, { on := 34, ground := Ground.guard }], guard := some (34, false) }) rfl (fun K hK => ?ka38) AllReadyH.nil
    go_simp
    (go_at_call 19; refine (SE2.out _).mono ?_; rintro e u ⟨Gx, capx, rfl, gx, cx, ux, hb⟩; replace bd := bd.trans (hb.mono szd); have szd := bd.size)
    refine hK.out _ _ ?sa38 (fun hHeld38 => ?ta38)
    · first | exact HSB.out _ bd | ((try dsimp only); go_keep)
    clear hK K
    try simp only [Act.put, List.setIfInBounds_toArray, List.set_cons_zero, List.set_cons_succ]
    refine wpAnyH_ready (rs := [38]) (by as_aux_lemma => kernel_rfl) (by simp) ?ra39
    refine AllReadyH.cons (o := { dst := some 68, op := Op.call { callee := Callee.value (Operand.func 15), args := #[Operand.tmp 65, Operand.tmp 67], argTypes := #[29, 29] }, type := 4, pos := "laws.go:248", after := #[{ on := 35, ground := Ground.data }, { on := 37, ground := Ground.data }, { on := 37, ground := Ground.chain }, { on := 34, ground := Ground.guard }], guard := some (34, false) }) rfl (fun K hK => ?ka39) AllReadyH.nil
    go_simp
    (go_at_call 15; refine (lwBytes_true q Gf _ yf.length capf _ _ _ _ _ yf _ (FF.out _ bd) ux.1).mono ?_; rintro e u ⟨rfl, hb⟩; replace bd := bd.trans (hb.mono szd); have szd := bd.size)
    refine hK.out _ _ ?sa39 (fun hHeld39 => ?ta39)
    · first | exact HSB.out _ bd | ((try dsimp only); go_keep)
    clear hK K
    try simp only [Act.put, List.setIfInBounds_toArray, List.set_cons_zero, List.set_cons_succ]
    refine wpAnyH_take (i := 39) (oi := { dst := some 69, op := Op.unOp UnOp.not 4 (Operand.tmp 68), type := 4, pos := "laws.go:248", after := #[{ on := 38, ground := Ground.data }, { on := 34, ground := Ground.guard }], guard := some (34, false) }) (v := ?va40) rfl (by as_aux_lemma => kernel_rfl) (by as_aux_lemma => kernel_rfl) (by as_aux_lemma => kernel_rfl) (fun _ _ _ h => h) (Or.inl ⟨(by as_aux_lemma => rfl), ?ya40⟩) (by assumption) ?ra40
    case ya40 =>
      intro w hSw
      (try dsimp only at hSw)
      go_simp
      (try with_reducible rfl)
    try simp only [Act.put, List.setIfInBounds_toArray, List.set_cons_zero, List.set_cons_succ]
    refine wpAnyH_take (i := 40) (oi := { dst := some 70, op := Op.pick (Operand.tmp 64) (Operand.const (Value.bool true)) (Operand.tmp 69), type := 4, pos := "laws.go:248", after := #[{ on := 34, ground := Ground.data }, { on := 39, ground := Ground.data }], guard := none }) (v := ?va41) rfl (by as_aux_lemma => kernel_rfl) (by as_aux_lemma => kernel_rfl) (by as_aux_lemma => kernel_rfl) (fun _ _ _ h => h) (Or.inl ⟨(by as_aux_lemma => rfl), ?ya41⟩) (by assumption) ?ra41
    case ya41 =>
      intro w hSw
      (try dsimp only at hSw)
      go_simp
      (try with_reducible rfl)
    try simp only [Act.put, List.setIfInBounds_toArray, List.set_cons_zero, List.set_cons_succ]
    refine wpAnyH_take (i := 41) (oi := { dst := some 71, op := Op.move (Operand.tmp 70), type := 4, pos := "laws.go:248", after := #[{ on := 40, ground := Ground.data }, { on := 38, ground := Ground.chain }], guard := none }) (v := ?va42) rfl (by as_aux_lemma => kernel_rfl) (by as_aux_lemma => kernel_rfl) (by as_aux_lemma => kernel_rfl) (fun _ _ _ h => h) (Or.inl ⟨(by as_aux_lemma => rfl), ?ya42⟩) (by assumption) ?ra42
    case ya42 =>
      intro w hSw
      (try dsimp only at hSw)
      go_simp
      (try with_reducible rfl)
    try simp only [Act.put, List.setIfInBounds_toArray, List.set_cons_zero, List.set_cons_succ]
    refine wpAnyH_take (i := 42) (oi := { dst := some 72, op := Op.load 40 (Operand.tmp 10), type := 40, pos := "laws.go:248", after := #[{ on := 41, ground := Ground.guard }], guard := some (41, false) }) (v := ?va43) rfl (by as_aux_lemma => kernel_rfl) (by as_aux_lemma => kernel_rfl) (by as_aux_lemma => kernel_rfl) (fun _ _ _ h => h) (Or.inl ⟨(by as_aux_lemma => rfl), ?ya43⟩) (by assumption) ?ra43
    case ya43 =>
      intro w hSw
      (try dsimp only at hSw)
      go_simp
      (try with_reducible rfl)
    try simp only [Act.put, List.setIfInBounds_toArray, List.set_cons_zero, List.set_cons_succ]
    refine wpAnyH_take (i := 43) (oi := { dst := some 73, op := Op.move (Operand.tmp 9), type := 22, pos := "laws.go:248", after := #[{ on := 41, ground := Ground.guard }], guard := some (41, false) }) (v := ?va44) rfl (by as_aux_lemma => kernel_rfl) (by as_aux_lemma => kernel_rfl) (by as_aux_lemma => kernel_rfl) (fun _ _ _ h => h) (Or.inl ⟨(by as_aux_lemma => rfl), ?ya44⟩) (by assumption) ?ra44
    case ya44 =>
      intro w hSw
      (try dsimp only at hSw)
      go_simp
      (try with_reducible rfl)
    try simp only [Act.put, List.setIfInBounds_toArray, List.set_cons_zero, List.set_cons_succ]
    refine wpAnyH_ready (rs := [44]) (by as_aux_lemma => kernel_rfl) (by simp) ?ra45
    refine AllReadyH.cons (o := { dst := some 74, op := Op.call { callee := Callee.value (Operand.func 20), args := #[Operand.tmp 73], argTypes := #[22] }, type := 40, pos := "laws.go:248", after := #[{ on := 43, ground := Ground.data }, { on := 41, ground := Ground.chain }, { on := 41, ground := Ground.guard }], guard := some (41, false) }) rfl (fun K hK => ?ka45) AllReadyH.nil
    go_simp
    (go_at_call 20; refine (SG.out _ _ (FG.out _ bd)).mono ?_; rintro e u ⟨rfl, hb⟩; replace bd := bd.trans (hb.mono szd); have szd := bd.size)
    refine hK.out _ _ ?sa45 (fun hHeld45 => ?ta45)
    · first | exact HSB.out _ bd | ((try dsimp only); go_keep)
    clear hK K
    try simp only [Act.put, List.setIfInBounds_toArray, List.set_cons_zero, List.set_cons_succ]
    refine wpAnyH_take (i := 45) (oi := { dst := some 75, op := Op.binOp BinOp.neq 40 (Operand.tmp 72) (Operand.tmp 74) 40, type := 4, pos := "laws.go:248", after := #[{ on := 42, ground := Ground.data }, { on := 44, ground := Ground.data }, { on := 41, ground := Ground.guard }], guard := some (41, false) }) (v := ?va46) rfl (by as_aux_lemma => kernel_rfl) (by as_aux_lemma => kernel_rfl) (by as_aux_lemma => kernel_rfl) (fun _ _ _ h => h) (Or.inl ⟨(by as_aux_lemma => rfl), ?ya46⟩) (by assumption) ?ra46
    case ya46 =>
      intro w hSw
      (try dsimp only at hSw)
      go_simp
      (try with_reducible rfl)
    try simp only [Act.put, List.setIfInBounds_toArray, List.set_cons_zero, List.set_cons_succ]
    refine wpAnyH_take (i := 46) (oi := { dst := some 76, op := Op.pick (Operand.tmp 71) (Operand.const (Value.bool true)) (Operand.tmp 75), type := 4, pos := "laws.go:248", after := #[{ on := 41, ground := Ground.data }, { on := 45, ground := Ground.data }], guard := none }) (v := ?va47) rfl (by as_aux_lemma => kernel_rfl) (by as_aux_lemma => kernel_rfl) (by as_aux_lemma => kernel_rfl) (fun _ _ _ h => h) (Or.inl ⟨(by as_aux_lemma => rfl), ?ya47⟩) (by assumption) ?ra47
    case ya47 =>
      intro w hSw
      (try dsimp only at hSw)
      go_simp
      (try with_reducible rfl)
    try simp only [Act.put, List.setIfInBounds_toArray, List.set_cons_zero, List.set_cons_succ]
    refine wpAnyH_take (i := 47) (oi := { dst := some 77, op := Op.move (Operand.tmp 76), type := 4, pos := "laws.go:248", after := #[{ on := 46, ground := Ground.data }, { on := 44, ground := Ground.chain }], guard := none }) (v := ?va48) rfl (by as_aux_lemma => kernel_rfl) (by as_aux_lemma => kernel_rfl) (by as_aux_lemma => kernel_rfl) (fun _ _ _ h => h) (Or.inl ⟨(by as_aux_lemma => rfl), ?ya48⟩) (by assumption) ?ra48
    case ya48 =>
      intro w hSw
      (try dsimp only at hSw)
      go_simp
      (try with_reducible rfl)
    try simp only [Act.put, List.setIfInBounds_toArray, List.set_cons_zero, List.set_cons_succ]
    refine wpAnyH_take (i := 48) (oi := { dst := some 78, op := Op.load 26 (Operand.tmp 3), type := 26, pos := "laws.go:248", after := #[{ on := 47, ground := Ground.guard }], guard := some (47, false) }) (v := ?va49) rfl (by as_aux_lemma => kernel_rfl) (by as_aux_lemma => kernel_rfl) (by as_aux_lemma => kernel_rfl) (fun _ _ _ h => h) (Or.inl ⟨(by as_aux_lemma => rfl), ?ya49⟩) (by assumption) ?ra49
    case ya49 =>
      intro w hSw
      (try dsimp only at hSw)
      go_simp
      (try with_reducible rfl)
    try simp only [Act.put, List.setIfInBounds_toArray, List.set_cons_zero, List.set_cons_succ]
    refine wpAnyH_take (i := 50) (oi := { dst := some 80, op := Op.fieldAddr 29 (Operand.tmp 4) 0, type := 0, pos := "laws.go:248", after := #[{ on := 47, ground := Ground.guard }], guard := some (47, false) }) (v := ?va50) rfl (by as_aux_lemma => kernel_rfl) (by as_aux_lemma => kernel_rfl) (by as_aux_lemma => kernel_rfl) (fun _ _ _ h => h) (Or.inl ⟨(by as_aux_lemma => rfl), ?ya50⟩) (by assumption) ?ra50
    case ya50 =>
      intro w hSw
      (try dsimp only at hSw)
      go_simp
      (try with_reducible rfl)
    try simp only [Act.put, List.setIfInBounds_toArray, List.set_cons_zero, List.set_cons_succ]
    refine wpAnyH_take (i := 51) (oi := { dst := some 81, op := Op.load 2 (Operand.tmp 80), type := 2, pos := "laws.go:248", after := #[{ on := 50, ground := Ground.data }, { on := 47, ground := Ground.guard }], guard := some (47, false) }) (v := ?va51) rfl (by as_aux_lemma => kernel_rfl) (by as_aux_lemma => kernel_rfl) (by as_aux_lemma => kernel_rfl) (fun _ _ _ h => h) (Or.inl ⟨(by as_aux_lemma => rfl), ?ya51⟩) (by assumption) ?ra51
    case ya51 =>
      intro w hSw
      (try dsimp only at hSw)
      go_simp
      (try with_reducible rfl)
    try simp only [Act.put, List.setIfInBounds_toArray, List.set_cons_zero, List.set_cons_succ]
    refine wpAnyH_ready (rs := [49]) (by as_aux_lemma => kernel_rfl) (by simp) ?ra52
    refine AllReadyH.cons (o := { dst := some 79, op := Op.call { callee := Callee.value (Operand.func 21), args := #[Operand.tmp 78], argTypes := #[26] }, type := 2, pos := "laws.go:248", after := #[{ on := 48, ground := Ground.data }, { on := 47, ground := Ground.chain }, { on := 47, ground := Ground.guard }], guard := some (47, false) }) rfl (fun K hK => ?ka52) AllReadyH.nil
    go_simp
    (go_at_call 21; refine (IF.out _ _ (FZ.out _ bd)).mono ?_; rintro e u ⟨rfl, hb⟩; replace bd := bd.trans (hb.mono szd); have szd := bd.size)
    refine hK.out _ _ ?sa52 (fun hHeld52 => ?ta52)
    · first | exact HSB.out _ bd | ((try dsimp only); go_keep)
    clear hK K
    try simp only [Act.put, List.setIfInBounds_toArray, List.set_cons_zero, List.set_cons_succ]
    refine wpAnyH_take (i := 52) (oi := { dst := some 82, op := Op.binOp BinOp.neq 2 (Operand.tmp 79) (Operand.tmp 81) 2, type := 4, pos := "laws.go:248", after := #[{ on := 49, ground := Ground.data }, { on := 51, ground := Ground.data }, { on := 47, ground := Ground.guard }], guard := some (47, false) }) (v := ?va53) rfl (by as_aux_lemma => kernel_rfl) (by as_aux_lemma => kernel_rfl) (by as_aux_lemma => kernel_rfl) (fun _ _ _ h => h) (Or.inl ⟨(by as_aux_lemma => rfl), ?ya53⟩) (by assumption) ?ra53
    case ya53 =>
      intro w hSw
      (try dsimp only at hSw)
      go_simp
      (try with_reducible rfl)
    try simp only [Act.put, List.setIfInBounds_toArray, List.set_cons_zero, List.set_cons_succ]
    refine wpAnyH_take (i := 53) (oi := { dst := some 83, op := Op.pick (Operand.tmp 77) (Operand.const (Value.bool true)) (Operand.tmp 82), type := 4, pos := "laws.go:248", after := #[{ on := 47, ground := Ground.data }, { on := 52, ground := Ground.data }], guard := none }) (v := ?va54) rfl (by as_aux_lemma => kernel_rfl) (by as_aux_lemma => kernel_rfl) (by as_aux_lemma => kernel_rfl) (fun _ _ _ h => h) (Or.inl ⟨(by as_aux_lemma => rfl), ?ya54⟩) (by assumption) ?ra54
    case ya54 =>
      intro w hSw
      (try dsimp only at hSw)
      go_simp
      (try with_reducible rfl)
    try simp only [Act.put, List.setIfInBounds_toArray, List.set_cons_zero, List.set_cons_succ]
    refine wpAnyH_take (i := 54) (oi := { dst := some 84, op := Op.move (Operand.tmp 83), type := 4, pos := "laws.go:248", after := #[{ on := 53, ground := Ground.data }, { on := 49, ground := Ground.chain }], guard := none }) (v := ?va55) rfl (by as_aux_lemma => kernel_rfl) (by as_aux_lemma => kernel_rfl) (by as_aux_lemma => kernel_rfl) (fun _ _ _ h => h) (Or.inl ⟨(by as_aux_lemma => rfl), ?ya55⟩) (by assumption) ?ra55
    case ya55 =>
      intro w hSw
      (try dsimp only at hSw)
      go_simp
      (try with_reducible rfl)
    try simp only [Act.put, List.setIfInBounds_toArray, List.set_cons_zero, List.set_cons_succ]
    refine wpAnyH_take (i := 55) (oi := { dst := some 85, op := Op.load 36 (Operand.tmp 7), type := 36, pos := "laws.go:248", after := #[{ on := 54, ground := Ground.guard }], guard := some (54, false) }) (v := ?va56) rfl (by as_aux_lemma => kernel_rfl) (by as_aux_lemma => kernel_rfl) (by as_aux_lemma => kernel_rfl) (fun _ _ _ h => h) (Or.inl ⟨(by as_aux_lemma => rfl), ?ya56⟩) (by assumption) ?ra56
    case ya56 =>
      intro w hSw
      (try dsimp only at hSw)
      go_simp
      (try with_reducible rfl)
    try simp only [Act.put, List.setIfInBounds_toArray, List.set_cons_zero, List.set_cons_succ]
    refine wpAnyH_take (i := 57) (oi := { dst := some 87, op := Op.fieldAddr 29 (Operand.tmp 8) 0, type := 0, pos := "laws.go:248", after := #[{ on := 54, ground := Ground.guard }], guard := some (54, false) }) (v := ?va57) rfl (by as_aux_lemma => kernel_rfl) (by as_aux_lemma => kernel_rfl) (by as_aux_lemma => kernel_rfl) (fun _ _ _ h => h) (Or.inl ⟨(by as_aux_lemma => rfl), ?ya57⟩) (by assumption) ?ra57
    case ya57 =>
      intro w hSw
      (try dsimp only at hSw)
      go_simp
      (try with_reducible rfl)
    try simp only [Act.put, List.setIfInBounds_toArray, List.set_cons_zero, List.set_cons_succ]
    refine wpAnyH_take (i := 58) (oi := { dst := some 88, op := Op.load 2 (Operand.tmp 87), type := 2, pos := "laws.go:248", after := #[{ on := 57, ground := Ground.data }, { on := 54, ground := Ground.guard }], guard := some (54, false) }) (v := ?va58) rfl (by as_aux_lemma => kernel_rfl) (by as_aux_lemma => kernel_rfl) (by as_aux_lemma => kernel_rfl) (fun _ _ _ h => h) (Or.inl ⟨(by as_aux_lemma => rfl), ?ya58⟩) (by assumption) ?ra58
    case ya58 =>
      intro w hSw
      (try dsimp only at hSw)
      go_simp
      (try with_reducible rfl)
    try simp only [Act.put, List.setIfInBounds_toArray, List.set_cons_zero, List.set_cons_succ]
    refine wpAnyH_ready (rs := [56]) (by as_aux_lemma => kernel_rfl) (by simp) ?ra59
    refine AllReadyH.cons (o := { dst := some 86, op := Op.call { callee := Callee.value (Operand.func 22), args := #[Operand.tmp 85], argTypes := #[36] }, type := 2, pos := "laws.go:248", after := #[{ on := 55, ground := Ground.data }, { on := 54, ground := Ground.chain }, { on := 54, ground := Ground.guard }], guard := some (54, false) }) rfl (fun K hK => ?ka59) AllReadyH.nil
    go_simp
    (go_at_call 22; refine (IF2.out _).mono ?_; rintro e u ⟨rfl, hb⟩; replace bd := bd.trans (hb.mono szd); have szd := bd.size)
    refine hK.out _ _ ?sa59 (fun hHeld59 => ?ta59)
    · first | exact HSB.out _ bd | ((try dsimp only); go_keep)
    clear hK K
    try simp only [Act.put, List.setIfInBounds_toArray, List.set_cons_zero, List.set_cons_succ]
    refine wpAnyH_take (i := 59) (oi := { dst := some 89, op := Op.binOp BinOp.neq 2 (Operand.tmp 86) (Operand.tmp 88) 2, type := 4, pos := "laws.go:248", after := #[{ on := 56, ground := Ground.data }, { on := 58, ground := Ground.data }, { on := 54, ground := Ground.guard }], guard := some (54, false) }) (v := ?va60) rfl (by as_aux_lemma => kernel_rfl) (by as_aux_lemma => kernel_rfl) (by as_aux_lemma => kernel_rfl) (fun _ _ _ h => h) (Or.inl ⟨(by as_aux_lemma => rfl), ?ya60⟩) (by assumption) ?ra60
    case ya60 =>
      intro w hSw
      (try dsimp only at hSw)
      go_simp
      (try with_reducible rfl)
    try simp only [Act.put, List.setIfInBounds_toArray, List.set_cons_zero, List.set_cons_succ]
    refine wpAnyH_take (i := 60) (oi := { dst := some 90, op := Op.pick (Operand.tmp 84) (Operand.const (Value.bool true)) (Operand.tmp 89), type := 4, pos := "laws.go:248", after := #[{ on := 54, ground := Ground.data }, { on := 59, ground := Ground.data }], guard := none }) (v := ?va61) rfl (by as_aux_lemma => kernel_rfl) (by as_aux_lemma => kernel_rfl) (by as_aux_lemma => kernel_rfl) (fun _ _ _ h => h) (Or.inl ⟨(by as_aux_lemma => rfl), ?ya61⟩) (by assumption) ?ra61
    case ya61 =>
      intro w hSw
      (try dsimp only at hSw)
      go_simp
      (try with_reducible rfl)
    try simp only [Act.put, List.setIfInBounds_toArray, List.set_cons_zero, List.set_cons_succ]
    refine wpAnyH_done (by as_aux_lemma => kernel_rfl) ?ea _
    go_wp2_with fail
    go_meet
    case rel => exact ⟨rfl, bd⟩
  case rest =>
  obtain ⟨rfl, hb15⟩ := hcut
  have hk15 := Keep.of_below hb15 0 0
  have hz15 := hb15.size
  replace h := h.keep hk15 (by omega)
  replace ke := ke.keep hk15 (by omega)
  replace zr := zr.keep hk15 (by omega)
  replace bb3 := bb3.keep hk15 (by omega)
  replace ve := ve.keep hk15 (by omega)
  replace be := be.keep hk15 (by omega)
  replace pr := pr.keep hk15 (by omega)
  replace od := od.keep hk15 (by omega)
  replace bdd := bdd.keep hk15 (by omega)
  replace br := br.keep hk15 (by omega)
  replace vf := vf.keep hk15 (by omega)
  replace bf := bf.keep hk15 (by omega)
  replace dr := dr.keep hk15 (by omega)
  replace bg := bg.keep hk15 (by omega)
  replace bb := bb.trans (hk15.below (by omega) bb.size)
  clear hb15 hk15
  generalize hwc15 : wc = w15 at *
  clear hwc15
  go_upto_region 13 with fail
  by_cases hp0 : p = 0
  · have hz := HP.out.trans hp0
    have hi9 : isBody ye bs st ec zs := ⟨hz, by rw [← HYE.out]; unfold bodyAns; rw [if_pos hz]⟩
    have hyl : 10 ≤ ye.length ∧ ye.length ≤ 50 := by
      obtain ⟨_, _, h4, hxs, _⟩ := body_ok hz
      rw [← hi9.2]
      exact bodyL_len h4 hxs
    have hy1 : ¬ (120 : Int) < (ye.length : Int) := by omega
    rw [hp0] at be
    clear hz
    have belt := be.lt
    have bec0 := be.at_ 0 _ rfl
    have bec1 := be.at_ 1 _ rfl
    go_wp2_with fail
    clear belt bec0 bec1
    refine (implDecBody_any ea Ge ye.length cape _ ye 0 bs st ec zs w15 (ve.1.wide (lo' := 0) (Nat.zero_le _) (Nat.le_refl _) ve.1.top) hce (ve.1.addr (by omega)) ke (.inl ⟨rfl, hi9⟩)).mono ?_
    rintro e w16 ⟨Gx, capx, rfl, ox, hb16⟩
    have hk16 := Keep.of_below hb16 0 0
    have hz16 := hb16.size
    replace h := h.keep hk16 (by omega)
    replace ke := ke.keep hk16 (by omega)
    replace zr := zr.keep hk16 (by omega)
    replace bb3 := bb3.keep hk16 (by omega)
    replace ve := ve.keep hk16 (by omega)
    replace be := be.keep hk16 (by omega)
    replace pr := pr.keep hk16 (by omega)
    replace od := od.keep hk16 (by omega)
    replace bdd := bdd.keep hk16 (by omega)
    replace br := br.keep hk16 (by omega)
    replace vf := vf.keep hk16 (by omega)
    replace bf := bf.keep hk16 (by omega)
    replace dr := dr.keep hk16 (by omega)
    replace bg := bg.keep hk16 (by omega)
    replace bb := bb.trans (hk16.below (by omega) bb.size)
    clear hb16 hk16
    have bb3lt := bb3.lt
    have bb3c0 := bb3.at_ 0 _ rfl
    have bb3c1 := bb3.at_ 1 _ rfl
    have bb3c2 := bb3.at_ 2 _ rfl
    have bb3c3 := bb3.at_ 3 _ rfl
    have belt := be.lt
    have bec0 := be.at_ 0 _ rfl
    have bec1 := be.at_ 1 _ rfl
    go_wp2_with fail
    clear bb3lt bb3c0 bb3c1 bb3c2 bb3c3 belt bec0 bec1
    have hk17 := (Keep.refl 0 0 w16).alloc (.cells #[.int .i64 0, .int .i64 bs, .int .i64 st, .int .i64 ec, .slice Gx zs.length capx] 33)
    have bx := BoxL.new w16 [.int .i64 0, .int .i64 bs, .int .i64 st, .int .i64 ec, .slice Gx zs.length capx] #[.int .i64 0, .int .i64 bs, .int .i64 st, .int .i64 ec, .slice Gx zs.length capx] 33 rfl
    have hz17 : w16.heap.size + 1 ≤ (w16.alloc (.cells #[.int .i64 0, .int .i64 bs, .int .i64 st, .int .i64 ec, .slice Gx zs.length capx] 33)).heap.size := by simp
    replace h := h.keep hk17 (by omega)
    replace ke := ke.keep hk17 (by omega)
    replace zr := zr.keep hk17 (by omega)
    replace bb3 := bb3.keep hk17 (by omega)
    replace ve := ve.keep hk17 (by omega)
    replace be := be.keep hk17 (by omega)
    replace pr := pr.keep hk17 (by omega)
    replace od := od.keep hk17 (by omega)
    replace bdd := bdd.keep hk17 (by omega)
    replace br := br.keep hk17 (by omega)
    replace vf := vf.keep hk17 (by omega)
    replace bf := bf.keep hk17 (by omega)
    replace dr := dr.keep hk17 (by omega)
    replace bg := bg.keep hk17 (by omega)
    replace ox := ox.keep hk17 (by omega)
    replace bb := bb.trans (hk17.below (by omega) bb.size)
    clear hk17
    generalize w16.alloc (.cells #[.int .i64 0, .int .i64 bs, .int .i64 st, .int .i64 ec, .slice Gx zs.length capx] 33) = w17 at *
    refine (implSameItems_any Gx (some ⟨gz, 0, none⟩) zs.length capx nz capz _ _ zs zs w17 true ox.rt0 zr (decide_eq_true rfl)).mono ?_
    rintro e w18 ⟨rfl, hb18⟩
    have hk18 := Keep.of_below hb18 0 0
    have hz18 := hb18.size
    replace h := h.keep hk18 (by omega)
    replace ke := ke.keep hk18 (by omega)
    replace zr := zr.keep hk18 (by omega)
    replace bb3 := bb3.keep hk18 (by omega)
    replace ve := ve.keep hk18 (by omega)
    replace be := be.keep hk18 (by omega)
    replace pr := pr.keep hk18 (by omega)
    replace od := od.keep hk18 (by omega)
    replace bdd := bdd.keep hk18 (by omega)
    replace br := br.keep hk18 (by omega)
    replace vf := vf.keep hk18 (by omega)
    replace bf := bf.keep hk18 (by omega)
    replace dr := dr.keep hk18 (by omega)
    replace bg := bg.keep hk18 (by omega)
    replace ox := ox.keep hk18 (by omega)
    replace bx := bx.keep hk18 (by omega)
    replace bb := bb.trans (hk18.below (by omega) bb.size)
    clear hb18 hk18
    clear ox
    clear bx
    have belt := be.lt
    have bec0 := be.at_ 0 _ rfl
    have bec1 := be.at_ 1 _ rfl
    go_upto_region 17 with fail
    clear belt bec0 bec1
    go_cut [164] from 139 to 164 (fun sv wx => sv = .bool false ∧ Below w18.heap.size w18 wx)
    case first =>
      have fa : ∀ (x0 : Int) (G : Option Addr) (n c : Nat) (w : World), (Instr.field 29 (.agg #[.int .i64 x0, .slice G n c]) 1).run Tryd.prog w = .ok (.slice G n c) w := fun _ _ _ _ _ => by kernel_rfl
      by_cases hcd : cd = 0
      · by_cases hq0 : q0 = 0
        · have IE3 := Lib.hid (fun hi' w' (h' : Rt w' 0 hi' Gd ys.length ys) => implEncBody_any b2 s2 e2 Gd ys.length capd hi' ys w' h')
          have ha : bodyAns b2 s2 e2 ys = yp := by
            rcases ht with ⟨_, hb⟩ | ⟨⟨hb, _⟩, _⟩
            · exact bodyAns_yes hb
            · omega
          rw [ha] at IE3
          generalize bodyCode b2 s2 e2 ys = p3 at *
          clear ha
          have IE4 := Lib.hid (fun w' => implEncReply_any q1 q2 q3 w')
          have ha : repAns q1 q2 q3 = yd := decRep_link HDB.out HQQ.out hq0
          rw [ha] at IE4
          generalize replyCode q1 q2 q3 = p4 at *
          clear ha
          rw [hcd] at bdd
          clear hcd
          rw [hq0] at bg
          clear hq0
          have bd := Below.refl w18.heap.size w18
          have szd := bd.size
          have FP := Lib.hid (fun (w' : World) (kb : Below w18.heap.size w18 w') => pr.keep (Keep.of_below kb 0 0) (by omega))
          have FD := Lib.hid (fun (w' : World) (kb : Below w18.heap.size w18 w') => od.rt0.keep (Keep.of_below kb 0 0) (by omega))
          have FG := Lib.hid (fun (w' : World) (kb : Below w18.heap.size w18 w') => dr.keep (Keep.of_below kb 0 0) (by omega))
          have HSB := Lib.hid (fun (w' : World) (kb : Below w18.heap.size w18 w') => (⟨(bg.below kb).at_ 0 _ rfl, (bg.below kb).at_ 1 _ rfl, (bg.below kb).at_ 2 _ rfl, (bg.below kb).at_ 3 _ rfl⟩ : w'.cell? ⟨w13.heap.size, 0, none⟩ = some (.int .i64 0) ∧ w'.cell? ⟨w13.heap.size, 1, none⟩ = some (.int .i64 q1) ∧ w'.cell? ⟨w13.heap.size, 2, none⟩ = some (.int .i64 q2) ∧ w'.cell? ⟨w13.heap.size, 3, none⟩ = some (.int .i64 q3)))
          have bddlt := bdd.lt
          have bddc0 := bdd.at_ 0 _ rfl
          have bddc1 := bdd.at_ 1 _ rfl
          have bddc2 := bdd.at_ 2 _ rfl
          have bddc3 := bdd.at_ 3 _ rfl
          have bddc4 := bdd.at_ 4 _ rfl
          have bgl := bg.lt
          obtain ⟨y0, y1, y2, y3⟩ := HSB.out _ bd
          clear h ke zr ve pr od vf dr bb bb3 be bdd br bf bg
          go_wp2_with fail
          refine (IE3.out _ _ (FD.out _ bd)).mono ?_
          rintro e u1 ⟨Gx, capx, rfl, gx, cx, ux, hb⟩
          have szb := hb.size
          replace bd := bd.trans (hb.mono szd)
          have szd := bd.size
          clear y0 y1 y2 y3
          obtain ⟨y0, y1, y2, y3⟩ := HSB.out _ bd
          go_wp2_with fail
          refine (lwSame_any Gx (some ⟨gp, 0, none⟩) yp.length capx np cp _ _ _ _ yp yp _ ux.1 (FP.out _ bd)).mono ?_
          rintro e _ ⟨rfl, rfl⟩
          go_wp2_with fail
          refine (IE4.out _).mono ?_
          rintro e u2 ⟨Gy, capy, rfl, gy, cy, uy, hb⟩
          have szb := hb.size
          replace bd := bd.trans (hb.mono szd)
          have szd := bd.size
          clear y0 y1 y2 y3
          go_wp2_with fail
          refine (lwSame_any Gy (some ⟨gd, 0, none⟩) yd.length capy nd cdd _ _ _ _ yd yd _ uy.1 (FG.out _ bd)).mono ?_
          rintro e _ ⟨rfl, rfl⟩
          go_wp2_with fail
          go_meet
          case rel => exact ⟨rfl, bd⟩
        · have IE3 := Lib.hid (fun hi' w' (h' : Rt w' 0 hi' Gd ys.length ys) => implEncBody_any b2 s2 e2 Gd ys.length capd hi' ys w' h')
          have ha : bodyAns b2 s2 e2 ys = yp := by
            rcases ht with ⟨_, hb⟩ | ⟨⟨hb, _⟩, _⟩
            · exact bodyAns_yes hb
            · omega
          rw [ha] at IE3
          generalize bodyCode b2 s2 e2 ys = p3 at *
          clear ha
          have hqb : (q0 == 0) = false := by simp [hq0]
          rw [hcd] at bdd
          clear hcd
          have bd := Below.refl w18.heap.size w18
          have szd := bd.size
          have FP := Lib.hid (fun (w' : World) (kb : Below w18.heap.size w18 w') => pr.keep (Keep.of_below kb 0 0) (by omega))
          have FD := Lib.hid (fun (w' : World) (kb : Below w18.heap.size w18 w') => od.rt0.keep (Keep.of_below kb 0 0) (by omega))
          have FG := Lib.hid (fun (w' : World) (kb : Below w18.heap.size w18 w') => dr.keep (Keep.of_below kb 0 0) (by omega))
          have HSB := Lib.hid (fun (w' : World) (kb : Below w18.heap.size w18 w') => (⟨(bg.below kb).at_ 0 _ rfl, (bg.below kb).at_ 1 _ rfl, (bg.below kb).at_ 2 _ rfl, (bg.below kb).at_ 3 _ rfl⟩ : w'.cell? ⟨w13.heap.size, 0, none⟩ = some (.int .i64 q0) ∧ w'.cell? ⟨w13.heap.size, 1, none⟩ = some (.int .i64 q1) ∧ w'.cell? ⟨w13.heap.size, 2, none⟩ = some (.int .i64 q2) ∧ w'.cell? ⟨w13.heap.size, 3, none⟩ = some (.int .i64 q3)))
          have bddlt := bdd.lt
          have bddc0 := bdd.at_ 0 _ rfl
          have bddc1 := bdd.at_ 1 _ rfl
          have bddc2 := bdd.at_ 2 _ rfl
          have bddc3 := bdd.at_ 3 _ rfl
          have bddc4 := bdd.at_ 4 _ rfl
          have bgl := bg.lt
          obtain ⟨y0, y1, y2, y3⟩ := HSB.out _ bd
          clear h ke zr ve pr od vf dr bb bb3 be bdd br bf bg
          go_wp2_with fail
          refine (IE3.out _ _ (FD.out _ bd)).mono ?_
          rintro e u1 ⟨Gx, capx, rfl, gx, cx, ux, hb⟩
          have szb := hb.size
          replace bd := bd.trans (hb.mono szd)
          have szd := bd.size
          clear y0 y1 y2 y3
          obtain ⟨y0, y1, y2, y3⟩ := HSB.out _ bd
          go_wp2_with fail
          refine (lwSame_any Gx (some ⟨gp, 0, none⟩) yp.length capx np cp _ _ _ _ yp yp _ ux.1 (FP.out _ bd)).mono ?_
          rintro e _ ⟨rfl, rfl⟩
          go_wp2_with fail
          go_meet
          case rel => exact ⟨rfl, bd⟩
      · by_cases hq0 : q0 = 0
        · have hcb : (cd == 0) = false := by simp [hcd]
          have IE4 := Lib.hid (fun w' => implEncReply_any q1 q2 q3 w')
          have ha : repAns q1 q2 q3 = yd := decRep_link HDB.out HQQ.out hq0
          rw [ha] at IE4
          generalize replyCode q1 q2 q3 = p4 at *
          clear ha
          rw [hq0] at bg
          clear hq0
          have bd := Below.refl w18.heap.size w18
          have szd := bd.size
          have FP := Lib.hid (fun (w' : World) (kb : Below w18.heap.size w18 w') => pr.keep (Keep.of_below kb 0 0) (by omega))
          have FD := Lib.hid (fun (w' : World) (kb : Below w18.heap.size w18 w') => od.rt0.keep (Keep.of_below kb 0 0) (by omega))
          have FG := Lib.hid (fun (w' : World) (kb : Below w18.heap.size w18 w') => dr.keep (Keep.of_below kb 0 0) (by omega))
          have HSB := Lib.hid (fun (w' : World) (kb : Below w18.heap.size w18 w') => (⟨(bg.below kb).at_ 0 _ rfl, (bg.below kb).at_ 1 _ rfl, (bg.below kb).at_ 2 _ rfl, (bg.below kb).at_ 3 _ rfl⟩ : w'.cell? ⟨w13.heap.size, 0, none⟩ = some (.int .i64 0) ∧ w'.cell? ⟨w13.heap.size, 1, none⟩ = some (.int .i64 q1) ∧ w'.cell? ⟨w13.heap.size, 2, none⟩ = some (.int .i64 q2) ∧ w'.cell? ⟨w13.heap.size, 3, none⟩ = some (.int .i64 q3)))
          have bddlt := bdd.lt
          have bddc0 := bdd.at_ 0 _ rfl
          have bddc1 := bdd.at_ 1 _ rfl
          have bddc2 := bdd.at_ 2 _ rfl
          have bddc3 := bdd.at_ 3 _ rfl
          have bddc4 := bdd.at_ 4 _ rfl
          have bgl := bg.lt
          obtain ⟨y0, y1, y2, y3⟩ := HSB.out _ bd
          clear h ke zr ve pr od vf dr bb bb3 be bdd br bf bg
          go_wp2_with fail
          refine (IE4.out _).mono ?_
          rintro e u2 ⟨Gy, capy, rfl, gy, cy, uy, hb⟩
          have szb := hb.size
          replace bd := bd.trans (hb.mono szd)
          have szd := bd.size
          clear y0 y1 y2 y3
          go_wp2_with fail
          refine (lwSame_any Gy (some ⟨gd, 0, none⟩) yd.length capy nd cdd _ _ _ _ yd yd _ uy.1 (FG.out _ bd)).mono ?_
          rintro e _ ⟨rfl, rfl⟩
          go_wp2_with fail
          go_meet
          case rel => exact ⟨rfl, bd⟩
        · have hcb : (cd == 0) = false := by simp [hcd]
          have hqb : (q0 == 0) = false := by simp [hq0]
          have bd := Below.refl w18.heap.size w18
          have szd := bd.size
          have FP := Lib.hid (fun (w' : World) (kb : Below w18.heap.size w18 w') => pr.keep (Keep.of_below kb 0 0) (by omega))
          have FD := Lib.hid (fun (w' : World) (kb : Below w18.heap.size w18 w') => od.rt0.keep (Keep.of_below kb 0 0) (by omega))
          have FG := Lib.hid (fun (w' : World) (kb : Below w18.heap.size w18 w') => dr.keep (Keep.of_below kb 0 0) (by omega))
          have HSB := Lib.hid (fun (w' : World) (kb : Below w18.heap.size w18 w') => (⟨(bg.below kb).at_ 0 _ rfl, (bg.below kb).at_ 1 _ rfl, (bg.below kb).at_ 2 _ rfl, (bg.below kb).at_ 3 _ rfl⟩ : w'.cell? ⟨w13.heap.size, 0, none⟩ = some (.int .i64 q0) ∧ w'.cell? ⟨w13.heap.size, 1, none⟩ = some (.int .i64 q1) ∧ w'.cell? ⟨w13.heap.size, 2, none⟩ = some (.int .i64 q2) ∧ w'.cell? ⟨w13.heap.size, 3, none⟩ = some (.int .i64 q3)))
          have bddlt := bdd.lt
          have bddc0 := bdd.at_ 0 _ rfl
          have bddc1 := bdd.at_ 1 _ rfl
          have bddc2 := bdd.at_ 2 _ rfl
          have bddc3 := bdd.at_ 3 _ rfl
          have bddc4 := bdd.at_ 4 _ rfl
          have bgl := bg.lt
          obtain ⟨y0, y1, y2, y3⟩ := HSB.out _ bd
          clear h ke zr ve pr od vf dr bb bb3 be bdd br bf bg
          go_wp2_with fail
          go_meet
          case rel => exact ⟨rfl, bd⟩
    case rest =>
    obtain ⟨rfl, hb19⟩ := hcut
    have hk19 := Keep.of_below hb19 0 0
    have hz19 := hb19.size
    replace h := h.keep hk19 (by omega)
    replace ke := ke.keep hk19 (by omega)
    replace zr := zr.keep hk19 (by omega)
    replace bb3 := bb3.keep hk19 (by omega)
    replace ve := ve.keep hk19 (by omega)
    replace be := be.keep hk19 (by omega)
    replace pr := pr.keep hk19 (by omega)
    replace od := od.keep hk19 (by omega)
    replace bdd := bdd.keep hk19 (by omega)
    replace br := br.keep hk19 (by omega)
    replace vf := vf.keep hk19 (by omega)
    replace bf := bf.keep hk19 (by omega)
    replace dr := dr.keep hk19 (by omega)
    replace bg := bg.keep hk19 (by omega)
    replace bb := bb.trans (hk19.below (by omega) bb.size)
    clear hb19 hk19
    generalize hwc19 : wc = w19 at *
    clear hwc19
    go_upto_region 19 with fail
    by_cases hq : q = 0
    · have hyl9 : 0 < yf.length := by
        rw [← HYF.out]
        unfold repAns
        rw [if_pos (HQ.out.trans hq), repL_len]
        decide
      have hv : decRepV yf = .agg #[.int .i64 0, .int .i64 ra, .int .i64 rs, .int .i64 rc] := by rw [← HYF.out]; exact decRep_back (HQ.out.trans hq)
      have IG3 := Lib.hid (fun hi' w' (r : Rd w' 0 hi' Gf yf.length yf) (k' : Ke ea w') => implDecReply_any ea Gf yf.length capf hi' yf w' r hcf (r.addr hyl9) k')
      rw [hv] at IG3
      rw [hq] at bf
      clear hv
      have bd : Below w19.heap.size w19 w19.drew := ⟨rfl, rfl, rfl, Nat.le_refl _, fun _ _ => rfl⟩
      have szd := bd.size
      have FF := Lib.hid (fun (w' : World) (kb : Below w19.heap.size w19 w') => (vf.1.wide (lo' := 0) (Nat.zero_le _) (Nat.le_refl _) vf.1.top).keep (Keep.of_below kb 0 0) (by omega))
      have FK := Lib.hid (fun (w' : World) (kb : Below w19.heap.size w19 w') => ke.keep (Keep.of_below kb 0 0) (by omega))
      have HSB := Lib.hid (fun (w' : World) (kb : Below w19.heap.size w19 w') => (⟨(br.below kb).at_ 0 _ rfl, (br.below kb).at_ 1 _ rfl, (br.below kb).at_ 2 _ rfl, (bf.below kb).at_ 0 _ rfl, (bf.below kb).at_ 1 _ rfl⟩ : w'.cell? ⟨w8.heap.size, 0, none⟩ = some (.int .i64 ra) ∧ w'.cell? ⟨w8.heap.size, 1, none⟩ = some (.int .i64 rs) ∧ w'.cell? ⟨w8.heap.size, 2, none⟩ = some (.int .i64 rc) ∧ w'.cell? ⟨w10.heap.size, 0, none⟩ = some (.int .i64 0) ∧ w'.cell? ⟨w10.heap.size, 1, none⟩ = some (.slice Gf yf.length capf)))
      replace bb := Lib.hid bb
      clear h ke zr ve pr od vf dr bb3 be bdd br bf bg
      try simp only [List.append_eq, List.cons_append, List.nil_append]
      refine wp_region_held_drew (S := fun w' => w'.cell? ⟨w8.heap.size, 0, none⟩ = some (.int .i64 ra) ∧ w'.cell? ⟨w8.heap.size, 1, none⟩ = some (.int .i64 rs) ∧ w'.cell? ⟨w8.heap.size, 2, none⟩ = some (.int .i64 rc) ∧ w'.cell? ⟨w10.heap.size, 0, none⟩ = some (.int .i64 0) ∧ w'.cell? ⟨w10.heap.size, 1, none⟩ = some (.slice Gf yf.length capf)) (by kernel_rfl) ?sSxf (fun hHeld0 => ?sRxf)
      · first | exact HSB.out _ bd | ((try dsimp only); go_keep)
      refine wpAnyH_take (i := 0) (oi := { dst := some 165, op := Op.fieldAddr 29 (Operand.tmp 8) 0, type := 0, pos := "laws.go:260", after := #[], guard := none }) (v := ?vxf1) rfl (by as_aux_lemma => kernel_rfl) (by as_aux_lemma => kernel_rfl) (by as_aux_lemma => kernel_rfl) (fun _ _ _ h => h) (Or.inl ⟨(by as_aux_lemma => rfl), ?yxf1⟩) (by assumption) ?rxf1
      case yxf1 =>
        intro w hSw
        (try dsimp only at hSw)
        go_simp
        (try with_reducible rfl)
      try simp only [Act.put, List.setIfInBounds_toArray, List.set_cons_zero, List.set_cons_succ]
      refine wpAnyH_take (i := 1) (oi := { dst := some 166, op := Op.load 2 (Operand.tmp 165), type := 2, pos := "laws.go:260", after := #[{ on := 0, ground := Ground.data }], guard := none }) (v := ?vxf2) rfl (by as_aux_lemma => kernel_rfl) (by as_aux_lemma => kernel_rfl) (by as_aux_lemma => kernel_rfl) (fun _ _ _ h => h) (Or.inl ⟨(by as_aux_lemma => rfl), ?yxf2⟩) (by assumption) ?rxf2
      case yxf2 =>
        intro w hSw
        (try dsimp only at hSw)
        go_simp
        (try with_reducible rfl)
      try simp only [Act.put, List.setIfInBounds_toArray, List.set_cons_zero, List.set_cons_succ]
      refine wpAnyH_take (i := 2) (oi := { dst := some 167, op := Op.binOp BinOp.neq 2 (Operand.tmp 166) (Operand.const (Value.int IntKind.i64 0)) 2, type := 4, pos := "laws.go:260", after := #[{ on := 1, ground := Ground.data }], guard := none }) (v := ?vxf3) rfl (by as_aux_lemma => kernel_rfl) (by as_aux_lemma => kernel_rfl) (by as_aux_lemma => kernel_rfl) (fun _ _ _ h => h) (Or.inl ⟨(by as_aux_lemma => rfl), ?yxf3⟩) (by assumption) ?rxf3
      case yxf3 =>
        intro w hSw
        (try dsimp only at hSw)
        go_simp
        (try with_reducible rfl)
      try simp only [Act.put, List.setIfInBounds_toArray, List.set_cons_zero, List.set_cons_succ]
      refine wpAnyH_take (i := 3) (oi := { dst := some 168, op := Op.move (Operand.tmp 167), type := 4, pos := "laws.go:260", after := #[{ on := 2, ground := Ground.data }], guard := none }) (v := ?vxf4) rfl (by as_aux_lemma => kernel_rfl) (by as_aux_lemma => kernel_rfl) (by as_aux_lemma => kernel_rfl) (fun _ _ _ h => h) (Or.inl ⟨(by as_aux_lemma => rfl), ?yxf4⟩) (by assumption) ?rxf4
      case yxf4 =>
        intro w hSw
        (try dsimp only at hSw)
        go_simp
        (try with_reducible rfl)
      try simp only [Act.put, List.setIfInBounds_toArray, List.set_cons_zero, List.set_cons_succ]
      refine wpAnyH_take (i := 4) (oi := { dst := some 169, op := Op.fieldAddr 29 (Operand.tmp 8) 1, type := 0, pos := "laws.go:260", after := #[{ on := 3, ground := Ground.guard }], guard := some (3, false) }) (v := ?vxf5) rfl (by as_aux_lemma => kernel_rfl) (by as_aux_lemma => kernel_rfl) (by as_aux_lemma => kernel_rfl) (fun _ _ _ h => h) (Or.inl ⟨(by as_aux_lemma => rfl), ?yxf5⟩) (by assumption) ?rxf5
      case yxf5 =>
        intro w hSw
        (try dsimp only at hSw)
        go_simp
        (try with_reducible rfl)
      try simp only [Act.put, List.setIfInBounds_toArray, List.set_cons_zero, List.set_cons_succ]
      refine wpAnyH_take (i := 5) (oi := { dst := some 170, op := Op.load 22 (Operand.tmp 169), type := 22, pos := "laws.go:260", after := #[{ on := 4, ground := Ground.data }, { on := 3, ground := Ground.guard }], guard := some (3, false) }) (v := ?vxf6) rfl (by as_aux_lemma => kernel_rfl) (by as_aux_lemma => kernel_rfl) (by as_aux_lemma => kernel_rfl) (fun _ _ _ h => h) (Or.inl ⟨(by as_aux_lemma => rfl), ?yxf6⟩) (by assumption) ?rxf6
      case yxf6 =>
        intro w hSw
        (try dsimp only at hSw)
        go_simp
        (try with_reducible rfl)
      try simp only [Act.put, List.setIfInBounds_toArray, List.set_cons_zero, List.set_cons_succ]
      refine wpAnyH_take (i := 7) (oi := { dst := some 172, op := Op.load 36 (Operand.tmp 7), type := 36, pos := "laws.go:260", after := #[{ on := 3, ground := Ground.guard }], guard := some (3, false) }) (v := ?vxf7) rfl (by as_aux_lemma => kernel_rfl) (by as_aux_lemma => kernel_rfl) (by as_aux_lemma => kernel_rfl) (fun _ _ _ h => h) (Or.inl ⟨(by as_aux_lemma => rfl), ?yxf7⟩) (by assumption) ?rxf7
      case yxf7 =>
        intro w hSw
        (try dsimp only at hSw)
        go_simp
        (try with_reducible rfl)
      try simp only [Act.put, List.setIfInBounds_toArray, List.set_cons_zero, List.set_cons_succ]
      refine wpAnyH_take (i := 8) (oi := { dst := some 173, op := Op.build 40 #[(1, Operand.tmp 172)], type := 40, pos := "laws.go:260", after := #[{ on := 7, ground := Ground.data }, { on := 3, ground := Ground.guard }], guard := some (3, false) }) (v := ?vxf8) rfl (by as_aux_lemma => kernel_rfl) (by as_aux_lemma => kernel_rfl) (by as_aux_lemma => kernel_rfl) (fun _ _ _ h => h) (Or.inl ⟨(by as_aux_lemma => rfl), ?yxf8⟩) (by assumption) ?rxf8
      case yxf8 =>
        intro w hSw
        (try dsimp only at hSw)
        go_simp
        (try with_reducible rfl)
      try simp only [Act.put, List.setIfInBounds_toArray, List.set_cons_zero, List.set_cons_succ]
      refine wpAnyH_ready (rs := [6]) (by as_aux_lemma => kernel_rfl) (by simp) ?rxf9
      refine AllReadyH.cons (o := { dst := some 171, op := Op.call { callee := Callee.value (Operand.func 14), args := #[Operand.tmp 170], argTypes := #[22] }, type := 40, pos := "laws.go:260", after := #[{ on := 5, ground := Ground.data }, { on := 3, ground := Ground.chain }, { on := 3, ground := Ground.guard }], guard := some (3, false) }) rfl (fun K hK => ?kxf9) AllReadyH.nil
      go_simp
      (go_at_call 14; refine (IG3.out _ _ (FF.out _ bd) (FK.out _ bd)).mono ?_; rintro e u ⟨rfl, hb⟩; replace bd := bd.trans (hb.mono szd); have szd := bd.size)
      refine hK.out _ _ ?sxf9 (fun hHeld9 => ?txf9)
      · first | exact HSB.out _ bd | ((try dsimp only); go_keep)
      clear hK K
      try simp only [Act.put, List.setIfInBounds_toArray, List.set_cons_zero, List.set_cons_succ]
      refine wpAnyH_take (i := 9) (oi := { dst := some 174, op := Op.binOp BinOp.eql 40 (Operand.tmp 171) (Operand.tmp 173) 40, type := 4, pos := "laws.go:260", after := #[{ on := 6, ground := Ground.data }, { on := 8, ground := Ground.data }, { on := 3, ground := Ground.guard }], guard := some (3, false) }) (v := ?vxf10) rfl (by as_aux_lemma => kernel_rfl) (by as_aux_lemma => kernel_rfl) (by as_aux_lemma => kernel_rfl) (fun _ _ _ h => h) (Or.inl ⟨(by as_aux_lemma => rfl), ?yxf10⟩) (by assumption) ?rxf10
      case yxf10 =>
        intro w hSw
        (try dsimp only at hSw)
        go_simp
        (try with_reducible rfl)
      try simp only [Act.put, List.setIfInBounds_toArray, List.set_cons_zero, List.set_cons_succ]
      refine wpAnyH_take (i := 10) (oi := { dst := some 175, op := Op.pick (Operand.tmp 168) (Operand.const (Value.bool true)) (Operand.tmp 174), type := 4, pos := "laws.go:260", after := #[{ on := 3, ground := Ground.data }, { on := 9, ground := Ground.data }], guard := none }) (v := ?vxf11) rfl (by as_aux_lemma => kernel_rfl) (by as_aux_lemma => kernel_rfl) (by as_aux_lemma => kernel_rfl) (fun _ _ _ h => h) (Or.inl ⟨(by as_aux_lemma => rfl), ?yxf11⟩) (by assumption) ?rxf11
      case yxf11 =>
        intro w hSw
        (try dsimp only at hSw)
        go_simp
        (try with_reducible rfl)
      try simp only [Act.put, List.setIfInBounds_toArray, List.set_cons_zero, List.set_cons_succ]
      refine wpAnyH_take (i := 11) (oi := { dst := some 2, op := Op.assign (Operand.tmp 175), type := 4, pos := "laws.go:260", after := #[{ on := 10, ground := Ground.data }, { on := 6, ground := Ground.chain }, { on := 0, ground := Ground.phase }, { on := 1, ground := Ground.phase }, { on := 2, ground := Ground.phase }, { on := 3, ground := Ground.phase }, { on := 4, ground := Ground.phase }, { on := 5, ground := Ground.phase }, { on := 6, ground := Ground.phase }, { on := 7, ground := Ground.phase }, { on := 8, ground := Ground.phase }, { on := 9, ground := Ground.phase }, { on := 10, ground := Ground.phase }], guard := none }) (v := ?vxf12) rfl (by as_aux_lemma => kernel_rfl) (by as_aux_lemma => kernel_rfl) (by as_aux_lemma => kernel_rfl) (fun _ _ _ h => h) (Or.inl ⟨(by as_aux_lemma => rfl), ?yxf12⟩) (by assumption) ?rxf12
      case yxf12 =>
        intro w hSw
        (try dsimp only at hSw)
        go_simp
        (try with_reducible rfl)
      try simp only [Act.put, List.setIfInBounds_toArray, List.set_cons_zero, List.set_cons_succ]
      refine wpAnyH_done (by as_aux_lemma => kernel_rfl) ?exf _
      go_wp2_with fail
      go_ret
      exact ⟨rfl, bb.out.trans (bd.mono bb.out.size)⟩
    · have hqb : (q != 0) = true := by simpa [bne] using hq
      have bd : Below w19.heap.size w19 w19.drew := ⟨rfl, rfl, rfl, Nat.le_refl _, fun _ _ => rfl⟩
      have szd := bd.size
      have HSB := Lib.hid (fun (w' : World) (kb : Below w19.heap.size w19 w') => (⟨(br.below kb).at_ 0 _ rfl, (br.below kb).at_ 1 _ rfl, (br.below kb).at_ 2 _ rfl, (bf.below kb).at_ 0 _ rfl, (bf.below kb).at_ 1 _ rfl⟩ : w'.cell? ⟨w8.heap.size, 0, none⟩ = some (.int .i64 ra) ∧ w'.cell? ⟨w8.heap.size, 1, none⟩ = some (.int .i64 rs) ∧ w'.cell? ⟨w8.heap.size, 2, none⟩ = some (.int .i64 rc) ∧ w'.cell? ⟨w10.heap.size, 0, none⟩ = some (.int .i64 q) ∧ w'.cell? ⟨w10.heap.size, 1, none⟩ = some (.slice Gf yf.length capf)))
      replace bb := Lib.hid bb
      clear h ke zr ve pr od vf dr bb3 be bdd br bf bg
      try simp only [List.append_eq, List.cons_append, List.nil_append]
      refine wp_region_held_drew (S := fun w' => w'.cell? ⟨w8.heap.size, 0, none⟩ = some (.int .i64 ra) ∧ w'.cell? ⟨w8.heap.size, 1, none⟩ = some (.int .i64 rs) ∧ w'.cell? ⟨w8.heap.size, 2, none⟩ = some (.int .i64 rc) ∧ w'.cell? ⟨w10.heap.size, 0, none⟩ = some (.int .i64 q) ∧ w'.cell? ⟨w10.heap.size, 1, none⟩ = some (.slice Gf yf.length capf)) (by kernel_rfl) ?sSxg (fun hHeld0 => ?sRxg)
      · first | exact HSB.out _ bd | ((try dsimp only); go_keep)
      refine wpAnyH_take (i := 0) (oi := { dst := some 165, op := Op.fieldAddr 29 (Operand.tmp 8) 0, type := 0, pos := "laws.go:260", after := #[], guard := none }) (v := ?vxg1) rfl (by as_aux_lemma => kernel_rfl) (by as_aux_lemma => kernel_rfl) (by as_aux_lemma => kernel_rfl) (fun _ _ _ h => h) (Or.inl ⟨(by as_aux_lemma => rfl), ?yxg1⟩) (by assumption) ?rxg1
      case yxg1 =>
        intro w hSw
        (try dsimp only at hSw)
        go_simp
        (try with_reducible rfl)
      try simp only [Act.put, List.setIfInBounds_toArray, List.set_cons_zero, List.set_cons_succ]
      refine wpAnyH_take (i := 1) (oi := { dst := some 166, op := Op.load 2 (Operand.tmp 165), type := 2, pos := "laws.go:260", after := #[{ on := 0, ground := Ground.data }], guard := none }) (v := ?vxg2) rfl (by as_aux_lemma => kernel_rfl) (by as_aux_lemma => kernel_rfl) (by as_aux_lemma => kernel_rfl) (fun _ _ _ h => h) (Or.inl ⟨(by as_aux_lemma => rfl), ?yxg2⟩) (by assumption) ?rxg2
      case yxg2 =>
        intro w hSw
        (try dsimp only at hSw)
        go_simp
        (try with_reducible rfl)
      try simp only [Act.put, List.setIfInBounds_toArray, List.set_cons_zero, List.set_cons_succ]
      refine wpAnyH_take (i := 2) (oi := { dst := some 167, op := Op.binOp BinOp.neq 2 (Operand.tmp 166) (Operand.const (Value.int IntKind.i64 0)) 2, type := 4, pos := "laws.go:260", after := #[{ on := 1, ground := Ground.data }], guard := none }) (v := ?vxg3) rfl (by as_aux_lemma => kernel_rfl) (by as_aux_lemma => kernel_rfl) (by as_aux_lemma => kernel_rfl) (fun _ _ _ h => h) (Or.inl ⟨(by as_aux_lemma => rfl), ?yxg3⟩) (by assumption) ?rxg3
      case yxg3 =>
        intro w hSw
        (try dsimp only at hSw)
        go_simp
        (try with_reducible rfl)
      try simp only [Act.put, List.setIfInBounds_toArray, List.set_cons_zero, List.set_cons_succ]
      refine wpAnyH_take (i := 3) (oi := { dst := some 168, op := Op.move (Operand.tmp 167), type := 4, pos := "laws.go:260", after := #[{ on := 2, ground := Ground.data }], guard := none }) (v := ?vxg4) rfl (by as_aux_lemma => kernel_rfl) (by as_aux_lemma => kernel_rfl) (by as_aux_lemma => kernel_rfl) (fun _ _ _ h => h) (Or.inl ⟨(by as_aux_lemma => rfl), ?yxg4⟩) (by assumption) ?rxg4
      case yxg4 =>
        intro w hSw
        (try dsimp only at hSw)
        go_simp
        (try with_reducible rfl)
      try simp only [Act.put, List.setIfInBounds_toArray, List.set_cons_zero, List.set_cons_succ]
      refine wpAnyH_take (i := 4) (oi := { dst := some 169, op := Op.fieldAddr 29 (Operand.tmp 8) 1, type := 0, pos := "laws.go:260", after := #[{ on := 3, ground := Ground.guard }], guard := some (3, false) }) (v := undef) rfl (by as_aux_lemma => kernel_rfl) (by as_aux_lemma => kernel_rfl) (by as_aux_lemma => kernel_rfl) (fun _ _ _ h => h) (Or.inr ⟨(by as_aux_lemma => rfl), rfl⟩) (by assumption) ?rxg5
      try simp only [Act.put, List.setIfInBounds_toArray, List.set_cons_zero, List.set_cons_succ]
      refine wpAnyH_take (i := 5) (oi := { dst := some 170, op := Op.load 22 (Operand.tmp 169), type := 22, pos := "laws.go:260", after := #[{ on := 4, ground := Ground.data }, { on := 3, ground := Ground.guard }], guard := some (3, false) }) (v := undef) rfl (by as_aux_lemma => kernel_rfl) (by as_aux_lemma => kernel_rfl) (by as_aux_lemma => kernel_rfl) (fun _ _ _ h => h) (Or.inr ⟨(by as_aux_lemma => rfl), rfl⟩) (by assumption) ?rxg6
      try simp only [Act.put, List.setIfInBounds_toArray, List.set_cons_zero, List.set_cons_succ]
      refine wpAnyH_take (i := 6) (oi := { dst := some 171, op := Op.call { callee := Callee.value (Operand.func 14), args := #[Operand.tmp 170], argTypes := #[22] }, type := 40, pos := "laws.go:260", after := #[{ on := 5, ground := Ground.data }, { on := 3, ground := Ground.chain }, { on := 3, ground := Ground.guard }], guard := some (3, false) }) (v := undef) rfl (by as_aux_lemma => kernel_rfl) (by as_aux_lemma => kernel_rfl) (by as_aux_lemma => kernel_rfl) (fun _ _ _ h => h) (Or.inr ⟨(by as_aux_lemma => rfl), rfl⟩) (by assumption) ?rxg7
      try simp only [Act.put, List.setIfInBounds_toArray, List.set_cons_zero, List.set_cons_succ]
      refine wpAnyH_take (i := 7) (oi := { dst := some 172, op := Op.load 36 (Operand.tmp 7), type := 36, pos := "laws.go:260", after := #[{ on := 3, ground := Ground.guard }], guard := some (3, false) }) (v := undef) rfl (by as_aux_lemma => kernel_rfl) (by as_aux_lemma => kernel_rfl) (by as_aux_lemma => kernel_rfl) (fun _ _ _ h => h) (Or.inr ⟨(by as_aux_lemma => rfl), rfl⟩) (by assumption) ?rxg8
      try simp only [Act.put, List.setIfInBounds_toArray, List.set_cons_zero, List.set_cons_succ]
      refine wpAnyH_take (i := 8) (oi := { dst := some 173, op := Op.build 40 #[(1, Operand.tmp 172)], type := 40, pos := "laws.go:260", after := #[{ on := 7, ground := Ground.data }, { on := 3, ground := Ground.guard }], guard := some (3, false) }) (v := undef) rfl (by as_aux_lemma => kernel_rfl) (by as_aux_lemma => kernel_rfl) (by as_aux_lemma => kernel_rfl) (fun _ _ _ h => h) (Or.inr ⟨(by as_aux_lemma => rfl), rfl⟩) (by assumption) ?rxg9
      try simp only [Act.put, List.setIfInBounds_toArray, List.set_cons_zero, List.set_cons_succ]
      refine wpAnyH_take (i := 9) (oi := { dst := some 174, op := Op.binOp BinOp.eql 40 (Operand.tmp 171) (Operand.tmp 173) 40, type := 4, pos := "laws.go:260", after := #[{ on := 6, ground := Ground.data }, { on := 8, ground := Ground.data }, { on := 3, ground := Ground.guard }], guard := some (3, false) }) (v := undef) rfl (by as_aux_lemma => kernel_rfl) (by as_aux_lemma => kernel_rfl) (by as_aux_lemma => kernel_rfl) (fun _ _ _ h => h) (Or.inr ⟨(by as_aux_lemma => rfl), rfl⟩) (by assumption) ?rxg10
      try simp only [Act.put, List.setIfInBounds_toArray, List.set_cons_zero, List.set_cons_succ]
      refine wpAnyH_take (i := 10) (oi := { dst := some 175, op := Op.pick (Operand.tmp 168) (Operand.const (Value.bool true)) (Operand.tmp 174), type := 4, pos := "laws.go:260", after := #[{ on := 3, ground := Ground.data }, { on := 9, ground := Ground.data }], guard := none }) (v := ?vxg11) rfl (by as_aux_lemma => kernel_rfl) (by as_aux_lemma => kernel_rfl) (by as_aux_lemma => kernel_rfl) (fun _ _ _ h => h) (Or.inl ⟨(by as_aux_lemma => rfl), ?yxg11⟩) (by assumption) ?rxg11
      case yxg11 =>
        intro w hSw
        (try dsimp only at hSw)
        go_simp
        (try with_reducible rfl)
      try simp only [Act.put, List.setIfInBounds_toArray, List.set_cons_zero, List.set_cons_succ]
      refine wpAnyH_take (i := 11) (oi := { dst := some 2, op := Op.assign (Operand.tmp 175), type := 4, pos := "laws.go:260", after := #[{ on := 10, ground := Ground.data }, { on := 6, ground := Ground.chain }, { on := 0, ground := Ground.phase }, { on := 1, ground := Ground.phase }, { on := 2, ground := Ground.phase }, { on := 3, ground := Ground.phase }, { on := 4, ground := Ground.phase }, { on := 5, ground := Ground.phase }, { on := 6, ground := Ground.phase }, { on := 7, ground := Ground.phase }, { on := 8, ground := Ground.phase }, { on := 9, ground := Ground.phase }, { on := 10, ground := Ground.phase }], guard := none }) (v := ?vxg12) rfl (by as_aux_lemma => kernel_rfl) (by as_aux_lemma => kernel_rfl) (by as_aux_lemma => kernel_rfl) (fun _ _ _ h => h) (Or.inl ⟨(by as_aux_lemma => rfl), ?yxg12⟩) (by assumption) ?rxg12
      case yxg12 =>
        intro w hSw
        (try dsimp only at hSw)
        go_simp
        (try with_reducible rfl)
      try simp only [Act.put, List.setIfInBounds_toArray, List.set_cons_zero, List.set_cons_succ]
      refine wpAnyH_done (by as_aux_lemma => kernel_rfl) ?exg _
      go_wp2_with fail
      go_ret
      exact ⟨rfl, bb.out.trans (bd.mono bb.out.size)⟩
  · have hpb : (p == 0) = false := by simp [hp0]
    have belt := be.lt
    have bec0 := be.at_ 0 _ rfl
    have bec1 := be.at_ 1 _ rfl
    go_upto_region 17 with fail
    clear belt bec0 bec1
    go_cut [164] from 139 to 164 (fun sv wx => sv = .bool false ∧ Below w15.heap.size w15 wx)
    case first =>
      have fa : ∀ (x0 : Int) (G : Option Addr) (n c : Nat) (w : World), (Instr.field 29 (.agg #[.int .i64 x0, .slice G n c]) 1).run Tryd.prog w = .ok (.slice G n c) w := fun _ _ _ _ _ => by kernel_rfl
      by_cases hcd : cd = 0
      · by_cases hq0 : q0 = 0
        · have IE3 := Lib.hid (fun hi' w' (h' : Rt w' 0 hi' Gd ys.length ys) => implEncBody_any b2 s2 e2 Gd ys.length capd hi' ys w' h')
          have ha : bodyAns b2 s2 e2 ys = yp := by
            rcases ht with ⟨_, hb⟩ | ⟨⟨hb, _⟩, _⟩
            · exact bodyAns_yes hb
            · omega
          rw [ha] at IE3
          generalize bodyCode b2 s2 e2 ys = p3 at *
          clear ha
          have IE4 := Lib.hid (fun w' => implEncReply_any q1 q2 q3 w')
          have ha : repAns q1 q2 q3 = yd := decRep_link HDB.out HQQ.out hq0
          rw [ha] at IE4
          generalize replyCode q1 q2 q3 = p4 at *
          clear ha
          rw [hcd] at bdd
          clear hcd
          rw [hq0] at bg
          clear hq0
          have bd := Below.refl w15.heap.size w15
          have szd := bd.size
          have FP := Lib.hid (fun (w' : World) (kb : Below w15.heap.size w15 w') => pr.keep (Keep.of_below kb 0 0) (by omega))
          have FD := Lib.hid (fun (w' : World) (kb : Below w15.heap.size w15 w') => od.rt0.keep (Keep.of_below kb 0 0) (by omega))
          have FG := Lib.hid (fun (w' : World) (kb : Below w15.heap.size w15 w') => dr.keep (Keep.of_below kb 0 0) (by omega))
          have HSB := Lib.hid (fun (w' : World) (kb : Below w15.heap.size w15 w') => (⟨(bg.below kb).at_ 0 _ rfl, (bg.below kb).at_ 1 _ rfl, (bg.below kb).at_ 2 _ rfl, (bg.below kb).at_ 3 _ rfl⟩ : w'.cell? ⟨w13.heap.size, 0, none⟩ = some (.int .i64 0) ∧ w'.cell? ⟨w13.heap.size, 1, none⟩ = some (.int .i64 q1) ∧ w'.cell? ⟨w13.heap.size, 2, none⟩ = some (.int .i64 q2) ∧ w'.cell? ⟨w13.heap.size, 3, none⟩ = some (.int .i64 q3)))
          have bddlt := bdd.lt
          have bddc0 := bdd.at_ 0 _ rfl
          have bddc1 := bdd.at_ 1 _ rfl
          have bddc2 := bdd.at_ 2 _ rfl
          have bddc3 := bdd.at_ 3 _ rfl
          have bddc4 := bdd.at_ 4 _ rfl
          have bgl := bg.lt
          obtain ⟨y0, y1, y2, y3⟩ := HSB.out _ bd
          clear h ke zr ve pr od vf dr bb bb3 be bdd br bf bg
          go_wp2_with fail
          refine (IE3.out _ _ (FD.out _ bd)).mono ?_
          rintro e u1 ⟨Gx, capx, rfl, gx, cx, ux, hb⟩
          have szb := hb.size
          replace bd := bd.trans (hb.mono szd)
          have szd := bd.size
          clear y0 y1 y2 y3
          obtain ⟨y0, y1, y2, y3⟩ := HSB.out _ bd
          go_wp2_with fail
          refine (lwSame_any Gx (some ⟨gp, 0, none⟩) yp.length capx np cp _ _ _ _ yp yp _ ux.1 (FP.out _ bd)).mono ?_
          rintro e _ ⟨rfl, rfl⟩
          go_wp2_with fail
          refine (IE4.out _).mono ?_
          rintro e u2 ⟨Gy, capy, rfl, gy, cy, uy, hb⟩
          have szb := hb.size
          replace bd := bd.trans (hb.mono szd)
          have szd := bd.size
          clear y0 y1 y2 y3
          go_wp2_with fail
          refine (lwSame_any Gy (some ⟨gd, 0, none⟩) yd.length capy nd cdd _ _ _ _ yd yd _ uy.1 (FG.out _ bd)).mono ?_
          rintro e _ ⟨rfl, rfl⟩
          go_wp2_with fail
          go_meet
          case rel => exact ⟨rfl, bd⟩
        · have IE3 := Lib.hid (fun hi' w' (h' : Rt w' 0 hi' Gd ys.length ys) => implEncBody_any b2 s2 e2 Gd ys.length capd hi' ys w' h')
          have ha : bodyAns b2 s2 e2 ys = yp := by
            rcases ht with ⟨_, hb⟩ | ⟨⟨hb, _⟩, _⟩
            · exact bodyAns_yes hb
            · omega
          rw [ha] at IE3
          generalize bodyCode b2 s2 e2 ys = p3 at *
          clear ha
          have hqb : (q0 == 0) = false := by simp [hq0]
          rw [hcd] at bdd
          clear hcd
          have bd := Below.refl w15.heap.size w15
          have szd := bd.size
          have FP := Lib.hid (fun (w' : World) (kb : Below w15.heap.size w15 w') => pr.keep (Keep.of_below kb 0 0) (by omega))
          have FD := Lib.hid (fun (w' : World) (kb : Below w15.heap.size w15 w') => od.rt0.keep (Keep.of_below kb 0 0) (by omega))
          have FG := Lib.hid (fun (w' : World) (kb : Below w15.heap.size w15 w') => dr.keep (Keep.of_below kb 0 0) (by omega))
          have HSB := Lib.hid (fun (w' : World) (kb : Below w15.heap.size w15 w') => (⟨(bg.below kb).at_ 0 _ rfl, (bg.below kb).at_ 1 _ rfl, (bg.below kb).at_ 2 _ rfl, (bg.below kb).at_ 3 _ rfl⟩ : w'.cell? ⟨w13.heap.size, 0, none⟩ = some (.int .i64 q0) ∧ w'.cell? ⟨w13.heap.size, 1, none⟩ = some (.int .i64 q1) ∧ w'.cell? ⟨w13.heap.size, 2, none⟩ = some (.int .i64 q2) ∧ w'.cell? ⟨w13.heap.size, 3, none⟩ = some (.int .i64 q3)))
          have bddlt := bdd.lt
          have bddc0 := bdd.at_ 0 _ rfl
          have bddc1 := bdd.at_ 1 _ rfl
          have bddc2 := bdd.at_ 2 _ rfl
          have bddc3 := bdd.at_ 3 _ rfl
          have bddc4 := bdd.at_ 4 _ rfl
          have bgl := bg.lt
          obtain ⟨y0, y1, y2, y3⟩ := HSB.out _ bd
          clear h ke zr ve pr od vf dr bb bb3 be bdd br bf bg
          go_wp2_with fail
          refine (IE3.out _ _ (FD.out _ bd)).mono ?_
          rintro e u1 ⟨Gx, capx, rfl, gx, cx, ux, hb⟩
          have szb := hb.size
          replace bd := bd.trans (hb.mono szd)
          have szd := bd.size
          clear y0 y1 y2 y3
          obtain ⟨y0, y1, y2, y3⟩ := HSB.out _ bd
          go_wp2_with fail
          refine (lwSame_any Gx (some ⟨gp, 0, none⟩) yp.length capx np cp _ _ _ _ yp yp _ ux.1 (FP.out _ bd)).mono ?_
          rintro e _ ⟨rfl, rfl⟩
          go_wp2_with fail
          go_meet
          case rel => exact ⟨rfl, bd⟩
      · by_cases hq0 : q0 = 0
        · have hcb : (cd == 0) = false := by simp [hcd]
          have IE4 := Lib.hid (fun w' => implEncReply_any q1 q2 q3 w')
          have ha : repAns q1 q2 q3 = yd := decRep_link HDB.out HQQ.out hq0
          rw [ha] at IE4
          generalize replyCode q1 q2 q3 = p4 at *
          clear ha
          rw [hq0] at bg
          clear hq0
          have bd := Below.refl w15.heap.size w15
          have szd := bd.size
          have FP := Lib.hid (fun (w' : World) (kb : Below w15.heap.size w15 w') => pr.keep (Keep.of_below kb 0 0) (by omega))
          have FD := Lib.hid (fun (w' : World) (kb : Below w15.heap.size w15 w') => od.rt0.keep (Keep.of_below kb 0 0) (by omega))
          have FG := Lib.hid (fun (w' : World) (kb : Below w15.heap.size w15 w') => dr.keep (Keep.of_below kb 0 0) (by omega))
          have HSB := Lib.hid (fun (w' : World) (kb : Below w15.heap.size w15 w') => (⟨(bg.below kb).at_ 0 _ rfl, (bg.below kb).at_ 1 _ rfl, (bg.below kb).at_ 2 _ rfl, (bg.below kb).at_ 3 _ rfl⟩ : w'.cell? ⟨w13.heap.size, 0, none⟩ = some (.int .i64 0) ∧ w'.cell? ⟨w13.heap.size, 1, none⟩ = some (.int .i64 q1) ∧ w'.cell? ⟨w13.heap.size, 2, none⟩ = some (.int .i64 q2) ∧ w'.cell? ⟨w13.heap.size, 3, none⟩ = some (.int .i64 q3)))
          have bddlt := bdd.lt
          have bddc0 := bdd.at_ 0 _ rfl
          have bddc1 := bdd.at_ 1 _ rfl
          have bddc2 := bdd.at_ 2 _ rfl
          have bddc3 := bdd.at_ 3 _ rfl
          have bddc4 := bdd.at_ 4 _ rfl
          have bgl := bg.lt
          obtain ⟨y0, y1, y2, y3⟩ := HSB.out _ bd
          clear h ke zr ve pr od vf dr bb bb3 be bdd br bf bg
          go_wp2_with fail
          refine (IE4.out _).mono ?_
          rintro e u2 ⟨Gy, capy, rfl, gy, cy, uy, hb⟩
          have szb := hb.size
          replace bd := bd.trans (hb.mono szd)
          have szd := bd.size
          clear y0 y1 y2 y3
          go_wp2_with fail
          refine (lwSame_any Gy (some ⟨gd, 0, none⟩) yd.length capy nd cdd _ _ _ _ yd yd _ uy.1 (FG.out _ bd)).mono ?_
          rintro e _ ⟨rfl, rfl⟩
          go_wp2_with fail
          go_meet
          case rel => exact ⟨rfl, bd⟩
        · have hcb : (cd == 0) = false := by simp [hcd]
          have hqb : (q0 == 0) = false := by simp [hq0]
          have bd := Below.refl w15.heap.size w15
          have szd := bd.size
          have FP := Lib.hid (fun (w' : World) (kb : Below w15.heap.size w15 w') => pr.keep (Keep.of_below kb 0 0) (by omega))
          have FD := Lib.hid (fun (w' : World) (kb : Below w15.heap.size w15 w') => od.rt0.keep (Keep.of_below kb 0 0) (by omega))
          have FG := Lib.hid (fun (w' : World) (kb : Below w15.heap.size w15 w') => dr.keep (Keep.of_below kb 0 0) (by omega))
          have HSB := Lib.hid (fun (w' : World) (kb : Below w15.heap.size w15 w') => (⟨(bg.below kb).at_ 0 _ rfl, (bg.below kb).at_ 1 _ rfl, (bg.below kb).at_ 2 _ rfl, (bg.below kb).at_ 3 _ rfl⟩ : w'.cell? ⟨w13.heap.size, 0, none⟩ = some (.int .i64 q0) ∧ w'.cell? ⟨w13.heap.size, 1, none⟩ = some (.int .i64 q1) ∧ w'.cell? ⟨w13.heap.size, 2, none⟩ = some (.int .i64 q2) ∧ w'.cell? ⟨w13.heap.size, 3, none⟩ = some (.int .i64 q3)))
          have bddlt := bdd.lt
          have bddc0 := bdd.at_ 0 _ rfl
          have bddc1 := bdd.at_ 1 _ rfl
          have bddc2 := bdd.at_ 2 _ rfl
          have bddc3 := bdd.at_ 3 _ rfl
          have bddc4 := bdd.at_ 4 _ rfl
          have bgl := bg.lt
          obtain ⟨y0, y1, y2, y3⟩ := HSB.out _ bd
          clear h ke zr ve pr od vf dr bb bb3 be bdd br bf bg
          go_wp2_with fail
          go_meet
          case rel => exact ⟨rfl, bd⟩
    case rest =>
    obtain ⟨rfl, hb16⟩ := hcut
    have hk16 := Keep.of_below hb16 0 0
    have hz16 := hb16.size
    replace h := h.keep hk16 (by omega)
    replace ke := ke.keep hk16 (by omega)
    replace zr := zr.keep hk16 (by omega)
    replace bb3 := bb3.keep hk16 (by omega)
    replace ve := ve.keep hk16 (by omega)
    replace be := be.keep hk16 (by omega)
    replace pr := pr.keep hk16 (by omega)
    replace od := od.keep hk16 (by omega)
    replace bdd := bdd.keep hk16 (by omega)
    replace br := br.keep hk16 (by omega)
    replace vf := vf.keep hk16 (by omega)
    replace bf := bf.keep hk16 (by omega)
    replace dr := dr.keep hk16 (by omega)
    replace bg := bg.keep hk16 (by omega)
    replace bb := bb.trans (hk16.below (by omega) bb.size)
    clear hb16 hk16
    generalize hwc16 : wc = w16 at *
    clear hwc16
    go_upto_region 19 with fail
    by_cases hq : q = 0
    · have hyl9 : 0 < yf.length := by
        rw [← HYF.out]
        unfold repAns
        rw [if_pos (HQ.out.trans hq), repL_len]
        decide
      have hv : decRepV yf = .agg #[.int .i64 0, .int .i64 ra, .int .i64 rs, .int .i64 rc] := by rw [← HYF.out]; exact decRep_back (HQ.out.trans hq)
      have IG3 := Lib.hid (fun hi' w' (r : Rd w' 0 hi' Gf yf.length yf) (k' : Ke ea w') => implDecReply_any ea Gf yf.length capf hi' yf w' r hcf (r.addr hyl9) k')
      rw [hv] at IG3
      rw [hq] at bf
      clear hv
      have bd : Below w16.heap.size w16 w16.drew := ⟨rfl, rfl, rfl, Nat.le_refl _, fun _ _ => rfl⟩
      have szd := bd.size
      have FF := Lib.hid (fun (w' : World) (kb : Below w16.heap.size w16 w') => (vf.1.wide (lo' := 0) (Nat.zero_le _) (Nat.le_refl _) vf.1.top).keep (Keep.of_below kb 0 0) (by omega))
      have FK := Lib.hid (fun (w' : World) (kb : Below w16.heap.size w16 w') => ke.keep (Keep.of_below kb 0 0) (by omega))
      have HSB := Lib.hid (fun (w' : World) (kb : Below w16.heap.size w16 w') => (⟨(br.below kb).at_ 0 _ rfl, (br.below kb).at_ 1 _ rfl, (br.below kb).at_ 2 _ rfl, (bf.below kb).at_ 0 _ rfl, (bf.below kb).at_ 1 _ rfl⟩ : w'.cell? ⟨w8.heap.size, 0, none⟩ = some (.int .i64 ra) ∧ w'.cell? ⟨w8.heap.size, 1, none⟩ = some (.int .i64 rs) ∧ w'.cell? ⟨w8.heap.size, 2, none⟩ = some (.int .i64 rc) ∧ w'.cell? ⟨w10.heap.size, 0, none⟩ = some (.int .i64 0) ∧ w'.cell? ⟨w10.heap.size, 1, none⟩ = some (.slice Gf yf.length capf)))
      replace bb := Lib.hid bb
      clear h ke zr ve pr od vf dr bb3 be bdd br bf bg
      try simp only [List.append_eq, List.cons_append, List.nil_append]
      refine wp_region_held_drew (S := fun w' => w'.cell? ⟨w8.heap.size, 0, none⟩ = some (.int .i64 ra) ∧ w'.cell? ⟨w8.heap.size, 1, none⟩ = some (.int .i64 rs) ∧ w'.cell? ⟨w8.heap.size, 2, none⟩ = some (.int .i64 rc) ∧ w'.cell? ⟨w10.heap.size, 0, none⟩ = some (.int .i64 0) ∧ w'.cell? ⟨w10.heap.size, 1, none⟩ = some (.slice Gf yf.length capf)) (by kernel_rfl) ?sSyf (fun hHeld0 => ?sRyf)
      · first | exact HSB.out _ bd | ((try dsimp only); go_keep)
      refine wpAnyH_take (i := 0) (oi := { dst := some 165, op := Op.fieldAddr 29 (Operand.tmp 8) 0, type := 0, pos := "laws.go:260", after := #[], guard := none }) (v := ?vyf1) rfl (by as_aux_lemma => kernel_rfl) (by as_aux_lemma => kernel_rfl) (by as_aux_lemma => kernel_rfl) (fun _ _ _ h => h) (Or.inl ⟨(by as_aux_lemma => rfl), ?yyf1⟩) (by assumption) ?ryf1
      case yyf1 =>
        intro w hSw
        (try dsimp only at hSw)
        go_simp
        (try with_reducible rfl)
      try simp only [Act.put, List.setIfInBounds_toArray, List.set_cons_zero, List.set_cons_succ]
      refine wpAnyH_take (i := 1) (oi := { dst := some 166, op := Op.load 2 (Operand.tmp 165), type := 2, pos := "laws.go:260", after := #[{ on := 0, ground := Ground.data }], guard := none }) (v := ?vyf2) rfl (by as_aux_lemma => kernel_rfl) (by as_aux_lemma => kernel_rfl) (by as_aux_lemma => kernel_rfl) (fun _ _ _ h => h) (Or.inl ⟨(by as_aux_lemma => rfl), ?yyf2⟩) (by assumption) ?ryf2
      case yyf2 =>
        intro w hSw
        (try dsimp only at hSw)
        go_simp
        (try with_reducible rfl)
      try simp only [Act.put, List.setIfInBounds_toArray, List.set_cons_zero, List.set_cons_succ]
      refine wpAnyH_take (i := 2) (oi := { dst := some 167, op := Op.binOp BinOp.neq 2 (Operand.tmp 166) (Operand.const (Value.int IntKind.i64 0)) 2, type := 4, pos := "laws.go:260", after := #[{ on := 1, ground := Ground.data }], guard := none }) (v := ?vyf3) rfl (by as_aux_lemma => kernel_rfl) (by as_aux_lemma => kernel_rfl) (by as_aux_lemma => kernel_rfl) (fun _ _ _ h => h) (Or.inl ⟨(by as_aux_lemma => rfl), ?yyf3⟩) (by assumption) ?ryf3
      case yyf3 =>
        intro w hSw
        (try dsimp only at hSw)
        go_simp
        (try with_reducible rfl)
      try simp only [Act.put, List.setIfInBounds_toArray, List.set_cons_zero, List.set_cons_succ]
      refine wpAnyH_take (i := 3) (oi := { dst := some 168, op := Op.move (Operand.tmp 167), type := 4, pos := "laws.go:260", after := #[{ on := 2, ground := Ground.data }], guard := none }) (v := ?vyf4) rfl (by as_aux_lemma => kernel_rfl) (by as_aux_lemma => kernel_rfl) (by as_aux_lemma => kernel_rfl) (fun _ _ _ h => h) (Or.inl ⟨(by as_aux_lemma => rfl), ?yyf4⟩) (by assumption) ?ryf4
      case yyf4 =>
        intro w hSw
        (try dsimp only at hSw)
        go_simp
        (try with_reducible rfl)
      try simp only [Act.put, List.setIfInBounds_toArray, List.set_cons_zero, List.set_cons_succ]
      refine wpAnyH_take (i := 4) (oi := { dst := some 169, op := Op.fieldAddr 29 (Operand.tmp 8) 1, type := 0, pos := "laws.go:260", after := #[{ on := 3, ground := Ground.guard }], guard := some (3, false) }) (v := ?vyf5) rfl (by as_aux_lemma => kernel_rfl) (by as_aux_lemma => kernel_rfl) (by as_aux_lemma => kernel_rfl) (fun _ _ _ h => h) (Or.inl ⟨(by as_aux_lemma => rfl), ?yyf5⟩) (by assumption) ?ryf5
      case yyf5 =>
        intro w hSw
        (try dsimp only at hSw)
        go_simp
        (try with_reducible rfl)
      try simp only [Act.put, List.setIfInBounds_toArray, List.set_cons_zero, List.set_cons_succ]
      refine wpAnyH_take (i := 5) (oi := { dst := some 170, op := Op.load 22 (Operand.tmp 169), type := 22, pos := "laws.go:260", after := #[{ on := 4, ground := Ground.data }, { on := 3, ground := Ground.guard }], guard := some (3, false) }) (v := ?vyf6) rfl (by as_aux_lemma => kernel_rfl) (by as_aux_lemma => kernel_rfl) (by as_aux_lemma => kernel_rfl) (fun _ _ _ h => h) (Or.inl ⟨(by as_aux_lemma => rfl), ?yyf6⟩) (by assumption) ?ryf6
      case yyf6 =>
        intro w hSw
        (try dsimp only at hSw)
        go_simp
        (try with_reducible rfl)
      try simp only [Act.put, List.setIfInBounds_toArray, List.set_cons_zero, List.set_cons_succ]
      refine wpAnyH_take (i := 7) (oi := { dst := some 172, op := Op.load 36 (Operand.tmp 7), type := 36, pos := "laws.go:260", after := #[{ on := 3, ground := Ground.guard }], guard := some (3, false) }) (v := ?vyf7) rfl (by as_aux_lemma => kernel_rfl) (by as_aux_lemma => kernel_rfl) (by as_aux_lemma => kernel_rfl) (fun _ _ _ h => h) (Or.inl ⟨(by as_aux_lemma => rfl), ?yyf7⟩) (by assumption) ?ryf7
      case yyf7 =>
        intro w hSw
        (try dsimp only at hSw)
        go_simp
        (try with_reducible rfl)
      try simp only [Act.put, List.setIfInBounds_toArray, List.set_cons_zero, List.set_cons_succ]
      refine wpAnyH_take (i := 8) (oi := { dst := some 173, op := Op.build 40 #[(1, Operand.tmp 172)], type := 40, pos := "laws.go:260", after := #[{ on := 7, ground := Ground.data }, { on := 3, ground := Ground.guard }], guard := some (3, false) }) (v := ?vyf8) rfl (by as_aux_lemma => kernel_rfl) (by as_aux_lemma => kernel_rfl) (by as_aux_lemma => kernel_rfl) (fun _ _ _ h => h) (Or.inl ⟨(by as_aux_lemma => rfl), ?yyf8⟩) (by assumption) ?ryf8
      case yyf8 =>
        intro w hSw
        (try dsimp only at hSw)
        go_simp
        (try with_reducible rfl)
      try simp only [Act.put, List.setIfInBounds_toArray, List.set_cons_zero, List.set_cons_succ]
      refine wpAnyH_ready (rs := [6]) (by as_aux_lemma => kernel_rfl) (by simp) ?ryf9
      refine AllReadyH.cons (o := { dst := some 171, op := Op.call { callee := Callee.value (Operand.func 14), args := #[Operand.tmp 170], argTypes := #[22] }, type := 40, pos := "laws.go:260", after := #[{ on := 5, ground := Ground.data }, { on := 3, ground := Ground.chain }, { on := 3, ground := Ground.guard }], guard := some (3, false) }) rfl (fun K hK => ?kyf9) AllReadyH.nil
      go_simp
      (go_at_call 14; refine (IG3.out _ _ (FF.out _ bd) (FK.out _ bd)).mono ?_; rintro e u ⟨rfl, hb⟩; replace bd := bd.trans (hb.mono szd); have szd := bd.size)
      refine hK.out _ _ ?syf9 (fun hHeld9 => ?tyf9)
      · first | exact HSB.out _ bd | ((try dsimp only); go_keep)
      clear hK K
      try simp only [Act.put, List.setIfInBounds_toArray, List.set_cons_zero, List.set_cons_succ]
      refine wpAnyH_take (i := 9) (oi := { dst := some 174, op := Op.binOp BinOp.eql 40 (Operand.tmp 171) (Operand.tmp 173) 40, type := 4, pos := "laws.go:260", after := #[{ on := 6, ground := Ground.data }, { on := 8, ground := Ground.data }, { on := 3, ground := Ground.guard }], guard := some (3, false) }) (v := ?vyf10) rfl (by as_aux_lemma => kernel_rfl) (by as_aux_lemma => kernel_rfl) (by as_aux_lemma => kernel_rfl) (fun _ _ _ h => h) (Or.inl ⟨(by as_aux_lemma => rfl), ?yyf10⟩) (by assumption) ?ryf10
      case yyf10 =>
        intro w hSw
        (try dsimp only at hSw)
        go_simp
        (try with_reducible rfl)
      try simp only [Act.put, List.setIfInBounds_toArray, List.set_cons_zero, List.set_cons_succ]
      refine wpAnyH_take (i := 10) (oi := { dst := some 175, op := Op.pick (Operand.tmp 168) (Operand.const (Value.bool true)) (Operand.tmp 174), type := 4, pos := "laws.go:260", after := #[{ on := 3, ground := Ground.data }, { on := 9, ground := Ground.data }], guard := none }) (v := ?vyf11) rfl (by as_aux_lemma => kernel_rfl) (by as_aux_lemma => kernel_rfl) (by as_aux_lemma => kernel_rfl) (fun _ _ _ h => h) (Or.inl ⟨(by as_aux_lemma => rfl), ?yyf11⟩) (by assumption) ?ryf11
      case yyf11 =>
        intro w hSw
        (try dsimp only at hSw)
        go_simp
        (try with_reducible rfl)
      try simp only [Act.put, List.setIfInBounds_toArray, List.set_cons_zero, List.set_cons_succ]
      refine wpAnyH_take (i := 11) (oi := { dst := some 2, op := Op.assign (Operand.tmp 175), type := 4, pos := "laws.go:260", after := #[{ on := 10, ground := Ground.data }, { on := 6, ground := Ground.chain }, { on := 0, ground := Ground.phase }, { on := 1, ground := Ground.phase }, { on := 2, ground := Ground.phase }, { on := 3, ground := Ground.phase }, { on := 4, ground := Ground.phase }, { on := 5, ground := Ground.phase }, { on := 6, ground := Ground.phase }, { on := 7, ground := Ground.phase }, { on := 8, ground := Ground.phase }, { on := 9, ground := Ground.phase }, { on := 10, ground := Ground.phase }], guard := none }) (v := ?vyf12) rfl (by as_aux_lemma => kernel_rfl) (by as_aux_lemma => kernel_rfl) (by as_aux_lemma => kernel_rfl) (fun _ _ _ h => h) (Or.inl ⟨(by as_aux_lemma => rfl), ?yyf12⟩) (by assumption) ?ryf12
      case yyf12 =>
        intro w hSw
        (try dsimp only at hSw)
        go_simp
        (try with_reducible rfl)
      try simp only [Act.put, List.setIfInBounds_toArray, List.set_cons_zero, List.set_cons_succ]
      refine wpAnyH_done (by as_aux_lemma => kernel_rfl) ?eyf _
      go_wp2_with fail
      go_ret
      exact ⟨rfl, bb.out.trans (bd.mono bb.out.size)⟩
    · have hqb : (q != 0) = true := by simpa [bne] using hq
      have bd : Below w16.heap.size w16 w16.drew := ⟨rfl, rfl, rfl, Nat.le_refl _, fun _ _ => rfl⟩
      have szd := bd.size
      have HSB := Lib.hid (fun (w' : World) (kb : Below w16.heap.size w16 w') => (⟨(br.below kb).at_ 0 _ rfl, (br.below kb).at_ 1 _ rfl, (br.below kb).at_ 2 _ rfl, (bf.below kb).at_ 0 _ rfl, (bf.below kb).at_ 1 _ rfl⟩ : w'.cell? ⟨w8.heap.size, 0, none⟩ = some (.int .i64 ra) ∧ w'.cell? ⟨w8.heap.size, 1, none⟩ = some (.int .i64 rs) ∧ w'.cell? ⟨w8.heap.size, 2, none⟩ = some (.int .i64 rc) ∧ w'.cell? ⟨w10.heap.size, 0, none⟩ = some (.int .i64 q) ∧ w'.cell? ⟨w10.heap.size, 1, none⟩ = some (.slice Gf yf.length capf)))
      replace bb := Lib.hid bb
      clear h ke zr ve pr od vf dr bb3 be bdd br bf bg
      try simp only [List.append_eq, List.cons_append, List.nil_append]
      refine wp_region_held_drew (S := fun w' => w'.cell? ⟨w8.heap.size, 0, none⟩ = some (.int .i64 ra) ∧ w'.cell? ⟨w8.heap.size, 1, none⟩ = some (.int .i64 rs) ∧ w'.cell? ⟨w8.heap.size, 2, none⟩ = some (.int .i64 rc) ∧ w'.cell? ⟨w10.heap.size, 0, none⟩ = some (.int .i64 q) ∧ w'.cell? ⟨w10.heap.size, 1, none⟩ = some (.slice Gf yf.length capf)) (by kernel_rfl) ?sSyg (fun hHeld0 => ?sRyg)
      · first | exact HSB.out _ bd | ((try dsimp only); go_keep)
      refine wpAnyH_take (i := 0) (oi := { dst := some 165, op := Op.fieldAddr 29 (Operand.tmp 8) 0, type := 0, pos := "laws.go:260", after := #[], guard := none }) (v := ?vyg1) rfl (by as_aux_lemma => kernel_rfl) (by as_aux_lemma => kernel_rfl) (by as_aux_lemma => kernel_rfl) (fun _ _ _ h => h) (Or.inl ⟨(by as_aux_lemma => rfl), ?yyg1⟩) (by assumption) ?ryg1
      case yyg1 =>
        intro w hSw
        (try dsimp only at hSw)
        go_simp
        (try with_reducible rfl)
      try simp only [Act.put, List.setIfInBounds_toArray, List.set_cons_zero, List.set_cons_succ]
      refine wpAnyH_take (i := 1) (oi := { dst := some 166, op := Op.load 2 (Operand.tmp 165), type := 2, pos := "laws.go:260", after := #[{ on := 0, ground := Ground.data }], guard := none }) (v := ?vyg2) rfl (by as_aux_lemma => kernel_rfl) (by as_aux_lemma => kernel_rfl) (by as_aux_lemma => kernel_rfl) (fun _ _ _ h => h) (Or.inl ⟨(by as_aux_lemma => rfl), ?yyg2⟩) (by assumption) ?ryg2
      case yyg2 =>
        intro w hSw
        (try dsimp only at hSw)
        go_simp
        (try with_reducible rfl)
      try simp only [Act.put, List.setIfInBounds_toArray, List.set_cons_zero, List.set_cons_succ]
      refine wpAnyH_take (i := 2) (oi := { dst := some 167, op := Op.binOp BinOp.neq 2 (Operand.tmp 166) (Operand.const (Value.int IntKind.i64 0)) 2, type := 4, pos := "laws.go:260", after := #[{ on := 1, ground := Ground.data }], guard := none }) (v := ?vyg3) rfl (by as_aux_lemma => kernel_rfl) (by as_aux_lemma => kernel_rfl) (by as_aux_lemma => kernel_rfl) (fun _ _ _ h => h) (Or.inl ⟨(by as_aux_lemma => rfl), ?yyg3⟩) (by assumption) ?ryg3
      case yyg3 =>
        intro w hSw
        (try dsimp only at hSw)
        go_simp
        (try with_reducible rfl)
      try simp only [Act.put, List.setIfInBounds_toArray, List.set_cons_zero, List.set_cons_succ]
      refine wpAnyH_take (i := 3) (oi := { dst := some 168, op := Op.move (Operand.tmp 167), type := 4, pos := "laws.go:260", after := #[{ on := 2, ground := Ground.data }], guard := none }) (v := ?vyg4) rfl (by as_aux_lemma => kernel_rfl) (by as_aux_lemma => kernel_rfl) (by as_aux_lemma => kernel_rfl) (fun _ _ _ h => h) (Or.inl ⟨(by as_aux_lemma => rfl), ?yyg4⟩) (by assumption) ?ryg4
      case yyg4 =>
        intro w hSw
        (try dsimp only at hSw)
        go_simp
        (try with_reducible rfl)
      try simp only [Act.put, List.setIfInBounds_toArray, List.set_cons_zero, List.set_cons_succ]
      refine wpAnyH_take (i := 4) (oi := { dst := some 169, op := Op.fieldAddr 29 (Operand.tmp 8) 1, type := 0, pos := "laws.go:260", after := #[{ on := 3, ground := Ground.guard }], guard := some (3, false) }) (v := undef) rfl (by as_aux_lemma => kernel_rfl) (by as_aux_lemma => kernel_rfl) (by as_aux_lemma => kernel_rfl) (fun _ _ _ h => h) (Or.inr ⟨(by as_aux_lemma => rfl), rfl⟩) (by assumption) ?ryg5
      try simp only [Act.put, List.setIfInBounds_toArray, List.set_cons_zero, List.set_cons_succ]
      refine wpAnyH_take (i := 5) (oi := { dst := some 170, op := Op.load 22 (Operand.tmp 169), type := 22, pos := "laws.go:260", after := #[{ on := 4, ground := Ground.data }, { on := 3, ground := Ground.guard }], guard := some (3, false) }) (v := undef) rfl (by as_aux_lemma => kernel_rfl) (by as_aux_lemma => kernel_rfl) (by as_aux_lemma => kernel_rfl) (fun _ _ _ h => h) (Or.inr ⟨(by as_aux_lemma => rfl), rfl⟩) (by assumption) ?ryg6
      try simp only [Act.put, List.setIfInBounds_toArray, List.set_cons_zero, List.set_cons_succ]
      refine wpAnyH_take (i := 6) (oi := { dst := some 171, op := Op.call { callee := Callee.value (Operand.func 14), args := #[Operand.tmp 170], argTypes := #[22] }, type := 40, pos := "laws.go:260", after := #[{ on := 5, ground := Ground.data }, { on := 3, ground := Ground.chain }, { on := 3, ground := Ground.guard }], guard := some (3, false) }) (v := undef) rfl (by as_aux_lemma => kernel_rfl) (by as_aux_lemma => kernel_rfl) (by as_aux_lemma => kernel_rfl) (fun _ _ _ h => h) (Or.inr ⟨(by as_aux_lemma => rfl), rfl⟩) (by assumption) ?ryg7
      try simp only [Act.put, List.setIfInBounds_toArray, List.set_cons_zero, List.set_cons_succ]
      refine wpAnyH_take (i := 7) (oi := { dst := some 172, op := Op.load 36 (Operand.tmp 7), type := 36, pos := "laws.go:260", after := #[{ on := 3, ground := Ground.guard }], guard := some (3, false) }) (v := undef) rfl (by as_aux_lemma => kernel_rfl) (by as_aux_lemma => kernel_rfl) (by as_aux_lemma => kernel_rfl) (fun _ _ _ h => h) (Or.inr ⟨(by as_aux_lemma => rfl), rfl⟩) (by assumption) ?ryg8
      try simp only [Act.put, List.setIfInBounds_toArray, List.set_cons_zero, List.set_cons_succ]
      refine wpAnyH_take (i := 8) (oi := { dst := some 173, op := Op.build 40 #[(1, Operand.tmp 172)], type := 40, pos := "laws.go:260", after := #[{ on := 7, ground := Ground.data }, { on := 3, ground := Ground.guard }], guard := some (3, false) }) (v := undef) rfl (by as_aux_lemma => kernel_rfl) (by as_aux_lemma => kernel_rfl) (by as_aux_lemma => kernel_rfl) (fun _ _ _ h => h) (Or.inr ⟨(by as_aux_lemma => rfl), rfl⟩) (by assumption) ?ryg9
      try simp only [Act.put, List.setIfInBounds_toArray, List.set_cons_zero, List.set_cons_succ]
      refine wpAnyH_take (i := 9) (oi := { dst := some 174, op := Op.binOp BinOp.eql 40 (Operand.tmp 171) (Operand.tmp 173) 40, type := 4, pos := "laws.go:260", after := #[{ on := 6, ground := Ground.data }, { on := 8, ground := Ground.data }, { on := 3, ground := Ground.guard }], guard := some (3, false) }) (v := undef) rfl (by as_aux_lemma => kernel_rfl) (by as_aux_lemma => kernel_rfl) (by as_aux_lemma => kernel_rfl) (fun _ _ _ h => h) (Or.inr ⟨(by as_aux_lemma => rfl), rfl⟩) (by assumption) ?ryg10
      try simp only [Act.put, List.setIfInBounds_toArray, List.set_cons_zero, List.set_cons_succ]
      refine wpAnyH_take (i := 10) (oi := { dst := some 175, op := Op.pick (Operand.tmp 168) (Operand.const (Value.bool true)) (Operand.tmp 174), type := 4, pos := "laws.go:260", after := #[{ on := 3, ground := Ground.data }, { on := 9, ground := Ground.data }], guard := none }) (v := ?vyg11) rfl (by as_aux_lemma => kernel_rfl) (by as_aux_lemma => kernel_rfl) (by as_aux_lemma => kernel_rfl) (fun _ _ _ h => h) (Or.inl ⟨(by as_aux_lemma => rfl), ?yyg11⟩) (by assumption) ?ryg11
      case yyg11 =>
        intro w hSw
        (try dsimp only at hSw)
        go_simp
        (try with_reducible rfl)
      try simp only [Act.put, List.setIfInBounds_toArray, List.set_cons_zero, List.set_cons_succ]
      refine wpAnyH_take (i := 11) (oi := { dst := some 2, op := Op.assign (Operand.tmp 175), type := 4, pos := "laws.go:260", after := #[{ on := 10, ground := Ground.data }, { on := 6, ground := Ground.chain }, { on := 0, ground := Ground.phase }, { on := 1, ground := Ground.phase }, { on := 2, ground := Ground.phase }, { on := 3, ground := Ground.phase }, { on := 4, ground := Ground.phase }, { on := 5, ground := Ground.phase }, { on := 6, ground := Ground.phase }, { on := 7, ground := Ground.phase }, { on := 8, ground := Ground.phase }, { on := 9, ground := Ground.phase }, { on := 10, ground := Ground.phase }], guard := none }) (v := ?vyg12) rfl (by as_aux_lemma => kernel_rfl) (by as_aux_lemma => kernel_rfl) (by as_aux_lemma => kernel_rfl) (fun _ _ _ h => h) (Or.inl ⟨(by as_aux_lemma => rfl), ?yyg12⟩) (by assumption) ?ryg12
      case yyg12 =>
        intro w hSw
        (try dsimp only at hSw)
        go_simp
        (try with_reducible rfl)
      try simp only [Act.put, List.setIfInBounds_toArray, List.set_cons_zero, List.set_cons_succ]
      refine wpAnyH_done (by as_aux_lemma => kernel_rfl) ?eyg _
      go_wp2_with fail
      go_ret
      exact ⟨rfl, bb.out.trans (bd.mono bb.out.size)⟩
end Go.Proofs.YtjdkaaepbkkchaaDoor
