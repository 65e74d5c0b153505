/-
  The walk of FnSeals.
-/
import Derived.Test.YtpnpjngaenlciaaDoorPR
import Derived.Test.YtpnpjngaenlciaaDoorLwB
import Derived.Test.YtpnpjngaenlciaaDoorDm
import Derived.Test.YtpnpjngaenlciaaDoorS4f
import Derived.Deep.CutRange
namespace Go.Proofs.YtpnpjngaenlciaaDoor
open Go.RowKit
set_option linter.unusedVariables false
set_option maxRecDepth 100000

set_option maxHeartbeats 4000000 in
theorem seals (A : Option Addr) (n c : Nat) (xs : List Int) (w : World) (h : Rd w 0 w.heap.size A n xs) (ea : Addr) (hkt : KtE ea w) :
    Calls Tryd.prog 3 #[.slice A n c] w fun e w' => e = .returned (.bool true) ∧ Below w.heap.size w w' := by
  have hg0 := hkt.1.1
  have hg1 := hkt.2.1
  by_cases hn : 1048576 < n
  · go_enter Tryd.func3, Tryd.ntmps3
    go_wp2_with fail
    refine (lwBig_any A n c w true (by simpa using hn)).mono ?_
    rintro e w1 ⟨rfl, rfl⟩
    go_wp2_with fail
    go_ret
    exact ⟨rfl, Below.refl _ _⟩
  go_enter Tryd.func3, Tryd.ntmps3
  go_wp2_with fail
  refine (lwBig_any A n c w false (by simpa using hn)).mono ?_
  rintro e w' ⟨rfl, rfl⟩
  have bb := Below.refl w.heap.size w
  go_wp2_with fail
  refine (drawSeal_any A n c _ xs w h).mono ?_
  rintro e w1 ⟨ga, la, ca, gb, lb, cb, sd, sq, kv, pv, rfl, hla, hsd, hsq, hlb, da, db, hb1⟩
  have hk1 := Keep.of_below hb1 0 0
  have hz1 := hb1.size
  replace h := h.keep hk1 (by omega)
  replace hkt := hkt.keep hk1 (by omega)
  replace bb := bb.trans (hk1.below (by omega) bb.size)
  clear hb1 hk1
  obtain ⟨p0, hp⟩ : ∃ p, sealCode la lb sd sq = p := ⟨_, rfl⟩
  obtain ⟨z0, hz⟩ : ∃ zs, ansOf (sealCode la lb sd sq) (sealL kv sd sq pv) = zs := ⟨_, rfl⟩
  have HP0 := Lib.hid hp
  have HZ0 := Lib.hid hz
  clear hp hz
  go_wp2_with fail
  refine (bans_at (implSeal_any _ _ la ca lb cb _ _ sd sq kv pv w1 da.rd0 db.rd0 hkt.1) HP0.out HZ0.out).mono ?_
  rintro e w2 ⟨G0, cap0, rfl, hcap0, u0, hb2⟩
  have hk2 := Keep.of_below hb2 0 0
  have hz2 := hb2.size
  replace h := h.keep hk2 (by omega)
  replace hkt := hkt.keep hk2 (by omega)
  replace da := da.keep hk2 (by omega)
  replace db := db.keep hk2 (by omega)
  replace bb := bb.trans (hk2.below (by omega) bb.size)
  clear hb2 hk2
  go_wp2_with fail
  have hk3 := (Keep.refl 0 0 w2).alloc (.cells #[.int .i64 p0, .slice G0 z0.length cap0] 27)
  have bx0 := Box2.new w2 (.int .i64 p0) (.slice G0 z0.length cap0) 27
  have hz3 : w2.heap.size + 1 ≤ (w2.alloc (.cells #[.int .i64 p0, .slice G0 z0.length cap0] 27)).heap.size := by simp
  replace h := h.keep hk3 (by omega)
  replace hkt := hkt.keep hk3 (by omega)
  replace da := da.keep hk3 (by omega)
  replace db := db.keep hk3 (by omega)
  replace u0 := u0.keep hk3 (by omega)
  replace bb := bb.trans (hk3.below (by omega) bb.size)
  clear hk3
  generalize w2.alloc (.cells #[.int .i64 p0, .slice G0 z0.length cap0] 27) = w3 at *
  refine (drawOpen_any A n c _ xs w3 h).mono ?_
  rintro e w4 ⟨gc, lc, cc, gd, ld, cd, kw, pw, rfl, hlc, hcc, hld, hcd, dc, dd, hb4⟩
  have hk4 := Keep.of_below hb4 0 0
  have hz4 := hb4.size
  replace h := h.keep hk4 (by omega)
  replace hkt := hkt.keep hk4 (by omega)
  replace da := da.keep hk4 (by omega)
  replace db := db.keep hk4 (by omega)
  replace u0 := u0.keep hk4 (by omega)
  replace bx0 := bx0.keep hk4 (by omega)
  replace bb := bb.trans (hk4.below (by omega) bb.size)
  clear hb4 hk4
  obtain ⟨p1, hp⟩ : ∃ p, openCode lc kw pw = p := ⟨_, rfl⟩
  obtain ⟨z1, hz⟩ : ∃ zs, ansOf (openCode lc kw pw) (openL kw pw) = zs := ⟨_, rfl⟩
  have HP1 := Lib.hid hp
  have HZ1 := Lib.hid hz
  clear hp hz
  obtain ⟨s1, hs⟩ : ∃ s, zeroOr (openCode lc kw pw) (hdSide pw) = s := ⟨_, rfl⟩
  obtain ⟨q1, hq⟩ : ∃ q, zeroOr (openCode lc kw pw) (hdSeq pw) = q := ⟨_, rfl⟩
  have HS1 := Lib.hid hs
  have HQ1 := Lib.hid hq
  clear hs hq
  go_wp2_with fail
  refine (pans_at (implOpen_any _ _ lc cc ld cd _ _ kw pw w4 dc.rd0 dd.rd0 hcd hkt) HP1.out HS1.out HQ1.out HZ1.out).mono ?_
  rintro e w5 ⟨G1, cap1, rfl, _, u1, hb5⟩
  have hk5 := Keep.of_below hb5 0 0
  have hz5 := hb5.size
  replace h := h.keep hk5 (by omega)
  replace hkt := hkt.keep hk5 (by omega)
  replace da := da.keep hk5 (by omega)
  replace db := db.keep hk5 (by omega)
  replace u0 := u0.keep hk5 (by omega)
  replace bx0 := bx0.keep hk5 (by omega)
  replace dc := dc.keep hk5 (by omega)
  replace dd := dd.keep hk5 (by omega)
  replace bb := bb.trans (hk5.below (by omega) bb.size)
  clear hb5 hk5
  go_wp2_with fail
  have hk6 := (Keep.refl 0 0 w5).alloc (.cells #[.int .i64 p1, .int .i64 s1, .int .i64 q1, .slice G1 z1.length cap1] 32)
  have bx1 := Box4v.new w5 (.int .i64 p1) (.int .i64 s1) (.int .i64 q1) (.slice G1 z1.length cap1) 32
  have hz6 : w5.heap.size + 1 ≤ (w5.alloc (.cells #[.int .i64 p1, .int .i64 s1, .int .i64 q1, .slice G1 z1.length cap1] 32)).heap.size := by simp
  replace h := h.keep hk6 (by omega)
  replace hkt := hkt.keep hk6 (by omega)
  replace da := da.keep hk6 (by omega)
  replace db := db.keep hk6 (by omega)
  replace u0 := u0.keep hk6 (by omega)
  replace bx0 := bx0.keep hk6 (by omega)
  replace dc := dc.keep hk6 (by omega)
  replace dd := dd.keep hk6 (by omega)
  replace u1 := u1.keep hk6 (by omega)
  replace bb := bb.trans (hk6.below (by omega) bb.size)
  clear hk6
  generalize w5.alloc (.cells #[.int .i64 p1, .int .i64 s1, .int .i64 q1, .slice G1 z1.length cap1] 32) = w6 at *
  refine (pans_at (specOpen_any _ _ lc cc ld cd _ _ kw pw w6 dc.rd0 dd.rd0 hcd) HP1.out HS1.out HQ1.out HZ1.out).mono ?_
  rintro e w7 ⟨G2, cap2, rfl, _, u2, hb7⟩
  have hk7 := Keep.of_below hb7 0 0
  have hz7 := hb7.size
  replace h := h.keep hk7 (by omega)
  replace hkt := hkt.keep hk7 (by omega)
  replace da := da.keep hk7 (by omega)
  replace db := db.keep hk7 (by omega)
  replace u0 := u0.keep hk7 (by omega)
  replace bx0 := bx0.keep hk7 (by omega)
  replace dc := dc.keep hk7 (by omega)
  replace dd := dd.keep hk7 (by omega)
  replace u1 := u1.keep hk7 (by omega)
  replace bx1 := bx1.keep hk7 (by omega)
  replace bb := bb.trans (hk7.below (by omega) bb.size)
  clear hb7 hk7
  go_wp2_with fail
  have hk8 := (Keep.refl 0 0 w7).alloc (.cells #[.int .i64 p1, .int .i64 s1, .int .i64 q1, .slice G2 z1.length cap2] 32)
  have bx2 := Box4v.new w7 (.int .i64 p1) (.int .i64 s1) (.int .i64 q1) (.slice G2 z1.length cap2) 32
  have hz8 : w7.heap.size + 1 ≤ (w7.alloc (.cells #[.int .i64 p1, .int .i64 s1, .int .i64 q1, .slice G2 z1.length cap2] 32)).heap.size := by simp
  replace h := h.keep hk8 (by omega)
  replace hkt := hkt.keep hk8 (by omega)
  replace da := da.keep hk8 (by omega)
  replace db := db.keep hk8 (by omega)
  replace u0 := u0.keep hk8 (by omega)
  replace bx0 := bx0.keep hk8 (by omega)
  replace dc := dc.keep hk8 (by omega)
  replace dd := dd.keep hk8 (by omega)
  replace u1 := u1.keep hk8 (by omega)
  replace bx1 := bx1.keep hk8 (by omega)
  replace u2 := u2.keep hk8 (by omega)
  replace bb := bb.trans (hk8.below (by omega) bb.size)
  clear hk8
  generalize w7.alloc (.cells #[.int .i64 p1, .int .i64 s1, .int .i64 q1, .slice G2 z1.length cap2] 32) = w8 at *
  refine (drawHead_any A n c _ xs w8 h).mono ?_
  rintro e w9 ⟨ge, le, ce, hv, rfl, hle, hce, de, hb9⟩
  have hk9 := Keep.of_below hb9 0 0
  have hz9 := hb9.size
  replace h := h.keep hk9 (by omega)
  replace hkt := hkt.keep hk9 (by omega)
  replace da := da.keep hk9 (by omega)
  replace db := db.keep hk9 (by omega)
  replace u0 := u0.keep hk9 (by omega)
  replace bx0 := bx0.keep hk9 (by omega)
  replace dc := dc.keep hk9 (by omega)
  replace dd := dd.keep hk9 (by omega)
  replace u1 := u1.keep hk9 (by omega)
  replace bx1 := bx1.keep hk9 (by omega)
  replace u2 := u2.keep hk9 (by omega)
  replace bx2 := bx2.keep hk9 (by omega)
  replace bb := bb.trans (hk9.below (by omega) bb.size)
  clear hb9 hk9
  obtain ⟨p3, hp⟩ : ∃ p, headCode hv = p := ⟨_, rfl⟩
  have HP3 := Lib.hid hp
  clear hp
  obtain ⟨s3, hs⟩ : ∃ s, zeroOr (headCode hv) (hdSide hv) = s := ⟨_, rfl⟩
  obtain ⟨q3, hq⟩ : ∃ q, zeroOr (headCode hv) (hdSeq hv) = q := ⟨_, rfl⟩
  have HS3 := Lib.hid hs
  have HQ3 := Lib.hid hq
  clear hs hq
  go_wp2_with fail
  refine (pans_at (implHead_any _ le ce _ hv w9 de.rd0 hce) HP3.out HS3.out HQ3.out rfl).mono ?_
  rintro e w10 ⟨G3, cap3, rfl, _, u3, hb10⟩
  have hk10 := Keep.of_below hb10 0 0
  have hz10 := hb10.size
  replace h := h.keep hk10 (by omega)
  replace hkt := hkt.keep hk10 (by omega)
  replace da := da.keep hk10 (by omega)
  replace db := db.keep hk10 (by omega)
  replace u0 := u0.keep hk10 (by omega)
  replace bx0 := bx0.keep hk10 (by omega)
  replace dc := dc.keep hk10 (by omega)
  replace dd := dd.keep hk10 (by omega)
  replace u1 := u1.keep hk10 (by omega)
  replace bx1 := bx1.keep hk10 (by omega)
  replace u2 := u2.keep hk10 (by omega)
  replace bx2 := bx2.keep hk10 (by omega)
  replace de := de.keep hk10 (by omega)
  replace bb := bb.trans (hk10.below (by omega) bb.size)
  clear hb10 hk10
  go_wp2_with fail
  have hk11 := (Keep.refl 0 0 w10).alloc (.cells #[.int .i64 p3, .int .i64 s3, .int .i64 q3, .slice G3 0 cap3] 32)
  have bx3 := Box4v.new w10 (.int .i64 p3) (.int .i64 s3) (.int .i64 q3) (.slice G3 0 cap3) 32
  have hz11 : w10.heap.size + 1 ≤ (w10.alloc (.cells #[.int .i64 p3, .int .i64 s3, .int .i64 q3, .slice G3 0 cap3] 32)).heap.size := by simp
  replace h := h.keep hk11 (by omega)
  replace hkt := hkt.keep hk11 (by omega)
  replace da := da.keep hk11 (by omega)
  replace db := db.keep hk11 (by omega)
  replace u0 := u0.keep hk11 (by omega)
  replace bx0 := bx0.keep hk11 (by omega)
  replace dc := dc.keep hk11 (by omega)
  replace dd := dd.keep hk11 (by omega)
  replace u1 := u1.keep hk11 (by omega)
  replace bx1 := bx1.keep hk11 (by omega)
  replace u2 := u2.keep hk11 (by omega)
  replace bx2 := bx2.keep hk11 (by omega)
  replace de := de.keep hk11 (by omega)
  replace u3 := u3.keep hk11 (by omega)
  replace bb := bb.trans (hk11.below (by omega) bb.size)
  clear hk11
  generalize w10.alloc (.cells #[.int .i64 p3, .int .i64 s3, .int .i64 q3, .slice G3 0 cap3] 32) = w11 at *
  refine (drawHide_any A n c _ xs w11 h).mono ?_
  rintro e w12 ⟨gf, lf, cf, gg, lg, cg, gh, lh, ch, av, bv, dv, rfl, hlf, hlg, hlh, df, dg, dh, hb12⟩
  have hk12 := Keep.of_below hb12 0 0
  have hz12 := hb12.size
  replace h := h.keep hk12 (by omega)
  replace hkt := hkt.keep hk12 (by omega)
  replace da := da.keep hk12 (by omega)
  replace db := db.keep hk12 (by omega)
  replace u0 := u0.keep hk12 (by omega)
  replace bx0 := bx0.keep hk12 (by omega)
  replace dc := dc.keep hk12 (by omega)
  replace dd := dd.keep hk12 (by omega)
  replace u1 := u1.keep hk12 (by omega)
  replace bx1 := bx1.keep hk12 (by omega)
  replace u2 := u2.keep hk12 (by omega)
  replace bx2 := bx2.keep hk12 (by omega)
  replace de := de.keep hk12 (by omega)
  replace u3 := u3.keep hk12 (by omega)
  replace bx3 := bx3.keep hk12 (by omega)
  replace bb := bb.trans (hk12.below (by omega) bb.size)
  clear hb12 hk12
  obtain ⟨p4, hp⟩ : ∃ p, hideCode lf lg lh = p := ⟨_, rfl⟩
  obtain ⟨z4, hz⟩ : ∃ zs, ansOf (hideCode lf lg lh) (hideL av bv dv) = zs := ⟨_, rfl⟩
  have HP4 := Lib.hid hp
  have HZ4 := Lib.hid hz
  clear hp hz
  go_wp2_with fail
  refine (bans_at (implHide_any _ _ _ lf cf lg cg lh ch _ _ _ av bv dv w12 df.rd0 dg.rd0 dh.rd0 (fun h => by cases h) hkt.1) HP4.out HZ4.out).mono ?_
  rintro e w13 ⟨G4, cap4, rfl, hcap4, u4, hb13⟩
  have hk13 := Keep.of_below hb13 0 0
  have hz13 := hb13.size
  replace h := h.keep hk13 (by omega)
  replace hkt := hkt.keep hk13 (by omega)
  replace da := da.keep hk13 (by omega)
  replace db := db.keep hk13 (by omega)
  replace u0 := u0.keep hk13 (by omega)
  replace bx0 := bx0.keep hk13 (by omega)
  replace dc := dc.keep hk13 (by omega)
  replace dd := dd.keep hk13 (by omega)
  replace u1 := u1.keep hk13 (by omega)
  replace bx1 := bx1.keep hk13 (by omega)
  replace u2 := u2.keep hk13 (by omega)
  replace bx2 := bx2.keep hk13 (by omega)
  replace de := de.keep hk13 (by omega)
  replace u3 := u3.keep hk13 (by omega)
  replace bx3 := bx3.keep hk13 (by omega)
  replace df := df.keep hk13 (by omega)
  replace dg := dg.keep hk13 (by omega)
  replace dh := dh.keep hk13 (by omega)
  replace bb := bb.trans (hk13.below (by omega) bb.size)
  clear hb13 hk13
  go_wp2_with fail
  have hk14 := (Keep.refl 0 0 w13).alloc (.cells #[.int .i64 p4, .slice G4 z4.length cap4] 27)
  have bx4 := Box2.new w13 (.int .i64 p4) (.slice G4 z4.length cap4) 27
  have hz14 : w13.heap.size + 1 ≤ (w13.alloc (.cells #[.int .i64 p4, .slice G4 z4.length cap4] 27)).heap.size := by simp
  replace h := h.keep hk14 (by omega)
  replace hkt := hkt.keep hk14 (by omega)
  replace da := da.keep hk14 (by omega)
  replace db := db.keep hk14 (by omega)
  replace u0 := u0.keep hk14 (by omega)
  replace bx0 := bx0.keep hk14 (by omega)
  replace dc := dc.keep hk14 (by omega)
  replace dd := dd.keep hk14 (by omega)
  replace u1 := u1.keep hk14 (by omega)
  replace bx1 := bx1.keep hk14 (by omega)
  replace u2 := u2.keep hk14 (by omega)
  replace bx2 := bx2.keep hk14 (by omega)
  replace de := de.keep hk14 (by omega)
  replace u3 := u3.keep hk14 (by omega)
  replace bx3 := bx3.keep hk14 (by omega)
  replace df := df.keep hk14 (by omega)
  replace dg := dg.keep hk14 (by omega)
  replace dh := dh.keep hk14 (by omega)
  replace u4 := u4.keep hk14 (by omega)
  replace bb := bb.trans (hk14.below (by omega) bb.size)
  clear hk14
  generalize w13.alloc (.cells #[.int .i64 p4, .slice G4 z4.length cap4] 27) = w14 at *
  refine (drawTag_any A n c _ xs w14 h).mono ?_
  rintro e w15 ⟨gi, li, ci, gj, lj, cj, tv, ev, rfl, hli, hci, hlj, hcj, di, dj, hb15⟩
  have hk15 := Keep.of_below hb15 0 0
  have hz15 := hb15.size
  replace h := h.keep hk15 (by omega)
  replace hkt := hkt.keep hk15 (by omega)
  replace da := da.keep hk15 (by omega)
  replace db := db.keep hk15 (by omega)
  replace u0 := u0.keep hk15 (by omega)
  replace bx0 := bx0.keep hk15 (by omega)
  replace dc := dc.keep hk15 (by omega)
  replace dd := dd.keep hk15 (by omega)
  replace u1 := u1.keep hk15 (by omega)
  replace bx1 := bx1.keep hk15 (by omega)
  replace u2 := u2.keep hk15 (by omega)
  replace bx2 := bx2.keep hk15 (by omega)
  replace de := de.keep hk15 (by omega)
  replace u3 := u3.keep hk15 (by omega)
  replace bx3 := bx3.keep hk15 (by omega)
  replace df := df.keep hk15 (by omega)
  replace dg := dg.keep hk15 (by omega)
  replace dh := dh.keep hk15 (by omega)
  replace u4 := u4.keep hk15 (by omega)
  replace bx4 := bx4.keep hk15 (by omega)
  replace bb := bb.trans (hk15.below (by omega) bb.size)
  clear hb15 hk15
  obtain ⟨p5, hp⟩ : ∃ p, tagCode li lj = p := ⟨_, rfl⟩
  obtain ⟨z5, hz⟩ : ∃ zs, ansOf (tagCode li lj) (tagL tv ev) = zs := ⟨_, rfl⟩
  have HP5 := Lib.hid hp
  have HZ5 := Lib.hid hz
  clear hp hz
  go_wp2_with fail
  refine (bans_at (implTag_any _ _ li ci lj cj _ _ tv ev w15 di.rd0 dj.rd0 (fun h => by cases h) hkt.1) HP5.out HZ5.out).mono ?_
  rintro e w16 ⟨G5, cap5, rfl, _, u5, hb16⟩
  have hk16 := Keep.of_below hb16 0 0
  have hz16 := hb16.size
  replace h := h.keep hk16 (by omega)
  replace hkt := hkt.keep hk16 (by omega)
  replace da := da.keep hk16 (by omega)
  replace db := db.keep hk16 (by omega)
  replace u0 := u0.keep hk16 (by omega)
  replace bx0 := bx0.keep hk16 (by omega)
  replace dc := dc.keep hk16 (by omega)
  replace dd := dd.keep hk16 (by omega)
  replace u1 := u1.keep hk16 (by omega)
  replace bx1 := bx1.keep hk16 (by omega)
  replace u2 := u2.keep hk16 (by omega)
  replace bx2 := bx2.keep hk16 (by omega)
  replace de := de.keep hk16 (by omega)
  replace u3 := u3.keep hk16 (by omega)
  replace bx3 := bx3.keep hk16 (by omega)
  replace df := df.keep hk16 (by omega)
  replace dg := dg.keep hk16 (by omega)
  replace dh := dh.keep hk16 (by omega)
  replace u4 := u4.keep hk16 (by omega)
  replace bx4 := bx4.keep hk16 (by omega)
  replace di := di.keep hk16 (by omega)
  replace dj := dj.keep hk16 (by omega)
  replace bb := bb.trans (hk16.below (by omega) bb.size)
  clear hb16 hk16
  go_wp2_with fail
  have hk17 := (Keep.refl 0 0 w16).alloc (.cells #[.int .i64 p5, .slice G5 z5.length cap5] 27)
  have bx5 := Box2.new w16 (.int .i64 p5) (.slice G5 z5.length cap5) 27
  have hz17 : w16.heap.size + 1 ≤ (w16.alloc (.cells #[.int .i64 p5, .slice G5 z5.length cap5] 27)).heap.size := by simp
  replace h := h.keep hk17 (by omega)
  replace hkt := hkt.keep hk17 (by omega)
  replace da := da.keep hk17 (by omega)
  replace db := db.keep hk17 (by omega)
  replace u0 := u0.keep hk17 (by omega)
  replace bx0 := bx0.keep hk17 (by omega)
  replace dc := dc.keep hk17 (by omega)
  replace dd := dd.keep hk17 (by omega)
  replace u1 := u1.keep hk17 (by omega)
  replace bx1 := bx1.keep hk17 (by omega)
  replace u2 := u2.keep hk17 (by omega)
  replace bx2 := bx2.keep hk17 (by omega)
  replace de := de.keep hk17 (by omega)
  replace u3 := u3.keep hk17 (by omega)
  replace bx3 := bx3.keep hk17 (by omega)
  replace df := df.keep hk17 (by omega)
  replace dg := dg.keep hk17 (by omega)
  replace dh := dh.keep hk17 (by omega)
  replace u4 := u4.keep hk17 (by omega)
  replace bx4 := bx4.keep hk17 (by omega)
  replace di := di.keep hk17 (by omega)
  replace dj := dj.keep hk17 (by omega)
  replace u5 := u5.keep hk17 (by omega)
  replace bb := bb.trans (hk17.below (by omega) bb.size)
  clear hk17
  generalize w16.alloc (.cells #[.int .i64 p5, .slice G5 z5.length cap5] 27) = w17 at *
  clear h
  go_cut [138] from 69 to 138 (fun sv wx => sv = .bool false ∧ Below w.heap.size w wx ∧ KtE ea wx ∧ w17.heap.size ≤ wx.heap.size ∧ Rd wx 0 w17.heap.size (some ⟨ga, 0, none⟩) la kv ∧ Rd wx 0 w17.heap.size (some ⟨gb, 0, none⟩) lb pv ∧ Rd wx 0 w17.heap.size (some ⟨gc, 0, none⟩) lc kw ∧ Rd wx 0 w17.heap.size (some ⟨gd, 0, none⟩) ld pw ∧ Rd wx 0 w17.heap.size (some ⟨gf, 0, none⟩) lf av ∧ Rd wx 0 w17.heap.size (some ⟨gg, 0, none⟩) lg bv ∧ Rd wx 0 w17.heap.size (some ⟨gh, 0, none⟩) lh dv ∧ Rd wx 0 w17.heap.size G0 z0.length z0 ∧ Rd wx 0 w17.heap.size G1 z1.length z1 ∧ Rd wx 0 w17.heap.size G4 z4.length z4 ∧ Rd wx 0 w17.heap.size G5 z5.length z5 ∧ Box2 wx w2.heap.size (.int .i64 p0) (.slice G0 z0.length cap0) ∧ Box4v wx w5.heap.size (.int .i64 p1) (.int .i64 s1) (.int .i64 q1) (.slice G1 z1.length cap1) ∧ Box2 wx w13.heap.size (.int .i64 p4) (.slice G4 z4.length cap4) ∧ Box2 wx w16.heap.size (.int .i64 p5) (.slice G5 z5.length cap5))
  case first =>
    have e00 := bx0.2.1
    have e01 := bx0.2.2
    have t0 := bx0.1
    have e10 := bx1.2.1
    have e11 := bx1.2.2.1
    have e12 := bx1.2.2.2.1
    have e13 := bx1.2.2.2.2
    have t1 := bx1.1
    have e20 := bx2.2.1
    have e21 := bx2.2.2.1
    have e22 := bx2.2.2.2.1
    have e23 := bx2.2.2.2.2
    have t2 := bx2.1
    have e30 := bx3.2.1
    have e31 := bx3.2.2.1
    have e32 := bx3.2.2.2.1
    have e33 := bx3.2.2.2.2
    have t3 := bx3.1
    have e40 := bx4.2.1
    have e41 := bx4.2.2
    have t4 := bx4.1
    have e50 := bx5.2.1
    have e51 := bx5.2.2
    have t5 := bx5.1
    have dd' : Keep 0 0 w17 w17.drew := ⟨rfl, rfl, rfl, Nat.le_refl _, fun _ _ _ => rfl⟩
    replace hkt := hkt.keep dd' (by omega)
    replace u0 := u0.keep dd' (by omega)
    replace da := da.keep dd' (by omega)
    replace db := db.keep dd' (by omega)
    replace dc := dc.keep dd' (by omega)
    replace dd := dd.keep dd' (by omega)
    replace u1 := u1.keep dd' (by omega)
    replace u2 := u2.keep dd' (by omega)
    replace de := de.keep dd' (by omega)
    replace u3 := u3.keep dd' (by omega)
    replace df := df.keep dd' (by omega)
    replace dg := dg.keep dd' (by omega)
    replace dh := dh.keep dd' (by omega)
    replace u4 := u4.keep dd' (by omega)
    replace di := di.keep dd' (by omega)
    replace dj := dj.keep dd' (by omega)
    replace u5 := u5.keep dd' (by omega)
    replace bb := bb.trans (dd'.below (by omega) bb.size)
    have szd : w17.heap.size ≤ w17.drew.heap.size := Nat.le_refl _
    clear dd' bx0 bx1 bx2 bx3 bx4 bx5
    have f30 : ∀ (G : Option Addr) (n c : Nat) (w : World), (Instr.field 32 (.agg #[.int .i64 p3, .int .i64 s3, .int .i64 q3, .slice G n c]) 0).run Tryd.prog w = .ok (.int .i64 p3) w := fun _ _ _ _ => by kernel_rfl
    have f32 : ∀ (G : Option Addr) (n c : Nat) (w : World), (Instr.field 32 (.agg #[.int .i64 p3, .int .i64 s3, .int .i64 q3, .slice G n c]) 2).run Tryd.prog w = .ok (.int .i64 q3) w := fun _ _ _ _ => by kernel_rfl
    simp only [List.append_eq, List.cons_append, List.nil_append]
    go_region_held3 (fun w' => w'.cell? ⟨w2.heap.size, 0, none⟩ = some (.int .i64 p0) ∧ w'.cell? ⟨w2.heap.size, 1, none⟩ = some (.slice G0 z0.length cap0) ∧ w'.cell? ⟨w5.heap.size, 0, none⟩ = some (.int .i64 p1) ∧ w'.cell? ⟨w5.heap.size, 1, none⟩ = some (.int .i64 s1) ∧ w'.cell? ⟨w5.heap.size, 2, none⟩ = some (.int .i64 q1) ∧ w'.cell? ⟨w5.heap.size, 3, none⟩ = some (.slice G1 z1.length cap1) ∧ w'.cell? ⟨w7.heap.size, 0, none⟩ = some (.int .i64 p1) ∧ w'.cell? ⟨w7.heap.size, 1, none⟩ = some (.int .i64 s1) ∧ w'.cell? ⟨w7.heap.size, 2, none⟩ = some (.int .i64 q1) ∧ w'.cell? ⟨w7.heap.size, 3, none⟩ = some (.slice G2 z1.length cap2) ∧ w'.cell? ⟨w10.heap.size, 0, none⟩ = some (.int .i64 p3) ∧ w'.cell? ⟨w10.heap.size, 1, none⟩ = some (.int .i64 s3) ∧ w'.cell? ⟨w10.heap.size, 2, none⟩ = some (.int .i64 q3) ∧ w'.cell? ⟨w10.heap.size, 3, none⟩ = some (.slice G3 0 cap3) ∧ w'.cell? ⟨w13.heap.size, 0, none⟩ = some (.int .i64 p4) ∧ w'.cell? ⟨w13.heap.size, 1, none⟩ = some (.slice G4 z4.length cap4) ∧ w'.cell? ⟨w16.heap.size, 0, none⟩ = some (.int .i64 p5) ∧ w'.cell? ⟨w16.heap.size, 1, none⟩ = some (.slice G5 z5.length cap5))
      (first
        | go_keep
        | (go_split_ands; refine ⟨?_, ?_, ?_, ?_, ?_, ?_, ?_, ?_, ?_, ?_, ?_, ?_, ?_, ?_, ?_, ?_, ?_, ?_⟩ <;> ((refine (hb.cell (by simp; omega)).trans ?_); assumption)))
      (first
        | (go_at_call 21; refine (bans_at (specSeal_any _ _ la ca lb cb _ _ sd sq kv pv _ da.rd0 db.rd0) HP0.out HZ0.out).mono ?_; rintro e v1 ⟨Gx0, capx0, rfl, _, ux0, hb⟩; have kx := Keep.of_below hb 0 0; have szx := hb.size; replace hkt := hkt.keep kx (by omega); replace u0 := u0.keep kx (by omega); replace da := da.keep kx (by omega); replace db := db.keep kx (by omega); replace dc := dc.keep kx (by omega); replace dd := dd.keep kx (by omega); replace u1 := u1.keep kx (by omega); replace u2 := u2.keep kx (by omega); replace de := de.keep kx (by omega); replace u3 := u3.keep kx (by omega); replace df := df.keep kx (by omega); replace dg := dg.keep kx (by omega); replace dh := dh.keep kx (by omega); replace u4 := u4.keep kx (by omega); replace di := di.keep kx (by omega); replace dj := dj.keep kx (by omega); replace u5 := u5.keep kx (by omega); replace bb := bb.trans (kx.below (by omega) bb.size); have uxr0 := ux0.1; have ur0 := u0.1)
        | (go_at_call 20; refine (lwBytes_true _ _ _ _ _ _ _ _ _ _ _ _ (by assumption) (by assumption)).mono ?_; rintro e v2 ⟨rfl, hb⟩; have kx := Keep.of_below hb 0 0; have szx := hb.size; replace hkt := hkt.keep kx (by omega); replace u0 := u0.keep kx (by omega); replace da := da.keep kx (by omega); replace db := db.keep kx (by omega); replace dc := dc.keep kx (by omega); replace dd := dd.keep kx (by omega); replace u1 := u1.keep kx (by omega); replace u2 := u2.keep kx (by omega); replace de := de.keep kx (by omega); replace u3 := u3.keep kx (by omega); replace df := df.keep kx (by omega); replace dg := dg.keep kx (by omega); replace dh := dh.keep kx (by omega); replace u4 := u4.keep kx (by omega); replace di := di.keep kx (by omega); replace dj := dj.keep kx (by omega); replace u5 := u5.keep kx (by omega); replace bb := bb.trans (kx.below (by omega) bb.size))
        | (go_at_call 22; refine (lwSame_any _ _ z1.length _ z1.length _ _ _ _ _ z1 z1 _ u1.1 u2.1).mono ?_; rintro e v3 ⟨rfl, rfl⟩; have dez : decide (z1 = z1) = true := (by simp))
        | (go_at_call 23; refine (pans_at (specHead_any _ le ce _ hv _ de.rd0 hce) HP3.out HS3.out HQ3.out rfl).mono ?_; rintro e v5 ⟨Gx3, capx3, rfl, _, ux3, hb⟩; have kx := Keep.of_below hb 0 0; have szx := hb.size; replace hkt := hkt.keep kx (by omega); replace u0 := u0.keep kx (by omega); replace da := da.keep kx (by omega); replace db := db.keep kx (by omega); replace dc := dc.keep kx (by omega); replace dd := dd.keep kx (by omega); replace u1 := u1.keep kx (by omega); replace u2 := u2.keep kx (by omega); replace de := de.keep kx (by omega); replace u3 := u3.keep kx (by omega); replace df := df.keep kx (by omega); replace dg := dg.keep kx (by omega); replace dh := dh.keep kx (by omega); replace u4 := u4.keep kx (by omega); replace di := di.keep kx (by omega); replace dj := dj.keep kx (by omega); replace u5 := u5.keep kx (by omega); replace bb := bb.trans (kx.below (by omega) bb.size))
        | (go_at_call 24; refine (bans_at (specHide_any _ _ _ lf cf lg cg lh ch _ _ _ av bv dv _ df.rd0 dg.rd0 dh.rd0 (fun h => by cases h)) HP4.out HZ4.out).mono ?_; rintro e v6 ⟨Gx4, capx4, rfl, _, ux4, hb⟩; have kx := Keep.of_below hb 0 0; have szx := hb.size; replace hkt := hkt.keep kx (by omega); replace u0 := u0.keep kx (by omega); replace da := da.keep kx (by omega); replace db := db.keep kx (by omega); replace dc := dc.keep kx (by omega); replace dd := dd.keep kx (by omega); replace u1 := u1.keep kx (by omega); replace u2 := u2.keep kx (by omega); replace de := de.keep kx (by omega); replace u3 := u3.keep kx (by omega); replace df := df.keep kx (by omega); replace dg := dg.keep kx (by omega); replace dh := dh.keep kx (by omega); replace u4 := u4.keep kx (by omega); replace di := di.keep kx (by omega); replace dj := dj.keep kx (by omega); replace u5 := u5.keep kx (by omega); replace bb := bb.trans (kx.below (by omega) bb.size); have uxr4 := ux4.1; have ur4 := u4.1)
        | (go_at_call 25; refine (bans_at (specTag_any _ _ li ci lj cj _ _ tv ev _ di.rd0 dj.rd0 (fun h => by cases h)) HP5.out HZ5.out).mono ?_; rintro e v7 ⟨Gx5, capx5, rfl, _, ux5, hb⟩; have kx := Keep.of_below hb 0 0; have szx := hb.size; replace hkt := hkt.keep kx (by omega); replace u0 := u0.keep kx (by omega); replace da := da.keep kx (by omega); replace db := db.keep kx (by omega); replace dc := dc.keep kx (by omega); replace dd := dd.keep kx (by omega); replace u1 := u1.keep kx (by omega); replace u2 := u2.keep kx (by omega); replace de := de.keep kx (by omega); replace u3 := u3.keep kx (by omega); replace df := df.keep kx (by omega); replace dg := dg.keep kx (by omega); replace dh := dh.keep kx (by omega); replace u4 := u4.keep kx (by omega); replace di := di.keep kx (by omega); replace dj := dj.keep kx (by omega); replace u5 := u5.keep kx (by omega); replace bb := bb.trans (kx.below (by omega) bb.size); have uxr5 := ux5.1; have ur5 := u5.1))
    
    rename_i hHeld
    obtain ⟨f00, f01, f10, f11, f12, f13, f20, f21, f22, f23, f30, f31, f32, f33, f40, f41, f50, f51⟩ := hHeld
    go_wp2_with fail
    go_meet
    case rel => exact ⟨rfl, bb, hkt, by omega, da.rd0.wide (Nat.le_refl _) (by omega) (by omega), db.rd0.wide (Nat.le_refl _) (by omega) (by omega), dc.rd0.wide (Nat.le_refl _) (by omega) (by omega), dd.rd0.wide (Nat.le_refl _) (by omega) (by omega), df.rd0.wide (Nat.le_refl _) (by omega) (by omega), dg.rd0.wide (Nat.le_refl _) (by omega) (by omega), dh.rd0.wide (Nat.le_refl _) (by omega) (by omega), u0.rd0.wide (Nat.le_refl _) (by omega) (by omega), u1.rd0.wide (Nat.le_refl _) (by omega) (by omega), u4.rd0.wide (Nat.le_refl _) (by omega) (by omega), u5.rd0.wide (Nat.le_refl _) (by omega) (by omega), ⟨by omega, f00, f01⟩, ⟨by omega, f10, f11, f12, f13⟩, ⟨by omega, f40, f41⟩, ⟨by omega, f50, f51⟩⟩
  case rest =>
  obtain ⟨rfl, bb, hkt, hzx, rda, rdb, rdc, rdd, rdf, rdg, rdh, ru0, ru1, ru4, ru5, bx0, bx1, bx4, bx5⟩ := hcut
  have hgs0 := hkt.1.1
  have hgs1 := hkt.2.1
  go_upto_region 16 with fail
  go_cut [163] from 139 to 163 (fun sv wx => sv = .bool false ∧ Below w.heap.size w wx ∧ KtE ea wx ∧ w17.heap.size ≤ wx.heap.size ∧ Rd wx 0 w17.heap.size (some ⟨ga, 0, none⟩) la kv ∧ Rd wx 0 w17.heap.size (some ⟨gb, 0, none⟩) lb pv ∧ Rd wx 0 w17.heap.size (some ⟨gc, 0, none⟩) lc kw ∧ Rd wx 0 w17.heap.size (some ⟨gd, 0, none⟩) ld pw ∧ Rd wx 0 w17.heap.size G0 z0.length z0 ∧ Rd wx 0 w17.heap.size G1 z1.length z1 ∧ Box2 wx w2.heap.size (.int .i64 p0) (.slice G0 z0.length cap0) ∧ Box4v wx w5.heap.size (.int .i64 p1) (.int .i64 s1) (.int .i64 q1) (.slice G1 z1.length cap1))
  case first =>
    by_cases hx : hideCode lf lg lh = 0
    · by_cases hg : tagCode li lj = 0
      · have hp4 : p4 = 0 := HP4.out.symm.trans hx
        have hz4 : z4 = hideL av bv dv := by rw [← HZ4.out, hx, ansOf_zero]
        have hl4 : z4.length = lh := by rw [hz4, hideL_len, rdh.len]
        have hc4 : hideCode lf lg z4.length = 0 := by rw [hl4]; exact hx
        have hb4 : ansOf (hideCode lf lg z4.length) (hideL av bv z4) = dv := by rw [hc4, ansOf_zero, hz4]; exact hide_hide av bv dv rdh.byte
        subst hp4
        clear hz4 hl4
        have hp5 : p5 = 0 := HP5.out.symm.trans hg
        have hl5 : z5.length = 8 := by rw [← HZ5.out, hg, ansOf_zero, tagL_len]
        subst hp5
        generalize z5.length = n5 at *
        have hn5 : ((n5 : Int) != 8) = false := by simp; omega
        have hn5' : (n5 : Int) = 8 := by omega
        clear hl5
        clear HP4 HP5 HZ4 HZ5 hx hg
        have hz4l : z4.length = z4.length := rfl
        have bx4c0 := bx4.2.1
        have bx4c1 := bx4.2.2
        have bx5c0 := bx5.2.1
        have bx5c1 := bx5.2.2
        go_wp2_with fail
        clear bx4c0 bx4c1
        clear bx5c0 bx5c1
        refine (bans_at (implHide_any _ _ _ lf cf lg cg z4.length cap4 _ _ _ av bv z4 wc rdf rdg ru4 (fun h => by cases h) hkt.1) hc4 hb4).mono ?_
        rintro e w61 ⟨Gq, capq, rfl, _, uq, hb61⟩
        have hk61 := Keep.of_below hb61 0 0
        have hz61 := hb61.size
        replace hkt := hkt.keep hk61 (by omega)
        replace rda := rda.keep hk61 (by omega)
        replace rdb := rdb.keep hk61 (by omega)
        replace rdc := rdc.keep hk61 (by omega)
        replace rdd := rdd.keep hk61 (by omega)
        replace rdf := rdf.keep hk61 (by omega)
        replace rdg := rdg.keep hk61 (by omega)
        replace rdh := rdh.keep hk61 (by omega)
        replace ru0 := ru0.keep hk61 (by omega)
        replace ru1 := ru1.keep hk61 (by omega)
        replace ru4 := ru4.keep hk61 (by omega)
        replace ru5 := ru5.keep hk61 (by omega)
        replace bx0 := bx0.keep hk61 (by omega)
        replace bx1 := bx1.keep hk61 (by omega)
        replace bx4 := bx4.keep hk61 (by omega)
        replace bx5 := bx5.keep hk61 (by omega)
        replace bb := bb.trans (hk61.below (by omega) bb.size)
        clear hb61 hk61
        have hfl := fun w' : World => field_bytes 0 Gq dv.length capq w'
        have bx4c0 := bx4.2.1
        have bx4c1 := bx4.2.2
        have bx5c0 := bx5.2.1
        have bx5c1 := bx5.2.2
        go_wp2_with fail
        clear bx4c0 bx4c1
        clear bx5c0 bx5c1
        refine (lwSame_any _ _ dv.length _ lh _ _ _ _ _ dv dv w61 uq.1 rdh).mono ?_
        rintro e v9 ⟨rfl, rfl⟩
        have dez : decide (dv = dv) = true := by simp
        have bx5c0 := bx5.2.1
        have bx5c1 := bx5.2.2
        go_wp2_with fail
        clear bx5c0 bx5c1
        go_meet
        case rel => exact ⟨rfl, bb, hkt, (by omega), rda, rdb, rdc, rdd, ru0, ru1, bx0, bx1⟩
      · have hp4 : p4 = 0 := HP4.out.symm.trans hx
        have hz4 : z4 = hideL av bv dv := by rw [← HZ4.out, hx, ansOf_zero]
        have hl4 : z4.length = lh := by rw [hz4, hideL_len, rdh.len]
        have hc4 : hideCode lf lg z4.length = 0 := by rw [hl4]; exact hx
        have hb4 : ansOf (hideCode lf lg z4.length) (hideL av bv z4) = dv := by rw [hc4, ansOf_zero, hz4]; exact hide_hide av bv dv rdh.byte
        subst hp4
        clear hz4 hl4
        have hp5 : ¬ p5 = 0 := fun e => hg (HP5.out.trans e)
        clear HP4 HP5 HZ4 HZ5 hx hg
        have hz4l : z4.length = z4.length := rfl
        have bx4c0 := bx4.2.1
        have bx4c1 := bx4.2.2
        have bx5c0 := bx5.2.1
        have bx5c1 := bx5.2.2
        go_wp2_with fail
        clear bx4c0 bx4c1
        clear bx5c0 bx5c1
        refine (bans_at (implHide_any _ _ _ lf cf lg cg z4.length cap4 _ _ _ av bv z4 wc rdf rdg ru4 (fun h => by cases h) hkt.1) hc4 hb4).mono ?_
        rintro e w61 ⟨Gq, capq, rfl, _, uq, hb61⟩
        have hk61 := Keep.of_below hb61 0 0
        have hz61 := hb61.size
        replace hkt := hkt.keep hk61 (by omega)
        replace rda := rda.keep hk61 (by omega)
        replace rdb := rdb.keep hk61 (by omega)
        replace rdc := rdc.keep hk61 (by omega)
        replace rdd := rdd.keep hk61 (by omega)
        replace rdf := rdf.keep hk61 (by omega)
        replace rdg := rdg.keep hk61 (by omega)
        replace rdh := rdh.keep hk61 (by omega)
        replace ru0 := ru0.keep hk61 (by omega)
        replace ru1 := ru1.keep hk61 (by omega)
        replace ru4 := ru4.keep hk61 (by omega)
        replace ru5 := ru5.keep hk61 (by omega)
        replace bx0 := bx0.keep hk61 (by omega)
        replace bx1 := bx1.keep hk61 (by omega)
        replace bx4 := bx4.keep hk61 (by omega)
        replace bx5 := bx5.keep hk61 (by omega)
        replace bb := bb.trans (hk61.below (by omega) bb.size)
        clear hb61 hk61
        have hfl := fun w' : World => field_bytes 0 Gq dv.length capq w'
        have bx4c0 := bx4.2.1
        have bx4c1 := bx4.2.2
        have bx5c0 := bx5.2.1
        have bx5c1 := bx5.2.2
        go_wp2_with fail
        clear bx4c0 bx4c1
        clear bx5c0 bx5c1
        refine (lwSame_any _ _ dv.length _ lh _ _ _ _ _ dv dv w61 uq.1 rdh).mono ?_
        rintro e v9 ⟨rfl, rfl⟩
        have dez : decide (dv = dv) = true := by simp
        have bx5c0 := bx5.2.1
        have bx5c1 := bx5.2.2
        go_wp2_with fail
        clear bx5c0 bx5c1
        go_meet
        case rel => exact ⟨rfl, bb, hkt, (by omega), rda, rdb, rdc, rdd, ru0, ru1, bx0, bx1⟩
    · by_cases hg : tagCode li lj = 0
      · have hp4 : ¬ p4 = 0 := fun e => hx (HP4.out.trans e)
        have hp5 : p5 = 0 := HP5.out.symm.trans hg
        have hl5 : z5.length = 8 := by rw [← HZ5.out, hg, ansOf_zero, tagL_len]
        subst hp5
        generalize z5.length = n5 at *
        have hn5 : ((n5 : Int) != 8) = false := by simp; omega
        have hn5' : (n5 : Int) = 8 := by omega
        clear hl5
        clear HP4 HP5 HZ4 HZ5 hx hg
        generalize z4.length = n4 at *
        have bx4c0 := bx4.2.1
        have bx4c1 := bx4.2.2
        have bx5c0 := bx5.2.1
        have bx5c1 := bx5.2.2
        go_wp2_with fail
        clear bx4c0 bx4c1
        clear bx5c0 bx5c1
        go_meet
        case rel => exact ⟨rfl, bb, hkt, (by omega), rda, rdb, rdc, rdd, ru0, ru1, bx0, bx1⟩
      · have hp4 : ¬ p4 = 0 := fun e => hx (HP4.out.trans e)
        have hp5 : ¬ p5 = 0 := fun e => hg (HP5.out.trans e)
        clear HP4 HP5 HZ4 HZ5 hx hg
        generalize z4.length = n4 at *
        have bx4c0 := bx4.2.1
        have bx4c1 := bx4.2.2
        have bx5c0 := bx5.2.1
        have bx5c1 := bx5.2.2
        go_wp2_with fail
        clear bx4c0 bx4c1
        clear bx5c0 bx5c1
        go_meet
        case rel => exact ⟨rfl, bb, hkt, (by omega), rda, rdb, rdc, rdd, ru0, ru1, bx0, bx1⟩
  case rest =>
  clear bb hkt hzx rda rdb rdc rdd rdf rdg rdh ru0 ru1 ru4 ru5 bx0 bx1 bx4 bx5
  obtain ⟨rfl, bb, hkt, hzx, rda, rdb, rdc, rdd, ru0, ru1, bx0, bx1⟩ := hcut
  have hgt0 := hkt.1.1
  have hgt1 := hkt.2.1
  go_upto_region 18 with fail
  go_cut [180] from 164 to 180 (fun sv wx => sv = .bool false ∧ Below w.heap.size w wx ∧ KtE ea wx ∧ w17.heap.size ≤ wx.heap.size ∧ Rd wx 0 w17.heap.size (some ⟨ga, 0, none⟩) la kv ∧ Rd wx 0 w17.heap.size (some ⟨gb, 0, none⟩) lb pv ∧ Rd wx 0 w17.heap.size G0 z0.length z0 ∧ Box2 wx w2.heap.size (.int .i64 p0) (.slice G0 z0.length cap0))
  case first =>
    by_cases ho : openCode lc kw pw = 0
    · have hp1 : p1 = 0 := HP1.out.symm.trans ho
      have hlc' : lc = 32 := by
        rcases Nat.decEq lc 32 with e | e
        · unfold openCode at ho; rw [if_pos e] at ho; omega
        · exact e
      have hs1 : s1 = hdSide pw := by rw [← HS1.out, ho, zeroOr_zero]
      have hq1 : q1 = hdSeq pw := by rw [← HQ1.out, ho, zeroOr_zero]
      have hz1 : z1 = openL kw pw := by rw [← HZ1.out, ho, ansOf_zero]
      have hos := open_seals rdd.byte (by rw [← hlc']; exact ho)
      rw [← hs1, ← hq1, ← hz1] at hos
      have hc1 : sealCode lc z1.length s1 q1 = 0 := by
        unfold sealCode
        rw [if_neg (fun h => h.elim (fun e => e hlc') (fun h => h.elim (fun e => e hos.2.1) (fun e => e hos.2.2.1))), if_neg (by have := hos.2.2.2; omega)]
      have hb1 : ansOf (sealCode lc z1.length s1 q1) (sealL kw s1 q1 z1) = pw := by rw [hc1, ansOf_zero]; exact hos.1
      subst hp1
      clear hs1 hq1 hz1 hos hlc'
      clear HP1 HS1 HQ1 HZ1 ho
      have bx1c0 := bx1.2.1
      have bx1c1 := bx1.2.2.1
      have bx1c2 := bx1.2.2.2.1
      have bx1c3 := bx1.2.2.2.2
      go_wp2_with fail
      clear bx1c0 bx1c1 bx1c2 bx1c3
      refine (bans_at (implSeal_any _ _ lc cc z1.length cap1 _ _ s1 q1 kw z1 wc rdc ru1 hkt.1) hc1 hb1).mono ?_
      rintro e w61 ⟨Gq, capq, rfl, _, uq, hb61⟩
      have hk61 := Keep.of_below hb61 0 0
      have hz61 := hb61.size
      replace hkt := hkt.keep hk61 (by omega)
      replace rda := rda.keep hk61 (by omega)
      replace rdb := rdb.keep hk61 (by omega)
      replace rdc := rdc.keep hk61 (by omega)
      replace rdd := rdd.keep hk61 (by omega)
      replace ru0 := ru0.keep hk61 (by omega)
      replace ru1 := ru1.keep hk61 (by omega)
      replace bx0 := bx0.keep hk61 (by omega)
      replace bx1 := bx1.keep hk61 (by omega)
      replace bb := bb.trans (hk61.below (by omega) bb.size)
      clear hb61 hk61
      have hfl := fun w' : World => field_bytes 0 Gq pw.length capq w'
      have bx1c0 := bx1.2.1
      have bx1c1 := bx1.2.2.1
      have bx1c2 := bx1.2.2.2.1
      have bx1c3 := bx1.2.2.2.2
      go_wp2_with fail
      clear bx1c0 bx1c1 bx1c2 bx1c3
      refine (lwSame_any _ _ pw.length _ ld _ _ _ _ _ pw pw w61 uq.1 rdd).mono ?_
      rintro e v9 ⟨rfl, rfl⟩
      have dez : decide (pw = pw) = true := by simp
      have bx1c0 := bx1.2.1
      have bx1c1 := bx1.2.2.1
      have bx1c2 := bx1.2.2.2.1
      have bx1c3 := bx1.2.2.2.2
      go_wp2_with fail
      clear bx1c0 bx1c1 bx1c2 bx1c3
      go_meet
      case rel => exact ⟨rfl, bb, hkt, (by omega), rda, rdb, ru0, bx0⟩
    · have hp1 : ¬ p1 = 0 := fun e => ho (HP1.out.trans e)
      clear HP1 HS1 HQ1 HZ1 ho
      have bx1c0 := bx1.2.1
      have bx1c1 := bx1.2.2.1
      have bx1c2 := bx1.2.2.2.1
      have bx1c3 := bx1.2.2.2.2
      go_wp2_with fail
      clear bx1c0 bx1c1 bx1c2 bx1c3
      go_meet
      case rel => exact ⟨rfl, bb, hkt, (by omega), rda, rdb, ru0, bx0⟩
  case rest =>
  clear bb hkt hzx rda rdb rdc rdd ru0 ru1 bx0 bx1
  obtain ⟨rfl, bb, hkt, hzx, rda, rdb, ru0, bx0⟩ := hcut
  have hgu0 := hkt.1.1
  have hgu1 := hkt.2.1
  by_cases hs : sealCode la lb sd sq = 0
  · have hp0 : p0 = 0 := HP0.out.symm.trans hs
    have hz0 : z0 = sealL kv sd sq pv := by rw [← HZ0.out, hs, ansOf_zero]
    have hla' : la = 32 := by
      rcases Nat.decEq la 32 with e | e
      · unfold sealCode at hs; rw [if_pos (Or.inl e)] at hs; omega
      · exact e
    have hsd' : sideOk sd := by
      by_cases e : sideOk sd
      · exact e
      · unfold sealCode at hs; rw [if_pos (Or.inr (Or.inl e))] at hs; omega
    have hsq' : 0 ≤ sq ∧ sq ≤ 9999 := by
      by_cases e : 0 ≤ sq ∧ sq ≤ 9999
      · exact e
      · unfold sealCode at hs; rw [if_pos (Or.inr (Or.inr e))] at hs; omega
    have hlb' : ¬ 120 < lb := by
      intro e
      unfold sealCode at hs
      rw [if_neg (fun h => h.elim (fun e => e hla') (fun h => h.elim (fun e => e hsd') (fun e => e hsq'))), if_pos e] at hs
      omega
    have hpl : pv.length = lb := rdb.len
    have hln : z0.length = lb + 13 := by rw [hz0, sealL_len, hpl]
    have hop : openCode la kv z0 = 0 := by rw [hla', hz0]; exact seal_opens hsd' hsq' (by omega)
    have hsi : hdSide z0 = sd := by rw [hz0]; exact seal_side
    have hse : hdSeq z0 = sq := by rw [hz0]; exact seal_seq hsq'
    have hpt : openL kv z0 = pv := by rw [hz0]; exact seal_plain rdb.byte
    have hhc : headCode z0 = 0 := by rw [hz0]; exact seal_head hsd' hsq' (by omega)
    have e1 : zeroOr (openCode la kv z0) (hdSide z0) = sd := by rw [hop, zeroOr_zero, hsi]
    have e2 : zeroOr (openCode la kv z0) (hdSeq z0) = sq := by rw [hop, zeroOr_zero, hse]
    have e3 : ansOf (openCode la kv z0) (openL kv z0) = pv := by rw [hop, ansOf_zero, hpt]
    have e4 : zeroOr (headCode z0) (hdSide z0) = sd := by rw [hhc, zeroOr_zero, hsi]
    have e5 : zeroOr (headCode z0) (hdSeq z0) = sq := by rw [hhc, zeroOr_zero, hse]
    have E1 := Lib.hid e1
    have E2 := Lib.hid e2
    have E3 := Lib.hid e3
    have E4 := Lib.hid e4
    have E5 := Lib.hid e5
    have HOP := Lib.hid hop
    have HHC := Lib.hid hhc
    have HLN := Lib.hid hln
    have hnn : ((z0.length : Int) == (lb : Int) + 5 + 8) = true := by simp; omega
    have HPL := Lib.hid hpl
    subst hp0
    clear hz0 hla' hsd' hsq' hlb' hln hop hsi hse hpt hhc e1 e2 e3 e4 e5 hpl hs HP0 HZ0
    have bx0c0 := bx0.2.1
    have bx0c1 := bx0.2.2
    go_wp2_with fail
    clear bx0c0 bx0c1
    refine (pans_at (implOpen_any _ _ la ca z0.length cap0 _ _ kv z0 wc rda ru0 hcap0 hkt) HOP.out E1.out E2.out E3.out).mono ?_
    rintro e w61 ⟨G6, cap6, rfl, _, u6, hb61⟩
    have hk61 := Keep.of_below hb61 0 0
    have hz61 := hb61.size
    replace hkt := hkt.keep hk61 (by omega)
    replace rda := rda.keep hk61 (by omega)
    replace rdb := rdb.keep hk61 (by omega)
    replace ru0 := ru0.keep hk61 (by omega)
    replace bx0 := bx0.keep hk61 (by omega)
    replace bb := bb.trans (hk61.below (by omega) bb.size)
    clear hb61 hk61
    go_wp2_with fail
    have hk62 := (Keep.refl 0 0 w61).alloc (.cells #[.int .i64 0, .int .i64 sd, .int .i64 sq, .slice G6 pv.length cap6] 32)
    have bx6 := Box4v.new w61 (.int .i64 0) (.int .i64 sd) (.int .i64 sq) (.slice G6 pv.length cap6) 32
    have hz62 : w61.heap.size + 1 ≤ (w61.alloc (.cells #[.int .i64 0, .int .i64 sd, .int .i64 sq, .slice G6 pv.length cap6] 32)).heap.size := by simp
    replace hkt := hkt.keep hk62 (by omega)
    replace rda := rda.keep hk62 (by omega)
    replace rdb := rdb.keep hk62 (by omega)
    replace ru0 := ru0.keep hk62 (by omega)
    replace bx0 := bx0.keep hk62 (by omega)
    replace u6 := u6.keep hk62 (by omega)
    replace bb := bb.trans (hk62.below (by omega) bb.size)
    clear hk62
    generalize w61.alloc (.cells #[.int .i64 0, .int .i64 sd, .int .i64 sq, .slice G6 pv.length cap6] 32) = w62 at *
    have bx0c0 := bx0.2.1
    have bx0c1 := bx0.2.2
    have bx6c0 := bx6.2.1
    have bx6c1 := bx6.2.2.1
    have bx6c2 := bx6.2.2.2.1
    have bx6c3 := bx6.2.2.2.2
    go_wp2_with fail
    clear bx0c0 bx0c1
    clear bx6c0 bx6c1 bx6c2 bx6c3
    refine (lwSame_any _ _ pv.length _ lb _ _ _ _ _ pv pv w62 u6.1 rdb).mono ?_
    rintro e v9 ⟨rfl, rfl⟩
    have dez : decide (pv = pv) = true := by simp
    have bx0c0 := bx0.2.1
    have bx0c1 := bx0.2.2
    have bx6c0 := bx6.2.1
    have bx6c1 := bx6.2.2.1
    have bx6c2 := bx6.2.2.2.1
    have bx6c3 := bx6.2.2.2.2
    go_wp2_with fail
    clear bx0c0 bx0c1
    clear bx6c0 bx6c1 bx6c2 bx6c3
    refine (pans_at (implHead_any _ z0.length cap0 _ z0 w62 ru0 hcap0) HHC.out E4.out E5.out rfl).mono ?_
    rintro e w63 ⟨G7, cap7, rfl, _, u7, hb63⟩
    have hk63 := Keep.of_below hb63 0 0
    have hz63 := hb63.size
    replace hkt := hkt.keep hk63 (by omega)
    replace rda := rda.keep hk63 (by omega)
    replace rdb := rdb.keep hk63 (by omega)
    replace ru0 := ru0.keep hk63 (by omega)
    replace bx0 := bx0.keep hk63 (by omega)
    replace u6 := u6.keep hk63 (by omega)
    replace bx6 := bx6.keep hk63 (by omega)
    replace bb := bb.trans (hk63.below (by omega) bb.size)
    clear hb63 hk63
    have hf7 : ∀ (G : Option Addr) (n c : Nat) (w : World), (Instr.field 32 (.agg #[.int .i64 0, .int .i64 sd, .int .i64 sq, .slice G n c]) 2).run Tryd.prog w = .ok (.int .i64 sq) w := fun _ _ _ _ => by kernel_rfl
    have bx0c0 := bx0.2.1
    have bx0c1 := bx0.2.2
    have bx6c0 := bx6.2.1
    have bx6c1 := bx6.2.2.1
    have bx6c2 := bx6.2.2.2.1
    have bx6c3 := bx6.2.2.2.2
    go_wp2_with fail
    clear bx0c0 bx0c1
    clear bx6c0 bx6c1 bx6c2 bx6c3
    go_ret
    exact ⟨rfl, bb⟩
  · have hp0 : ¬ p0 = 0 := fun e => hs (HP0.out.trans e)
    have hz0 : z0.length = 0 := by rw [← HZ0.out, ansOf_bad hs]; rfl
    generalize z0.length = n0 at *
    have hn0 : ((n0 : Int) == 0) = true := by simp; omega
    have hn0' : (n0 : Int) = 0 := by omega
    clear hs HP0 HZ0 hz0
    have bx0c0 := bx0.2.1
    have bx0c1 := bx0.2.2
    go_wp2_with fail
    clear bx0c0 bx0c1
    go_ret
    exact ⟨rfl, bb⟩
end Go.Proofs.YtpnpjngaenlciaaDoor
