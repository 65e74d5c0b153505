/-
  impl.SealPacket.
-/
import Derived.Test.YtpnpjngaenlciaaDoorS4c
namespace Go.Proofs.YtpnpjngaenlciaaDoor
open Go.RowKit
set_option linter.unusedVariables false
set_option maxRecDepth 100000

theorem BAns.set2 {w v : World} (p : Int) (h : Below w.heap.size w v) (x0 x1 : Value) :
    BAns w p [] (.returned (.agg #[.int .i64 p, .slice none 0 0])) ((v.setCell ⟨w.heap.size, 0, none⟩ x0).setCell ⟨w.heap.size, 1, none⟩ x1) :=
  BAns.fault ((h.setCell (p := ⟨w.heap.size, 0, none⟩) (Nat.le_refl _) x0).setCell (p := ⟨w.heap.size, 1, none⟩) (Nat.le_refl _) x1)
theorem side_byte {sd : Int} (h : sideOk sd) : 0 ≤ sd ∧ sd ≤ 255 := by unfold sideOk at h; omega

set_option maxHeartbeats 4000000 in
theorem implSeal_any (A D : Option Addr) (nk ck n c hk hd : Nat) (sd sq : Int) (ks ds : List Int) (w : World) (hkey : Rd w 0 hk A nk ks) (hdata : Rd w 0 hd D n ds) (hkt : Kt w) :
    Calls Tryd.prog 10 #[.slice A nk ck, .int .i64 sd, .int .i64 sq, .slice D n c] w (BAns w (sealCode nk n sd sq) (ansOf (sealCode nk n sd sq) (sealL ks sd sq ds))) := by
  have hi1 := hkey.int
  have hi3 := hdata.int
  have hdl := hdata.len
  have hg := hkt.1
  by_cases h1 : nk = 32
  · by_cases hs : sideOk sd ∧ (0 ≤ sq ∧ sq ≤ 9999)
    · have HNO := Lib.hid (fun w' => isNoHead_any sd sq w' false (decide_eq_false (by simpa using hs)))
      by_cases h3 : 120 < n
      · have e : sealCode nk n sd sq = 2 := by simp [sealCode, h1, hs.1, hs.2, h3]
        rw [e, ansOf_bad (by omega)]
        have h1' : (nk : Int) = 32 := by omega
        clear h1 e hs
        go_enter Tryd.func10, Tryd.ntmps10
        go_wp2_with fail
        refine (HNO.out _).mono ?_
        rintro e w1 ⟨rfl, hb1⟩
        obtain ⟨d0, d1, f0, f1, hb, hz⟩ := res_cells hb1
        obtain ⟨e0, e1⟩ := two_cells d0 d1 (.int .i64 2) (.slice none 0 0)
        have HR := Lib.hid (BAns.set2 2 hb (.int .i64 2) (.slice none 0 0))
        clear hb1 hb
        go_wp2_with fail
        exact bodyPost_ret (v := .agg #[.int .i64 2, .slice none 0 0]) (by simp [results, Tryd.results10, go_sem, e0, e1]) rfl HR.out
      · have e : sealCode nk n sd sq = 0 := by simp [sealCode, h1, hs.1, hs.2, h3]
        rw [e, ansOf_zero]
        have hsb := side_byte hs.1
        have hsq := hs.2
        have hZ : Hid (sealL ks sd sq ds = bodyL ks sd sq ds ++ tagL ks (bodyL ks sd sq ds)) := rfl
        have hB : Hid (bodyL ks sd sq ds = headL sd sq ++ hideL ks (headL sd sq) ds) := rfl
        have hZl := sealL_len ks sd sq ds
        have hBl := bodyL_len ks sd sq ds
        have hHl := headL_len sd sq
        have hil := hideL_len ks (headL sd sq) ds
        rw [hdl] at hZl hBl hil
        have HHEAD := Lib.hid (fun w' => headBytes_any sd sq w' hsb hsq)
        generalize sealL ks sd sq ds = Z at *
        generalize bodyL ks sd sq ds = bd at *
        generalize headL sd sq = hs' at *
        have HHIDE := Lib.hid (fun (w' : World) (g c' hk' hi' hd' : Nat) (q1 : Rd w' 0 hk' A nk ks) (q2 : Rd w' 0 hi' (some ⟨g, 0, none⟩) 5 hs') (q3 : Rd w' 0 hd' D n ds) (q4 : Kt w') => hideBytes_any A (some ⟨g, 0, none⟩) D nk ck 5 c' n c hk' hi' hd' ks hs' ds w' q1 q2 q3 (by omega) (by omega) (by omega) (by omega) q4)
        generalize hideL ks hs' ds = hh at *
        have HTAG := Lib.hid (fun (w' : World) (g c' hk' hi' : Nat) (q1 : Rd w' 0 hk' A nk ks) (q2 : Rd w' 0 hi' (some ⟨g, 0, none⟩) (n + 5) bd) (q4 : Kt w') => tagBytes_any A (some ⟨g, 0, none⟩) nk ck (n + 5) c' hk' hi' ks bd w' q1 q2 (by omega) (by omega) (fun h => by cases h) q4)
        generalize tagL ks bd = tg at *
        have ka := (Keep.refl 0 0 w).alloc (.cells #[.int .i64 0, .slice none 0 0] 27)
        have za : w.heap.size ≤ (w.alloc (.cells #[.int .i64 0, .slice none 0 0] 27)).heap.size := by simp
        have h1' : (nk : Int) = 32 := by omega
        clear h1 e hs
        go_enter Tryd.func10, Tryd.ntmps10
        go_wp2_with fail
        refine (HNO.out _).mono ?_
        rintro e w1 ⟨rfl, hb1⟩
        have zb := hb1.size
        go_wp2_with fail
        refine (HHEAD.out w1).mono ?_
        intro e w2 hm2
        obtain ⟨g2, c2, rfl, hc2, wr2, b2⟩ := hm2.at_ hHl
        have bb2 := hb1.trans (b2.mono hb1.size)
        have k2 := ka.trans (Keep.of_below bb2 0 0)
        have key2 := hkey.keep k2 (by omega)
        have dat2 := hdata.keep k2 (by omega)
        have kt2 := hkt.keep k2 (by omega)
        have r2 := wr2.1.rd0
        clear hm2 wr2 b2 hb1 hkey hdata hkt
        go_wp2_with fail
        refine (HHIDE.out w2 g2 c2 _ _ _ key2 r2 dat2 kt2).mono ?_
        intro e w3 hm3
        obtain ⟨g3, c3, rfl, hc3, wr3, b3⟩ := hm3.at_ hil
        have k3 := Keep.of_below b3 0 0
        have bb3 := bb2.trans (b3.mono bb2.size)
        have r3 := r2.keep k3 (by omega)
        have s3 := wr3.1.rd0
        have key3 := key2.keep k3 (by omega)
        have kt3 := kt2.keep k3 (by omega)
        have T3 := Two.new w3 22 c2 c3 r3 s3
        have hcon := concat_any w3.heap.size 2 _ _ _ 5 c2 n c3 hs' hh _ T3 (fun h => by cases h) (fun h => by cases h) (by omega) (by omega)
        rw [← hB.out] at hcon
        have HC3 := Lib.hid hcon
        have kp3 := (Keep.refl 0 0 w3).alloc (.cells #[.slice (some ⟨g2, 0, none⟩) 5 c2, .slice (some ⟨g3, 0, none⟩) n c3] 22)
        have bp3 := bb3.trans (kp3.below (by omega) bb3.size)
        have key3' := key3.keep kp3 (by omega)
        have kt3' := kt3.keep kp3 (by omega)
        clear hm3 wr3 b3 bb2 key2 dat2 kt2 r2 k3 r3 s3 T3 hcon key3 kt3 kp3 bb3
        go_wp2_with fail
        refine HC3.out.mono ?_
        intro e w4 hm4
        obtain ⟨g4, c4, rfl, hc4, wr4, b4⟩ := hm4.at_ hBl
        have k4 := Keep.of_below b4 0 0
        have bb4 := bp3.trans (b4.mono bp3.size)
        have key4 := key3'.keep k4 (by omega)
        have kt4 := kt3'.keep k4 (by omega)
        have r4 := wr4.1.rd0
        clear hm4 wr4 b4 bp3 key3' kt3' k4 HC3
        go_wp2_with fail
        refine (HTAG.out w4 g4 c4 _ _ key4 r4 kt4).mono ?_
        rintro e w5 ⟨g5, rfl, wr5, b5⟩
        have k5 := Keep.of_below b5 0 0
        have bb5 := bb4.trans (b5.mono bb4.size)
        have r5 := r4.keep k5 (by omega)
        have s5 := wr5.1.rd0
        have T5 := Two.new w5 22 c4 8 r5 s5
        have hcon := concat_any w5.heap.size 2 _ _ _ (n + 5) c4 8 8 bd tg _ T5 (fun h => by cases h) (fun h => by cases h) (by omega) (by omega)
        rw [← hZ.out] at hcon
        have HC5 := Lib.hid hcon
        have kp5 := (Keep.refl 0 0 w5).alloc (.cells #[.slice (some ⟨g4, 0, none⟩) (n + 5) c4, .slice (some ⟨g5, 0, none⟩) 8 8] 22)
        have bp5 := bb5.trans (kp5.below (by omega) bb5.size)
        clear wr5 b5 bb4 key4 kt4 r4 k5 r5 s5 T5 hcon kp5
        go_wp2_with fail
        refine HC5.out.mono ?_
        intro e w6 hm6
        obtain ⟨g6, c6, rfl, hc6, wr6, b6⟩ := hm6.at_ hZl
        have bb6 := bp5.trans (b6.mono bp5.size)
        have hwr := wr6.wide (show (w.alloc (.cells #[.int .i64 0, .slice none 0 0] 27)).heap.size ≤ _ from bp5.size) (Nat.le_refl _) (Nat.le_refl _)
        obtain ⟨d0, d1, f0, f1, hb, hz⟩ := res_cells bb6
        obtain ⟨e0, e1⟩ := two_cells d0 d1 (.int .i64 0) (.slice (some ⟨g6, 0, none⟩) (n + 13) c6)
        obtain ⟨r7, hb7⟩ := res_done hb hz (.int .i64 0) (.slice (some ⟨g6, 0, none⟩) (n + 13) c6) hwr (by simp)
        have HR : Hid (BAns w 0 Z (.returned (.agg #[.int .i64 0, .slice (some ⟨g6, 0, none⟩) (n + 13) c6])) _) := BAns.of_len hZl hc6 r7 hb7
        clear hm6 wr6 b6 hwr hb r7 hb7 bb6 bp5 bb5 hc6 HC5
        go_wp2_with fail
        exact bodyPost_ret (v := .agg #[.int .i64 0, .slice (some ⟨g6, 0, none⟩) (n + 13) c6]) (by simp [results, Tryd.results10, go_sem, e0, e1]) rfl HR.out
    · have e : sealCode nk n sd sq = 3 := by
        unfold sealCode
        rw [if_pos]
        by_cases e1 : sideOk sd
        · exact Or.inr (Or.inr fun h => hs ⟨e1, h⟩)
        · exact Or.inr (Or.inl e1)
      rw [e, ansOf_bad (by omega)]
      have HNO := Lib.hid (fun w' => isNoHead_any sd sq w' true (decide_eq_true hs))
      have h1' : (nk : Int) = 32 := by omega
      clear h1 e hs
      go_enter Tryd.func10, Tryd.ntmps10
      go_wp2_with fail
      refine (HNO.out _).mono ?_
      rintro e w1 ⟨rfl, hb1⟩
      obtain ⟨d0, d1, f0, f1, hb, hz⟩ := res_cells hb1
      obtain ⟨e0, e1⟩ := two_cells d0 d1 (.int .i64 3) (.slice none 0 0)
      have HR := Lib.hid (BAns.set2 3 hb (.int .i64 3) (.slice none 0 0))
      clear hb1 hb
      go_wp2_with fail
      exact bodyPost_ret (v := .agg #[.int .i64 3, .slice none 0 0]) (by simp [results, Tryd.results10, go_sem, e0, e1]) rfl HR.out
  · have e : sealCode nk n sd sq = 3 := by simp [sealCode, h1]
    rw [e, ansOf_bad (by omega)]
    have h1' : ¬ (nk : Int) = 32 := by omega
    clear h1 e
    go_enter Tryd.func10, Tryd.ntmps10
    go_wp2_with fail
    go_returns
    exact BAns.fault (by go_grown)
end Go.Proofs.YtpnpjngaenlciaaDoor
