/-
  impl.OpenPacket.
-/
import Derived.Test.YtpnpjngaenlciaaDoorS4e
namespace Go.Proofs.YtpnpjngaenlciaaDoor
open Go.RowKit
set_option linter.unusedVariables false
set_option maxRecDepth 100000

set_option maxHeartbeats 4000000 in
theorem implOpen_any {a : Addr} (A B : Option Addr) (nk ck n c hk hi : Nat) (ks ps : List Int) (w : World) (hkey : Rd w 0 hk A nk ks) (h : Rd w 0 hi B n ps) (hnc : n ≤ c) (hkt : KtE a w) :
    Calls Tryd.prog 12 #[.slice A nk ck, .slice B n c] w (PAns w (openCode nk ks ps) (zeroOr (openCode nk ks ps) (hdSide ps)) (zeroOr (openCode nk ks ps) (hdSeq ps)) (ansOf (openCode nk ks ps) (openL ks ps))) := by
  have hi1 := hkey.int
  have hi3 := h.int
  have hl := h.len
  have hg0 := hkt.1.1
  have hg1 := hkt.2.1
  by_cases h1 : nk = 32
  · have ka := (Keep.refl 0 0 w).alloc (.cells #[.int .i64 0, .int .i64 0, .int .i64 0, .slice none 0 0] 32)
    have q2 := h.keep ka (by omega)
    have h1' : (nk : Int) = 32 := by omega
    by_cases hh : headCode ps = 0
    · have hn : 13 ≤ n ∧ n ≤ 133 := by
        unfold headCode at hh
        by_cases e0 : ps.length < 13 ∨ 133 < ps.length
        · rw [if_pos e0] at hh; omega
        · omega
      have hd := fun (w' : World) (q2 : Rd w' 0 hi B n ps) => implHead_any B n c hi ps w' q2 hnc
      rw [hh, zeroOr_zero, zeroOr_zero] at hd
      have hcode : openCode nk ks ps = if tagL ks (bodyOf ps) ≠ tagOf ps then 6 else 0 := by unfold openCode; rw [if_neg (by simpa using h1), if_neg (by simpa using hh)]
      rw [hcode]
      obtain ⟨k, hk'⟩ : ∃ k, n = k + 8 := ⟨n - 8, by omega⟩
      have hbo : bodyOf ps = part ps 0 k := by unfold bodyOf part; rw [hl, hk', Nat.add_sub_cancel, List.drop_zero]
      have hta : tagOf ps = part ps k 8 := by
        unfold tagOf part
        rw [hl, hk', Nat.add_sub_cancel]
        exact (List.take_of_length_le (by rw [List.length_drop]; omega)).symm
      have hop : openL ks ps = hideL ks (part ps 0 5) (part ps 5 (k - 5)) := by unfold openL; rw [hl, hk', show k + 8 - 13 = k - 5 from by omega]; rfl
      obtain ⟨b, off, rfl, _, _, _⟩ := q2.at_ (by omega)
      rw [hbo, hta, hop]
      generalize hdSide ps = sd at *
      generalize hdSeq ps = sq at *
      have hkey0 := hkey.top
      have hpk0 := h.top
      have HD := Lib.hid hd
      by_cases ht : tagL ks (part ps 0 k) = part ps k 8
      · rw [if_neg (by simpa using ht), zeroOr_zero, zeroOr_zero, ansOf_zero]
        have hil : (hideL ks (part ps 0 5) (part ps 5 (k - 5))).length = k - 5 := (hideL_len _ _ _).trans (h.part_ 5 (k - 5) (by omega)).len
        have HOPEN := Lib.hid (fun (w' : World) (q1 : Rd w' 0 hk A nk ks) (q2 : Rd w' 0 hi (some ⟨b, off, none⟩) n ps) (q3 : KtE a w') => openBytes_yes a A b off nk ck n c k hk hi ks ps w' q1 q2 (by omega) hk' (by omega) (by omega) hnc q3 ht)
        generalize hideL ks (part ps 0 5) (part ps 5 (k - 5)) = Z at *
        clear hd hcode hbo hta hop hk' hh h1 ht
        go_enter Tryd.func12, Tryd.ntmps12
        go_wp2_with fail
        refine (HD.out _ q2).mono ?_
        rintro e w1 ⟨G, cap, rfl, _, _, b1⟩
        obtain ⟨⟨d0, d1, d2, d3⟩, ⟨f0, f1, f2, f3⟩, bb, hz⟩ := Box4.cells b1
        have k1 := Keep.of_below bb 0 0
        have kx := (Keep.refl 0 0 w1).alloc (.cells #[.int .i64 0, .int .i64 sd, .int .i64 sq, .slice G 0 cap] 32)
        have r2 := (h.keep k1 (by omega)).keep kx (by omega)
        have key2 := (hkey.keep k1 (by omega)).keep kx (by omega)
        have kt2 := (hkt.keep k1 (by omega)).keep kx (by omega)
        have by1 := Box4.new w1 (.int .i64 0) (.int .i64 sd) (.int .i64 sq) (.slice G 0 cap) 32
        have bbx : Below w.heap.size w (w1.alloc (.cells #[.int .i64 0, .int .i64 sd, .int .i64 sq, .slice G 0 cap] 32)) := bb.trans (kx.below (by omega) bb.size)
        have hzx : w1.heap.size < (w1.alloc (.cells #[.int .i64 0, .int .i64 sd, .int .i64 sq, .slice G 0 cap] 32)).heap.size := by simp
        clear q2 ka b1 hkey h hkt k1
        go_wp2_with fail
        refine (HOPEN.out _ key2 r2 kt2).mono ?_
        rintro e w4 ⟨g8, c8, rfl, hc8, wr8, b4⟩
        have HF := Lib.hid (PAns.open_ (r := w1.heap.size) (sd := sd) (sq := sq) hil bbx (by omega) ⟨by omega, hzx⟩ b4 wr8 hc8 (.slice (some ⟨g8, 0, none⟩) (k - 5) c8) (.int .i64 0) (.int .i64 sd) (.int .i64 sq) (.slice (some ⟨g8, 0, none⟩) (k - 5) c8))
        have k4 := Keep.of_below b4 0 0
        obtain ⟨x0, x1, x2, x3, y0, y1, y2, y3, z0⟩ := (Box4.mk d0 d1 d2 d3 f0 f1 f2 f3 hz).keep (kx.trans k4) (by omega)
        obtain ⟨d0, d1, d2, d3, f0, f1, f2, f3, z1⟩ := by1.keep k4 (by omega)
        have ce4 := (kt2.keep k4 (by omega)).2.2
        have hne : ¬ w.heap.size = w1.heap.size := by omega
        have hne' : ¬ w1.heap.size = w.heap.size := by omega
        clear wr8 b4 k4 bbx hzx by1 kx r2 key2 kt2 bb HOPEN HD
        go_wp2_with fail
        refine (is_nil a w4).mono ?_
        rintro e w5 ⟨rfl, rfl⟩
        go_wp2_with fail
        exact bodyPost_ret (v := .agg #[.int .i64 0, .int .i64 sd, .int .i64 sq, .slice (some ⟨g8, 0, none⟩) (k - 5) c8]) (by simp [results, Tryd.results12, go_sem, x0, x1, x2, x3]) rfl HF.out
      · rw [if_pos ht, ansOf_bad (by omega), zeroOr_bad (by omega), zeroOr_bad (by omega)]
        have HOPEN := Lib.hid (fun (w' : World) (q1 : Rd w' 0 hk A nk ks) (q2 : Rd w' 0 hi (some ⟨b, off, none⟩) n ps) (q3 : KtE a w') => openBytes_no a A b off nk ck n c k hk hi ks ps w' q1 q2 (by omega) hk' (by omega) (by omega) hnc q3 ht)
        clear hd hcode hbo hta hop hk' hh h1 ht
        go_enter Tryd.func12, Tryd.ntmps12
        go_wp2_with fail
        refine (HD.out _ q2).mono ?_
        rintro e w1 ⟨G, cap, rfl, _, _, b1⟩
        obtain ⟨⟨d0, d1, d2, d3⟩, ⟨f0, f1, f2, f3⟩, bb, hz⟩ := Box4.cells b1
        have k1 := Keep.of_below bb 0 0
        have kx := (Keep.refl 0 0 w1).alloc (.cells #[.int .i64 0, .int .i64 sd, .int .i64 sq, .slice G 0 cap] 32)
        have r2 := (h.keep k1 (by omega)).keep kx (by omega)
        have key2 := (hkey.keep k1 (by omega)).keep kx (by omega)
        have kt2 := (hkt.keep k1 (by omega)).keep kx (by omega)
        have by1 := Box4.new w1 (.int .i64 0) (.int .i64 sd) (.int .i64 sq) (.slice G 0 cap) 32
        have bbx : Below w.heap.size w (w1.alloc (.cells #[.int .i64 0, .int .i64 sd, .int .i64 sq, .slice G 0 cap] 32)) := bb.trans (kx.below (by omega) bb.size)
        have hzx : w1.heap.size < (w1.alloc (.cells #[.int .i64 0, .int .i64 sd, .int .i64 sq, .slice G 0 cap] 32)).heap.size := by simp
        clear q2 ka b1 hkey h hkt k1
        go_wp2_with fail
        refine (HOPEN.out _ key2 r2 kt2).mono ?_
        rintro e w4 ⟨rfl, b4⟩
        have k4 := Keep.of_below b4 0 0
        have bb4 := bbx.trans (b4.mono bbx.size)
        obtain ⟨x0, x1, x2, x3, y0, y1, y2, y3, z0⟩ := (Box4.mk d0 d1 d2 d3 f0 f1 f2 f3 hz).keep (kx.trans k4) (by omega)
        have HF := Lib.hid (PAns.fault4 6 bb4 z0 (.int .i64 6) (.int .i64 0) (.int .i64 0) (.slice none 0 0))
        have ce4 := (kt2.keep k4 (by omega)).2.2
        clear b4 k4 bbx hzx by1 kx r2 key2 kt2 bb bb4 HOPEN HD d0 d1 d2 d3 f0 f1 f2 f3
        go_wp2_with fail
        refine (is_same a w4).mono ?_
        rintro e w5 ⟨rfl, rfl⟩
        go_wp2_with fail
        exact bodyPost_ret (v := .agg #[.int .i64 6, .int .i64 0, .int .i64 0, .slice none 0 0]) (by simp [results, Tryd.results12, go_sem, x0, x1, x2, x3]) rfl HF.out
    · have e : openCode nk ks ps = headCode ps := by unfold openCode; rw [if_neg (by simpa using h1), if_pos hh]
      rw [e, ansOf_bad hh, zeroOr_bad hh, zeroOr_bad hh]
      have hd := fun (w' : World) (q2 : Rd w' 0 hi B n ps) => implHead_any B n c hi ps w' q2 hnc
      rw [zeroOr_bad hh, zeroOr_bad hh] at hd
      generalize headCode ps = hc at *
      have HD := Lib.hid hd
      clear e h1 hd
      go_enter Tryd.func12, Tryd.ntmps12
      go_wp2_with fail
      refine (HD.out _ q2).mono ?_
      rintro e w1 ⟨G, cap, rfl, _, _, b1⟩
      obtain ⟨⟨d0, d1, d2, d3⟩, ⟨f0, f1, f2, f3⟩, bb, hz⟩ := Box4.cells b1
      have HF : Hid (∀ o, PAns w hc 0 0 [] (.returned (.agg #[.int .i64 hc, .int .i64 0, .int .i64 0, .slice G 0 cap])) ((set4 w1 w.heap.size (.int .i64 hc) (.int .i64 0) (.int .i64 0) (.slice G 0 cap)).alloc o)) := fun o =>
        ⟨G, cap, rfl, Nat.zero_le _, Wr.empty_top _ G, (bb.trans (((Keep.refl w.heap.size (w.heap.size + 1) w1).set4 ⟨Nat.le_refl _, Nat.lt_succ_self _⟩ _ _ _ _).below (by omega) bb.size)).alloc (by have := ((Keep.refl w.heap.size (w.heap.size + 1) w1).set4 (g := w.heap.size) ⟨Nat.le_refl _, Nat.lt_succ_self _⟩ (.int .i64 hc) (.int .i64 0) (.int .i64 0) (.slice G 0 cap)).size; omega) o⟩
      clear q2 ka b1 bb
      go_wp2_with fail
      exact bodyPost_ret (v := .agg #[.int .i64 hc, .int .i64 0, .int .i64 0, .slice G 0 cap]) (by simp [results, Tryd.results12, go_sem, d0, d1, d2, d3, hz]) rfl (HF.out _)
  · have e : openCode nk ks ps = 3 := by unfold openCode; rw [if_pos h1]
    rw [e, ansOf_bad (by omega), zeroOr_bad (by omega), zeroOr_bad (by omega)]
    have h1' : ¬ (nk : Int) = 32 := by omega
    clear h1 e
    go_enter Tryd.func12, Tryd.ntmps12
    go_wp2_with fail
    go_returns
    exact PAns.fault (by go_grown)
end Go.Proofs.YtpnpjngaenlciaaDoor
