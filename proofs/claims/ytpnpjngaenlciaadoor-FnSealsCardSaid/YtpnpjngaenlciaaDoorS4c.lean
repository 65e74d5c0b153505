/-
  impl.tagBytes, impl.headBytes; impl.HideBytes, impl.TagOf, impl.SealPacket.
-/
import Derived.Test.YtpnpjngaenlciaaDoorS4b
import Derived.Test.YtpnpjngaenlciaaDoorS4h
import Derived.Test.YtpnpjngaenlciaaDoorPut2
namespace Go.Proofs.YtpnpjngaenlciaaDoor
open Go.RowKit
set_option linter.unusedVariables false
set_option maxRecDepth 100000

/-- The first m cells of a row that was made. -/
theorem Wr.take_ {w : World} {lo hi n : Nat} {A : Option Addr} {xs : List Int} (h : Wr w lo hi A n xs) (m : Nat) (hm : m ≤ n) : Wr w lo hi A m (xs.take m) := by
  have hl := h.1.len
  have hmx := h.1.max
  refine ⟨⟨by rw [List.length_take]; omega, by omega, h.1.top, fun x hx => h.1.byte x (List.mem_of_mem_take hx), fun h0 => ?_⟩, fun b off e j hj => h.2 b off e j (by omega)⟩
  obtain ⟨b, off, e, h1, h2, hc⟩ := h.1.at_ (by omega)
  refine ⟨b, off, e, h1, h2, fun j hj => ?_⟩
  rw [hc j (by omega), List.getD_eq_getElem?_getD, List.getD_eq_getElem?_getD, List.getElem?_take_of_lt hj]

set_option maxHeartbeats 2000000 in
theorem tagBytes_any (A D : Option Addr) (nk ck n c hk hi : Nat) (ks ds : List Int) (w : World) (hkey : Rd w 0 hk A nk ks) (h : Rd w 0 hi D n ds) (hnk : nk ≤ 64) (hn : n ≤ 1048500) (hD : D = none → c = 0) (hkt : Kt w) :
    Calls Tryd.prog 43 #[.slice A nk ck, .slice D n c] w fun e w' => ∃ g, e = .returned (.slice (some ⟨g, 0, none⟩) 8 8) ∧ Wr w' w.heap.size w'.heap.size (some ⟨g, 0, none⟩) 8 (tagL ks ds) ∧ Below w.heap.size w w' := by
  have hg := hkt.1
  have hdl := h.len
  have hml := macL_len ks (255 :: ds)
  have hZ : Hid (tagL ks ds = (macL ks (255 :: ds)).take 8) := rfl
  have hmac := fun (w' : World) (g' c' hk' hi' : Nat) (h1 : Rd w' 0 hk' A nk ks) (h2 : Rd w' 0 hi' (some ⟨g', 0, none⟩) (n + 1) (255 :: ds)) (h3 : Kt w') => macBytes_any A (some ⟨g', 0, none⟩) nk ck (n + 1) c' hk' hi' ks (255 :: ds) w' h1 h2 hnk (by omega) (fun h => by cases h) h3
  generalize macL ks (255 :: ds) = mc at *
  generalize tagL ks ds = Z at *
  have HM := Lib.hid hmac
  have kA := (Keep.refl 0 0 w).alloc (.cells #[.int .u8 255] 5)
  have ownA := own_lit w w.heap.size #[.int .u8 255] [255] 1 rfl (by unfold maxLen; omega) (Nat.le_refl _) rfl
  have litA := (Wr.of_own ownA (by unfold maxLen; omega) (by intro x hx; rw [List.mem_singleton.1 hx]; omega)).1.rd0
  have dA := h.keep kA (by omega)
  have T0 := Two.new (w.alloc (.cells #[.int .u8 255] 5)) 22 1 c litA dA
  have kB := kA.trans ((Keep.refl 0 0 (w.alloc (.cells #[.int .u8 255] 5))).alloc (.cells #[.slice (some ⟨w.heap.size, 0, none⟩) 1 1, .slice D n c] 22))
  have hcon := concat_any _ 2 _ _ D 1 1 n c [255] ds _ T0 (fun h => by cases h) hD (by omega) (by omega)
  rw [World.size_alloc] at hcon
  have hcl : ([255] ++ ds).length = n + 1 := by simp [hdl]
  have HC := Lib.hid hcon
  have HKB := Lib.hid kB
  clear hcon hmac T0 dA litA ownA kA kB
  go_enter Tryd.func43, Tryd.ntmps43
  go_wp2_with fail
  refine HC.out.mono ?_
  intro e w1 hm1
  obtain ⟨g1, c1, rfl, hc1, wr1, b1⟩ := hm1.at_ hcl
  have k1 := HKB.out.trans (Keep.of_below b1 0 0)
  have bb1 : Below w.heap.size w w1 := k1.below (by omega) (Nat.le_refl _)
  have key1 := hkey.keep k1 (by omega)
  have kt1 := hkt.keep k1 (by omega)
  have r1 := wr1.1.rd0
  clear hm1 wr1 b1 HC HKB k1
  go_wp2_with fail
  refine (HM.out w1 g1 c1 _ _ key1 r1 kt1).mono ?_
  intro e w2 hm2
  obtain ⟨g2, c2, rfl, hc2, wr2, b2⟩ := hm2.at_ hml
  have hw := wr2.take_ 8 (by omega)
  rw [← hZ.out] at hw
  have HF : Hid (∃ g, Ending.returned (.slice (some ⟨g2, 0, none⟩) 8 8) = .returned (.slice (some ⟨g, 0, none⟩) 8 8) ∧ Wr w2 w.heap.size w2.heap.size (some ⟨g, 0, none⟩) 8 Z ∧ Below w.heap.size w w2) := ⟨g2, rfl, hw.wide bb1.size (Nat.le_refl _) (Nat.le_refl _), bb1.trans (b2.mono bb1.size)⟩
  have j1 : (8 : Int) ≤ (c2 : Int) := by omega
  clear hm2 wr2 b2 hw bb1 key1 kt1 r1 HM
  go_wp2_with fail
  go_ret
  exact HF.out

set_option maxHeartbeats 2000000 in
theorem headBytes_any (sd sq : Int) (w : World) (hsd : 0 ≤ sd ∧ sd ≤ 255) (hsq : 0 ≤ sq ∧ sq ≤ 9999) :
    Calls Tryd.prog 40 #[.int .i64 sd, .int .i64 sq] w (Made w (headL sd sq)) := by
  have hH : Hid (headL sd sq = [sd] ++ digs sq 4) := rfl
  have hl := headL_len sd sq
  have e1 : digs sd 1 = [sd] := by
    simp [digs, sh]
    omega
  have HB := Lib.hid (headL_byte sd sq hsd)
  generalize headL sd sq = Z at *
  go_enter Tryd.func40, Tryd.ntmps40
  go_wp2_with fail
  refine (putWord_any sd 1 w hsd.1 (by omega) (by omega)).mono ?_
  rintro e w1 ⟨g1, rfl, wr1, b1⟩
  rw [e1] at wr1
  go_wp2_with fail
  refine (putWord_any sq 4 w1 hsq.1 (by omega) (by omega)).mono ?_
  rintro e w2 ⟨g2, rfl, wr2, b2⟩
  have r1 := (wr1.1.keep (Keep.of_below b2 0 0) (by omega)).rd0
  have r2 := wr2.1.rd0
  have bb2 := b1.trans (b2.mono b1.size)
  generalize digs sq 4 = dg at *
  have T0 := Two.new w2 22 1 4 r1 r2
  have bA := (Below.refl w2.heap.size w2).alloc (Nat.le_refl _) (.cells #[.slice (some ⟨g1, 0, none⟩) 1 1, .slice (some ⟨g2, 0, none⟩) 4 4] 22)
  have hcon := concat_any w2.heap.size 2 _ _ _ 1 1 4 4 [sd] dg _ T0 (fun h => by cases h) (fun h => by cases h) (by omega) (by omega)
  rw [← hH.out] at hcon
  have HC := Lib.hid hcon
  clear hcon T0 wr1 wr2 r1 r2 b1 b2
  go_wp2_with fail
  refine HC.out.mono ?_
  intro e w3 hm3
  obtain ⟨g3, c3, rfl, hc3, wr3, b3⟩ := hm3.at_ hl
  have b23 := bA.trans (b3.mono (by simp))
  have HF : Hid (Made w Z (.returned (.slice (some ⟨g3, 0, none⟩) 5 c3)) w3) := by
    refine ⟨g3, c3, ret_slice hl.symm, by omega, ?_, bb2.trans (b23.mono bb2.size)⟩
    rw [hl]
    exact wr3.wide (by have := bb2.size; have := bA.size; omega) (Nat.le_refl _) (Nat.le_refl _)
  clear hm3 wr3 b3 b23 bb2 bA HC
  go_wp2_with fail
  go_ret
  exact HF.out

set_option maxHeartbeats 2000000 in
theorem implHide_any (A B D : Option Addr) (nk ck nh ch n c hk hb hd : Nat) (ks hs ds : List Int) (w : World) (hkey : Rd w 0 hk A nk ks) (hhead : Rd w 0 hb B nh hs) (hdata : Rd w 0 hd D n ds) (hB : B = none → ch = 0) (hkt : Kt w) :
    Calls Tryd.prog 17 #[.slice A nk ck, .slice B nh ch, .slice D n c] w (BAns w (hideCode nk nh n) (ansOf (hideCode nk nh n) (hideL ks hs ds))) := by
  have hi1 := hkey.int
  have hi2 := hhead.int
  have hi3 := hdata.int
  by_cases h1 : nk = 32
  · by_cases h2 : nh = 5
    · by_cases h3 : 120 < n
      · have e : hideCode nk nh n = 2 := by simp [hideCode, h1, h2, h3]
        rw [e, ansOf_bad (by omega)]
        have h1' : (nk : Int) = 32 := by omega
        have h2' : (nh : Int) = 5 := by omega
        clear h1 h2 e
        go_enter Tryd.func17, Tryd.ntmps17
        go_wp2_with fail
        go_returns
        exact BAns.fault (by go_grown)
      · have e : hideCode nk nh n = 0 := by simp [hideCode, h1, h2, h3]
        rw [e, ansOf_zero]
        have hzl := hideL_len ks hs ds
        rw [hdata.len] at hzl
        have ka := (Keep.refl 0 0 w).alloc (.cells #[.int .i64 0, .slice none 0 0] 27)
        have q1 := hkey.keep ka (by omega)
        have q2 := hhead.keep ka (by omega)
        have q3 := hdata.keep ka (by omega)
        have q4 := hkt.keep ka (by omega)
        have hc := fun (w' : World) (q1 : Rd w' 0 hk A nk ks) (q2 : Rd w' 0 hb B nh hs) (q3 : Rd w' 0 hd D n ds) (q4 : Kt w') => hideBytes_any A B D nk ck nh ch n c hk hb hd ks hs ds w' q1 q2 q3 (by omega) (by omega) (by omega) (by omega) q4
        generalize hideL ks hs ds = Z at *
        have HC := Lib.hid hc
        have HZL := Lib.hid hzl
        have h1' : (nk : Int) = 32 := by omega
        have h2' : (nh : Int) = 5 := by omega
        clear hc hzl ka h1 h2 e
        go_enter Tryd.func17, Tryd.ntmps17
        go_wp2_with fail
        refine (HC.out _ q1 q2 q3 q4).mono ?_
        intro e w1 hm1
        obtain ⟨g, cap, rfl, hcap, hw1, hb1⟩ := hm1.at_ HZL.out
        obtain ⟨d0, d1, f0, f1, hb, hz⟩ := res_cells hb1
        obtain ⟨e0, e1⟩ := two_cells d0 d1 (.int .i64 0) (.slice (some ⟨g, 0, none⟩) n cap)
        obtain ⟨r2, hb2⟩ := res_done hb hz (.int .i64 0) (.slice (some ⟨g, 0, none⟩) n cap) hw1 (by simp)
        have HR : Hid (BAns w 0 Z (.returned (.agg #[.int .i64 0, .slice (some ⟨g, 0, none⟩) n cap])) _) := BAns.of_len HZL.out hcap r2 hb2
        clear hm1 hb1 hw1 hb r2 hb2 hcap
        go_wp2_with fail
        exact bodyPost_ret (v := .agg #[.int .i64 0, .slice (some ⟨g, 0, none⟩) n cap]) (by simp [results, Tryd.results17, go_sem, e0, e1]) rfl HR.out
    · have e : hideCode nk nh n = 3 := by simp [hideCode, h2]
      rw [e, ansOf_bad (by omega)]
      have h1' : (nk : Int) = 32 := by omega
      have h2' : ¬ (nh : Int) = 5 := by omega
      clear h1 h2 e
      go_enter Tryd.func17, Tryd.ntmps17
      go_wp2_with fail
      go_returns
      exact BAns.fault (by go_grown)
  · have e : hideCode nk nh n = 3 := by simp [hideCode, h1]
    rw [e, ansOf_bad (by omega)]
    have h1' : ¬ (nk : Int) = 32 := by omega
    clear h1 e
    go_enter Tryd.func17, Tryd.ntmps17
    go_wp2_with fail
    go_returns
    exact BAns.fault (by go_grown)

set_option maxHeartbeats 2000000 in
theorem implTag_any (A D : Option Addr) (nk ck n c hk hd : Nat) (ks ds : List Int) (w : World) (hkey : Rd w 0 hk A nk ks) (hdata : Rd w 0 hd D n ds) (hD : D = none → c = 0) (hkt : Kt w) :
    Calls Tryd.prog 19 #[.slice A nk ck, .slice D n c] w (BAns w (tagCode nk n) (ansOf (tagCode nk n) (tagL ks ds))) := by
  have hi1 := hkey.int
  have hi3 := hdata.int
  by_cases h1 : nk = 32
  · by_cases h3 : 300 < n
    · have e : tagCode nk n = 2 := by simp [tagCode, h1, h3]
      rw [e, ansOf_bad (by omega)]
      have h1' : (nk : Int) = 32 := by omega
      clear h1 e
      go_enter Tryd.func19, Tryd.ntmps19
      go_wp2_with fail
      go_returns
      exact BAns.fault (by go_grown)
    · have e : tagCode nk n = 0 := by simp [tagCode, h1, h3]
      rw [e, ansOf_zero]
      have hzl := tagL_len ks ds
      have ka := (Keep.refl 0 0 w).alloc (.cells #[.int .i64 0, .slice none 0 0] 27)
      have q1 := hkey.keep ka (by omega)
      have q3 := hdata.keep ka (by omega)
      have q4 := hkt.keep ka (by omega)
      have hc := fun (w' : World) (q1 : Rd w' 0 hk A nk ks) (q3 : Rd w' 0 hd D n ds) (q4 : Kt w') => tagBytes_any A D nk ck n c hk hd ks ds w' q1 q3 (by omega) (by omega) hD q4
      generalize tagL ks ds = Z at *
      have HC := Lib.hid hc
      have HZL := Lib.hid hzl
      have h1' : (nk : Int) = 32 := by omega
      clear hc hzl ka h1 e
      go_enter Tryd.func19, Tryd.ntmps19
      go_wp2_with fail
      refine (HC.out _ q1 q3 q4).mono ?_
      rintro e w1 ⟨g, rfl, hw1, hb1⟩
      obtain ⟨d0, d1, f0, f1, hb, hz⟩ := res_cells hb1
      obtain ⟨e0, e1⟩ := two_cells d0 d1 (.int .i64 0) (.slice (some ⟨g, 0, none⟩) 8 8)
      obtain ⟨r2, hb2⟩ := res_done hb hz (.int .i64 0) (.slice (some ⟨g, 0, none⟩) 8 8) hw1 (by simp)
      have HR : Hid (BAns w 0 Z (.returned (.agg #[.int .i64 0, .slice (some ⟨g, 0, none⟩) 8 8])) _) := BAns.of_len HZL.out (Nat.le_refl _) r2 hb2
      clear hb1 hw1 hb r2 hb2
      go_wp2_with fail
      exact bodyPost_ret (v := .agg #[.int .i64 0, .slice (some ⟨g, 0, none⟩) 8 8]) (by simp [results, Tryd.results19, go_sem, e0, e1]) rfl HR.out
  · have e : tagCode nk n = 3 := by simp [tagCode, h1]
    rw [e, ansOf_bad (by omega)]
    have h1' : ¬ (nk : Int) = 32 := by omega
    clear h1 e
    go_enter Tryd.func19, Tryd.ntmps19
    go_wp2_with fail
    go_returns
    exact BAns.fault (by go_grown)

end Go.Proofs.YtpnpjngaenlciaaDoor
