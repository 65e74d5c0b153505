/-
  The model's HideBytes, TagOf, SealPacket, HeadOf, OpenPacket.
-/
import Derived.Test.YtpnpjngaenlciaaDoorS1
import Derived.Test.YtpnpjngaenlciaaDoorPut2
import Derived.Test.YtpnpjngaenlciaaDoorLwS
import Derived.Deep.RegionHeld3
namespace Go.Proofs.YtpnpjngaenlciaaDoor
open Go.RowKit
set_option linter.unusedVariables false
set_option maxRecDepth 100000

/-- The bytes of an answer: none beside a code. -/
def ansOf (c : Int) (zs : List Int) : List Int := if c = 0 then zs else []
theorem ansOf_zero (zs : List Int) : ansOf 0 zs = zs := rfl
theorem ansOf_bad {c : Int} (h : c ≠ 0) (zs : List Int) : ansOf c zs = [] := if_neg h
theorem ansOf_len (c : Int) (zs : List Int) : (ansOf c zs).length ≤ zs.length := by unfold ansOf; split <;> simp
def hideCode (nk nh n : Nat) : Int := if nk ≠ 32 ∨ nh ≠ 5 then 3 else if 120 < n then 2 else 0
def tagCode (nk n : Nat) : Int := if nk ≠ 32 then 3 else if 300 < n then 2 else 0
def sideOk (sd : Int) : Prop := sd = 0 ∨ sd = 1
instance (sd : Int) : Decidable (sideOk sd) := by unfold sideOk; infer_instance
def sealCode (nk n : Nat) (sd sq : Int) : Int := if nk ≠ 32 ∨ ¬ sideOk sd ∨ ¬ (0 ≤ sq ∧ sq ≤ 9999) then 3 else if 120 < n then 2 else 0
/-- What a packet's head says: the code, the side, the number. -/
def hdSide (ps : List Int) : Int := ps.getD 0 0
def hdSeq (ps : List Int) : Int := val (part ps 1 4)
def headCode (ps : List Int) : Int := if ps.length < 13 ∨ 133 < ps.length then 2 else if ¬ sideOk (hdSide ps) ∨ 9999 < hdSeq ps then 5 else 0
def bodyOf (ps : List Int) : List Int := ps.take (ps.length - 8)
def tagOf (ps : List Int) : List Int := ps.drop (ps.length - 8)
def openCode (nk : Nat) (ks ps : List Int) : Int := if nk ≠ 32 then 3 else if headCode ps ≠ 0 then headCode ps else if tagL ks (bodyOf ps) ≠ tagOf ps then 6 else 0
def openL (ks ps : List Int) : List Int := hideL ks (ps.take 5) (part ps 5 (ps.length - 13))
def zeroOr (c : Int) (x : Int) : Int := if c = 0 then x else 0

/-- An answer with a code, a side, a number and bytes of its own. -/
def PAns (w : World) (p sd sq : Int) (zs : List Int) (e : Ending) (w' : World) : Prop :=
  ∃ G cap, e = .returned (.agg #[.int .i64 p, .int .i64 sd, .int .i64 sq, .slice G zs.length cap]) ∧ zs.length ≤ cap ∧ Wr w' w.heap.size w'.heap.size G zs.length zs ∧ Below w.heap.size w w'
theorem PAns.fault {w w' : World} {p sd sq : Int} (h : Below w.heap.size w w') : PAns w p sd sq [] (.returned (.agg #[.int .i64 p, .int .i64 sd, .int .i64 sq, .slice none 0 0])) w' :=
  ⟨none, 0, rfl, Nat.le_refl _, Wr.empty_top _ none, h⟩
theorem pans_at {P : Program} {f : FuncId} {args : Array Value} {w : World} {p p' sd sd' sq sq' : Int} {zs zs' : List Int} (h : Calls P f args w (PAns w p sd sq zs)) (hp : p = p') (hs : sd = sd') (hq : sq = sq') (hz : zs = zs') : Calls P f args w (PAns w p' sd' sq' zs') := by
  subst hp hs hq hz; exact h

set_option maxHeartbeats 400000 in
theorem l3Key_any (A : Option Addr) (n c : Nat) (w : World) (r : Bool) (hr : decide (n = 32) = r) :
    Calls Tryd.prog 47 #[.slice A n c] w fun e w' => e = .returned (.bool r) ∧ w = w' := by
  subst hr
  go_enter Tryd.func47, Tryd.ntmps47
  go_wp2_with fail
  go_ret
  exact ⟨ret_bool (by rw [Bool.eq_iff_iff]; simp; omega), rfl⟩
set_option maxHeartbeats 400000 in
theorem l3Side_any (sd : Int) (w : World) (r : Bool) (hr : decide (sideOk sd) = r) :
    Calls Tryd.prog 53 #[.int .i64 sd] w fun e w' => e = .returned (.bool r) ∧ w = w' := by
  subst hr
  by_cases h0 : sd = 0
  · subst h0
    go_enter Tryd.func53, Tryd.ntmps53
    go_wp2_with fail
    go_ret
    exact ⟨ret_bool (by simp [sideOk]), rfl⟩
  · go_enter Tryd.func53, Tryd.ntmps53
    go_wp2_with fail
    go_ret
    exact ⟨ret_bool (by rw [Bool.eq_iff_iff]; simp [sideOk, h0]), rfl⟩

theorem BAns.of_len {w w' : World} {p : Int} {zs : List Int} {n g cap : Nat} (hl : zs.length = n) (hc : n ≤ cap) (h : Wr w' w.heap.size w'.heap.size (some ⟨g, 0, none⟩) n zs) (hb : Below w.heap.size w w') : BAns w p zs (.returned (.agg #[.int .i64 p, .slice (some ⟨g, 0, none⟩) n cap])) w' := by
  subst hl
  exact ⟨_, _, rfl, hc, h, hb⟩

set_option maxHeartbeats 1000000 in
theorem specHide_any (A B D : Option Addr) (nk ck nh ch n c hk hb hd : Nat) (ks hs ds : List Int) (w : World) (hkey : Rd w 0 hk A nk ks) (hhead : Rd w 0 hb B nh hs) (hdata : Rd w 0 hd D n ds) (hB : B = none → ch = 0) :
    Calls Tryd.prog 24 #[.slice A nk ck, .slice B nh ch, .slice D n c] w (BAns w (hideCode nk nh n) (ansOf (hideCode nk nh n) (hideL ks hs ds))) := by
  have hi1 := hkey.int
  have hi2 := hhead.int
  have hi3 := hdata.int
  by_cases h1 : nk = 32
  · by_cases h2 : nh = 5
    · by_cases h3 : 120 < n
      · have e : hideCode nk nh n = 2 := by simp [hideCode, h1, h2, h3]
        rw [e, ansOf_bad (by omega)]
        have H1 := Lib.hid h1
        have h2' : (nh : Int) = 5 := by omega
        clear h1 h2 e
        go_enter Tryd.func24, Tryd.ntmps24
        go_wp2_with fail
        refine (l3Key_any A nk ck _ true (decide_eq_true H1.out)).mono ?_
        rintro e w0 ⟨rfl, rfl⟩
        go_wp2_with fail
        go_returns
        exact BAns.fault (by go_grown)
      · have e : hideCode nk nh n = 0 := by simp [hideCode, h1, h2, h3]
        rw [e, ansOf_zero]
        have hzl := hideL_len ks hs ds
        rw [hdata.len] at hzl
        have ka := (Keep.refl 0 0 w).alloc (.cells #[.int .i64 0, .slice none 0 0] 27)
        have q1 := hkey.keep ka (by omega)
        have q2 := hhead.keep ka (by omega)
        have q3 := hdata.keep ka (by omega)
        have hc := fun (w' : World) (q1 : Rd w' 0 hk A nk ks) (q2 : Rd w' 0 hb B nh hs) (q3 : Rd w' 0 hd D n ds) => l3Hide_any A B D nk ck nh ch n c hk hb hd ks hs ds w' q1 q2 q3 hB (by omega) (by omega)
        generalize hideL ks hs ds = Z at *
        have HC := Lib.hid hc
        have HZL := Lib.hid hzl
        have h2' : (nh : Int) = 5 := by omega
        have H1 := Lib.hid h1
        clear hc hzl ka h1 h2 e
        go_enter Tryd.func24, Tryd.ntmps24
        go_wp2_with fail
        refine (l3Key_any A nk ck _ true (decide_eq_true H1.out)).mono ?_
        rintro e w0 ⟨rfl, rfl⟩
        go_wp2_with fail
        refine (HC.out _ q1 q2 q3).mono ?_
        intro e w1 hm1
        obtain ⟨g, cap, rfl, hcap, hw1, hb1⟩ := hm1.at_ HZL.out
        obtain ⟨d0, d1, f0, f1, hb, hz⟩ := res_cells hb1
        obtain ⟨e0, e1⟩ := two_cells d0 d1 (.int .i64 0) (.slice (some ⟨g, 0, none⟩) n cap)
        obtain ⟨r2, hb2⟩ := res_done hb hz (.int .i64 0) (.slice (some ⟨g, 0, none⟩) n cap) hw1 (by simp)
        have HR : Hid (BAns w 0 Z (.returned (.agg #[.int .i64 0, .slice (some ⟨g, 0, none⟩) n cap])) _) := BAns.of_len HZL.out hcap r2 hb2
        clear hm1 hb1 hw1 hb r2 hb2 hcap
        go_wp2_with fail
        exact bodyPost_ret (v := .agg #[.int .i64 0, .slice (some ⟨g, 0, none⟩) n cap]) (by simp [results, Tryd.results24, go_sem, e0, e1]) rfl HR.out
    · have e : hideCode nk nh n = 3 := by simp [hideCode, h2]
      rw [e, ansOf_bad (by omega)]
      have h2' : ¬ (nh : Int) = 5 := by omega
      have H1 := Lib.hid h1
      clear h1 e
      go_enter Tryd.func24, Tryd.ntmps24
      go_wp2_with fail
      refine (l3Key_any A nk ck _ true (decide_eq_true H1.out)).mono ?_
      rintro e w0 ⟨rfl, rfl⟩
      go_wp2_with fail
      go_returns
      exact BAns.fault (by go_grown)
  · have e : hideCode nk nh n = 3 := by simp [hideCode, h1]
    rw [e, ansOf_bad (by omega)]
    go_enter Tryd.func24, Tryd.ntmps24
    go_wp2_with fail
    refine (l3Key_any A nk ck _ false (decide_eq_false h1)).mono ?_
    rintro e w0 ⟨rfl, rfl⟩
    go_wp2_with fail
    go_returns
    exact BAns.fault (by go_grown)

set_option maxHeartbeats 1000000 in
theorem specTag_any (A D : Option Addr) (nk ck n c hk hd : Nat) (ks ds : List Int) (w : World) (hkey : Rd w 0 hk A nk ks) (hdata : Rd w 0 hd D n ds) (hD : D = none → c = 0) :
    Calls Tryd.prog 25 #[.slice A nk ck, .slice D n c] w (BAns w (tagCode nk n) (ansOf (tagCode nk n) (tagL ks ds))) := by
  have hi1 := hkey.int
  have hi3 := hdata.int
  by_cases h1 : nk = 32
  · by_cases h3 : 300 < n
    · have e : tagCode nk n = 2 := by simp [tagCode, h1, h3]
      rw [e, ansOf_bad (by omega)]
      have H1 := Lib.hid h1
      clear h1 e
      go_enter Tryd.func25, Tryd.ntmps25
      go_wp2_with fail
      refine (l3Key_any A nk ck _ true (decide_eq_true H1.out)).mono ?_
      rintro e w0 ⟨rfl, rfl⟩
      go_wp2_with fail
      go_returns
      exact BAns.fault (by go_grown)
    · have e : tagCode nk n = 0 := by simp [tagCode, h1, h3]
      rw [e, ansOf_zero]
      have hzl := tagL_len ks ds
      have ka := (Keep.refl 0 0 w).alloc (.cells #[.int .i64 0, .slice none 0 0] 27)
      have q1 := hkey.keep ka (by omega)
      have q3 := hdata.keep ka (by omega)
      have hc := fun (w' : World) (q1 : Rd w' 0 hk A nk ks) (q3 : Rd w' 0 hd D n ds) => l3Tag_any A D nk ck n c hk hd ks ds w' q1 q3 (by omega) hD
      generalize tagL ks ds = Z at *
      have HC := Lib.hid hc
      have HZL := Lib.hid hzl
      have H1 := Lib.hid h1
      clear hc hzl ka h1 e
      go_enter Tryd.func25, Tryd.ntmps25
      go_wp2_with fail
      refine (l3Key_any A nk ck _ true (decide_eq_true H1.out)).mono ?_
      rintro e w0 ⟨rfl, rfl⟩
      go_wp2_with fail
      refine (HC.out _ q1 q3).mono ?_
      intro e w1 hm1
      obtain ⟨g, cap, rfl, hcap, hw1, hb1⟩ := hm1.at_ HZL.out
      obtain ⟨d0, d1, f0, f1, hb, hz⟩ := res_cells hb1
      obtain ⟨e0, e1⟩ := two_cells d0 d1 (.int .i64 0) (.slice (some ⟨g, 0, none⟩) 8 cap)
      obtain ⟨r2, hb2⟩ := res_done hb hz (.int .i64 0) (.slice (some ⟨g, 0, none⟩) 8 cap) hw1 (by simp)
      have HR : Hid (BAns w 0 Z (.returned (.agg #[.int .i64 0, .slice (some ⟨g, 0, none⟩) 8 cap])) _) := BAns.of_len HZL.out hcap r2 hb2
      clear hm1 hb1 hw1 hb r2 hb2 hcap
      go_wp2_with fail
      exact bodyPost_ret (v := .agg #[.int .i64 0, .slice (some ⟨g, 0, none⟩) 8 cap]) (by simp [results, Tryd.results25, go_sem, e0, e1]) rfl HR.out
  · have e : tagCode nk n = 3 := by simp [tagCode, h1]
    rw [e, ansOf_bad (by omega)]
    go_enter Tryd.func25, Tryd.ntmps25
    go_wp2_with fail
    refine (l3Key_any A nk ck _ false (decide_eq_false h1)).mono ?_
    rintro e w0 ⟨rfl, rfl⟩
    go_wp2_with fail
    go_returns
    exact BAns.fault (by go_grown)

set_option maxHeartbeats 1000000 in
theorem specSeal_any (A D : Option Addr) (nk ck n c hk hd : Nat) (sd sq : Int) (ks ds : List Int) (w : World) (hkey : Rd w 0 hk A nk ks) (hdata : Rd w 0 hd D n ds) :
    Calls Tryd.prog 21 #[.slice A nk ck, .int .i64 sd, .int .i64 sq, .slice D n c] w (BAns w (sealCode nk n sd sq) (ansOf (sealCode nk n sd sq) (sealL ks sd sq ds))) := by
  have hi1 := hkey.int
  have hi3 := hdata.int
  by_cases h1 : nk = 32
  · by_cases hs : sideOk sd
    · by_cases hq : 0 ≤ sq ∧ sq ≤ 9999
      · by_cases h3 : 120 < n
        · have e : sealCode nk n sd sq = 2 := by simp [sealCode, h1, hs, hq, h3]
          rw [e, ansOf_bad (by omega)]
          have H1 := Lib.hid h1
          clear h1 e
          go_enter Tryd.func21, Tryd.ntmps21
          go_wp2_with fail
          refine (l3Key_any A nk ck _ true (decide_eq_true H1.out)).mono ?_
          rintro e w0 ⟨rfl, rfl⟩
          go_wp2_with fail
          refine (l3Side_any sd _ true (by simpa using hs)).mono ?_
          rintro e w0 ⟨rfl, rfl⟩
          go_wp2_with fail
          refine (l1In_any sq 0 9999 _ true (by simpa using hq)).mono ?_
          rintro e w0 ⟨rfl, rfl⟩
          go_wp2_with fail
          go_returns
          exact BAns.fault (by go_grown)
        · have e : sealCode nk n sd sq = 0 := by simp [sealCode, h1, hs, hq, h3]
          rw [e, ansOf_zero]
          have hzl := sealL_len ks sd sq ds
          rw [hdata.len] at hzl
          have ka := (Keep.refl 0 0 w).alloc (.cells #[.int .i64 0, .slice none 0 0] 27)
          have q1 := hkey.keep ka (by omega)
          have q3 := hdata.keep ka (by omega)
          have hc := fun (w' : World) (q1 : Rd w' 0 hk A nk ks) (q3 : Rd w' 0 hd D n ds) => l3Seal_any A D nk ck n c hk hd sd sq ks ds w' q1 q3 (by unfold sideOk at hs; omega) hq (by omega)
          generalize sealL ks sd sq ds = Z at *
          have HC := Lib.hid hc
          have HZL := Lib.hid hzl
          have H1 := Lib.hid h1
          clear hc hzl ka h1 e
          go_enter Tryd.func21, Tryd.ntmps21
          go_wp2_with fail
          refine (l3Key_any A nk ck _ true (decide_eq_true H1.out)).mono ?_
          rintro e w0 ⟨rfl, rfl⟩
          go_wp2_with fail
          refine (l3Side_any sd _ true (by simpa using hs)).mono ?_
          rintro e w0 ⟨rfl, rfl⟩
          go_wp2_with fail
          refine (l1In_any sq 0 9999 _ true (by simpa using hq)).mono ?_
          rintro e w0 ⟨rfl, rfl⟩
          go_wp2_with fail
          refine (HC.out _ q1 q3).mono ?_
          intro e w1 hm1
          obtain ⟨g, cap, rfl, hcap, hw1, hb1⟩ := hm1.at_ HZL.out
          obtain ⟨d0, d1, f0, f1, hb, hz⟩ := res_cells hb1
          obtain ⟨e0, e1⟩ := two_cells d0 d1 (.int .i64 0) (.slice (some ⟨g, 0, none⟩) (n + 13) cap)
          obtain ⟨r2, hb2⟩ := res_done hb hz (.int .i64 0) (.slice (some ⟨g, 0, none⟩) (n + 13) cap) hw1 (by simp)
          have HR : Hid (BAns w 0 Z (.returned (.agg #[.int .i64 0, .slice (some ⟨g, 0, none⟩) (n + 13) cap])) _) := BAns.of_len HZL.out hcap r2 hb2
          clear hm1 hb1 hw1 hb r2 hb2 hcap
          go_wp2_with fail
          exact bodyPost_ret (v := .agg #[.int .i64 0, .slice (some ⟨g, 0, none⟩) (n + 13) cap]) (by simp [results, Tryd.results21, go_sem, e0, e1]) rfl HR.out
      · have e : sealCode nk n sd sq = 3 := by unfold sealCode; rw [if_pos (Or.inr (Or.inr hq))]
        rw [e, ansOf_bad (by omega)]
        have H1 := Lib.hid h1
        clear h1 e
        go_enter Tryd.func21, Tryd.ntmps21
        go_wp2_with fail
        refine (l3Key_any A nk ck _ true (decide_eq_true H1.out)).mono ?_
        rintro e w0 ⟨rfl, rfl⟩
        go_wp2_with fail
        refine (l3Side_any sd _ true (by simpa using hs)).mono ?_
        rintro e w0 ⟨rfl, rfl⟩
        go_wp2_with fail
        refine (l1In_any sq 0 9999 _ false (by simpa using hq)).mono ?_
        rintro e w0 ⟨rfl, rfl⟩
        go_wp2_with fail
        go_returns
        exact BAns.fault (by go_grown)
    · have e : sealCode nk n sd sq = 3 := by unfold sealCode; rw [if_pos (Or.inr (Or.inl hs))]
      rw [e, ansOf_bad (by omega)]
      have H1 := Lib.hid h1
      clear h1 e
      go_enter Tryd.func21, Tryd.ntmps21
      go_wp2_with fail
      refine (l3Key_any A nk ck _ true (decide_eq_true H1.out)).mono ?_
      rintro e w0 ⟨rfl, rfl⟩
      go_wp2_with fail
      refine (l3Side_any sd _ false (by simpa using hs)).mono ?_
      rintro e w0 ⟨rfl, rfl⟩
      go_wp2_with fail
      go_returns
      exact BAns.fault (by go_grown)
  · have e : sealCode nk n sd sq = 3 := by unfold sealCode; rw [if_pos (Or.inl h1)]
    rw [e, ansOf_bad (by omega)]
    go_enter Tryd.func21, Tryd.ntmps21
    go_wp2_with fail
    refine (l3Key_any A nk ck _ false (decide_eq_false h1)).mono ?_
    rintro e w0 ⟨rfl, rfl⟩
    go_wp2_with fail
    go_returns
    exact BAns.fault (by go_grown)

end Go.Proofs.YtpnpjngaenlciaaDoor
