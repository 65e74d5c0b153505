/-
  The model's PadMessage, HashOf, MacOf.
-/
import Derived.Test.YtiiihhfdgogmjaaDoorH6
import Derived.Test.YtiiihhfdgogmjaaDoorExB
namespace Go.Proofs.YtiiihhfdgogmjaaDoor
open Go.RowKit
set_option linter.unusedVariables false

/-- What was asked is too much: code 2, no bytes; else the bytes. -/
def manyCode (b : Prop) [Decidable b] : Int := if b then 2 else 0
def manyAns (b : Prop) [Decidable b] (zs : List Int) : List Int := if b then [] else zs

set_option maxHeartbeats 1000000 in
theorem specPad_any (A : Option Addr) (n c hi : Nat) (xs : List Int) (w : World) (h : Rd w 0 hi A n xs) (hA : A = none → c = 0) :
    Calls Tryd.prog 14 #[.slice A n c] w (BAns w (manyCode (300 < n)) (manyAns (300 < n) (padL xs))) := by
  have hint := h.int
  by_cases hb : 300 < n
  · unfold manyCode manyAns
    rw [if_pos hb, if_pos hb]
    go_enter Tryd.func14, Tryd.ntmps14
    go_wp2_with fail
    go_returns
    exact BAns.fault (by go_grown)
  · unfold manyCode manyAns
    rw [if_neg hb, if_neg hb]
    have hbyte := h.byte
    have r1 := h.keep ((Keep.refl 0 0 w).alloc (.cells #[.int .i64 0, .slice none 0 0] 26)) (by omega)
    have hpl : (padL xs).length ≤ maxLen := by rw [padL_len, h.len]; have := padEnd_le n; unfold maxLen; omega
    have HPL := Lib.hid hpl
    clear hpl
    go_enter Tryd.func14, Tryd.ntmps14
    go_wp2_with fail
    refine (l2Pad_any A n c hi xs _ r1 (by omega) hA).mono ?_
    rintro e w1 ⟨g, cap, rfl, hcap, own, hb1⟩
    have hw1 := Wr.of_own own HPL.out (padL_byte xs hbyte)
    obtain ⟨d0, d1, f0, f1, hb, hz⟩ := res_cells hb1
    obtain ⟨e0, e1⟩ := two_cells d0 d1 (.int .i64 0) (.slice (some ⟨g, 0, none⟩) (padL xs).length cap)
    obtain ⟨r2, hb2⟩ := res_done hb hz (.int .i64 0) (.slice (some ⟨g, 0, none⟩) (padL xs).length cap) hw1 (by simp)
    have HR : Hid (BAns w 0 (padL xs) (.returned (.agg #[.int .i64 0, .slice (some ⟨g, 0, none⟩) (padL xs).length cap])) _) := ⟨_, _, rfl, hcap, r2, hb2⟩
    clear hb1 hw1 hb own r2 hb2 hcap
    go_wp2_with fail
    exact bodyPost_ret (v := .agg #[.int .i64 0, .slice (some ⟨g, 0, none⟩) (padL xs).length cap]) (by simp [results, Tryd.results14, go_sem, e0, e1]) rfl HR.out
set_option maxHeartbeats 1000000 in
theorem specHash_any (A : Option Addr) (n c hi : Nat) (xs : List Int) (w : World) (h : Rd w 0 hi A n xs) (hA : A = none → c = 0) :
    Calls Tryd.prog 13 #[.slice A n c] w (BAns w (manyCode (300 < n)) (manyAns (300 < n) (hashL xs))) := by
  have hint := h.int
  by_cases hb : 300 < n
  · unfold manyCode manyAns
    rw [if_pos hb, if_pos hb]
    go_enter Tryd.func13, Tryd.ntmps13
    go_wp2_with fail
    go_returns
    exact BAns.fault (by go_grown)
  · unfold manyCode manyAns
    rw [if_neg hb, if_neg hb]
    have r1 := h.keep ((Keep.refl 0 0 w).alloc (.cells #[.int .i64 0, .slice none 0 0] 26)) (by omega)
    have hpl : (hashL xs).length ≤ maxLen := by rw [hashL_len]; unfold maxLen; omega
    have HPL := Lib.hid hpl
    clear hpl
    go_enter Tryd.func13, Tryd.ntmps13
    go_wp2_with fail
    refine (l2Hash_any A n c hi xs _ r1 (by omega) hA).mono ?_
    rintro e w1 ⟨g, cap, rfl, hcap, own, hb1⟩
    have hw1 := Wr.of_own own HPL.out (hashL_byte xs)
    obtain ⟨d0, d1, f0, f1, hb, hz⟩ := res_cells hb1
    obtain ⟨e0, e1⟩ := two_cells d0 d1 (.int .i64 0) (.slice (some ⟨g, 0, none⟩) (hashL xs).length cap)
    obtain ⟨r2, hb2⟩ := res_done hb hz (.int .i64 0) (.slice (some ⟨g, 0, none⟩) (hashL xs).length cap) hw1 (by simp)
    have HR : Hid (BAns w 0 (hashL xs) (.returned (.agg #[.int .i64 0, .slice (some ⟨g, 0, none⟩) (hashL xs).length cap])) _) := ⟨_, _, rfl, hcap, r2, hb2⟩
    clear hb1 hw1 hb own r2 hb2 hcap
    go_wp2_with fail
    exact bodyPost_ret (v := .agg #[.int .i64 0, .slice (some ⟨g, 0, none⟩) (hashL xs).length cap]) (by simp [results, Tryd.results13, go_sem, e0, e1]) rfl HR.out
set_option maxHeartbeats 1000000 in
theorem specMac_any (A D : Option Addr) (nk ck n c hk hi : Nat) (ks ds : List Int) (w : World) (hkey : Rd w 0 hk A nk ks) (h : Rd w 0 hi D n ds) (hD : D = none → c = 0) :
    Calls Tryd.prog 15 #[.slice A nk ck, .slice D n c] w (BAns w (manyCode (300 < n ∨ 64 < nk)) (manyAns (300 < n ∨ 64 < nk) (macL ks ds))) := by
  have hint := h.int
  have hint' := hkey.int
  by_cases hb : 300 < n ∨ 64 < nk
  · unfold manyCode manyAns
    rw [if_pos hb, if_pos hb]
    by_cases hb1 : 300 < n
    · go_enter Tryd.func15, Tryd.ntmps15
      go_wp2_with fail
      go_returns
      exact BAns.fault (by go_grown)
    · have hb2 : 64 < nk := by omega
      go_enter Tryd.func15, Tryd.ntmps15
      go_wp2_with fail
      go_returns
      exact BAns.fault (by go_grown)
  · unfold manyCode manyAns
    rw [if_neg hb, if_neg hb]
    have n1 : ¬ 300 < n := by omega
    have n2 : ¬ 64 < nk := by omega
    clear hb
    have ka := (Keep.refl 0 0 w).alloc (.cells #[.int .i64 0, .slice none 0 0] 26)
    have r1 := h.keep ka (by omega)
    have rk := hkey.keep ka (by omega)
    obtain ⟨zs, hzs⟩ : ∃ zs, macL ks ds = zs := ⟨_, rfl⟩
    have hmb : ∀ x ∈ zs, 0 ≤ x ∧ x ≤ 255 := hzs ▸ macL_byte ks ds
    have hml : zs.length = 32 := hzs ▸ macL_len ks ds
    have hmac := fun w' (rk' : Rd w' 0 hk A nk ks) (r1' : Rd w' 0 hi D n ds) => l2Mac_any A D nk ck n c hk hi ks ds w' rk' r1' (by omega) hD
    rw [hzs]
    rw [hzs] at hmac
    have HMAC := Lib.hid hmac
    have HML := Lib.hid hml
    clear hzs hmac hml hD
    go_enter Tryd.func15, Tryd.ntmps15
    go_wp2_with fail
    refine (HMAC.out _ rk r1).mono ?_
    rintro e w1 ⟨g, cap, rfl, hcap, own, hb1⟩
    have hw1 := Wr.of_own own (by rw [HML.out]; unfold maxLen; omega) hmb
    obtain ⟨d0, d1, f0, f1, hb, hz⟩ := res_cells hb1
    obtain ⟨e0, e1⟩ := two_cells d0 d1 (.int .i64 0) (.slice (some ⟨g, 0, none⟩) zs.length cap)
    obtain ⟨r2, hb2⟩ := res_done hb hz (.int .i64 0) (.slice (some ⟨g, 0, none⟩) zs.length cap) hw1 (by simp)
    have HR : Hid (BAns w 0 zs (.returned (.agg #[.int .i64 0, .slice (some ⟨g, 0, none⟩) zs.length cap])) _) := ⟨_, _, rfl, hcap, r2, hb2⟩
    clear hb1 hw1 hb own r2 hb2 hcap
    go_wp2_with fail
    exact bodyPost_ret (v := .agg #[.int .i64 0, .slice (some ⟨g, 0, none⟩) zs.length cap]) (by simp [results, Tryd.results15, go_sem, e0, e1]) rfl HR.out
theorem specMac_at (A D : Option Addr) (nk ck n c hk hi : Nat) (ks ds : List Int) (w : World) (hkey : Rd w 0 hk A nk ks) (h : Rd w 0 hi D n ds) (hA : A = none → ck = 0) (hD : D = none → c = 0) :
    Calls Tryd.prog 15 #[.slice A nk ck, .slice D n c] w (BAns w (manyCode (300 < n ∨ 64 < nk)) (manyAns (300 < n ∨ 64 < nk) (macL ks ds))) := specMac_any A D nk ck n c hk hi ks ds w hkey h hD
end Go.Proofs.YtiiihhfdgogmjaaDoor
