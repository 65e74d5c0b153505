/-
  The model's PadMessage, HashOf, MacOf.
-/
import Derived.Test.YtiiihhfdgogmjaaH6
import Derived.Test.YtiiihhfdgogmjaaExB
namespace Go.Proofs.Ytiiihhfdgogmjaa
open Go.RowKit
set_option linter.unusedVariables false

/-- What was asked is too much: code 2, no bytes; else the bytes. -/
def manyCode (b : Prop) [Decidable b] : Int := if b then 2 else 0
def manyAns (b : Prop) [Decidable b] (zs : List Int) : List Int := if b then [] else zs

set_option maxHeartbeats 1000000 in
theorem specPad_any (A : Option Addr) (n c hi : Nat) (xs : List Int) (w : World) (h : Rd w 0 hi A n xs) (hA : A = none → c = 0) :
    Calls Try.prog 31 #[.slice A n c] w (BAns w (manyCode (300 < n)) (manyAns (300 < n) (padL xs))) := by
  have hint := h.int
  by_cases hb : 300 < n
  · unfold manyCode manyAns
    rw [if_pos hb, if_pos hb]
    go_enter Try.func31, Try.ntmps31
    go_wp2_with fail
    go_returns
    exact BAns.fault (by go_grown)
  · unfold manyCode manyAns
    rw [if_neg hb, if_neg hb]
    have hbyte := h.byte
    have r1 := h.keep ((Keep.refl 0 0 w).alloc (.cells #[.int .i64 0, .slice none 0 0] 27)) (by omega)
    have hpl : (padL xs).length ≤ maxLen := by rw [padL_len, h.len]; have := padEnd_le n; unfold maxLen; omega
    have HPL := Lib.hid hpl
    clear hpl
    go_enter Try.func31, Try.ntmps31
    go_wp2_with fail
    refine (l2Pad_any A n c hi xs _ r1 (by omega) hA).mono ?_
    rintro e w1 ⟨g, cap, rfl, hcap, own, hb1⟩
    have hw1 := Wr.of_own own HPL.out (padL_byte xs hbyte)
    obtain ⟨d0, d1, f0, f1, hb, hz⟩ := res_cells hb1
    obtain ⟨e0, e1⟩ := two_cells d0 d1 (.int .i64 0) (.slice (some ⟨g, 0, none⟩) (padL xs).length cap)
    obtain ⟨r2, hb2⟩ := res_done hb hz (.int .i64 0) (.slice (some ⟨g, 0, none⟩) (padL xs).length cap) hw1 (by simp)
    have HR : Hid (BAns w 0 (padL xs) (.returned (.agg #[.int .i64 0, .slice (some ⟨g, 0, none⟩) (padL xs).length cap])) _) := ⟨_, _, rfl, hcap, r2, hb2⟩
    clear hb1 hw1 hb own r2 hb2 hcap
    go_wp2_with fail
    exact bodyPost_ret (v := .agg #[.int .i64 0, .slice (some ⟨g, 0, none⟩) (padL xs).length cap]) (by simp [results, Try.results31, go_sem, e0, e1]) rfl HR.out
end Go.Proofs.Ytiiihhfdgogmjaa
