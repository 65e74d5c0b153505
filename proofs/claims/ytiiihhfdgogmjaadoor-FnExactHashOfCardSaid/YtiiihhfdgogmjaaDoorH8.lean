/-
  impl.HashOf, impl.MacOf.
-/
import Derived.Test.YtiiihhfdgogmjaaDoorI6
namespace Go.Proofs.YtiiihhfdgogmjaaDoor
open Go.RowKit
set_option linter.unusedVariables false

set_option maxHeartbeats 1000000 in
theorem implHash_any (A : Option Addr) (n c hi : Nat) (xs : List Int) (w : World) (h : Rd w 0 hi A n xs) (hA : A = none → c = 0) (hkt : Kt w) :
    Calls Tryd.prog 8 #[.slice A n c] w (BAns w (manyCode (300 < n)) (manyAns (300 < n) (hashL xs))) := by
  have hint := h.int
  by_cases hb : 300 < n
  · unfold manyCode manyAns
    rw [if_pos hb, if_pos hb]
    go_enter Tryd.func8, Tryd.ntmps8
    go_wp2_with fail
    go_returns
    exact BAns.fault (by go_grown)
  · unfold manyCode manyAns
    rw [if_neg hb, if_neg hb]
    have ka := (Keep.refl 0 0 w).alloc (.cells #[.int .i64 0, .slice none 0 0] 26)
    have r1 := h.keep ka (by omega)
    have kt1 := hkt.keep ka (by omega)
    go_enter Tryd.func8, Tryd.ntmps8
    go_wp2_with fail
    refine (hashBytes_any A n c hi xs _ r1 (by omega) kt1).mono ?_
    rintro e w1 ⟨g, cap, rfl, hcap, hw1, hb1⟩
    generalize hashL xs = zs at *
    obtain ⟨d0, d1, f0, f1, hb, hz⟩ := res_cells hb1
    obtain ⟨e0, e1⟩ := two_cells d0 d1 (.int .i64 0) (.slice (some ⟨g, 0, none⟩) zs.length cap)
    obtain ⟨r2, hb2⟩ := res_done hb hz (.int .i64 0) (.slice (some ⟨g, 0, none⟩) zs.length cap) hw1 (by simp)
    have HR : Hid (BAns w 0 zs (.returned (.agg #[.int .i64 0, .slice (some ⟨g, 0, none⟩) zs.length cap])) _) := ⟨_, _, rfl, hcap, r2, hb2⟩
    clear hb1 hw1 hb r2 hb2 hcap
    go_wp2_with fail
    exact bodyPost_ret (v := .agg #[.int .i64 0, .slice (some ⟨g, 0, none⟩) zs.length cap]) (by simp [results, Tryd.results8, go_sem, e0, e1]) rfl HR.out

set_option maxHeartbeats 1000000 in
theorem implMac_at (A D : Option Addr) (nk ck n c hk hi : Nat) (ks ds : List Int) (w : World) (hkey : Rd w 0 hk A nk ks) (h : Rd w 0 hi D n ds) (hA : A = none → ck = 0) (hD : D = none → c = 0) (hkt : Kt w) :
    Calls Tryd.prog 11 #[.slice A nk ck, .slice D n c] w (BAns w (manyCode (300 < n ∨ 64 < nk)) (manyAns (300 < n ∨ 64 < nk) (macL ks ds))) := by
  have hint := h.int
  have hint' := hkey.int
  by_cases hb : 300 < n ∨ 64 < nk
  · unfold manyCode manyAns
    rw [if_pos hb, if_pos hb]
    by_cases hb1 : 300 < n
    · go_enter Tryd.func11, Tryd.ntmps11
      go_wp2_with fail
      go_returns
      exact BAns.fault (by go_grown)
    · have hb2 : 64 < nk := by omega
      go_enter Tryd.func11, Tryd.ntmps11
      go_wp2_with fail
      go_returns
      exact BAns.fault (by go_grown)
  · unfold manyCode manyAns
    rw [if_neg hb, if_neg hb]
    have n1 : ¬ 300 < n := by omega
    have n2 : ¬ 64 < nk := by omega
    clear hb
    have ka := (Keep.refl 0 0 w).alloc (.cells #[.int .i64 0, .slice none 0 0] 26)
    have r1 := h.keep ka (by omega)
    have rk := hkey.keep ka (by omega)
    have kt1 := hkt.keep ka (by omega)
    have hmac := fun w' (rk' : Rd w' 0 hk A nk ks) (r1' : Rd w' 0 hi D n ds) (kt' : Kt w') => macBytes_any A D nk ck n c hk hi ks ds w' rk' r1' (by omega) (by omega) hD kt'
    generalize macL ks ds = zs at *
    have HMAC := Lib.hid hmac
    clear hmac hD
    go_enter Tryd.func11, Tryd.ntmps11
    go_wp2_with fail
    refine (HMAC.out _ rk r1 kt1).mono ?_
    rintro e w1 ⟨g, cap, rfl, hcap, hw1, hb1⟩
    obtain ⟨d0, d1, f0, f1, hb, hz⟩ := res_cells hb1
    obtain ⟨e0, e1⟩ := two_cells d0 d1 (.int .i64 0) (.slice (some ⟨g, 0, none⟩) zs.length cap)
    obtain ⟨r2, hb2⟩ := res_done hb hz (.int .i64 0) (.slice (some ⟨g, 0, none⟩) zs.length cap) hw1 (by simp)
    have HR : Hid (BAns w 0 zs (.returned (.agg #[.int .i64 0, .slice (some ⟨g, 0, none⟩) zs.length cap])) _) := ⟨_, _, rfl, hcap, r2, hb2⟩
    clear hb1 hw1 hb r2 hb2 hcap
    go_wp2_with fail
    exact bodyPost_ret (v := .agg #[.int .i64 0, .slice (some ⟨g, 0, none⟩) zs.length cap]) (by simp [results, Tryd.results11, go_sem, e0, e1]) rfl HR.out
end Go.Proofs.YtiiihhfdgogmjaaDoor
