/-
  Chapter 7: DecodeReply, both sides.
-/
import Derived.Test.YtjdkaaepbkkchaaDoorW15
import Derived.Test.YtjdkaaepbkkchaaDoorVal
namespace Go.Proofs.YtjdkaaepbkkchaaDoor
open Go.RowKit
set_option linter.unusedVariables false
set_option maxRecDepth 100000

/-- Four cells of a result are written. -/
theorem set4 {w : World} {b : Nat} {u0 u1 u2 u3 : Value} (h : BoxL w b [u0, u1, u2, u3]) (v0 v1 v2 v3 : Value) :
    (w.setCell ⟨b, 0, none⟩ v0).cell? ⟨b, 0, none⟩ = some v0 ∧ ((w.setCell ⟨b, 0, none⟩ v0).setCell ⟨b, 1, none⟩ v1).cell? ⟨b, 1, none⟩ = some v1 ∧
    (((w.setCell ⟨b, 0, none⟩ v0).setCell ⟨b, 1, none⟩ v1).setCell ⟨b, 2, none⟩ v2).cell? ⟨b, 2, none⟩ = some v2 ∧
    ((((w.setCell ⟨b, 0, none⟩ v0).setCell ⟨b, 1, none⟩ v1).setCell ⟨b, 2, none⟩ v2).setCell ⟨b, 3, none⟩ v3).cell? ⟨b, 3, none⟩ = some v3 := by
  have h0 := h.set 0 v0 (by simp)
  have h1 := h0.set 1 v1 (by simp)
  have h2 := h1.set 2 v2 (by simp)
  have h3 := h2.set 3 v3 (by simp)
  exact ⟨h0.at_ 0 _ rfl, h1.at_ 1 _ rfl, h2.at_ 2 _ rfl, h3.at_ 3 _ rfl⟩
theorem below4 {w0 w : World} {b : Nat} (h : Below w0.heap.size w0 w) (hb : w0.heap.size ≤ b) (v0 v1 v2 v3 : Value) :
    Below w0.heap.size w0 ((((w.setCell ⟨b, 0, none⟩ v0).setCell ⟨b, 1, none⟩ v1).setCell ⟨b, 2, none⟩ v2).setCell ⟨b, 3, none⟩ v3) :=
  (((h.setCell (p := ⟨b, 0, none⟩) hb _).setCell (p := ⟨b, 1, none⟩) hb _).setCell (p := ⟨b, 2, none⟩) hb _).setCell (p := ⟨b, 3, none⟩) hb _

set_option maxHeartbeats 2000000 in
theorem implDecReply_any (ea : Addr) (A : Option Addr) (n c hi : Nat) (ps : List Int) (w : World) (h : Rd w 0 hi A n ps) (hnc : n ≤ c) (hA : (A = none ∧ c = 0) ∨ ∃ g off, A = some ⟨g, off, none⟩) (ke : Ke ea w) :
    Calls Tryd.prog 14 #[.slice A n c] w fun e w' => e = .returned (decRepV ps) ∧ Below w.heap.size w w' := by
  have bA : Below w.heap.size w (w.alloc (.cells #[.int .i64 0, .int .i64 0, .int .i64 0, .int .i64 0] 40)) := (Below.refl _ _).alloc (Nat.le_refl _) _
  have hr := h.keep (Keep.of_below bA 0 0) (by omega)
  have ke1 := ke.below bA ke.1
  have HX := Lib.hid (BoxL.new w [.int .i64 0, .int .i64 0, .int .i64 0, .int .i64 0] #[.int .i64 0, .int .i64 0, .int .i64 0, .int .i64 0] 40 rfl)
  have HC := Lib.hid (readAllR_any ea A n c hi ps _ hr hnc hA ke1)
  have BA := Lib.hid bA
  clear bA hr ke1 ke h hA
  unfold decRepV
  unfold decRepT at HC
  by_cases hq : isRep ps
  · rw [if_pos hq] at HC ⊢
    generalize rv1 ps = v1 at *
    generalize rv2 ps = v2 at *
    generalize rv3 ps = v3 at *
    clear hq
    go_enter Tryd.func14, Tryd.ntmps14
    go_wp2_with fail
    refine HC.out.mono ?_
    rintro e w1 ⟨rfl, b1⟩
    have x := HX.out.below b1
    have hlt := x.lt
    have hb := BA.out.trans (b1.mono BA.out.size)
    have c0 := x.at_ 0 _ rfl
    have c1 := x.at_ 1 _ rfl
    have c2 := x.at_ 2 _ rfl
    have c3 := x.at_ 3 _ rfl
    have f0 := x.fz 0
    have f1 := x.fz 1
    have f2 := x.fz 2
    have f3 := x.fz 3
    have z := ((((x.set 0 (.int .i64 0) (by simp)).set 1 (.int .i64 v1) (by simp)).set 2 (.int .i64 v2) (by simp)).set 3 (.int .i64 v3) (by simp)).below ((Below.refl _ _).alloc (Nat.le_refl _) (.cells #[.int .i64 v1, .int .i64 v2, .int .i64 v3] 36))
    have e0 := z.at_ 0 _ rfl
    have e1 := z.at_ 1 _ rfl
    have e2 := z.at_ 2 _ rfl
    have e3 := z.at_ 3 _ rfl
    have hb4 := below4 hb (Nat.le_refl _) (.int .i64 0) (.int .i64 v1) (.int .i64 v2) (.int .i64 v3)
    have HF := Lib.hid (hb4.alloc hb4.size (.cells #[.int .i64 v1, .int .i64 v2, .int .i64 v3] 36))
    clear x z hb hb4 b1
    go_wp2_with fail
    exact bodyPost_ret (v := .agg #[.int .i64 0, .int .i64 v1, .int .i64 v2, .int .i64 v3]) (by simp [results, Tryd.results14, go_sem, e0, e1, e2, e3]) rfl ⟨rfl, HF.out⟩
  · rw [if_neg hq] at HC ⊢
    clear hq
    go_enter Tryd.func14, Tryd.ntmps14
    go_wp2_with fail
    refine HC.out.mono ?_
    rintro e w1 ⟨rfl, b1⟩
    have x := HX.out.below b1
    have hlt := x.lt
    have hb := BA.out.trans (b1.mono BA.out.size)
    have c0 := x.at_ 0 _ rfl
    have c1 := x.at_ 1 _ rfl
    have c2 := x.at_ 2 _ rfl
    have c3 := x.at_ 3 _ rfl
    have f0 := x.fz 0
    have f1 := x.fz 1
    have f2 := x.fz 2
    have f3 := x.fz 3
    have z := ((((x.set 0 (.int .i64 5) (by simp)).set 1 (.int .i64 0) (by simp)).set 2 (.int .i64 0) (by simp)).set 3 (.int .i64 0) (by simp)).below ((Below.refl _ _).alloc (Nat.le_refl _) (.cells #[.int .i64 0, .int .i64 0, .int .i64 0] 36))
    have e0 := z.at_ 0 _ rfl
    have e1 := z.at_ 1 _ rfl
    have e2 := z.at_ 2 _ rfl
    have e3 := z.at_ 3 _ rfl
    have hb4 := below4 hb (Nat.le_refl _) (.int .i64 5) (.int .i64 0) (.int .i64 0) (.int .i64 0)
    have HF := Lib.hid (hb4.alloc hb4.size (.cells #[.int .i64 0, .int .i64 0, .int .i64 0] 36))
    clear x z hb hb4 b1
    go_wp2_with fail
    exact bodyPost_ret (v := .agg #[.int .i64 5, .int .i64 0, .int .i64 0, .int .i64 0]) (by simp [results, Tryd.results14, go_sem, e0, e1, e2, e3]) rfl ⟨rfl, HF.out⟩
end Go.Proofs.YtjdkaaepbkkchaaDoor
