/-
  Chapter 7: DecodeReply, the model's side; the walk of FnExactDecodeReply.
-/
import Derived.Test.YtjdkaaepbkkchaaDoorW16
import Derived.Test.YtjdkaaepbkkchaaDoorBase
namespace Go.Proofs.YtjdkaaepbkkchaaDoor
open Go.RowKit
set_option linter.unusedVariables false
set_option maxRecDepth 100000

theorem below_drew' {B : Nat} {w w' : World} (h : Below B w w') : Below B w w'.drew := h.trans ⟨rfl, rfl, rfl, Nat.le_refl _, fun _ _ => rfl⟩
set_option maxHeartbeats 4000000 in
theorem specDecReply_any (A : Option Addr) (n c hi : Nat) (ps : List Int) (w : World) (h : Rd w 0 hi A n ps) (hnc : n ≤ c) :
    Calls Tryd.prog 20 #[.slice A n c] w fun e w' => e = .returned (decRepV ps) ∧ Below w.heap.size w w' := by
  have hl := h.len
  have hint := h.int
  have bA : Below w.heap.size w (w.alloc (.cells #[.int .i64 0, .int .i64 0, .int .i64 0, .int .i64 0] 40)) := (Below.refl _ _).alloc (Nat.le_refl _) _
  have hr := h.keep (Keep.of_below bA 0 0) (by omega)
  have HX := Lib.hid (BoxL.new w [.int .i64 0, .int .i64 0, .int .i64 0, .int .i64 0] #[.int .i64 0, .int .i64 0, .int .i64 0, .int .i64 0] 40 rfl)
  have BA := Lib.hid bA
  unfold decRepV
  by_cases h9 : n = 9
  · have hne : (n : Int) = 9 := by omega
    have hc4 : ¬ c = 4 := by omega
    have hc6 : ¬ c = 6 := by omega
    have i4 : (4 : Int) ≤ (c : Int) := by omega
    have i6 : (6 : Int) ≤ (c : Int) := by omega
    have i9 : (9 : Int) ≤ (c : Int) := by omega
    obtain ⟨b, off, rfl, _⟩ := h.at_ (by omega)
    have bd1 : Below (w.alloc (.cells #[.int .i64 0, .int .i64 0, .int .i64 0, .int .i64 0] 40)).heap.size (w.alloc (.cells #[.int .i64 0, .int .i64 0, .int .i64 0, .int .i64 0] 40)) (w.alloc (.cells #[.int .i64 0, .int .i64 0, .int .i64 0, .int .i64 0] 40)).drew := below_drew' (Below.refl _ _)
    have bd2 : Below (w.alloc (.cells #[.int .i64 0, .int .i64 0, .int .i64 0, .int .i64 0] 40)).heap.size (w.alloc (.cells #[.int .i64 0, .int .i64 0, .int .i64 0, .int .i64 0] 40)) ((w.alloc (.cells #[.int .i64 0, .int .i64 0, .int .i64 0, .int .i64 0] 40)).alloc (.cells #[.int .i64 0, .int .i64 0, .int .i64 0] 36)).drew := below_drew' ((Below.refl _ _).alloc (Nat.le_refl _) _)
    have H1 : Hid (∀ w', Below (w.alloc (.cells #[.int .i64 0, .int .i64 0, .int .i64 0, .int .i64 0] 40)).heap.size (w.alloc (.cells #[.int .i64 0, .int .i64 0, .int .i64 0, .int .i64 0] 40)) w' → Calls Tryd.prog 49 #[.slice (some ⟨b, off, none⟩) 4 c] w' fun e w1 => e = .returned (.int .i64 (rv1 ps)) ∧ w' = w1) :=
      fun w' k => readHigh_any _ 4 c 0 hi (ps.take 4) w' ((hr.keep (Keep.of_below k 0 0) (by omega)).take_ 4 (by omega)) (by omega)
    have H2 : Hid (∀ w', Below (w.alloc (.cells #[.int .i64 0, .int .i64 0, .int .i64 0, .int .i64 0] 40)).heap.size (w.alloc (.cells #[.int .i64 0, .int .i64 0, .int .i64 0, .int .i64 0] 40)) w' → Calls Tryd.prog 49 #[.slice (some ⟨b, off + 4, none⟩) 2 (c - 4)] w' fun e w1 => e = .returned (.int .i64 (rv2 ps)) ∧ w' = w1) :=
      fun w' k => readHigh_any _ 2 _ 0 hi (part ps 4 2) w' ((hr.keep (Keep.of_below k 0 0) (by omega)).part_ 4 2 (by omega)) (by omega)
    have H3 : Hid (∀ w', Below (w.alloc (.cells #[.int .i64 0, .int .i64 0, .int .i64 0, .int .i64 0] 40)).heap.size (w.alloc (.cells #[.int .i64 0, .int .i64 0, .int .i64 0, .int .i64 0] 40)) w' → Calls Tryd.prog 49 #[.slice (some ⟨b, off + 6, none⟩) 3 (c - 6)] w' fun e w1 => e = .returned (.int .i64 (rv3 ps)) ∧ w' = w1) :=
      fun w' k => readHigh_any _ 3 _ 0 hi (part ps 6 3) w' ((hr.keep (Keep.of_below k 0 0) (by omega)).part_ 6 3 (by omega)) (by omega)
    have HF := Lib.hid (fun w' => specReplyFault_any (rv1 ps) (rv2 ps) (rv3 ps) w')
    have HQ : Hid (isRep ps ↔ replyCode (rv1 ps) (rv2 ps) (rv3 ps) = 0) := ⟨fun h => h.2, fun h => ⟨by omega, h⟩⟩
    generalize replyCode (rv1 ps) (rv2 ps) (rv3 ps) = rc at *
    generalize rv1 ps = v1 at *
    generalize rv2 ps = v2 at *
    generalize rv3 ps = v3 at *
    have bd3 : Below (w.alloc (.cells #[.int .i64 0, .int .i64 0, .int .i64 0, .int .i64 0] 40)).heap.size (w.alloc (.cells #[.int .i64 0, .int .i64 0, .int .i64 0, .int .i64 0] 40)) ((w.alloc (.cells #[.int .i64 0, .int .i64 0, .int .i64 0, .int .i64 0] 40)).alloc (.cells #[.int .i64 v1, .int .i64 v2, .int .i64 v3] 36)).drew := below_drew' ((Below.refl _ _).alloc (Nat.le_refl _) _)
    have X := Lib.hid (HX.out.below bd3)
    have y := (BoxL.new (w.alloc (.cells #[.int .i64 0, .int .i64 0, .int .i64 0, .int .i64 0] 40)) [.int .i64 v1, .int .i64 v2, .int .i64 v3] #[.int .i64 v1, .int .i64 v2, .int .i64 v3] 36 rfl).below (below_drew' (Below.refl _ _))
    simp only [World.size_alloc] at y
    have Y := Lib.hid y
    have BZ := Lib.hid (bA.trans (bd3.mono bA.size))
    clear bd3 y
    have HD : Hid ((if isRep ps then (.agg #[.int .i64 0, .int .i64 v1, .int .i64 v2, .int .i64 v3] : Value) else .agg #[.int .i64 5, .int .i64 0, .int .i64 0, .int .i64 0]) = if rc = 0 then .agg #[.int .i64 0, .int .i64 v1, .int .i64 v2, .int .i64 v3] else .agg #[.int .i64 5, .int .i64 0, .int .i64 0, .int .i64 0]) := by
      show _ = _
      by_cases hq : rc = 0
      · rw [if_pos hq, if_pos (HQ.out.2 hq)]
      · rw [if_neg hq, if_neg (fun e => hq (HQ.out.1 e))]
    rw [HD.out]
    obtain ⟨D, hD⟩ : ∃ D, (if rc = 0 then (.agg #[.int .i64 0, .int .i64 v1, .int .i64 v2, .int .i64 v3] : Value) else .agg #[.int .i64 5, .int .i64 0, .int .i64 0, .int .i64 0]) = D := ⟨_, rfl⟩
    have HV0 := Lib.hid (fun (e : rc = 0) => (by rw [← hD, if_pos e] : Ending.returned (.agg #[.int .i64 0, .int .i64 v1, .int .i64 v2, .int .i64 v3]) = .returned D))
    have HV1 := Lib.hid (fun (e : ¬ rc = 0) => (by rw [← hD, if_neg e] : Ending.returned (.agg #[.int .i64 5, .int .i64 0, .int .i64 0, .int .i64 0]) = .returned D))
    rw [hD]
    clear hD HD
    subst h9
    clear h hr bA hne
    go_enter Tryd.func20, Tryd.ntmps20
    go_wp2_with fail
    go_region_held3 (fun _ => True) (trivial)
      (first
        | (have hg := H1; clear hg; go_at_call 49; refine (H1.out _ (by first | exact bd1 | exact bd2)).mono ?_; rintro e v ⟨rfl, rfl⟩; clear H1)
        | (have hg := H2; clear hg; go_at_call 49; refine (H2.out _ (by first | exact bd1 | exact bd2)).mono ?_; rintro e v ⟨rfl, rfl⟩; clear H2)
        | (have hg := H3; clear hg; go_at_call 49; refine (H3.out _ (by first | exact bd1 | exact bd2)).mono ?_; rintro e v ⟨rfl, rfl⟩; clear H3))
    all_goals
      go_wp2_with fail
      refine (HF.out _).mono ?_
      rintro e w1 ⟨rfl, hb⟩
      have x := X.out.below hb
      have y := Y.out.below hb
      have bz := BZ.out.trans (hb.mono BZ.out.size)
      have hlt := x.lt
      have hlt2 := y.lt
      have c0 := x.at_ 0 _ rfl
      have c1 := x.at_ 1 _ rfl
      have c2 := x.at_ 2 _ rfl
      have c3 := x.at_ 3 _ rfl
      have f0 := x.fz 0
      have f1 := x.fz 1
      have f2 := x.fz 2
      have f3 := x.fz 3
      have y0 := y.at_ 0 _ rfl
      have y1 := y.at_ 1 _ rfl
      have y2 := y.at_ 2 _ rfl
      by_cases hrc : rc = 0
      · have hcb : (rc != 0) = false := by simp [hrc]
        have HV := Lib.hid (HV0.out hrc)
        obtain ⟨e0, e1, e2, e3⟩ := set4 x (.int .i64 0) (.int .i64 v1) (.int .i64 v2) (.int .i64 v3)
        have HFF := Lib.hid (below4 bz (Nat.le_refl _) (.int .i64 0) (.int .i64 v1) (.int .i64 v2) (.int .i64 v3))
        clear x y bz hb bd1 bd2 hrc
        go_wp2_with fail
        exact bodyPost_ret (v := .agg #[.int .i64 0, .int .i64 v1, .int .i64 v2, .int .i64 v3]) (by simp [results, Tryd.results20, go_sem, e0, e1, e2, e3]) rfl ⟨HV.out, HFF.out⟩
      · have hcb : (rc != 0) = true := by simp [hrc]
        have HV := Lib.hid (HV1.out hrc)
        obtain ⟨e0, e1, e2, e3⟩ := set4 x (.int .i64 5) (.int .i64 0) (.int .i64 0) (.int .i64 0)
        have HFF := Lib.hid (below4 bz (Nat.le_refl _) (.int .i64 5) (.int .i64 0) (.int .i64 0) (.int .i64 0))
        clear x y bz hb bd1 bd2 hrc
        go_wp2_with fail
        exact bodyPost_ret (v := .agg #[.int .i64 5, .int .i64 0, .int .i64 0, .int .i64 0]) (by simp [results, Tryd.results20, go_sem, e0, e1, e2, e3]) rfl ⟨HV.out, HFF.out⟩
  · have hne : ((n : Int) != 9) = true := by simp; omega
    rw [if_neg (fun e => h9 (by have := e.1; omega))]
    clear h hr bA
    go_enter Tryd.func20, Tryd.ntmps20
    go_wp2_with fail
    go_returns
    exact ⟨rfl, by go_grown⟩
end Go.Proofs.YtjdkaaepbkkchaaDoor
