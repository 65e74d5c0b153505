/-
  Chapter 7: what is said by nine bytes; readAll of a reply; DecodeReply, the developers' side.
-/
import Derived.Test.YtjdkaaepbkkchaaDoorW14
import Derived.Test.YtjdkaaepbkkchaaDoorMath1
namespace Go.Proofs.YtjdkaaepbkkchaaDoor
open Go.RowKit
set_option linter.unusedVariables false
set_option maxRecDepth 100000

def rv1 (ps : List Int) : Int := val (ps.take 4)
def rv2 (ps : List Int) : Int := val ((ps.drop 4).take 2)
def rv3 (ps : List Int) : Int := val ((ps.drop 6).take 3)
/-- Nine bytes are put back. -/
theorem repL_back {ps : List Int} (hb : ∀ x ∈ ps, 0 ≤ x ∧ x ≤ 255) (h : ps.length = 9) : repL (rv1 ps) (rv2 ps) (rv3 ps) = ps := by
  have hb1 : ∀ x ∈ ps.take 4, 0 ≤ x ∧ x ≤ 255 := fun x hx => hb x (List.mem_of_mem_take hx)
  have hb2 : ∀ x ∈ (ps.drop 4).take 2, 0 ≤ x ∧ x ≤ 255 := fun x hx => hb x (List.mem_of_mem_drop (List.mem_of_mem_take hx))
  have hb3 : ∀ x ∈ (ps.drop 6).take 3, 0 ≤ x ∧ x ≤ 255 := fun x hx => hb x (List.mem_of_mem_drop (List.mem_of_mem_take hx))
  have e1 := digs_val _ hb1
  have e2 := digs_val _ hb2
  have e3 := digs_val _ hb3
  rw [show (ps.take 4).length = 4 by rw [List.length_take]; omega] at e1
  rw [show ((ps.drop 4).take 2).length = 2 by rw [List.length_take, List.length_drop]; omega] at e2
  rw [show ((ps.drop 6).take 3).length = 3 by rw [List.length_take, List.length_drop]; omega] at e3
  unfold repL rv1 rv2 rv3
  rw [e1, e2, e3]
  have d1 : (ps.drop 4).take 2 ++ (ps.drop 6).take 3 = ps.drop 4 := by
    rw [show (ps.drop 6).take 3 = (ps.drop 4).drop 2 by rw [List.drop_drop, List.take_of_length_le (by rw [List.length_drop]; omega)]]
    exact List.take_append_drop 2 _
  rw [d1, List.take_append_drop]
theorem rv_in {ps : List Int} (hb : ∀ x ∈ ps, 0 ≤ x ∧ x ≤ 255) : (0 ≤ rv1 ps ∧ rv1 ps ≤ 281474976710655) ∧ (0 ≤ rv2 ps ∧ rv2 ps ≤ 281474976710655) ∧ (0 ≤ rv3 ps ∧ rv3 ps ≤ 281474976710655) := by
  have f : ∀ (zs : List Int) (k : Nat), (∀ x ∈ zs, 0 ≤ x ∧ x ≤ 255) → k ≤ 6 → 0 ≤ val (zs.take k) ∧ val (zs.take k) ≤ 281474976710655 := fun zs k hz hk => by
    rcases Nat.le_total k zs.length with h | h
    · exact val_small zs hz k h hk
    · have := val_small zs hz zs.length (Nat.le_refl _) 
      rw [List.take_of_length_le h]
      rw [List.take_of_length_le (Nat.le_refl _)] at this
      exact this (by omega)
  exact ⟨f _ 4 hb (by omega), f _ 2 (fun x hx => hb x (List.mem_of_mem_drop hx)) (by omega), f _ 3 (fun x hx => hb x (List.mem_of_mem_drop hx)) (by omega)⟩
/-- Are these bytes a reply's? -/
def isRep (ps : List Int) : Prop := ps.length = 9 ∧ replyCode (rv1 ps) (rv2 ps) (rv3 ps) = 0
instance (ps : List Int) : Decidable (isRep ps) := by unfold isRep; infer_instance
theorem rep_same {ps : List Int} (hb : ∀ x ∈ ps, 0 ≤ x ∧ x ≤ 255) (h9 : 9 ≤ ps.length) : (repAns (rv1 ps) (rv2 ps) (rv3 ps) = ps) ↔ isRep ps := by
  constructor
  · intro e
    unfold repAns at e
    split at e
    · rename_i h0
      have hl := congrArg List.length e
      rw [repL_len] at hl
      exact ⟨hl.symm, h0⟩
    · have hl := congrArg List.length e
      simp at hl
      omega
  · rintro ⟨hl, h0⟩
    unfold repAns
    rw [if_pos h0]
    exact repL_back hb hl
def decRepV (ps : List Int) : Value := if isRep ps then .agg #[.int .i64 0, .int .i64 (rv1 ps), .int .i64 (rv2 ps), .int .i64 (rv3 ps)] else .agg #[.int .i64 5, .int .i64 0, .int .i64 0, .int .i64 0]
def decRepT (ps : List Int) : Value := if isRep ps then .tuple #[.agg #[.int .i64 (rv1 ps), .int .i64 (rv2 ps), .int .i64 (rv3 ps)], .int .i64 0] else .tuple #[.agg #[.int .i64 0, .int .i64 0, .int .i64 0], .int .i64 5]

theorem catchR_panicking (p : Addr) (x : Int) (u : TypeId) (pv : Value) (w : World) (hc : w.cell? p = some (.int .i64 x)) (hz : w.frozen? p = false) :
    CallsD Tryd.prog 74 #[.pointer (some p)] (.panicking [{ v := .iface u pv, recovered := false }]) w fun e u' w' =>
      e = .returned (.tuple #[]) ∧ u' = .panicking [{ v := .iface u pv, recovered := true }] ∧ w' = w.setCell p (.int .i64 5) := by
  refine callsD_of_wpS Tryd.func74 rfl fun c₀ cs hu => ?_
  apply wpS_seq
  apply wpS_region
  simp [wpOpsS, go_sem, recoverD, hu, Tryd.ntmps74, Exit.thenS]
  refine wpS_cond (t := true) (by simp [Act.eval, Array.replicate]) ?_
  simp only [if_true]
  apply wpS_region
  simp [wpOpsS, go_sem, hc, hz, bodyPostS, results, Tryd.results74]
theorem catchR_idle (p : Addr) (w : World) :
    CallsD Tryd.prog 74 #[.pointer (some p)] .returning w fun e u' w' => e = .returned (.tuple #[]) ∧ u' = .returning ∧ w' = w := by
  refine callsD_of_wpS Tryd.func74 rfl fun c₀ cs hu => ?_
  apply wpS_seq
  apply wpS_region
  simp [wpOpsS, go_sem, recoverD, hu, Tryd.ntmps74, Exit.thenS]
  refine wpS_cond (t := false) (by simp [Act.eval, Array.replicate]) ?_
  simp only [Bool.false_eq_true, if_false]
  refine wpS_of_wp (wp_skip ?_)
  cases c₀
  simp_all [bodyPostS, results, Tryd.results74]

set_option maxHeartbeats 2000000 in
theorem readAllR_any (ea : Addr) (A : Option Addr) (n c hi : Nat) (ps : List Int) (w : World) (h : Rd w 0 hi A n ps) (hnc : n ≤ c) (hA : (A = none ∧ c = 0) ∨ ∃ g off, A = some ⟨g, off, none⟩) (ke : Ke ea w) :
    Calls Tryd.prog 47 #[.slice A n c, .func (.func 48) #[] #[], .func (.func 12) #[] #[]] w fun e w' => e = .returned (decRepT ps) ∧ Below w.heap.size w w' := by
  have hl := h.len
  have htop := h.top
  have hby := h.byte
  have hmf : ∀ (fn : Fn) (first cap : Array Value) (w : World), (Instr.makeFunc fn first cap).run Tryd.prog w = .ok (.func fn first cap) w := fun _ _ _ _ => rfl
  have b1 : Below w.heap.size w (w.alloc (.cells #[.int .i64 0, .int .i64 0, .int .i64 0] 36)) := (Below.refl _ _).alloc (Nat.le_refl _) _
  have b2 : Below w.heap.size w ((w.alloc (.cells #[.int .i64 0, .int .i64 0, .int .i64 0] 36)).alloc (.cells #[.int .i64 0] 2)) := b1.alloc (by simp) _
  have b3 : Below w.heap.size w (((w.alloc (.cells #[.int .i64 0, .int .i64 0, .int .i64 0] 36)).alloc (.cells #[.int .i64 0] 2)).alloc (.cells #[.slice A n c] 101)) := b2.alloc (by simp; omega) _
  have x6 := ((BoxL.new w [.int .i64 0, .int .i64 0, .int .i64 0] #[.int .i64 0, .int .i64 0, .int .i64 0] 36 rfl).below ((Below.refl _ _).alloc (Nat.le_refl _) (.cells #[.int .i64 0] 2))).below ((Below.refl _ _).alloc (Nat.le_refl _) (.cells #[.slice A n c] 101))
  have x7 := (BoxL.new (w.alloc (.cells #[.int .i64 0, .int .i64 0, .int .i64 0] 36)) [.int .i64 0] #[.int .i64 0] 2 rfl).below ((Below.refl _ _).alloc (Nat.le_refl _) (.cells #[.slice A n c] 101))
  have xr := BoxL.new ((w.alloc (.cells #[.int .i64 0, .int .i64 0, .int .i64 0] 36)).alloc (.cells #[.int .i64 0] 2)) [.slice A n c] #[.slice A n c] 101 rfl
  have hr := h.keep (Keep.of_below b3 0 0) (by omega)
  have ke3 := ke.below b3 ke.1
  simp only [World.size_alloc] at x7 xr
  have hR : Rdr (((w.alloc (.cells #[.int .i64 0, .int .i64 0, .int .i64 0] 36)).alloc (.cells #[.int .i64 0] 2)).alloc (.cells #[.slice A n c] 101)) (w.heap.size + 1 + 1) 0 hi ps :=
    ⟨xr.lt, by omega, xr.fz 0, A, n, c, xr.at_ 0 _ rfl, hr, hnc, hA⟩
  have X6 := Lib.hid x6
  have X7 := Lib.hid x7
  have B3 := Lib.hid b3
  clear x6 x7 xr b1 b2 b3
  by_cases h9 : ps.length < 9
  · have hnr : ¬ isRep ps := fun e => by have := e.1; omega
    have HN := Lib.hid (readReply_no ea _ 0 hi ps _ hR h9 ke3 (by have := ke.1; omega))
    unfold decRepT
    rw [if_neg hnr]
    clear hR hr ke3 ke h hnr
    go_enter_defers Tryd.func47, Tryd.ntmps47
    go_wp2_with fail
    refine HN.out.mono ?_
    rintro e w1 ⟨⟨u, pv, rfl⟩, k1⟩
    have x6 := X6.out.keep k1 (by omega)
    have x7 := X7.out.keep k1 (by omega)
    have hb := B3.out.trans (k1.below (.inl (by omega)) B3.out.size)
    clear k1
    have c0 := x6.at_ 0 _ rfl
    have c1 := x6.at_ 1 _ rfl
    have c2 := x6.at_ 2 _ rfl
    have c7 := x7.at_ 0 _ rfl
    have HF := Lib.hid (hb.setCell (p := ⟨w.heap.size + 1, 0, none⟩) (by show w.heap.size ≤ w.heap.size + 1; omega) (.int .i64 5))
    go_wp2_with fail
    refine leaves_cons (f := 74) (args := #[.pointer (some ⟨w.heap.size + 1, 0, none⟩)]) (by simp) (by simp [go_sem]) ?_
    refine (catchR_panicking ⟨w.heap.size + 1, 0, none⟩ 0 u pv w1 c7 (x7.fz 0)).mono ?_
    rintro e u' w'' ⟨rfl, rfl, rfl⟩
    have e7 := World.cell?_setCell_same w1 (⟨w.heap.size + 1, 0, none⟩ : Addr) (.int .i64 5) c7
    exact ⟨.tuple #[.agg #[.int .i64 0, .int .i64 0, .int .i64 0], .int .i64 5], by simp [results, Tryd.results47, go_sem, c0, c1, c2, e7], rfl, HF.out⟩
  · have hv := rv_in hby
    have HY := Lib.hid (readReply_yes _ 0 hi ps _ hR (by omega))
    have HE := Lib.hid (fun w' => implEncReply_any (rv1 ps) (rv2 ps) (rv3 ps) w')
    have HQ := rep_same hby (by omega)
    have f1 : ∀ (p : Int) (v : Value) (w : World), (Instr.field 29 (.agg #[.int .i64 p, v]) 1).run Tryd.prog w = .ok v w := fun _ _ _ => by kernel_rfl
    have hRT : decRepT ps = if isRep ps then .tuple #[.agg #[.int .i64 (rv1 ps), .int .i64 (rv2 ps), .int .i64 (rv3 ps)], .int .i64 0] else .tuple #[.agg #[.int .i64 0, .int .i64 0, .int .i64 0], .int .i64 5] := rfl
    rw [hRT]
    change Hid (Calls _ _ _ _ fun e w' => e = .returned (.agg #[.int .i64 (rv1 ps), .int .i64 (rv2 ps), .int .i64 (rv3 ps)]) ∧ _) at HY
    generalize replyCode (rv1 ps) (rv2 ps) (rv3 ps) = rc at *
    generalize repAns (rv1 ps) (rv2 ps) (rv3 ps) = zs at *
    generalize rv1 ps = v1 at *
    generalize rv2 ps = v2 at *
    generalize rv3 ps = v3 at *
    obtain ⟨d, hd⟩ : ∃ d, decide (zs = ps) = d := ⟨_, rfl⟩
    have HD := Lib.hid hd
    have HRT : Hid ((if isRep ps then (.tuple #[.agg #[.int .i64 v1, .int .i64 v2, .int .i64 v3], .int .i64 0] : Value) else .tuple #[.agg #[.int .i64 0, .int .i64 0, .int .i64 0], .int .i64 5]) = if d = true then .tuple #[.agg #[.int .i64 v1, .int .i64 v2, .int .i64 v3], .int .i64 0] else .tuple #[.agg #[.int .i64 0, .int .i64 0, .int .i64 0], .int .i64 5]) := by
      show _ = _
      subst hd
      by_cases hq : isRep ps
      · rw [if_pos hq, if_pos (decide_eq_true (HQ.2 hq))]
      · rw [if_neg hq, if_neg (by simpa using fun e => hq (HQ.1 e))]
    rw [HRT.out]
    have H := Lib.hid h
    have KE := Lib.hid ke
    have HK0 := ke.1
    clear hR hr ke3 hd hv hRT HRT hby h9 HQ h ke
    go_enter_defers Tryd.func47, Tryd.ntmps47
    go_wp2_with fail
    refine HY.out.mono ?_
    rintro e w1 ⟨rfl, k1⟩
    have x6 := X6.out.keep k1 (by omega)
    have x7 := X7.out.keep k1 (by omega)
    have hb := B3.out.trans (k1.below (.inl (by omega)) B3.out.size)
    have h1 := H.out.keep (Keep.of_below hb 0 0) (by omega)
    have ke1 := KE.out.below hb HK0
    have hz := k1.size
    simp only [World.size_alloc] at hz
    clear k1
    have x8 := BoxL.new w1 [.int .i64 v1, .int .i64 v2, .int .i64 v3] #[.int .i64 v1, .int .i64 v2, .int .i64 v3] 36 rfl
    have bA : Below w1.heap.size w1 (w1.alloc (.cells #[.int .i64 v1, .int .i64 v2, .int .i64 v3] 36)) := (Below.refl _ _).alloc (Nat.le_refl _) _
    go_wp2_with fail
    refine (HE.out _).mono ?_
    rintro e w2 ⟨G, cap, rfl, hG, hle, wz, b2⟩
    have b12 := below_new b2
    replace x8 := x8.below b2
    replace x6 := x6.below b12
    replace x7 := x7.below b12
    replace hb := hb.trans (b12.mono hb.size)
    have h2 := h1.keep (Keep.of_below b12 0 0) (by omega)
    have ke2 := ke1.below b12 ke1.1
    clear h1 ke1 bA
    go_wp2_with fail
    refine (implSame_any G A zs.length cap n c _ _ _ _ zs ps _ wz.1 h2).mono ?_
    rintro e w3 ⟨rfl, rfl⟩
    rw [HD.out]
    have c0 := x6.at_ 0 _ rfl
    have c1 := x6.at_ 1 _ rfl
    have c2 := x6.at_ 2 _ rfl
    have c7 := x7.at_ 0 _ rfl
    clear wz h2 b2 b12
    cases d
    · have g0 := ke2.1
      have g1 := ke2.2
      have f7 := x7.fz 0
      have HF := Lib.hid (hb.setCell (p := ⟨w.heap.size + 1, 0, none⟩) (by show w.heap.size ≤ w.heap.size + 1; omega) (.int .i64 5))
      clear x8 hb ke2
      go_wp2_with fail
      refine leaves_cons (f := 74) (args := #[.pointer (some ⟨w.heap.size + 1, 0, none⟩)]) (by simp) (by simp [go_sem]) ?_
      refine (catchR_panicking ⟨w.heap.size + 1, 0, none⟩ 0 _ _ w2 c7 f7).mono ?_
      rintro e u' w'' ⟨rfl, rfl, rfl⟩
      have e7 := World.cell?_setCell_same w2 (⟨w.heap.size + 1, 0, none⟩ : Addr) (.int .i64 5) c7
      exact ⟨.tuple #[.agg #[.int .i64 0, .int .i64 0, .int .i64 0], .int .i64 5], by simp [results, Tryd.results47, go_sem, c0, c1, c2, e7], rfl, HF.out⟩
    · have y0 := x8.at_ 0 _ rfl
      have y1 := x8.at_ 1 _ rfl
      have y2 := x8.at_ 2 _ rfl
      have f60 := x6.fz 0
      have f61 := x6.fz 1
      have f62 := x6.fz 2
      have f7 := x7.fz 0
      have z3 := ((x6.set 0 (.int .i64 v1) (by simp)).set 1 (.int .i64 v2) (by simp)).set 2 (.int .i64 v3) (by simp)
      have e0 := (x6.set 0 (.int .i64 v1) (by simp)).at_ 0 _ rfl
      have e1 := ((x6.set 0 (.int .i64 v1) (by simp)).set 1 (.int .i64 v2) (by simp)).at_ 1 _ rfl
      have e2 := z3.at_ 2 _ rfl
      have e7 := World.cell?_setCell_same (((w2.setCell ⟨w.heap.size, 0, none⟩ (.int .i64 v1)).setCell ⟨w.heap.size, 1, none⟩ (.int .i64 v2)).setCell ⟨w.heap.size, 2, none⟩ (.int .i64 v3)) (⟨w.heap.size + 1, 0, none⟩ : Addr) (.int .i64 0) (u := .int .i64 0) (by simp [go_sem, c7])
      have HF := Lib.hid ((((hb.setCell (p := ⟨w.heap.size, 0, none⟩) (Nat.le_refl _) (.int .i64 v1)).setCell (p := ⟨w.heap.size, 1, none⟩) (Nat.le_refl _) (.int .i64 v2)).setCell (p := ⟨w.heap.size, 2, none⟩) (Nat.le_refl _) (.int .i64 v3)).setCell (p := ⟨w.heap.size + 1, 0, none⟩) (by show w.heap.size ≤ w.heap.size + 1; omega) (.int .i64 0))
      clear x8 hb ke2 z3
      go_wp2_with fail
      refine leaves_cons (f := 74) (args := #[.pointer (some ⟨w.heap.size + 1, 0, none⟩)]) (by simp) (by simp [go_sem]) ?_
      refine (catchR_idle ⟨w.heap.size + 1, 0, none⟩ _).mono ?_
      rintro e u' w'' ⟨rfl, rfl, rfl⟩
      exact ⟨.tuple #[.agg #[.int .i64 v1, .int .i64 v2, .int .i64 v3], .int .i64 0], by simp [results, Tryd.results47, go_sem, e0, e1, e2, e7], rfl, HF.out⟩
end Go.Proofs.YtjdkaaepbkkchaaDoor
