/-
  Chapter 7: what is wrong with stamps and with a reply, both sides; boxes of any number of cells.
-/
import Derived.Test.YtjdkaaepbkkchaaDoorO2
import Derived.Test.YtjdkaaepbkkchaaDoorT1
import Derived.Test.YtjdkaaepbkkchaaDoorW1
namespace Go.Proofs.YtjdkaaepbkkchaaDoor
open Go.RowKit
set_option linter.unusedVariables false
set_option maxRecDepth 100000

/-- Block b begins with these cells, and is not frozen. -/
structure BoxL (w : World) (b : Nat) (vs : List Value) : Prop where
  lt : b < w.heap.size
  at_ : ∀ (j : Nat) v, vs[j]? = some v → w.cell? ⟨b, j, none⟩ = some v
  fz : ∀ j, w.frozen? ⟨b, j, none⟩ = false
theorem BoxL.new (w : World) (vs : List Value) (cs : Array Value) (t : TypeId) (h : cs = vs.toArray) : BoxL (w.alloc (.cells cs t)) w.heap.size vs := by
  subst h
  refine ⟨by simp, fun j v hj => ?_, fun j => ?_⟩
  · have hh := heap_alloc_new w (.cells vs.toArray t)
    simp only [World.cell?, hh]
    simpa using hj
  · have hh := heap_alloc_new w (.cells vs.toArray t)
    simp only [World.frozen?, hh]
    simp
theorem BoxL.keep {w w' : World} {b lo hi : Nat} {vs : List Value} (h : BoxL w b vs) (k : Keep lo hi w w') (ho : b < lo ∨ hi ≤ b) : BoxL w' b vs :=
  ⟨Nat.lt_of_lt_of_le h.lt k.size, fun j v hj => (k.cell (p := ⟨b, j, none⟩) h.lt ho).trans (h.at_ j v hj), fun j => (k.frozen (p := ⟨b, j, none⟩) h.lt ho).trans (h.fz j)⟩
theorem BoxL.below {w w' : World} {b : Nat} {vs : List Value} (h : BoxL w b vs) (k : Below w.heap.size w w') : BoxL w' b vs := h.keep (Keep.of_below k 0 0) (.inr (Nat.zero_le _))
theorem BoxL.set {w : World} {b : Nat} {vs : List Value} (h : BoxL w b vs) (j : Nat) (v : Value) (hj : j < vs.length) : BoxL (w.setCell ⟨b, j, none⟩ v) b (vs.set j v) := by
  refine ⟨by simpa using h.lt, fun i u hi => ?_, fun i => by rw [World.frozen?_setCell]; exact h.fz i⟩
  by_cases e : j = i
  · subst e
    rw [List.getElem?_set_self hj] at hi
    injection hi with hi
    subst hi
    exact World.cell?_setCell_same _ _ _ (h.at_ j _ (List.getElem?_eq_getElem hj))
  · rw [List.getElem?_set_ne e] at hi
    exact (World.cell?_setCell_other _ _ _ _ (by simp)).trans (h.at_ i u hi)
theorem below_new {w w1 : World} {o : Obj} (h : Below (w.alloc o).heap.size (w.alloc o) w1) : Below w.heap.size w w1 := ((Below.refl _ _).alloc (Nat.le_refl _) o).trans (h.mono (by simp))

def stampsOk (st ec : Int) : Prop := (0 ≤ st ∧ st ≤ 65535) ∧ (0 ≤ ec ∧ ec ≤ 65536)
instance (st ec : Int) : Decidable (stampsOk st ec) := by unfold stampsOk; infer_instance
def replyCode (ack st ec : Int) : Int := if (0 ≤ ack ∧ ack ≤ 9000) ∧ stampsOk st ec then 0 else 3
theorem replyCode_ok {ack st ec : Int} (h : (0 ≤ ack ∧ ack ≤ 9000) ∧ stampsOk st ec) : replyCode ack st ec = 0 := if_pos h
theorem replyCode_no {ack st ec : Int} (h : ¬ ((0 ≤ ack ∧ ack ≤ 9000) ∧ stampsOk st ec)) : replyCode ack st ec = 3 := if_neg h

set_option maxHeartbeats 400000 in
theorem l7Stamps_any (st ec : Int) (w : World) :
    Calls Tryd.prog 66 #[.int .i64 st, .int .i64 ec] w fun e w' => e = .returned (.bool (decide (stampsOk st ec))) ∧ w = w' := by
  by_cases h1 : 0 ≤ st ∧ st ≤ 65535
  · by_cases h2 : 0 ≤ ec ∧ ec ≤ 65536
    · rw [decide_eq_true (show stampsOk st ec from ⟨h1, h2⟩)]
      go_enter Tryd.func66, Tryd.ntmps66
      go_wp2_with fail
      refine (l1In_any st 0 65535 _ true (decide_eq_true h1)).mono ?_
      rintro e w1 ⟨rfl, rfl⟩
      go_wp2_with fail
      refine (l1In_any ec 0 65536 _ true (decide_eq_true h2)).mono ?_
      rintro e w1 ⟨rfl, rfl⟩
      go_wp2_with fail
      go_ret
      exact ⟨rfl, rfl⟩
    · rw [decide_eq_false (show ¬ stampsOk st ec from fun h => h2 h.2)]
      go_enter Tryd.func66, Tryd.ntmps66
      go_wp2_with fail
      refine (l1In_any st 0 65535 _ true (decide_eq_true h1)).mono ?_
      rintro e w1 ⟨rfl, rfl⟩
      go_wp2_with fail
      refine (l1In_any ec 0 65536 _ false (decide_eq_false h2)).mono ?_
      rintro e w1 ⟨rfl, rfl⟩
      go_wp2_with fail
      go_ret
      exact ⟨rfl, rfl⟩
  · rw [decide_eq_false (show ¬ stampsOk st ec from fun h => h1 h.1)]
    go_enter Tryd.func66, Tryd.ntmps66
    go_wp2_with fail
    refine (l1In_any st 0 65535 _ false (decide_eq_false h1)).mono ?_
    rintro e w1 ⟨rfl, rfl⟩
    go_wp2_with fail
    go_ret
    exact ⟨rfl, rfl⟩

set_option maxHeartbeats 400000 in
theorem noStamps_any (st ec : Int) (w : World) :
    Calls Tryd.prog 54 #[.int .i64 st, .int .i64 ec] w fun e w' => e = .returned (.bool (!decide (stampsOk st ec))) ∧ Below w.heap.size w w' := by
  have hr : decide ((st < 0 ∨ 65535 < st) ∨ (ec < 0 ∨ 65536 < ec)) = !decide (stampsOk st ec) := by
    by_cases h : stampsOk st ec
    · rw [decide_eq_true h, decide_eq_false (by unfold stampsOk at h; omega)]; rfl
    · rw [decide_eq_false h, decide_eq_true (by unfold stampsOk at h; omega)]; rfl
  generalize (!decide (stampsOk st ec)) = r at *
  have HR := Lib.hid hr
  clear hr
  go_enter Tryd.func54, Tryd.ntmps54
  go_wp2_with fail
  refine (outside2 w.heap.size _ st 0 65535 ec 0 65536 r _ (by simp) (by simp [go_sem]) (by simp [go_sem]) (by simp [go_sem]) (by simp [go_sem]) (by simp [go_sem]) (by simp [go_sem]) HR.out).mono ?_
  rintro e w1 ⟨rfl, hb⟩
  have HB := Lib.hid (below_new hb)
  clear hb
  go_wp2_with fail
  go_ret
  exact ⟨rfl, HB.out⟩

set_option maxHeartbeats 800000 in
theorem specReplyFault_any (ack st ec : Int) (w : World) :
    Calls Tryd.prog 53 #[.agg #[.int .i64 ack, .int .i64 st, .int .i64 ec]] w fun e w' => e = .returned (.int .i64 (replyCode ack st ec)) ∧ Below w.heap.size w w' := by
  by_cases h1 : 0 ≤ ack ∧ ack ≤ 9000
  · by_cases h2 : stampsOk st ec
    · have HR := Lib.hid (ret_int (replyCode_ok ⟨h1, h2⟩).symm)
      have HS := Lib.hid (fun w' => l7Stamps_any st ec w')
      rw [decide_eq_true h2] at HS
      go_enter Tryd.func53, Tryd.ntmps53
      go_wp2_with fail
      refine (l1In_any ack 0 9000 _ true (decide_eq_true h1)).mono ?_
      rintro e w1 ⟨rfl, rfl⟩
      go_wp2_with fail
      refine (HS.out _).mono ?_
      rintro e w1 ⟨rfl, rfl⟩
      go_wp2_with fail
      go_ret
      exact ⟨HR.out, by go_grown⟩
    · have HR := Lib.hid (ret_int (replyCode_no (ack := ack) (fun h => h2 h.2)).symm)
      have HS := Lib.hid (fun w' => l7Stamps_any st ec w')
      rw [decide_eq_false h2] at HS
      go_enter Tryd.func53, Tryd.ntmps53
      go_wp2_with fail
      refine (l1In_any ack 0 9000 _ true (decide_eq_true h1)).mono ?_
      rintro e w1 ⟨rfl, rfl⟩
      go_wp2_with fail
      refine (HS.out _).mono ?_
      rintro e w1 ⟨rfl, rfl⟩
      go_wp2_with fail
      go_ret
      exact ⟨HR.out, by go_grown⟩
  · have HR := Lib.hid (ret_int (replyCode_no (st := st) (ec := ec) (fun h => h1 h.1)).symm)
    go_enter Tryd.func53, Tryd.ntmps53
    go_wp2_with fail
    refine (l1In_any ack 0 9000 _ false (decide_eq_false h1)).mono ?_
    rintro e w1 ⟨rfl, rfl⟩
    go_wp2_with fail
    go_ret
    exact ⟨HR.out, by go_grown⟩

set_option maxHeartbeats 800000 in
theorem implReplyFault_any (ack st ec : Int) (w : World) :
    Calls Tryd.prog 22 #[.agg #[.int .i64 ack, .int .i64 st, .int .i64 ec]] w fun e w' => e = .returned (.int .i64 (replyCode ack st ec)) ∧ Below w.heap.size w w' := by
  have HS := Lib.hid (fun w' => noStamps_any st ec w')
  by_cases h2 : stampsOk st ec
  · rw [decide_eq_true h2] at HS
    obtain ⟨r, hr⟩ : ∃ r, decide (ack < 0 ∨ 9000 < ack) = r := ⟨_, rfl⟩
    have HO := Lib.hid hr
    have HR : Hid (Ending.returned (.int .i64 (if r then 3 else 0)) = .returned (.int .i64 (replyCode ack st ec))) := by
      refine ret_int ?_
      subst hr
      by_cases h1 : 0 ≤ ack ∧ ack ≤ 9000
      · rw [replyCode_ok ⟨h1, h2⟩, decide_eq_false (by omega)]; rfl
      · rw [replyCode_no (fun h => h1 h.1), decide_eq_true (by omega)]; rfl
    clear hr h2
    go_enter Tryd.func22, Tryd.ntmps22
    go_wp2_with fail
    refine (HS.out _).mono ?_
    rintro e w1 ⟨rfl, hb⟩
    have hx := (BoxL.new w [.int .i64 ack, .int .i64 st, .int .i64 ec] _ 36 rfl).below hb
    have hb1 := below_new hb
    have c0 := hx.at_ 0 _ rfl
    clear hb hx
    go_wp2_with fail
    refine (outside1 w1.heap.size _ ack 0 9000 r _ (by simp) (by simp [go_sem]) (by simp [go_sem]) (by simp [go_sem]) HO.out).mono ?_
    rintro e w2 ⟨rfl, hb2⟩
    have HB := Lib.hid (hb1.trans ((below_new hb2).mono hb1.size))
    clear hb1 hb2 c0
    cases r
    · go_wp2_with fail
      go_ret
      exact ⟨HR.out, HB.out⟩
    · go_wp2_with fail
      go_ret
      exact ⟨HR.out, HB.out⟩
  · have HR := Lib.hid (ret_int (replyCode_no (ack := ack) (fun h => h2 h.2)).symm)
    rw [decide_eq_false h2] at HS
    go_enter Tryd.func22, Tryd.ntmps22
    go_wp2_with fail
    refine (HS.out _).mono ?_
    rintro e w1 ⟨rfl, hb⟩
    have HB := Lib.hid (below_new hb)
    clear hb
    go_wp2_with fail
    go_ret
    exact ⟨HR.out, HB.out⟩

end Go.Proofs.YtjdkaaepbkkchaaDoor
