/-
  impl.CheckReplay, impl.TakeReplay.
-/
import Derived.Test.YtebdgdmdjgkboaaQ4
import Derived.Test.YtebdgdmdjgkboaaR7
namespace Go.Proofs.Ytebdgdmdjgkboaa
open Go.RowKit
set_option linter.unusedVariables false
set_option maxRecDepth 100000

/-- The numbers of a window with one more, as the model lays them. -/
def ins (m sq : Int) : List Int → List Int
  | [] => [sq]
  | y :: ys => if sq < y then sq :: (y :: ys).filter (fun x => decide (m - 32 < x)) else (if m - 32 < y then [y] else []) ++ ins m sq ys

theorem foldl_done (m sq : Int) : ∀ (ys acc : List Int), (ys.foldl (takeStep m sq) (true, acc)) = (true, acc ++ ys.filter (fun x => decide (m - 32 < x))) := by
  intro ys
  induction ys with
  | nil => intro acc; simp
  | cons y ys ih =>
    intro acc
    rw [List.foldl_cons, takeStep_eq]
    simp only [Bool.true_or, Bool.true_eq_false, false_and, if_false, List.nil_append]
    rw [ih]
    by_cases h : m - 32 < y <;> simp [h]
theorem foldl_ins (m sq : Int) : ∀ (ys acc : List Int), (ys.foldl (takeStep m sq) (false, acc)).2 ++ (if (ys.foldl (takeStep m sq) (false, acc)).1 then [] else [sq]) = acc ++ ins m sq ys := by
  intro ys
  induction ys with
  | nil => intro acc; simp [ins]
  | cons y ys ih =>
    intro acc
    rw [List.foldl_cons, takeStep_eq]
    by_cases h : sq < y
    · have h2 : ((false || decide (sq < y)) : Bool) = true := by simp [h]
      rw [h2, foldl_done]
      by_cases h3 : m - 32 < y <;> simp [ins, h, h3]
    · have h2 : ((false || decide (sq < y)) : Bool) = false := by simp [h]
      rw [h2, ih]
      by_cases h3 : m - 32 < y <;> simp [ins, h, h3]
theorem takeL_ins (m sq : Int) (xs : List Int) : takeL m sq xs = ins m sq xs := by
  unfold takeL takeSt
  rw [foldl_ins]
  rfl
theorem mem_ins (m sq : Int) (hs : m - 32 < sq) : ∀ (ys : List Int) (x : Int), x ∈ ins m sq ys ↔ x ∈ (sq :: ys).filter (fun x => decide (m - 32 < x)) := by
  intro ys
  induction ys with
  | nil => intro x; simp [ins, hs]
  | cons y ys ih =>
    intro x
    unfold ins
    by_cases h : sq < y
    · rw [if_pos h]
      simp [hs]
    · rw [if_neg h, List.mem_append, ih]
      by_cases h3 : m - 32 < y
      · by_cases e : x = y
        · subst e; simp [h3]
        · by_cases e2 : x = sq
          · subst e2; simp [hs]
          · simp [e, e2, h3]
      · simp [h3, hs]
theorem ins_rises (m sq : Int) : ∀ (ys : List Int), ys.Pairwise (· < ·) → sq ∉ ys → (ins m sq ys).Pairwise (· < ·) ∧ ∀ z ∈ ins m sq ys, z = sq ∨ z ∈ ys := by
  intro ys
  induction ys with
  | nil => intro _ _; simp [ins]
  | cons y ys ih =>
    intro hp hn
    obtain ⟨h1, h2⟩ := List.pairwise_cons.1 hp
    have hny : sq ≠ y := fun e => hn (by rw [e]; exact List.mem_cons_self ..)
    obtain ⟨ih1, ih2⟩ := ih h2 (fun e => hn (List.mem_cons_of_mem _ e))
    unfold ins
    by_cases h : sq < y
    · rw [if_pos h]
      refine ⟨List.pairwise_cons.2 ⟨fun z hz => ?_, hp.filter _⟩, fun z hz => ?_⟩
      · rcases List.mem_cons.1 ((List.mem_filter.1 hz).1) with rfl | hz
        · exact h
        · exact Int.lt_trans h (h1 z hz)
      · rcases List.mem_cons.1 hz with rfl | hz
        · exact Or.inl rfl
        · exact Or.inr ((List.mem_filter.1 hz).1)
    · rw [if_neg h]
      refine ⟨?_, fun z hz => ?_⟩
      · by_cases h3 : m - 32 < y
        · rw [if_pos h3]
          refine List.pairwise_cons.2 ⟨fun z hz => ?_, ih1⟩
          rcases ih2 z hz with rfl | hz
          · omega
          · exact h1 z hz
        · rw [if_neg h3]
          exact ih1
      · rcases List.mem_append.1 hz with hz | hz
        · split at hz
          · rw [List.mem_singleton.1 hz]; exact Or.inr (List.mem_cons_self ..)
          · cases hz
        · rcases ih2 z hz with e | e
          · exact Or.inl e
          · exact Or.inr (List.mem_cons_of_mem _ e)

/-- Two lists that rise and have the same numbers are the same. -/
theorem rising_ext {xs ys : List Int} (hx : xs.Pairwise (· < ·)) (hy : ys.Pairwise (· < ·)) (h : ∀ x, x ∈ xs ↔ x ∈ ys) : xs = ys := by
  have n1 : xs.Nodup := hx.imp fun {a b} h => by omega
  have n2 : ys.Nodup := hy.imp fun {a b} h => by omega
  refine List.Perm.eq_of_pairwise (le := (· < ·)) (fun a b _ _ h1 h2 => by omega) hx hy ((List.perm_ext_iff_of_nodup n1 n2).2 h)

theorem rising_pairwise {xs : List Int} (h : Rising xs) : xs.Pairwise (· < ·) := by
  have hlt : ∀ j i, i < j → j < xs.length → xs.getD i 0 < xs.getD j 0 := by
    intro j
    induction j with
    | zero => intro i h1; omega
    | succ j ih =>
      intro i h1 h2
      have h3 := h j (by omega)
      by_cases e : i = j
      · rw [e]; exact h3
      · exact Int.lt_trans (ih i (by omega) (by omega)) h3
  rw [List.pairwise_iff_getElem]
  intro i j hi hj hij
  have := hlt j i hij hj
  rwa [List.getD_eq_getElem?_getD, List.getD_eq_getElem?_getD, List.getElem?_eq_getElem hi, List.getElem?_eq_getElem hj] at this

/-- What a window without a fault is. -/
theorem fault_ok {t : Int} {xs : List Int} (h : faultCode t xs = 0) : ¬ topBad t ∧ ¬ AnyBad t xs ∧ Rising xs ∧ ¬ lastBad t xs := by
  have h1 : ¬ topBad t := fun e => by rw [fault_top e] at h; omega
  have h2 : seenCode t xs = 0 := by
    by_cases e : seenCode t xs = 0
    · exact e
    · rw [fault_seen h1 e] at h
      exact absurd h e
  have h3 : ¬ lastBad t xs := fun e => by rw [fault_last h1 h2 e] at h; omega
  unfold seenCode at h2
  by_cases e : AnyBad t xs
  · rw [if_pos e] at h2; omega
  · rw [if_neg e] at h2
    by_cases e2 : Rising xs
    · exact ⟨h1, e, e2, h3⟩
    · rw [if_neg e2] at h2; omega
theorem oldSeq_nil {t sq : Int} {xs : List Int} (h : faultCode t xs = 0) (hs : 0 ≤ sq ∧ sq ≤ 9999) : oldSeq t xs sq ↔ (sq ≤ t - 32 ∨ sq ∈ xs) := by
  obtain ⟨_, h2, _, h4⟩ := fault_ok h
  unfold oldSeq
  constructor
  · exact fun e => e.2
  · intro e
    refine ⟨fun et => ?_, e⟩
    subst et
    rcases e with e | e
    · omega
    · exact h2 ⟨sq, e, Or.inl (by omega)⟩
/-- What is taken is what the model takes. -/
theorem taken_eq {t sq : Int} {xs ss : List Int} (h : checkCode t xs sq = 0) (hp : ss.Pairwise (· < ·)) (hm : ∀ x, x ∈ ss ↔ x ∈ (sq :: xs).filter fun x => decide (max t sq - 32 < x)) : ss = takeL (max t sq) sq xs := by
  have hf : faultCode t xs = 0 := by
    by_cases e : faultCode t xs = 0
    · exact e
    · rw [check_fault e] at h; exact absurd h e
  have hs : 0 ≤ sq ∧ sq ≤ 9999 := by
    by_cases e : 0 ≤ sq ∧ sq ≤ 9999
    · exact e
    · rw [check_range hf e] at h; omega
  have ho : ¬ oldSeq t xs sq := fun e => by rw [check_old hf hs e] at h; omega
  rw [oldSeq_nil hf hs] at ho
  obtain ⟨_, _, h3, _⟩ := fault_ok hf
  have hsm : max t sq - 32 < sq := by omega
  rw [takeL_ins]
  exact rising_ext hp (ins_rises _ _ _ (rising_pairwise h3) (fun e => ho (Or.inr e))).1 (fun x => by rw [hm x, mem_ins _ _ hsm])
end Go.Proofs.Ytebdgdmdjgkboaa
