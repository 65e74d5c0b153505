/-
  What a window is, once a number was taken: it has no fault; what was taken is old; what is newer than all is not.
-/
import Derived.Test.YtebdgdmdjgkboaaQ5
namespace Go.Proofs.Ytebdgdmdjgkboaa
set_option linter.unusedVariables false

section
variable {t sq : Int} {xs : List Int}
theorem took (h : checkCode t xs sq = 0) : faultCode t xs = 0 ∧ (0 ≤ sq ∧ sq ≤ 9999) ∧ ¬ (sq ≤ t - 32 ∨ sq ∈ xs) := by
  have hf : faultCode t xs = 0 := by
    by_cases e : faultCode t xs = 0
    · exact e
    · rw [check_fault e] at h; exact absurd h e
  have hs : 0 ≤ sq ∧ sq ≤ 9999 := by
    by_cases e : 0 ≤ sq ∧ sq ≤ 9999
    · exact e
    · rw [check_range hf e] at h; omega
  exact ⟨hf, hs, fun e => by rw [check_old hf hs ((oldSeq_nil hf hs).2 e)] at h; omega⟩
theorem seen_in (h : faultCode t xs = 0) {x : Int} (hx : x ∈ xs) : 0 ≤ x ∧ x ≤ t ∧ t - 32 < x := by
  have := (fault_ok h).2.1
  have h2 : ¬ seenBad t x := fun e => this ⟨x, hx, e⟩
  unfold seenBad at h2
  omega
theorem top_in (h : faultCode t xs = 0) (ht : t ≠ -1) : t ∈ xs := by
  have h4 := (fault_ok h).2.2.2
  unfold lastBad at h4
  have hl : xs.length ≠ 0 := fun e => h4 (Or.inr ⟨ht, Or.inl e⟩)
  have he : xs.getD (xs.length - 1) 0 = t := by
    by_cases e : xs.getD (xs.length - 1) 0 = t
    · exact e
    · exact absurd (Or.inr ⟨ht, Or.inr e⟩) h4
  have := getD_mem xs (xs.length - 1) (by omega)
  rwa [he] at this
theorem mem_takeL (h : checkCode t xs sq = 0) (x : Int) : x ∈ takeL (max t sq) sq xs ↔ (x = sq ∨ x ∈ xs) ∧ max t sq - 32 < x := by
  obtain ⟨hf, hs, ho⟩ := took h
  rw [takeL_ins, mem_ins _ _ (by omega)]
  simp [List.mem_filter]
theorem takeL_rises (h : checkCode t xs sq = 0) : (takeL (max t sq) sq xs).Pairwise (· < ·) := by
  obtain ⟨hf, hs, ho⟩ := took h
  rw [takeL_ins]
  exact (ins_rises _ _ _ (rising_pairwise (fault_ok hf).2.2.1) (fun e => ho (Or.inr e))).1
theorem max_in (h : checkCode t xs sq = 0) : max t sq ∈ takeL (max t sq) sq xs := by
  obtain ⟨hf, hs, ho⟩ := took h
  rw [mem_takeL h]
  refine ⟨?_, by omega⟩
  by_cases e : t ≤ sq
  · exact Or.inl (by omega)
  · have := top_in hf (by omega)
    right
    rwa [show max t sq = t by omega]
theorem takeL_in (h : checkCode t xs sq = 0) {x : Int} (hx : x ∈ takeL (max t sq) sq xs) : 0 ≤ x ∧ x ≤ max t sq ∧ max t sq - 32 < x := by
  obtain ⟨hf, hs, ho⟩ := took h
  obtain ⟨h1, h2⟩ := (mem_takeL h x).1 hx
  rcases h1 with rfl | h1
  · omega
  · have := seen_in hf h1
    omega
theorem rising_of {xs : List Int} (h : xs.Pairwise (· < ·)) : Rising xs := by
  intro i hi
  rw [List.pairwise_iff_getElem] at h
  have := h i (i + 1) (by omega) (by omega) (by omega)
  rwa [List.getD_eq_getElem?_getD, List.getD_eq_getElem?_getD, List.getElem?_eq_getElem (by omega : i < xs.length), List.getElem?_eq_getElem (by omega : i + 1 < xs.length)]
theorem last_max {xs : List Int} {m : Int} (hp : xs.Pairwise (· < ·)) (hm : m ∈ xs) (hl : ∀ x ∈ xs, x ≤ m) : xs.getD (xs.length - 1) 0 = m := by
  obtain ⟨j, hj, e⟩ := List.getElem_of_mem hm
  by_cases ej : j = xs.length - 1
  · rw [List.getD_eq_getElem?_getD, ← ej, List.getElem?_eq_getElem hj]; exact e
  · rw [List.pairwise_iff_getElem] at hp
    have := hp j (xs.length - 1) hj (by omega) (by omega)
    have h2 := hl _ (List.getElem_mem (show xs.length - 1 < xs.length by omega))
    omega
theorem took_ok (h : checkCode t xs sq = 0) : faultCode (max t sq) (takeL (max t sq) sq xs) = 0 := by
  obtain ⟨hf, hs, ho⟩ := took h
  have ht := fault_topOk hf
  have hm := max_in h
  have hp := takeL_rises h
  have h1 : ¬ topBad (max t sq) := by unfold topBad; omega
  have h2 : ¬ AnyBad (max t sq) (takeL (max t sq) sq xs) := by
    rintro ⟨x, hx, hb⟩
    have := takeL_in h hx
    unfold seenBad at hb
    omega
  have h3 : seenCode (max t sq) (takeL (max t sq) sq xs) = 0 := by unfold seenCode; rw [if_neg h2, if_pos (rising_of hp)]
  have h5 := last_max hp hm (fun x hx => (takeL_in h hx).2.1)
  have h6 : (takeL (max t sq) sq xs).length ≠ 0 := fun e => by
    rw [List.eq_nil_of_length_eq_zero e] at hm
    cases hm
  refine fault_none h1 h3 ?_
  unfold lastBad
  rw [h5]
  omega
theorem took_seq (h : checkCode t xs sq = 0) : checkCode (max t sq) (takeL (max t sq) sq xs) sq = 9 := by
  obtain ⟨hf, hs, ho⟩ := took h
  have h0 := took_ok h
  refine check_old h0 hs ((oldSeq_nil h0 hs).2 (Or.inr ((mem_takeL h sq).2 ⟨Or.inl rfl, by omega⟩)))
theorem took_seen (h : checkCode t xs sq = 0) {x : Int} (hx : x ∈ xs) : checkCode (max t sq) (takeL (max t sq) sq xs) x = 9 := by
  obtain ⟨hf, hs, ho⟩ := took h
  have ht := fault_topOk hf
  have h0 := took_ok h
  have hxi := seen_in hf hx
  have hs' : 0 ≤ x ∧ x ≤ 9999 := by omega
  refine check_old h0 hs' ((oldSeq_nil h0 hs').2 ?_)
  by_cases e : x ≤ max t sq - 32
  · exact Or.inl e
  · exact Or.inr ((mem_takeL h x).2 ⟨Or.inr hx, by omega⟩)
theorem took_next (h : checkCode t xs sq = 0) (hm : max t sq < 9999) : checkCode (max t sq) (takeL (max t sq) sq xs) (max t sq + 1) = 0 := by
  obtain ⟨hf, hs, ho⟩ := took h
  have h0 := took_ok h
  have hs' : 0 ≤ max t sq + 1 ∧ max t sq + 1 ≤ 9999 := by omega
  refine check_ok h0 hs' (fun e => ?_)
  rcases (oldSeq_nil h0 hs').1 e with e | e
  · omega
  · have := takeL_in h e
    omega
end
end Go.Proofs.Ytebdgdmdjgkboaa
