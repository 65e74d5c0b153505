/-
  What the laws' own helpers do: toByteS makes a copy, eqByteS compares, markByteS writes marks, heldByteS looks whether they are there.
-/
import Derived.Test.YtjdkaaepbkkchaaDoorMem
import Derived.BigQuiet
import Derived.Deep.QuietTactic
namespace Go.Proofs.YtjdkaaepbkkchaaDoor
open Go.RowKit
set_option linter.unusedVariables false
set_option maxRecDepth 100000

theorem info_u8 : (Tryd.prog.info? 5).map (fun i => (i.zero, i.size, i.bytes)) = some (some (.int .u8 0), 1, 1) := by kernel_rfl

/-- The marks that markByteS writes. -/
def marks (K : Int) (n : Nat) : List Int := (List.range n).map fun (j : Nat) => (K + (j : Int)) % 256
theorem marks_len (K : Int) (n : Nat) : (marks K n).length = n := by simp [marks]
theorem marks_at (K : Int) (n j : Nat) (h : j < n) : (marks K n).getD j 0 = (K + (j : Int)) % 256 := by
  simp [marks, List.getD_eq_getElem?_getD, h]
theorem marks_byte (K : Int) (n : Nat) : ∀ x ∈ marks K n, 0 ≤ x ∧ x ≤ 255 := by
  intro x hx
  simp only [marks, List.mem_map, List.mem_range] at hx
  obtain ⟨j, _, rfl⟩ := hx
  omega

/-- n cells from an address on can be written; the first k hold the marks. -/
def Part (w : World) (b off n k : Nat) (K : Int) : Prop :=
  ∀ j, j < n → (∃ v, w.cell? ⟨b, off + j, none⟩ = some v) ∧ w.frozen? ⟨b, off + j, none⟩ = false ∧ (j < k → w.cell? ⟨b, off + j, none⟩ = some (.int .u8 ((K + (j : Int)) % 256)))
theorem Part.step {w : World} {b off n k : Nat} {K : Int} (h : Part w b off n k K) : Part (w.setCell ⟨b, off + k, none⟩ (.int .u8 ((K + (k : Int)) % 256))) b off n (k + 1) K := by
  intro j hj
  obtain ⟨⟨v, hv⟩, hf, hm⟩ := h j hj
  refine ⟨?_, by rw [World.frozen?_setCell]; exact hf, fun hlt => ?_⟩
  · by_cases e : k = j
    · subst e; exact ⟨_, World.cell?_setCell_same _ _ _ hv⟩
    · exact ⟨v, (World.cell?_setCell_other _ _ _ _ (by simp)).trans hv⟩
  · by_cases e : k = j
    · subst e; exact World.cell?_setCell_same _ _ _ hv
    · exact (World.cell?_setCell_other _ _ _ _ (by simp)).trans (hm (by omega))
theorem Part.done {w : World} {b off n lo hi : Nat} {K : Int} (h : Part w b off n n K) (h1 : lo ≤ b) (h2 : b < hi) (ht : hi ≤ w.heap.size) (hm : n ≤ maxLen) : Wr w lo hi (some ⟨b, off, none⟩) n (marks K n) := by
  refine ⟨⟨marks_len _ _, hm, ht, marks_byte _ _, fun _ => ⟨b, off, rfl, h1, h2, fun j hj => ?_⟩⟩, fun b' off' e j hj => ?_⟩
  · rw [marks_at K n j hj]; exact (h j hj).2.2 hj
  · injection e with e
    injection e with e1 e2
    subst e1 e2
    exact (h j hj).2.1
theorem Keep.drewN {lo hi : Nat} {a w : World} (h : Keep lo hi a w) (q : Nat) : Keep lo hi a (w.drewN q) := ⟨h.os, h.tape, h.output, h.size, h.block⟩

/-- 'make([]byte, n)': a new block. -/
theorem run_make_u8 (n : Nat) (hn : n ≤ 281474976710656) (w : World) : (Instr.makeSlice 22 (.int .i64 (n : Int)) (.int .i64 (n : Int))).run Tryd.prog w =
    .ok (.slice (some ⟨w.heap.size, 0, none⟩) n n) (w.alloc (.cells (madeCells #[.int .u8 0] n) 5)) := by
  obtain ⟨i, hi, hz, hs, hb⟩ := info_parts info_u8
  have hr := run_make (P := Tryd.prog) w 22 5 i (.int .u8 0) Tryd.underlying22 hi hz .i64 .i64 n n (by omega) (by omega) (by rw [hb]; omega) (by omega)
  simp only [Int.toNat_natCast, hs, Nat.mul_one] at hr
  exact hr

set_option maxHeartbeats 400000 in
theorem toByteS_any (A : Option Addr) (n c lo hi : Nat) (xs : List Int) (w : World) (h : Rd w lo hi A n xs) (hn : n ≤ 281474976710656) :
    Calls Tryd.prog 24 #[.slice A n c] w fun e w' => ∃ g, e = .returned (.slice (some ⟨g, 0, none⟩) n n) ∧ Wr w' w.heap.size w'.heap.size (some ⟨g, 0, none⟩) n xs ∧ Below w.heap.size w w' := by
  have hmk := run_make_u8 n hn
  have hint := h.int
  go_enter Tryd.func24, Tryd.ntmps24
  go_wp2
  go_loopw [4] (fun i wr => ∃ k : Nat, k ≤ n ∧ i = .int .i64 k ∧ Fill wr w.heap.size n k xs ∧ Below w.heap.size w wr) (fun i _ => n - (intOf i).toNat)
  case atStart => exact ⟨0, Nat.zero_le _, rfl, Fill.start w _ _ (size_madeCells _ _) xs, (Below.refl _ _).alloc (Nat.le_refl _) _⟩
  case round =>
    obtain ⟨k, hk, rfl, hf, hb⟩ := hrel
    by_cases hlt : k < n
    · obtain ⟨b, off, rfl, h1, h2, hc⟩ := h.at_ (by omega)
      have ht := h.top
      have hc1 : wr.cell? ⟨b, off + k, none⟩ = some (.int .u8 (xs.getD k 0)) := (hb.cell (p := ⟨b, off + k, none⟩) (by show b < _; omega)).trans (hc k hlt)
      obtain ⟨v, hv⟩ := hf.cell hlt
      have hz := hf.frozen k
      have hs := hf.step hlt
      have hb2 : Below w.heap.size w (wr.setCell ⟨w.heap.size, k, none⟩ (.int .u8 (xs.getD k 0))) := hb.setCell (Nat.le_refl _) _
      have HF := Lib.hid hs
      have HB := Lib.hid hb2
      clear hs hb2 hf hb hc hmk
      go_wp2
      go_roundw
      case rel => exact ⟨k + 1, by omega, by go_num, HF.out, HB.out⟩
      case measure => simp [intOf]; omega
    · obtain rfl : k = n := by omega
      have hlt' := hf.lt
      go_wp2
      go_ret
      exact ⟨_, rfl, hf.done h.len h.max h.byte (Nat.le_refl _) hlt' (Nat.le_refl _), hb⟩

set_option maxHeartbeats 400000 in
/-- Two slices that read as the same bytes: they are the same. -/
theorem eqByteS_true (A A' : Option Addr) (n c c' lo hi lo' hi' : Nat) (xs : List Int) (w : World) (h : Rd w lo hi A n xs) (h' : Rd w lo' hi' A' n xs) :
    Calls Tryd.prog 26 #[.slice A n c, .slice A' n c'] w fun e w' => e = .returned (.bool true) ∧ ∃ q, w' = w.drewN q := by
  have hint := h.int
  go_enter Tryd.func26, Tryd.ntmps26
  go_wp2
  go_loopw [5] (fun i wr => ∃ k : Nat, k ≤ n ∧ i = .int .i64 k ∧ ∃ q, wr = w.drewN q) (fun i _ => n - (intOf i).toNat)
  case atStart => exact ⟨0, Nat.zero_le _, rfl, 0, rfl⟩
  case round =>
    obtain ⟨k, hk, rfl, q, rfl⟩ := hrel
    by_cases hlt : k < n
    · obtain ⟨b, off, rfl, h1, h2, hc⟩ := h.at_ (by omega)
      obtain ⟨b', off', rfl, h1', h2', hc'⟩ := h'.at_ (by omega)
      have hc1 := hc k hlt
      have hc1' := hc' k hlt
      have hi1 : (k : Int) < (n : Int) := by omega
      have hi0 : (0 : Int) ≤ (k : Int) := by omega
      clear hc hc' h h'
      go_wp2
      go_quiet (fail)
      go_wp2
      go_roundw
      case rel => exact ⟨k + 1, by omega, by go_num, _, rfl⟩
      case measure => simp [intOf]; omega
    · obtain rfl : k = n := by omega
      go_wp2
      go_ret
      exact ⟨rfl, q, rfl⟩

set_option maxHeartbeats 400000 in
/-- The marks K, K + 1, .. (what a byte leaves of them) are written. -/
theorem markByteS_any (A : Option Addr) (n c lo hi : Nat) (K : Int) (xs : List Int) (w : World) (h : Wr w lo hi A n xs) (hK0 : 0 ≤ K) (hK : K + n ≤ 9223372036854775807) :
    Calls Tryd.prog 27 #[.slice A n c, .int .i64 K] w fun e w' => e = .returned (.int .i64 (K + (n : Int))) ∧ Wr w' lo hi A n (marks K n) ∧ Keep lo hi w w' := by
  have hint := h.1.int
  by_cases h0 : n = 0
  · subst h0
    go_enter Tryd.func27, Tryd.ntmps27
    go_wp2
    refine wp_loop_rounds 1 ?_
    rw [rounds_succ]
    go_wp2
    go_ret
    exact ⟨by simp, ⟨⟨marks_len _ _, Nat.zero_le _, h.1.top, marks_byte _ _, fun h => absurd h (by omega)⟩, fun _ _ _ j hj => absurd hj (by omega)⟩, Keep.refl _ _ _⟩
  · obtain ⟨b, off, rfl, h1, h2, hc⟩ := h.1.at_ (by omega)
    have hfz := h.2 b off rfl
    have hmax := h.1.max
    have htop := h.1.top
    have hp : Part w b off n 0 K := fun j hj => ⟨⟨_, hc j hj⟩, hfz j hj, fun h => by omega⟩
    clear hc hfz h
    go_enter Tryd.func27, Tryd.ntmps27
    go_wp2
    go_loopw [1, 5] (fun m i wr => ∃ k : Nat, k ≤ n ∧ i = .int .i64 k ∧ m = .int .i64 (K + (k : Int)) ∧ Part wr b off n k K ∧ Keep lo hi w wr) (fun _ i _ => n - (intOf i).toNat)
    case atStart => exact ⟨0, Nat.zero_le _, rfl, by simp, hp, Keep.refl _ _ _⟩
    case round =>
      obtain ⟨k, hk, rfl, rfl, hpt, hke⟩ := hrel
      by_cases hlt : k < n
      · obtain ⟨⟨v, hv⟩, hf, _⟩ := hpt k hlt
        have hs := hpt.step
        have hke2 := hke.setCell (p := ⟨b, off + k, none⟩) ⟨h1, h2⟩ (.int .u8 ((K + (k : Int)) % 256))
        have HF := Lib.hid hs
        have HB := Lib.hid hke2
        clear hs hke2 hpt hke hp
        go_wp2
        go_roundw
        case rel => exact ⟨k + 1, by omega, by go_num, by go_num, HF.out, HB.out⟩
        case measure => simp [intOf]; omega
      · obtain rfl : k = n := by omega
        go_wp2
        go_ret
        exact ⟨rfl, hpt.done h1 h2 (Nat.le_trans htop hke.size) hmax, hke⟩

set_option maxHeartbeats 400000 in
/-- The marks are there. -/
theorem heldByteS_any (A : Option Addr) (n c lo hi : Nat) (K : Int) (w : World) (h : Rd w lo hi A n (marks K n)) (hK0 : 0 ≤ K) (hK : K + n ≤ 9223372036854775807) :
    Calls Tryd.prog 89 #[.slice A n c, .int .i64 K] w fun e w' => e = .returned (.int .i64 (K + (n : Int))) ∧ w = w' := by
  have hint := h.int
  go_enter Tryd.func89, Tryd.ntmps89
  go_wp2
  go_loop [1, 5] (fun m i => ∃ k : Nat, k ≤ n ∧ i = .int .i64 k ∧ m = .int .i64 (K + (k : Int))) (fun _ i => n - (intOf i).toNat)
  case atStart => exact ⟨0, Nat.zero_le _, rfl, by simp⟩
  case round =>
    obtain ⟨k, hk, rfl, rfl⟩ := hrel
    by_cases hlt : k < n
    · obtain ⟨b, off, rfl, h1, h2, hc⟩ := h.at_ (by omega)
      have hc1 := hc k hlt
      rw [marks_at K n k hlt] at hc1
      clear hc h
      go_wp2
      go_round
      case rel => exact ⟨k + 1, by omega, by go_num, by go_num⟩
      case measure => simp [intOf]; omega
    · obtain rfl : k = n := by omega
      go_wp2
      go_ret
      exact ⟨rfl, rfl⟩
end Go.Proofs.YtjdkaaepbkkchaaDoor
