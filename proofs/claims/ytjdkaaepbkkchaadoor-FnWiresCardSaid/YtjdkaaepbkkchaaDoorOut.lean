/-
  impl.outside: is one of the bounds not kept?
-/
import Derived.Test.YtjdkaaepbkkchaaDoorBase
namespace Go.Proofs.YtjdkaaepbkkchaaDoor
open Go.RowKit
set_option linter.unusedVariables false
set_option maxRecDepth 100000

/-- A row of bounds: value, first, last. -/
def Bounds (w : World) (b n : Nat) (bs : Nat → Int × Int × Int) : Prop :=
  ∀ j, j < n → w.cell? ⟨b, j * 3, none⟩ = some (.int .i64 (bs j).1) ∧ w.cell? ⟨b, j * 3 + 1, none⟩ = some (.int .i64 (bs j).2.1) ∧ w.cell? ⟨b, j * 3 + 2, none⟩ = some (.int .i64 (bs j).2.2)

set_option maxHeartbeats 400000 in
theorem outside_no (b n c : Nat) (bs : Nat → Int × Int × Int) (w : World) (hb : b < w.heap.size) (hn : n ≤ 1000) (h : Bounds w b n bs) (hk : ∀ j, j < n → (bs j).2.1 ≤ (bs j).1 ∧ (bs j).1 ≤ (bs j).2.2) :
    Calls Tryd.prog 56 #[.slice (some ⟨b, 0, none⟩) n c] w fun e w' => e = .returned (.bool false) ∧ Below w.heap.size w w' := by
  go_enter Tryd.func56, Tryd.ntmps56
  go_wp2_with fail
  go_loopw [7] (fun i wr => ∃ k : Nat, k ≤ n ∧ i = .int .i64 k ∧ Below w.heap.size w wr) (fun i _ => n - (intOf i).toNat)
  case atStart => exact ⟨0, Nat.zero_le _, rfl, Below.refl _ _⟩
  case round =>
    obtain ⟨k, hkn, rfl, hbw⟩ := hrel
    by_cases hlt : k < n
    · obtain ⟨h1, h2, h3⟩ := h k hlt
      obtain ⟨k1, k2⟩ := hk k hlt
      have g1 := (hbw.cell (p := ⟨b, k * 3, none⟩) (by exact hb)).trans h1
      have g2 := (hbw.cell (p := ⟨b, k * 3 + 1, none⟩) (by exact hb)).trans h2
      have g3 := (hbw.cell (p := ⟨b, k * 3 + 2, none⟩) (by exact hb)).trans h3
      clear h hk
      go_wp2_with fail
      go_roundw
      case rel => exact ⟨k + 1, by omega, by go_num, ((hbw.alloc hbw.size _))⟩
      case measure => simp [intOf]; omega
    · obtain rfl : k = n := by omega
      clear h hk
      go_wp2_with fail
      go_ret
      exact ⟨rfl, hbw⟩

set_option maxHeartbeats 400000 in
theorem outside_yes (b n c j0 : Nat) (bs : Nat → Int × Int × Int) (w : World) (hb : b < w.heap.size) (hn : n ≤ 1000) (h : Bounds w b n bs) (hj : j0 < n) (hk : ∀ j, j < j0 → (bs j).2.1 ≤ (bs j).1 ∧ (bs j).1 ≤ (bs j).2.2)
    (hy : (bs j0).1 < (bs j0).2.1 ∨ (bs j0).2.2 < (bs j0).1) :
    Calls Tryd.prog 56 #[.slice (some ⟨b, 0, none⟩) n c] w fun e w' => e = .returned (.bool true) ∧ Below w.heap.size w w' := by
  go_enter Tryd.func56, Tryd.ntmps56
  go_wp2_with fail
  go_loopw [7] (fun i wr => ∃ k : Nat, k ≤ j0 ∧ i = .int .i64 k ∧ Below w.heap.size w wr) (fun i _ => j0 - (intOf i).toNat)
  case atStart => exact ⟨0, Nat.zero_le _, rfl, Below.refl _ _⟩
  case round =>
    obtain ⟨k, hkn, rfl, hbw⟩ := hrel
    have hltn : k < n := by omega
    obtain ⟨h1, h2, h3⟩ := h k hltn
    have g1 := (hbw.cell (p := ⟨b, k * 3, none⟩) (by exact hb)).trans h1
    have g2 := (hbw.cell (p := ⟨b, k * 3 + 1, none⟩) (by exact hb)).trans h2
    have g3 := (hbw.cell (p := ⟨b, k * 3 + 2, none⟩) (by exact hb)).trans h3
    clear h
    by_cases hlt : k < j0
    · obtain ⟨k1, k2⟩ := hk k hlt
      clear hk
      go_wp2_with fail
      go_roundw
      case rel => exact ⟨k + 1, by omega, by go_num, ((hbw.alloc hbw.size _))⟩
      case measure => simp [intOf]; omega
    · obtain rfl : k = j0 := by omega
      clear hk hlt
      rcases hy with hy | hy
      · go_wp2_with fail
        go_ret
        exact ⟨rfl, hbw.alloc hbw.size _⟩
      · by_cases hz : (bs k).1 < (bs k).2.1
        · go_wp2_with fail
          go_ret
          exact ⟨rfl, hbw.alloc hbw.size _⟩
        · go_wp2_with fail
          go_ret
          exact ⟨rfl, hbw.alloc hbw.size _⟩

/-- One bound. -/
theorem outside1 (b c : Nat) (v f l : Int) (r : Bool) (w : World) (hb : b < w.heap.size) (h0 : w.cell? ⟨b, 0, none⟩ = some (.int .i64 v)) (h1 : w.cell? ⟨b, 1, none⟩ = some (.int .i64 f)) (h2 : w.cell? ⟨b, 2, none⟩ = some (.int .i64 l))
    (hr : decide (v < f ∨ l < v) = r) :
    Calls Tryd.prog 56 #[.slice (some ⟨b, 0, none⟩) 1 c] w fun e w' => e = .returned (.bool r) ∧ Below w.heap.size w w' := by
  have hB : Bounds w b 1 fun _ => (v, f, l) := by
    intro j hj
    obtain rfl : j = 0 := by omega
    exact ⟨h0, h1, h2⟩
  by_cases hv : v < f ∨ l < v
  · obtain rfl : true = r := by rw [← hr]; simp [hv]
    exact outside_yes b 1 c 0 _ w hb (by omega) hB (by omega) (fun j hj => by omega) hv
  · obtain rfl : false = r := by rw [← hr]; simp [hv]
    exact outside_no b 1 c _ w hb (by omega) hB (fun j hj => by simp only []; omega)
end Go.Proofs.YtjdkaaepbkkchaaDoor
