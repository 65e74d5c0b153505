/-
  impl.GetNumber.
-/
import Derived.Test.YtjdkaaepbkkchaaDoorOut
import Derived.Test.YtjdkaaepbkkchaaDoorNum
namespace Go.Proofs.YtjdkaaepbkkchaaDoor
open Go.RowKit
set_option linter.unusedVariables false
set_option maxRecDepth 100000

theorem ofInt_i64 (a : Nat) (ha : a < 9223372036854775808) : (BitVec.ofInt 64 (a : Int)).toNat = a := by
  rw [BitVec.ofInt_natCast, BitVec.toNat_ofNat]; exact Nat.mod_eq_of_lt (by omega)
/-- A number times 256, or a byte: their sum. -/
theorem or_byte (a b : Int) (ha : 0 ≤ a ∧ a ≤ 281474976710655) (hb : 0 ≤ b ∧ b ≤ 255) : bits .or .i64 (a * 256) b = a * 256 + b := by
  obtain ⟨m, rfl⟩ := Int.eq_ofNat_of_zero_le ha.1
  obtain ⟨k, rfl⟩ := Int.eq_ofNat_of_zero_le hb.1
  have h1 : ((m : Int) * 256) = ((m * 256 : Nat) : Int) := by omega
  rw [h1]
  show IntKind.i64.wrap ((BitVec.ofInt 64 ((m * 256 : Nat) : Int) ||| BitVec.ofInt 64 (k : Int)).toNat : Int) = _
  rw [BitVec.toNat_or, ofInt_i64 _ (by omega), ofInt_i64 _ (by omega)]
  have h2 : m * 256 ||| k = m * 256 + k := by
    have := Nat.shiftLeft_add_eq_or_of_lt (i := 8) (b := k) (by omega) m
    rw [Nat.shiftLeft_eq] at this
    exact this.symm
  rw [h2, IntKind.wrap_i64]
  omega

set_option maxHeartbeats 400000 in
theorem implGet_any (A : Option Addr) (n c lo hi : Nat) (xs : List Int) (w : World) (h : Rd w lo hi A n xs) :
    Calls Tryd.prog 84 #[.slice A n c] w fun e w' => e = .returned (.agg (if 1 ≤ n ∧ n ≤ 7 then #[.int .i64 0, .int .i64 (val xs)] else #[.int .i64 2, .int .i64 0])) ∧ Below w.heap.size w w' := by
  have hint := h.int
  by_cases h17 : 1 ≤ n ∧ n ≤ 7
  · rw [if_pos h17]
    go_enter Tryd.func84, Tryd.ntmps84
    go_wp2_with fail
    refine (outside1 _ 1 (n : Int) 1 7 false _ ?_ ?_ ?_ ?_ ?_).mono ?_
    · simp
    · go_simp
    · go_simp
    · go_simp
    · simp; omega
    rintro e w1 ⟨rfl, hb1⟩
    have hz1 := hb1.size
    simp only [World.size_alloc] at hz1
    have hb := (((Below.refl w.heap.size w).alloc (Nat.le_refl _) _).alloc (by simp) _).trans (hb1.mono (by simp; omega))
    have d0 := hb1.cell (p := ⟨w.heap.size, 0, none⟩) (by simp; omega)
    have d1 := hb1.cell (p := ⟨w.heap.size, 1, none⟩) (by simp; omega)
    have f0 := hb1.frozen (p := ⟨w.heap.size, 0, none⟩) (by simp; omega)
    have f1 := hb1.frozen (p := ⟨w.heap.size, 1, none⟩) (by simp; omega)
    simp [go_sem] at d0 d1 f0 f1
    clear hb1
    go_wp2_with fail
    have hr := h.keep (Keep.of_below hb 0 0) (by omega)
    go_loop [3, 14] (fun m i => ∃ k : Nat, k ≤ n ∧ i = .int .i64 k ∧ m = .int .i64 (val (xs.take k))) (fun _ i => n - (intOf i).toNat)
    case atStart => exact ⟨0, Nat.zero_le _, rfl, rfl⟩
    case round =>
      obtain ⟨k, hk, rfl, rfl⟩ := hrel
      by_cases hlt : k < n
      · obtain ⟨b, off, rfl, h1, h2, hc⟩ := hr.at_ (by omega)
        have hcc := hc k hlt
        have hby := hr.byteAt' hlt
        have hsm := val_small xs hr.byte k (by rw [hr.len]; omega) (by omega)
        have HV := Lib.hid (val_take' xs k (by rw [hr.len]; omega))
        clear hc h hr hb
        go_wp2
        go_round
        case rel => exact ⟨k + 1, by omega, by go_num, by rw [HV.out, or_byte _ _ hsm hby]⟩
        case measure => simp [intOf]; omega
      · obtain rfl : k = n := by omega
        have he : xs.take k = xs := List.take_of_length_le (by rw [h.len]; omega)
        rw [he]
        clear he
        obtain ⟨e0, e1⟩ := two_cells d0 d1 (.int .i64 0) (.int .i64 (val xs))
        have hz : Below w.heap.size w ((w1.setCell ⟨w.heap.size, 0, none⟩ (.int .i64 0)).setCell ⟨w.heap.size, 1, none⟩ (.int .i64 (val xs))) := (hb.setCell (Nat.le_refl _) _).setCell (Nat.le_refl _) _
        clear hb
        go_wp2
        exact bodyPost_ret (v := .agg #[.int .i64 0, .int .i64 (val xs)]) (by simp [results, Tryd.results84, go_sem, e0, e1]) rfl ⟨rfl, hz⟩
  · rw [if_neg h17]
    go_enter Tryd.func84, Tryd.ntmps84
    go_wp2_with fail
    refine (outside1 _ 1 (n : Int) 1 7 true _ ?_ ?_ ?_ ?_ ?_).mono ?_
    · simp
    · go_simp
    · go_simp
    · go_simp
    · simp; omega
    rintro e w1 ⟨rfl, hb1⟩
    have hz1 := hb1.size
    simp only [World.size_alloc] at hz1
    have hb := (((Below.refl w.heap.size w).alloc (Nat.le_refl _) _).alloc (by simp) _).trans (hb1.mono (by simp; omega))
    have d0 := hb1.cell (p := ⟨w.heap.size, 0, none⟩) (by simp; omega)
    have d1 := hb1.cell (p := ⟨w.heap.size, 1, none⟩) (by simp; omega)
    have f0 := hb1.frozen (p := ⟨w.heap.size, 0, none⟩) (by simp; omega)
    have f1 := hb1.frozen (p := ⟨w.heap.size, 1, none⟩) (by simp; omega)
    simp [go_sem] at d0 d1 f0 f1
    clear hb1
    go_wp2_with fail
    obtain ⟨e0, e1⟩ := two_cells d0 d1 (.int .i64 2) (.int .i64 0)
    have hz : Below w.heap.size w ((w1.setCell ⟨w.heap.size, 0, none⟩ (.int .i64 2)).setCell ⟨w.heap.size, 1, none⟩ (.int .i64 0)) := (hb.setCell (Nat.le_refl _) _).setCell (Nat.le_refl _) _
    exact bodyPost_ret (v := .agg #[.int .i64 2, .int .i64 0]) (by simp [results, Tryd.results84, go_sem, e0, e1]) rfl ⟨rfl, hz⟩
end Go.Proofs.YtjdkaaepbkkchaaDoor
