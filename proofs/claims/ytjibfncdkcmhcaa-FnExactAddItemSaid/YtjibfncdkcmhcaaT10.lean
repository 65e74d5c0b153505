/-
  heldItemS.
-/
import Derived.Test.YtjibfncdkcmhcaaT9
namespace Go.Proofs.Ytjibfncdkcmhcaa
open Go.RowKit
set_option linter.unusedVariables false
set_option maxRecDepth 100000

set_option maxHeartbeats 2000000 in
theorem heldItemS_any (A : Option Addr) (n c lo hi : Nat) (K : Int) (xs : List Itm) (w : World) (hl : xs.length = n) (h : Rt w lo hi A n (markT K xs)) (hK0 : 0 ≤ K) (hK : K + ((3 * n + sumLen xs : Nat) : Int) ≤ 9223372036854775807) :
    Calls Try.prog 90 #[.slice A n c, .int .i64 K] w fun e w' => e = .returned (.int .i64 (K + ((3 * n + sumLen xs : Nat) : Int))) ∧ w = w' := by
  have hint := h.int
  have hoa := offT_all xs
  rw [hl] at hoa
  rw [← hoa] at hK ⊢
  go_enter Try.func90, Try.ntmps90
  go_wp2
  go_loopw [1, 5] (fun m i wr => ∃ k : Nat, k ≤ n ∧ i = .int .i64 (k : Int) ∧ m = .int .i64 (K + (offT xs k : Int)) ∧ wr = w) (fun _ i _ => n - (intOf i).toNat)
  case atStart => exact ⟨0, Nat.zero_le _, rfl, by simp [offT, sumLen], rfl⟩
  case round =>
    obtain ⟨k, hk, rfl, rfl, rfl⟩ := hrel
    by_cases hlt : k < n
    · obtain ⟨b, off, rfl, h1, h2, hc⟩ := h.at_ (by omega)
      have hit := hc k hlt
      rw [markT_at K xs k (by omega)] at hit
      have hos := offT_succ (xs := xs) (k := k) (by omega)
      have hol := offT_le xs (k := k + 1) (n := n) (by omega)
      rw [hoa] at hK
      obtain ⟨a0, ⟨G, cg, a1, rg, _⟩, a2, a3⟩ := hit
      rw [markIt_len] at a1 rg
      have hxl := rg.int
      simp only [markIt] at a0 a2 a3 rg
      generalize (xs.getD k it0).2.1.length = ln at *
      have i0 : (0 : Int) ≤ (k : Int) := by omega
      have i1 : (k : Int) < (n : Int) := by omega
      have HE := Lib.hid (show K + (offT xs k : Int) + 1 + (ln : Int) + 1 + 1 = K + (offT xs (k + 1) : Int) by omega)
      have b3 : K + (offT xs k : Int) + 1 + (ln : Int) + 1 + 1 ≤ 9223372036854775807 := by omega
      have b0 : 0 ≤ K + (offT xs k : Int) := by omega
      generalize K + (offT xs k : Int) = M at *
      have HC := Lib.hid (heldByteS_any G ln cg lo hi (M + 1) _ rg (by omega) (by omega))
      have hnn : ¬ M + 1 + (ln : Int) < 0 := by omega
      clear hos hol hc h rg
      go_wp2_with fail
      refine HC.out.mono ?_
      rintro e w2 ⟨rfl, rfl⟩
      go_wp2_with fail
      go_roundw
      case rel => exact ⟨k + 1, by omega, by go_num, by rw [← HE.out], by first | rfl | trivial⟩
      case measure => simp [intOf]; omega
    · obtain rfl : k = n := by omega
      go_wp2
      go_ret
      exact ⟨by first | rfl | trivial, by first | rfl | trivial⟩
end Go.Proofs.Ytjibfncdkcmhcaa
