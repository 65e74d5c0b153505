/-
  SHA-256 by the developers' functions: turning; the state's start; one round.
-/
import Derived.Test.YtpnpjngaenlciaaDoorH3
namespace Go.Proofs.YtpnpjngaenlciaaDoor
open Go.RowKit
set_option linter.unusedVariables false
set_option maxRecDepth 100000

theorem bits_or_comm (a b : Int) : bits .or .u32 a b = bits .or .u32 b a := by
  show IntKind.u32.wrap ((BitVec.ofInt 32 a ||| BitVec.ofInt 32 b).toNat : Int) = IntKind.u32.wrap ((BitVec.ofInt 32 b ||| BitVec.ofInt 32 a).toNat : Int)
  rw [BitVec.or_comm]
theorem turnR_walk (x : Int) (k : Nat) (h : k ≤ 32) : bits .or .u32 (x / 2 ^ k) (x * 2 ^ (32 - k) % 4294967296) = turnR x (k : Int) := by
  rw [bits_or_comm]
  unfold turnR turnL
  rw [show (32 - (k : Int)).toNat = 32 - k from by omega, show (32 - (32 - (k : Int))).toNat = k from by omega]

theorem belowN {B : Nat} {a w : World} (h : Below B a w) (n : Nat) : Below B a (w.drewN n) := ⟨h.os, h.tape, h.output, h.size, h.block⟩

set_option maxHeartbeats 400000 in
theorem turnRight_any (x : Int) (k : Nat) (w : World) (hx : 0 ≤ x ∧ x ≤ 4294967295) (hb : 1 ≤ k ∧ k ≤ 31) :
    Calls Tryd.prog 95 #[.int .u32 x, .int .u64 (k : Int)] w fun e w' => e = .returned (.int .u32 (turnR x (k : Int))) ∧ w = w' := by
  have HT := Lib.hid (turnR_walk x k (by omega))
  have hW : IntKind.u64.wrap (32 - (k : Int)) = ((32 - k : Nat) : Int) := by rw [IntKind.wrap_u64]; omega
  go_enter Tryd.func95, Tryd.ntmps95
  go_wp2_with fail
  go_ret
  exact ⟨by rw [HT.out]; rfl, rfl⟩
theorem turnRight_at (x k : Int) (w : World) (hx : 0 ≤ x ∧ x ≤ 4294967295) (hb : 1 ≤ k ∧ k ≤ 31) :
    Calls Tryd.prog 95 #[.int .u32 x, .int .u64 k] w fun e w' => e = .returned (.int .u32 (turnR x k)) ∧ w = w' := by
  obtain ⟨n, rfl⟩ := Int.eq_ofNat_of_zero_le (show 0 ≤ k by omega)
  exact turnRight_any x n w hx (by omega)

set_option maxHeartbeats 400000 in
theorem turnThrice_any (x a b c : Int) (w : World) (hx : 0 ≤ x ∧ x ≤ 4294967295) (ha : 1 ≤ a ∧ a ≤ 31) (hb : 1 ≤ b ∧ b ≤ 31) (hc : 1 ≤ c ∧ c ≤ 31) :
    Calls Tryd.prog 93 #[.int .u32 x, .int .u64 a, .int .u64 b, .int .u64 c] w fun e w' => e = .returned (.int .u32 (bits .xor .u32 (bits .xor .u32 (turnR x a) (turnR x b)) (turnR x c))) ∧ w = w' := by
  go_enter Tryd.func93, Tryd.ntmps93
  go_wp2_with fail
  refine (turnRight_at x a _ hx ha).mono ?_
  rintro e w1 ⟨rfl, rfl⟩
  go_wp2_with fail
  refine (turnRight_at x b _ hx hb).mono ?_
  rintro e w1 ⟨rfl, rfl⟩
  go_wp2_with fail
  refine (turnRight_at x c _ hx hc).mono ?_
  rintro e w1 ⟨rfl, rfl⟩
  go_wp2_with fail
  go_ret
  exact ⟨rfl, rfl⟩

set_option maxHeartbeats 400000 in
theorem turnTwice_any (x a b : Int) (c : Nat) (w : World) (hx : 0 ≤ x ∧ x ≤ 4294967295) (ha : 1 ≤ a ∧ a ≤ 31) (hb : 1 ≤ b ∧ b ≤ 31) (hc : c ≤ 31) :
    Calls Tryd.prog 92 #[.int .u32 x, .int .u64 a, .int .u64 b, .int .u64 (c : Int)] w fun e w' => e = .returned (.int .u32 (bits .xor .u32 (bits .xor .u32 (turnR x a) (turnR x b)) (x / 2 ^ c))) ∧ w = w' := by
  go_enter Tryd.func92, Tryd.ntmps92
  go_wp2_with fail
  refine (turnRight_at x a _ hx ha).mono ?_
  rintro e w1 ⟨rfl, rfl⟩
  go_wp2_with fail
  refine (turnRight_at x b _ hx hb).mono ?_
  rintro e w1 ⟨rfl, rfl⟩
  go_wp2_with fail
  go_ret
  exact ⟨rfl, rfl⟩
theorem sig0_at (x : Int) (w : World) (hx : 0 ≤ x ∧ x ≤ 4294967295) :
    Calls Tryd.prog 92 #[.int .u32 x, .int .u64 7, .int .u64 18, .int .u64 3] w fun e w' => e = .returned (.int .u32 (sig0 x)) ∧ w = w' := turnTwice_any x 7 18 3 w hx (by omega) (by omega) (by omega)
theorem sig1_at (x : Int) (w : World) (hx : 0 ≤ x ∧ x ≤ 4294967295) :
    Calls Tryd.prog 92 #[.int .u32 x, .int .u64 17, .int .u64 19, .int .u64 10] w fun e w' => e = .returned (.int .u32 (sig1 x)) ∧ w = w' := turnTwice_any x 17 19 10 w hx (by omega) (by omega) (by omega)

/-- Eight words, as a value. -/
def A8 (V : Nat → Int) : Value := .agg #[.int .u32 (V 0), .int .u32 (V 1), .int .u32 (V 2), .int .u32 (V 3), .int .u32 (V 4), .int .u32 (V 5), .int .u32 (V 6), .int .u32 (V 7)]

set_option maxHeartbeats 1000000 in
theorem newHash_any (w : World) : Calls Tryd.prog 77 #[] w fun e w' => e = .returned (A8 H0) ∧ Below w.heap.size w w' := by
  go_enter Tryd.func77, Tryd.ntmps77
  go_wp2_with fail
  go_returns
  exact ⟨rfl, by go_grown⟩

theorem rndA8 (V : Nat → Int) (k w x : Int) (hx : x = (k + w) % 4294967296) : A8 (rnd V k w) = .agg #[
    .int .u32 ((V 7 + bits .xor .u32 (bits .xor .u32 (turnR (V 4) 6) (turnR (V 4) 11)) (turnR (V 4) 25) + bits .xor .u32 (bits .and .u32 (V 4) (V 5)) (bits .and .u32 (bits .xor .u32 IntKind.u32.max (V 4)) (V 6)) + x +
      (bits .xor .u32 (bits .xor .u32 (turnR (V 0) 2) (turnR (V 0) 13)) (turnR (V 0) 22) + bits .xor .u32 (bits .xor .u32 (bits .and .u32 (V 0) (V 1)) (bits .and .u32 (V 0) (V 2))) (bits .and .u32 (V 1) (V 2)))) % 4294967296),
    .int .u32 (V 0), .int .u32 (V 1), .int .u32 (V 2),
    .int .u32 ((V 3 + (V 7 + bits .xor .u32 (bits .xor .u32 (turnR (V 4) 6) (turnR (V 4) 11)) (turnR (V 4) 25) + bits .xor .u32 (bits .and .u32 (V 4) (V 5)) (bits .and .u32 (bits .xor .u32 IntKind.u32.max (V 4)) (V 6)) + x)) % 4294967296),
    .int .u32 (V 4), .int .u32 (V 5), .int .u32 (V 6)] := by
  have e0 : rnd V k w 0 = (V 7 + bits .xor .u32 (bits .xor .u32 (turnR (V 4) 6) (turnR (V 4) 11)) (turnR (V 4) 25) + bits .xor .u32 (bits .and .u32 (V 4) (V 5)) (bits .and .u32 (bits .xor .u32 IntKind.u32.max (V 4)) (V 6)) + x +
      (bits .xor .u32 (bits .xor .u32 (turnR (V 0) 2) (turnR (V 0) 13)) (turnR (V 0) 22) + bits .xor .u32 (bits .xor .u32 (bits .and .u32 (V 0) (V 1)) (bits .and .u32 (V 0) (V 2))) (bits .and .u32 (V 1) (V 2)))) % 4294967296 := by
    show (sumA V k w + sumB V) % 4294967296 = _
    subst hx
    unfold sumA sumB not32
    rw [show (if IntKind.u32.signed = true then (-1 : Int) else IntKind.u32.max) = IntKind.u32.max from rfl]
    omega
  have e4 : rnd V k w 4 = (V 3 + (V 7 + bits .xor .u32 (bits .xor .u32 (turnR (V 4) 6) (turnR (V 4) 11)) (turnR (V 4) 25) + bits .xor .u32 (bits .and .u32 (V 4) (V 5)) (bits .and .u32 (bits .xor .u32 IntKind.u32.max (V 4)) (V 6)) + x)) % 4294967296 := by
    show (V 3 + sumA V k w) % 4294967296 = _
    subst hx
    unfold sumA not32
    rw [show (if IntKind.u32.signed = true then (-1 : Int) else IntKind.u32.max) = IntKind.u32.max from rfl]
    omega
  unfold A8
  rw [e0, e4]
  rfl

set_option maxRecDepth 100000 in
set_option maxHeartbeats 4000000 in
theorem afterRound_any (V : Nat → Int) (k wv x : Int) (w : World) (hV : U32 V) (hx : x = (k + wv) % 4294967296) :
    Calls Tryd.prog 88 #[A8 V, .int .u32 x] w fun e w' => e = .returned (A8 (rnd V k wv)) ∧ Below w.heap.size w w' := by
  have hZ := rndA8 V k wv x hx
  have hx0 : 0 ≤ x ∧ x ≤ 4294967295 := by omega
  generalize A8 (rnd V k wv) = Z at *
  clear hx
  have u0 := hV 0
  have u4 := hV 4
  have hsg : IntKind.u32.signed = false := rfl
  unfold A8
  generalize V 0 = v0 at *
  generalize V 1 = v1 at *
  generalize V 2 = v2 at *
  generalize V 3 = v3 at *
  generalize V 4 = v4 at *
  generalize V 5 = v5 at *
  generalize V 6 = v6 at *
  generalize V 7 = v7 at *
  have HZ := Lib.hid hZ
  clear hZ hV
  go_enter Tryd.func88, Tryd.ntmps88
  go_wp2_with fail
  go_quiet (fail)
  go_wp2_with fail
  refine (turnThrice_any v4 6 11 25 _ u4 (by omega) (by omega) (by omega)).mono ?_
  rintro e w1 ⟨rfl, hw1⟩
  subst hw1
  go_wp2_with fail
  refine (turnThrice_any v0 2 13 22 _ u0 (by omega) (by omega) (by omega)).mono ?_
  rintro e w1 ⟨rfl, hw1⟩
  subst hw1
  go_wp2_with fail
  go_returns
  exact ⟨by rw [HZ.out], by go_grown; refine belowN ?_ _; go_grown⟩
end Go.Proofs.YtpnpjngaenlciaaDoor
