/-
  SHA-256, as a function of lists: turning, the tables; and what the model's small functions answer.
-/
import Derived.Test.YtpnpjngaenlciaaDoorVec
import Derived.Test.YtpnpjngaenlciaaDoorVal
import Derived.OpenShut
namespace Go.Proofs.YtpnpjngaenlciaaDoor
open Go.RowKit
set_option linter.unusedVariables false
set_option maxRecDepth 100000

/-- x turned left by b. -/
def turnL (x b : Int) : Int := bits .or .u32 (x * 2 ^ b.toNat % 4294967296) (x / 2 ^ (32 - b).toNat)
/-- x turned right by b. -/
def turnR (x b : Int) : Int := turnL x (32 - b)
theorem u32_of {n : Int} (h : (Lit.int .u32 n).wf = true) : 0 ≤ n ∧ n ≤ 4294967295 := by
  simpa [Lit.wf, IntKind.min, IntKind.max, IntKind.signed, IntKind.bits] using h
theorem bits_u32 (op : BinOp) (x y : Int) : 0 ≤ bits op .u32 x y ∧ bits op .u32 x y ≤ 4294967295 := u32_of (wf_bits op .u32 x y)
theorem turnL_u32 (x b : Int) : 0 ≤ turnL x b ∧ turnL x b ≤ 4294967295 := bits_u32 _ _ _
theorem turnR_u32 (x b : Int) : 0 ≤ turnR x b ∧ turnR x b ≤ 4294967295 := turnL_u32 _ _

set_option maxHeartbeats 400000 in
theorem l1Turn_any (x b : Int) (w : World) (hx : 0 ≤ x ∧ x ≤ 4294967295) (hb : 1 ≤ b ∧ b ≤ 31) :
    Calls Tryd.prog 94 #[.int .u32 x, .int .u32 b] w fun e w' => e = .returned (.int .u32 (turnL x b)) ∧ w = w' := by
  obtain ⟨k, rfl⟩ := Int.eq_ofNat_of_zero_le (show 0 ≤ b by omega)
  go_enter Tryd.func94, Tryd.ntmps94
  go_wp2_with fail
  have e1 : turnL x (k : Int) = bits .or .u32 (x * 2 ^ k % 4294967296) (x / 2 ^ (32 - k)) := by
    unfold turnL
    rw [Int.toNat_natCast, show (32 - (k : Int)).toNat = 32 - k from by omega]
  rw [e1]
  go_ret
  exact ⟨rfl, rfl⟩
set_option maxHeartbeats 400000 in
theorem l2Right_any (x b : Int) (w : World) (hx : 0 ≤ x ∧ x ≤ 4294967295) (hb : 1 ≤ b ∧ b ≤ 31) :
    Calls Tryd.prog 91 #[.int .u32 x, .int .u32 b] w fun e w' => e = .returned (.int .u32 (turnR x b)) ∧ w = w' := by
  go_enter Tryd.func91, Tryd.ntmps91
  go_wp2_with fail
  refine (l1Turn_any x (32 - b) _ hx (by omega)).mono ?_
  rintro e w1 ⟨rfl, rfl⟩
  go_wp2_with fail
  go_ret
  exact ⟨rfl, rfl⟩

/-- The first words. -/
def firstWords : List Int := [1779033703, 3144134277, 1013904242, 2773480762, 1359893119, 2600822924, 528734635, 1541459225]
/-- The round words. -/
def roundWords : List Int := [
  0x428a2f98, 0x71374491, 0xb5c0fbcf, 0xe9b5dba5, 0x3956c25b, 0x59f111f1, 0x923f82a4, 0xab1c5ed5,
  0xd807aa98, 0x12835b01, 0x243185be, 0x550c7dc3, 0x72be5d74, 0x80deb1fe, 0x9bdc06a7, 0xc19bf174,
  0xe49b69c1, 0xefbe4786, 0x0fc19dc6, 0x240ca1cc, 0x2de92c6f, 0x4a7484aa, 0x5cb0a9dc, 0x76f988da,
  0x983e5152, 0xa831c66d, 0xb00327c8, 0xbf597fc7, 0xc6e00bf3, 0xd5a79147, 0x06ca6351, 0x14292967,
  0x27b70a85, 0x2e1b2138, 0x4d2c6dfc, 0x53380d13, 0x650a7354, 0x766a0abb, 0x81c2c92e, 0x92722c85,
  0xa2bfe8a1, 0xa81a664b, 0xc24b8b70, 0xc76c51a3, 0xd192e819, 0xd6990624, 0xf40e3585, 0x106aa070,
  0x19a4c116, 0x1e376c08, 0x2748774c, 0x34b0bcb5, 0x391c0cb3, 0x4ed8aa4a, 0x5b9cca4f, 0x682e6ff3,
  0x748f82ee, 0x78a5636f, 0x84c87814, 0x8cc70208, 0x90befffa, 0xa4506ceb, 0xbef9a3f7, 0xc67178f2]
def H0 (j : Nat) : Int := firstWords.getD j 0
def K (j : Nat) : Int := roundWords.getD j 0
theorem words_u32 (l : List Int) (h : ∀ x ∈ l, 0 ≤ x ∧ x ≤ 4294967295) (j : Nat) : 0 ≤ l.getD j 0 ∧ l.getD j 0 ≤ 4294967295 := by
  rcases Nat.lt_or_ge j l.length with hj | hj
  · exact h _ (getD_mem l j hj)
  · rw [List.getD_eq_getElem?_getD, List.getElem?_eq_none hj]; simp
theorem H0_u32 (j : Nat) : 0 ≤ H0 j ∧ H0 j ≤ 4294967295 := words_u32 _ (by decide) j
theorem K_u32 (j : Nat) : 0 ≤ K j ∧ K j ≤ 4294967295 := words_u32 _ (by decide) j

/-- A row of eight, of sixty-four words was made. -/
def Rowed (w : World) (n : Nat) (V : Nat → Int) (e : Ending) (w' : World) : Prop :=
  ∃ g, e = .returned (.slice (some ⟨g, 0, none⟩) n n) ∧ w.heap.size ≤ g ∧ Wd w' g n V ∧ Below w.heap.size w w'

set_option maxHeartbeats 400000 in
theorem l2First_any (w : World) : Calls Tryd.prog 82 #[] w (Rowed w 8 H0) := by
  have hw := fun cs t h => Wd.new w cs t firstWords h
  have HW := Lib.hid hw
  clear hw
  go_enter Tryd.func82, Tryd.ntmps82
  go_wp2_with fail
  go_ret
  exact ⟨_, rfl, Nat.le_refl _, HW.out _ _ rfl, (Below.refl _ _).alloc (Nat.le_refl _) _⟩
set_option maxHeartbeats 1000000 in
theorem l2Round_any (w : World) : Calls Tryd.prog 90 #[] w (Rowed w 64 K) := by
  have hw := fun cs t h => Wd.new w cs t roundWords h
  have HW := Lib.hid hw
  clear hw
  go_enter Tryd.func90, Tryd.ntmps90
  go_wp2_with fail
  go_ret
  exact ⟨_, rfl, Nat.le_refl _, HW.out _ _ rfl, (Below.refl _ _).alloc (Nat.le_refl _) _⟩
end Go.Proofs.YtpnpjngaenlciaaDoor
