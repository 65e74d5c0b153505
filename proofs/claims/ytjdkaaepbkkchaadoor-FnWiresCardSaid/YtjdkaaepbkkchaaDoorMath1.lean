/-
  Plain facts of chapter 1: numbers are read back from their bytes; what is mixed twice is as it was.
-/
import Derived.Test.YtjdkaaepbkkchaaDoorNum
import Derived.Test.YtjdkaaepbkkchaaDoorPut2
import Derived.Test.YtjdkaaepbkkchaaDoorMix
namespace Go.Proofs.YtjdkaaepbkkchaaDoor
open Go.RowKit
set_option linter.unusedVariables false
set_option maxRecDepth 100000

theorem val_digs_take (n : Int) (s : Nat) (h : sh n s = 0) : ∀ k, k ≤ s → val ((digs n s).take k) = sh n (s - k) := by
  intro k
  induction k with
  | zero => intro _; rw [Nat.sub_zero, h]; simp [val]
  | succ k ih =>
    intro hk
    rw [val_take _ k (by rw [digs_len]; omega), ih (by omega), digs_at n s k (by omega)]
    have e : s - k = s - 1 - k + 1 := by omega
    rw [e, sh_succ, show s - (k + 1) = s - 1 - k from by omega]
    omega

/-- The bytes of a number that fits are read back. -/
theorem val_digs (n : Int) (s : Nat) (h : sh n s = 0) : val (digs n s) = n := by
  have := val_digs_take n s h s (Nat.le_refl _)
  rw [List.take_of_length_le (by rw [digs_len]; omega), Nat.sub_self, sh_zero] at this
  exact this

theorem sh_val (ds : List Int) (hb : ∀ x ∈ ds, 0 ≤ x ∧ x ≤ 255) : ∀ t, t ≤ ds.length → sh (val ds) t = val (ds.take (ds.length - t)) := by
  intro t
  induction t with
  | zero => intro _; rw [sh_zero, Nat.sub_zero, List.take_of_length_le (Nat.le_refl _)]
  | succ t ih =>
    intro ht
    have hb1 := hb _ (getD_mem ds (ds.length - (t + 1)) (by omega))
    rw [sh_succ, ih (by omega), show ds.length - t = ds.length - (t + 1) + 1 from by omega, val_take _ _ (by omega)]
    omega

theorem put_of_get (ds : List Int) (hb : ∀ x ∈ ds, 0 ≤ x ∧ x ≤ 255) (h1 : 1 ≤ ds.length) (h7 : ds.length ≤ 7) : PutOk (val ds) ds.length := by
  have h0 := sh_val ds hb ds.length (Nat.le_refl _)
  rw [Nat.sub_self] at h0
  have hv := (val_bound ds hb ds.length (Nat.le_refl _)).1
  rw [List.take_of_length_le (Nat.le_refl _)] at hv
  exact ⟨by omega, by omega, hv, by rw [Int.toNat_natCast, h0]; simp [val]⟩

/-- What was read is put back. -/
theorem digs_val (ds : List Int) (hb : ∀ x ∈ ds, 0 ≤ x ∧ x ≤ 255) : digs (val ds) ds.length = ds := by
  refine List.ext_getElem (digs_len _ _) fun j h1 h2 => ?_
  have h := digs_at (val ds) ds.length j h2
  rw [List.getD_eq_getElem?_getD, List.getElem?_eq_getElem h1] at h
  simp only [Option.getD_some] at h
  rw [h, sh_val ds hb _ (by omega), show ds.length - (ds.length - 1 - j) = j + 1 from by omega, val_take ds j h2]
  have hb1 := hb _ (List.getElem_mem h2)
  rw [List.getD_eq_getElem?_getD, List.getElem?_eq_getElem h2]
  simp only [Option.getD_some]
  omega

theorem val_max (ds : List Int) (hb : ∀ x ∈ ds, 0 ≤ x ∧ x ≤ 255) (h7 : ds.length ≤ 7) : val ds ≤ 72057594037927935 := by
  have h := (val_bound ds hb ds.length (Nat.le_refl _)).2
  rw [List.take_of_length_le (Nat.le_refl _)] at h
  have : ∀ k : Nat, k ≤ 7 → (256 : Int) ^ k ≤ 72057594037927936 := by
    intro k hk
    have : k = 0 ∨ k = 1 ∨ k = 2 ∨ k = 3 ∨ k = 4 ∨ k = 5 ∨ k = 6 ∨ k = 7 := by omega
    rcases this with h | h | h | h | h | h | h | h <;> subst h <;> decide
  have := this _ h7
  omega

theorem xor_xor (x y : Int) (hx : 0 ≤ x ∧ x ≤ 255) (hy : 0 ≤ y ∧ y ≤ 255) : bits .xor .u8 (bits .xor .u8 x y) y = x := by
  obtain ⟨a, rfl⟩ := Int.eq_ofNat_of_zero_le hx.1
  obtain ⟨b, rfl⟩ := Int.eq_ofNat_of_zero_le hy.1
  have ha : a < 256 := by omega
  have hb : b < 256 := by omega
  have key : ∀ u v : Nat, u < 256 → v < 256 → bits .xor .u8 (u : Int) (v : Int) = ((u ^^^ v : Nat) : Int) := by
    intro u v hu hv
    have hlt : u ^^^ v < 2 ^ 8 := Nat.xor_lt_two_pow hu hv
    show IntKind.u8.wrap ((BitVec.ofInt 8 (u : Int) ^^^ BitVec.ofInt 8 (v : Int)).toNat : Int) = _
    rw [BitVec.toNat_xor, BitVec.ofInt_natCast, BitVec.ofInt_natCast, BitVec.toNat_ofNat, BitVec.toNat_ofNat, Nat.mod_eq_of_lt hu, Nat.mod_eq_of_lt hv, IntKind.wrap_u8]
    omega
  have hlt : a ^^^ b < 2 ^ 8 := Nat.xor_lt_two_pow ha hb
  rw [key a b ha hb, key (a ^^^ b) b hlt hb, Nat.xor_assoc, Nat.xor_self, Nat.xor_zero]

/-- What is mixed twice is as it was. -/
theorem mix_mix (xs ys : List Int) (hx : ∀ x ∈ xs, 0 ≤ x ∧ x ≤ 255) (hy : ∀ y ∈ ys, 0 ≤ y ∧ y ≤ 255) (h : xs.length ≤ ys.length) : mix xs.length (mix xs.length xs ys) ys = xs := by
  refine List.ext_getElem (mix_len _ _ _) fun j h1 h2 => ?_
  have e := mix_getD xs.length (mix xs.length xs ys) ys j h2
  rw [List.getD_eq_getElem?_getD, List.getElem?_eq_getElem h1] at e
  simp only [Option.getD_some] at e
  rw [e]
  unfold mixAt
  rw [mix_getD xs.length xs ys j h2]
  unfold mixAt
  rw [xor_xor _ _ (hx _ (getD_mem xs j h2)) (hy _ (getD_mem ys j (by omega)))]
  rw [List.getD_eq_getElem?_getD, List.getElem?_eq_getElem h2]
  rfl
end Go.Proofs.YtjdkaaepbkkchaaDoor
