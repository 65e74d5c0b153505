/-
  What the laws' own helpers do to an Item; the model's ItemFault.
-/
import Derived.Test.YtjdkaaepbkkchaaDoorBase
import Derived.Test.YtjdkaaepbkkchaaDoorPut2
namespace Go.Proofs.YtjdkaaepbkkchaaDoor
open Go.RowKit
set_option linter.unusedVariables false
set_option maxRecDepth 100000

theorem ret_int {a b : Int} (h : a = b) : Ending.returned (.int .i64 a) = .returned (.int .i64 b) := by rw [h]


/-- Four cells of a block. -/
def Box4 (w : World) (b : Nat) (u0 u1 u2 u3 : Value) : Prop := b < w.heap.size ∧ w.cell? ⟨b, 0, none⟩ = some u0 ∧ w.cell? ⟨b, 1, none⟩ = some u1 ∧ w.cell? ⟨b, 2, none⟩ = some u2 ∧ w.cell? ⟨b, 3, none⟩ = some u3
theorem Box4.keep {w w' : World} {b lo hi : Nat} {u0 u1 u2 u3 : Value} (h : Box4 w b u0 u1 u2 u3) (k : Keep lo hi w w') (ho : b < lo ∨ hi ≤ b) : Box4 w' b u0 u1 u2 u3 :=
  ⟨Nat.lt_of_lt_of_le h.1 k.size, (k.cell h.1 ho).trans h.2.1, (k.cell h.1 ho).trans h.2.2.1, (k.cell h.1 ho).trans h.2.2.2.1, (k.cell h.1 ho).trans h.2.2.2.2⟩
theorem Box4.new (w : World) (u0 u1 u2 u3 : Value) (t : TypeId) : Box4 (w.alloc (.cells #[u0, u1, u2, u3] t)) w.heap.size u0 u1 u2 u3 := by
  refine ⟨by simp, ?_, ?_, ?_, ?_⟩ <;> simp [go_sem]
/-- Four cells of a block are written. -/
theorem four_cells {w : World} {g : Nat} {u v x y : Value} (h0 : w.cell? ⟨g, 0, none⟩ = some u) (h1 : w.cell? ⟨g, 1, none⟩ = some v) (h2 : w.cell? ⟨g, 2, none⟩ = some x) (h3 : w.cell? ⟨g, 3, none⟩ = some y) (a b c d : Value) :
    Box4 ((((w.setCell ⟨g, 0, none⟩ a).setCell ⟨g, 1, none⟩ b).setCell ⟨g, 2, none⟩ c).setCell ⟨g, 3, none⟩ d) g a b c d := by
  have hl : g < w.heap.size := World.block_lt_of_cell? w _ h0
  refine ⟨by simp [World.setCell]; omega, ?_, ?_, ?_, ?_⟩
  · rw [World.cell?_setCell_other _ _ _ _ (by simp), World.cell?_setCell_other _ _ _ _ (by simp), World.cell?_setCell_other _ _ _ _ (by simp)]
    exact World.cell?_setCell_same _ _ _ h0
  · rw [World.cell?_setCell_other _ _ _ _ (by simp), World.cell?_setCell_other _ _ _ _ (by simp)]
    exact World.cell?_setCell_same _ _ _ ((World.cell?_setCell_other _ _ _ _ (by simp)).trans h1)
  · rw [World.cell?_setCell_other _ _ _ _ (by simp)]
    exact World.cell?_setCell_same _ _ _ ((World.cell?_setCell_other _ _ _ _ (by simp)).trans ((World.cell?_setCell_other _ _ _ _ (by simp)).trans h2))
  · exact World.cell?_setCell_same _ _ _ ((World.cell?_setCell_other _ _ _ _ (by simp)).trans ((World.cell?_setCell_other _ _ _ _ (by simp)).trans ((World.cell?_setCell_other _ _ _ _ (by simp)).trans h3)))


set_option maxHeartbeats 1000000 in
theorem eqItem_true (k p q : Int) (A A' : Option Addr) (n c c' lo hi lo' hi' : Nat) (xs : List Int) (w : World) (h : Rd w lo hi A n xs) (h' : Rd w lo' hi' A' n xs) :
    Calls Tryd.prog 88 #[.agg #[.int .i64 k, .slice A n c, .int .i64 p, .int .i64 q], .agg #[.int .i64 k, .slice A' n c', .int .i64 p, .int .i64 q]] w fun e w' => e = .returned (.bool true) ∧ Keep 0 0 w w' := by
  have ka := ((Keep.refl 0 0 w).alloc (.cells #[.int .i64 k, .slice A n c, .int .i64 p, .int .i64 q] 55)).alloc (.cells #[.int .i64 k, .slice A' n c', .int .i64 p, .int .i64 q] 55)
  have h1 := h.keep ka (by omega)
  have h2 := h'.keep ka (by omega)
  have KA := Lib.hid ka
  clear ka
  go_enter Tryd.func88, Tryd.ntmps88
  go_wp2_with fail
  refine (eqByteS_true A A' n c c' lo hi lo' hi' xs _ h1 h2).mono ?_
  rintro e w1 ⟨rfl, q2, rfl⟩
  go_wp2_with fail
  go_ret
  exact ⟨rfl, KA.out.drewN q2⟩

/-- What is wrong with an item. -/
def itemCode (k : Int) (n : Nat) (p q : Int) : Int :=
  if k = 1 ∧ p = 0 ∧ q = 0 then (if n < 1 ∨ 8 < n then 2 else 0) else if k = 2 ∧ n = 0 then (if ¬ (1 ≤ p ∧ p ≤ 999) ∨ ¬ (1 ≤ q ∧ q ≤ 999) then 3 else 0) else 1
theorem itemCode_key {n : Nat} : itemCode 1 n 0 0 = if n < 1 ∨ 8 < n then 2 else 0 := by simp [itemCode]
theorem itemCode_size {p q : Int} : itemCode 2 0 p q = if ¬ (1 ≤ p ∧ p ≤ 999) ∨ ¬ (1 ≤ q ∧ q ≤ 999) then 3 else 0 := by simp [itemCode]
theorem itemCode_form {k p q : Int} {n : Nat} (h1 : ¬ (k = 1 ∧ p = 0 ∧ q = 0)) (h2 : ¬ (k = 2 ∧ n = 0)) : itemCode k n p q = 1 := by unfold itemCode; rw [if_neg h1, if_neg h2]

set_option maxHeartbeats 1000000 in
theorem specItem_any (k p q : Int) (A : Option Addr) (n c : Nat) (w : World) (hn : n ≤ 9223372036854775807) :
    Calls Tryd.prog 82 #[.agg #[.int .i64 k, .slice A n c, .int .i64 p, .int .i64 q]] w fun e w' => e = .returned (.int .i64 (itemCode k n p q)) ∧ Keep 0 0 w w' := by
  have KA := Lib.hid ((Keep.refl 0 0 w).alloc (.cells #[.int .i64 k, .slice A n c, .int .i64 p, .int .i64 q] 55))
  by_cases k1 : k = 1
  · by_cases p0 : p = 0
    · by_cases q0 : q = 0
      · subst k1 p0 q0
        by_cases n1 : n < 1
        · obtain rfl : n = 0 := by omega
          have HR := Lib.hid (ret_int (show (2 : Int) = itemCode 1 0 0 0 from by rw [itemCode_key]; exact (if_pos (Or.inl (by omega))).symm))
          go_enter Tryd.func82, Tryd.ntmps82
          go_wp2_with fail
          go_ret
          exact ⟨HR.out, KA.out⟩
        · have n1' : ¬ (n : Int) < 1 := by omega
          by_cases n8 : 8 < n
          · have n8' : (8 : Int) < (n : Int) := by omega
            have HR := Lib.hid (ret_int (show (2 : Int) = itemCode 1 n 0 0 from by rw [itemCode_key]; exact (if_pos (Or.inr n8)).symm))
            go_enter Tryd.func82, Tryd.ntmps82
            go_wp2_with fail
            go_ret
            exact ⟨HR.out, KA.out⟩
          · have n8' : ¬ (8 : Int) < (n : Int) := by omega
            have HR := Lib.hid (ret_int (show (0 : Int) = itemCode 1 n 0 0 from by rw [itemCode_key]; exact (if_neg (by omega)).symm))
            go_enter Tryd.func82, Tryd.ntmps82
            go_wp2_with fail
            go_ret
            exact ⟨HR.out, KA.out⟩
      · have q0b : (q == 0) = false := by simp [q0]
        have k2b : (k == 2) = false := by simp; omega
        have HR := Lib.hid (ret_int (show (1 : Int) = itemCode k n p q from by exact (itemCode_form (by omega) (by omega)).symm))
        subst k1 p0
        go_enter Tryd.func82, Tryd.ntmps82
        go_wp2_with fail
        go_ret
        exact ⟨HR.out, KA.out⟩
    · have p0b : (p == 0) = false := by simp [p0]
      have k2b : (k == 2) = false := by simp; omega
      have HR := Lib.hid (ret_int (show (1 : Int) = itemCode k n p q from by exact (itemCode_form (by omega) (by omega)).symm))
      subst k1
      go_enter Tryd.func82, Tryd.ntmps82
      go_wp2_with fail
      go_ret
      exact ⟨HR.out, KA.out⟩
  · have k1b : (k == 1) = false := by simp [k1]
    by_cases k2 : k = 2
    · by_cases n0 : n = 0
      · subst k2 n0
        by_cases hp : 1 ≤ p ∧ p ≤ 999
        · by_cases hq : 1 ≤ q ∧ q ≤ 999
          · have HR := Lib.hid (ret_int (show (0 : Int) = itemCode 2 0 p q from by rw [itemCode_size]; exact (if_neg (by omega)).symm))
            go_enter Tryd.func82, Tryd.ntmps82
            go_wp2_with fail
            refine (l1In_any p 1 999 _ true (decide_eq_true hp)).mono ?_
            rintro e w1 ⟨rfl, rfl⟩
            go_wp2_with fail
            refine (l1In_any q 1 999 _ true (decide_eq_true hq)).mono ?_
            rintro e w1 ⟨rfl, rfl⟩
            go_wp2_with fail
            go_ret
            exact ⟨HR.out, KA.out⟩
          · have HR := Lib.hid (ret_int (show (3 : Int) = itemCode 2 0 p q from by rw [itemCode_size]; exact (if_pos (Or.inr hq)).symm))
            go_enter Tryd.func82, Tryd.ntmps82
            go_wp2_with fail
            refine (l1In_any p 1 999 _ true (decide_eq_true hp)).mono ?_
            rintro e w1 ⟨rfl, rfl⟩
            go_wp2_with fail
            refine (l1In_any q 1 999 _ false (decide_eq_false hq)).mono ?_
            rintro e w1 ⟨rfl, rfl⟩
            go_wp2_with fail
            go_ret
            exact ⟨HR.out, KA.out⟩
        · have HR := Lib.hid (ret_int (show (3 : Int) = itemCode 2 0 p q from by rw [itemCode_size]; exact (if_pos (Or.inl hp)).symm))
          go_enter Tryd.func82, Tryd.ntmps82
          go_wp2_with fail
          refine (l1In_any p 1 999 _ false (decide_eq_false hp)).mono ?_
          rintro e w1 ⟨rfl, rfl⟩
          go_wp2_with fail
          go_ret
          exact ⟨HR.out, KA.out⟩
      · have n0b : ((n : Int) == 0) = false := by simp; omega
        have HR := Lib.hid (ret_int (show (1 : Int) = itemCode k n p q from by exact (itemCode_form (by omega) (by omega)).symm))
        subst k2
        go_enter Tryd.func82, Tryd.ntmps82
        go_wp2_with fail
        go_ret
        exact ⟨HR.out, KA.out⟩
    · have k2b : (k == 2) = false := by simp [k2]
      have HR := Lib.hid (ret_int (show (1 : Int) = itemCode k n p q from by exact (itemCode_form (by omega) (by omega)).symm))
      go_enter Tryd.func82, Tryd.ntmps82
      go_wp2_with fail
      go_ret
      exact ⟨HR.out, KA.out⟩
end Go.Proofs.YtjdkaaepbkkchaaDoor
