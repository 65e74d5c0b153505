/-
  impl.ItemFault: an item as an interface's value.
-/
import Derived.Test.YtjdkaaepbkkchaaT1
import Derived.Test.YtjdkaaepbkkchaaOut
import Derived.Test.YtjdkaaepbkkchaaO2
namespace Go.Proofs.Ytjdkaaepbkkchaa
open Go.RowKit
set_option linter.unusedVariables false
set_option maxRecDepth 100000

theorem assKey (v : Value) (w : World) : (Instr.typeAssert (.iface 88 v) 85 88 true).run Try.prog w = .ok (.tuple #[v, .bool true]) w := by kernel_rfl
theorem assSize (v : Value) (w : World) : (Instr.typeAssert (.iface 90 v) 85 90 true).run Try.prog w = .ok (.tuple #[v, .bool true]) w := by kernel_rfl
theorem assKeyS (v : Value) (w : World) : (Instr.typeAssert (.iface 90 v) 85 88 true).run Try.prog w = .ok (.tuple #[.agg #[.slice none 0 0], .bool false]) w := by kernel_rfl
theorem assKeyN (w : World) : (Instr.typeAssert .nilIface 85 88 true).run Try.prog w = .ok (.tuple #[.agg #[.slice none 0 0], .bool false]) w := by kernel_rfl
theorem assSizeN (w : World) : (Instr.typeAssert .nilIface 85 90 true).run Try.prog w = .ok (.tuple #[.agg #[.int .i64 0, .int .i64 0], .bool false]) w := by kernel_rfl

set_option maxHeartbeats 1000000 in
theorem typedOf_key (A : Option Addr) (n c : Nat) (w : World) :
    Calls Try.prog 54 #[.agg #[.int .i64 1, .slice A n c, .int .i64 0, .int .i64 0]] w fun e w' => e = .returned (.iface 88 (.agg #[.slice A n c])) ∧ Keep 0 0 w w' := by
  have KA := Lib.hid ((Keep.refl 0 0 w).alloc (.cells #[.int .i64 1, .slice A n c, .int .i64 0, .int .i64 0] 62))
  go_enter Try.func54, Try.ntmps54
  go_wp2_with fail
  go_ret
  exact ⟨rfl, KA.out⟩
set_option maxHeartbeats 1000000 in
theorem typedOf_size (p q : Int) (A : Option Addr) (c : Nat) (w : World) :
    Calls Try.prog 54 #[.agg #[.int .i64 2, .slice A 0 c, .int .i64 p, .int .i64 q]] w fun e w' => e = .returned (.iface 90 (.agg #[.int .i64 p, .int .i64 q])) ∧ Keep 0 0 w w' := by
  have KA := Lib.hid ((Keep.refl 0 0 w).alloc (.cells #[.int .i64 2, .slice A 0 c, .int .i64 p, .int .i64 q] 62))
  go_enter Try.func54, Try.ntmps54
  go_wp2_with fail
  go_ret
  exact ⟨rfl, KA.out⟩
set_option maxHeartbeats 1000000 in
theorem typedOf_none (k p q : Int) (A : Option Addr) (n c : Nat) (w : World) (hn : n ≤ 9223372036854775807) (h1 : ¬ (k = 1 ∧ p = 0 ∧ q = 0)) (h2 : ¬ (k = 2 ∧ n = 0)) :
    Calls Try.prog 54 #[.agg #[.int .i64 k, .slice A n c, .int .i64 p, .int .i64 q]] w fun e w' => e = .returned .nilIface ∧ Keep 0 0 w w' := by
  have KA := Lib.hid ((Keep.refl 0 0 w).alloc (.cells #[.int .i64 k, .slice A n c, .int .i64 p, .int .i64 q] 62))
  by_cases k1 : k = 1
  · have k2b : (k == 2) = false := by simp; omega
    by_cases p0 : p = 0
    · have q0b : (q == 0) = false := by simp; omega
      subst k1 p0
      go_enter Try.func54, Try.ntmps54
      go_wp2_with fail
      go_ret
      exact ⟨rfl, KA.out⟩
    · have p0b : (p == 0) = false := by simp [p0]
      subst k1
      go_enter Try.func54, Try.ntmps54
      go_wp2_with fail
      go_ret
      exact ⟨rfl, KA.out⟩
  · have k1b : (k == 1) = false := by simp [k1]
    by_cases k2 : k = 2
    · have n0b : ((n : Int) == 0) = false := by simp; omega
      subst k2
      go_enter Try.func54, Try.ntmps54
      go_wp2_with fail
      go_ret
      exact ⟨rfl, KA.out⟩
    · have k2b : (k == 2) = false := by simp [k2]
      go_enter Try.func54, Try.ntmps54
      go_wp2_with fail
      go_ret
      exact ⟨rfl, KA.out⟩

set_option maxHeartbeats 2000000 in
theorem implItem_any (k p q : Int) (A : Option Addr) (n c : Nat) (w : World) (hn : n ≤ 9223372036854775807) :
    Calls Try.prog 53 #[.agg #[.int .i64 k, .slice A n c, .int .i64 p, .int .i64 q]] w fun e w' => e = .returned (.int .i64 (itemCode k n p q)) ∧ Below w.heap.size w w' := by
  have aK := assKey
  have aS := assSize
  have aKS := assKeyS
  have aKN := assKeyN
  have aSN := assSizeN
  have ka := (Keep.refl 0 0 w).alloc (.cells #[.int .i64 k, .slice A n c, .int .i64 p, .int .i64 q] 62)
  by_cases h1 : k = 1 ∧ p = 0 ∧ q = 0
  · obtain ⟨rfl, rfl, rfl⟩ := h1
    rw [itemCode_key]
    obtain ⟨r, hr⟩ : ∃ r, decide ((n : Int) < 1 ∨ (8 : Int) < (n : Int)) = r := ⟨_, rfl⟩
    have HR : Hid (decide ((n : Int) < 1 ∨ (8 : Int) < (n : Int)) = r) := hr
    have e0 : (if n < 1 ∨ 8 < n then (2 : Int) else 0) = if r = true then 2 else 0 := by
      rw [← hr]
      by_cases hx : n < 1 ∨ 8 < n
      · rw [if_pos hx, if_pos (by simp; omega)]
      · rw [if_neg hx, if_neg (by simp; omega)]
    rw [e0]
    clear e0 hr
    go_enter Try.func53, Try.ntmps53
    go_wp2_with fail
    refine (typedOf_key A n c _).mono ?_
    rintro e w1 ⟨rfl, k1⟩
    have hb := (ka.trans k1).below (B := w.heap.size) (by omega) (Nat.le_refl _)
    have hz := hb.size
    clear k1 ka
    go_wp2_with fail
    refine (outside1 (w1.heap.size + 1) 1 n 1 8 r _ ?_ ?_ ?_ ?_ HR.out).mono ?_
    · simp
    · go_simp
    · go_simp
    · go_simp
    rintro e w2 ⟨rfl, hb2⟩
    have hb3 := ((hb.alloc hz (.cells #[.slice A n c] 88)).alloc (by simp; omega) (.cells #[.int .i64 n, .int .i64 1, .int .i64 8] 69)).trans (hb2.mono (by simp; omega))
    have HB := Lib.hid hb3
    clear hb hb2 hb3
    cases r with
    | true =>
      go_wp2_with fail
      go_ret
      exact ⟨rfl, HB.out⟩
    | false =>
      go_wp2_with fail
      go_ret
      exact ⟨rfl, HB.out⟩
  · by_cases h2 : k = 2 ∧ n = 0
    · obtain ⟨rfl, rfl⟩ := h2
      rw [itemCode_size]
      obtain ⟨r, hr⟩ : ∃ r, decide ((p < 1 ∨ 999 < p) ∨ (q < 1 ∨ 999 < q)) = r := ⟨_, rfl⟩
      have HR : Hid (decide ((p < 1 ∨ 999 < p) ∨ (q < 1 ∨ 999 < q)) = r) := hr
      have e0 : (if ¬ (1 ≤ p ∧ p ≤ 999) ∨ ¬ (1 ≤ q ∧ q ≤ 999) then (3 : Int) else 0) = if r = true then 3 else 0 := by
        rw [← hr]
        by_cases hx : ¬ (1 ≤ p ∧ p ≤ 999) ∨ ¬ (1 ≤ q ∧ q ≤ 999)
        · rw [if_pos hx, if_pos (by simp; omega)]
        · rw [if_neg hx, if_neg (by simp; omega)]
      rw [e0]
      clear e0 hr h1
      go_enter Try.func53, Try.ntmps53
      go_wp2_with fail
      refine (typedOf_size p q A c _).mono ?_
      rintro e w1 ⟨rfl, k1⟩
      have hb := (ka.trans k1).below (B := w.heap.size) (by omega) (Nat.le_refl _)
      have hz := hb.size
      clear k1 ka
      go_wp2_with fail
      refine (outside2 (w1.heap.size + 1) 2 p 1 999 q 1 999 r _ ?_ ?_ ?_ ?_ ?_ ?_ ?_ HR.out).mono ?_
      · simp
      · go_simp
      · go_simp
      · go_simp
      · go_simp
      · go_simp
      · go_simp
      rintro e w2 ⟨rfl, hb2⟩
      have hb3 := ((hb.alloc hz (.cells #[.int .i64 p, .int .i64 q] 90)).alloc (by simp; omega) (.cells #[.int .i64 p, .int .i64 1, .int .i64 999, .int .i64 q, .int .i64 1, .int .i64 999] 69)).trans (hb2.mono (by simp; omega))
      have HB := Lib.hid hb3
      clear hb hb2 hb3
      cases r with
      | true =>
        go_wp2_with fail
        go_ret
        exact ⟨rfl, HB.out⟩
      | false =>
        go_wp2_with fail
        go_ret
        exact ⟨rfl, HB.out⟩
    · rw [itemCode_form h1 h2]
      have HN := Lib.hid (typedOf_none k p q A n c (w.alloc (.cells #[.int .i64 k, .slice A n c, .int .i64 p, .int .i64 q] 62)) hn h1 h2)
      clear h1 h2
      go_enter Try.func53, Try.ntmps53
      go_wp2_with fail
      refine HN.out.mono ?_
      rintro e w1 ⟨rfl, k1⟩
      have HB := Lib.hid ((ka.trans k1).below (B := w.heap.size) (by omega) (Nat.le_refl _))
      clear k1 ka
      go_wp2_with fail
      go_ret
      exact ⟨rfl, HB.out⟩
end Go.Proofs.Ytjdkaaepbkkchaa
