/-
  A log's answer, its parts named.
-/
import Derived.Test.YtlgpbnngepkkmaaTa
namespace Go.Proofs.Ytlgpbnngepkkmaa
open Go.RowKit
set_option linter.unusedVariables false
set_option maxRecDepth 100000

/-- A box of three cells. -/
def Box3 (w : World) (b : Nat) (u0 u1 u2 : Value) : Prop := b < w.heap.size ∧ w.cell? ⟨b, 0, none⟩ = some u0 ∧ w.cell? ⟨b, 1, none⟩ = some u1 ∧ w.cell? ⟨b, 2, none⟩ = some u2
theorem Box3.keep {w w' : World} {b lo hi : Nat} {u0 u1 u2 : Value} (h : Box3 w b u0 u1 u2) (k : Keep lo hi w w') (ho : b < lo ∨ hi ≤ b) : Box3 w' b u0 u1 u2 :=
  ⟨Nat.lt_of_lt_of_le h.1 k.size, (k.cell h.1 ho).trans h.2.1, (k.cell h.1 ho).trans h.2.2.1, (k.cell h.1 ho).trans h.2.2.2⟩
theorem Box3.new (w : World) (u0 u1 u2 : Value) (t : TypeId) : Box3 (w.alloc (.cells #[u0, u1, u2] t)) w.heap.size u0 u1 u2 := by
  refine ⟨by simp, ?_, ?_, ?_⟩ <;> simp [go_sem]
/-- A log's answer, its parts named. -/
theorem lp_at {f : FuncId} {args : Array Value} {w : World} {c' b' c b : Int} {o' zs : List Itm} (h : Calls Try.prog f args w (LogPost w c' b' o')) (hc : c' = c) (hb : b' = b) (ho : o' = zs) :
    Calls Try.prog f args w fun e w' => ∃ G cap, e = .returned (.agg #[.int .i64 c, .int .i64 b, .slice G zs.length cap]) ∧ Wt w' w.heap.size w'.heap.size G zs.length zs ∧ Below w.heap.size w w' := by
  subst hc hb ho
  refine h.mono ?_
  rintro e w' ⟨G, m, cap, rfl, hw, hb⟩
  obtain rfl : m = o'.length := hw.len.symm
  exact ⟨G, cap, rfl, hw, hb⟩
theorem sumLen_app (xs ys : List Itm) : sumLen (xs ++ ys) = sumLen xs + sumLen ys := by
  unfold sumLen
  rw [List.map_append, List.sum_append]
theorem sumLen_drop (xs : List Itm) (k : Nat) : sumLen (xs.drop k) ≤ sumLen xs := by
  have := sumLen_app (xs.take k) (xs.drop k)
  rw [List.take_append_drop] at this
  omega
theorem trimOut_small (bs room tp : Int) (xs : List Itm) : (trimOut bs room tp xs).length ≤ xs.length ∧ sumLen (trimOut bs room tp xs) ≤ sumLen xs := by
  unfold trimOut
  split
  · exact ⟨by rw [List.length_drop]; omega, sumLen_drop _ _⟩
  · exact ⟨Nat.zero_le _, Nat.zero_le _⟩
theorem addOut_small (bs room : Int) (xs : List Itm) (x : Itm) : (addOut bs room xs x).length ≤ xs.length + 1 ∧ sumLen (addOut bs room xs x) ≤ sumLen xs + x.2.1.length := by
  unfold addOut
  split
  · exact ⟨by simp, by rw [sumLen_app]; simp [sumLen]⟩
  · exact ⟨Nat.zero_le _, Nat.zero_le _⟩
theorem specTrim_lp (bs room tp : Int) (b off n c hi : Nat) (xs : List Itm) (w : World) (h : Rt w 0 hi (some ⟨b, off, none⟩) n xs) (hcap : n ≤ c ∧ c ≤ 9223372036854775807) (hbs : -9223372036854775808 ≤ bs ∧ bs ≤ 9223372036854775807) :
    Calls Try.prog 21 #[.agg #[.int .i64 bs, .slice (some ⟨b, off, none⟩) n c], .int .i64 room, .int .i64 tp] w (LogPost w (trimCode bs room tp xs) (trimBase bs room tp xs) (trimOut bs room tp xs)) :=
  specTrim_any bs room tp b off n c hi xs w h hcap hbs
end Go.Proofs.Ytlgpbnngepkkmaa
