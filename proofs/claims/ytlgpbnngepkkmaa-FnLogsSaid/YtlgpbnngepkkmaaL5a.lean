/-
  What the walk of FnLogs wants of AddItem's answer.
-/
import Derived.Test.YtlgpbnngepkkmaaV5b
import Derived.Test.YtlgpbnngepkkmaaT18
import Derived.Test.YtlgpbnngepkkmaaLp
namespace Go.Proofs.Ytlgpbnngepkkmaa
open Go.RowKit
set_option linter.unusedVariables false
set_option maxRecDepth 100000

theorem lpc_at {f : FuncId} {args : Array Value} {w : World} {c' b' c b : Int} {o' zs : List Itm} (h : Calls Try.prog f args w (LogPostC w c' b' o')) (hc : c' = c) (hb : b' = b) (ho : o' = zs) :
    Calls Try.prog f args w fun e w' => ∃ G cap, e = .returned (.agg #[.int .i64 c, .int .i64 b, .slice G zs.length cap]) ∧ Wt w' w.heap.size w'.heap.size G zs.length zs ∧ zs.length ≤ cap ∧ Below w.heap.size w w' := by
  subst hc hb ho
  refine h.mono ?_
  rintro e w' ⟨G, m, cap, rfl, hw, hm, hb⟩
  obtain rfl : m = o'.length := hw.len.symm
  exact ⟨G, cap, rfl, hw, hm, hb⟩
theorem Rt.take_ {w : World} {lo hi n : Nat} {A : Option Addr} {xs : List Itm} (h : Rt w lo hi A n xs) (k : Nat) (hk : k ≤ n) : Rt w lo hi A k (xs.take k) := by
  refine ⟨by rw [List.length_take, h.1]; omega, by have := h.2.1; omega, h.2.2.1, fun hk0 => ?_⟩
  obtain ⟨b, off, e, h1, h2, hc⟩ := h.at_ (by omega)
  refine ⟨b, off, e, h1, h2, fun j hj => ?_⟩
  have e2 : (xs.take k).getD j it0 = xs.getD j it0 := by rw [List.getD_eq_getElem?_getD, List.getElem?_take_of_lt hj, ← List.getD_eq_getElem?_getD]
  rw [e2]
  exact hc j (by omega)
theorem Rt.one (W : World) (k p q : Int) (GB : Option Addr) (cb : Nat) (ys : List Int) (t : TypeId) (h : Rd W 0 W.heap.size GB ys.length ys) (gz : GB = none → cb = 0) :
    Rt (W.alloc (.cells #[.int .i64 k, .slice GB ys.length cb, .int .i64 p, .int .i64 q] t)) 0 (W.heap.size + 1) (some ⟨W.heap.size, 0, none⟩) 1 [(k, ys, p, q)] := by
  have kk := (Keep.refl 0 0 W).alloc (.cells #[.int .i64 k, .slice GB ys.length cb, .int .i64 p, .int .i64 q] t)
  refine ⟨rfl, by decide, by simp, fun _ => ⟨W.heap.size, 0, rfl, Nat.zero_le _, by omega, fun j hj => ?_⟩⟩
  obtain rfl : j = 0 := by omega
  obtain ⟨_, b0, b1, b2, b3⟩ := Box4.new W (.int .i64 k) (.slice GB ys.length cb) (.int .i64 p) (.int .i64 q) t
  exact ⟨b0, ⟨GB, cb, b1, (h.keep kk (by omega)).wide (Nat.zero_le _) (by omega) (by simp), gz⟩, b2, b3⟩
end Go.Proofs.Ytlgpbnngepkkmaa
