/-
  slices.Chunk over bytes, by blocks of 64.
-/
import Derived.Test.YtpnpjngaenlciaaDoorI3
import Derived.Test.YtpnpjngaenlciaaDoorPad
import Derived.RangeFuncNested
import Derived.RangeFuncBound
import Derived.RangeFuncCalls
import Derived.RangeFuncLeaves
import Derived.RangeFuncBox
import Derived.Shelf.Abstract
import Derived.Shelf.RegionOpen
import Derived.OwnWalkIn
import Derived.TacticsInMore
import Derived.LoopNIn
import Derived.LoopIn
import Derived.Sort.QuietIn
namespace Go.Proofs.YtpnpjngaenlciaaDoor
open Go.RowKit Go.Shelf
set_option linter.unusedVariables false
set_option maxRecDepth 100000
attribute [local go_sem] Oper.semAt_some

/-- All blocks below n0 but block g are as they were. -/
structure Kq (n₀ g : Nat) (W W' : World) : Prop where
  size : W.heap.size ≤ W'.heap.size
  block : ∀ k, k < n₀ → k ≠ g → W'.heap[k]? = W.heap[k]?
theorem Kq.refl (n₀ g : Nat) (W : World) : Kq n₀ g W W := ⟨Nat.le_refl _, fun _ _ _ => rfl⟩
theorem Kq.trans {n₀ g : Nat} {A B C : World} (h : Kq n₀ g A B) (k : Kq n₀ g B C) : Kq n₀ g A C := ⟨Nat.le_trans h.size k.size, fun i hi hg => (k.block i hi hg).trans (h.block i hi hg)⟩
theorem Kq.put {n₀ g : Nat} (W : World) (l : Nat) (o : Obj) (hl : n₀ ≤ l) : Kq n₀ g W (W.putObj l o) :=
  ⟨by simp [World.putObj], fun k hk _ => by simp [World.putObj, show l ≠ k by omega]⟩
theorem Kq.cell {n₀ g : Nat} {W W' : World} (h : Kq n₀ g W W') {p : Addr} (hp : p.block < n₀) (hg : p.block ≠ g) : W'.cell? p = W.cell? p := World.cell?_of_block (w := W) (h.block p.block hp hg)

set_option maxHeartbeats 1000000 in
theorem chunk_any (gp N cap : Nat) (w : World) :
    Calls Tryd.prog 78 #[.slice (some ⟨gp, 0, none⟩) N cap, .int .i64 64] w fun e w' =>
      e = .returned (.func (.func 85) #[] #[.pointer (some ⟨w.heap.size, 0, none⟩), .pointer (some ⟨w.heap.size + 1, 0, none⟩)]) ∧ w' = (w.alloc (.cells #[.slice (some ⟨gp, 0, none⟩) N cap] 22)).alloc (.cells #[.int .i64 64] 3) := by
  go_enter Tryd.func78, Tryd.ntmps78
  go_wp2_with fail
  go_ret
  exact ⟨rfl, rfl⟩

set_option maxRecDepth 100000 in
set_option maxHeartbeats 2000000 in
theorem chunk1_in (n : Nat) (hn : 1 ≤ n) (l Bs Bn n₀ g gp N cap M : Nat) (hN : N = 64 * M) (hM : 1 ≤ M) (hNb : N ≤ 4194304) (hcap : N ≤ cap)
    (b1 : Bs < n₀) (b2 : Bn < n₀) (b3 : Bs ≠ g) (b4 : Bn ≠ g) (J Jx : List Nat → World → Prop)
    (hY : ∀ pre x W, J pre W → pre.length < M → YieldAt Fence.wide (n - 1) Tryd.prog l #[.slice (some ⟨gp, 64 * min x (M - 1), none⟩) 64 64] W fun e W' =>
      (e = .returned (.bool true) ∧ J (pre ++ [x]) W' ∧ Kq n₀ g W W') ∨ (e = .returned (.bool false) ∧ Jx (pre ++ [x]) W'))
    (W : World) (hJ : AbidesFrom W.heap.size J) (hBs : W.cell? ⟨Bs, 0, none⟩ = some (.slice (some ⟨gp, 0, none⟩) N cap)) (hBn : W.cell? ⟨Bn, 0, none⟩ = some (.int .i64 64)) (h0 : J [] W) :
    CallsIn Fence.wide n Tryd.prog 85 #[.func (.yield l) #[] #[], .pointer (some ⟨Bs, 0, none⟩), .pointer (some ⟨Bn, 0, none⟩)] W fun e W' => (∃ v, e = .returned v) ∧
      ((∃ ys, ys = List.range M ∧ J ys W') ∨ (∃ pre, True ∧ Jx pre W')) := by
  refine callsIn_of_wp Tryd.func85 rfl trivial ?_ rfl
  simp only [Tryd.ntmps85, List.size_toArray, List.length_cons, List.length_nil, Nat.reduceAdd, Nat.reduceSub, Array.replicate_succ, Array.replicate_zero, List.push_toArray, List.append_toArray, List.nil_append, List.cons_append]
  have HBn := Lib.hid hBn
  gi_wp2
  gi_loopw [4, 5] (fun i _ wr => ∃ k a : Nat, a = 64 * k ∧ k ≤ M ∧ i = .int .i64 (a : Int) ∧ J (List.range k) wr ∧ Kq n₀ g W wr)
    (fun i _ _ => N - (intOf i).toNat)
  case atStart => exact ⟨0, 0, rfl, Nat.zero_le _, rfl, h0, Kq.refl _ _ _⟩
  case round =>
    obtain ⟨k, a, ha, hk, rfl, hJs, hq⟩ := hrel
    have cs := (hq.cell (p := ⟨Bs, 0, none⟩) b1 b3).trans hBs
    have cn := (hq.cell (p := ⟨Bn, 0, none⟩) b2 b4).trans hBn
    by_cases hlt : k < M
    · have haN : (a : Int) < (N : Int) := by omega
      have ha0 : (0 : Int) ≤ (a : Int) := by omega
      have haN' : (a : Int) ≤ (N : Int) := by omega
      have hac : ¬ cap = a := by omega
      have hm1 : 64 ≤ N - a := by omega
      have hm3 : ¬ ((N - a : Nat) : Int) < 64 := by omega
      have hw1 : IntKind.i64.wrap ((a : Int) + 64) = ((a + 64 : Nat) : Int) := by rw [IntKind.wrap_i64]; omega
      have hr1 : ((a + 64 : Nat) : Int) ≤ (cap : Int) := by omega
      have HN := Lib.hid hN
      have HA := Lib.hid ha
      clear hBs hBn hN ha
      gi_wp2
      gi_quiet (fail)
      have hJd : J (List.range k) (wr.drewN nq) := hJ _ wr (wr.drewN nq) none hJs ⟨rfl, rfl, rfl, Nat.le_refl _, fun _ _ _ => rfl⟩ (fun r e => by cases e)
      obtain ⟨fn, tmps, assign, body, hy, hR⟩ := hY _ k (wr.drewN nq) hJd (by rw [List.length_range]; exact hlt)
      rw [show min k (M - 1) = k from by omega, ← HA.out] at hy
      have hqd : Kq n₀ g W (wr.drewN nq) := ⟨hq.size, hq.block⟩
      have HQ := Lib.hid hqd
      clear hJs hq hJd hqd
      gi_wp2
      refine hR.mono ?_
      rintro e W3 (⟨rfl, hJ3, hk3⟩ | ⟨rfl, hJx3⟩)
      · have hq3 := HQ.out.trans hk3
        have cn3 := (hq3.cell (p := ⟨Bn, 0, none⟩) b2 b4).trans HBn.out
        have HQ3 := Lib.hid hq3
        clear hk3 hq3
        gi_wp2
        go_roundw
        case rel => exact ⟨k + 1, a + 64, by have := HA.out; omega, by omega, by go_num, by rw [List.range_succ]; exact hJ3, HQ3.out⟩
        case measure => simp [intOf]; omega
      · gi_wp2
        refine bodyPost_ret (results_none rfl _ _ _) rfl ?_
        exact ⟨⟨_, rfl⟩, .inr ⟨_, trivial, hJx3⟩⟩
    · obtain rfl : k = M := by omega
      have haN : ¬ (a : Int) < (N : Int) := by omega
      clear hN ha
      gi_wp2
      go_end0
      exact ⟨⟨_, rfl⟩, .inl hJs⟩
end Go.Proofs.YtpnpjngaenlciaaDoor
