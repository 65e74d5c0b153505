/-
  impl.hidingBlocks, impl.hideBytes.
-/
import Derived.Test.YtpnpjngaenlciaaDoorRt
import Derived.Test.YtpnpjngaenlciaaDoorI6
import Derived.Test.YtpnpjngaenlciaaDoorS2
import Derived.Test.YtpnpjngaenlciaaDoorMix2
import Derived.Stop.RegionWithIn
namespace Go.Proofs.YtpnpjngaenlciaaDoor
open Go.RowKit Go.Shelf
set_option linter.unusedVariables false
set_option maxRecDepth 100000
attribute [local go_sem] Oper.semAt_some

/-- The block that is handed on: the proof of the head and its number. -/
def Hb (M : Nat) (ks hs : List Int) (pre : List (Nat × Nat)) (x : Nat × Nat) (W : World) : Prop := pre.length < M ∧ Rd W x.1 (x.1 + 1) (some ⟨x.1, 0, none⟩) 32 (macL ks (hs ++ [((pre.length + 1 : Nat) : Int)]))
theorem Hb.own (M : Nat) (ks hs : List Int) (n₀ : Nat) (pre : List (Nat × Nat)) (x : Nat × Nat) : OwnFrom n₀ (fun (_ : Unit) W => Hb M ks hs pre x W) := by
  intro _ W W' row h hg hr
  have h3 : Rd W x.1 (x.1 + 1) (some ⟨x.1, 0, none⟩) 32 (macL ks (hs ++ [((pre.length + 1 : Nat) : Int)])) := h.2
  refine ⟨h.1, ?_⟩
  rcases row with _ | r
  · exact h3.keep (⟨hg.os, hg.tape, hg.output, hg.size, fun k hk _ => hg.block k hk (by simp)⟩ : Keep 0 0 W W') (by omega)
  · obtain ⟨_, o, ho, hc⟩ := hr r rfl
    have hne : x.1 ≠ r := by
      intro e
      obtain ⟨b, off, e1, _, _, hcell⟩ := h3.at_ (by omega)
      injection e1 with e1
      injection e1 with e1 _
      obtain ⟨o', ho', hc'⟩ := cells_of_cell (hcell 0 (by omega))
      rw [← e, e1] at ho
      have ho'' : W.heap[b]? = some o' := ho'
      rw [ho''] at ho
      cases ho
      rw [hc] at hc'
      cases hc'
    exact h3.keep (⟨hg.os, hg.tape, hg.output, hg.size, fun k hk ho => hg.block k hk (by simp; omega)⟩ : Keep r (r + 1) W W') (by omega)
theorem Rd.narrow {W : World} {lo hi g n : Nat} {xs : List Int} (h : Rd W lo hi (some ⟨g, 0, none⟩) n xs) (hn : 0 < n) : Rd W g (g + 1) (some ⟨g, 0, none⟩) n xs := by
  obtain ⟨b, off, e, h1, h2, hc⟩ := h.at_ hn
  injection e with e
  injection e with e1 e2
  subst e1 e2
  have := h.top
  exact ⟨h.len, h.max, by omega, h.byte, fun _ => ⟨_, _, rfl, Nat.le_refl _, Nat.lt_succ_self _, hc⟩⟩
theorem Rd.kq {W W' : World} {lo hi n₀ B n : Nat} {A : Option Addr} {xs : List Int} (h : Rd W lo hi A n xs) (k : Kq n₀ B W W') (h1 : hi ≤ B) (h2 : B ≤ n₀) : Rd W' lo hi A n xs := by
  refine ⟨h.len, h.max, Nat.le_trans h.top k.size, h.byte, fun hn => ?_⟩
  obtain ⟨b, off, e, g1, g2, hc⟩ := h.at_ hn
  exact ⟨b, off, e, g1, g2, fun j hj => (k.cell (p := ⟨b, off + j, none⟩) (by show b < _; omega) (by show b ≠ _; omega)).trans (hc j hj)⟩
theorem Kt.kq {W W' : World} {n₀ B : Nat} (h : Kt W) (k : Kq n₀ B W W') (h1 : 1 < B) (h2 : B ≤ n₀) : Kt W' :=
  ⟨Nat.lt_of_lt_of_le h.1 k.size, fun j hj => (k.cell (p := ⟨_, j, none⟩) (by show 1 < n₀; omega) (by show 1 ≠ B; omega)).trans (h.2 j hj)⟩
theorem Kq.of_below {n₀ B : Nat} {W W' : World} (h : Below n₀ W W') : Kq n₀ B W W' := ⟨h.size, fun k hk _ => h.block k hk⟩

set_option maxHeartbeats 1000000 in
theorem hidingBlocks_any (A B : Option Addr) (nk ck nh ch : Nat) (n : Int) (w : World) :
    Calls Tryd.prog 62 #[.slice A nk ck, .slice B nh ch, .int .i64 n] w fun e w' =>
      e = .returned (.func (.func 72) #[] #[.pointer (some ⟨w.heap.size + 2, 0, none⟩), .pointer (some ⟨w.heap.size, 0, none⟩), .pointer (some ⟨w.heap.size + 1, 0, none⟩)]) ∧
        w' = ((w.alloc (.cells #[.slice A nk ck] 22)).alloc (.cells #[.slice B nh ch] 22)).alloc (.cells #[.int .i64 n] 3) := by
  go_enter Tryd.func62, Tryd.ntmps62
  go_wp2_with fail
  go_ret
  exact ⟨rfl, rfl⟩

set_option maxHeartbeats 4000000 in
theorem hiding_told (m : Nat) (hm : 1 ≤ m) (Bn Bk Bh n₀ B : Nat) (A D : Option Addr) (nk ck nh ch n hk hb M : Nat) (ks hs : List Int) (w : World)
    (hM : M = (n + 31) / 32) (hn : n ≤ 120) (b1 : Bn < n₀) (b2 : Bk < n₀) (b3 : Bh < n₀) (c1 : Bn ≠ B) (c2 : Bk ≠ B) (c3 : Bh ≠ B) (hkB : hk ≤ B) (hbB : hb ≤ B) (hB : B ≤ n₀) (hg : 1 < B) (hn0 : n₀ ≤ w.heap.size)
    (cn : w.cell? ⟨Bn, 0, none⟩ = some (.int .i64 (n : Int))) (cK : w.cell? ⟨Bk, 0, none⟩ = some (.slice A nk ck)) (cH : w.cell? ⟨Bh, 0, none⟩ = some (.slice D nh ch))
    (key : Rd w 0 hk A nk ks) (head : Rd w 0 hb D nh hs) (kt : Kt w) (hnk : nk ≤ 64) (hnh : 0 < nh) (hnh2 : nh ≤ 1000) :
    SeqTold Fence.wide m Tryd.prog 72 #[.pointer (some ⟨Bn, 0, none⟩), .pointer (some ⟨Bk, 0, none⟩), .pointer (some ⟨Bh, 0, none⟩)] (fun x : Nat × Nat => #[.slice (some ⟨x.1, 0, none⟩) 32 x.2]) (Kq n₀ B) (Hb M ks hs) (fun ys => ys.length = M) w := by
  intro l J W hW hJ hY h0
  have hq0 : Kq n₀ B w W := ⟨hW.size, fun k hk _ => hW.block k (by omega)⟩
  have cnW := (hq0.cell (p := ⟨Bn, 0, none⟩) b1 c1).trans cn
  have hzw := hW.size
  have hdn : D = none → ch = 0 := fun e => by
    obtain ⟨_, _, e', _⟩ := head.at_ hnh
    rw [e] at e'
    cases e'
  have hhl := head.len
  refine callsIn_of_wp Tryd.func72 rfl trivial ?_ rfl
  simp only [Tryd.ntmps72, List.size_toArray, List.length_cons, List.length_nil, Nat.reduceAdd, Nat.reduceSub, Array.replicate_succ, Array.replicate_zero, List.push_toArray, List.append_toArray, List.nil_append, List.cons_append]
  gi_wp2
  gi_loopw [10, 5] (fun i _ wr => ∃ (k : Nat) (pre : List (Nat × Nat)), pre.length = k ∧ k ≤ M ∧ i = .int .i64 (k : Int) ∧ J pre wr ∧ Kq n₀ B w wr ∧ W.heap.size ≤ wr.heap.size)
    (fun i _ _ => M - (intOf i).toNat)
  case atStart => exact ⟨0, [], rfl, Nat.zero_le _, rfl, h0, hq0, Nat.le_refl _⟩
  case round =>
    obtain ⟨k, pre, hpl, hkM, rfl, hJs, hq, hzr⟩ := hrel
    by_cases hlt : k < M
    · have ck1 := (hq.cell (p := ⟨Bk, 0, none⟩) b2 c2).trans cK
      have ch1 := (hq.cell (p := ⟨Bh, 0, none⟩) b3 c3).trans cH
      have key1 := key.kq hq hkB hB
      have head1 := head.kq hq hbB hB
      have kt1 := kt.kq hq hg hB
      have hgs := kt1.1
      have hw64 : IntKind.i64.wrap ((k : Int) + 1) = (k : Int) + 1 := by rw [IntKind.wrap_i64]; omega
      have hwu : IntKind.u8.wrap ((k : Int) + 1) = (k : Int) + 1 := by rw [IntKind.wrap_u8]; omega
      have kA := (Keep.refl 0 0 wr).alloc (.cells #[.int .u8 ((k : Int) + 1)] 5)
      have ownA := own_lit wr wr.heap.size #[.int .u8 ((k : Int) + 1)] [(k : Int) + 1] 1 rfl (by unfold maxLen; omega) (Nat.le_refl _) rfl
      have litA := (Wr.of_own ownA (by unfold maxLen; omega) (by intro x hx; rw [List.mem_singleton.1 hx]; omega)).1.rd0
      have headA := head1.keep kA (by omega)
      have T0 := Two.new (wr.alloc (.cells #[.int .u8 ((k : Int) + 1)] 5)) 22 ch 1 headA litA
      have kd : Keep 0 0 ((wr.alloc (.cells #[.int .u8 ((k : Int) + 1)] 5)).alloc (.cells #[.slice D nh ch, .slice (some ⟨wr.heap.size, 0, none⟩) 1 1] 22)) ((wr.alloc (.cells #[.int .u8 ((k : Int) + 1)] 5)).alloc (.cells #[.slice D nh ch, .slice (some ⟨wr.heap.size, 0, none⟩) 1 1] 22)).drew := ⟨rfl, rfl, rfl, Nat.le_refl _, fun _ _ _ => rfl⟩
      have T1 := T0.keep kd (by omega)
      have kB := (kA.trans ((Keep.refl 0 0 (wr.alloc (.cells #[.int .u8 ((k : Int) + 1)] 5))).alloc (.cells #[.slice D nh ch, .slice (some ⟨wr.heap.size, 0, none⟩) 1 1] 22))).trans kd
      have chA : ((wr.alloc (.cells #[.int .u8 ((k : Int) + 1)] 5)).drew).cell? ⟨Bh, 0, none⟩ = some (.slice D nh ch) := (kA.cell (p := ⟨Bh, 0, none⟩) (by show Bh < _; omega) (by show Bh < 0 ∨ 0 ≤ Bh; omega)).trans ch1
      have ckA : ((wr.alloc (.cells #[.int .u8 ((k : Int) + 1)] 5)).drew).cell? ⟨Bk, 0, none⟩ = some (.slice A nk ck) := (kA.cell (p := ⟨Bk, 0, none⟩) (by show Bk < _; omega) (by show Bk < 0 ∨ 0 ≤ Bk; omega)).trans ck1
      have ckB : (((wr.alloc (.cells #[.int .u8 ((k : Int) + 1)] 5)).alloc (.cells #[.slice D nh ch, .slice (some ⟨wr.heap.size, 0, none⟩) 1 1] 22)).drew).cell? ⟨Bk, 0, none⟩ = some (.slice A nk ck) := (kB.cell (p := ⟨Bk, 0, none⟩) (by show Bk < _; omega) (by show Bk < 0 ∨ 0 ≤ Bk; omega)).trans ck1
      have hcon := concat_any _ 2 _ D _ nh ch 1 1 hs [(k : Int) + 1] _ T1 hdn (fun h => by cases h) hnh (by omega)
      have hml := macL_len ks (hs ++ [(k : Int) + 1])
      have ek : ((pre.length + 1 : Nat) : Int) = (k : Int) + 1 := by omega
      have hyy := fun (g c : Nat) (W1 : World) (h1 : J pre W1) (h2 : Rd W1 g (g + 1) (some ⟨g, 0, none⟩) 32 (macL ks (hs ++ [(k : Int) + 1]))) => hY pre (g, c) W1 h1 ⟨by omega, by rw [ek]; exact h2⟩
      have hmac := fun (w' : World) (g' c' hk' hi' : Nat) (h1 : Rd w' 0 hk' A nk ks) (h2 : Rd w' 0 hi' (some ⟨g', 0, none⟩) (nh + 1) (hs ++ [(k : Int) + 1])) (h3 : Kt w') => macBytes_any A (some ⟨g', 0, none⟩) nk ck (nh + 1) c' hk' hi' ks (hs ++ [(k : Int) + 1]) w' h1 h2 hnk (by omega) (fun h => by cases h) h3
      generalize macL ks (hs ++ [(k : Int) + 1]) = mc at *
      have hcl : (hs ++ [(k : Int) + 1]).length = nh + 1 := by simp [hhl]
      generalize hs ++ [(k : Int) + 1] = zs at *
      have HC := Lib.hid hcon
      have HM := Lib.hid hmac
      have HY := Lib.hid hyy
      have HJ := Lib.hid hJs
      have HKB := Lib.hid kB
      have HK1 := Lib.hid key1
      have HT1 := Lib.hid kt1
      have HQ := Lib.hid hq
      have hklt : (k : Int) < ((n : Int) + 32 - 1) / 32 := by omega
      clear hcon hmac hyy hJs kB kA kd key1 kt1 headA litA ownA T0 T1 hq head1
      gi_wp2
      rw [World.size_alloc] at HC
      gi_region_with (first
        | (refine ⟨trivial, ?_⟩; gi_at_call 41; refine (callsIn_wide.2 HC.out).mono ?_; intro e w1 hm1; clear HC; obtain ⟨g2, c2', rfl, hc2, wr2, b2'⟩ := hm1.at_ hcl; have k1 := HKB.out.trans (Keep.of_below b2' 0 0); have ck2 := (k1.cell (p := ⟨Bk, 0, none⟩) (by show Bk < _; omega) (by show Bk < 0 ∨ 0 ≤ Bk; omega)).trans ck1; have HMM := Lib.hid (HM.out w1 g2 c2' _ _ (HK1.out.keep k1 (by omega)) wr2.1.rd0 (HT1.out.keep k1 (by omega))); clear hm1 wr2 b2')
        | (refine ⟨trivial, ?_⟩; gi_at_call 64; refine (callsIn_wide.2 HMM.out).mono ?_; intro e w2 hm2; clear HMM; obtain ⟨g3, c3', rfl, hc3, wr3, b3'⟩ := hm2.at_ hml; have k2 := k1.trans (Keep.of_below b3' 0 0); have HR := Lib.hid (HY.out g3 c3' w2 (hJ pre wr w2 none HJ.out ⟨k2.os, k2.tape, k2.output, k2.size, fun i hi _ => k2.block i hi (by omega)⟩ (fun r e => by cases e)) (wr3.1.narrow (by omega))); obtain ⟨fn, tmps, assign, body, hy, hR⟩ := HR.out; clear hm2 HR wr3 b3')
        | (refine hR.mono ?_; rintro e w3 ⟨rfl, hJ3, hq3⟩))
      all_goals
        gi_wp2
      all_goals
        go_roundw
        case rel => exact ⟨k + 1, pre ++ [(g3, c3')], by rw [List.length_append]; simp [hpl], by omega, by go_num, hJ3, (HQ.out.trans ⟨k2.size, fun i hi hn => k2.block i (by have := HQ.out.size; omega) (by omega)⟩).trans hq3, Nat.le_trans hzr (Nat.le_trans k2.size hq3.size)⟩
        case measure => simp [intOf]; omega
    · obtain rfl : k = M := by omega
      gi_wp2
      go_end0
      exact ⟨⟨_, rfl⟩, _, hpl, hJs⟩
end Go.Proofs.YtpnpjngaenlciaaDoor
