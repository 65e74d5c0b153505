/-
  impl.padBytes, impl.PadMessage.
-/
import Derived.Test.YtpnpjngaenlciaaDoorH4
import Derived.Test.YtpnpjngaenlciaaDoorH7
import Derived.Test.YtpnpjngaenlciaaDoorPw
import Derived.Test.YtpnpjngaenlciaaDoorCpy
import Derived.Deep.RegionHeld3
namespace Go.Proofs.YtpnpjngaenlciaaDoor
open Go.RowKit
set_option linter.unusedVariables false
set_option maxRecDepth 100000

/-- New memory with these bytes. -/
def Made (w : World) (ps : List Int) (e : Ending) (w' : World) : Prop :=
  ∃ g cap, e = .returned (.slice (some ⟨g, 0, none⟩) ps.length cap) ∧ ps.length ≤ cap ∧ Wr w' w.heap.size w'.heap.size (some ⟨g, 0, none⟩) ps.length ps ∧ Below w.heap.size w w'

theorem size_u8 : (Tryd.prog.info? 5).map (·.size) = some 1 := by kernel_rfl
/-- How many bytes all is. -/
theorem padEnd_blocks (n : Nat) : (n + 72) / 64 * 64 = padEnd n + 8 := by unfold padEnd; omega
theorem digs8 (n : Int) (h0 : 0 ≤ n) (h : n < 256 ^ 7) : digs n 8 = 0 :: digs n 7 := by
  have e : sh n 7 = 0 := Int.ediv_eq_zero_of_lt h0 h
  simp only [digs, List.range_succ_eq_map (n := 7), List.map_cons, List.map_map]
  rw [show 8 - 1 - 0 = 7 from rfl, e]
  congr 1
theorem splice_at (xs : List Int) (L : Nat) (h : xs.length ≤ L) : splice (List.replicate L 0) 0 xs = xs ++ List.replicate (L - xs.length) 0 := by
  simp [splice]
theorem pads_set (xs : List Int) (L : Nat) (h : xs.length + 1 ≤ L) : (xs ++ List.replicate (L - xs.length) 0).set xs.length 128 = pads xs L := by
  rw [List.set_append_right _ _ (Nat.le_refl _), Nat.sub_self]
  unfold pads
  rw [show L - xs.length = L - (xs.length + 1) + 1 from by omega, List.replicate_succ]
  rfl
theorem pads_done (xs : List Int) (E : Nat) (h : xs.length + 1 ≤ E) (ds : List Int) (h8 : ds.length = 8) : splice (pads xs (E + 8)) E ds = pads xs E ++ ds := by
  have e : pads xs (E + 8) = pads xs E ++ List.replicate 8 0 := by
    unfold pads
    rw [show E + 8 - (xs.length + 1) = E - (xs.length + 1) + 8 from by omega, ← List.replicate_append_replicate]
    simp
  rw [e]
  have hl := pads_len xs E h
  simp [splice, h8, hl]

set_option maxHeartbeats 1000000 in
theorem padBytes_any (A : Option Addr) (n c hi : Nat) (xs : List Int) (w : World) (h : Rd w 0 hi A n xs) (hn : n ≤ 2097152) :
    Calls Tryd.prog 79 #[.slice A n c] w (Made w (padL xs)) := by
  have hlen := h.len
  have hbyte := h.byte
  obtain ⟨L, hL⟩ : ∃ L, L = padEnd n + 8 := ⟨_, rfl⟩
  have hE1 := padEnd_ge n
  have hE2 := padEnd_le n
  have hE : ((n : Int) + 1 + 8 + 64 - 1) / 64 * 64 = (L : Int) := by have := padEnd_blocks n; omega
  have hmk := run_make_u8 L (by omega) w
  have h1 := h.keep ((Keep.refl 0 0 w).alloc (.cells (madeCells #[.int .u8 0] L) 5)) (by omega)
  have r1 := RowL.made w L 5
  have b1 : Below w.heap.size w (w.alloc (.cells (madeCells #[.int .u8 0] L) 5)) := (Below.refl _ _).alloc (Nat.le_refl _) _
  have z1 : w.heap.size < (w.alloc (.cells (madeCells #[.int .u8 0] L) 5)).heap.size := by simp
  have hnL : (n : Int) < (L : Int) := by omega
  have h8L : (8 : Int) ≤ (L : Int) := by omega
  obtain ⟨M, hM⟩ : ∃ M, M = padEnd n := ⟨_, rfl⟩
  have hLM : L = M + 8 := by omega
  have hW : IntKind.i64.wrap ((L : Int) - 8) = (M : Int) := by rw [IntKind.wrap_i64]; omega
  have hU1 : IntKind.u64.wrap (n : Int) = (n : Int) := by rw [IntKind.wrap_u64]; omega
  have hU2 : IntKind.u64.wrap (8 * (n : Int)) = 8 * (n : Int) := by rw [IntKind.wrap_u64]; omega
  have hM0 : (0 : Int) ≤ (M : Int) := by omega
  have hM1 : (M : Int) ≤ (L : Int) := by omega
  have hM2 : ¬ L = M := by omega
  have hM3 : L - M = 8 := by omega
  have HL := Lib.hid hL
  have HM := Lib.hid hM
  have HLM := Lib.hid hLM
  clear hL hM hLM
  go_enter Tryd.func79, Tryd.ntmps79
  go_wp2_with (refine wpList_copy_rd rfl (.tmp 15) (.tmp 16) 22 22 rfl 5 Tryd.underlying22 size_u8 w.heap.size 0 L L n c 0 hi A rfl rfl (List.replicate L 0) xs r1 h1 (by omega) (by simp; omega) ?_)
  intro w2 r2 k2
  rw [splice_at xs L (by omega)] at r2
  have b2 := b1.trans (k2.below (by omega) b1.size)
  have z2 := Nat.lt_of_lt_of_le z1 k2.size
  have c2 := r2.cell (j := n) (by simp; omega)
  have f2 := r2.frozen n
  have r3 := r2.set_ n 128
  rw [← hlen, pads_set xs L (by omega), hlen] at r3
  have b3 := b2.setCell (p := ⟨w.heap.size, n, none⟩) (Nat.le_refl _) (.int .u8 128)
  have z3 : w.heap.size < (w2.setCell ⟨w.heap.size, n, none⟩ (.int .u8 128)).heap.size := by simpa using z2
  generalize (xs ++ List.replicate (L - xs.length) 0).getD n 0 = v2 at *
  clear r2 k2 h1 b2 b1 r1 z1 z2
  go_wp2_with fail
  generalize w2.setCell ⟨w.heap.size, n, none⟩ (.int .u8 128) = w3 at *
  have r3' : RowL w3.drew w.heap.size (pads xs L) := r3
  have b3' : Below w.heap.size w w3.drew := b3.trans ⟨rfl, rfl, rfl, Nat.le_refl _, fun _ _ => rfl⟩
  have z3' : w.heap.size < w3.drew.heap.size := z3
  clear r3 b3 z3 c2 f2 hmk h
  go_region_held3 (fun _ => True) (trivial) (first
    | (go_at_call 86; refine (putWord64_any (8 * (n : Int)) 8 _ (by omega) (by omega) (by omega)).mono ?_; rintro e w4 ⟨g4, rfl, wr4, b4⟩)
    | (refine step_copy_rd rfl (.tmp 26) (.tmp 31) 22 22 rfl 5 Tryd.underlying22 size_u8 w.heap.size M 8 8 8 8 _ _ _ rfl rfl (pads xs L) (digs (8 * (n : Int)) 8) (r3'.keep (Keep.of_below b4 0 0) (by omega)) wr4.1 (by omega) (by rw [pads_len xs L (by have := HM.out; have := HLM.out; omega)]; have := HLM.out; omega) ?_; intro w5 r5 k5))
  have b4' := b3'.trans (b4.mono (by omega))
  have b5 := b4'.trans (k5.below (by omega) b4'.size)
  have z5 : w.heap.size < w5.heap.size := by have := b4.size; have := k5.size; omega
  have hpl : (padL xs).length = L := by rw [padL_len, hlen, HL.out]
  have hps : splice (pads xs L) M (digs (8 * (n : Int)) 8) = padL xs := by
    have e : L = M + 8 := HLM.out
    rw [e, pads_done xs M (by have := HM.out; omega) _ (digs_len _ _), digs8 _ (by omega) (by omega), HM.out]
    unfold padL
    rw [hlen]
  rw [hps] at r5
  have HF : Hid (Made w (padL xs) (.returned (.slice (some ⟨w.heap.size, 0, none⟩) L L)) w5) :=
    ⟨w.heap.size, L, ret_slice hpl.symm, by omega, r5.wr rfl (by unfold maxLen; omega) (padL_byte xs hbyte) (Nat.le_refl _) z5 (Nat.le_refl _), b5⟩
  clear r5 b5 b4' b4 wr4 k5 r3' b3' hps hpl
  go_wp2_with fail
  go_ret
  exact HF.out

end Go.Proofs.YtpnpjngaenlciaaDoor
