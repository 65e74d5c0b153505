/-
  The words of a block: l2Words.
-/
import Derived.Test.YtpnpjngaenlciaaDoorH1
namespace Go.Proofs.YtpnpjngaenlciaaDoor
open Go.RowKit
set_option linter.unusedVariables false
set_option maxRecDepth 100000

def sig0 (x : Int) : Int := bits .xor .u32 (bits .xor .u32 (turnR x 7) (turnR x 18)) (x / 8)
def sig1 (x : Int) : Int := bits .xor .u32 (bits .xor .u32 (turnR x 17) (turnR x 19)) (x / 1024)
theorem sig0_u32 (x : Int) : 0 ≤ sig0 x ∧ sig0 x ≤ 4294967295 := bits_u32 _ _ _
theorem sig1_u32 (x : Int) : 0 ≤ sig1 x ∧ sig1 x ≤ 4294967295 := bits_u32 _ _ _
/-- The first words of a block, read from its bytes. -/
def W1 (xs : List Int) (i : Nat) (j : Nat) : Int := if j < i then val (part xs (4 * j) 4) else 0
def nextW (V : Nat → Int) (t : Nat) : Int := (V (t - 16) + sig0 (V (t - 15)) + V (t - 7) + sig1 (V (t - 2))) % 4294967296
/-- The schedule behind m steps. -/
def Ws (xs : List Int) : Nat → Nat → Int
  | 0 => W1 xs 16
  | m + 1 => upd (Ws xs m) (16 + m) (nextW (Ws xs m) (16 + m))
theorem part_val (xs : List Int) (hb : ∀ x ∈ xs, 0 ≤ x ∧ x ≤ 255) (k : Nat) : 0 ≤ val (part xs k 4) ∧ val (part xs k 4) ≤ 4294967295 := by
  have hb' : ∀ x ∈ part xs k 4, 0 ≤ x ∧ x ≤ 255 := fun x hx => hb x (List.mem_of_mem_drop (List.mem_of_mem_take hx))
  have hl : (part xs k 4).length ≤ 4 := by simp [part]; omega
  have h := val_bound _ hb' (part xs k 4).length (Nat.le_refl _)
  rw [List.take_of_length_le (Nat.le_refl _)] at h
  have : ∀ k : Nat, k ≤ 4 → (256 : Int) ^ k ≤ 4294967296 := by
    intro k hk
    have : k = 0 ∨ k = 1 ∨ k = 2 ∨ k = 3 ∨ k = 4 := by omega
    rcases this with h | h | h | h | h <;> subst h <;> decide
  have := this _ hl
  omega
theorem W1_u32 (xs : List Int) (hb : ∀ x ∈ xs, 0 ≤ x ∧ x ≤ 255) (i j : Nat) : 0 ≤ W1 xs i j ∧ W1 xs i j ≤ 4294967295 := by
  unfold W1; split
  · exact part_val xs hb _
  · omega
theorem W1_step (xs : List Int) (i : Nat) : upd (W1 xs i) i (val (part xs (4 * i) 4)) = W1 xs (i + 1) := by
  funext j
  unfold upd W1
  by_cases h : j = i
  · subst h; simp
  · rw [if_neg h]
    by_cases h2 : j < i
    · rw [if_pos h2, if_pos (by omega)]
    · rw [if_neg h2, if_neg (by omega)]
theorem Ws_u32 (xs : List Int) (hb : ∀ x ∈ xs, 0 ≤ x ∧ x ≤ 255) : ∀ m j, 0 ≤ Ws xs m j ∧ Ws xs m j ≤ 4294967295 := by
  intro m
  induction m with
  | zero => exact W1_u32 xs hb 16
  | succ m ih =>
    intro j
    unfold Ws upd
    split
    · unfold nextW; omega
    · exact ih j

theorem info_u32 : (Tryd.prog.info? 103).map (fun i => (i.zero, i.size, i.bytes)) = some (some (.int .u32 0), 1, 4) := by kernel_rfl
theorem run_make_w64 (w : World) : (Instr.makeSlice 110 (.int .i64 64) (.int .i64 64)).run Tryd.prog w =
    .ok (.slice (some ⟨w.heap.size, 0, none⟩) 64 64) (w.alloc (.cells (madeCells #[.int .u32 0] 64) 103)) := by
  obtain ⟨i, hi, hz, hs, hb⟩ := info_parts info_u32
  have hr := run_make (P := Tryd.prog) w 110 103 i (.int .u32 0) Tryd.underlying110 hi hz .i64 .i64 64 64 (by omega) (by omega) (by rw [hb]; omega) (by omega)
  simpa [hs, Value.cells] using hr
theorem Wd.made (w : World) (xs : List Int) (t : TypeId) : Wd (w.alloc (.cells (madeCells #[.int .u32 0] 64) t)) w.heap.size 64 (W1 xs 0) := by
  refine ⟨madeCells #[.int .u32 0] 64, t, ?_, by simp [size_madeCells], fun j hj => ?_⟩
  · show (w.heap.push _)[w.heap.size]? = _; simp
  · simp [madeCells, hj, W1, Nat.mod_one]

set_option maxHeartbeats 2000000 in
theorem l2Words_any (b off c hi : Nat) (xs : List Int) (w : World) (h : Rd w 0 hi (some ⟨b, off, none⟩) 64 xs) (hc64 : 64 ≤ c) :
    Calls Tryd.prog 89 #[.slice (some ⟨b, off, none⟩) 64 c] w (Rowed w 64 (Ws xs 48)) := by
  have hmk := run_make_w64
  have hbyte := h.byte
  go_enter Tryd.func89, Tryd.ntmps89
  go_wp2_with fail
  go_loopw [4] (fun i wr => ∃ k : Nat, k ≤ 16 ∧ i = .int .i64 k ∧ Wd wr w.heap.size 64 (W1 xs k) ∧ Below w.heap.size w wr) (fun i _ => 16 - (intOf i).toNat)
  case atStart => exact ⟨0, Nat.zero_le _, rfl, Wd.made w xs _, (Below.refl _ _).alloc (Nat.le_refl _) _⟩
  case round =>
    obtain ⟨k, hk, rfl, hw, hb⟩ := hrel
    by_cases hlt : k < 16
    · have hp := (h.part_ (4 * k) 4 (by omega)).keep (Keep.of_below hb 0 0) (by omega)
      have hpv := part_val xs hbyte (4 * k)
      have hck : ¬ c = 4 * k := by omega
      have hk1 : (k : Int) < 64 := by omega
      have hc1 := hw.cell (show k < 64 by omega)
      have hf1 := hw.frozen k
      have hs := hw.set_ (show k < 64 by omega) (val (part xs (4 * k) 4))
      rw [W1_step] at hs
      have hb2 : Below w.heap.size w (wr.setCell ⟨w.heap.size, k, none⟩ (.int .u32 (val (part xs (4 * k) 4)))) := hb.setCell (Nat.le_refl _) _
      have HS := Lib.hid hs
      have HB := Lib.hid hb2
      clear hs hb2 hw hb h hmk
      go_wp2_with fail
      refine (readHigh_any _ 4 _ _ _ _ _ hp (by omega)).mono ?_
      rintro e w1 ⟨rfl, rfl⟩
      generalize val (part xs (4 * k) 4) = v at *
      go_wp2_with fail
      go_roundw
      case rel => exact ⟨k + 1, by omega, by go_num, HS.out, HB.out⟩
      case measure => simp [intOf]; omega
    · have hw16 : Wd wr w.heap.size 64 (W1 xs 16) := by
        have e : k = 16 := by omega
        rw [← e]; exact hw
      have hkk : ¬ (k : Int) < 16 := by omega
      clear hmk h hw
      go_wp2_with fail
      go_loopw [5] (fun i wr => ∃ m : Nat, m ≤ 48 ∧ i = .int .i64 (16 + (m : Int)) ∧ Wd wr w.heap.size 64 (Ws xs m) ∧ Below w.heap.size w wr) (fun i _ => 64 - (intOf i).toNat)
      case atStart => exact ⟨0, Nat.zero_le _, rfl, hw16, hb⟩
      case round =>
        obtain ⟨m, hm, rfl, hw, hb⟩ := hrel
        by_cases hlt : m < 48
        · have c1 := hw.cell (show 16 + m - 15 < 64 by omega)
          have c2 := hw.cell (show 16 + m - 2 < 64 by omega)
          have c3 := hw.cell (show 16 + m - 16 < 64 by omega)
          have c3' : wr.cell? ⟨w.heap.size, m, none⟩ = some (.int .u32 (Ws xs m (16 + m - 16))) := by
            have := hw.cell (show m < 64 by omega)
            rw [show 16 + m - 16 = m from by omega]; exact this
          have c4 := hw.cell (show 16 + m - 7 < 64 by omega)
          have c5 := hw.cell (show 16 + m < 64 by omega)
          have f5 := hw.frozen (16 + m)
          have u1 := Ws_u32 xs hbyte m (16 + m - 15)
          have u2 := Ws_u32 xs hbyte m (16 + m - 2)
          have u3 := Ws_u32 xs hbyte m (16 + m - 16)
          have u4 := Ws_u32 xs hbyte m (16 + m - 7)
          have hs : Wd (wr.setCell ⟨w.heap.size, 16 + m, none⟩ (.int .u32 (nextW (Ws xs m) (16 + m)))) w.heap.size 64 (Ws xs (m + 1)) := hw.set_ (show 16 + m < 64 by omega) (nextW (Ws xs m) (16 + m))
          have hb2 : Below w.heap.size w (wr.setCell ⟨w.heap.size, 16 + m, none⟩ (.int .u32 (nextW (Ws xs m) (16 + m)))) := hb.setCell (Nat.le_refl _) _
          unfold nextW at hs hb2
          have g1 : (16 : Int) + (m : Int) < 64 := by omega
          generalize Ws xs m (16 + m - 16) = v0 at *
          generalize Ws xs m (16 + m - 15) = v1 at *
          generalize Ws xs m (16 + m - 7) = v9 at *
          generalize Ws xs m (16 + m - 2) = v14 at *
          generalize Ws xs m (16 + m) = v16 at *
          have HS := Lib.hid hs
          have HB := Lib.hid hb2
          clear hs hb2 hw hb
          go_wp2_with fail
          refine (l2Right_any v1 7 _ u1 (by omega)).mono ?_
          rintro e w1 ⟨rfl, rfl⟩
          go_wp2_with fail
          refine (l2Right_any v1 18 _ u1 (by omega)).mono ?_
          rintro e w1 ⟨rfl, rfl⟩
          go_wp2_with fail
          refine (l2Right_any v14 17 _ u2 (by omega)).mono ?_
          rintro e w1 ⟨rfl, rfl⟩
          go_wp2_with fail
          refine (l2Right_any v14 19 _ u2 (by omega)).mono ?_
          rintro e w1 ⟨rfl, rfl⟩
          go_wp2_with fail
          go_region
          go_wp2_with fail
          go_roundw
          case rel => exact ⟨m + 1, by omega, by go_num, by exact HS.out.drew, by exact HB.out.drew⟩
          case measure => simp [intOf]; omega
        · obtain rfl : m = 48 := by omega
          go_wp2_with fail
          go_ret
          exact ⟨_, rfl, Nat.le_refl _, hw, hb⟩
end Go.Proofs.YtpnpjngaenlciaaDoor
