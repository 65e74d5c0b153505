/-
  The hash: l2Hash.
-/
import Derived.Test.YtpnpjngaenlciaaDoorH4
namespace Go.Proofs.YtpnpjngaenlciaaDoor
open Go.RowKit
set_option linter.unusedVariables false
set_option maxRecDepth 100000

/-- One block more. -/
def blk (H : Nat → Int) (xs : List Int) : Nat → Int := fun j => (H j + st (Ws xs 48) H 64 j) % 4294967296
/-- The words behind m blocks. -/
def hst (ps : List Int) : Nat → Nat → Int
  | 0 => H0
  | m + 1 => blk (hst ps m) (part ps (64 * m) 64)
theorem hst_u32 (ps : List Int) : ∀ m, U32 (hst ps m) := fun m => by
  cases m with
  | zero => exact H0_u32
  | succ m => intro j; show 0 ≤ (_ : Int) % 4294967296 ∧ (_ : Int) % 4294967296 ≤ 4294967295; omega
/-- The bytes of k words. -/
def outB (h : Nat → Int) : Nat → List Int
  | 0 => []
  | k + 1 => outB h k ++ digs (h k) 4
theorem outB_len (h : Nat → Int) : ∀ k, (outB h k).length = 4 * k := fun k => by
  induction k with
  | zero => rfl
  | succ k ih => simp only [outB, List.length_append, ih, digs_len]; omega
theorem outB_byte (h : Nat → Int) : ∀ k, ∀ x ∈ outB h k, 0 ≤ x ∧ x ≤ 255 := fun k => by
  induction k with
  | zero => intro x hx; simp [outB] at hx
  | succ k ih =>
    intro x hx
    rcases List.mem_append.1 hx with hx | hx
    · exact ih x hx
    · exact digs_byte _ _ x hx
/-- SHA-256. -/
def hashL (xs : List Int) : List Int := outB (hst (padL xs) ((padL xs).length / 64)) 8
theorem hashL_len (xs : List Int) : (hashL xs).length = 32 := outB_len _ _
theorem hashL_byte (xs : List Int) : ∀ x ∈ hashL xs, 0 ≤ x ∧ x ≤ 255 := outB_byte _ _
theorem padL_blocks (xs : List Int) : (padL xs).length = 64 * ((padL xs).length / 64) := by
  rw [padL_len]
  have := padEnd_at xs.length
  omega

theorem own_less {w : World} {base base' n size : Nat} {e : TypeId} {v : Value} {vs : List Value} (h : w.ownsRow base e size v n vs) (hb : base' ≤ base) : w.ownsRow base' e size v n vs := by
  refine ⟨h.1, ?_⟩
  rcases h.2 with h2 | ⟨g, cap, cur, hv, hg, r⟩
  · exact .inl h2
  · exact .inr ⟨g, cap, cur, hv, by omega, r⟩

set_option maxHeartbeats 2000000 in
theorem l2Hash_any (A : Option Addr) (n c hi : Nat) (xs : List Int) (w : World) (h : Rd w 0 hi A n xs) (hn : n ≤ 2097152) (hA : A = none → c = 0) :
    Calls Tryd.prog 76 #[.slice A n c] w (Padded w (hashL xs)) := by
  obtain ⟨i0, hi0, hz0, hz1, hz2⟩ := info_parts info_u8s
  have hlen := h.len
  have hbyte := h.byte
  go_enter Tryd.func76, Tryd.ntmps76
  go_wp2_with fail
  refine (l2First_any w).mono ?_
  rintro e w1 ⟨gh, rfl, hgh, hw1, b1⟩
  have z1 := b1.size
  have hgl := hw1.lt
  have k1 := Keep.of_below b1 0 0
  have h1 := h.keep k1 (by omega)
  go_wp2_with fail
  refine (l2Pad_any A n c hi xs w1 h1 hn hA).mono ?_
  rintro e w2 ⟨gp, cp, rfl, hcp, own2, b2⟩
  have hplen : (padL xs).length ≤ 2097152 + 80 := by rw [padL_len]; have := padEnd_le xs.length; omega
  have hpb := padL_byte xs hbyte
  have hblk := padL_blocks xs
  have HH : Hid (hashL xs = outB (hst (padL xs) ((padL xs).length / 64)) 8) := rfl
  have HL := Lib.hid (hashL_len xs)
  generalize padL xs = ps at *
  have r2 := (Wr.of_own own2 (by unfold maxLen; omega) hpb).1
  have hw2 := hw1.keep (Keep.of_below b2 0 0) (by omega)
  have bb2 := b1.trans (b2.mono z1)
  have z2 := b2.size
  generalize hN : ps.length = N at *
  have HN := Lib.hid hN
  generalize hM : N / 64 = M at *
  have HM := Lib.hid hM
  have HBK := Lib.hid hblk
  clear hN hM hblk own2 b1 b2 k1 h h1 hw1
  go_wp2_with fail
  go_loopw [5] (fun i wr => ∃ m a : Nat, a = 64 * m ∧ m ≤ M ∧ i = .int .i64 (a : Int) ∧ Wd wr gh 8 (hst ps m) ∧ Rd wr w1.heap.size w2.heap.size (some ⟨gp, 0, none⟩) N ps ∧ Below w.heap.size w wr) (fun i _ => N - (intOf i).toNat)
  case atStart => exact ⟨0, 0, rfl, Nat.zero_le _, rfl, hw2, r2, bb2⟩
  case round =>
    obtain ⟨m, a, ha, hmM, rfl, hw, hr, b⟩ := hrel
    have HA := Lib.hid ha
    have hblk := HBK.out
    have haM : a ≤ N := by omega
    have z := b.size
    by_cases hlt : m < M
    · have ha1 : a + 64 ≤ N := by omega
      have hp := (hr.part_ a 64 ha1).wide (Nat.zero_le _) (Nat.le_refl _) hr.top
      rw [Nat.zero_add] at hp
      have hcc : ¬ cp = a := by omega
      have hca : 64 ≤ cp - a := by omega
      have hst1 : Hid (hst ps (m + 1) = blk (hst ps m) (part ps a 64)) := by rw [HA.out]; rfl
      have hu := hst_u32 ps m
      have j1 : (a : Int) < (N : Int) := by omega
      have j2 : (a : Int) + 64 ≤ (cp : Int) := by omega
      have j3 : (0 : Int) ≤ (a : Int) := by omega
      clear ha hblk
      go_wp2_with fail
      refine (l2Block_any gh 8 gp a _ _ (part ps a 64) (hst ps m) wr hp ?_ hw hu).mono ?_
      · omega
      rintro e w3 ⟨rfl, hw3, k3⟩
      have hr3 := hr.keep k3 (by omega)
      have b3 := b.trans (k3.below (by omega) z)
      have hw3' : Wd w3 gh 8 (hst ps (m + 1)) := by rw [hst1.out]; exact hw3
      have HW := Lib.hid hw3'
      have HR := Lib.hid hr3
      have HB := Lib.hid b3
      clear hw3 hw3' hr3 b3 k3 hw hr b hp
      go_wp2_with fail
      go_roundw
      case rel => exact ⟨m + 1, a + 64, by have := HA.out; omega, by omega, by go_num, HW.out, HR.out, HB.out⟩
      case measure => simp [intOf]; omega
    · have eM : m = M := by omega
      have hwM : Wd wr gh 8 (hst ps M) := by rw [← eM]; exact hw
      have hu := hst_u32 ps M
      have j1 : ¬ (a : Int) < (N : Int) := by omega
      generalize hV : hst ps M = V at *
      have HV := Lib.hid hV
      clear hV ha hblk hw hr
      obtain ⟨wo, rfl⟩ : ∃ wo : World, wo = wr := ⟨_, rfl⟩
      go_wp2_with fail
      have b4 : Below w.heap.size w (wo.alloc (.cells #[] 5)) := b.alloc z _
      have own4 : (wo.alloc (.cells #[] 5)).ownsRow wo.heap.size 5 1 (.slice (some ⟨wo.heap.size, 0, none⟩) 0 0) 0 [] := World.ownsRow_made wo _ 0 (Nat.le_refl _) (Nat.zero_le _) rfl
      have hw4 : Wd (wo.alloc (.cells #[] 5)) gh 8 V := hwM.keep ((Keep.refl 0 0 wo).alloc _) (by omega)
      have hghr := hwM.lt
      go_loopw [7, 6] (fun i out wx => ∃ k l g cap : Nat, l = 4 * k ∧ k ≤ 8 ∧ i = .int .i64 (k : Int) ∧ out = .slice (some ⟨g, 0, none⟩) l cap ∧ wx.ownsRow wo.heap.size 5 1 (.slice (some ⟨g, 0, none⟩) l cap) l ((outB V k).map (Value.int .u8)) ∧ Wd wx gh 8 V ∧ Below wo.heap.size wo wx) (fun i _ _ => 8 - (intOf i).toNat)
      case atStart => exact ⟨0, 0, wo.heap.size, 0, rfl, Nat.zero_le _, rfl, rfl, own4, hw4, (Below.refl _ _).alloc (Nat.le_refl _) _⟩
      case round =>
        obtain ⟨k, l, g, cap, hl4, hk, rfl, rfl, own, hw, bo⟩ := hrel
        have HL4 := Lib.hid hl4
        have hl32 : l ≤ 32 := by omega
        have zo := bo.size
        by_cases hlt : k < 8
        · have hc1 := hw.cell hlt
          have huk := hu k
          have HS : Hid (outB V (k + 1) = outB V k ++ digs (V k) 4) := rfl
          generalize hvk : V k = vk at *
          clear hvk hl4
          go_wp2_with fail
          refine (l1High_any vk 4 wr (by omega) (by omega) (by omega)).mono ?_
          rintro e w5 ⟨g5, rfl, wr5, b5⟩
          have own5 := own_keep own (Keep.of_below b5 0 0) (by omega)
          have hw5 := hw.keep (Keep.of_below b5 0 0) (by omega)
          have bo5 := bo.trans (b5.mono zo)
          have zo5 := bo5.size
          have hg5 := own5.lt g rfl
          have hnews := wr5.1.news
          have hone : ∀ u ∈ (digs vk 4).map (Value.int .u8), u.oneCell' = true := ints_oneCell _ _
          have hd4 : ((digs vk 4).map (Value.int .u8)).length = 4 * 1 := by simp [digs_len]
          generalize hdg : digs vk 4 = dg at *
          clear hdg own b5 wr5 hw bo
          go_wp2_with (at_builtin; refine wpList_append_lies _ rfl _ _ 22 rfl wo.heap.size 5 i0 (.int .u8 0) 1 1 Tryd.underlying22 hi0 hz0 hz1 hz2 rfl (by decide) _ _ _ rfl own5 ⟨g5, 0, none⟩ 4 4 (dg.map (Value.int .u8)) rfl ?k1 ?k2 ?k3 (by decide) ?k4 ?k5 ?k6 w5.heap.size rfl ?_)
          case k1 => exact hd4
          case k2 => exact hnews
          case k3 => exact hone
          case k4 => unfold maxLen; omega
          case k5 => omega
          case k6 => omega
          intro g6 cap6 w6 own6 grow6 hat6 hlt6
          have b6 : Below wo.heap.size wo w6 := bo5.grown grow6 zo5 (fun q hq => by simp [Value.ownBlock] at hq; omega)
          have kg : Keep g (g + 1) w5 w6 := ⟨grow6.os, grow6.tape, grow6.output, grow6.size, fun q hq ho => grow6.block q hq (by simp [Value.ownBlock]; omega)⟩
          have hw6 := hw5.keep kg (by omega)
          have own6' : w6.ownsRow wo.heap.size 5 1 (.slice (some ⟨g6, 0, none⟩) (l + 4) cap6) (l + 4) ((outB V (k + 1)).map (Value.int .u8)) := by
            rw [HS.out, List.map_append]; exact own6
          have HO := Lib.hid own6'
          have HB := Lib.hid b6
          have HW := Lib.hid hw6
          clear own6 own6' b6 hw6 hw5 kg grow6 hat6 hlt6 hnews hone hd4 own5 bo5
          go_wp2_with fail
          go_roundw
          case rel => exact ⟨k + 1, l + 4, g6, cap6, by have := HL4.out; omega, by omega, by go_num, rfl, HO.out, HW.out, HB.out⟩
          case measure => simp [intOf]; omega
        · have ek : k = 8 := by omega
          have el : l = 32 := by omega
          have e32 : (outB V 8).length = l := by rw [outB_len]; omega
          have HF : Hid (Padded w (outB V 8) (.returned (.slice (some ⟨g, 0, none⟩) l cap)) wr) := by
            refine ⟨g, cap, ret_slice e32.symm, by rw [e32]; exact own_cap own, ?_, b.trans (bo.mono z)⟩
            rw [e32, ← ek]
            exact own_less own z
          have jk : ¬ (k : Int) < 8 := by omega
          clear own hw bo ek el e32 hl4
          go_wp2_with fail
          go_ret
          rw [HH.out]
          exact HF.out
end Go.Proofs.YtpnpjngaenlciaaDoor
