/-
  Padding: l2Pad.
-/
import Derived.Test.YtpnpjngaenlciaaDoorH3
import Derived.Test.YtpnpjngaenlciaaDoorPut
import Derived.Test.YtpnpjngaenlciaaDoorDraw
namespace Go.Proofs.YtpnpjngaenlciaaDoor
open Go.RowKit
set_option linter.unusedVariables false
set_option maxRecDepth 100000

/-- How long all is ahead of the eight bytes of the length. -/
def padEnd (n : Nat) : Nat := n + 1 + (119 - n % 64) % 64
/-- The bytes, a byte 128, zeros up to L. -/
def pads (xs : List Int) (L : Nat) : List Int := xs ++ 128 :: List.replicate (L - (xs.length + 1)) 0
def padL (xs : List Int) : List Int := pads xs (padEnd xs.length) ++ 0 :: digs (8 * (xs.length : Int)) 7
theorem pads_len (xs : List Int) (L : Nat) (h : xs.length + 1 ≤ L) : (pads xs L).length = L := by simp [pads]; omega
theorem pads_step (xs : List Int) (L : Nat) (h : xs.length + 1 ≤ L) : pads xs (L + 1) = pads xs L ++ [0] := by
  unfold pads
  rw [show L + 1 - (xs.length + 1) = L - (xs.length + 1) + 1 from by omega, List.replicate_succ']
  simp
theorem pads_first (xs : List Int) : pads xs (xs.length + 1) = xs ++ [128] := by simp [pads]
theorem padEnd_ge (n : Nat) : n + 1 ≤ padEnd n := by unfold padEnd; omega
theorem padEnd_le (n : Nat) : padEnd n ≤ n + 64 := by unfold padEnd; omega
theorem padEnd_at (n : Nat) : padEnd n % 64 = 56 := by unfold padEnd; omega
theorem padEnd_not (n L : Nat) (h1 : n + 1 ≤ L) (h2 : L < padEnd n) : L % 64 ≠ 56 := by unfold padEnd at h2; omega
theorem padL_len (xs : List Int) : (padL xs).length = padEnd xs.length + 8 := by
  unfold padL
  rw [List.length_append, pads_len xs _ (padEnd_ge _), List.length_cons, digs_len]
theorem padL_byte (xs : List Int) (hb : ∀ x ∈ xs, 0 ≤ x ∧ x ≤ 255) : ∀ x ∈ padL xs, 0 ≤ x ∧ x ≤ 255 := by
  intro x hx
  unfold padL pads at hx
  rcases List.mem_append.1 hx with hx | hx
  · rcases List.mem_append.1 hx with hx | hx
    · exact hb x hx
    · rcases List.mem_cons.1 hx with hx | hx
      · omega
      · have := List.eq_of_mem_replicate hx; omega
  · rcases List.mem_cons.1 hx with hx | hx
    · omega
    · exact digs_byte _ _ x hx
theorem ret_slice {A : Option Addr} {a b c : Nat} (h : a = b) : Ending.returned (.slice A a c) = .returned (.slice A b c) := by rw [h]
/-- How long a slice is. -/
def lenOf : Value → Nat | .slice _ n _ => n | _ => 0

/-- Padded. -/
def Padded (w : World) (ps : List Int) (e : Ending) (w' : World) : Prop :=
  ∃ g cap, e = .returned (.slice (some ⟨g, 0, none⟩) ps.length cap) ∧ ps.length ≤ cap ∧ w'.ownsRow w.heap.size 5 1 (.slice (some ⟨g, 0, none⟩) ps.length cap) ps.length (ps.map (Value.int .u8)) ∧ Below w.heap.size w w'

theorem own_cap {w : World} {base n c g : Nat} {e : TypeId} {vs : List Value} (h : w.ownsRow base e 1 (.slice (some ⟨g, 0, none⟩) n c) n vs) : n ≤ c := by
  rcases h.2 with ⟨hv, _⟩ | ⟨_, cap, _, hv, _, _, hnc, _⟩
  · cases hv
  · injection hv with _ _ e
    omega

set_option maxHeartbeats 2000000 in
theorem l2Pad_any (A : Option Addr) (n c hi : Nat) (xs : List Int) (w : World) (h : Rd w 0 hi A n xs) (hn : n ≤ 2097152) (hA : A = none → c = 0) :
    Calls Tryd.prog 83 #[.slice A n c] w (Padded w (padL xs)) := by
  obtain ⟨i0, hi0, hz0, hz1, hz2⟩ := info_parts info_u8s
  have hlen := h.len
  have hbyte := h.byte
  have hE1 := padEnd_ge n
  have hE2 := padEnd_le n
  go_enter Tryd.func83, Tryd.ntmps83
  go_wp2_with fail
  refine (copy_any A n c _ _ xs w h (by omega) hA).mono ?_
  rintro e w1 ⟨g1, cap1, rfl, own1, _, b1⟩
  have hl1 := own1.lt g1 rfl
  have z1 := b1.size
  go_wp2_with (at_builtin; refine wpList_append_lies _ rfl _ _ 22 rfl w.heap.size 5 i0 (.int .u8 0) 1 1 Tryd.underlying22 hi0 hz0 hz1 hz2 rfl (by decide) _ _ _ rfl (own1.alloc _) ⟨w1.heap.size, 0, none⟩ 1 1 [.int .u8 128] rfl rfl ?c1 ?c2 (by decide) ?c3 ?c4 ?c5 (w1.heap.size + 1) (by simp) ?_)
  case c1 => exact cell_one_new _ _ _
  case c2 => simp [Value.oneCell']
  case c3 => unfold maxLen; omega
  case c4 => omega
  case c5 => simp; omega
  intro g2 cap2 w2 own2 grow2 hat2 hlt2
  have b2 : Below w.heap.size w w2 := (b1.alloc z1 _).grown grow2 (by simp; omega) (fun q hq => by simp [Value.ownBlock] at hq; omega)
  have own2' : w2.ownsRow w.heap.size 5 1 (.slice (some ⟨g2, 0, none⟩) (n + 1) cap2) (n + 1) ((pads xs (n + 1)).map (Value.int .u8)) := by
    rw [← hlen, pads_first, List.map_append, hlen]; exact own2
  clear own2 grow2 hat2 hlt2 own1 hl1
  go_wp2_with fail
  go_loopw [3] (fun out wr => ∃ (L g cap : Nat), n + 1 ≤ L ∧ L ≤ padEnd n ∧ out = .slice (some ⟨g, 0, none⟩) L cap ∧ wr.ownsRow w.heap.size 5 1 (.slice (some ⟨g, 0, none⟩) L cap) L ((pads xs L).map (Value.int .u8)) ∧ Below w.heap.size w wr) (fun out _ => padEnd n - lenOf out)
  case atStart => exact ⟨n + 1, g2, cap2, Nat.le_refl _, hE1, rfl, own2', b2⟩
  case round =>
    obtain ⟨L, g, cap, hL1, hL2, rfl, own, b⟩ := hrel
    have z := b.size
    have hgl := own.lt g rfl
    by_cases hlt : L < padEnd n
    · have hne : ((L : Int) % 64 != 56) = true := by
        have := padEnd_not n L hL1 hlt
        simp; omega
      have HP := Lib.hid (pads_step xs L (by omega))
      go_wp2_with (at_builtin; refine wpList_append_lies _ rfl _ _ 22 rfl w.heap.size 5 i0 (.int .u8 0) 1 1 Tryd.underlying22 hi0 hz0 hz1 hz2 rfl (by decide) _ _ _ rfl (own.alloc _) ⟨wr.heap.size, 0, none⟩ 1 1 [.int .u8 0] rfl rfl ?e1 ?e2 (by decide) ?e3 ?e4 ?e5 (wr.heap.size + 1) (by simp) ?_)
      case e1 => exact cell_one_new _ _ _
      case e2 => simp [Value.oneCell']
      case e3 => unfold maxLen; omega
      case e4 => omega
      case e5 => simp; omega
      intro g3 cap3 w3 own3 grow3 hat3 hlt3
      have b3 : Below w.heap.size w w3 := (b.alloc z _).grown grow3 (by simp; omega) (fun q hq => by simp [Value.ownBlock] at hq; omega)
      have own3' : w3.ownsRow w.heap.size 5 1 (.slice (some ⟨g3, 0, none⟩) (L + 1) cap3) (L + 1) ((pads xs (L + 1)).map (Value.int .u8)) := by
        rw [HP.out, List.map_append]; exact own3
      have HO := Lib.hid own3'
      have HB := Lib.hid b3
      clear own3 own3' b3 grow3 hat3 hlt3 own b
      go_wp2_with fail
      go_roundw
      case rel => exact ⟨L + 1, g3, cap3, by omega, by omega, rfl, HO.out, HB.out⟩
      case measure => simp [lenOf]; omega
    · have hne : ((L : Int) % 64 != 56) = false := by
        have := padEnd_at n
        have e : L = padEnd n := by omega
        simp; omega
      go_wp2_with (at_builtin; refine wpList_append_lies _ rfl _ _ 22 rfl w.heap.size 5 i0 (.int .u8 0) 1 1 Tryd.underlying22 hi0 hz0 hz1 hz2 rfl (by decide) _ _ _ rfl (own.alloc _) ⟨wr.heap.size, 0, none⟩ 1 1 [.int .u8 0] rfl rfl ?f1 ?f2 (by decide) ?f3 ?f4 ?f5 (wr.heap.size + 1) (by simp) ?_)
      case f1 => exact cell_one_new _ _ _
      case f2 => simp [Value.oneCell']
      case f3 => unfold maxLen; omega
      case f4 => omega
      case f5 => simp; omega
      intro g3 cap3 w3 own3 grow3 hat3 hlt3
      have b3 : Below w.heap.size w w3 := (b.alloc z _).grown grow3 (by simp; omega) (fun q hq => by simp [Value.ownBlock] at hq; omega)
      have z3 := b3.size
      clear grow3 hat3 hlt3 own b hne
      go_wp2_with fail
      refine (l1High_any (8 * (n : Int)) 7 w3 (by omega) (by omega) (by omega)).mono ?_
      rintro e w4 ⟨g4, rfl, wr4, b4⟩
      have own4 := own_keep own3 (Keep.of_below b4 0 0) (by omega)
      have hl4 := own4.lt g3 rfl
      have b44 := b3.trans (b4.mono z3)
      have z4 := b44.size
      have hnews : ∀ j u, ((digs (8 * (n : Int)) 7).map (Value.int .u8))[j]? = some u → w4.cell? ((⟨g4, 0, none⟩ : Addr).add j) = some u := by
        intro j u hu
        have hj : j < 7 := by
          have := (List.getElem?_eq_some_iff.1 hu).1
          simpa [digs_len] using this
        obtain ⟨bb, oo, e, _, _, hc⟩ := wr4.1.at_ (by omega)
        injection e with e
        injection e with e1 e2
        subst e1 e2
        have hadd : (⟨g4, 0, none⟩ : Addr).add j = ⟨g4, 0 + j, none⟩ := by unfold Addr.add; split <;> simp_all
        rw [hadd, hc j hj, ← hu]
        rw [List.getElem?_map, List.getD_eq_getElem?_getD, List.getElem?_eq_getElem (by rw [digs_len]; exact hj)]
        rfl
      have hone : ∀ u ∈ (digs (8 * (n : Int)) 7).map (Value.int .u8), u.oneCell' = true := ints_oneCell _ _
      have hd7 : ((digs (8 * (n : Int)) 7).map (Value.int .u8)).length = 7 * 1 := by simp [digs_len]
      generalize hdg : digs (8 * (n : Int)) 7 = dg at *
      have HDG := Lib.hid hdg
      clear hdg own3 b4 wr4 b3
      go_wp2_with (at_builtin; refine wpList_append_lies _ rfl _ _ 22 rfl w.heap.size 5 i0 (.int .u8 0) 1 1 Tryd.underlying22 hi0 hz0 hz1 hz2 rfl (by decide) _ _ _ rfl own4 ⟨g4, 0, none⟩ 7 7 (dg.map (Value.int .u8)) rfl ?k1 ?k2 ?k3 (by decide) ?k4 ?k5 ?k6 w4.heap.size rfl ?_)
      case k1 => exact hd7
      case k2 => exact hnews
      case k3 => exact hone
      case k4 => unfold maxLen; omega
      case k5 => omega
      case k6 => omega
      intro g5 cap5 w5 own5 grow5 hat5 hlt5
      have b5 : Below w.heap.size w w5 := b44.grown grow5 z4 (fun q hq => by simp [Value.ownBlock] at hq; omega)
      have hLE : L = padEnd n := by omega
      have hpl : (padL xs).length = L + 1 + 7 := by rw [padL_len, hlen, hLE]
      have hpm : (padL xs).map (Value.int .u8) = (pads xs L).map (Value.int .u8) ++ .int .u8 0 :: dg.map (Value.int .u8) := by
        unfold padL
        rw [hlen, ← hLE, HDG.out]
        simp
      have HO : Hid (w5.ownsRow w.heap.size 5 1 (.slice (some ⟨g5, 0, none⟩) (padL xs).length cap5) (padL xs).length ((padL xs).map (Value.int .u8))) := by
        show World.ownsRow _ _ _ _ _ _ _
        rw [hpl, hpm]; exact own5
      have HB := Lib.hid b5
      have HL := Lib.hid hpl
      have HC := Lib.hid (own_cap own5)
      clear own5 b5 grow5 hat5 hlt5 own4 hnews hone hd7 b44 hpl hpm hLE
      go_wp2_with fail
      go_ret
      exact ⟨g5, cap5, ret_slice HL.out.symm, by rw [HL.out]; exact HC.out, HO.out, HB.out⟩
end Go.Proofs.YtpnpjngaenlciaaDoor
