/-
  l1Mix, spec.MixBytes, impl.MixBytes.
-/
import Derived.Test.YtpnpjngaenlciaaDoorOut
import Derived.OpenShut
import Derived.StillTactics
import Derived.Laws.Pointers
import Derived.Deep.RegionHeld3
import Derived.Deep.AppendLies
namespace Go.Proofs.YtpnpjngaenlciaaDoor
open Go.RowKit
set_option linter.unusedVariables false
set_option maxRecDepth 100000

/-- Byte by byte: xor. -/
def mixAt (xs ys : List Int) (j : Nat) : Int := bits .xor .u8 (xs.getD j 0) (ys.getD j 0)
def mix (n : Nat) (xs ys : List Int) : List Int := (List.range n).map (mixAt xs ys)
theorem mix_len (n : Nat) (xs ys : List Int) : (mix n xs ys).length = n := by simp [mix]
theorem mix_snoc (n : Nat) (xs ys : List Int) : mix (n + 1) xs ys = mix n xs ys ++ [mixAt xs ys n] := by simp [mix, List.range_succ]
theorem mix_getD (n : Nat) (xs ys : List Int) (j : Nat) (h : j < n) : (mix n xs ys).getD j 0 = mixAt xs ys j := by
  simp [mix, List.getD_eq_getElem?_getD, h]
theorem mixAt_byte (xs ys : List Int) (j : Nat) : 0 ≤ mixAt xs ys j ∧ mixAt xs ys j ≤ 255 := by
  have := wf_bits .xor .u8 (xs.getD j 0) (ys.getD j 0)
  simpa [mixAt, Lit.wf, IntKind.min, IntKind.max, IntKind.signed, IntKind.bits] using this
theorem mix_byte (n : Nat) (xs ys : List Int) : ∀ x ∈ mix n xs ys, 0 ≤ x ∧ x ≤ 255 := by
  intro x hx
  simp only [mix, List.mem_map] at hx
  obtain ⟨j, _, rfl⟩ := hx
  exact mixAt_byte xs ys j

theorem own_le {w : World} {base n c g : Nat} {e : TypeId} {vs : List Value} (h : w.ownsRow base e 1 (.slice (some ⟨g, 0, none⟩) n c) n vs) : n ≤ c := by
  rcases h.2 with ⟨hv, _⟩ | ⟨_, cap, _, hv, _, _, hnc, _⟩
  · cases hv
  · injection hv with _ _ e
    omega

theorem info_u8' : (Tryd.prog.info? 5).map (fun i => (i.zero, i.size, i.bytes)) = some (some (.int .u8 0), 1, 1) := by kernel_rfl

set_option maxHeartbeats 400000 in
theorem l1Mix_any (A A' : Option Addr) (n c m c' lo hi lo' hi' : Nat) (xs ys : List Int) (w : World) (h : Rd w lo hi A n xs) (h' : Rd w lo' hi' A' m ys) (hnm : n ≤ m) (hsm : n ≤ 1048576) :
    Calls Tryd.prog 70 #[.slice A n c, .slice A' m c'] w fun e w' => ∃ g cap, e = .returned (.slice (some ⟨g, 0, none⟩) n cap) ∧ n ≤ cap ∧ Wr w' w.heap.size w'.heap.size (some ⟨g, 0, none⟩) n (mix n xs ys) ∧ Below w.heap.size w w' := by
  obtain ⟨i0, hi0, hz0, hz1, hz2⟩ := info_parts info_u8'
  have hint := h.int
  have hint' := h'.int
  go_enter Tryd.func70, Tryd.ntmps70
  go_wp2_with fail
  go_loopw [5, 6] (fun out i wr => ∃ (k g cap : Nat), k ≤ n ∧ i = .int .i64 k ∧ out = .slice (some ⟨g, 0, none⟩) k cap ∧ wr.ownsRow w.heap.size 5 1 (.slice (some ⟨g, 0, none⟩) k cap) k ((mix k xs ys).map (Value.int .u8)) ∧ Below w.heap.size w wr) (fun _ i _ => n - (intOf i).toNat)
  case atStart => exact ⟨0, w.heap.size, 0, Nat.zero_le _, rfl, rfl, World.ownsRow_made w _ 0 (Nat.le_refl _) (Nat.zero_le _) rfl, (Below.refl _ _).alloc (Nat.le_refl _) _⟩
  case round =>
    obtain ⟨k, g, cap, hk, rfl, rfl, hown, hb⟩ := hrel
    by_cases hlt : k < n
    · obtain ⟨b, off, rfl, h1, h2, hc⟩ := h.at_ (by omega)
      obtain ⟨b', off', rfl, h1', h2', hc'⟩ := h'.at_ (by omega)
      have htop := h.top
      have htop' := h'.top
      have q1 := (hb.cell (p := ⟨b, off + k, none⟩) (by show b < _; omega)).trans (hc k hlt)
      have q2 := (hb.cell (p := ⟨b', off' + k, none⟩) (by show b' < _; omega)).trans (hc' k (by omega))
      have hbs := hb.size
      have i1 : (k : Int) < (n : Int) := by omega
      have i2 : (k : Int) < (m : Int) := by omega
      have i0' : (0 : Int) ≤ (k : Int) := by omega
      clear hc hc' h h'
      have HS := Lib.hid (mix_snoc k xs ys)
      have HV : Hid (mixAt xs ys k = bits .xor .u8 (xs.getD k 0) (ys.getD k 0)) := rfl
      generalize xs.getD k 0 = x at q1 HV
      generalize ys.getD k 0 = y at q2 HV
      have lb : b < wr.heap.size := by omega
      have lb' : b' < wr.heap.size := by omega
      have hgl := hown.lt g rfl
      have hml : k + 1 ≤ maxLen := by unfold maxLen; omega
      go_wp2_with fail
      go_region_held3 (fun w' => w'.cell? ⟨b, off + k, none⟩ = some (.int .u8 x) ∧ w'.cell? ⟨b', off' + k, none⟩ = some (.int .u8 y))
        (first
          | go_keep
          | (go_split_ands
             refine ⟨?_, ?_⟩
             · (rw [hgrow.cell_far _ (by simp; omega) (by simp [Value.ownBlock]; omega)]; assumption)
             · (rw [hgrow.cell_far _ (by simp; omega) (by simp [Value.ownBlock]; omega)]; assumption)))
        ((refine step_append_lies _ (by rfl) _ _ _ (by rfl) w.heap.size 5 i0 _ 1 1 Tryd.underlying22 hi0 hz0 hz1 hz2 rfl (by omega) (.slice (some ⟨g, 0, none⟩) k cap) k _ (by rfl) ((hown.alloc _).drew)
            ⟨wr.heap.size, 0, none⟩ 1 1 [.int .u8 (bits .xor .u8 x y)] (by rfl) (by rfl) (World.news_of_block (cs := #[.int .u8 (bits .xor .u8 x y)]) (t := 5) (fr := (0, 0)) (heap_alloc_new wr _)) (by simp [Value.oneCell'])
            (by omega) hml (by omega) (by simp; omega) (wr.heap.size + 1) (by simp) ?_; intro gg cap1 w1 hown1 hgrow hat hglt))
      have ho : w1.ownsRow w.heap.size 5 1 (.slice (some ⟨gg, 0, none⟩) (k + 1) cap1) (k + 1) ((mix (k + 1) xs ys).map (Value.int .u8)) := by
        rw [HS.out, List.map_append, HV.out]; exact hown1
      have hb2 : Below w.heap.size w w1 := ((hb.alloc hbs _).drew).grown hgrow (by simp; omega) (fun q hq => by simp [Value.ownBlock] at hq; omega)
      have HO := Lib.hid ho
      have HB := Lib.hid hb2
      clear ho hb2 hown1 hown hgrow hb hat hglt
      go_wp2_with fail
      go_roundw
      case rel => exact ⟨k + 1, gg, cap1, by omega, by go_num, rfl, HO.out, HB.out⟩
      case measure => simp [intOf]; omega
    · obtain rfl : k = n := by omega
      go_wp2_with fail
      go_ret
      exact ⟨_, _, rfl, own_le hown, (Wr.of_own hown h.max (mix_byte _ _ _)).wide (Nat.le_refl _) (Nat.le_refl _) (Nat.le_refl _), hb⟩

/-- What MixBytes answers: its code, how many bytes, the bytes. -/
def mixCode (n m : Nat) : Int := if m < n ∨ 300 < n then 2 else 0
def mixLen (n m : Nat) : Nat := if m < n ∨ 300 < n then 0 else n
theorem mixCode_bad {n m : Nat} (h : m < n ∨ 300 < n) : mixCode n m = 2 := if_pos h
theorem mixLen_bad {n m : Nat} (h : m < n ∨ 300 < n) : mixLen n m = 0 := if_pos h
theorem mixCode_good {n m : Nat} (h : ¬ (m < n ∨ 300 < n)) : mixCode n m = 0 := if_neg h
theorem mixLen_good {n m : Nat} (h : ¬ (m < n ∨ 300 < n)) : mixLen n m = n := if_neg h

end Go.Proofs.YtpnpjngaenlciaaDoor
