/-
  The draws' source: l1Source, l1Next, l1Pick, l1Chance, l1Some, l1Copy: they answer, and what they answer lies in its bounds.
-/
import Derived.Test.YtjdkaaepbkkchaaDoorBase
import Derived.OpenShut
import Derived.StillTactics
import Derived.Laws.Pointers
import Derived.Deep.RegionHeld3
import Derived.Deep.AppendLies
namespace Go.Proofs.YtjdkaaepbkkchaaDoor
open Go.RowKit
set_option linter.unusedVariables false
set_option maxRecDepth 100000

/-- Block s holds a source: the bytes that are read, and how many were read. -/
def Src (w : World) (s k : Nat) (A : Option Addr) (nc cc hi : Nat) (xs : List Int) : Prop :=
  s < w.heap.size ∧ hi ≤ s ∧ w.cell? ⟨s, 0, none⟩ = some (.slice A nc cc) ∧ w.cell? ⟨s, 1, none⟩ = some (.int .i64 (k : Int)) ∧ w.frozen? ⟨s, 1, none⟩ = false ∧ Rd w 0 hi A nc xs

theorem Src.keep {w w' : World} {s k : Nat} {A : Option Addr} {nc cc hi lo' hi' : Nat} {xs : List Int} (h : Src w s k A nc cc hi xs) (ke : Keep lo' hi' w w') (ho : s < lo' ∨ hi' ≤ s) (hc : hi ≤ lo' ∨ hi' ≤ lo') : Src w' s k A nc cc hi xs :=
  ⟨Nat.lt_of_lt_of_le h.1 ke.size, h.2.1, (ke.cell (p := ⟨s, 0, none⟩) h.1 ho).trans h.2.2.1, (ke.cell (p := ⟨s, 1, none⟩) h.1 ho).trans h.2.2.2.1, (ke.frozen (p := ⟨s, 1, none⟩) h.1 ho).trans h.2.2.2.2.1, h.2.2.2.2.2.keep ke (by omega)⟩

/-- What a draw leaves: a number in its bounds, the source one further on. -/
def Drawn (w : World) (s k : Nat) (A : Option Addr) (nc cc hi : Nat) (xs : List Int) (m : Int) (e : Ending) (w' : World) : Prop :=
  ∃ r : Int, e = .returned (.int .i64 r) ∧ 0 ≤ r ∧ (1 ≤ m → r < m) ∧ (m < 1 → r = 0) ∧ Src w' s (k + 1) A nc cc hi xs ∧ Keep s (s + 1) w w'

theorem Src.step {w : World} {s k : Nat} {A : Option Addr} {nc cc hi : Nat} {xs : List Int} (h : Src w s k A nc cc hi xs) : Src (w.setCell ⟨s, 1, none⟩ (.int .i64 ((k : Int) + 1))) s (k + 1) A nc cc hi xs ∧ Keep s (s + 1) w (w.setCell ⟨s, 1, none⟩ (.int .i64 ((k : Int) + 1))) := by
  have hk : Keep s (s + 1) w (w.setCell ⟨s, 1, none⟩ (.int .i64 ((k : Int) + 1))) := (Keep.refl s (s + 1) w).setCell (p := ⟨s, 1, none⟩) ⟨Nat.le_refl _, Nat.lt_succ_self _⟩ _
  refine ⟨⟨Nat.lt_of_lt_of_le h.1 hk.size, h.2.1, (World.cell?_setCell_other _ _ _ _ (by simp)).trans h.2.2.1, World.cell?_setCell_same _ _ _ h.2.2.2.1, by rw [World.frozen?_setCell]; exact h.2.2.2.2.1, h.2.2.2.2.2.keep hk (by have := h.2.1; omega)⟩, hk⟩

theorem quo_le (k n : Nat) : (0 : Int) ≤ (k : Int) / (n : Int) ∧ (k : Int) / (n : Int) ≤ (k : Int) :=
  ⟨Int.ediv_nonneg (Int.natCast_nonneg _) (Int.natCast_nonneg _), Int.ediv_le_self _ (Int.natCast_nonneg _)⟩
theorem rem_lt (k n : Nat) (h : 0 < n) : (0 : Int) ≤ (k : Int) % (n : Int) ∧ (k : Int) % (n : Int) < (n : Int) :=
  ⟨Int.emod_nonneg _ (by omega), Int.emod_lt_of_pos _ (by omega)⟩

set_option maxHeartbeats 1000000 in
theorem next_small (s k : Nat) (A : Option Addr) (nc cc hi : Nat) (xs : List Int) (m : Int) (w : World) (h : Src w s k A nc cc hi xs) (hk : k ≤ 549755813888) (hm : m < 1) (hm0 : -9223372036854775808 ≤ m) :
    Calls Tryd.prog 61 #[.pointer (some ⟨s, 0, none⟩), .int .i64 m] w (Drawn w s k A nc cc hi xs m) := by
  obtain ⟨hs1, hs2⟩ := h.step
  obtain ⟨a1, a2, c0, c1, f1, hr⟩ := h
  have H1 := Lib.hid hs1
  have H2 := Lib.hid hs2
  clear hs1 hs2 hr
  go_enter Tryd.func61, Tryd.ntmps61
  go_wp2_with fail
  go_ret
  exact ⟨0, rfl, by omega, by omega, fun _ => rfl, H1.out, H2.out⟩

set_option maxHeartbeats 1000000 in
theorem next_empty (s k : Nat) (A : Option Addr) (cc hi : Nat) (xs : List Int) (m : Int) (w : World) (h : Src w s k A 0 cc hi xs) (hk : k ≤ 549755813888) (hm : 1 ≤ m) (hm1 : m ≤ 9223372036854775807) :
    Calls Tryd.prog 61 #[.pointer (some ⟨s, 0, none⟩), .int .i64 m] w (Drawn w s k A 0 cc hi xs m) := by
  obtain ⟨hs1, hs2⟩ := h.step
  obtain ⟨a1, a2, c0, c1, f1, hr⟩ := h
  have H1 := Lib.hid hs1
  have H2 := Lib.hid hs2
  clear hs1 hs2 hr
  go_enter Tryd.func61, Tryd.ntmps61
  go_wp2_with fail
  go_ret
  exact ⟨_, rfl, Int.emod_nonneg _ (by omega), fun _ => Int.emod_lt_of_pos _ (by omega), fun h => by omega, H1.out, H2.out⟩

set_option maxHeartbeats 1000000 in
theorem next_byte (s k : Nat) (A : Option Addr) (nc cc hi : Nat) (xs : List Int) (m : Int) (w : World) (h : Src w s k A nc cc hi xs) (hk : k ≤ 549755813888) (hnc : 0 < nc) (hm : 1 ≤ m) (hm1 : m ≤ 200) :
    Calls Tryd.prog 61 #[.pointer (some ⟨s, 0, none⟩), .int .i64 m] w (Drawn w s k A nc cc hi xs m) := by
  obtain ⟨hs1, hs2⟩ := h.step
  obtain ⟨a1, a2, c0, c1, f1, hr⟩ := h
  obtain ⟨b, off, rfl, h1, h2, hc⟩ := Rd.at_ hr hnc
  have hint := Rd.int hr
  have z1 := hc (k % nc) (Nat.mod_lt _ hnc)
  have y1 := Rd.byteAt' hr (Nat.mod_lt k hnc)
  have p1 := rem_lt k nc hnc
  have q1 := quo_le k nc
  have n1 : b ≠ s := by omega
  have g0 : (0 : Int) < (nc : Int) := by omega
  have g1 : ((nc : Int) == 0) = false := by simp; omega
  have H1 := Lib.hid hs1
  have H2 := Lib.hid hs2
  clear hs1 hs2 hr hc
  go_enter Tryd.func61, Tryd.ntmps61
  go_wp2_with fail
  go_quiet (fail)
  go_wp2_with fail
  go_ret
  exact ⟨_, rfl, Int.emod_nonneg _ (by omega), fun _ => Int.emod_lt_of_pos _ (by omega), fun h => by omega, H1.out, Keep.drewN H2.out _⟩

set_option maxHeartbeats 1000000 in
theorem next_mid (s k : Nat) (A : Option Addr) (nc cc hi : Nat) (xs : List Int) (m : Int) (w : World) (h : Src w s k A nc cc hi xs) (hk : k ≤ 549755813888) (hnc : 0 < nc) (hm : 200 < m) (hm1 : m ≤ 60000) :
    Calls Tryd.prog 61 #[.pointer (some ⟨s, 0, none⟩), .int .i64 m] w (Drawn w s k A nc cc hi xs m) := by
  obtain ⟨hs1, hs2⟩ := h.step
  obtain ⟨a1, a2, c0, c1, f1, hr⟩ := h
  obtain ⟨b, off, rfl, h1, h2, hc⟩ := Rd.at_ hr hnc
  have hint := Rd.int hr
  have z1 := hc (k % nc) (Nat.mod_lt _ hnc)
  have y1 := Rd.byteAt' hr (Nat.mod_lt k hnc)
  have p1 := rem_lt k nc hnc
  have z2 := hc ((k + 1) % nc) (Nat.mod_lt _ hnc)
  have y2 := Rd.byteAt' hr (Nat.mod_lt (k + 1) hnc)
  have p2 : (0 : Int) ≤ ((k : Int) + 1) % (nc : Int) ∧ ((k : Int) + 1) % (nc : Int) < (nc : Int) := rem_lt (k + 1) nc hnc
  have q1 := quo_le k nc
  have n1 : b ≠ s := by omega
  have g0 : (0 : Int) < (nc : Int) := by omega
  have g1 : ((nc : Int) == 0) = false := by simp; omega
  have H1 := Lib.hid hs1
  have H2 := Lib.hid hs2
  clear hs1 hs2 hr hc
  go_enter Tryd.func61, Tryd.ntmps61
  go_wp2_with fail
  go_quiet (fail)
  go_wp2_with fail
  have s2 : IntKind.i64.wrap ((k : Int) + 1) = (k : Int) + 1 := IntWalk.i64_in _ (by omega)
  have s3 : (0 : Int) ≤ (k : Int) + 1 := by omega
  go_quiet (fail)
  go_wp2_with fail
  go_ret
  exact ⟨_, rfl, Int.emod_nonneg _ (by omega), fun _ => Int.emod_lt_of_pos _ (by omega), fun h => by omega, H1.out, Keep.drewN H2.out _⟩

set_option maxHeartbeats 1000000 in
theorem next_big (s k : Nat) (A : Option Addr) (nc cc hi : Nat) (xs : List Int) (m : Int) (w : World) (h : Src w s k A nc cc hi xs) (hk : k ≤ 549755813888) (hnc : 0 < nc) (hm : 60000 < m) (hm1 : m ≤ 9223372036854775807) :
    Calls Tryd.prog 61 #[.pointer (some ⟨s, 0, none⟩), .int .i64 m] w (Drawn w s k A nc cc hi xs m) := by
  obtain ⟨hs1, hs2⟩ := h.step
  obtain ⟨a1, a2, c0, c1, f1, hr⟩ := h
  obtain ⟨b, off, rfl, h1, h2, hc⟩ := Rd.at_ hr hnc
  have hint := Rd.int hr
  have z1 := hc (k % nc) (Nat.mod_lt _ hnc)
  have y1 := Rd.byteAt' hr (Nat.mod_lt k hnc)
  have p1 := rem_lt k nc hnc
  have z2 := hc ((k + 1) % nc) (Nat.mod_lt _ hnc)
  have y2 := Rd.byteAt' hr (Nat.mod_lt (k + 1) hnc)
  have p2 : (0 : Int) ≤ ((k : Int) + 1) % (nc : Int) ∧ ((k : Int) + 1) % (nc : Int) < (nc : Int) := rem_lt (k + 1) nc hnc
  have z3 := hc ((k + 2) % nc) (Nat.mod_lt _ hnc)
  have y3 := Rd.byteAt' hr (Nat.mod_lt (k + 2) hnc)
  have p3 : (0 : Int) ≤ ((k : Int) + 2) % (nc : Int) ∧ ((k : Int) + 2) % (nc : Int) < (nc : Int) := rem_lt (k + 2) nc hnc
  have q1 := quo_le k nc
  have n1 : b ≠ s := by omega
  have g0 : (0 : Int) < (nc : Int) := by omega
  have g1 : ((nc : Int) == 0) = false := by simp; omega
  have H1 := Lib.hid hs1
  have H2 := Lib.hid hs2
  clear hs1 hs2 hr hc
  go_enter Tryd.func61, Tryd.ntmps61
  go_wp2_with fail
  go_quiet (fail)
  go_wp2_with fail
  have s2 : IntKind.i64.wrap ((k : Int) + 1) = (k : Int) + 1 := IntWalk.i64_in _ (by omega)
  have s3 : (0 : Int) ≤ (k : Int) + 1 := by omega
  go_quiet (fail)
  go_wp2_with fail
  clear s2 s3
  have s4 : IntKind.i64.wrap ((k : Int) + 2) = (k : Int) + 2 := IntWalk.i64_in _ (by omega)
  have s5 : (0 : Int) ≤ (k : Int) + 2 := by omega
  go_quiet (fail)
  go_wp2_with fail
  go_ret
  exact ⟨_, rfl, Int.emod_nonneg _ (by omega), fun _ => Int.emod_lt_of_pos _ (by omega), fun h => by omega, H1.out, Keep.drewN H2.out _⟩


/-- A draw, whatever is asked. -/
theorem next_any (s k : Nat) (A : Option Addr) (nc cc hi : Nat) (xs : List Int) (m : Int) (w : World) (h : Src w s k A nc cc hi xs) (hk : k ≤ 549755813888) (hm : -9223372036854775808 ≤ m ∧ m ≤ 9223372036854775807) :
    Calls Tryd.prog 61 #[.pointer (some ⟨s, 0, none⟩), .int .i64 m] w (Drawn w s k A nc cc hi xs m) := by
  by_cases h1 : m < 1
  · exact next_small s k A nc cc hi xs m w h hk h1 hm.1
  rcases Nat.eq_zero_or_pos nc with h0 | h0
  · subst h0
    exact next_empty s k A cc hi xs m w h hk (by omega) hm.2
  by_cases h2 : m ≤ 200
  · exact next_byte s k A nc cc hi xs m w h hk h0 (by omega) h2
  by_cases h3 : m ≤ 60000
  · exact next_mid s k A nc cc hi xs m w h hk h0 (by omega) h3
  · exact next_big s k A nc cc hi xs m w h hk h0 (by omega) hm.2
end Go.Proofs.YtjdkaaepbkkchaaDoor
