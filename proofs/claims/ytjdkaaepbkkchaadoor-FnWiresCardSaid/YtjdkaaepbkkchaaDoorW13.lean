/-
  Chapter 7: the developers' reader: take, number.
-/
import Derived.Test.YtjdkaaepbkkchaaDoorW2
import Derived.Test.YtjdkaaepbkkchaaDoorVec
import Derived.Test.YtjdkaaepbkkchaaDoorGet
namespace Go.Proofs.YtjdkaaepbkkchaaDoor
open Go.RowKit
set_option linter.unusedVariables false
set_option maxRecDepth 100000

/-- The sentinel lies in its variable. -/
def Ke (a : Addr) (w : World) : Prop := 0 < w.heap.size ∧ w.cell? ⟨0, 0, none⟩ = some (.iface 126 (.pointer (some a)))
theorem Ke.below {a : Addr} {w w' : World} {B : Nat} (h : Ke a w) (k : Below B w w') (hB : 0 < B) : Ke a w' :=
  ⟨Nat.lt_of_lt_of_le h.1 k.size, (k.cell (p := ⟨_, 0, none⟩) hB).trans h.2⟩
theorem Ke.keep {a : Addr} {w w' : World} {lo hi : Nat} (h : Ke a w) (k : Keep lo hi w w') (ho : 0 < lo ∨ hi ≤ 0) : Ke a w' :=
  ⟨Nat.lt_of_lt_of_le h.1 k.size, (k.cell (p := ⟨_, 0, none⟩) h.1 ho).trans h.2⟩
/-- It panics, and not with nil. -/
def Pan (e : Ending) : Prop := ∃ (u : TypeId) (pv : Value), e = .panicked [{ v := .iface u pv, recovered := false }]

/-- At b lies a reader that has still xs to read. -/
structure Rdr (w : World) (b lo hi : Nat) (xs : List Int) : Prop where
  lt : b < w.heap.size
  out : hi ≤ b
  fz : w.frozen? ⟨b, 0, none⟩ = false
  st : ∃ A n c, w.cell? ⟨b, 0, none⟩ = some (.slice A n c) ∧ Rd w lo hi A n xs ∧ n ≤ c ∧ ((A = none ∧ c = 0) ∨ ∃ g off, A = some ⟨g, off, none⟩)
theorem Rdr.keep {w w' : World} {b lo hi lo' hi' : Nat} {xs : List Int} (h : Rdr w b lo hi xs) (k : Keep lo' hi' w w') (ho : (b < lo' ∨ hi' ≤ b) ∧ (hi ≤ lo' ∨ hi' ≤ lo ∨ hi' ≤ lo')) : Rdr w' b lo hi xs := by
  obtain ⟨A, n, c, h1, h2, h3⟩ := h.st
  exact ⟨Nat.lt_of_lt_of_le h.lt k.size, h.out, (k.frozen (p := ⟨b, 0, none⟩) h.lt ho.1).trans h.fz, A, n, c, (k.cell (p := ⟨b, 0, none⟩) h.lt ho.1).trans h1, h2.keep k ho.2, h3⟩
theorem Rdr.below {w w' : World} {b lo hi : Nat} {xs : List Int} (h : Rdr w b lo hi xs) (k : Below w.heap.size w w') : Rdr w' b lo hi xs := h.keep (Keep.of_below k 0 0) (by omega)
theorem Rd.take_ {w : World} {lo hi n : Nat} {A : Option Addr} {xs : List Int} (h : Rd w lo hi A n xs) (k : Nat) (hk : k ≤ n) : Rd w lo hi A k (xs.take k) := by
  rcases Nat.eq_zero_or_pos n with h0 | h0
  · obtain rfl : k = 0 := by omega
    exact ⟨by simp, Nat.zero_le _, h.top, by simp, fun h => absurd h (by omega)⟩
  · obtain ⟨b, off, rfl, _⟩ := h.at_ h0
    have := h.part_ 0 k (by omega)
    simpa [part] using this
theorem Rd.drop_ {w : World} {lo hi n b off : Nat} {xs : List Int} (h : Rd w lo hi (some ⟨b, off, none⟩) n xs) (k : Nat) (hk : k ≤ n) : Rd w lo hi (some ⟨b, off + k, none⟩) (n - k) (xs.drop k) := by
  have := h.part_ k (n - k) (by omega)
  have hl := h.len
  rw [part, List.take_of_length_le (by rw [List.length_drop]; omega)] at this
  exact this
theorem Rd.none_ {w : World} {lo hi : Nat} (A : Option Addr) (h : hi ≤ w.heap.size) : Rd w lo hi A 0 [] := ⟨rfl, Nat.zero_le _, h, by simp, fun h => absurd h (by omega)⟩

theorem Rdr.next {w : World} {b lo hi n c k : Nat} {A2 : Option Addr} {xs : List Int} (h : Rdr w b lo hi xs) (hr : Rd w lo hi A2 (n - k) (xs.drop k)) (hn : n ≤ c) (hA : (A2 = none ∧ c - k = 0) ∨ ∃ g off, A2 = some ⟨g, off, none⟩) :
    Rdr (w.setCell ⟨b, 0, none⟩ (.slice A2 (n - k) (c - k))) b lo hi (xs.drop k) ∧ Keep b (b + 1) w (w.setCell ⟨b, 0, none⟩ (.slice A2 (n - k) (c - k))) := by
  have hk : Keep b (b + 1) w (w.setCell ⟨b, 0, none⟩ (.slice A2 (n - k) (c - k))) := (Keep.refl _ _ w).setCell (p := ⟨b, 0, none⟩) ⟨Nat.le_refl _, Nat.lt_succ_self _⟩ _
  obtain ⟨A, n', c', h1, _⟩ := h.st
  have ho := h.out
  exact ⟨⟨by simpa using h.lt, h.out, by rw [World.frozen?_setCell]; exact h.fz, A2, n - k, c - k, World.cell?_setCell_same _ _ _ h1, hr.keep hk (by omega), by omega, hA⟩, hk⟩

set_option maxHeartbeats 1000000 in
theorem take_yes (b lo hi k : Nat) (xs : List Int) (w : World) (h : Rdr w b lo hi xs) (hk : k ≤ xs.length) :
    Calls Tryd.prog 85 #[.pointer (some ⟨b, 0, none⟩), .int .i64 (k : Int)] w fun e w' => ∃ A c, e = .returned (.slice A k c) ∧ Rd w' lo hi A k (xs.take k) ∧ k ≤ c ∧ ((A = none ∧ c = 0) ∨ ∃ g off, A = some ⟨g, off, none⟩) ∧ Rdr w' b lo hi (xs.drop k) ∧ Keep b (b + 1) w w' := by
  obtain ⟨A, n, c, hc, hr, hnc, hA⟩ := h.st
  have hint := hr.int
  have hl := hr.len
  have hlt := h.lt
  have hf := h.fz
  have ho := h.out
  have n1 : ¬ (n : Int) < (k : Int) := by omega
  have i0 : (0 : Int) ≤ (k : Int) := by omega
  have i1 : (k : Int) ≤ (n : Int) := by omega
  have i2 : (k : Int) ≤ (c : Int) := by omega
  have rt := hr.take_ k (by omega)
  by_cases hck : c = k
  · have hrd : Rd w lo hi A (n - k) (xs.drop k) := by
      rw [show n - k = 0 by omega, List.drop_of_length_le (by omega)]
      exact Rd.none_ A hr.top
    obtain ⟨q1, q2⟩ := h.next (c := c) hrd hnc (by rcases hA with ⟨h1, h2⟩ | h1; exact .inl ⟨h1, by omega⟩; exact .inr h1)
    rw [show n - k = 0 by omega, show c - k = 0 by omega] at q1 q2
    have Q1 := Lib.hid q1
    have Q2 := Lib.hid q2
    have RT := Lib.hid (rt.keep q2 (by omega))
    have HA := Lib.hid hA
    clear q1 q2 hrd rt hr h hA
    subst hck
    go_enter Tryd.func85, Tryd.ntmps85
    go_wp2_with fail
    go_ret
    exact ⟨_, _, rfl, RT.out, Nat.le_refl _, HA.out, Q1.out, Q2.out⟩
  · rcases hA with ⟨h1, h2⟩ | ⟨g, off, rfl⟩
    · omega
    · have hrd := hr.drop_ k (by omega)
      obtain ⟨q1, q2⟩ := h.next (c := c) hrd hnc (.inr ⟨_, _, rfl⟩)
      have Q1 := Lib.hid q1
      have Q2 := Lib.hid q2
      have RT := Lib.hid (rt.keep q2 (by omega))
      clear q1 q2 hrd rt hr h
      go_enter Tryd.func85, Tryd.ntmps85
      go_wp2_with fail
      go_ret
      exact ⟨_, _, rfl, RT.out, by omega, .inr ⟨_, _, rfl⟩, Q1.out, Q2.out⟩

set_option maxHeartbeats 1000000 in
theorem take_no (ea : Addr) (b lo hi k : Nat) (xs : List Int) (w : World) (h : Rdr w b lo hi xs) (hk : xs.length < k) (ke : Ke ea w) :
    Calls Tryd.prog 85 #[.pointer (some ⟨b, 0, none⟩), .int .i64 (k : Int)] w fun e w' => Pan e ∧ w = w' := by
  obtain ⟨A, n, c, hc, hr, hnc, hA⟩ := h.st
  have hint := hr.int
  have hl := hr.len
  have n1 : (n : Int) < (k : Int) := by omega
  have hk0 := ke.1
  have hk1 := ke.2
  go_enter Tryd.func85, Tryd.ntmps85
  go_wp2_with fail
  exact ⟨rfl, ⟨_, _, rfl⟩, rfl⟩

/-- A number of k bytes. -/
theorem number_yes (b lo hi k : Nat) (xs : List Int) (w : World) (h : Rdr w b lo hi xs) (hk : k ≤ xs.length) (h1 : 1 ≤ k) (h7 : k ≤ 7) :
    Calls Tryd.prog 72 #[.pointer (some ⟨b, 0, none⟩), .int .i64 (k : Int)] w fun e w' => e = .returned (.int .i64 (val (xs.take k))) ∧ Rdr w' b lo hi (xs.drop k) ∧ Keep b (b + 1) w w' := by
  have HT := Lib.hid (take_yes b lo hi k xs w h hk)
  have HG := Lib.hid (fun (A : Option Addr) (c : Nat) (w' : World) (hr : Rd w' lo hi A k (xs.take k)) => implGet_any A k c lo hi (xs.take k) w' hr)
  rw [if_pos ⟨h1, h7⟩] at HG
  have f1 : ∀ (v : Int) (w : World), (Instr.field 112 (.agg #[.int .i64 0, .int .i64 v]) 1).run Tryd.prog w = .ok (.int .i64 v) w := fun _ _ => by kernel_rfl
  generalize val (xs.take k) = v at *
  have hlt := h.lt
  clear h
  go_enter Tryd.func72, Tryd.ntmps72
  go_wp2_with fail
  refine HT.out.mono ?_
  rintro e w1 ⟨A, c, rfl, hr, hkc, hA, hd, k1⟩
  go_wp2_with fail
  refine (HG.out A c w1 hr).mono ?_
  rintro e w2 ⟨rfl, hb⟩
  have HD := Lib.hid (hd.below hb)
  have HK := Lib.hid (k1.trans (Keep.of_below hb b (b + 1)))
  clear hd hb k1 hr hA
  go_wp2_with fail
  go_ret
  exact ⟨rfl, HD.out, HK.out⟩
theorem number_no (ea : Addr) (b lo hi k : Nat) (xs : List Int) (w : World) (h : Rdr w b lo hi xs) (hk : xs.length < k) (ke : Ke ea w) :
    Calls Tryd.prog 72 #[.pointer (some ⟨b, 0, none⟩), .int .i64 (k : Int)] w fun e w' => Pan e ∧ w = w' := by
  have HT := Lib.hid (take_no ea b lo hi k xs w h hk ke)
  clear h ke
  go_enter Tryd.func72, Tryd.ntmps72
  go_wp2_with fail
  refine HT.out.mono ?_
  rintro e w1 ⟨⟨u, pv, rfl⟩, rfl⟩
  go_wp2_with fail
  exact ⟨rfl, ⟨_, _, rfl⟩, rfl⟩
end Go.Proofs.YtjdkaaepbkkchaaDoor
