/-
  Rows of items.
-/
import Derived.Test.YtjdkaaepbkkchaaT1
import Derived.Deep.RegionHeld3
namespace Go.Proofs.Ytjdkaaepbkkchaa
open Go.RowKit
set_option linter.unusedVariables false
set_option maxRecDepth 100000

/-- An item: its Kind, its Bytes, its Cols, its Rows. -/
abbrev Itm := Int × List Int × Int × Int
def it0 : Itm := (0, [], 0, 0)
/-- At this place of block b lies the item x; its bytes lie in the blocks lo to hi. -/
def ItAt (w : World) (lo hi b off : Nat) (x : Itm) : Prop :=
  w.cell? ⟨b, off, none⟩ = some (.int .i64 x.1) ∧ (∃ G c, w.cell? ⟨b, off + 1, none⟩ = some (.slice G x.2.1.length c) ∧ Rd w lo hi G x.2.1.length x.2.1 ∧ (G = none → c = 0)) ∧
    w.cell? ⟨b, off + 2, none⟩ = some (.int .i64 x.2.2.1) ∧ w.cell? ⟨b, off + 3, none⟩ = some (.int .i64 x.2.2.2)
/-- The slice value '.slice A n c' reads as these items; all of it lies in the blocks lo to hi. -/
def Rt (w : World) (lo hi : Nat) (A : Option Addr) (n : Nat) (xs : List Itm) : Prop :=
  xs.length = n ∧ n ≤ maxLen ∧ hi ≤ w.heap.size ∧ (0 < n → ∃ b off, A = some ⟨b, off, none⟩ ∧ lo ≤ b ∧ b < hi ∧ ∀ j, j < n → ItAt w lo hi b (off + j * 4) (xs.getD j it0))
section
variable {w w' : World} {lo hi lo' hi' n : Nat} {A : Option Addr} {xs : List Itm}
theorem ItAt.keep {b off : Nat} {x : Itm} (h : ItAt w lo hi b off x) (k : Keep lo' hi' w w') (hb : b < hi) (hlb : lo ≤ b) (ht : hi ≤ w.heap.size) (ho : hi ≤ lo' ∨ hi' ≤ lo ∨ hi' ≤ lo') : ItAt w' lo hi b off x := by
  obtain ⟨h0, ⟨G, c, h1, h2, gz⟩, h3, h4⟩ := h
  have f : ∀ o, w'.cell? ⟨b, o, none⟩ = w.cell? ⟨b, o, none⟩ := fun o => k.cell (p := ⟨b, o, none⟩) (by show b < _; omega) (by show b < lo' ∨ hi' ≤ b; omega)
  exact ⟨(f _).trans h0, ⟨G, c, (f _).trans h1, h2.keep k ho, gz⟩, (f _).trans h3, (f _).trans h4⟩
theorem Rt.len (h : Rt w lo hi A n xs) : xs.length = n := h.1
theorem Rt.max (h : Rt w lo hi A n xs) : n ≤ maxLen := h.2.1
theorem Rt.int (h : Rt w lo hi A n xs) : n ≤ 9223372036854775807 := by
  have := h.2.1
  unfold maxLen at this
  omega
theorem Rt.top (h : Rt w lo hi A n xs) : hi ≤ w.heap.size := h.2.2.1
theorem Rt.at_ (h : Rt w lo hi A n xs) (hn : 0 < n) : ∃ b off, A = some ⟨b, off, none⟩ ∧ lo ≤ b ∧ b < hi ∧ ∀ j, j < n → ItAt w lo hi b (off + j * 4) (xs.getD j it0) := h.2.2.2 hn
theorem Rt.keep (h : Rt w lo hi A n xs) (k : Keep lo' hi' w w') (ho : hi ≤ lo' ∨ hi' ≤ lo ∨ hi' ≤ lo') : Rt w' lo hi A n xs := by
  refine ⟨h.1, h.2.1, Nat.le_trans h.top k.size, fun hn => ?_⟩
  obtain ⟨b, off, e, h1, h2, hc⟩ := h.at_ hn
  exact ⟨b, off, e, h1, h2, fun j hj => (hc j hj).keep k h2 h1 h.top ho⟩
theorem Rt.empty (w : World) (A : Option Addr) (h : lo ≤ w.heap.size) : Rt w lo lo A 0 [] := ⟨rfl, Nat.zero_le _, h, fun h => absurd h (by omega)⟩
theorem Rt.wide (h : Rt w lo hi A n xs) (hl : lo' ≤ lo) (hh : hi ≤ hi') (ht : hi' ≤ w.heap.size) : Rt w lo' hi' A n xs := by
  refine ⟨h.1, h.2.1, ht, fun hn => ?_⟩
  obtain ⟨b, off, e, h1, h2, hc⟩ := h.at_ hn
  refine ⟨b, off, e, by omega, by omega, fun j hj => ?_⟩
  obtain ⟨g0, ⟨G, c, g1, g2, gz⟩, g3, g4⟩ := hc j hj
  exact ⟨g0, ⟨G, c, g1, g2.wide hl hh ht, gz⟩, g3, g4⟩
end

set_option maxHeartbeats 2000000 in
theorem eqItemS_true (A A' : Option Addr) (n c c' lo hi lo' hi' : Nat) (xs : List Itm) (w : World) (h : Rt w lo hi A n xs) (h' : Rt w lo' hi' A' n xs) :
    Calls Try.prog 30 #[.slice A n c, .slice A' n c'] w fun e w' => e = .returned (.bool true) ∧ Keep 0 0 w w' := by
  have hint := h.int
  go_enter Try.func30, Try.ntmps30
  go_wp2_with fail
  go_loopw [5] (fun i wr => ∃ k : Nat, k ≤ n ∧ i = .int .i64 (k : Int) ∧ Keep 0 0 w wr) (fun i _ => n - (intOf i).toNat)
  case atStart => exact ⟨0, Nat.zero_le _, rfl, Keep.refl _ _ _⟩
  case round =>
    obtain ⟨k, hk, rfl, hke⟩ := hrel
    by_cases hlt : k < n
    · have hz := hke.size
      have hr := h.keep hke (by omega)
      have hr' := h'.keep hke (by omega)
      obtain ⟨b, off, rfl, h1, h2, hc⟩ := hr.at_ (by omega)
      obtain ⟨b', off', rfl, h1', h2', hc'⟩ := hr'.at_ (by omega)
      have t1 := hr.top
      have t1' := hr'.top
      obtain ⟨a0, ⟨G, cg, a1, rg, _⟩, a2, a3⟩ := hc k hlt
      obtain ⟨b0, ⟨G', cg', b1, rg', _⟩, b2, b3⟩ := hc' k hlt
      have i0 : (0 : Int) ≤ (k : Int) := by omega
      have i1 : (k : Int) < (n : Int) := by omega
      generalize xs.getD k it0 = x at *
      obtain ⟨xk, xb, xp, xq⟩ := x
      simp only at a0 a1 a2 a3 b0 b1 b2 b3 rg rg'
      have kd : Keep 0 0 wr wr.drew := ⟨rfl, rfl, rfl, Nat.le_refl _, fun _ _ _ => rfl⟩
      have rd := rg.keep kd (by omega)
      have rd' := rg'.keep kd (by omega)
      clear hr hr' hc hc' h h' rg rg'
      go_wp2_with fail
      go_region_held3 (fun w' => w'.cell? ⟨b, off + k * 4, none⟩ = some (.int .i64 xk) ∧ w'.cell? ⟨b, off + k * 4 + 1, none⟩ = some (.slice G xb.length cg) ∧ w'.cell? ⟨b, off + k * 4 + 2, none⟩ = some (.int .i64 xp) ∧ w'.cell? ⟨b, off + k * 4 + 3, none⟩ = some (.int .i64 xq) ∧
          w'.cell? ⟨b', off' + k * 4, none⟩ = some (.int .i64 xk) ∧ w'.cell? ⟨b', off' + k * 4 + 1, none⟩ = some (.slice G' xb.length cg') ∧ w'.cell? ⟨b', off' + k * 4 + 2, none⟩ = some (.int .i64 xp) ∧ w'.cell? ⟨b', off' + k * 4 + 3, none⟩ = some (.int .i64 xq))
        (first
          | go_keep
          | (go_split_ands; refine ⟨?_, ?_, ?_, ?_, ?_, ?_, ?_, ?_⟩ <;> ((refine (hb.cell (by simp; omega)).trans ?_); assumption)))
        ((go_at_call 47; refine (eqItem_true xk xp xq G G' xb.length _ _ _ _ _ _ xb _ rd rd').mono ?_; rintro e v ⟨rfl, kv⟩; have hb := kv.below (B := wr.heap.size) (by omega) (Nat.le_refl _); have kz := kd.trans kv))
      all_goals
        go_wp2_with fail
        go_roundw
        case rel => exact ⟨k + 1, by omega, by go_num, hke.trans kz⟩
        case measure => simp [intOf]; omega
    · have ek : k = n := by omega
      go_wp2_with fail
      go_ret
      exact ⟨rfl, hke⟩
end Go.Proofs.Ytjdkaaepbkkchaa
