/-
  The model's HeadOf, OpenPacket.
-/
import Derived.Test.YtpnpjngaenlciaaS2
import Derived.StillTailTactics
namespace Go.Proofs.Ytpnpjngaenlciaa
open Go.RowKit
set_option linter.unusedVariables false
set_option maxRecDepth 100000

theorem hdSeq_bound (ps : List Int) (hb : ∀ x ∈ ps, 0 ≤ x ∧ x ≤ 255) : 0 ≤ hdSeq ps ∧ hdSeq ps ≤ 4294967295 := part_val ps hb 1
theorem zeroOr_zero (x : Int) : zeroOr 0 x = x := rfl
theorem zeroOr_bad {c : Int} (h : c ≠ 0) (x : Int) : zeroOr c x = 0 := if_neg h

set_option maxHeartbeats 1000000 in
theorem specHead_any (A : Option Addr) (n c hi : Nat) (ps : List Int) (w : World) (h : Rd w 0 hi A n ps) (hnc : n ≤ c) :
    Calls Try.prog 4 #[.slice A n c] w (PAns w (headCode ps) (zeroOr (headCode ps) (hdSide ps)) (zeroOr (headCode ps) (hdSeq ps)) []) := by
  have hint := h.int
  have hl := h.len
  by_cases hn : n < 13 ∨ 133 < n
  · have e : headCode ps = 2 := by unfold headCode; rw [if_pos (by omega)]
    rw [e, zeroOr_bad (by omega), zeroOr_bad (by omega)]
    rcases hn with hn | hn
    · have h1 : (n : Int) - 5 - 8 < 0 := by omega
      go_enter Try.func4, Try.ntmps4
      go_wp2_with fail
      go_returns
      exact PAns.fault (by go_grown)
    · have h1 : ¬ (n : Int) - 5 - 8 < 0 := by omega
      have h2 : (120 : Int) < (n : Int) - 5 - 8 := by omega
      go_enter Try.func4, Try.ntmps4
      go_wp2_with fail
      go_returns
      exact PAns.fault (by go_grown)
  · have h1 : ¬ (n : Int) - 5 - 8 < 0 := by omega
    have h2 : ¬ (120 : Int) < (n : Int) - 5 - 8 := by omega
    have e0 : ¬ (ps.length < 13 ∨ 133 < ps.length) := by omega
    have hb := hdSeq_bound ps h.byte
    have ka := (Keep.refl 0 0 w).alloc (.cells #[.int .i64 0, .int .i64 0, .int .i64 0, .slice none 0 0] 24)
    have hk := h.keep ka (by omega)
    obtain ⟨b, off, rfl, _, _, hc⟩ := hk.at_ (by omega)
    have hp := hk.part_ 1 4 (by omega)
    have c0 := hc 0 (by omega)
    rw [Nat.add_zero] at c0
    have hs0 := hk.byteAt (j := 0) (by omega)
    have hc5 : (5 : Int) ≤ (c : Int) := by omega
    have hc1 : ¬ c = 1 := by omega
    have HD : Hid (hdSide ps = ps.getD 0 0) := rfl
    have HQ : Hid (hdSeq ps = val (part ps 1 4)) := rfl
    have hrh := fun (w' : World) (h' : Rd w' 0 hi (some ⟨b, off + 1, none⟩) 4 (part ps 1 4)) => readHigh_any (some ⟨b, off + 1, none⟩) 4 (c - 1) 0 hi (part ps 1 4) w' h' (by omega)
    have hcode : headCode ps = if ¬ sideOk (hdSide ps) ∨ 9999 < hdSeq ps then 5 else 0 := by unfold headCode; rw [if_neg e0]
    generalize val (part ps 1 4) = sq at *
    have HRH := Lib.hid hrh
    rw [hcode]
    rw [HD.out, HQ.out] at *
    generalize ps.getD 0 0 = sd at *
    clear hc h hk hrh ka e0 hn hcode
    by_cases hs : sideOk sd
    · by_cases hq : 9999 < sq
      · rw [if_pos (Or.inr hq), zeroOr_bad (by omega), zeroOr_bad (by omega)]
        go_enter Try.func4, Try.ntmps4
        go_wp2_with fail
        refine (HRH.out _ hp).mono ?_
        rintro e w1 ⟨rfl, rfl⟩
        go_wp2_with fail
        refine (l3Side_any sd _ true (by simpa using hs)).mono ?_
        rintro e w1 ⟨rfl, rfl⟩
        go_wp2_with fail
        go_returns
        exact PAns.fault (by go_grown)
      · rw [if_neg (by simp [hs, hq]), zeroOr_zero, zeroOr_zero]
        go_enter Try.func4, Try.ntmps4
        go_wp2_with fail
        refine (HRH.out _ hp).mono ?_
        rintro e w1 ⟨rfl, rfl⟩
        go_wp2_with fail
        refine (l3Side_any sd _ true (by simpa using hs)).mono ?_
        rintro e w1 ⟨rfl, rfl⟩
        go_wp2_with fail
        go_returns
        exact PAns.fault (by go_grown)
    · rw [if_pos (Or.inl hs), zeroOr_bad (by omega), zeroOr_bad (by omega)]
      go_enter Try.func4, Try.ntmps4
      go_wp2_with fail
      refine (HRH.out _ hp).mono ?_
      rintro e w1 ⟨rfl, rfl⟩
      go_wp2_with fail
      refine (l3Side_any sd _ false (by simpa using hs)).mono ?_
      rintro e w1 ⟨rfl, rfl⟩
      go_wp2_with fail
      go_returns
      exact PAns.fault (by go_grown)

theorem PAns.of_ {w w' : World} {p sd sq : Int} {zs : List Int} {e : Ending} (h : PAns w p sd sq zs e w') : PAns w p sd sq zs e w' := h
theorem Box4.cells {w w1 : World} {u0 u1 u2 u3 : Value} {t : TypeId} (hb : Below (w.alloc (.cells #[u0, u1, u2, u3] t)).heap.size (w.alloc (.cells #[u0, u1, u2, u3] t)) w1) :
    (w1.cell? ⟨w.heap.size, 0, none⟩ = some u0 ∧ w1.cell? ⟨w.heap.size, 1, none⟩ = some u1 ∧ w1.cell? ⟨w.heap.size, 2, none⟩ = some u2 ∧ w1.cell? ⟨w.heap.size, 3, none⟩ = some u3) ∧
      (w1.frozen? ⟨w.heap.size, 0, none⟩ = false ∧ w1.frozen? ⟨w.heap.size, 1, none⟩ = false ∧ w1.frozen? ⟨w.heap.size, 2, none⟩ = false ∧ w1.frozen? ⟨w.heap.size, 3, none⟩ = false) ∧ Below w.heap.size w w1 ∧ w.heap.size < w1.heap.size := by
  have c0 := hb.cell (p := ⟨w.heap.size, 0, none⟩) (by simp)
  have c1 := hb.cell (p := ⟨w.heap.size, 1, none⟩) (by simp)
  have c2 := hb.cell (p := ⟨w.heap.size, 2, none⟩) (by simp)
  have c3 := hb.cell (p := ⟨w.heap.size, 3, none⟩) (by simp)
  have f0 := hb.frozen (p := ⟨w.heap.size, 0, none⟩) (by simp)
  have f1 := hb.frozen (p := ⟨w.heap.size, 1, none⟩) (by simp)
  have f2 := hb.frozen (p := ⟨w.heap.size, 2, none⟩) (by simp)
  have f3 := hb.frozen (p := ⟨w.heap.size, 3, none⟩) (by simp)
  simp [go_sem] at c0 c1 c2 c3 f0 f1 f2 f3
  have hz := hb.size
  simp only [World.size_alloc] at hz
  exact ⟨⟨c0, c1, c2, c3⟩, ⟨f0, f1, f2, f3⟩, ((Below.refl _ _).alloc (Nat.le_refl _) _).trans (hb.mono (by simp)), by omega⟩
/-- Four stores into block g. -/
def set4 (w : World) (g : Nat) (x0 x1 x2 x3 : Value) : World := (((w.setCell ⟨g, 0, none⟩ x0).setCell ⟨g, 1, none⟩ x1).setCell ⟨g, 2, none⟩ x2).setCell ⟨g, 3, none⟩ x3
theorem Keep.set4 {lo hi : Nat} {a w : World} {g : Nat} (h : Keep lo hi a w) (hg : lo ≤ g ∧ g < hi) (x0 x1 x2 x3 : Value) : Keep lo hi a (set4 w g x0 x1 x2 x3) :=
  (((h.setCell (p := ⟨g, 0, none⟩) hg x0).setCell (p := ⟨g, 1, none⟩) hg x1).setCell (p := ⟨g, 2, none⟩) hg x2).setCell (p := ⟨g, 3, none⟩) hg x3
theorem four_cells {w : World} {g : Nat} {u0 u1 u2 u3 : Value} (h0 : w.cell? ⟨g, 0, none⟩ = some u0) (h1 : w.cell? ⟨g, 1, none⟩ = some u1) (h2 : w.cell? ⟨g, 2, none⟩ = some u2) (h3 : w.cell? ⟨g, 3, none⟩ = some u3) (x0 x1 x2 x3 : Value) :
    (set4 w g x0 x1 x2 x3).cell? ⟨g, 0, none⟩ = some x0 ∧ (set4 w g x0 x1 x2 x3).cell? ⟨g, 1, none⟩ = some x1 ∧ (set4 w g x0 x1 x2 x3).cell? ⟨g, 2, none⟩ = some x2 ∧ (set4 w g x0 x1 x2 x3).cell? ⟨g, 3, none⟩ = some x3 := by
  unfold Go.Proofs.Ytpnpjngaenlciaa.set4
  refine ⟨?_, ?_, ?_, ?_⟩ <;> simp [go_sem, h0, h1, h2, h3]

structure Box4 (w : World) (b : Nat) (u0 u1 u2 u3 : Value) : Prop where
  c0 : w.cell? ⟨b, 0, none⟩ = some u0
  c1 : w.cell? ⟨b, 1, none⟩ = some u1
  c2 : w.cell? ⟨b, 2, none⟩ = some u2
  c3 : w.cell? ⟨b, 3, none⟩ = some u3
  f0 : w.frozen? ⟨b, 0, none⟩ = false
  f1 : w.frozen? ⟨b, 1, none⟩ = false
  f2 : w.frozen? ⟨b, 2, none⟩ = false
  f3 : w.frozen? ⟨b, 3, none⟩ = false
  lt : b < w.heap.size
theorem Box4.keep {w w' : World} {b lo hi : Nat} {u0 u1 u2 u3 : Value} (h : Box4 w b u0 u1 u2 u3) (k : Keep lo hi w w') (ho : b < lo ∨ hi ≤ b) : Box4 w' b u0 u1 u2 u3 :=
  ⟨(k.cell h.lt ho).trans h.c0, (k.cell h.lt ho).trans h.c1, (k.cell h.lt ho).trans h.c2, (k.cell h.lt ho).trans h.c3,
    (k.frozen h.lt ho).trans h.f0, (k.frozen h.lt ho).trans h.f1, (k.frozen h.lt ho).trans h.f2, (k.frozen h.lt ho).trans h.f3, Nat.lt_of_lt_of_le h.lt k.size⟩
theorem Box4.new (w : World) (u0 u1 u2 u3 : Value) (t : TypeId) : Box4 (w.alloc (.cells #[u0, u1, u2, u3] t)) w.heap.size u0 u1 u2 u3 := by
  constructor <;> simp [go_sem]
theorem Box4.drew {w : World} {b : Nat} {u0 u1 u2 u3 : Value} (h : Box4 w b u0 u1 u2 u3) : Box4 w.drew b u0 u1 u2 u3 := ⟨h.c0, h.c1, h.c2, h.c3, h.f0, h.f1, h.f2, h.f3, h.lt⟩
theorem PAns.fault4 {w v : World} (p : Int) (h : Below w.heap.size w v) (hlt : w.heap.size < v.heap.size) (x0 x1 x2 x3 : Value) :
    PAns w p 0 0 [] (.returned (.agg #[.int .i64 p, .int .i64 0, .int .i64 0, .slice none 0 0])) (set4 v w.heap.size x0 x1 x2 x3) :=
  PAns.fault (h.trans (((Keep.refl w.heap.size (w.heap.size + 1) v).set4 ⟨Nat.le_refl _, Nat.lt_succ_self _⟩ _ _ _ _).below (by omega) h.size))

theorem PAns.open_ {w v1 v2 : World} {r g n c : Nat} {sd sq : Int} {zs : List Int} (hl : zs.length = n) (hb1 : Below w.heap.size w v1) (h0 : w.heap.size < v1.heap.size) (hr : w.heap.size ≤ r ∧ r < v1.heap.size) (hb2 : Below v1.heap.size v1 v2)
    (wr : Wr v2 v1.heap.size v2.heap.size (some ⟨g, 0, none⟩) n zs) (hc : n ≤ c) (u x0 x1 x2 x3 : Value) :
    PAns w 0 sd sq zs (.returned (.agg #[.int .i64 0, .int .i64 sd, .int .i64 sq, .slice (some ⟨g, 0, none⟩) n c])) (set4 (v2.setCell ⟨r, 3, none⟩ u) w.heap.size x0 x1 x2 x3) := by
  subst hl
  have k : Keep w.heap.size v1.heap.size v2 (set4 (v2.setCell ⟨r, 3, none⟩ u) w.heap.size x0 x1 x2 x3) :=
    ((Keep.refl _ _ v2).setCell (p := ⟨r, 3, none⟩) hr u).set4 ⟨Nat.le_refl _, h0⟩ _ _ _ _
  have b2 : Below w.heap.size w v2 := hb1.trans (hb2.mono hb1.size)
  have hz := b2.size
  refine ⟨some ⟨g, 0, none⟩, c, rfl, hc, (wr.keep k (by omega)).wide (by omega) k.size (Nat.le_refl _), b2.trans (k.below (by omega) hz)⟩

end Go.Proofs.Ytpnpjngaenlciaa
