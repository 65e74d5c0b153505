/-
  One block: l2Block.
-/
import Derived.Test.YtpnpjngaenlciaaH2
import Derived.StillTactics
import Derived.Laws.Pointers
import Derived.Deep.RegionHeld3
import Derived.Deep.AppendLies
namespace Go.Proofs.Ytpnpjngaenlciaa
open Go.RowKit
set_option linter.unusedVariables false
set_option maxRecDepth 100000

/-- The four registers of a block's reckoning. -/
structure Regs (B : Nat) (w0 wr : World) (gv gw gk gh : Nat) (V W H : Nat → Int) : Prop where
  v : Wd wr gv 8 V
  w : Wd wr gw 64 W
  k : Wd wr gk 64 K
  h : Wd wr gh 8 H
  b : Below B w0 wr
theorem Regs.drewN {B : Nat} {w0 wr : World} {gv gw gk gh : Nat} {V W H : Nat → Int} (r : Regs B w0 wr gv gw gk gh V W H) (n : Nat) : Regs B w0 (wr.drewN n) gv gw gk gh V W H :=
  ⟨r.v, r.w, r.k, r.h, ⟨r.b.os, r.b.tape, r.b.output, r.b.size, r.b.block⟩⟩
theorem Regs.setV {B : Nat} {w0 wr : World} {gv gw gk gh : Nat} {V W H : Nat → Int} (r : Regs B w0 wr gv gw gk gh V W H) {i : Nat} (hi : i < 8) (x : Int) (h1 : gw ≠ gv) (h2 : gk ≠ gv) (h3 : gh ≠ gv) (hB : B ≤ gv) :
    Regs B w0 (wr.setCell ⟨gv, i, none⟩ (.int .u32 x)) gv gw gk gh (upd V i x) W H := by
  have hk : Keep gv (gv + 1) wr (wr.setCell ⟨gv, i, none⟩ (.int .u32 x)) := (Keep.refl _ _ wr).setCell (p := ⟨gv, i, none⟩) ⟨Nat.le_refl _, Nat.lt_succ_self _⟩ _
  exact ⟨r.v.set_ hi x, r.w.keep hk (by omega), r.k.keep hk (by omega), r.h.keep hk (by omega), r.b.setCell hB _⟩
theorem Regs.setH {B : Nat} {w0 wr : World} {gv gw gk gh : Nat} {V W H : Nat → Int} (r : Regs B w0 wr gv gw gk gh V W H) {i : Nat} (hi : i < 8) (x : Int) (h1 : gw ≠ gh) (h2 : gk ≠ gh) (h3 : gv ≠ gh) (hk2 : Keep gh (gh + 1) w0 wr) :
    Wd (wr.setCell ⟨gh, i, none⟩ (.int .u32 x)) gh 8 (upd H i x) ∧ Wd (wr.setCell ⟨gh, i, none⟩ (.int .u32 x)) gv 8 V ∧ Keep gh (gh + 1) w0 (wr.setCell ⟨gh, i, none⟩ (.int .u32 x)) := by
  have hk : Keep gh (gh + 1) wr (wr.setCell ⟨gh, i, none⟩ (.int .u32 x)) := (Keep.refl _ _ wr).setCell (p := ⟨gh, i, none⟩) ⟨Nat.le_refl _, Nat.lt_succ_self _⟩ _
  exact ⟨r.h.set_ hi x, r.v.keep hk (by omega), hk2.trans hk⟩

/-- All bits turned, as the walk writes it. -/
def not32 (x : Int) : Int := bits .xor .u32 (if IntKind.u32.signed = true then -1 else IntKind.u32.max) x
/-- The two sums of a round. -/
def sumA (V : Nat → Int) (k w : Int) : Int :=
  (V 7 + bits .xor .u32 (bits .xor .u32 (turnR (V 4) 6) (turnR (V 4) 11)) (turnR (V 4) 25) + bits .xor .u32 (bits .and .u32 (V 4) (V 5)) (bits .and .u32 (not32 (V 4)) (V 6)) + k + w) % 4294967296
def sumB (V : Nat → Int) : Int :=
  (bits .xor .u32 (bits .xor .u32 (turnR (V 0) 2) (turnR (V 0) 13)) (turnR (V 0) 22) + bits .xor .u32 (bits .xor .u32 (bits .and .u32 (V 0) (V 1)) (bits .and .u32 (V 0) (V 2))) (bits .and .u32 (V 1) (V 2))) % 4294967296
/-- Moved one place on, from i on. -/
def moved (V : Nat → Int) (i : Nat) : Nat → Int := fun j => if i < j then V (j - 1) else V j
/-- One round. -/
def rnd (V : Nat → Int) (k w : Int) : Nat → Int := upd (upd (moved V 0) 4 ((moved V 0 4 + sumA V k w) % 4294967296)) 0 ((sumA V k w + sumB V) % 4294967296)
/-- Behind t rounds. -/
def st (W : Nat → Int) (H : Nat → Int) : Nat → Nat → Int
  | 0 => H
  | t + 1 => rnd (st W H t) (K t) (W t)

theorem sumA_walk (V : Nat → Int) (k w : Int) : ((V 7 + bits .xor .u32 (bits .xor .u32 (turnR (V 4) 6) (turnR (V 4) 11)) (turnR (V 4) 25) + bits .xor .u32 (bits .and .u32 (V 4) (V 5)) (bits .and .u32 (bits .xor .u32 (if IntKind.u32.signed = true then -1 else IntKind.u32.max) (V 4)) (V 6)) + k) % 4294967296 + w) % 4294967296 = sumA V k w := by
  unfold sumA not32
  omega
theorem sumB_walk (V : Nat → Int) : (bits .xor .u32 (bits .xor .u32 (turnR (V 0) 2) (turnR (V 0) 13)) (turnR (V 0) 22) + bits .xor .u32 (bits .xor .u32 (bits .and .u32 (V 0) (V 1)) (bits .and .u32 (V 0) (V 2))) (bits .and .u32 (V 1) (V 2))) % 4294967296 = sumB V := rfl

def U32 (V : Nat → Int) : Prop := ∀ j, 0 ≤ V j ∧ V j ≤ 4294967295
theorem upd_u32 {V : Nat → Int} (h : U32 V) (i : Nat) {x : Int} (hx : 0 ≤ x ∧ x ≤ 4294967295) : U32 (upd V i x) := fun j => by
  unfold upd; split
  · exact hx
  · exact h j
theorem moved_u32 {V : Nat → Int} (h : U32 V) (i : Nat) : U32 (moved V i) := fun j => by
  unfold moved; split
  · exact h _
  · exact h j
theorem sumA_u32 (V : Nat → Int) (k w : Int) : 0 ≤ sumA V k w ∧ sumA V k w ≤ 4294967295 := by unfold sumA; omega
theorem sumB_u32 (V : Nat → Int) : 0 ≤ sumB V ∧ sumB V ≤ 4294967295 := by unfold sumB; omega
theorem rnd_u32 {V : Nat → Int} (h : U32 V) (k w : Int) : U32 (rnd V k w) := upd_u32 (upd_u32 (moved_u32 h 0) 4 (by omega)) 0 (by omega)
theorem st_u32 {W H : Nat → Int} (h : U32 H) : ∀ t, U32 (st W H t) := fun t => by induction t with | zero => exact h | succ t ih => exact rnd_u32 ih _ _
theorem moved_step (V : Nat → Int) (i : Nat) : upd (moved V (i + 1)) (i + 1) (moved V (i + 1) i) = moved V i := by
  funext j
  unfold upd moved
  by_cases h : j = i + 1
  · subst h; rw [if_pos rfl, if_neg (by omega), if_pos (by omega)]; rfl
  · rw [if_neg h]
    by_cases h2 : i < j
    · rw [if_pos h2, if_pos (by omega)]
    · rw [if_neg h2, if_neg (by omega)]

theorem Wd.of_own {w : World} {base n c g : Nat} {e : TypeId} {ws : List Int} (h : w.ownsRow base e 1 (.slice (some ⟨g, 0, none⟩) n c) n (ws.map (Value.int .u32))) : Wd w g n (fun j => ws.getD j 0) := by
  have hl : ws.length = n := by simpa using h.1
  rcases h.2 with ⟨hv, rfl⟩ | ⟨g', cap, cur, hv, hg, hh, hnc, _, hcs, ht⟩
  · cases hv
  · injection hv with hA _ _
    injection hA with hA
    injection hA with hA
    subst hA
    refine ⟨cur, e, hh, by omega, fun j hj => ?_⟩
    have h1 : (ws.map (Value.int .u32))[j]? = some (.int .u32 (ws.getD j 0)) := by
      rw [List.getElem?_map, List.getD_eq_getElem?_getD, List.getElem?_eq_getElem (by omega : j < ws.length)]; rfl
    rw [← ht, Nat.mul_one, List.getElem?_take_of_lt hj, Array.getElem?_toList] at h1
    exact h1

/-- The first i words have got their letters. -/
def Hs (H V : Nat → Int) (i : Nat) : Nat → Int := fun j => if j < i then (H j + V j) % 4294967296 else H j
theorem Hs_at (H V : Nat → Int) (i : Nat) : Hs H V i i = H i := by unfold Hs; rw [if_neg (Nat.lt_irrefl i)]
theorem Hs_step (H V : Nat → Int) (i : Nat) : upd (Hs H V i) i ((H i + V i) % 4294967296) = Hs H V (i + 1) := by
  funext j
  unfold upd Hs
  by_cases h : j = i
  · subst h; rw [if_pos rfl, if_pos (by omega)]
  · rw [if_neg h]
    by_cases h2 : j < i
    · rw [if_pos h2, if_pos (by omega)]
    · rw [if_neg h2, if_neg (by omega)]

end Go.Proofs.Ytpnpjngaenlciaa
