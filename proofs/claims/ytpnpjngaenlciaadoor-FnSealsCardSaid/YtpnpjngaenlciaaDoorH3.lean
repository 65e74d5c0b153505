/-
  One block: l2Block.
-/
import Derived.Test.YtpnpjngaenlciaaDoorH2
import Derived.StillTactics
import Derived.Laws.Pointers
import Derived.Deep.RegionHeld3
import Derived.Deep.AppendLies
namespace Go.Proofs.YtpnpjngaenlciaaDoor
open Go.RowKit
set_option linter.unusedVariables false
set_option maxRecDepth 100000

/-- The four registers of a block's reckoning. -/
structure Regs (B : Nat) (w0 wr : World) (gv gw gk gh : Nat) (V W H : Nat → Int) : Prop where
  v : Wd wr gv 8 V
  w : Wd wr gw 64 W
  k : Wd wr gk 64 K
  h : Wd wr gh 8 H
  b : Below B w0 wr
theorem Regs.drewN {B : Nat} {w0 wr : World} {gv gw gk gh : Nat} {V W H : Nat → Int} (r : Regs B w0 wr gv gw gk gh V W H) (n : Nat) : Regs B w0 (wr.drewN n) gv gw gk gh V W H :=
  ⟨r.v, r.w, r.k, r.h, ⟨r.b.os, r.b.tape, r.b.output, r.b.size, r.b.block⟩⟩
theorem Regs.setV {B : Nat} {w0 wr : World} {gv gw gk gh : Nat} {V W H : Nat → Int} (r : Regs B w0 wr gv gw gk gh V W H) {i : Nat} (hi : i < 8) (x : Int) (h1 : gw ≠ gv) (h2 : gk ≠ gv) (h3 : gh ≠ gv) (hB : B ≤ gv) :
    Regs B w0 (wr.setCell ⟨gv, i, none⟩ (.int .u32 x)) gv gw gk gh (upd V i x) W H := by
  have hk : Keep gv (gv + 1) wr (wr.setCell ⟨gv, i, none⟩ (.int .u32 x)) := (Keep.refl _ _ wr).setCell (p := ⟨gv, i, none⟩) ⟨Nat.le_refl _, Nat.lt_succ_self _⟩ _
  exact ⟨r.v.set_ hi x, r.w.keep hk (by omega), r.k.keep hk (by omega), r.h.keep hk (by omega), r.b.setCell hB _⟩
theorem Regs.setH {B : Nat} {w0 wr : World} {gv gw gk gh : Nat} {V W H : Nat → Int} (r : Regs B w0 wr gv gw gk gh V W H) {i : Nat} (hi : i < 8) (x : Int) (h1 : gw ≠ gh) (h2 : gk ≠ gh) (h3 : gv ≠ gh) (hk2 : Keep gh (gh + 1) w0 wr) :
    Wd (wr.setCell ⟨gh, i, none⟩ (.int .u32 x)) gh 8 (upd H i x) ∧ Wd (wr.setCell ⟨gh, i, none⟩ (.int .u32 x)) gv 8 V ∧ Keep gh (gh + 1) w0 (wr.setCell ⟨gh, i, none⟩ (.int .u32 x)) := by
  have hk : Keep gh (gh + 1) wr (wr.setCell ⟨gh, i, none⟩ (.int .u32 x)) := (Keep.refl _ _ wr).setCell (p := ⟨gh, i, none⟩) ⟨Nat.le_refl _, Nat.lt_succ_self _⟩ _
  exact ⟨r.h.set_ hi x, r.v.keep hk (by omega), hk2.trans hk⟩

/-- All bits turned, as the walk writes it. -/
def not32 (x : Int) : Int := bits .xor .u32 (if IntKind.u32.signed = true then -1 else IntKind.u32.max) x
/-- The two sums of a round. -/
def sumA (V : Nat → Int) (k w : Int) : Int :=
  (V 7 + bits .xor .u32 (bits .xor .u32 (turnR (V 4) 6) (turnR (V 4) 11)) (turnR (V 4) 25) + bits .xor .u32 (bits .and .u32 (V 4) (V 5)) (bits .and .u32 (not32 (V 4)) (V 6)) + k + w) % 4294967296
def sumB (V : Nat → Int) : Int :=
  (bits .xor .u32 (bits .xor .u32 (turnR (V 0) 2) (turnR (V 0) 13)) (turnR (V 0) 22) + bits .xor .u32 (bits .xor .u32 (bits .and .u32 (V 0) (V 1)) (bits .and .u32 (V 0) (V 2))) (bits .and .u32 (V 1) (V 2))) % 4294967296
/-- Moved one place on, from i on. -/
def moved (V : Nat → Int) (i : Nat) : Nat → Int := fun j => if i < j then V (j - 1) else V j
/-- One round. -/
def rnd (V : Nat → Int) (k w : Int) : Nat → Int := upd (upd (moved V 0) 4 ((moved V 0 4 + sumA V k w) % 4294967296)) 0 ((sumA V k w + sumB V) % 4294967296)
/-- Behind t rounds. -/
def st (W : Nat → Int) (H : Nat → Int) : Nat → Nat → Int
  | 0 => H
  | t + 1 => rnd (st W H t) (K t) (W t)

theorem sumA_walk (V : Nat → Int) (k w : Int) : ((V 7 + bits .xor .u32 (bits .xor .u32 (turnR (V 4) 6) (turnR (V 4) 11)) (turnR (V 4) 25) + bits .xor .u32 (bits .and .u32 (V 4) (V 5)) (bits .and .u32 (bits .xor .u32 (if IntKind.u32.signed = true then -1 else IntKind.u32.max) (V 4)) (V 6)) + k) % 4294967296 + w) % 4294967296 = sumA V k w := by
  unfold sumA not32
  omega
theorem sumB_walk (V : Nat → Int) : (bits .xor .u32 (bits .xor .u32 (turnR (V 0) 2) (turnR (V 0) 13)) (turnR (V 0) 22) + bits .xor .u32 (bits .xor .u32 (bits .and .u32 (V 0) (V 1)) (bits .and .u32 (V 0) (V 2))) (bits .and .u32 (V 1) (V 2))) % 4294967296 = sumB V := rfl

def U32 (V : Nat → Int) : Prop := ∀ j, 0 ≤ V j ∧ V j ≤ 4294967295
theorem upd_u32 {V : Nat → Int} (h : U32 V) (i : Nat) {x : Int} (hx : 0 ≤ x ∧ x ≤ 4294967295) : U32 (upd V i x) := fun j => by
  unfold upd; split
  · exact hx
  · exact h j
theorem moved_u32 {V : Nat → Int} (h : U32 V) (i : Nat) : U32 (moved V i) := fun j => by
  unfold moved; split
  · exact h _
  · exact h j
theorem sumA_u32 (V : Nat → Int) (k w : Int) : 0 ≤ sumA V k w ∧ sumA V k w ≤ 4294967295 := by unfold sumA; omega
theorem sumB_u32 (V : Nat → Int) : 0 ≤ sumB V ∧ sumB V ≤ 4294967295 := by unfold sumB; omega
theorem rnd_u32 {V : Nat → Int} (h : U32 V) (k w : Int) : U32 (rnd V k w) := upd_u32 (upd_u32 (moved_u32 h 0) 4 (by omega)) 0 (by omega)
theorem st_u32 {W H : Nat → Int} (h : U32 H) : ∀ t, U32 (st W H t) := fun t => by induction t with | zero => exact h | succ t ih => exact rnd_u32 ih _ _
theorem moved_step (V : Nat → Int) (i : Nat) : upd (moved V (i + 1)) (i + 1) (moved V (i + 1) i) = moved V i := by
  funext j
  unfold upd moved
  by_cases h : j = i + 1
  · subst h; rw [if_pos rfl, if_neg (by omega), if_pos (by omega)]; rfl
  · rw [if_neg h]
    by_cases h2 : i < j
    · rw [if_pos h2, if_pos (by omega)]
    · rw [if_neg h2, if_neg (by omega)]

theorem Wd.of_own {w : World} {base n c g : Nat} {e : TypeId} {ws : List Int} (h : w.ownsRow base e 1 (.slice (some ⟨g, 0, none⟩) n c) n (ws.map (Value.int .u32))) : Wd w g n (fun j => ws.getD j 0) := by
  have hl : ws.length = n := by simpa using h.1
  rcases h.2 with ⟨hv, rfl⟩ | ⟨g', cap, cur, hv, hg, hh, hnc, _, hcs, ht⟩
  · cases hv
  · injection hv with hA _ _
    injection hA with hA
    injection hA with hA
    subst hA
    refine ⟨cur, e, hh, by omega, fun j hj => ?_⟩
    have h1 : (ws.map (Value.int .u32))[j]? = some (.int .u32 (ws.getD j 0)) := by
      rw [List.getElem?_map, List.getD_eq_getElem?_getD, List.getElem?_eq_getElem (by omega : j < ws.length)]; rfl
    rw [← ht, Nat.mul_one, List.getElem?_take_of_lt hj, Array.getElem?_toList] at h1
    exact h1

/-- The first i words have got their letters. -/
def Hs (H V : Nat → Int) (i : Nat) : Nat → Int := fun j => if j < i then (H j + V j) % 4294967296 else H j
theorem Hs_at (H V : Nat → Int) (i : Nat) : Hs H V i i = H i := by unfold Hs; rw [if_neg (Nat.lt_irrefl i)]
theorem Hs_step (H V : Nat → Int) (i : Nat) : upd (Hs H V i) i ((H i + V i) % 4294967296) = Hs H V (i + 1) := by
  funext j
  unfold upd Hs
  by_cases h : j = i
  · subst h; rw [if_pos rfl, if_pos (by omega)]
  · rw [if_neg h]
    by_cases h2 : j < i
    · rw [if_pos h2, if_pos (by omega)]
    · rw [if_neg h2, if_neg (by omega)]

theorem right_same (x b : Int) (w : World) (hx : 0 ≤ x ∧ x ≤ 4294967295) (hb : 1 ≤ b ∧ b ≤ 31) :
    Calls Tryd.prog 91 #[.int .u32 x, .int .u32 b] w fun e w' => e = .returned (.int .u32 (turnR x b)) ∧ w' = w :=
  (l2Right_any x b w hx hb).mono fun _ _ ⟨he, hw⟩ => ⟨he, hw.symm⟩

set_option maxRecDepth 100000 in
set_option maxHeartbeats 4000000 in
theorem l2Block_any (gh ch b off c hi : Nat) (xs : List Int) (H : Nat → Int) (w : World) (h : Rd w 0 hi (some ⟨b, off, none⟩) 64 xs) (hc64 : 64 ≤ c) (hh : Wd w gh 8 H) (hH : U32 H) :
    Calls Tryd.prog 84 #[.slice (some ⟨gh, 0, none⟩) 8 ch, .slice (some ⟨b, off, none⟩) 64 c] w fun e w' => e = .returned (.tuple #[]) ∧ Wd w' gh 8 (fun j => (H j + st (Ws xs 48) H 64 j) % 4294967296) ∧ Keep gh (gh + 1) w w' := by
  obtain ⟨i0, hi0, hz0, hz1, hz2⟩ := info_parts info_u32
  have hghw := hh.lt
  have hbyte := h.byte
  go_enter Tryd.func84, Tryd.ntmps84
  go_wp2_with fail
  refine (l2Words_any b off c hi xs w h hc64).mono ?_
  rintro e w1 ⟨gw, rfl, hgw, hw1, hb1⟩
  have hlw := hw1.lt
  have k1 := Keep.of_below hb1 0 0
  have hz1' := hb1.size
  have hh1 := hh.keep k1 (by omega)
  go_wp2_with fail
  refine (l2Round_any w1).mono ?_
  rintro e w2 ⟨gk, rfl, hgk, hk2, hb2⟩
  have hlk := hk2.lt
  have k2 := Keep.of_below hb2 0 0
  have hz2' := hb2.size
  have hh2 := hh1.keep k2 (by omega)
  have hw2 := hw1.keep k2 (by omega)
  have bb := hb1.trans (hb2.mono hz1')
  have hown0 : (w2.alloc (.cells #[] 103)).ownsRow w2.heap.size 103 1 (.slice (some ⟨w2.heap.size, 0, none⟩) 0 0) 0 [] := World.ownsRow_made w2 _ 0 (Nat.le_refl _) (Nat.zero_le _) rfl
  have hnews : ∀ j u, (((List.range 8).map H).map (Value.int .u32))[j]? = some u → (w2.alloc (.cells #[] 103)).cell? ((⟨gh, 0, none⟩ : Addr).add j) = some u := by
    intro j u hu
    have hj : j < 8 := by
      have := (List.getElem?_eq_some_iff.1 hu).1
      simpa using this
    have hadd : (⟨gh, 0, none⟩ : Addr).add j = ⟨gh, j, none⟩ := by unfold Addr.add; split <;> simp_all
    rw [hadd, World.cell?_alloc_past (w := w2) _ _ _ (by omega), hh2.cell hj, ← hu]
    simp [hj]
  have hone : ∀ u ∈ ((List.range 8).map H).map (Value.int .u32), u.oneCell' = true := ints_oneCell _ _
  go_wp2_with (at_builtin; refine wpList_append_lies _ rfl _ _ 110 rfl w2.heap.size 103 i0 (.int .u32 0) 1 4 Tryd.underlying110 hi0 hz0 hz1 hz2 rfl (by decide) _ _ _ rfl hown0 ⟨gh, 0, none⟩ 8 ch (((List.range 8).map H).map (Value.int .u32)) rfl ?d1 ?d2 ?d3 (by decide) ?d4 ?d5 ?d6 (w2.heap.size + 1) (by simp) ?_)
  case d1 => simp
  case d2 => exact hnews
  case d3 => exact hone
  case d4 => unfold maxLen; omega
  case d5 => omega
  case d6 => simp
  intro gv cap1 w3 hown3 hgrow hat hglt
  have k3 : Keep 0 0 w2 w3 := by
    have ka := (Keep.refl 0 0 w2).alloc (.cells #[] 103)
    exact ⟨hgrow.os.trans ka.os, hgrow.tape.trans ka.tape, hgrow.output.trans ka.output, Nat.le_trans ka.size hgrow.size, fun q hq ho =>
      (hgrow.block q (Nat.lt_of_lt_of_le hq ka.size) (by simp [Value.ownBlock]; omega)).trans (ka.block q hq ho)⟩
  have hv3 : Wd w3 gv 8 H := (Wd.of_own (ws := (List.range 8).map H) hown3).congr (fun j hj => by simp [List.getD_eq_getElem?_getD, hj])
  have hgv : w2.heap.size ≤ gv := by simp [Value.ownBlock] at hat; omega
  have rr : Regs w.heap.size w w3 gv gw gk gh H (Ws xs 48) H := ⟨hv3, hw2.keep k3 (by omega), hk2.keep k3 (by omega), hh2.keep k3 (by omega), bb.trans (k3.below (by omega) bb.size)⟩
  clear hown3 hgrow hat hnews hone hown0 k3 hv3 hw2 hk2 hh2 bb k1 k2 hh1 hw1 hb1 hb2 h hh
  have n1 : gw ≠ gv := by omega
  have n2 : gk ≠ gv := by omega
  have n3 : gh ≠ gv := by omega
  have hWu : U32 (Ws xs 48) := Ws_u32 xs hbyte 48
  generalize hWe : Ws xs 48 = W at *
  have HWe := Lib.hid hWe
  clear hWe
  go_wp2_with fail
  go_outline
  go_loopw [7] (fun i wr => ∃ t : Nat, t ≤ 64 ∧ i = .int .i64 (t : Int) ∧ Regs w.heap.size w wr gv gw gk gh (st W H t) W H) (fun i _ => 64 - (intOf i).toNat)
  case atStart => exact ⟨0, Nat.zero_le _, rfl, rr⟩
  case round =>
    obtain ⟨t, ht, rfl, r⟩ := hrel
    by_cases hlt : t < 64
    · have hV := st_u32 (W := W) hH t
      have HT : Hid (st W H (t + 1) = rnd (st W H t) (K t) (W t)) := rfl
      generalize st W H t = V at *
      have c0 := r.v.cell (show 0 < 8 by omega)
      have c1 := r.v.cell (show 1 < 8 by omega)
      have c2 := r.v.cell (show 2 < 8 by omega)
      have c4 := r.v.cell (show 4 < 8 by omega)
      have c5 := r.v.cell (show 5 < 8 by omega)
      have c6 := r.v.cell (show 6 < 8 by omega)
      have c7 := r.v.cell (show 7 < 8 by omega)
      have ck := r.k.cell hlt
      have cw := r.w.cell hlt
      have u4 := hV 4
      have u0 := hV 0
      have i1 : (t : Int) < 64 := by omega
      have i0 : (0 : Int) ≤ (t : Int) := by omega
      go_wp2_with fail
      go_quiet ((go_at_call 91; exact Calls.quiet_of_same (right_same _ _ _ (by assumption) (by omega))))
      rw [sumA_walk]
      have hr1 := r.drewN nq
      generalize wr.drewN nq = wa at *
      clear r c0 c1 c2 c4 c5 c6 c7 ck cw
      have c0 := hr1.v.cell (show 0 < 8 by omega)
      have c1 := hr1.v.cell (show 1 < 8 by omega)
      have c2 := hr1.v.cell (show 2 < 8 by omega)
      have hT1 := sumA_u32 V (K t) (W t)
      have HR : Hid (rnd V (K t) (W t) = upd (upd (moved V 0) 4 ((moved V 0 4 + sumA V (K t) (W t)) % 4294967296)) 0 ((sumA V (K t) (W t) + sumB V) % 4294967296)) := rfl
      generalize sumA V (K t) (W t) = T1 at *
      go_wp2_with fail
      go_quiet ((go_at_call 91; exact Calls.quiet_of_same (right_same _ _ _ (by assumption) (by omega))))
      rw [sumB_walk]
      have hr2 := hr1.drewN nq
      generalize wa.drewN nq = wb at *
      clear hr1 c0 c1 c2
      have hT2 := sumB_u32 V
      generalize sumB V = T2 at *
      go_wp2_with fail
      go_loopw [12] (fun i wx => ∃ q : Nat, q ≤ 7 ∧ i = .int .i64 (q : Int) ∧ Regs w.heap.size w wx gv gw gk gh (moved V q) W H) (fun i _ => (intOf i).toNat)
      case atStart => exact ⟨7, Nat.le_refl _, rfl, ⟨hr2.v.congr (fun j hj => by unfold moved; rw [if_neg (by omega)]), hr2.w, hr2.k, hr2.h, hr2.b⟩⟩
      case round =>
        obtain ⟨q, hq, rfl, rq⟩ := hrel
        rcases q with _ | q
        · have d0 := rq.v.cell (show 0 < 8 by omega)
          have d4 := rq.v.cell (show 4 < 8 by omega)
          have e0 := rq.v.frozen 0
          have e4 := rq.v.frozen 4
          have hm := moved_u32 hV 0
          have hm4 := hm 4
          have s4 := rq.setV (show 4 < 8 by omega) ((moved V 0 4 + T1) % 4294967296) n1 n2 n3 (by omega)
          have s0 := s4.setV (show 0 < 8 by omega) ((T1 + T2) % 4294967296) n1 n2 n3 (by omega)
          have HS : Hid (Regs w.heap.size w ((wr.setCell ⟨gv, 4, none⟩ (.int .u32 ((moved V 0 4 + T1) % 4294967296))).setCell ⟨gv, 0, none⟩ (.int .u32 ((T1 + T2) % 4294967296))) gv gw gk gh (st W H (t + 1)) W H) := by
            show Regs _ _ _ _ _ _ _ _ _ _
            rw [HT.out, HR.out]; exact s0
          clear rq s4 s0 hm hr2
          generalize moved V 0 4 = m4 at *
          generalize moved V 0 0 = m0 at *
          go_wp2_with fail
          go_outline
          go_roundw
          case rel => exact ⟨t + 1, by omega, by go_num, HS.out⟩
          case measure => simp [intOf]; omega
        · have d1 := rq.v.cell (show q < 8 by omega)
          have d2 := rq.v.cell (show q + 1 < 8 by omega)
          have e2 := rq.v.frozen (q + 1)
          have s1 := rq.setV (show q + 1 < 8 by omega) (moved V (q + 1) q) n1 n2 n3 (by omega)
          rw [moved_step] at s1
          have HS := Lib.hid s1
          have u1 := moved_u32 hV (q + 1) q
          clear s1 rq hr2
          generalize moved V (q + 1) q = mq at *
          generalize moved V (q + 1) (q + 1) = mq1 at *
          have j1 : (q : Int) + 1 < 8 := by omega
          have j2 : (0 : Int) < (q : Int) + 1 := by omega
          go_wp2_with fail
          go_roundw
          case rel => exact ⟨q, by omega, by go_num, HS.out⟩
          case measure => simp [intOf]
    · have r64 : Regs w.heap.size w wr gv gw gk gh (st W H 64) W H := by
        have e : t = 64 := by omega
        rw [← e]; exact r
      have hV := st_u32 (W := W) hH 64
      have htt : ¬ (t : Int) < 64 := by omega
      clear r
      generalize hVe : st W H 64 = V at *
      have HVe := Lib.hid hVe
      clear hVe
      have hkk : Keep gh (gh + 1) w wr := Keep.of_below r64.b gh (gh + 1)
      go_wp2_with fail
      go_loopw [13] (fun i wx => ∃ q : Nat, q ≤ 8 ∧ i = .int .i64 (q : Int) ∧ Wd wx gh 8 (Hs H V q) ∧ Wd wx gv 8 V ∧ Keep gh (gh + 1) w wx) (fun i _ => 8 - (intOf i).toNat)
      case atStart => exact ⟨0, Nat.zero_le _, rfl, r64.h.congr (fun j hj => by unfold Hs; rw [if_neg (by omega)]), r64.v, hkk⟩
      case round =>
        obtain ⟨q, hq, rfl, wh, wv, wk⟩ := hrel
        by_cases hlt : q < 8
        · have d1 := wh.cell hlt
          have e1 := wh.frozen q
          rw [Hs_at] at d1
          have d2 := wv.cell hlt
          have hx := hH q
          have hy := hV q
          have s1 := wh.set_ hlt ((H q + V q) % 4294967296)
          rw [Hs_step] at s1
          have ks : Keep gh (gh + 1) wr (wr.setCell ⟨gh, q, none⟩ (.int .u32 ((H q + V q) % 4294967296))) := (Keep.refl _ _ _).setCell (p := ⟨gh, q, none⟩) ⟨Nat.le_refl _, Nat.lt_succ_self _⟩ _
          have s2 := wv.keep ks (by omega)
          have s3 := wk.trans ks
          have HS := Lib.hid s1
          have HV := Lib.hid s2
          have HK := Lib.hid s3
          clear s1 s2 s3 ks wh wv wk r64
          generalize H q = hq0 at *
          generalize V q = vq0 at *
          have j1 : (q : Int) < 8 := by omega
          have j0 : (0 : Int) ≤ (q : Int) := by omega
          go_wp2_with fail
          go_region
          go_wp2_with fail
          go_roundw
          case rel => exact ⟨q + 1, by omega, by go_num, by exact HS.out.drew, by exact HV.out.drew, by exact HK.out.trans ⟨rfl, rfl, rfl, Nat.le_refl _, fun _ _ _ => rfl⟩⟩
          case measure => simp [intOf]; omega
        · have hf : Wd wr gh 8 (fun j => (H j + V j) % 4294967296) := wh.congr (fun j hj => by unfold Hs; rw [if_pos (by omega)])
          go_wp2_with fail
          go_end0
          exact ⟨rfl, by rw [HWe.out, HVe.out]; exact hf, wk⟩
end Go.Proofs.YtpnpjngaenlciaaDoor
