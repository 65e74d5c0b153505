/-
  One block, by the developers' function: afterBlock. The table of the round words is a package-level variable: what it holds is a premise.
-/
import Derived.Test.YtpnpjngaenlciaaDoorI2
namespace Go.Proofs.YtpnpjngaenlciaaDoor
open Go.RowKit
set_option linter.unusedVariables false
set_option maxRecDepth 100000

/-- The table of the round words is there. -/
def Kt (w : World) : Prop := 1 < w.heap.size ∧ ∀ j, j < 64 → w.cell? ⟨1, j, none⟩ = some (.int .u32 (K j))
theorem Kt.keep {w w' : World} {lo hi : Nat} (h : Kt w) (k : Keep lo hi w w') (ho : 1 < lo ∨ hi ≤ 1) : Kt w' :=
  ⟨Nat.lt_of_lt_of_le h.1 k.size, fun j hj => (k.cell (p := ⟨_, j, none⟩) h.1 ho).trans (h.2 j hj)⟩
theorem Kt.below {w w' : World} {B : Nat} (h : Kt w) (hb : Below B w w') (hB : 1 < B) : Kt w' :=
  ⟨Nat.lt_of_lt_of_le h.1 hb.size, fun j hj => (hb.cell (p := ⟨_, j, none⟩) hB).trans (h.2 j hj)⟩
theorem Wd.cells8 {w : World} {g : Nat} {V : Nat → Int} (h : Wd w g 8 V) : w.cell? ⟨g, 0, none⟩ = some (.int .u32 (V 0)) ∧ w.cell? ⟨g, 1, none⟩ = some (.int .u32 (V 1)) ∧ w.cell? ⟨g, 2, none⟩ = some (.int .u32 (V 2)) ∧ w.cell? ⟨g, 3, none⟩ = some (.int .u32 (V 3)) ∧ w.cell? ⟨g, 4, none⟩ = some (.int .u32 (V 4)) ∧ w.cell? ⟨g, 5, none⟩ = some (.int .u32 (V 5)) ∧ w.cell? ⟨g, 6, none⟩ = some (.int .u32 (V 6)) ∧ w.cell? ⟨g, 7, none⟩ = some (.int .u32 (V 7)) :=
  ⟨h.cell (by omega), h.cell (by omega), h.cell (by omega), h.cell (by omega), h.cell (by omega), h.cell (by omega), h.cell (by omega), h.cell (by omega)⟩
/-- Eight words, as cells. -/
theorem WL8 (V : Nat → Int) : WL 8 V = [.int .u32 (V 0), .int .u32 (V 1), .int .u32 (V 2), .int .u32 (V 3), .int .u32 (V 4), .int .u32 (V 5), .int .u32 (V 6), .int .u32 (V 7)] := rfl
theorem A8_eq (V : Nat → Int) : A8 V = .agg (WL 8 V).toArray := rfl
theorem size_w8 : (Tryd.prog.info? 105).map (·.size) = some 8 := by kernel_rfl
theorem Keep.setCells {lo hi : Nat} {a : World} {b : Nat} (hb : lo ≤ b ∧ b < hi) : ∀ (vs : List Value) (o : Nat) (w : World), Keep lo hi a w → Keep lo hi a (w.setCells b o vs)
  | [], _, _, h => h
  | v :: r, o, w, h => by
    rw [World.setCells]
    exact Keep.setCells hb r (o + 1) _ (h.setCell (p := ⟨b, o, none⟩) hb v)
/-- A whole row is written anew. -/
theorem Wd.setAll {w : World} {g n : Nat} {V : Nat → Int} (h : Wd w g n V) (U : Nat → Int) : Wd (w.setCells g 0 (WL n U)) g n U := by
  suffices key : ∀ (m o : Nat) (w : World) (V : Nat → Int), o + m = n → Wd w g n V → (∀ j, j < o → V j = U j) → Wd (w.setCells g o ((List.range m).map fun j => .int .u32 (U (o + j)))) g n U by
    have := key n 0 w V (by omega) h (fun j hj => by omega)
    simpa [WL] using this
  intro m
  induction m with
  | zero =>
    intro o w V ho h hj
    exact h.congr (fun j hj' => hj j (by omega))
  | succ m ih =>
    intro o w V ho h hj
    rw [List.range_succ_eq_map, List.map_cons, List.map_map, World.setCells]
    have h1 := h.set_ (show o < n by omega) (U o)
    have h2 := ih (o + 1) _ (upd V o (U o)) (by omega) h1 (fun j hj' => by
      unfold upd
      by_cases e : j = o
      · rw [if_pos e, e]
      · rw [if_neg e]; exact hj j (by omega))
    have e : ((fun (j : Nat) => Value.int .u32 (U (o + j))) ∘ Nat.succ) = fun (j : Nat) => .int .u32 (U (o + 1 + j)) := by
      funext j
      simp only [Function.comp]
      rw [show o + Nat.succ j = o + 1 + j from by omega]
    rw [e]
    exact h2

/-- The element of a value of 64 words. -/
theorem run_index64 (V : Nat → Int) (k : Nat) (hk : k < 64) (w : World) : (Instr.index 115 (.agg (WL 64 V).toArray) (.int .i64 (k : Int))).run Tryd.prog w = .ok (.int .u32 (V k)) w := by
  have hsz : (sizeOf 103).run Tryd.prog w = .ok 1 w := by kernel_rfl

  simp [Instr.index, asIntOf, Sem.run_bind, run_underlying Tryd.underlying115, hk, hsz, Go.part, WL_at 64 V k hk]
theorem run_index8 (V : Nat → Int) (k : Nat) (hk : k < 8) (w : World) : (Instr.index 105 (.agg (WL 8 V).toArray) (.int .i64 (k : Int))).run Tryd.prog w = .ok (.int .u32 (V k)) w := by
  have hsz : (sizeOf 103).run Tryd.prog w = .ok 1 w := by kernel_rfl

  simp [Instr.index, asIntOf, Sem.run_bind, run_underlying Tryd.underlying105, hk, hsz, Go.part, WL_at 8 V k hk]
def zeros8 : List Int := List.replicate 8 0
theorem zeros8_at (j : Nat) : zeros8.getD j 0 = 0 := by
  rw [zeros8, List.getD_eq_getElem?_getD, List.getElem?_replicate]; split <;> rfl
theorem boxed8 (w : World) (H : Nat → Int) (t : TypeId) : Wd (w.alloc (.cells (WL 8 H).toArray t)) w.heap.size 8 H := by
  refine ⟨(WL 8 H).toArray, t, ?_, by simp [WL_len], fun j hj => by simp [WL_at 8 H j hj]⟩
  show (w.heap.push _)[w.heap.size]? = _; simp
theorem zero8 (w : World) (cs : Array Value) (t : TypeId) (hz : cs = (zeros8.map (Value.int .u32)).toArray) : Wd (w.alloc (.cells cs t)) w.heap.size 8 (fun _ => 0) :=
  (Wd.new w cs t zeros8 hz).congr (fun j _ => zeros8_at j)
/-- The three rows of eight words: as the words were, the answer's, the letters'. -/
structure R8 (w0 wr : World) (H U V : Nat → Int) : Prop where
  h : Wd wr w0.heap.size 8 H
  u : Wd wr (w0.heap.size + 1) 8 U
  v : Wd wr (w0.heap.size + 1 + 1) 8 V
  k : Kt wr
  b : Below w0.heap.size w0 wr
theorem R8.start (w : World) (H : Nat → Int) (t : TypeId) (hk : Kt w) (cs : Array Value) (hz : cs = (zeros8.map (Value.int .u32)).toArray) :
    R8 w (((w.alloc (.cells (WL 8 H).toArray t)).alloc (.cells cs t)).alloc (.cells (WL 8 H).toArray t)) H (fun _ => 0) H := by
  have h1 := boxed8 w H t
  have h2 := zero8 (w.alloc (.cells (WL 8 H).toArray t)) cs t hz
  have h3 := boxed8 ((w.alloc (.cells (WL 8 H).toArray t)).alloc (.cells cs t)) H t
  simp only [World.size_alloc] at h2 h3
  have k1 := (Keep.refl 0 0 (w.alloc (.cells (WL 8 H).toArray t))).alloc (.cells cs t)
  have k2 := (Keep.refl 0 0 ((w.alloc (.cells (WL 8 H).toArray t)).alloc (.cells cs t))).alloc (.cells (WL 8 H).toArray t)
  have b := (((Below.refl w.heap.size w).alloc (Nat.le_refl _) (.cells (WL 8 H).toArray t)).alloc (by simp) (.cells cs t)).alloc (by simp; omega) (.cells (WL 8 H).toArray t)
  exact ⟨(h1.keep k1 (by omega)).keep k2 (by omega), h2.keep k2 (by omega), h3, hk.below b hk.1, b⟩
theorem R8.setV {w0 wr : World} {H U V : Nat → Int} (r : R8 w0 wr H U V) (V' : Nat → Int) (hg : 1 < w0.heap.size) : R8 w0 (wr.setCells (w0.heap.size + 1 + 1) 0 (WL 8 V')) H U V' := by
  have k := Keep.setCells (lo := w0.heap.size + 1 + 1) (hi := w0.heap.size + 1 + 2) (b := w0.heap.size + 1 + 1) ⟨by omega, by omega⟩ (WL 8 V') 0 wr (Keep.refl _ _ _)
  exact ⟨r.h.keep k (by omega), r.u.keep k (by omega), r.v.setAll V', r.k.keep k (by omega), Below.setCells (by omega) _ _ _ r.b⟩
theorem R8.setU {w0 wr : World} {H U V : Nat → Int} (r : R8 w0 wr H U V) (U' : Nat → Int) (hg : 1 < w0.heap.size) : R8 w0 (wr.setCells (w0.heap.size + 1) 0 (WL 8 U')) H U' V := by
  have k := Keep.setCells (lo := w0.heap.size + 1) (hi := w0.heap.size + 2) (b := w0.heap.size + 1) ⟨by omega, by omega⟩ (WL 8 U') 0 wr (Keep.refl _ _ _)
  exact ⟨r.h.keep k (by omega), r.u.setAll U', r.v.keep k (by omega), r.k.keep k (by omega), Below.setCells (by omega) _ _ _ r.b⟩
theorem R8.set1 {w0 wr : World} {H U V : Nat → Int} (r : R8 w0 wr H U V) {i : Nat} (hi : i < 8) (x : Int) (hg : 1 < w0.heap.size) : R8 w0 (wr.setCell ⟨w0.heap.size, i, none⟩ (.int .u32 x)) (upd H i x) U V := by
  have k : Keep w0.heap.size (w0.heap.size + 1) wr (wr.setCell ⟨w0.heap.size, i, none⟩ (.int .u32 x)) := (Keep.refl _ _ _).setCell (p := ⟨w0.heap.size, i, none⟩) ⟨Nat.le_refl _, Nat.lt_succ_self _⟩ _
  exact ⟨r.h.set_ hi x, r.u.keep k (by omega), r.v.keep k (by omega), r.k.keep k (by omega), r.b.setCell (Nat.le_refl _) _⟩
theorem R8.below {w0 wr w' : World} {H U V : Nat → Int} (r : R8 w0 wr H U V) (hb : Below wr.heap.size wr w') : R8 w0 w' H U V := by
  have k := Keep.of_below hb 0 0
  exact ⟨r.h.keep k (by omega), r.u.keep k (by omega), r.v.keep k (by omega), r.k.below hb r.k.1, r.b.trans (hb.mono r.b.size)⟩
theorem R8.drew {w0 wr : World} {H U V : Nat → Int} (r : R8 w0 wr H U V) : R8 w0 wr.drew H U V := ⟨r.h, r.u, r.v, ⟨r.k.1, r.k.2⟩, ⟨r.b.os, r.b.tape, r.b.output, r.b.size, r.b.block⟩⟩
theorem WL8_one (V : Nat → Int) : (WL 8 V).toArray.all (·.oneCell') = true := all_oneCell_toArray (WL_one 8 V)
theorem WL_congr (n : Nat) (V U : Nat → Int) (h : ∀ j, j < n → V j = U j) : WL n V = WL n U := by
  unfold WL
  exact List.map_congr_left fun j hj => by rw [h j (List.mem_range.1 hj)]
theorem thereL {w : World} {g : Nat} {V : Nat → Int} (h : Wd w g 8 V) (U : Nat → Int) : w.there g 0 (WL 8 U).toArray.size := by
  have e : (WL 8 U).toArray.size = 8 := by simp [WL_len]
  rw [e]; exact h.there
theorem sizeL (V : Nat → Int) : (Tryd.prog.info? 105).map (·.size) = some (WL 8 V).length := by rw [WL_len]; exact size_w8
theorem sizeA (V : Nat → Int) : (Tryd.prog.info? 105).map (·.size) = some (WL 8 V).toArray.size := by simpa [WL_len] using size_w8

set_option maxRecDepth 100000 in
set_option maxHeartbeats 2000000 in
theorem afterBlock_any (b off c hi : Nat) (xs : List Int) (H : Nat → Int) (w : World) (h : Rd w 0 hi (some ⟨b, off, none⟩) 64 xs) (hc64 : 64 ≤ c) (hH : U32 H) (hk : Kt w) :
    Calls Tryd.prog 80 #[A8 H, .slice (some ⟨b, off, none⟩) 64 c] w fun e w' => e = .returned (A8 (fun j => (H j + st (Ws xs 48) H 64 j) % 4294967296)) ∧ Below w.heap.size w w' := by
  have hbyte := h.byte
  have hg := hk.1
  obtain ⟨Z, hZ⟩ : ∃ Z, Z = A8 (fun j => (H j + st (Ws xs 48) H 64 j) % 4294967296) := ⟨_, rfl⟩
  rw [← hZ]
  have HZ := Lib.hid hZ
  clear hZ
  have hr0 : R8 w (((w.alloc (.cells #[.int .u32 (H 0), .int .u32 (H 1), .int .u32 (H 2), .int .u32 (H 3), .int .u32 (H 4), .int .u32 (H 5), .int .u32 (H 6), .int .u32 (H 7)] 105)).alloc (.cells #[.int .u32 0, .int .u32 0, .int .u32 0, .int .u32 0, .int .u32 0, .int .u32 0, .int .u32 0, .int .u32 0] 105)).alloc (.cells #[.int .u32 (H 0), .int .u32 (H 1), .int .u32 (H 2), .int .u32 (H 3), .int .u32 (H 4), .int .u32 (H 5), .int .u32 (H 6), .int .u32 (H 7)] 105)) H (fun _ => 0) H := R8.start w H 105 hk _ rfl
  have HRR := Lib.hid hr0
  clear hr0
  unfold A8
  go_enter Tryd.func80, Tryd.ntmps80
  go_wp2_with fail
  refine (blockWords_any b off c hi xs _ (h.keep (Keep.of_below HRR.out.b 0 0) (by omega)) hc64).mono ?_
  rintro e w4 ⟨rfl, hb4⟩
  have r4 := HRR.out.below hb4
  clear HRR hb4 h hk
  have hWu : U32 (Ws xs 48) := Ws_u32 xs hbyte 48
  generalize hWe : Ws xs 48 = W at *
  have HWe := Lib.hid hWe
  clear hWe
  have hix := fun (k : Nat) (hk : k < 64) => run_index64 W k hk
  have HIX := Lib.hid hix
  clear hix
  generalize hWv : (WL 64 W).toArray = Wv at *
  have HWv := Lib.hid hWv
  clear hWv
  go_wp2_with fail
  go_loopw [6, 7, 13] (fun _ _ i wr => ∃ t : Nat, t ≤ 64 ∧ i = .int .i64 (t : Int) ∧ R8 w wr H (fun _ => 0) (st W H t)) (fun _ _ i _ => 64 - (intOf i).toNat)
  case atStart => exact ⟨0, Nat.zero_le _, rfl, r4⟩
  case round =>
    obtain ⟨t, ht, rfl, r⟩ := hrel
    by_cases hlt : t < 64
    · have hV := st_u32 (W := W) hH t
      have HT : Hid (st W H (t + 1) = rnd (st W H t) (K t) (W t)) := rfl
      generalize st W H t = V at *
      have hidx := HIX.out t hlt
      obtain ⟨c0, c1, c2, c3, c4, c5, c6, c7⟩ := r.v.cells8
      have ck := r.k.2 t hlt
      have i1 : (t : Int) < 64 := by omega
      have i0 : (0 : Int) ≤ (t : Int) := by omega
      have hwt := hWu t
      have hkt := K_u32 t
      go_wp2_with fail
      go_still_tail 6, (by kernel_rfl)
      change wpList _ _ _ _ _ wr.drew
      have r' := r.drew
      clear r c0 c1 c2 c3 c4 c5 c6 c7 ck hidx
      go_wp2_with fail
      refine (afterRound_any V (K t) (W t) _ _ hV (IntKind.wrap_u32 _)).mono ?_
      rintro e w5 ⟨rfl, hb5⟩
      have r5 := r'.below hb5
      clear r' hb5
      obtain ⟨c0, c1, c2, c3, c4, c5, c6, c7⟩ := r5.v.cells8
      have f0 := r5.v.frozen 0
      have f1 := r5.v.frozen 1
      have f2 := r5.v.frozen 2
      have f3 := r5.v.frozen 3
      have f4 := r5.v.frozen 4
      have f5 := r5.v.frozen 5
      have f6 := r5.v.frozen 6
      have f7 := r5.v.frozen 7
      have HS := Lib.hid (r5.setV (rnd V (K t) (W t)) hg)
      generalize rnd V (K t) (W t) = U at *
      clear r5 hwt hkt hV HIX
      unfold A8
      go_wp2_with fail
      go_roundw
      case rel => exact ⟨t + 1, by omega, by go_num, by rw [HT.out]; exact HS.out⟩
      case measure => simp [intOf]; omega
    · have r64 : R8 w wr H (fun _ => 0) (st W H 64) := by
        have e : t = 64 := by omega
        rw [← e]; exact r
      have hV := st_u32 (W := W) hH 64
      have htt : ¬ (t : Int) < 64 := by omega
      clear r
      generalize hVe : st W H 64 = V at *
      have HVe := Lib.hid hVe
      clear hVe
      obtain ⟨c0, c1, c2, c3, c4, c5, c6, c7⟩ := r64.v.cells8
      have HIX8 := Lib.hid (fun (k : Nat) (hk : k < 8) => run_index8 V k hk)
      go_wp2_with fail
      clear c0 c1 c2 c3 c4 c5 c6 c7
      go_loopw [8, 9, 26] (fun _ _ i wx => ∃ q : Nat, q ≤ 8 ∧ i = .int .i64 (q : Int) ∧ R8 w wx (Hs H V q) (fun _ => 0) V) (fun _ _ i _ => 8 - (intOf i).toNat)
      case atStart => exact ⟨0, Nat.zero_le _, rfl, ⟨r64.h.congr (fun j hj => by unfold Hs; rw [if_neg (by omega)]), r64.u, r64.v, r64.k, r64.b⟩⟩
      case round =>
        obtain ⟨q, hq, rfl, r⟩ := hrel
        by_cases hlt : q < 8
        · have hidx : ∀ w : World, (Instr.index 105 (.agg #[.int .u32 (V 0), .int .u32 (V 1), .int .u32 (V 2), .int .u32 (V 3), .int .u32 (V 4), .int .u32 (V 5), .int .u32 (V 6), .int .u32 (V 7)]) (.int .i64 (q : Int))).run Tryd.prog w = .ok (.int .u32 (V q)) w := HIX8.out q hlt
          have d1 := r.h.cell hlt
          have e1 := r.h.frozen q
          rw [Hs_at] at d1
          have hx := hH q
          have hy := hV q
          have s1 := r.set1 hlt ((H q + V q) % 4294967296) hg
          rw [Hs_step] at s1
          have HS := Lib.hid s1
          have j1 : (q : Int) < 8 := by omega
          have j0 : (0 : Int) ≤ (q : Int) := by omega
          clear s1 r
          go_wp2_with fail
          go_roundw
          case rel => exact ⟨q + 1, by omega, by go_num, HS.out⟩
          case measure => simp [intOf]; omega
        · have eq : q = 8 := by omega
          have hj : ¬ (q : Int) < 8 := by omega
          have r8 : R8 w wr (Hs H V 8) (fun _ => 0) V := by rw [← eq]; exact r
          have hcg : A8 (Hs H V 8) = Z := by
            rw [HZ.out]
            rfl
          clear r
          generalize Hs H V 8 = U at *
          obtain ⟨c0, c1, c2, c3, c4, c5, c6, c7⟩ := r8.h.cells8
          obtain ⟨d0, d1, d2, d3, d4, d5, d6, d7⟩ := r8.u.cells8
          have f0 := r8.u.frozen 0
          have f1 := r8.u.frozen 1
          have f2 := r8.u.frozen 2
          have f3 := r8.u.frozen 3
          have f4 := r8.u.frozen 4
          have f5 := r8.u.frozen 5
          have f6 := r8.u.frozen 6
          have f7 := r8.u.frozen 7
          have HS := Lib.hid (r8.setU U hg)
          have HC := Lib.hid hcg
          clear r8 hcg HIX HIX8
          go_wp2_with fail
          refine bodyPost_ret (v := A8 U) ?_ rfl ⟨by rw [HC.out], HS.out.b⟩
          simp [results, Tryd.results80, go_sem, d0, d1, d2, d3, d4, d5, d6, d7, A8]
end Go.Proofs.YtpnpjngaenlciaaDoor
