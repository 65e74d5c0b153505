/-
  The model's HeadOf, OpenPacket.
-/
import Derived.Test.YtpnpjngaenlciaaDoorS2
import Derived.StillTailTactics
namespace Go.Proofs.YtpnpjngaenlciaaDoor
open Go.RowKit
set_option linter.unusedVariables false
set_option maxRecDepth 100000

theorem hdSeq_bound (ps : List Int) (hb : ∀ x ∈ ps, 0 ≤ x ∧ x ≤ 255) : 0 ≤ hdSeq ps ∧ hdSeq ps ≤ 4294967295 := part_val ps hb 1
theorem zeroOr_zero (x : Int) : zeroOr 0 x = x := rfl
theorem zeroOr_bad {c : Int} (h : c ≠ 0) (x : Int) : zeroOr c x = 0 := if_neg h

set_option maxHeartbeats 1000000 in
theorem specHead_any (A : Option Addr) (n c hi : Nat) (ps : List Int) (w : World) (h : Rd w 0 hi A n ps) (hnc : n ≤ c) :
    Calls Tryd.prog 23 #[.slice A n c] w (PAns w (headCode ps) (zeroOr (headCode ps) (hdSide ps)) (zeroOr (headCode ps) (hdSeq ps)) []) := by
  have hint := h.int
  have hl := h.len
  by_cases hn : n < 13 ∨ 133 < n
  · have e : headCode ps = 2 := by unfold headCode; rw [if_pos (by omega)]
    rw [e, zeroOr_bad (by omega), zeroOr_bad (by omega)]
    rcases hn with hn | hn
    · have h1 : (n : Int) - 5 - 8 < 0 := by omega
      go_enter Tryd.func23, Tryd.ntmps23
      go_wp2_with fail
      go_returns
      exact PAns.fault (by go_grown)
    · have h1 : ¬ (n : Int) - 5 - 8 < 0 := by omega
      have h2 : (120 : Int) < (n : Int) - 5 - 8 := by omega
      go_enter Tryd.func23, Tryd.ntmps23
      go_wp2_with fail
      go_returns
      exact PAns.fault (by go_grown)
  · have h1 : ¬ (n : Int) - 5 - 8 < 0 := by omega
    have h2 : ¬ (120 : Int) < (n : Int) - 5 - 8 := by omega
    have e0 : ¬ (ps.length < 13 ∨ 133 < ps.length) := by omega
    have hb := hdSeq_bound ps h.byte
    have ka := (Keep.refl 0 0 w).alloc (.cells #[.int .i64 0, .int .i64 0, .int .i64 0, .slice none 0 0] 32)
    have hk := h.keep ka (by omega)
    obtain ⟨b, off, rfl, _, _, hc⟩ := hk.at_ (by omega)
    have hp := hk.part_ 1 4 (by omega)
    have c0 := hc 0 (by omega)
    rw [Nat.add_zero] at c0
    have hs0 := hk.byteAt (j := 0) (by omega)
    have hc5 : (5 : Int) ≤ (c : Int) := by omega
    have hc1 : ¬ c = 1 := by omega
    have HD : Hid (hdSide ps = ps.getD 0 0) := rfl
    have HQ : Hid (hdSeq ps = val (part ps 1 4)) := rfl
    have hrh := fun (w' : World) (h' : Rd w' 0 hi (some ⟨b, off + 1, none⟩) 4 (part ps 1 4)) => readHigh_any (some ⟨b, off + 1, none⟩) 4 (c - 1) 0 hi (part ps 1 4) w' h' (by omega)
    have hcode : headCode ps = if ¬ sideOk (hdSide ps) ∨ 9999 < hdSeq ps then 5 else 0 := by unfold headCode; rw [if_neg e0]
    generalize val (part ps 1 4) = sq at *
    have HRH := Lib.hid hrh
    rw [hcode]
    rw [HD.out, HQ.out] at *
    generalize ps.getD 0 0 = sd at *
    clear hc h hk hrh ka e0 hn hcode
    by_cases hs : sideOk sd
    · by_cases hq : 9999 < sq
      · rw [if_pos (Or.inr hq), zeroOr_bad (by omega), zeroOr_bad (by omega)]
        go_enter Tryd.func23, Tryd.ntmps23
        go_wp2_with fail
        refine (HRH.out _ hp).mono ?_
        rintro e w1 ⟨rfl, rfl⟩
        go_wp2_with fail
        refine (l3Side_any sd _ true (by simpa using hs)).mono ?_
        rintro e w1 ⟨rfl, rfl⟩
        go_wp2_with fail
        go_returns
        exact PAns.fault (by go_grown)
      · rw [if_neg (by simp [hs, hq]), zeroOr_zero, zeroOr_zero]
        go_enter Tryd.func23, Tryd.ntmps23
        go_wp2_with fail
        refine (HRH.out _ hp).mono ?_
        rintro e w1 ⟨rfl, rfl⟩
        go_wp2_with fail
        refine (l3Side_any sd _ true (by simpa using hs)).mono ?_
        rintro e w1 ⟨rfl, rfl⟩
        go_wp2_with fail
        go_returns
        exact PAns.fault (by go_grown)
    · rw [if_pos (Or.inl hs), zeroOr_bad (by omega), zeroOr_bad (by omega)]
      go_enter Tryd.func23, Tryd.ntmps23
      go_wp2_with fail
      refine (HRH.out _ hp).mono ?_
      rintro e w1 ⟨rfl, rfl⟩
      go_wp2_with fail
      refine (l3Side_any sd _ false (by simpa using hs)).mono ?_
      rintro e w1 ⟨rfl, rfl⟩
      go_wp2_with fail
      go_returns
      exact PAns.fault (by go_grown)

theorem PAns.of_ {w w' : World} {p sd sq : Int} {zs : List Int} {e : Ending} (h : PAns w p sd sq zs e w') : PAns w p sd sq zs e w' := h
theorem Box4.cells {w w1 : World} {u0 u1 u2 u3 : Value} {t : TypeId} (hb : Below (w.alloc (.cells #[u0, u1, u2, u3] t)).heap.size (w.alloc (.cells #[u0, u1, u2, u3] t)) w1) :
    (w1.cell? ⟨w.heap.size, 0, none⟩ = some u0 ∧ w1.cell? ⟨w.heap.size, 1, none⟩ = some u1 ∧ w1.cell? ⟨w.heap.size, 2, none⟩ = some u2 ∧ w1.cell? ⟨w.heap.size, 3, none⟩ = some u3) ∧
      (w1.frozen? ⟨w.heap.size, 0, none⟩ = false ∧ w1.frozen? ⟨w.heap.size, 1, none⟩ = false ∧ w1.frozen? ⟨w.heap.size, 2, none⟩ = false ∧ w1.frozen? ⟨w.heap.size, 3, none⟩ = false) ∧ Below w.heap.size w w1 ∧ w.heap.size < w1.heap.size := by
  have c0 := hb.cell (p := ⟨w.heap.size, 0, none⟩) (by simp)
  have c1 := hb.cell (p := ⟨w.heap.size, 1, none⟩) (by simp)
  have c2 := hb.cell (p := ⟨w.heap.size, 2, none⟩) (by simp)
  have c3 := hb.cell (p := ⟨w.heap.size, 3, none⟩) (by simp)
  have f0 := hb.frozen (p := ⟨w.heap.size, 0, none⟩) (by simp)
  have f1 := hb.frozen (p := ⟨w.heap.size, 1, none⟩) (by simp)
  have f2 := hb.frozen (p := ⟨w.heap.size, 2, none⟩) (by simp)
  have f3 := hb.frozen (p := ⟨w.heap.size, 3, none⟩) (by simp)
  simp [go_sem] at c0 c1 c2 c3 f0 f1 f2 f3
  have hz := hb.size
  simp only [World.size_alloc] at hz
  exact ⟨⟨c0, c1, c2, c3⟩, ⟨f0, f1, f2, f3⟩, ((Below.refl _ _).alloc (Nat.le_refl _) _).trans (hb.mono (by simp)), by omega⟩
/-- Four stores into block g. -/
def set4 (w : World) (g : Nat) (x0 x1 x2 x3 : Value) : World := (((w.setCell ⟨g, 0, none⟩ x0).setCell ⟨g, 1, none⟩ x1).setCell ⟨g, 2, none⟩ x2).setCell ⟨g, 3, none⟩ x3
theorem Keep.set4 {lo hi : Nat} {a w : World} {g : Nat} (h : Keep lo hi a w) (hg : lo ≤ g ∧ g < hi) (x0 x1 x2 x3 : Value) : Keep lo hi a (set4 w g x0 x1 x2 x3) :=
  (((h.setCell (p := ⟨g, 0, none⟩) hg x0).setCell (p := ⟨g, 1, none⟩) hg x1).setCell (p := ⟨g, 2, none⟩) hg x2).setCell (p := ⟨g, 3, none⟩) hg x3
theorem four_cells {w : World} {g : Nat} {u0 u1 u2 u3 : Value} (h0 : w.cell? ⟨g, 0, none⟩ = some u0) (h1 : w.cell? ⟨g, 1, none⟩ = some u1) (h2 : w.cell? ⟨g, 2, none⟩ = some u2) (h3 : w.cell? ⟨g, 3, none⟩ = some u3) (x0 x1 x2 x3 : Value) :
    (set4 w g x0 x1 x2 x3).cell? ⟨g, 0, none⟩ = some x0 ∧ (set4 w g x0 x1 x2 x3).cell? ⟨g, 1, none⟩ = some x1 ∧ (set4 w g x0 x1 x2 x3).cell? ⟨g, 2, none⟩ = some x2 ∧ (set4 w g x0 x1 x2 x3).cell? ⟨g, 3, none⟩ = some x3 := by
  unfold Go.Proofs.YtpnpjngaenlciaaDoor.set4
  refine ⟨?_, ?_, ?_, ?_⟩ <;> simp [go_sem, h0, h1, h2, h3]

structure Box4 (w : World) (b : Nat) (u0 u1 u2 u3 : Value) : Prop where
  c0 : w.cell? ⟨b, 0, none⟩ = some u0
  c1 : w.cell? ⟨b, 1, none⟩ = some u1
  c2 : w.cell? ⟨b, 2, none⟩ = some u2
  c3 : w.cell? ⟨b, 3, none⟩ = some u3
  f0 : w.frozen? ⟨b, 0, none⟩ = false
  f1 : w.frozen? ⟨b, 1, none⟩ = false
  f2 : w.frozen? ⟨b, 2, none⟩ = false
  f3 : w.frozen? ⟨b, 3, none⟩ = false
  lt : b < w.heap.size
theorem Box4.keep {w w' : World} {b lo hi : Nat} {u0 u1 u2 u3 : Value} (h : Box4 w b u0 u1 u2 u3) (k : Keep lo hi w w') (ho : b < lo ∨ hi ≤ b) : Box4 w' b u0 u1 u2 u3 :=
  ⟨(k.cell h.lt ho).trans h.c0, (k.cell h.lt ho).trans h.c1, (k.cell h.lt ho).trans h.c2, (k.cell h.lt ho).trans h.c3,
    (k.frozen h.lt ho).trans h.f0, (k.frozen h.lt ho).trans h.f1, (k.frozen h.lt ho).trans h.f2, (k.frozen h.lt ho).trans h.f3, Nat.lt_of_lt_of_le h.lt k.size⟩
theorem Box4.new (w : World) (u0 u1 u2 u3 : Value) (t : TypeId) : Box4 (w.alloc (.cells #[u0, u1, u2, u3] t)) w.heap.size u0 u1 u2 u3 := by
  constructor <;> simp [go_sem]
theorem Box4.drew {w : World} {b : Nat} {u0 u1 u2 u3 : Value} (h : Box4 w b u0 u1 u2 u3) : Box4 w.drew b u0 u1 u2 u3 := ⟨h.c0, h.c1, h.c2, h.c3, h.f0, h.f1, h.f2, h.f3, h.lt⟩
theorem PAns.fault4 {w v : World} (p : Int) (h : Below w.heap.size w v) (hlt : w.heap.size < v.heap.size) (x0 x1 x2 x3 : Value) :
    PAns w p 0 0 [] (.returned (.agg #[.int .i64 p, .int .i64 0, .int .i64 0, .slice none 0 0])) (set4 v w.heap.size x0 x1 x2 x3) :=
  PAns.fault (h.trans (((Keep.refl w.heap.size (w.heap.size + 1) v).set4 ⟨Nat.le_refl _, Nat.lt_succ_self _⟩ _ _ _ _).below (by omega) h.size))

theorem PAns.open_ {w v1 v2 : World} {r g n c : Nat} {sd sq : Int} {zs : List Int} (hl : zs.length = n) (hb1 : Below w.heap.size w v1) (h0 : w.heap.size < v1.heap.size) (hr : w.heap.size ≤ r ∧ r < v1.heap.size) (hb2 : Below v1.heap.size v1 v2)
    (wr : Wr v2 v1.heap.size v2.heap.size (some ⟨g, 0, none⟩) n zs) (hc : n ≤ c) (u x0 x1 x2 x3 : Value) :
    PAns w 0 sd sq zs (.returned (.agg #[.int .i64 0, .int .i64 sd, .int .i64 sq, .slice (some ⟨g, 0, none⟩) n c])) (set4 (v2.setCell ⟨r, 3, none⟩ u) w.heap.size x0 x1 x2 x3) := by
  subst hl
  have k : Keep w.heap.size v1.heap.size v2 (set4 (v2.setCell ⟨r, 3, none⟩ u) w.heap.size x0 x1 x2 x3) :=
    ((Keep.refl _ _ v2).setCell (p := ⟨r, 3, none⟩) hr u).set4 ⟨Nat.le_refl _, h0⟩ _ _ _ _
  have b2 : Below w.heap.size w v2 := hb1.trans (hb2.mono hb1.size)
  have hz := b2.size
  refine ⟨some ⟨g, 0, none⟩, c, rfl, hc, (wr.keep k (by omega)).wide (by omega) k.size (Nat.le_refl _), b2.trans (k.below (by omega) hz)⟩

set_option maxHeartbeats 2000000 in
theorem specOpen_any (A B : Option Addr) (nk ck n c hk hi : Nat) (ks ps : List Int) (w : World) (hkey : Rd w 0 hk A nk ks) (h : Rd w 0 hi B n ps) (hnc : n ≤ c) :
    Calls Tryd.prog 13 #[.slice A nk ck, .slice B n c] w (PAns w (openCode nk ks ps) (zeroOr (openCode nk ks ps) (hdSide ps)) (zeroOr (openCode nk ks ps) (hdSeq ps)) (ansOf (openCode nk ks ps) (openL ks ps))) := by
  have hi1 := hkey.int
  have hi3 := h.int
  have hl := h.len
  by_cases h1 : nk = 32
  · have ka := (Keep.refl 0 0 w).alloc (.cells #[.int .i64 0, .int .i64 0, .int .i64 0, .slice none 0 0] 32)
    have q1 := hkey.keep ka (by omega)
    have q2 := h.keep ka (by omega)
    have H1 := Lib.hid h1
    by_cases hh : headCode ps = 0
    · have hn : 13 ≤ n ∧ n ≤ 133 := by
        unfold headCode at hh
        by_cases e0 : ps.length < 13 ∨ 133 < ps.length
        · rw [if_pos e0] at hh; omega
        · omega
      have hd := fun (w' : World) (q2 : Rd w' 0 hi B n ps) => specHead_any B n c hi ps w' q2 hnc
      rw [hh, zeroOr_zero, zeroOr_zero] at hd
      have hcode : openCode nk ks ps = if tagL ks (bodyOf ps) ≠ tagOf ps then 6 else 0 := by unfold openCode; rw [if_neg (by simpa using h1), if_neg (by simpa using hh)]
      rw [hcode]
      obtain ⟨k, hk⟩ : ∃ k, n = k + 8 := ⟨n - 8, by omega⟩
      have hbo : bodyOf ps = part ps 0 k := by unfold bodyOf part; rw [hl, hk, Nat.add_sub_cancel, List.drop_zero]
      have hta : tagOf ps = part ps k 8 := by
        unfold tagOf part
        rw [hl, hk, Nat.add_sub_cancel]
        exact (List.take_of_length_le (by rw [List.length_drop]; omega)).symm
      have hop : openL ks ps = hideL ks (part ps 0 5) (part ps 5 (k - 5)) := by unfold openL; rw [hl, hk, show k + 8 - 13 = k - 5 from by omega]; rfl
      obtain ⟨b, off, rfl, _, _, _⟩ := q2.at_ (by omega)
      have htl := tagL_len ks (bodyOf ps)
      have htb := tagL_byte ks (bodyOf ps)
      rw [hbo] at hcode htl htb ⊢
      rw [hta, hop]
      have HD := Lib.hid hd
      generalize hdSide ps = sd at *
      generalize hdSeq ps = sq at *
      have hkey0 := hkey.top
      have hpk0 := h.top
      have HKN := Lib.hid hk
      have hw1 : IntKind.i64.wrap ((n : Int) - 8) = (k : Int) := by rw [IntKind.wrap_i64]; omega
      have i1 : (n : Int) - 8 = (k : Int) := by omega
      have i2 : (k : Int) ≤ (c : Int) := by omega
      have i3 : (k : Int) ≤ (n : Int) := by omega
      have i4 : ¬ c = k := by omega
      have i5 : (5 : Int) ≤ (c : Int) := by omega
      have i6 : (5 : Int) ≤ (k : Int) := by omega
      have i7 : ¬ c = 5 := by omega
      have i8 : n - k = 8 := by omega
      clear hd hcode hbo hta hop hk hh h1
      have hpl : (part ps k 8).length = 8 := by unfold part; rw [List.length_take, List.length_drop, hl]; have := HKN.out; omega
      have hpb : ∀ x ∈ part ps k 8, 0 ≤ x ∧ x ≤ 255 := fun x hx => h.byte x (List.mem_of_mem_drop (List.mem_of_mem_take hx))
      have hbeq := str_beq htb hpb
      have htag := fun (w' : World) (hk' hi' : Nat) (h1 : Rd w' 0 hk' A nk ks) (h2 : Rd w' 0 hi' (some ⟨b, off, none⟩) k (part ps 0 k)) => l3Tag_any A (some ⟨b, off, none⟩) nk ck k c hk' hi' ks (part ps 0 k) w' h1 h2 (by have := HKN.out; omega) (fun h => by cases h)
      have hpart := fun (w' : World) (hr : Rd w' 0 hi (some ⟨b, off, none⟩) n ps) => hr.part_ k 8 (by have := HKN.out; omega)
      have hbody := fun (w' : World) (hr : Rd w' 0 hi (some ⟨b, off, none⟩) n ps) => hr.part_ 0 k (by have := HKN.out; omega)
      rw [Nat.add_zero] at hbody
      generalize tagL ks (part ps 0 k) = tg at *
      have HTAG := Lib.hid htag
      have HPART := Lib.hid hpart
      have HBODY := Lib.hid hbody
      clear htag htb hpb hpart hbody
      by_cases ht : tg = part ps k 8
      · rw [if_neg (by simpa using ht), zeroOr_zero, zeroOr_zero, ansOf_zero]
        have hhd := fun (w' : World) (hr : Rd w' 0 hi (some ⟨b, off, none⟩) n ps) => hr.part_ 0 5 (by have := HKN.out; omega)
        rw [Nat.add_zero] at hhd
        have hbd := fun (w' : World) (hr : Rd w' 0 hi (some ⟨b, off, none⟩) n ps) => hr.part_ 5 (k - 5) (by have := HKN.out; omega)
        have hil : (hideL ks (part ps 0 5) (part ps 5 (k - 5))).length = k - 5 := (hideL_len _ _ _).trans (hbd _ h).len
        have hhide := fun (w' : World) (hk' hi' : Nat) (h1 : Rd w' 0 hk' A nk ks) (h2 : Rd w' 0 hi' (some ⟨b, off, none⟩) 5 (part ps 0 5)) (h3 : Rd w' 0 hi' (some ⟨b, off + 5, none⟩) (k - 5) (part ps 5 (k - 5))) => l3Hide_any A (some ⟨b, off, none⟩) (some ⟨b, off + 5, none⟩) nk ck 5 c (k - 5) (c - 5) hk' hi' hi' ks (part ps 0 5) (part ps 5 (k - 5)) w' h1 h2 h3 (fun h => by cases h) (by omega) (by have := HKN.out; omega)
        have HHD := Lib.hid hhd
        have HBD := Lib.hid hbd
        have HHIDE := Lib.hid hhide
        clear hhd hbd hhide
        go_enter Tryd.func13, Tryd.ntmps13
        go_wp2_with fail
        refine (l3Key_any A nk ck _ true (decide_eq_true H1.out)).mono ?_
        rintro e w0 ⟨rfl, rfl⟩
        go_wp2_with fail
        refine (HD.out _ q2).mono ?_
        rintro e w1 ⟨G, cap, rfl, _, _, b1⟩
        obtain ⟨⟨d0, d1, d2, d3⟩, ⟨f0, f1, f2, f3⟩, bb, hz⟩ := Box4.cells b1
        have r1 := h.keep (Keep.of_below bb 0 0) (by omega)
        have key1 := hkey.keep (Keep.of_below bb 0 0) (by omega)
        clear q1 q2 ka b1 hkey h
        go_wp2_with fail
        have kx : Keep 0 0 w1 (w1.alloc (.cells #[.int .i64 0, .int .i64 sd, .int .i64 sq, .slice G 0 cap] 32)).drew := ((Keep.refl 0 0 w1).alloc _).trans ⟨rfl, rfl, rfl, Nat.le_refl _, fun _ _ _ => rfl⟩
        have by1 := (Box4.new w1 (.int .i64 0) (.int .i64 sd) (.int .i64 sq) (.slice G 0 cap) 32).drew
        have r2 := r1.keep kx (by omega)
        have key2 := key1.keep kx (by omega)
        rw [decide_eq_true ht] at hbeq
        generalize part ps k 8 = tl at *
        generalize part ps 0 k = bd at *
        clear r1 key1
        have hs0 := (HPART.out _ r2).string (c - k)
        go_region_with (first
            | (go_at_call 48; refine (HTAG.out _ _ _ key2 (HBODY.out _ r2)).mono ?_; intro e v1 hm; obtain ⟨g7, c7, rfl, hc7, wr7, hb⟩ := hm.at_ htl; have hs1 := wr7.1.string c7; have r3 := r2.keep (Keep.of_below hb 0 0) (by omega); have hs3 := (HPART.out _ r3).string (c - k)))
        all_goals
          have hk3 := kx.trans (Keep.of_below hb 0 0)
          have bx := (Box4.mk d0 d1 d2 d3 f0 f1 f2 f3 hz).keep hk3 (by omega)
          have by2 := by1.keep (Keep.of_below hb 0 0) (by omega)
          have key3 := key2.keep (Keep.of_below hb 0 0) (by omega)
          have bb3 := bb.trans (hk3.below (by omega) bb.size)
          have hz1 : w1.heap.size < v1.heap.size := by have := by2.lt; exact this
          clear hk3 kx hb bb hs0 d0 d1 d2 d3 f0 f1 f2 f3 r2 key2 hs1 hs3 wr7 hm hbeq
          go_wp2_with fail
          have kd : Keep 0 0 v1 v1.drew := ⟨rfl, rfl, rfl, Nat.le_refl _, fun _ _ _ => rfl⟩
          have r4 := r3.keep kd (by omega)
          have key4 := key3.keep kd (by omega)
          have bx4 := bx.drew
          have by4 := by2.drew
          have bb4 : Below w.heap.size w v1.drew := bb3.trans (kd.below (by omega) bb3.size)
          clear bb3 bx by1 by2 r3 key3
          go_still_tail 6, (by kernel_rfl)
          change wpList _ _ _ _ _ v1.drew
          have hz4 : w1.heap.size < v1.drew.heap.size := hz1
          generalize v1.drew = v3 at *
          go_wp2_with fail
          refine (HHIDE.out _ _ _ key4 (HHD.out _ r4) (HBD.out _ r4)).mono ?_
          intro e v4 hm
          obtain ⟨g8, c8, rfl, hc8, wr8, hb8⟩ := hm.at_ hil
          have HF := Lib.hid (PAns.open_ (r := w1.heap.size) (sd := sd) (sq := sq) hil bb4 bx4.lt ⟨Nat.le_of_lt hz, hz4⟩ hb8 wr8 hc8 (.slice (some ⟨g8, 0, none⟩) (k - 5) c8) (.int .i64 0) (.int .i64 sd) (.int .i64 sq) (.slice (some ⟨g8, 0, none⟩) (k - 5) c8))
          have bx5 := bx4.keep (Keep.of_below hb8 0 0) (by omega)
          have by5 := by4.keep (Keep.of_below hb8 0 0) (by omega)
          obtain ⟨x0, x1, x2, x3, y0, y1, y2, y3, z0⟩ := bx5
          obtain ⟨d0, d1, d2, d3, f0, f1, f2, f3, z1⟩ := by5
          have hne : ¬ w.heap.size = w1.heap.size := by omega
          have hne' : ¬ w1.heap.size = w.heap.size := by omega
          clear hm wr8 hb8 bb4 bx4 by4 r4 key4 kd hz4 hz1 HHIDE HHD HBD HTAG HBODY HPART HD
          go_wp2_with fail
          exact bodyPost_ret (v := .agg #[.int .i64 0, .int .i64 sd, .int .i64 sq, .slice (some ⟨g8, 0, none⟩) (k - 5) c8]) (by simp [results, Tryd.results13, go_sem, x0, x1, x2, x3]) rfl HF.out
      · rw [if_pos ht, ansOf_bad (by omega), zeroOr_bad (by omega), zeroOr_bad (by omega)]
        go_enter Tryd.func13, Tryd.ntmps13
        go_wp2_with fail
        refine (l3Key_any A nk ck _ true (decide_eq_true H1.out)).mono ?_
        rintro e w0 ⟨rfl, rfl⟩
        go_wp2_with fail
        refine (HD.out _ q2).mono ?_
        rintro e w1 ⟨G, cap, rfl, _, _, b1⟩
        obtain ⟨⟨d0, d1, d2, d3⟩, ⟨f0, f1, f2, f3⟩, bb, hz⟩ := Box4.cells b1
        have r1 := h.keep (Keep.of_below bb 0 0) (by omega)
        have key1 := hkey.keep (Keep.of_below bb 0 0) (by omega)
        clear q1 q2 ka b1 hkey h
        go_wp2_with fail
        have kx : Keep 0 0 w1 (w1.alloc (.cells #[.int .i64 0, .int .i64 sd, .int .i64 sq, .slice G 0 cap] 32)).drew := ((Keep.refl 0 0 w1).alloc _).trans ⟨rfl, rfl, rfl, Nat.le_refl _, fun _ _ _ => rfl⟩
        have r2 := r1.keep kx (by omega)
        have key2 := key1.keep kx (by omega)
        rw [decide_eq_false ht] at hbeq
        generalize part ps k 8 = tl at *
        generalize part ps 0 k = bd at *
        clear r1 key1
        have hs0 := (HPART.out _ r2).string (c - k)
        go_region_with (first
            | (go_at_call 48; refine (HTAG.out _ _ _ key2 (HBODY.out _ r2)).mono ?_; intro e v1 hm; obtain ⟨g7, c7, rfl, hc7, wr7, hb⟩ := hm.at_ htl; have hs1 := wr7.1.string c7; have r3 := r2.keep (Keep.of_below hb 0 0) (by omega); have hs3 := (HPART.out _ r3).string (c - k)))
        all_goals
          have hk3 := kx.trans (Keep.of_below hb 0 0)
          have bx := (Box4.mk d0 d1 d2 d3 f0 f1 f2 f3 hz).keep hk3 (by omega)
          obtain ⟨d0', d1', d2', d3', f0', f1', f2', f3', hz'⟩ := bx
          have HF := Lib.hid (PAns.fault4 6 (bb.trans (hk3.below (by omega) bb.size)) hz' (.int .i64 6) (.int .i64 0) (.int .i64 0) (.slice none 0 0))
          clear hk3 kx hb bb hs0 d0 d1 d2 d3 f0 f1 f2 f3 r2 r3 key2 hs1 hs3 wr7 hm hbeq
          go_wp2_with fail
          exact bodyPost_ret (v := .agg #[.int .i64 6, .int .i64 0, .int .i64 0, .slice none 0 0]) (by simp [results, Tryd.results13, go_sem, d0', d1', d2', d3']) rfl HF.out
    · have e : openCode nk ks ps = headCode ps := by unfold openCode; rw [if_neg (by simpa using h1), if_pos hh]
      rw [e, ansOf_bad hh, zeroOr_bad hh, zeroOr_bad hh]
      have hd := fun (w' : World) (q2 : Rd w' 0 hi B n ps) => specHead_any B n c hi ps w' q2 hnc
      rw [zeroOr_bad hh, zeroOr_bad hh] at hd
      generalize headCode ps = hc at *
      have HD := Lib.hid hd
      clear e h1 hd
      go_enter Tryd.func13, Tryd.ntmps13
      go_wp2_with fail
      refine (l3Key_any A nk ck _ true (decide_eq_true H1.out)).mono ?_
      rintro e w0 ⟨rfl, rfl⟩
      go_wp2_with fail
      refine (HD.out _ q2).mono ?_
      rintro e w1 ⟨G, cap, rfl, _, _, b1⟩
      obtain ⟨⟨d0, d1, d2, d3⟩, ⟨f0, f1, f2, f3⟩, bb, hz⟩ := Box4.cells b1
      have HF : Hid (∀ o, PAns w hc 0 0 [] (.returned (.agg #[.int .i64 hc, .int .i64 0, .int .i64 0, .slice none 0 0])) ((set4 w1 w.heap.size (.int .i64 hc) (.int .i64 0) (.int .i64 0) (.slice none 0 0)).alloc o)) := fun o =>
        PAns.fault ((bb.trans (((Keep.refl w.heap.size (w.heap.size + 1) w1).set4 ⟨Nat.le_refl _, Nat.lt_succ_self _⟩ _ _ _ _).below (by omega) bb.size)).alloc (by have := ((Keep.refl w.heap.size (w.heap.size + 1) w1).set4 (g := w.heap.size) ⟨Nat.le_refl _, Nat.lt_succ_self _⟩ (.int .i64 hc) (.int .i64 0) (.int .i64 0) (.slice none 0 0)).size; omega) o)
      clear q1 q2 ka b1 bb
      go_wp2_with fail
      exact bodyPost_ret (v := .agg #[.int .i64 hc, .int .i64 0, .int .i64 0, .slice none 0 0]) (by simp [results, Tryd.results13, go_sem, d0, d1, d2, d3, hz]) rfl (HF.out _)
  · have e : openCode nk ks ps = 3 := by unfold openCode; rw [if_pos h1]
    rw [e, ansOf_bad (by omega), zeroOr_bad (by omega), zeroOr_bad (by omega)]
    go_enter Tryd.func13, Tryd.ntmps13
    go_wp2_with fail
    refine (l3Key_any A nk ck _ false (decide_eq_false h1)).mono ?_
    rintro e w0 ⟨rfl, rfl⟩
    go_wp2_with fail
    go_returns
    exact PAns.fault (by go_grown)
end Go.Proofs.YtpnpjngaenlciaaDoor
