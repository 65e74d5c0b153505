/-
  The proof of who wrote it: l2Mac; and the model's PadMessage, HashOf, MacOf.
-/
import Derived.Test.YtpnpjngaenlciaaDoorH5
import Derived.Test.YtpnpjngaenlciaaDoorApp
namespace Go.Proofs.YtpnpjngaenlciaaDoor
open Go.RowKit
set_option linter.unusedVariables false
set_option maxRecDepth 100000

/-- A row of n bytes of the call's own; the first k are told by f. -/
def Row8 (w : World) (g n k : Nat) (f : Nat → Int) : Prop :=
  ∃ cs, w.heap[g]? = some (.cells cs 5 (0, 0)) ∧ cs.size = n ∧ ∀ j, j < k → cs[j]? = some (.int .u8 (f j))
section
variable {w w' : World} {g n k : Nat} {f : Nat → Int}
theorem Row8.lt (h : Row8 w g n k f) : g < w.heap.size := by
  obtain ⟨cs, h1, _⟩ := h
  rcases Nat.lt_or_ge g w.heap.size with hlt | hge
  · exact hlt
  · rw [Array.getElem?_eq_none hge] at h1; cases h1
theorem Row8.start (w : World) (cs : Array Value) (hs : cs.size = n) (f : Nat → Int) : Row8 (w.alloc (.cells cs 5)) w.heap.size n 0 f := by
  refine ⟨cs, ?_, hs, fun j hj => by omega⟩
  show (w.heap.push _)[w.heap.size]? = _
  simp
theorem Row8.cell (h : Row8 w g n k f) {j : Nat} (hj : j < n) : ∃ v, w.cell? ⟨g, j, none⟩ = some v := by
  obtain ⟨cs, h1, h2, _⟩ := h
  refine ⟨cs[j]'(by omega), ?_⟩
  simp [World.cell?, h1, h2, hj]
theorem Row8.frozen (h : Row8 w g n k f) (j : Nat) : w.frozen? ⟨g, j, none⟩ = false := by
  obtain ⟨cs, h1, _⟩ := h
  simp [World.frozen?, h1]
theorem Row8.step (h : Row8 w g n k f) (hk : k < n) : Row8 (w.setCell ⟨g, k, none⟩ (.int .u8 (f k))) g n (k + 1) f := by
  obtain ⟨cs, h1, h2, h3⟩ := h
  refine ⟨cs.setIfInBounds k (.int .u8 (f k)), by simp [World.setCell, Array.getElem?_modify, h1], by simpa using h2, fun j hj => ?_⟩
  rw [Array.getElem?_setIfInBounds]
  by_cases e : k = j
  · subst e; simp [h2, hk]
  · rw [if_neg e]; exact h3 j (by omega)
theorem Row8.keep {lo hi : Nat} (h : Row8 w g n k f) (ke : Keep lo hi w w') (ho : g < lo ∨ hi ≤ g) : Row8 w' g n k f := by
  have hl := h.lt
  obtain ⟨cs, h1, h2, h3⟩ := h
  exact ⟨cs, (ke.block g hl ho).trans h1, h2, h3⟩
theorem Row8.own (h : Row8 w g n n f) (hm : n ≤ maxLen) {base : Nat} (hb : base ≤ g) : w.ownsRow base 5 1 (.slice (some ⟨g, 0, none⟩) n n) n (((List.range n).map f).map (Value.int .u8)) := by
  obtain ⟨cs, h1, h2, h3⟩ := h
  refine ⟨by simp, .inr ⟨g, n, cs, rfl, hb, h1, Nat.le_refl _, hm, by omega, ?_⟩⟩
  refine List.ext_getElem (by simp [h2]) fun j h4 h5 => ?_
  have hj : j < n := by simpa using h5
  have := h3 j hj
  rw [Array.getElem?_eq_getElem (by omega)] at this
  simp only [List.getElem_take, Array.getElem_toList, List.getElem_map, List.getElem_range]
  exact Option.some.inj this
end

/-- The key's bytes, zeros behind them. -/
def keyAt (ks : List Int) (j : Nat) : Int := if j < ks.length then ks.getD j 0 else 0
def innerL (ks : List Int) : List Int := (List.range 64).map fun j => bits .xor .u8 (keyAt ks j) 54
def outerL (ks : List Int) : List Int := (List.range 64).map fun j => bits .xor .u8 (keyAt ks j) 92
/-- HMAC. -/
def macL (ks ds : List Int) : List Int := hashL (outerL ks ++ hashL (innerL ks ++ ds))
theorem bits_u8 (op : BinOp) (x y : Int) : 0 ≤ bits op .u8 x y ∧ bits op .u8 x y ≤ 255 := by
  have := wf_bits op .u8 x y
  simpa [Lit.wf, IntKind.min, IntKind.max, IntKind.signed, IntKind.bits] using this
theorem innerL_len (ks : List Int) : (innerL ks).length = 64 := by simp [innerL]
theorem outerL_len (ks : List Int) : (outerL ks).length = 64 := by simp [outerL]
theorem innerL_byte (ks : List Int) : ∀ x ∈ innerL ks, 0 ≤ x ∧ x ≤ 255 := by
  intro x hx
  simp only [innerL, List.mem_map] at hx
  obtain ⟨j, _, rfl⟩ := hx
  exact bits_u8 _ _ _
theorem outerL_byte (ks : List Int) : ∀ x ∈ outerL ks, 0 ≤ x ∧ x ≤ 255 := by
  intro x hx
  simp only [outerL, List.mem_map] at hx
  obtain ⟨j, _, rfl⟩ := hx
  exact bits_u8 _ _ _
theorem macL_len (ks ds : List Int) : (macL ks ds).length = 32 := hashL_len _
theorem macL_byte (ks ds : List Int) : ∀ x ∈ macL ks ds, 0 ≤ x ∧ x ≤ 255 := hashL_byte _

set_option maxHeartbeats 2000000 in
theorem l2Mac_any (A D : Option Addr) (nk ck n c hk hi : Nat) (ks ds : List Int) (w : World) (hkey : Rd w 0 hk A nk ks) (h : Rd w 0 hi D n ds) (hn : n ≤ 1048600) (hD : D = none → c = 0) :
    Calls Tryd.prog 68 #[.slice A nk ck, .slice D n c] w (Padded w (macL ks ds)) := by
  obtain ⟨i0, hi0, hz0, hz1, hz2⟩ := info_parts info_u8s
  have hmk : ∀ w : World, (Instr.makeSlice 22 (.int .i64 64) (.int .i64 64)).run Tryd.prog w = .ok (.slice (some ⟨w.heap.size, 0, none⟩) 64 64) (w.alloc (.cells (madeCells #[.int .u8 0] 64) 5)) := run_make_u8 64 (by omega)
  have hkl := hkey.len
  have hkint := hkey.int
  have hdb := h.byte
  go_enter Tryd.func68, Tryd.ntmps68
  go_wp2_with fail
  have s1 := Row8.start (n := 64) w (madeCells #[.int .u8 0] 64) (size_madeCells _ _) (fun j => bits .xor .u8 (keyAt ks j) 54)
  have s2 := Row8.start (n := 64) (w.alloc (.cells (madeCells #[.int .u8 0] 64) 5)) (madeCells #[.int .u8 0] 64) (size_madeCells _ _) (fun j => bits .xor .u8 (keyAt ks j) 92)
  have s1' := s1.keep ((Keep.refl 0 0 _).alloc (.cells (madeCells #[.int .u8 0] 64) 5)) (by omega)
  simp only [World.size_alloc] at s2
  have b2 : Below w.heap.size w ((w.alloc (.cells (madeCells #[.int .u8 0] 64) 5)).alloc (.cells (madeCells #[.int .u8 0] 64) 5)) := ((Below.refl _ w).alloc (Nat.le_refl _) _).alloc (by simp) _
  clear s1 hmk
  go_loopw [13] (fun i wr => ∃ k : Nat, k ≤ 64 ∧ i = .int .i64 (k : Int) ∧ Row8 wr w.heap.size 64 k (fun j => bits .xor .u8 (keyAt ks j) 54) ∧ Row8 wr (w.heap.size + 1) 64 k (fun j => bits .xor .u8 (keyAt ks j) 92) ∧ Below w.heap.size w wr) (fun i _ => 64 - (intOf i).toNat)
  case atStart => exact ⟨0, Nat.zero_le _, rfl, s1', s2, b2⟩
  case round =>
    obtain ⟨k, hk64, rfl, r1, r2, b⟩ := hrel
    by_cases hlt : k < 64
    · obtain ⟨v1, c1⟩ := r1.cell hlt
      obtain ⟨v2, c2⟩ := r2.cell hlt
      have f1 := r1.frozen k
      have f2 := r2.frozen k
      have q1 := r1.step hlt
      have kA : Keep w.heap.size (w.heap.size + 1) wr (wr.setCell ⟨w.heap.size, k, none⟩ (.int .u8 (bits .xor .u8 (keyAt ks k) 54))) := (Keep.refl _ _ wr).setCell (p := ⟨w.heap.size, k, none⟩) ⟨Nat.le_refl _, Nat.lt_succ_self _⟩ _
      have q2 := (r2.keep kA (by omega)).step hlt
      have kB : Keep (w.heap.size + 1) (w.heap.size + 2) (wr.setCell ⟨w.heap.size, k, none⟩ (.int .u8 (bits .xor .u8 (keyAt ks k) 54))) ((wr.setCell ⟨w.heap.size, k, none⟩ (.int .u8 (bits .xor .u8 (keyAt ks k) 54))).setCell ⟨w.heap.size + 1, k, none⟩ (.int .u8 (bits .xor .u8 (keyAt ks k) 92))) := (Keep.refl _ _ _).setCell (p := ⟨w.heap.size + 1, k, none⟩) ⟨Nat.le_refl _, Nat.lt_succ_self _⟩ _
      have q1' := q1.keep kB (by omega)
      have b3 := (b.setCell (p := ⟨w.heap.size, k, none⟩) (Nat.le_refl _) (.int .u8 (bits .xor .u8 (keyAt ks k) 54))).setCell (p := ⟨w.heap.size + 1, k, none⟩) (Nat.le_succ _) (.int .u8 (bits .xor .u8 (keyAt ks k) 92))
      have HK : Hid (keyAt ks k = if k < ks.length then ks.getD k 0 else 0) := rfl
      have hr := hkey.keep (Keep.of_below b 0 0) (by omega)
      have j0 : (0 : Int) ≤ (k : Int) := by omega
      by_cases hkn : k < nk
      · obtain ⟨bb, off, rfl, _, _, hc⟩ := hr.at_ (by omega)
        have ck1 := hc k hkn
        have e1 : keyAt ks k = ks.getD k 0 := by rw [HK.out, if_pos (by omega)]
        rw [e1] at q1' q2 b3
        have hkn' : (k : Int) < (nk : Int) := by omega
        generalize ks.getD k 0 = kv at *
        have Q1 := Lib.hid q1'
        have Q2 := Lib.hid q2
        have B3 := Lib.hid b3
        clear q1 q1' q2 b3 kA kB r1 r2 b hr hc hkey h e1 HK s1' s2 b2
        go_wp2_with fail
        go_roundw
        case rel => exact ⟨k + 1, by omega, by go_num, Q1.out, Q2.out, B3.out⟩
        case measure => simp [intOf]; omega
      · have e1 : keyAt ks k = 0 := by rw [HK.out, if_neg (by omega)]
        rw [e1] at q1' q2 b3
        have hkn' : ¬ (k : Int) < (nk : Int) := by omega
        have Q1 := Lib.hid q1'
        have Q2 := Lib.hid q2
        have B3 := Lib.hid b3
        clear q1 q1' q2 b3 kA kB r1 r2 b hr hkey h e1 HK s1' s2 b2
        go_wp2_with fail
        go_roundw
        case rel => exact ⟨k + 1, by omega, by go_num, by first | exact Q1.out | (have := Q1.out; simpa using this), by first | exact Q2.out | (have := Q2.out; simpa using this), by first | exact B3.out | (have := B3.out; simpa using this)⟩
        case measure => simp [intOf]; omega
    · have ek : k = 64 := by omega
      rw [ek] at r1 r2
      have o1 := r1.own (by unfold maxLen; omega) (Nat.le_refl w.heap.size)
      have o2 := r2.own (by unfold maxLen; omega) (Nat.le_refl (w.heap.size + 1))
      have z := b.size
      have hg2 := r2.lt
      have hd := h.keep (Keep.of_below b 0 0) (by omega)
      have jk : ¬ (k : Int) < 64 := by omega
      have HI : Hid ((List.range 64).map (fun j => bits .xor .u8 (keyAt ks j) 54) = innerL ks) := rfl
      have HU : Hid ((List.range 64).map (fun j => bits .xor .u8 (keyAt ks j) 92) = outerL ks) := rfl
      rw [HI.out] at o1
      rw [HU.out] at o2
      clear ek r1 r2 hkey h s1' s2 b2
      obtain ⟨wo, rfl⟩ : ∃ wo : World, wo = wr := ⟨_, rfl⟩
      go_wp2_with (at_builtin; refine wpList_append_rd rfl _ _ 22 rfl w.heap.size 5 i0 (.int .u8 0) Tryd.underlying22 hi0 hz0 hz1 hz2 rfl w.heap.size 64 64 _ rfl o1 D n c _ _ ds rfl hd hD ?k1 ?k2 z ?_)
      case k1 => unfold maxLen; omega
      case k2 => omega
      intro g3 cap3 w3 own3 grow3 hat3
      have k3 := Keep.of_append grow3
      have b3 : Below w.heap.size w w3 := b.grown grow3 z (fun q hq => by simp at hq; omega)
      have o2' := own_keep o2 k3 (by omega)
      have z3 := b3.size
      rw [← List.map_append] at own3
      have hil : (innerL ks ++ ds).length = 64 + n := by rw [List.length_append, innerL_len, hd.len]
      have hib : ∀ x ∈ innerL ks ++ ds, 0 ≤ x ∧ x ≤ 255 := by
        intro x hx
        rcases List.mem_append.1 hx with hx | hx
        · exact innerL_byte _ x hx
        · exact hdb x hx
      have r3 := (Wr.of_own own3 (by unfold maxLen; omega) hib).1.wide (Nat.zero_le _) (Nat.le_refl _) (Nat.le_refl _)
      have hg32 := o2'.lt (w.heap.size + 1) rfl
      clear own3 o1 grow3 hat3 hd
      go_wp2_with fail
      refine (l2Hash_any (some ⟨g3, 0, none⟩) (64 + n) cap3 _ (innerL ks ++ ds) w3 r3 (by omega) (fun h => by cases h)).mono ?_
      rintro e w4 ⟨g4, c4, rfl, _, own4, b4⟩
      have o2'' := own_keep o2' (Keep.of_below b4 0 0) (by omega)
      have hb4 := hashL_byte (innerL ks ++ ds)
      have hl4 := hashL_len (innerL ks ++ ds)
      rw [hl4] at own4 ⊢
      have r4 := (Wr.of_own own4 (by unfold maxLen; omega) hb4).1
      have bb4 := b3.trans (b4.mono z3)
      have z4 := bb4.size
      have hg42 := o2''.lt (w.heap.size + 1) rfl
      clear own4 b4 o2' r3 k3 o2 hil
      go_wp2_with (at_builtin; refine wpList_append_rd rfl _ _ 22 rfl (w.heap.size + 1) 5 i0 (.int .u8 0) Tryd.underlying22 hi0 hz0 hz1 hz2 rfl (w.heap.size + 1) 64 64 _ rfl o2'' (some ⟨g4, 0, none⟩) 32 c4 _ _ _ rfl r4 (fun h => by cases h) ?k3 ?k4 ?k5 ?_)
      case k3 => unfold maxLen; omega
      case k4 => omega
      case k5 => omega
      intro g5 cap5 w5 own5 grow5 hat5
      have b5 : Below w.heap.size w w5 := bb4.grown grow5 z4 (fun q hq => by simp at hq; omega)
      have z5 := b5.size
      rw [← List.map_append] at own5
      have hob : ∀ x ∈ outerL ks ++ hashL (innerL ks ++ ds), 0 ≤ x ∧ x ≤ 255 := by
        intro x hx
        rcases List.mem_append.1 hx with hx | hx
        · exact outerL_byte _ x hx
        · exact hb4 x hx
      have r5 := (Wr.of_own own5 (by unfold maxLen; omega) hob).1.wide (Nat.zero_le _) (Nat.le_refl _) (Nat.le_refl _)
      clear own5 grow5 hat5 o2'' r4
      go_wp2_with fail
      refine (l2Hash_any (some ⟨g5, 0, none⟩) (64 + 32) cap5 _ _ w5 r5 (by omega) (fun h => by cases h)).mono ?_
      rintro e w6 ⟨g6, c6, rfl, hc6, own6, b6⟩
      have b66 := b5.trans (b6.mono z5)
      have HP : Hid (Padded w (macL ks ds) (.returned (.slice (some ⟨g6, 0, none⟩) (hashL (outerL ks ++ hashL (innerL ks ++ ds))).length c6)) w6) := ⟨g6, c6, rfl, hc6, own_less own6 z5, b66⟩
      clear own6 b6 b66 hc6
      go_wp2_with fail
      go_ret
      exact HP.out
end Go.Proofs.YtpnpjngaenlciaaDoor
