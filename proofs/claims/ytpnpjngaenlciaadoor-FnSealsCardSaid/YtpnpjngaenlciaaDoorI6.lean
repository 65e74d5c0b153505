/-
  The proof of who wrote it, by the developers' functions: maskKey, slices.Concat over bytes, macBytes.
-/
import Derived.Test.YtpnpjngaenlciaaDoorI5
import Derived.Lib.AppendZerosOnto
import Derived.Lib.Walk
import Derived.Lib.SliceRun
namespace Go.Proofs.YtpnpjngaenlciaaDoor
open Go.RowKit
set_option linter.unusedVariables false
set_option maxRecDepth 100000

/-- The key's bytes and zeros, the first k of them masked. -/
def maskL (ks : List Int) (m : Int) (k : Nat) : List Int := (List.range 64).map fun j => if j < k then bits .xor .u8 (keyAt ks j) m else keyAt ks j
theorem maskL_len (ks : List Int) (m : Int) (k : Nat) : (maskL ks m k).length = 64 := by simp [maskL]
theorem maskL_getD (ks : List Int) (m : Int) (k : Nat) (h : k < 64) : (maskL ks m k).getD k 0 = keyAt ks k := by simp [maskL, List.getD_eq_getElem?_getD, h]
theorem maskL_step (ks : List Int) (m : Int) (k : Nat) (h : k < 64) : (maskL ks m k).set k (bits .xor .u8 (keyAt ks k) m) = maskL ks m (k + 1) := by
  refine List.ext_getElem (by simp [maskL]) fun j h1 h2 => ?_
  simp only [maskL, List.getElem_set, List.getElem_map, List.getElem_range]
  by_cases e : k = j
  · subst e; simp
  · rw [if_neg e]
    by_cases h3 : j < k
    · rw [if_pos h3, if_pos (by omega)]
    · rw [if_neg h3, if_neg (by omega)]
theorem maskL_start (ks : List Int) (m : Int) (h : ks.length ≤ 64) : splice (List.replicate 64 0) 0 ks = maskL ks m 0 := by
  rw [splice_at ks 64 h]
  refine List.ext_getElem (by simp [maskL, h]) fun j h1 h2 => ?_
  simp only [maskL, List.getElem_map, List.getElem_range, keyAt, Nat.not_lt_zero, if_false]
  by_cases h3 : j < ks.length
  · rw [List.getElem_append_left h3, if_pos h3, List.getD_eq_getElem?_getD, List.getElem?_eq_getElem h3]; rfl
  · rw [List.getElem_append_right (by omega), if_neg h3, List.getElem_replicate]
theorem keyAt_byte (ks : List Int) (hb : ∀ x ∈ ks, 0 ≤ x ∧ x ≤ 255) (j : Nat) : 0 ≤ keyAt ks j ∧ keyAt ks j ≤ 255 := by
  unfold keyAt; split
  · exact hb _ (getD_mem ks j (by assumption))
  · omega
theorem maskL_all (ks : List Int) (m : Int) : maskL ks m 64 = (List.range 64).map fun j => bits .xor .u8 (keyAt ks j) m := by
  unfold maskL
  exact List.map_congr_left fun j hj => by rw [if_pos (List.mem_range.1 hj)]
theorem maskL_byte (ks : List Int) (m : Int) : ∀ x ∈ maskL ks m 64, 0 ≤ x ∧ x ≤ 255 := by
  intro x hx
  rw [maskL_all] at hx
  simp only [List.mem_map] at hx
  obtain ⟨j, _, rfl⟩ := hx
  exact bits_u8 _ _ _

set_option maxHeartbeats 2000000 in
theorem maskKey_any (A : Option Addr) (nk ck hi : Nat) (ks : List Int) (m : Int) (w : World) (h : Rd w 0 hi A nk ks) (hn : nk ≤ 64) (hm : 0 ≤ m ∧ m ≤ 255) :
    Calls Tryd.prog 74 #[.slice A nk ck, .int .u8 m] w (Made w (maskL ks m 64)) := by
  have hlen := h.len
  have hmk : ∀ w : World, (Instr.makeSlice 22 (.int .i64 64) (.int .i64 64)).run Tryd.prog w = .ok (.slice (some ⟨w.heap.size, 0, none⟩) 64 64) (w.alloc (.cells (madeCells #[.int .u8 0] 64) 5)) := run_make_u8 64 (by omega)
  have h1 := h.keep ((Keep.refl 0 0 w).alloc (.cells (madeCells #[.int .u8 0] 64) 5)) (by omega)
  obtain ⟨Z, hZ⟩ : ∃ Z, Z = List.replicate 64 (0 : Int) := ⟨_, rfl⟩
  have r1 := RowL.made w 64 5
  rw [← hZ] at r1
  have hZl : Z.length = 64 := by rw [hZ, List.length_replicate]
  have HZ := Lib.hid hZ
  clear hZ
  have b1 : Below w.heap.size w (w.alloc (.cells (madeCells #[.int .u8 0] 64) 5)) := (Below.refl _ _).alloc (Nat.le_refl _) _
  go_enter Tryd.func74, Tryd.ntmps74
  go_wp2_with (refine wpList_copy_rd rfl (.tmp 8) (.tmp 9) 22 22 rfl 5 Tryd.underlying22 size_u8 w.heap.size 0 64 64 nk ck 0 hi A rfl rfl Z ks r1 h1 (by omega) (by omega) ?_)
  intro w2 r2 k2
  rw [HZ.out, maskL_start ks m (by omega)] at r2
  have b2 := b1.trans (k2.below (by omega) b1.size)
  clear h1 r1 b1 k2 hmk
  go_wp2_with fail
  go_loopw [6, 13] (fun _ i wr => ∃ k : Nat, k ≤ 64 ∧ i = .int .i64 (k : Int) ∧ RowL wr w.heap.size (maskL ks m k) ∧ Below w.heap.size w wr) (fun _ i _ => 64 - (intOf i).toNat)
  case atStart => exact ⟨0, Nat.zero_le _, rfl, r2, b2⟩
  case round =>
    obtain ⟨k, hk, rfl, r, b⟩ := hrel
    by_cases hlt : k < 64
    · have c1 := r.cell (j := k) (by rw [maskL_len]; exact hlt)
      rw [maskL_getD ks m k hlt] at c1
      have f1 := r.frozen k
      have r' := r.set_ k (bits .xor .u8 (keyAt ks k) m)
      rw [maskL_step ks m k hlt] at r'
      have b' := b.setCell (p := ⟨w.heap.size, k, none⟩) (Nat.le_refl _) (.int .u8 (bits .xor .u8 (keyAt ks k) m))
      have HR := Lib.hid r'
      have HB := Lib.hid b'
      have j1 : (k : Int) < 64 := by omega
      have j0 : (0 : Int) ≤ (k : Int) := by omega
      generalize keyAt ks k = kv at *
      clear r' b' r b r2 b2
      go_wp2_with fail
      go_roundw
      case rel => exact ⟨k + 1, by omega, by go_num, HR.out, HB.out⟩
      case measure => simp [intOf]; omega
    · have r64 : RowL wr w.heap.size (maskL ks m 64) := by
        have e : k = 64 := by omega
        rw [← e]; exact r
      have hl := r.lt
      have HF : Hid (Made w (maskL ks m 64) (.returned (.slice (some ⟨w.heap.size, 0, none⟩) 64 64)) wr) :=
        ⟨w.heap.size, 64, ret_slice (maskL_len _ _ _).symm, by rw [maskL_len]; omega, r64.wr rfl (by rw [maskL_len]; unfold maxLen; omega) (maskL_byte _ _) (Nat.le_refl _) hl (Nat.le_refl _), b⟩
      have jk : ¬ (k : Int) < 64 := by omega
      clear r r64 b r2 b2
      go_wp2_with fail
      go_ret
      exact HF.out

/-- slices.Grow of nothing: new room. -/
theorem grow_nil (n : Nat) (w : World) (h0 : 0 < n) (hb : n ≤ 140737488355328) :
    Calls Tryd.prog 61 #[.slice none 0 0, .int .i64 (n : Int)] w fun e w' => ∃ g c, e = .returned (.slice (some ⟨g, 0, none⟩) 0 c) ∧ w.heap.size ≤ g ∧ w'.ownsRow w.heap.size 5 1 (.slice (some ⟨g, 0, none⟩) 0 c) 0 [] ∧ Below w.heap.size w w' := by
  obtain ⟨i0, hi0, hz0, hz1, hz2⟩ := info_parts info_u8
  have hrz : ∀ ty, (Builtin.append_ #[22, 3] ty #[.slice none 0 0, .int .i64 (n : Int)]).run Tryd.prog w =
      .ok (.slice (some ⟨w.heap.size, 0, none⟩) n (grownCap w n 0 5)) (w.drew.alloc (.cells (([] : List Value).toArray ++ Builtin.zeroCells #[.int .u8 0] n ++ Builtin.zeroCells #[.int .u8 0] (grownCap w n 0 5 - n)) 5)) := fun ty => by
    have h := Lib.run_append_grow_zeros w 22 3 ty 5 i0 (.int .u8 0) .i64 .i64 Tryd.underlying22 Tryd.underlying3 hi0 hz0 none 0 0 [] (by simp [Builtin.firstCells]) n h0 (by omega) (by omega) (by omega)
      (by rw [hz2]; omega) (by rw [hz2]; exact growslice_fits (by omega) (by omega))
    simpa [Value.cells] using h
  have hGn : n ≤ grownCap w n 0 5 := grownCap_ge w _ _ _
  have hGm : grownCap w n 0 5 ≤ maxLen := grownCap_le_maxLen w n 0 5 (by unfold maxLen; omega)
  generalize grownCap w n 0 5 = G at *
  have hG63 : G ≤ 9223372036854775807 := by unfold maxLen at hGm; omega
  have h1 : ¬ ((n : Int) < 0) := by omega
  have h2 : (0 : Int) < (n : Int) := by omega
  go_enter Tryd.func61, Tryd.ntmps61
  go_wp2_with (at_builtin; refine Lib.wpList_append_run _ rfl _ _ _ _ rfl _ _ rfl rfl _ _ (hrz _) ?_)
  have hown : ((w.alloc (.cells (Builtin.zeroCells #[.int .u8 0] n ++ Builtin.zeroCells #[.int .u8 0] (G - n)) 5)).drew).ownsRow w.heap.size 5 1 (.slice (some ⟨w.heap.size, 0, none⟩) 0 G) 0 [] :=
    World.ownsRow_made w _ G (Nat.le_refl _) hGm (by simp [Builtin.zeroCells]; omega)
  have hbl : Below w.heap.size w ((w.alloc (.cells (Builtin.zeroCells #[.int .u8 0] n ++ Builtin.zeroCells #[.int .u8 0] (G - n)) 5)).drew) := by
    have := (Below.refl w.heap.size w).alloc (Nat.le_refl _) (.cells (Builtin.zeroCells #[.int .u8 0] n ++ Builtin.zeroCells #[.int .u8 0] (G - n)) 5)
    exact ⟨this.os, this.tape, this.output, this.size, this.block⟩
  go_ret
  exact ⟨_, _, rfl, Nat.le_refl _, hown, hbl⟩

/-- Two parts of bytes in a row of slices. -/
structure Two (w : World) (sb hi : Nat) (A D : Option Addr) (n c m d : Nat) (xs ys : List Int) : Prop where
  lt : sb < w.heap.size
  c0 : w.cell? ⟨sb, 0, none⟩ = some (.slice A n c)
  c1 : w.cell? ⟨sb, 1, none⟩ = some (.slice D m d)
  r0 : Rd w 0 hi A n xs
  r1 : Rd w 0 hi D m ys
theorem Two.keep {w w' : World} {sb hi lo' hi' : Nat} {A D : Option Addr} {n c m d : Nat} {xs ys : List Int} (h : Two w sb hi A D n c m d xs ys) (k : Keep lo' hi' w w') (ho : (sb < lo' ∨ hi' ≤ sb) ∧ (hi ≤ lo' ∨ hi' ≤ lo')) : Two w' sb hi A D n c m d xs ys :=
  ⟨Nat.lt_of_lt_of_le h.lt k.size, (k.cell (p := ⟨sb, 0, none⟩) h.lt ho.1).trans h.c0, (k.cell (p := ⟨sb, 1, none⟩) h.lt ho.1).trans h.c1, h.r0.keep k (by omega), h.r1.keep k (by omega)⟩

set_option maxHeartbeats 2000000 in
theorem concat_any (sb c2 hi : Nat) (A D : Option Addr) (n c m d : Nat) (xs ys : List Int) (w : World) (h : Two w sb hi A D n c m d xs ys) (hA : A = none → c = 0) (hD : D = none → d = 0) (hn : 0 < n) (hnm : n + m ≤ 4194304) :
    Calls Tryd.prog 41 #[.slice (some ⟨sb, 0, none⟩) 2 c2] w (Made w (xs ++ ys)) := by
  obtain ⟨i0, hi0, hz0, hz1, hz2⟩ := info_parts info_u8
  have hc0 := h.c0
  have hc1 := h.c1
  have hsb := h.lt
  have htop := h.r0.top
  go_enter Tryd.func41, Tryd.ntmps41
  go_wp2_with fail
  go_loop [3, 5, 11] (fun s _ i => (i = .int .i64 0 ∧ s = .int .i64 0) ∨ (i = .int .i64 1 ∧ s = .int .i64 (n : Int)) ∨ (i = .int .i64 2 ∧ s = .int .i64 ((n : Int) + (m : Int)))) (fun _ _ i => 2 - (intOf i).toNat)
  case atStart => exact .inl ⟨rfl, rfl⟩
  case round =>
    rcases hrel with ⟨rfl, rfl⟩ | ⟨rfl, rfl⟩ | ⟨rfl, rfl⟩
    · have j1 : ¬ (n : Int) < 0 := by omega
      go_wp2_with fail
      go_round
      case rel => exact .inr (.inl ⟨rfl, by go_num⟩)
      case measure => simp [intOf]
    · have j1 : ¬ (n : Int) + (m : Int) < 0 := by omega
      go_wp2_with fail
      go_round
      case rel => exact .inr (.inr ⟨rfl, rfl⟩)
      case measure => simp [intOf]
    · obtain ⟨L, hL⟩ : ∃ L : Nat, L = n + m := ⟨_, rfl⟩
      have hLi : (n : Int) + (m : Int) = (L : Int) := by omega
      rw [hLi]
      have HL := Lib.hid hL
      have hL0 : 0 < L := by omega
      have hLb : L ≤ 4194304 := by omega
      clear hL hLi
      go_wp2_with fail
      refine (grow_nil L w hL0 (by omega)).mono ?_
      rintro e w1 ⟨g1, cap1, rfl, hg1, own1, b1⟩
      have h1 := h.keep (Keep.of_below b1 0 0) (by omega)
      have z1 := b1.size
      clear h hc0 hc1
      go_wp2_with fail
      go_loopw [6, 8, 27] (fun out _ i wx => ∃ g cap' : Nat, ((i = .int .i64 0 ∧ out = .slice (some ⟨g, 0, none⟩) 0 cap' ∧ wx.ownsRow w.heap.size 5 1 (.slice (some ⟨g, 0, none⟩) 0 cap') 0 []) ∨
          (i = .int .i64 1 ∧ out = .slice (some ⟨g, 0, none⟩) n cap' ∧ wx.ownsRow w.heap.size 5 1 (.slice (some ⟨g, 0, none⟩) n cap') n (xs.map (Value.int .u8))) ∨
          (i = .int .i64 2 ∧ out = .slice (some ⟨g, 0, none⟩) (n + m) cap' ∧ wx.ownsRow w.heap.size 5 1 (.slice (some ⟨g, 0, none⟩) (n + m) cap') (n + m) ((xs ++ ys).map (Value.int .u8)))) ∧
          Two wx sb hi A D n c m d xs ys ∧ Below w.heap.size w wx) (fun _ _ i _ => 2 - (intOf i).toNat)
      case atStart => exact ⟨g1, cap1, .inl ⟨rfl, rfl, own1⟩, h1, b1⟩
      case round =>
        obtain ⟨g, cap', hcase, hT, bo⟩ := hrel
        rcases hcase with ⟨rfl, rfl, own⟩ | ⟨rfl, rfl, own⟩ | ⟨rfl, rfl, own⟩
        · have hr := hT.r0
          have hcc := hT.c0
          have hcl := hT.lt
          have hb1 := bo.size
          go_wp2_with (at_builtin; refine wpList_append_rd rfl _ _ 22 rfl w.heap.size 5 i0 (.int .u8 0) Tryd.underlying22 hi0 hz0 hz1 hz2 rfl g 0 cap' _ rfl own A n c _ _ xs rfl hr hA ?k1 ?k2 hb1 ?_)
          case k1 => unfold maxLen; omega
          case k2 => omega
          intro g6 cap6 w6 own6 grow6 hat6
          have hgl := (own.lt g rfl).1
          have kg := Keep.of_append grow6
          have hT6 := hT.keep kg ⟨by omega, by omega⟩
          have b6 : Below w.heap.size w w6 := bo.grown grow6 hb1 (fun q hq => by simp at hq; omega)
          have own6' : w6.ownsRow w.heap.size 5 1 (.slice (some ⟨g6, 0, none⟩) (n) cap6) (n) ((xs).map (Value.int .u8)) := by
            simpa using own6
          have HO := Lib.hid own6'
          have HB6 := Lib.hid b6
          have HT6 := Lib.hid hT6
          clear own6 own6' b6 grow6 hat6 own bo hT hT6 hr hcc h1 b1
          go_wp2_with fail
          go_roundw
          case rel => exact ⟨g6, cap6, .inr (.inl ⟨rfl, rfl, HO.out⟩), HT6.out, HB6.out⟩
          case measure => simp [intOf]
        · have hr := hT.r1
          have hcc := hT.c1
          have hcl := hT.lt
          have hb1 := bo.size
          go_wp2_with (at_builtin; refine wpList_append_rd rfl _ _ 22 rfl w.heap.size 5 i0 (.int .u8 0) Tryd.underlying22 hi0 hz0 hz1 hz2 rfl g n cap' _ rfl own D m d _ _ ys rfl hr hD ?k1 ?k2 hb1 ?_)
          case k1 => unfold maxLen; omega
          case k2 => omega
          intro g6 cap6 w6 own6 grow6 hat6
          have hgl := (own.lt g rfl).1
          have kg := Keep.of_append grow6
          have hT6 := hT.keep kg ⟨by omega, by omega⟩
          have b6 : Below w.heap.size w w6 := bo.grown grow6 hb1 (fun q hq => by simp at hq; omega)
          have own6' : w6.ownsRow w.heap.size 5 1 (.slice (some ⟨g6, 0, none⟩) (n + m) cap6) (n + m) ((xs ++ ys).map (Value.int .u8)) := by
            simpa using own6
          have HO := Lib.hid own6'
          have HB6 := Lib.hid b6
          have HT6 := Lib.hid hT6
          clear own6 own6' b6 grow6 hat6 own bo hT hT6 hr hcc h1 b1
          go_wp2_with fail
          go_roundw
          case rel => exact ⟨g6, cap6, .inr (.inr ⟨rfl, rfl, HO.out⟩), HT6.out, HB6.out⟩
          case measure => simp [intOf]
        · have hl0 := hT.r0.len
          have hl1 := hT.r1.len
          have hlc : (xs ++ ys).length = n + m := by rw [List.length_append]; omega
          have hby : ∀ x ∈ xs ++ ys, 0 ≤ x ∧ x ≤ 255 := by
            intro x hx
            rcases List.mem_append.1 hx with hx | hx
            · exact hT.r0.byte x hx
            · exact hT.r1.byte x hx
          have HF : Hid (Made w (xs ++ ys) (.returned (.slice (some ⟨g, 0, none⟩) (n + m) cap')) wr) :=
            ⟨g, cap', ret_slice hlc.symm, by rw [hlc]; exact own_cap own, by rw [hlc]; exact Wr.of_own own (by unfold maxLen; omega) hby, bo⟩
          clear own bo hT h1 b1
          go_wp2_with fail
          go_ret
          exact HF.out

theorem Two.new (w : World) (t : TypeId) {hi hi' : Nat} {A D : Option Addr} {n m : Nat} (c d : Nat) {xs ys : List Int} (r0 : Rd w 0 hi A n xs) (r1 : Rd w 0 hi' D m ys) :
    Two (w.alloc (.cells #[.slice A n c, .slice D m d] t)) w.heap.size w.heap.size A D n c m d xs ys := by
  have k := (Keep.refl 0 0 w).alloc (.cells #[.slice A n c, .slice D m d] t)
  obtain ⟨b1, b2, b3⟩ := Box2.new w (.slice A n c) (.slice D m d) t
  exact ⟨b1, b2, b3, (r0.wide (Nat.le_refl _) r0.top (Nat.le_refl _)).keep k (by omega), (r1.wide (Nat.le_refl _) r1.top (Nat.le_refl _)).keep k (by omega)⟩

/-- New memory with these bytes, so many. -/
theorem Made.at_ {w : World} {ps : List Int} {n : Nat} {e : Ending} {w' : World} (h : Made w ps e w') (hl : ps.length = n) : ∃ g c, e = .returned (.slice (some ⟨g, 0, none⟩) n c) ∧ n ≤ c ∧ Wr w' w.heap.size w'.heap.size (some ⟨g, 0, none⟩) n ps ∧ Below w.heap.size w w' := by
  subst hl
  exact h

set_option maxHeartbeats 2000000 in
theorem macBytes_any (A D : Option Addr) (nk ck n c hk hi : Nat) (ks ds : List Int) (w : World) (hkey : Rd w 0 hk A nk ks) (h : Rd w 0 hi D n ds) (hnk : nk ≤ 64) (hn : n ≤ 1048600) (hD : D = none → c = 0) (hkt : Kt w) :
    Calls Tryd.prog 64 #[.slice A nk ck, .slice D n c] w (Made w (macL ks ds)) := by
  have hg := hkt.1
  have hdl := h.len
  have li := innerL_len ks
  have lo := outerL_len ks
  have e1 : maskL ks 54 64 = innerL ks := maskL_all ks 54
  have e2 : maskL ks 92 64 = outerL ks := maskL_all ks 92
  have m1 := fun w' (hk' : Rd w' 0 hk A nk ks) => maskKey_any A nk ck hk ks 54 w' hk' hnk (by omega)
  have m2 := fun w' (hk' : Rd w' 0 hk A nk ks) => maskKey_any A nk ck hk ks 92 w' hk' hnk (by omega)
  rw [e1] at m1
  rw [e2] at m2
  have HM : Hid (macL ks ds = hashL (outerL ks ++ hashL (innerL ks ++ ds))) := rfl
  generalize macL ks ds = Z at *
  generalize innerL ks = il at *
  generalize outerL ks = ol at *
  have lh := hashL_len (il ++ ds)
  have M1 := Lib.hid m1
  have M2 := Lib.hid m2
  clear m1 m2 e1 e2
  have HCL : Hid ((il ++ ds).length = 64 + n) := by show _ = _; rw [List.length_append]; omega
  go_enter Tryd.func64, Tryd.ntmps64
  go_wp2_with fail
  refine (M1.out w hkey).mono ?_
  intro e w1 hm1
  obtain ⟨g1, c1, rfl, hc1, wr1, b1⟩ := hm1.at_ li
  have z1 := b1.size
  have d1 := h.keep (Keep.of_below b1 0 0) (by omega)
  have key1 := hkey.keep (Keep.of_below b1 0 0) (by omega)
  have kt1 := hkt.below b1 hg
  clear hm1 h hkey hkt
  go_wp2_with fail
  have T1 := Two.new w1 22 c1 c wr1.1.rd0 d1
  have bA := (Below.refl w1.heap.size w1).alloc (Nat.le_refl _) (.cells #[.slice (some ⟨g1, 0, none⟩) 64 c1, .slice D n c] 22)
  refine (concat_any w1.heap.size 2 w1.heap.size _ D 64 c1 n c il ds _ T1 (fun h => by cases h) hD (by omega) (by omega)).mono ?_
  intro e w2 hm2
  obtain ⟨g2, c2, rfl, hc2, wr2, b2⟩ := hm2.at_ HCL.out
  have b12 := bA.trans (b2.mono (by simp))
  have z2 := b12.size
  have key2 := key1.keep (Keep.of_below b12 0 0) (by omega)
  have kt2 := kt1.below b12 kt1.1
  have bb2 := b1.trans (b12.mono z1)
  have r2 := wr2.1.rd0
  clear hm2 T1 bA wr1 d1 key1 kt1 b1 b12 b2 wr2
  go_wp2_with fail
  refine (hashBytes_any (some ⟨g2, 0, none⟩) (64 + n) c2 _ (il ++ ds) w2 r2 (by omega) kt2).mono ?_
  intro e w3 hm3
  obtain ⟨g3, c3, rfl, hc3, wr3, b3⟩ := hm3.at_ lh
  have z3 := b3.size
  have key3 := key2.keep (Keep.of_below b3 0 0) (by omega)
  have kt3 := kt2.below b3 kt2.1
  have bb3 := bb2.trans (b3.mono bb2.size)
  generalize hashL (il ++ ds) = hs at *
  clear hm3 r2 key2 kt2 bb2 b3
  go_wp2_with fail
  refine (M2.out w3 key3).mono ?_
  intro e w4 hm4
  obtain ⟨g4, c4, rfl, hc4, wr4, b4⟩ := hm4.at_ lo
  have z4 := b4.size
  have r3 := (wr3.1.keep (Keep.of_below b4 0 0) (by omega)).rd0
  have kt4 := kt3.below b4 kt3.1
  have bb4 := bb3.trans (b4.mono bb3.size)
  clear hm4 key3 wr3 kt3 bb3 b4
  go_wp2_with fail
  have T4 := Two.new w4 22 c4 c3 wr4.1.rd0 r3
  have bA := (Below.refl w4.heap.size w4).alloc (Nat.le_refl _) (.cells #[.slice (some ⟨g4, 0, none⟩) 64 c4, .slice (some ⟨g3, 0, none⟩) 32 c3] 22)
  refine (concat_any w4.heap.size 2 w4.heap.size _ _ 64 c4 32 c3 ol hs _ T4 (fun h => by cases h) (fun h => by cases h) (by omega) (by omega)).mono ?_
  intro e w5 hm5
  obtain ⟨g5, c5, rfl, hc5, wr5, b5⟩ := hm5.at_ (n := 96) (by rw [List.length_append]; omega)
  have b45 := bA.trans (b5.mono (by simp))
  have kt5 := kt4.below b45 kt4.1
  have bb5 := bb4.trans (b45.mono bb4.size)
  have r5 := wr5.1.rd0
  clear hm5 T4 bA wr4 r3 kt4 bb4 b45 b5 wr5
  go_wp2_with fail
  refine (hashBytes_any (some ⟨g5, 0, none⟩) 96 c5 _ (ol ++ hs) w5 r5 (by omega) kt5).mono ?_
  rintro e w6 ⟨g6, c6, rfl, hc6, wr6, b6⟩
  have HF : Hid (Made w Z (.returned (.slice (some ⟨g6, 0, none⟩) (hashL (ol ++ hs)).length c6)) w6) := by
    show Made _ _ _ _
    rw [HM.out]
    exact ⟨g6, c6, rfl, hc6, wr6.wide bb5.size (Nat.le_refl _) (Nat.le_refl _), bb5.trans (b6.mono bb5.size)⟩
  clear wr6 b6 bb5 r5 kt5 hc6
  go_wp2_with fail
  go_ret
  exact HF.out
end Go.Proofs.YtpnpjngaenlciaaDoor
