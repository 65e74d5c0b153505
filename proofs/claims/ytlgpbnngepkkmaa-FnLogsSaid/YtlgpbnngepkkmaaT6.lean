/-
  The model's l5Atoms.
-/
import Derived.Test.YtlgpbnngepkkmaaT3
import Derived.Test.YtlgpbnngepkkmaaT4
import Derived.Deep.AppendLies
import Derived.Deep.RegionLaw
namespace Go.Proofs.Ytlgpbnngepkkmaa
open Go.RowKit
set_option linter.unusedVariables false
set_option maxRecDepth 100000

/-- The slice value is a row of atoms of the call's own (from block base on). -/
def OwnA (w : World) (base : Nat) (A : Option Addr) (n c : Nat) (fs : List Int) : Prop :=
  w.ownsRow base 94 3 (.slice A n c) n (fs.map (Value.int .i64)) ∧ n * 3 ≤ maxLen ∧ ∀ x ∈ fs, -9223372036854775808 ≤ x ∧ x ≤ 9223372036854775807
theorem OwnA.len {w : World} {base n c : Nat} {A : Option Addr} {fs : List Int} (h : OwnA w base A n c fs) : fs.length = n * 3 := by simpa using h.1.1
theorem OwnA.wi {w : World} {base n c : Nat} {A : Option Addr} {fs : List Int} (h : OwnA w base A n c fs) : Wi w base w.heap.size A (n * 3) fs := by
  have hl := h.len
  obtain ⟨h, hm, hb⟩ := h
  rcases h.2 with ⟨hv, rfl⟩ | ⟨g, cap, cur, hv, hg, hh, hnc, _, hcs, ht⟩
  · exact ⟨⟨hl, hm, Nat.le_refl _, hb, fun h => by omega⟩, fun _ _ _ j hj => by omega⟩
  · injection hv with hA _ _
    subst hA
    have hlt : g < w.heap.size := by
      rcases Nat.lt_or_ge g w.heap.size with hlt | hge
      · exact hlt
      · rw [Array.getElem?_eq_none hge] at hh; cases hh
    refine ⟨⟨hl, hm, Nat.le_refl _, hb, fun _ => ⟨g, 0, rfl, hg, hlt, fun j hj => ?_⟩⟩, fun b off e j hj => ?_⟩
    · have h1 : (fs.map (Value.int .i64))[j]? = some (.int .i64 (fs.getD j 0)) := by
        rw [List.getElem?_map, List.getD_eq_getElem?_getD, List.getElem?_eq_getElem (by omega : j < fs.length)]; rfl
      rw [← ht, List.getElem?_take_of_lt hj, Array.getElem?_toList] at h1
      simp only [World.cell?, hh, Nat.zero_add]
      exact h1
    · injection e with e
      injection e with e1 e2
      subst e1 e2
      simp [World.frozen?, hh]
theorem OwnA.keep {w w' : World} {base n c lo hi : Nat} {A : Option Addr} {fs : List Int} (h : OwnA w base A n c fs) (k : Keep lo hi w w') (ho : hi ≤ base ∨ hi ≤ lo) : OwnA w' base A n c fs := by
  refine ⟨⟨h.1.1, ?_⟩, h.2.1, h.2.2⟩
  rcases h.1.2 with h0 | ⟨g, cap, cur, e1, hb, hg, r⟩
  · exact .inl h0
  · have hlt := (Array.getElem?_eq_some_iff.1 hg).1
    exact .inr ⟨g, cap, cur, e1, hb, (k.block g hlt (by omega)).trans hg, r⟩
theorem OwnA.push {w w' : World} {base n c g cap : Nat} {A : Option Addr} {fs : List Int} {x y z : Int} (h : OwnA w base A n c fs) (ho : w'.ownsRow base 94 3 (.slice (some ⟨g, 0, none⟩) (n + 1) cap) (n + 1) (fs.map (Value.int .i64) ++ [.int .i64 x, .int .i64 y, .int .i64 z]))
    (hn : (n + 1) * 3 ≤ maxLen) (hr : ∀ u ∈ [x, y, z], -9223372036854775808 ≤ u ∧ u ≤ 9223372036854775807) : OwnA w' base (some ⟨g, 0, none⟩) (n + 1) cap (fs ++ [x, y, z]) := by
  refine ⟨?_, hn, fun u hu => ?_⟩
  · rw [List.map_append]
    exact ho
  · rcases List.mem_append.1 hu with hu | hu
    · exact h.2.2 u hu
    · exact hr u hu

/-- The atoms of an item, of items: three numbers each. -/
def bytesA (bs : List Int) : List Int := bs.flatMap fun b => [1, b, 0]
def sizeA (x : Itm) : List Int := if x.1 = 2 then [2, x.2.2.1, x.2.2.2] else []
def atomA (x : Itm) : List Int := sizeA x ++ bytesA x.2.1
def atomsL (xs : List Itm) : List Int := xs.flatMap atomA
theorem bytesA_len (bs : List Int) : (bytesA bs).length = bs.length * 3 := by
  induction bs with
  | nil => rfl
  | cons b bs ih => simp [bytesA] at ih ⊢; omega
theorem sizeA_len (x : Itm) : (sizeA x).length ≤ 3 := by unfold sizeA; split <;> simp
theorem atomsL_len (xs : List Itm) : (atomsL xs).length ≤ (xs.length + sumLen xs) * 3 := by
  induction xs with
  | nil => simp [atomsL]
  | cons x xs ih =>
    have e : atomsL (x :: xs) = sizeA x ++ bytesA x.2.1 ++ atomsL xs := by simp [atomsL, atomA]
    have e2 : sumLen (x :: xs) = x.2.1.length + sumLen xs := by simp [sumLen]
    have := sizeA_len x
    rw [e, e2]
    simp only [List.length_append, List.length_cons, bytesA_len]
    omega
theorem take_getD {xs : List Itm} {k : Nat} (hk : k < xs.length) : xs.take (k + 1) = xs.take k ++ [xs.getD k it0] := by
  rw [List.take_succ_eq_append_getElem hk, List.getD_eq_getElem?_getD, List.getElem?_eq_getElem hk]
  rfl
theorem atomsL_take {xs : List Itm} {k : Nat} (hk : k < xs.length) : atomsL (xs.take (k + 1)) = atomsL (xs.take k) ++ atomA (xs.getD k it0) := by
  rw [take_getD hk]
  simp [atomsL]
theorem bytesA_take {bs : List Int} {k : Nat} (hk : k < bs.length) : bytesA (bs.take (k + 1)) = bytesA (bs.take k) ++ [1, bs.getD k 0, 0] := by
  have : bs.take (k + 1) = bs.take k ++ [bs.getD k 0] := by
    rw [List.take_succ_eq_append_getElem hk, List.getD_eq_getElem?_getD, List.getElem?_eq_getElem hk]
    rfl
  rw [this]
  simp [bytesA]

set_option maxHeartbeats 4000000 in
theorem l5Atoms_any (A : Option Addr) (n c hi : Nat) (xs : List Itm) (w : World) (h : Rt w 0 hi A n xs) (hb : n + sumLen xs ≤ 1048576) (hr : ∀ x ∈ xs, (-9223372036854775808 ≤ x.2.2.1 ∧ x.2.2.1 ≤ 9223372036854775807) ∧ (-9223372036854775808 ≤ x.2.2.2 ∧ x.2.2.2 ≤ 9223372036854775807)) :
    Calls Try.prog 61 #[.slice A n c] w fun e w' => ∃ G m cap, e = .returned (.slice G m cap) ∧ OwnA w' w.heap.size G m cap (atomsL xs) ∧ Below w.heap.size w w' := by
  have hint := h.int
  have hl := h.len
  have htop := h.top
  obtain ⟨I0, hi0, hz0, hz1, hz2⟩ := info_parts info_atom
  go_enter Try.func61, Try.ntmps61
  go_wp2_with fail
  go_loopw [3, 9] (fun o i wr => ∃ (k : Nat) (G : Option Addr) (m cap : Nat), k ≤ n ∧ i = .int .i64 (k : Int) ∧ o = .slice G m cap ∧ OwnA wr w.heap.size G m cap (atomsL (xs.take k)) ∧ Below w.heap.size w wr) (fun _ i _ => n - (intOf i).toNat)
  case atStart => exact ⟨0, _, 0, _, Nat.zero_le _, rfl, rfl, ⟨World.ownsRow_lit w #[] 0 (Nat.le_refl _) (Nat.zero_le _) rfl, Nat.zero_le _, fun x hx => by simp [atomsL] at hx⟩, (Below.refl _ _).alloc (Nat.le_refl _) _⟩
  case round =>
    obtain ⟨k, G, m, cap, hk, rfl, rfl, hO, hB⟩ := hrel
    by_cases hlt : k < n
    · obtain ⟨b, off, rfl, h1, h2, hc⟩ := h.at_ (by omega)
      have hit := hc k hlt
      have hat := atomsL_take (xs := xs) (k := k) (by omega)
      have hst := sumLen_take xs k (by omega)
      have hsl := sumLen_take_le xs (k + 1)
      have hal := atomsL_len (xs.take k)
      have hxm : xs.getD k it0 ∈ xs := by
        rw [List.getD_eq_getElem?_getD, List.getElem?_eq_getElem (by omega : k < xs.length)]
        simp
      have hrx := hr _ hxm
      have hgen : ∀ wq, Below w.heap.size w wq → ItAt wq 0 hi b (off + k * 4) (xs.getD k it0) := fun wq hq => hit.keep (Keep.of_below hq 0 0) h2 (Nat.zero_le _) htop (by omega)
      generalize xs.getD k it0 = x at *
      obtain ⟨xk, xb, xp, xq⟩ := x
      simp only at hst hrx hgen
      have hlen : (atomsL (xs.take k)).length + 3 + xb.length * 3 ≤ 1048576 * 3 := by
        rw [List.length_take] at hal
        omega
      have hzz := hB.size
      have i0 : (0 : Int) ≤ (k : Int) := by omega
      have i1 : (k : Int) < (n : Int) := by omega
      have HG := Lib.hid hgen
      have HAT := Lib.hid hat
      have HRX := Lib.hid hrx
      obtain ⟨a0, ⟨GB, cg, a1, rg, _⟩, a2, a3⟩ := hgen wr hB
      simp only at a0 a1 a2 a3 rg
      have hxl := rg.int
      generalize hfz : atomsL (xs.take k) = fs at *
      have hol := hO.len
      clear hfz hst hsl hal hxm hc hit h hr hgen hat hrx rg
      by_cases hk2 : xk = 2
      · subst hk2
        have HS : Hid (atomA (2, xb, xp, xq) = [2, xp, xq] ++ bytesA xb) := rfl
        have own0 := hO.1
        have hml : m + 1 ≤ maxLen := by unfold maxLen; omega
        have hmb : (m + 1) * 24 ≤ 140737488355328 := by omega
        go_wp2_with fail
        go_region_law
          ((refine step_append_lies _ (by rfl) _ _ _ (by rfl) w.heap.size 94 I0 (.agg #[.int .i64 0, .int .i64 0, .int .i64 0]) 3 24 Try.underlying38 hi0 hz0 hz1 hz2 rfl (by decide) (.slice G m cap) m _ (by rfl) ((own0.alloc _).drew)
              ⟨wr.heap.size, 0, none⟩ 1 1 [.int .i64 2, .int .i64 xp, .int .i64 xq] (by rfl) (by rfl) (World.news_of_block (cs := #[.int .i64 2, .int .i64 xp, .int .i64 xq]) (t := 94) (fr := (0, 0)) (heap_alloc_new wr _)) (by simp [Value.oneCell'])
              (by omega) hml hmb (by simp; omega) (wr.heap.size + 1) (by simp) ?_; intro g cap1 W1 own1 hgrow hatg hgl))
        all_goals
          have hO1 := hO.push own1 (by unfold maxLen; omega) (fun u hu => by
            have := HRX.out
            simp at hu
            rcases hu with rfl | rfl | rfl <;> omega)
          have hB1 : Below w.heap.size w W1 := Below.of_grown ((hB.alloc hzz _).drew) hgrow (by simp; omega) (fun q e => (own0.lt q e).1)
          clear own0 own1 hgrow hatg hO hB hml hmb a0 a1 a2 a3
          obtain ⟨a0, ⟨GB', cg', a1, rg, _⟩, a2, a3⟩ := HG.out W1 hB1
          simp only at a0 a1 a2 a3 rg
          have hzz := hB1.size
          have hol1 := hO1.len
          generalize hf1 : fs ++ [2, xp, xq] = fs1 at *
          have HF1 : Hid (fs1 ++ bytesA xb = fs ++ atomA (2, xb, xp, xq)) := by
            show _ = _
            rw [HS.out, ← hf1, List.append_assoc]
          have hfl : fs1.length = fs.length + 3 := by rw [← hf1]; simp
          clear hf1
          go_wp2_with fail
          go_loopw [3, 38] (fun o i wq => ∃ (t : Nat) (G : Option Addr) (m cap : Nat), t ≤ xb.length ∧ i = .int .i64 (t : Int) ∧ o = .slice G m cap ∧ OwnA wq w.heap.size G m cap (fs1 ++ bytesA (xb.take t)) ∧ Below w.heap.size w wq) (fun _ i _ => xb.length - (intOf i).toNat)
          case atStart => exact ⟨0, _, _, _, Nat.zero_le _, rfl, rfl, by simpa [bytesA] using hO1, hB1⟩
          case round =>
            obtain ⟨t, G2, m2, cap2, ht, rfl, rfl, hO2, hB2⟩ := hrel
            have hz2' := hB2.size
            by_cases htl : t < xb.length
            · obtain ⟨a0, ⟨GC, cc, a1, rg2, _⟩, a2, a3⟩ := HG.out wr hB2
              simp only at a0 a1 a2 a3 rg2
              obtain ⟨cb, cof, rfl, d1, d2, dc⟩ := rg2.at_ (by omega)
              have hv := dc t htl
              have hvb := rg2.byteAt htl
              have hbt := bytesA_take (bs := xb) (k := t) htl
              have hol2 := hO2.len
              have hbl := bytesA_len (xb.take t)
              rw [List.length_take] at hbl
              have hsum : (fs1 ++ bytesA (xb.take t)).length = fs1.length + t * 3 := by
                rw [List.length_append]
                omega
              have j0 : (0 : Int) ≤ (t : Int) := by omega
              have j1 : (t : Int) < (xb.length : Int) := by omega
              have own2 := hO2.1
              have hml : m2 + 1 ≤ maxLen := by unfold maxLen; omega
              have hmb : (m2 + 1) * 24 ≤ 140737488355328 := by omega
              generalize xb.getD t 0 = v at *
              have hgt : fs1 ++ bytesA (xb.take (t + 1)) = (fs1 ++ bytesA (xb.take t)) ++ [1, v, 0] := by rw [hbt, List.append_assoc]
              generalize fs1 ++ bytesA (xb.take t) = gs at *
              have HGT := Lib.hid hgt
              have HP : Hid ((m2 + 1) * 3 ≤ maxLen) := by
                show _ ≤ _
                unfold maxLen
                omega
              clear dc rg2 hbt hgt hbl hsum hol2
              go_wp2_with (at_builtin; refine wpList_append_lies _ rfl (.tmp 41) (.tmp 52) 38 rfl w.heap.size 94 I0 (.agg #[.int .i64 0, .int .i64 0, .int .i64 0]) 3 24 Try.underlying38 hi0 hz0 hz1 hz2 rfl (by decide) _ _ _ rfl (own2.alloc _) ⟨wr.heap.size, 0, none⟩ 1 1 [.int .i64 1, .int .i64 v, .int .i64 0] rfl rfl (World.news_of_block (cs := #[.int .i64 1, .int .i64 v, .int .i64 0]) (t := 94) (fr := (0, 0)) (heap_alloc_new wr _)) (by simp [Value.oneCell']) (by omega) hml hmb ?c5 (wr.heap.size + 1) (by simp) ?_)
              case c5 => simp; omega
              intro g2 cap3 W2 own3 hgrow2 hat2 hgl2
              have hO3 := hO2.push own3 HP.out (fun u hu => by
                simp at hu
                rcases hu with rfl | rfl | rfl <;> omega)
              have hB3 : Below w.heap.size w W2 := Below.of_grown (hB2.alloc hz2' _) hgrow2 (by simp; omega) (fun q e => (own2.lt q e).1)
              have HO3 := Lib.hid hO3
              have HB3 := Lib.hid hB3
              clear own2 own3 hgrow2 hat2 hO2 hB2 hO3 hB3 a0 a1 a2 a3 hv
              go_wp2_with fail
              go_roundw
              case rel => exact ⟨t + 1, _, _, _, by omega, by go_num, rfl, by rw [HGT.out]; exact HO3.out, HB3.out⟩
              case measure => simp [intOf]; omega
            · have et : t = xb.length := by omega
              have hxt : xb.take t = xb := List.take_of_length_le (by omega)
              rw [hxt, HF1.out, ← HAT.out] at hO2
              have HO3 := Lib.hid hO2
              have HB3 := Lib.hid hB2
              clear hO2 hB2 hxt
              go_wp2_with fail
              go_roundw
              case rel => exact ⟨k + 1, _, _, _, by omega, by go_num, rfl, HO3.out, HB3.out⟩
              case measure => simp [intOf]; omega
      · have HS : Hid (atomA (xk, xb, xp, xq) = bytesA xb) := by
          show _ = _
          unfold atomA sizeA
          rw [if_neg hk2]
          rfl
        have hk2b : (xk == 2) = false := by simp [hk2]
        go_wp2_with fail
        obtain ⟨fs1, hfs1⟩ : ∃ f, f = fs := ⟨_, rfl⟩
        have HF1 : Hid (fs1 ++ bytesA xb = fs ++ atomA (xk, xb, xp, xq)) := by
          show _ = _
          rw [hfs1, HS.out]
        have hO1 := hO
        have hB1 := hB
        have hol1 := hol
        rw [← hfs1] at hO1 hol1
        have hfl : fs1.length ≤ fs.length + 3 := by rw [hfs1]; omega
        clear hfs1
        go_wp2_with fail
        go_loopw [3, 38] (fun o i wq => ∃ (t : Nat) (G : Option Addr) (m cap : Nat), t ≤ xb.length ∧ i = .int .i64 (t : Int) ∧ o = .slice G m cap ∧ OwnA wq w.heap.size G m cap (fs1 ++ bytesA (xb.take t)) ∧ Below w.heap.size w wq) (fun _ i _ => xb.length - (intOf i).toNat)
        case atStart => exact ⟨0, _, _, _, Nat.zero_le _, rfl, rfl, by simpa [bytesA] using hO1, hB1⟩
        case round =>
          obtain ⟨t, G2, m2, cap2, ht, rfl, rfl, hO2, hB2⟩ := hrel
          have hz2' := hB2.size
          by_cases htl : t < xb.length
          · obtain ⟨a0, ⟨GC, cc, a1, rg2, _⟩, a2, a3⟩ := HG.out wr hB2
            simp only at a0 a1 a2 a3 rg2
            obtain ⟨cb, cof, rfl, d1, d2, dc⟩ := rg2.at_ (by omega)
            have hv := dc t htl
            have hvb := rg2.byteAt htl
            have hbt := bytesA_take (bs := xb) (k := t) htl
            have hol2 := hO2.len
            have hbl := bytesA_len (xb.take t)
            rw [List.length_take] at hbl
            have hsum : (fs1 ++ bytesA (xb.take t)).length = fs1.length + t * 3 := by
              rw [List.length_append]
              omega
            have j0 : (0 : Int) ≤ (t : Int) := by omega
            have j1 : (t : Int) < (xb.length : Int) := by omega
            have own2 := hO2.1
            have hml : m2 + 1 ≤ maxLen := by unfold maxLen; omega
            have hmb : (m2 + 1) * 24 ≤ 140737488355328 := by omega
            generalize xb.getD t 0 = v at *
            have hgt : fs1 ++ bytesA (xb.take (t + 1)) = (fs1 ++ bytesA (xb.take t)) ++ [1, v, 0] := by rw [hbt, List.append_assoc]
            generalize fs1 ++ bytesA (xb.take t) = gs at *
            have HGT := Lib.hid hgt
            have HP : Hid ((m2 + 1) * 3 ≤ maxLen) := by
              show _ ≤ _
              unfold maxLen
              omega
            clear dc rg2 hbt hgt hbl hsum hol2
            go_wp2_with (at_builtin; refine wpList_append_lies _ rfl (.tmp 41) (.tmp 52) 38 rfl w.heap.size 94 I0 (.agg #[.int .i64 0, .int .i64 0, .int .i64 0]) 3 24 Try.underlying38 hi0 hz0 hz1 hz2 rfl (by decide) _ _ _ rfl (own2.alloc _) ⟨wr.heap.size, 0, none⟩ 1 1 [.int .i64 1, .int .i64 v, .int .i64 0] rfl rfl (World.news_of_block (cs := #[.int .i64 1, .int .i64 v, .int .i64 0]) (t := 94) (fr := (0, 0)) (heap_alloc_new wr _)) (by simp [Value.oneCell']) (by omega) hml hmb ?c5 (wr.heap.size + 1) (by simp) ?_)
            case c5 => simp; omega
            intro g2 cap3 W2 own3 hgrow2 hat2 hgl2
            have hO3 := hO2.push own3 HP.out (fun u hu => by
              simp at hu
              rcases hu with rfl | rfl | rfl <;> omega)
            have hB3 : Below w.heap.size w W2 := Below.of_grown (hB2.alloc hz2' _) hgrow2 (by simp; omega) (fun q e => (own2.lt q e).1)
            have HO3 := Lib.hid hO3
            have HB3 := Lib.hid hB3
            clear own2 own3 hgrow2 hat2 hO2 hB2 hO3 hB3 a0 a1 a2 a3 hv
            go_wp2_with fail
            go_roundw
            case rel => exact ⟨t + 1, _, _, _, by omega, by go_num, rfl, by rw [HGT.out]; exact HO3.out, HB3.out⟩
            case measure => simp [intOf]; omega
          · have et : t = xb.length := by omega
            have hxt : xb.take t = xb := List.take_of_length_le (by omega)
            rw [hxt, HF1.out, ← HAT.out] at hO2
            have HO3 := Lib.hid hO2
            have HB3 := Lib.hid hB2
            clear hO2 hB2 hxt
            go_wp2_with fail
            go_roundw
            case rel => exact ⟨k + 1, _, _, _, by omega, by go_num, rfl, HO3.out, HB3.out⟩
            case measure => simp [intOf]; omega
    · have ek : k = n := by omega
      have hxt : xs.take k = xs := List.take_of_length_le (by omega)
      rw [hxt] at hO
      go_wp2_with fail
      go_ret
      exact ⟨_, _, _, rfl, hO, hB⟩
end Go.Proofs.Ytlgpbnngepkkmaa
