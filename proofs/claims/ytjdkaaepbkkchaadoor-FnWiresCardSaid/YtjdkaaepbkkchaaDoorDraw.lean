/-
  l1Source, l1Pick, l1Chance, l1Some, l1Copy.
-/
import Derived.Test.YtjdkaaepbkkchaaDoorSrc
namespace Go.Proofs.YtjdkaaepbkkchaaDoor
open Go.RowKit
set_option linter.unusedVariables false
set_option maxRecDepth 100000

theorem own_keep {w w' : World} {base size n lo hi : Nat} {e : TypeId} {v : Value} {xs : List Value} (h : w.ownsRow base e size v n xs) (k : Keep lo hi w w') (ho : hi ≤ base) : w'.ownsRow base e size v n xs := by
  refine ⟨h.1, ?_⟩
  rcases h.2 with h2 | ⟨g, cap, cur, hv, hg, hh, r⟩
  · exact .inl h2
  · have hlt : g < w.heap.size := by
      rcases Nat.lt_or_ge g w.heap.size with hlt | hge
      · exact hlt
      · rw [Array.getElem?_eq_none hge] at hh; cases hh
    exact .inr ⟨g, cap, cur, hv, hg, (k.block g hlt (by omega)).trans hh, r⟩

/-- The cells of a new row of numbers. -/
theorem row_cells (w : World) (fs : List Int) (cs : Array Value) (t : TypeId) (h : cs = (fs.map (Value.int .i64)).toArray) : ∀ j, j < fs.length → (w.alloc (.cells cs t)).cell? ⟨w.heap.size, j, none⟩ = some (.int .i64 (fs.getD j 0)) := by
  intro j hj
  rw [World.cell?_alloc_at (w := w) cs t _ j rfl, h]
  simp [List.getD_eq_getElem?_getD, List.getElem?_eq_getElem hj]

set_option maxHeartbeats 400000 in
theorem source_any (A : Option Addr) (n c hi : Nat) (xs : List Int) (w : World) (h : Rd w 0 hi A n xs) :
    Calls Tryd.prog 36 #[.slice A n c] w fun e w' => ∃ s, e = .returned (.pointer (some ⟨s, 0, none⟩)) ∧ Src w' s 0 A n c hi xs ∧ w.heap.size ≤ s ∧ Below w.heap.size w w' := by
  have hk := (Keep.refl 0 0 w).alloc (.cells #[.slice A n c, .int .i64 0] 93)
  have hs : Src (w.alloc (.cells #[.slice A n c, .int .i64 0] 93)) w.heap.size 0 A n c hi xs :=
    ⟨by simp, h.top, by rw [World.cell?_alloc_at (w := w) _ _ _ 0 rfl]; rfl, by rw [World.cell?_alloc_at (w := w) _ _ _ 1 rfl]; rfl, World.frozen?_alloc_at (w := w) _ _ _ 1 rfl, h.keep hk (by omega)⟩
  have HS := Lib.hid hs
  clear hs hk h
  go_enter Tryd.func36, Tryd.ntmps36
  go_wp2_with fail
  go_ret
  exact ⟨_, rfl, HS.out, Nat.le_refl _, (Below.refl _ _).alloc (Nat.le_refl _) _⟩

/-- What a pick leaves: one of the numbers; the source one further on. -/
def Picked (w : World) (s k : Nat) (A : Option Addr) (nc cc hi : Nat) (xs : List Int) (fs : List Int) (e : Ending) (w' : World) : Prop :=
  ∃ r : Int, r ∈ fs ∧ e = .returned (.int .i64 r) ∧ Src w' s (k + 1) A nc cc hi xs ∧ Keep s (s + 1) w w'

set_option maxHeartbeats 400000 in
theorem pick_any (s k b c : Nat) (A : Option Addr) (nc cc hi : Nat) (xs : List Int) (fs : List Int) (n : Nat) (w : World) (h : Src w s k A nc cc hi xs) (hk : k ≤ 549755813888) (hn : fs.length = n) (h0 : 0 < n) (h1 : n ≤ 1000)
    (hb : b ≠ s) (hbt : b < w.heap.size) (hc : ∀ j, j < n → w.cell? ⟨b, j, none⟩ = some (.int .i64 (fs.getD j 0))) :
    Calls Tryd.prog 45 #[.pointer (some ⟨s, 0, none⟩), .slice (some ⟨b, 0, none⟩) n c] w (Picked w s k A nc cc hi xs fs) := by
  have HC := Lib.hid hc
  clear hc
  go_enter Tryd.func45, Tryd.ntmps45
  go_wp2_with fail
  refine (next_any s k A nc cc hi xs (n : Int) w h hk (by omega)).mono ?_
  rintro e w1 ⟨r, rfl, r0, r1, _, hs1, hk1⟩
  have r1' := r1 (by omega)
  obtain ⟨j, rfl⟩ := Int.eq_ofNat_of_zero_le r0
  have hj : j < n := by omega
  have q := (hk1.cell (p := ⟨b, j, none⟩) hbt (by show b < s ∨ s + 1 ≤ b; omega)).trans (HC.out j hj)
  have hm : fs.getD j 0 ∈ fs := getD_mem fs j (by omega)
  generalize fs.getD j 0 = v at q hm
  have HM := Lib.hid hm
  have HS := Lib.hid hs1
  have HK := Lib.hid hk1
  clear r1 hm hs1 hk1 h
  go_wp2_with fail
  go_ret
  exact ⟨_, HM.out, rfl, HS.out, HK.out⟩

/-- What a chance leaves. -/
def Chanced (w : World) (s k : Nat) (A : Option Addr) (nc cc hi : Nat) (xs : List Int) (e : Ending) (w' : World) : Prop :=
  ∃ r : Bool, e = .returned (.bool r) ∧ Src w' s (k + 1) A nc cc hi xs ∧ Keep s (s + 1) w w'

set_option maxHeartbeats 400000 in
theorem chance_any (s k : Nat) (A : Option Addr) (nc cc hi : Nat) (xs : List Int) (m : Int) (w : World) (h : Src w s k A nc cc hi xs) (hk : k ≤ 549755813888) (hm : -9223372036854775808 ≤ m ∧ m ≤ 9223372036854775807) :
    Calls Tryd.prog 90 #[.pointer (some ⟨s, 0, none⟩), .int .i64 m] w (Chanced w s k A nc cc hi xs) := by
  go_enter Tryd.func90, Tryd.ntmps90
  go_wp2_with fail
  refine (next_any s k A nc cc hi xs m w h hk hm).mono ?_
  rintro e w1 ⟨r, rfl, r0, r1, _, hs1, hk1⟩
  have HS := Lib.hid hs1
  have HK := Lib.hid hk1
  clear r1 hs1 hk1 h
  go_wp2_with fail
  go_ret
  exact ⟨_, rfl, HS.out, HK.out⟩

/-- What l1Some leaves: so many bytes of its own, the source so many further on. -/
def Somed (w : World) (s k : Nat) (A : Option Addr) (nc cc hi : Nat) (xs : List Int) (l : Nat) (e : Ending) (w' : World) : Prop :=
  ∃ (g cap : Nat) (zs : List Int), e = .returned (.slice (some ⟨g, 0, none⟩) l cap) ∧ Wr w' w.heap.size w'.heap.size (some ⟨g, 0, none⟩) l zs ∧ Src w' s (k + l) A nc cc hi xs ∧ Keep s (s + 1) w w'

theorem info_u8s : (Tryd.prog.info? 5).map (fun i => (i.zero, i.size, i.bytes)) = some (some (.int .u8 0), 1, 1) := by kernel_rfl

/-- The same, with the capacity. -/
def SomedC (w : World) (s k : Nat) (A : Option Addr) (nc cc hi : Nat) (xs : List Int) (l : Nat) (e : Ending) (w' : World) : Prop :=
  ∃ (g cap : Nat) (zs : List Int), e = .returned (.slice (some ⟨g, 0, none⟩) l cap) ∧ l ≤ cap ∧ Wr w' w.heap.size w'.heap.size (some ⟨g, 0, none⟩) l zs ∧ Src w' s (k + l) A nc cc hi xs ∧ Keep s (s + 1) w w'
theorem own_le {w : World} {base n c g : Nat} {e : TypeId} {vs : List Value} (h : w.ownsRow base e 1 (.slice (some ⟨g, 0, none⟩) n c) n vs) : n ≤ c := by
  rcases h.2 with ⟨hv, _⟩ | ⟨_, cap, _, hv, _, _, hnc, _⟩
  · cases hv
  · injection hv with _ _ e
    omega

set_option maxHeartbeats 1000000 in
theorem some_cap (s k : Nat) (A : Option Addr) (nc cc hi : Nat) (xs : List Int) (m : Int) (w : World) (h : Src w s k A nc cc hi xs) (hk : k ≤ 274877906944) (hm : -9223372036854775808 ≤ m ∧ m ≤ 16777216) :
    Calls Tryd.prog 39 #[.pointer (some ⟨s, 0, none⟩), .int .i64 m] w (SomedC w s k A nc cc hi xs m.toNat) := by
  obtain ⟨i0, hi0, hz0, hz1, hz2⟩ := info_parts info_u8s
  have hsb := h.1
  go_enter Tryd.func39, Tryd.ntmps39
  go_wp2_with fail
  go_loopw [1, 5] (fun i out wr => ∃ (t g cap : Nat) (zs : List Int), t ≤ m.toNat ∧ i = .int .i64 (m - (t : Int)) ∧ out = .slice (some ⟨g, 0, none⟩) t cap ∧ wr.ownsRow w.heap.size 5 1 (.slice (some ⟨g, 0, none⟩) t cap) t (zs.map (Value.int .u8)) ∧
      (∀ z ∈ zs, 0 ≤ z ∧ z ≤ 255) ∧ Src wr s (k + t) A nc cc hi xs ∧ Keep s (s + 1) w wr) (fun i _ _ => (intOf i).toNat)
  case atStart =>
    exact ⟨0, w.heap.size, 0, [], Nat.zero_le _, by simp, rfl, World.ownsRow_made w _ 0 (Nat.le_refl _) (Nat.zero_le _) rfl, by simp, h.keep ((Keep.refl 0 0 w).alloc _) (by omega) (by omega), (Keep.refl _ _ w).alloc _⟩
  case round =>
    obtain ⟨t, g, cap, zs, ht, rfl, rfl, hown, hzb, hs, hke⟩ := hrel
    by_cases hlt : 0 < m - (t : Int)
    · have hwz := hke.size
      go_wp2_with fail
      refine (next_any s (k + t) A nc cc hi xs 256 wr hs (by omega) (by omega)).mono ?_
      rintro e w1 ⟨r, rfl, r0, r1, _, hs1, hk1⟩
      have r1' := r1 (by omega)
      have hown1 := own_keep hown hk1 (by omega)
      have hwz1 := hk1.size
      have hke1 := hke.trans hk1
      have hml : t + 1 ≤ maxLen := by unfold maxLen; omega
      have hgl := hown1.lt g rfl
      clear r1 hown hk1 hke hs
      go_wp2_with (at_builtin; refine wpList_append_lies _ rfl _ _ 22 rfl w.heap.size 5 i0 (.int .u8 0) 1 1 Tryd.underlying22 hi0 hz0 hz1 hz2 rfl (by decide) _ _ _ rfl (hown1.alloc _) ⟨w1.heap.size, 0, none⟩ 1 1 [.int .u8 r] rfl rfl ?c1 ?c2 (by decide) ?c3 ?c4 ?c5 (w1.heap.size + 1) (by simp) ?_)
      case c1 => exact cell_one_new _ _ _
      case c2 => simp [Value.oneCell']
      case c3 => exact hml
      case c4 => omega
      case c5 => simp; omega
      intro gg cap1 w2 hown2 hgrow hat hglt
      have ho : w2.ownsRow w.heap.size 5 1 (.slice (some ⟨gg, 0, none⟩) (t + 1) cap1) (t + 1) ((zs ++ [r]).map (Value.int .u8)) := by rw [List.map_append]; exact hown2
      have hzb2 : ∀ z ∈ zs ++ [r], 0 ≤ z ∧ z ≤ 255 := by
        intro z hz
        rcases List.mem_append.1 hz with hz | hz
        · exact hzb z hz
        · rw [List.mem_singleton] at hz; subst hz; omega
      have hka := (Keep.refl 0 0 w1).alloc (.cells #[.int .u8 r] 5)
      have hkg : Keep g (g + 1) (w1.alloc (.cells #[.int .u8 r] 5)) w2 := ⟨hgrow.os, hgrow.tape, hgrow.output, hgrow.size, fun q hq ho => hgrow.block q hq (by simp [Value.ownBlock]; omega)⟩
      have hsr := (hs1.keep hka (by omega) (by omega)).keep hkg (by omega) (by have := hs1.2.1; omega)
      have hkr : Keep s (s + 1) w w2 := by
        have hsz : w1.heap.size ≤ (w1.alloc (.cells #[.int .u8 r] 5)).heap.size := hka.size
        exact ⟨hkg.os.trans (hka.os.trans hke1.os), hkg.tape.trans (hka.tape.trans hke1.tape), hkg.output.trans (hka.output.trans hke1.output), Nat.le_trans hke1.size (Nat.le_trans hka.size hkg.size),
          fun q hq ho => (hkg.block q (by omega) (by omega)).trans ((hka.block q (by omega) (by omega)).trans (hke1.block q hq ho))⟩
      have HO := Lib.hid ho
      have HZ := Lib.hid hzb2
      have HS := Lib.hid hsr
      have HK := Lib.hid hkr
      clear ho hzb2 hsr hkr hown2 hown1 hgrow hs1 hke1 hzb hka hkg hgl hglt hat
      go_wp2_with fail
      go_roundw
      case rel => exact ⟨t + 1, gg, cap1, zs ++ [r], by omega, by go_num, rfl, HO.out, HZ.out, HS.out, HK.out⟩
      case measure => simp [intOf]; omega
    · obtain rfl : t = m.toNat := by omega
      go_wp2_with fail
      go_ret
      exact ⟨g, cap, zs, rfl, own_le hown, Wr.of_own hown (by unfold maxLen; omega) hzb, hs, hke⟩
theorem some_any (s k : Nat) (A : Option Addr) (nc cc hi : Nat) (xs : List Int) (m : Int) (w : World) (h : Src w s k A nc cc hi xs) (hk : k ≤ 274877906944) (hm : -9223372036854775808 ≤ m ∧ m ≤ 16777216) :
    Calls Tryd.prog 39 #[.pointer (some ⟨s, 0, none⟩), .int .i64 m] w (Somed w s k A nc cc hi xs m.toNat) :=
  (some_cap s k A nc cc hi xs m w h hk hm).mono (fun _ _ ⟨g, cap, zs, he, _, hr⟩ => ⟨g, cap, zs, he, hr⟩)

/-- What l1Copy leaves. -/
def Copied (w : World) (n : Nat) (xs : List Int) (e : Ending) (w' : World) : Prop :=
  ∃ g cap, e = .returned (.slice (some ⟨g, 0, none⟩) n cap) ∧ w'.ownsRow w.heap.size 5 1 (.slice (some ⟨g, 0, none⟩) n cap) n (xs.map (Value.int .u8)) ∧ Wr w' w.heap.size w'.heap.size (some ⟨g, 0, none⟩) n xs ∧ Below w.heap.size w w'

set_option maxHeartbeats 400000 in
theorem copy_any (A : Option Addr) (n c lo hi : Nat) (xs : List Int) (w : World) (h : Rd w lo hi A n xs) (hn : n ≤ 16777216) (hA : A = none → c = 0) :
    Calls Tryd.prog 75 #[.slice A n c] w (Copied w n xs) := by
  obtain ⟨i0, hi0, hz0, hz1, hz2⟩ := info_parts info_u8s
  have hown0 : (w.alloc (.cells #[] 5)).ownsRow w.heap.size 5 1 (.slice (some ⟨w.heap.size, 0, none⟩) 0 0) 0 [] := World.ownsRow_made w _ 0 (Nat.le_refl _) (Nat.zero_le _) rfl
  by_cases h0 : n = 0
  · subst h0
    obtain rfl : xs = [] := List.eq_nil_of_length_eq_zero h.len
    have hw := Wr.of_own (xs := []) hown0 (Nat.zero_le _) (by simp)
    rcases A with _ | ad
    · obtain rfl : c = 0 := hA rfl
      go_enter Tryd.func75, Tryd.ntmps75
      go_wp2_with fail
      go_ret
      exact ⟨_, _, rfl, hown0, hw, (Below.refl _ _).alloc (Nat.le_refl _) _⟩
    · go_enter Tryd.func75, Tryd.ntmps75
      go_wp2_with fail
      go_ret
      exact ⟨_, _, rfl, hown0, hw, (Below.refl _ _).alloc (Nat.le_refl _) _⟩
  · obtain ⟨b, off, rfl, h1, h2, hc⟩ := h.at_ (by omega)
    have htop := h.top
    have hmax := h.max
    have hbyte := h.byte
    have hlen := h.len
    have hnews : ∀ j u, (xs.map (Value.int .u8))[j]? = some u → (w.alloc (.cells #[] 5)).cell? ((⟨b, off, none⟩ : Addr).add j) = some u := by
      intro j u hu
      have hj : j < n := by
        have := (List.getElem?_eq_some_iff.1 hu).1
        simpa [hlen] using this
      have hadd : (⟨b, off, none⟩ : Addr).add j = ⟨b, off + j, none⟩ := by unfold Addr.add; split <;> simp_all
      rw [hadd, World.cell?_alloc_past (w := w) _ _ _ (by omega), hc j hj, ← hu]
      simp [List.getD_eq_getElem?_getD, List.getElem?_eq_getElem (show j < xs.length by omega)]
    have hone : ∀ u ∈ xs.map (Value.int .u8), u.oneCell' = true := ints_oneCell _ _
    have hlen2 : (xs.map (Value.int .u8)).length = n * 1 := by simp [hlen]
    have hpos : 0 < n := by omega
    clear hc h
    go_enter Tryd.func75, Tryd.ntmps75
    go_wp2_with (at_builtin; refine wpList_append_lies _ rfl _ _ 22 rfl w.heap.size 5 i0 (.int .u8 0) 1 1 Tryd.underlying22 hi0 hz0 hz1 hz2 rfl (by decide) _ _ _ rfl hown0 ⟨b, off, none⟩ n c (xs.map (Value.int .u8)) rfl ?d1 ?d2 ?d3 hpos ?d4 ?d5 ?d6 (w.heap.size + 1) (by simp) ?_)
    case d1 => exact hlen2
    case d2 => exact hnews
    case d3 => exact hone
    case d4 => unfold maxLen; omega
    case d5 => omega
    case d6 => simp
    intro gg cap1 w2 hown2 hgrow hat hglt
    have hb : Below w.heap.size w w2 := ((Below.refl _ w).alloc (Nat.le_refl _) _).grown hgrow (by simp) (fun q hq => by simp [Value.ownBlock] at hq; omega)
    have hw := Wr.of_own hown2 hmax hbyte
    have HW := Lib.hid hw
    have HB := Lib.hid hb
    have HO := Lib.hid hown2
    clear hw hb hown2 hgrow hat hnews hone hlen2 hown0 hglt
    go_wp2_with fail
    go_ret
    exact ⟨gg, cap1, rfl, HO.out, HW.out, HB.out⟩
/-- Two numbers were drawn. -/
def TwoNums (w : World) (e : Ending) (w' : World) : Prop :=
  ∃ a b : Int, e = .returned (.tuple #[.int .i64 a, .int .i64 b]) ∧ (-9223372036854775808 ≤ a ∧ a ≤ 9223372036854775807) ∧ (-9223372036854775808 ≤ b ∧ b ≤ 9223372036854775807) ∧ Below w.heap.size w w'
/-- A list of bytes was drawn. -/
def OneList (w : World) (m : Nat) (e : Ending) (w' : World) : Prop :=
  ∃ (g l cap : Nat) (zs : List Int), e = .returned (.slice (some ⟨g, 0, none⟩) l cap) ∧ l ≤ m ∧ Wr w' w.heap.size w'.heap.size (some ⟨g, 0, none⟩) l zs ∧ Below w.heap.size w w'
/-- Two lists of bytes were drawn. -/
def TwoLists (w : World) (m : Nat) (e : Ending) (w' : World) : Prop :=
  ∃ (g l cap g' l' cap' : Nat) (zs zs' : List Int), e = .returned (.tuple #[.slice (some ⟨g, 0, none⟩) l cap, .slice (some ⟨g', 0, none⟩) l' cap']) ∧ l ≤ m ∧ l' ≤ m ∧ Wr w' w.heap.size w'.heap.size (some ⟨g, 0, none⟩) l zs ∧ Wr w' w.heap.size w'.heap.size (some ⟨g', 0, none⟩) l' zs' ∧ Below w.heap.size w w'

theorem Wr.set_ {w : World} {lo hi n g j : Nat} {zs : List Int} (h : Wr w lo hi (some ⟨g, 0, none⟩) n zs) (hj : j < n) (v : Int) (hv : 0 ≤ v ∧ v ≤ 255) : Wr (w.setCell ⟨g, j, none⟩ (.int .u8 v)) lo hi (some ⟨g, 0, none⟩) n (zs.set j v) := by
  obtain ⟨b, off, e, h1, h2, hc⟩ := h.1.at_ (by omega)
  have hf := h.2 g 0 rfl
  injection e with e
  injection e with e1 e2
  subst e1 e2
  refine ⟨⟨by rw [List.length_set]; exact h.1.len, h.1.max, by simpa [World.setCell] using h.1.top, fun x hx => ?_, fun _ => ⟨g, 0, rfl, h1, h2, fun i hi => ?_⟩⟩, fun b off e i hi => ?_⟩
  · rcases List.mem_or_eq_of_mem_set hx with hx | hx
    · exact h.1.byte x hx
    · rw [hx]; exact hv
  · have hci := hc i hi
    simp only [Nat.zero_add] at hci ⊢
    by_cases e : j = i
    · subst e
      rw [World.cell?_setCell_same _ _ _ hci]
      simp [List.getD_eq_getElem?_getD, h.1.len, hj]
    · rw [World.cell?_setCell_other _ _ _ _ (by simp), hci]
      simp [List.getD_eq_getElem?_getD, e]
  · injection e with e
    injection e with e1 e2
    subst e1 e2
    rw [World.frozen?_setCell]
    exact hf i hi

end Go.Proofs.YtjdkaaepbkkchaaDoor
