/-
  Math1, Math3, Draws3, Draws3b, in one text.
-/
import Derived.Test.YtpnpjngaenlciaaDoorNum
import Derived.Test.YtpnpjngaenlciaaDoorPut2
import Derived.Test.YtpnpjngaenlciaaDoorMix
import Derived.Test.YtpnpjngaenlciaaDoorS2
import Derived.Test.YtpnpjngaenlciaaDoorDraw
namespace Go.Proofs.YtpnpjngaenlciaaDoor
open Go.RowKit
set_option linter.unusedVariables false
set_option maxRecDepth 100000

theorem val_digs_take (n : Int) (s : Nat) (h : sh n s = 0) : ∀ k, k ≤ s → val ((digs n s).take k) = sh n (s - k) := by
  intro k
  induction k with
  | zero => intro _; rw [Nat.sub_zero, h]; simp [val]
  | succ k ih =>
    intro hk
    rw [val_take _ k (by rw [digs_len]; omega), ih (by omega), digs_at n s k (by omega)]
    have e : s - k = s - 1 - k + 1 := by omega
    rw [e, sh_succ, show s - (k + 1) = s - 1 - k from by omega]
    omega

/-- The bytes of a number that fits are read back. -/
theorem val_digs (n : Int) (s : Nat) (h : sh n s = 0) : val (digs n s) = n := by
  have := val_digs_take n s h s (Nat.le_refl _)
  rw [List.take_of_length_le (by rw [digs_len]; omega), Nat.sub_self, sh_zero] at this
  exact this

theorem sh_val (ds : List Int) (hb : ∀ x ∈ ds, 0 ≤ x ∧ x ≤ 255) : ∀ t, t ≤ ds.length → sh (val ds) t = val (ds.take (ds.length - t)) := by
  intro t
  induction t with
  | zero => intro _; rw [sh_zero, Nat.sub_zero, List.take_of_length_le (Nat.le_refl _)]
  | succ t ih =>
    intro ht
    have hb1 := hb _ (getD_mem ds (ds.length - (t + 1)) (by omega))
    rw [sh_succ, ih (by omega), show ds.length - t = ds.length - (t + 1) + 1 from by omega, val_take _ _ (by omega)]
    omega

theorem put_of_get (ds : List Int) (hb : ∀ x ∈ ds, 0 ≤ x ∧ x ≤ 255) (h1 : 1 ≤ ds.length) (h7 : ds.length ≤ 7) : PutOk (val ds) ds.length := by
  have h0 := sh_val ds hb ds.length (Nat.le_refl _)
  rw [Nat.sub_self] at h0
  have hv := (val_bound ds hb ds.length (Nat.le_refl _)).1
  rw [List.take_of_length_le (Nat.le_refl _)] at hv
  exact ⟨by omega, by omega, hv, by rw [Int.toNat_natCast, h0]; simp [val]⟩

/-- What was read is put back. -/
theorem digs_val (ds : List Int) (hb : ∀ x ∈ ds, 0 ≤ x ∧ x ≤ 255) : digs (val ds) ds.length = ds := by
  refine List.ext_getElem (digs_len _ _) fun j h1 h2 => ?_
  have h := digs_at (val ds) ds.length j h2
  rw [List.getD_eq_getElem?_getD, List.getElem?_eq_getElem h1] at h
  simp only [Option.getD_some] at h
  rw [h, sh_val ds hb _ (by omega), show ds.length - (ds.length - 1 - j) = j + 1 from by omega, val_take ds j h2]
  have hb1 := hb _ (List.getElem_mem h2)
  rw [List.getD_eq_getElem?_getD, List.getElem?_eq_getElem h2]
  simp only [Option.getD_some]
  omega

theorem val_max (ds : List Int) (hb : ∀ x ∈ ds, 0 ≤ x ∧ x ≤ 255) (h7 : ds.length ≤ 7) : val ds ≤ 72057594037927935 := by
  have h := (val_bound ds hb ds.length (Nat.le_refl _)).2
  rw [List.take_of_length_le (Nat.le_refl _)] at h
  have : ∀ k : Nat, k ≤ 7 → (256 : Int) ^ k ≤ 72057594037927936 := by
    intro k hk
    have : k = 0 ∨ k = 1 ∨ k = 2 ∨ k = 3 ∨ k = 4 ∨ k = 5 ∨ k = 6 ∨ k = 7 := by omega
    rcases this with h | h | h | h | h | h | h | h <;> subst h <;> decide
  have := this _ h7
  omega

theorem xor_xor (x y : Int) (hx : 0 ≤ x ∧ x ≤ 255) (hy : 0 ≤ y ∧ y ≤ 255) : bits .xor .u8 (bits .xor .u8 x y) y = x := by
  obtain ⟨a, rfl⟩ := Int.eq_ofNat_of_zero_le hx.1
  obtain ⟨b, rfl⟩ := Int.eq_ofNat_of_zero_le hy.1
  have ha : a < 256 := by omega
  have hb : b < 256 := by omega
  have key : ∀ u v : Nat, u < 256 → v < 256 → bits .xor .u8 (u : Int) (v : Int) = ((u ^^^ v : Nat) : Int) := by
    intro u v hu hv
    have hlt : u ^^^ v < 2 ^ 8 := Nat.xor_lt_two_pow hu hv
    show IntKind.u8.wrap ((BitVec.ofInt 8 (u : Int) ^^^ BitVec.ofInt 8 (v : Int)).toNat : Int) = _
    rw [BitVec.toNat_xor, BitVec.ofInt_natCast, BitVec.ofInt_natCast, BitVec.toNat_ofNat, BitVec.toNat_ofNat, Nat.mod_eq_of_lt hu, Nat.mod_eq_of_lt hv, IntKind.wrap_u8]
    omega
  have hlt : a ^^^ b < 2 ^ 8 := Nat.xor_lt_two_pow ha hb
  rw [key a b ha hb, key (a ^^^ b) b hlt hb, Nat.xor_assoc, Nat.xor_self, Nat.xor_zero]

/-- What is mixed twice is as it was. -/
theorem mix_mix (xs ys : List Int) (hx : ∀ x ∈ xs, 0 ≤ x ∧ x ≤ 255) (hy : ∀ y ∈ ys, 0 ≤ y ∧ y ≤ 255) (h : xs.length ≤ ys.length) : mix xs.length (mix xs.length xs ys) ys = xs := by
  refine List.ext_getElem (mix_len _ _ _) fun j h1 h2 => ?_
  have e := mix_getD xs.length (mix xs.length xs ys) ys j h2
  rw [List.getD_eq_getElem?_getD, List.getElem?_eq_getElem h1] at e
  simp only [Option.getD_some] at e
  rw [e]
  unfold mixAt
  rw [mix_getD xs.length xs ys j h2]
  unfold mixAt
  rw [xor_xor _ _ (hx _ (getD_mem xs j h2)) (hy _ (getD_mem ys j (by omega)))]
  rw [List.getD_eq_getElem?_getD, List.getElem?_eq_getElem h2]
  rfl
end Go.Proofs.YtpnpjngaenlciaaDoor
namespace Go.Proofs.YtpnpjngaenlciaaDoor
open Go.RowKit
set_option linter.unusedVariables false
set_option maxRecDepth 100000

theorem hide_hide (ks hd ds : List Int) (hb : ∀ x ∈ ds, 0 ≤ x ∧ x ≤ 255) : hideL ks hd (hideL ks hd ds) = ds := by
  have hl := hideL_len ks hd ds
  have e : hideL ks hd (hideL ks hd ds) = mix ds.length (hideL ks hd ds) (strm ks hd ((ds.length + 31) / 32)) := by
    conv => lhs; unfold hideL
    rw [show (mix ds.length ds (strm ks hd ((ds.length + 31) / 32))) = hideL ks hd ds from rfl, hl]
  rw [e]
  exact mix_mix ds _ hb (strm_byte ks hd _) (by rw [strm_len]; omega)

theorem part_app_left (xs ys : List Int) (k m : Nat) (h : k + m ≤ xs.length) : part (xs ++ ys) k m = part xs k m := by
  unfold part
  rw [List.drop_append_of_le_length (by omega), List.take_append_of_le_length (by rw [List.length_drop]; omega)]
theorem part_all (xs : List Int) (n : Nat) (h : xs.length = n) : part xs 0 n = xs := by
  unfold part; rw [List.drop_zero, List.take_of_length_le (by omega)]
theorem part_skip (xs ys : List Int) (n m : Nat) (h : xs.length = n) : part (xs ++ ys) n m = ys.take m := by
  unfold part; rw [List.drop_append_of_le_length (by omega), List.drop_of_length_le (by omega), List.nil_append]

section
variable {ks ds : List Int} {sd sq : Int}
theorem seal_side : hdSide (sealL ks sd sq ds) = sd := rfl
theorem seal_seq (hq : 0 ≤ sq ∧ sq ≤ 9999) : hdSeq (sealL ks sd sq ds) = sq := by
  have e : part (sealL ks sd sq ds) 1 4 = digs sq 4 := by
    have : sealL ks sd sq ds = [sd] ++ (digs sq 4 ++ (hideL ks (headL sd sq) ds ++ tagL ks (bodyL ks sd sq ds))) := by
      simp [sealL, bodyL, headL]
    rw [this, part_skip [sd] _ 1 4 rfl, List.take_append_of_le_length (by rw [digs_len]; omega), List.take_of_length_le (by rw [digs_len]; omega)]
  unfold hdSeq
  rw [e]
  exact val_digs sq 4 (by unfold sh; omega)
theorem seal_body : bodyOf (sealL ks sd sq ds) = bodyL ks sd sq ds := by
  unfold bodyOf
  rw [sealL_len, show ds.length + 13 - 8 = ds.length + 5 from by omega]
  unfold sealL
  rw [List.take_append_of_le_length (by rw [bodyL_len]; omega), List.take_of_length_le (by rw [bodyL_len]; omega)]
theorem seal_tag : tagOf (sealL ks sd sq ds) = tagL ks (bodyL ks sd sq ds) := by
  unfold tagOf
  rw [sealL_len, show ds.length + 13 - 8 = ds.length + 5 from by omega]
  unfold sealL
  rw [List.drop_append_of_le_length (by rw [bodyL_len]; omega), List.drop_of_length_le (by rw [bodyL_len]; omega), List.nil_append]
theorem seal_head (hs : sideOk sd) (hq : 0 ≤ sq ∧ sq ≤ 9999) (hn : ds.length ≤ 120) : headCode (sealL ks sd sq ds) = 0 := by
  unfold headCode
  rw [sealL_len, seal_side, seal_seq hq, if_neg (by omega), if_neg]
  rintro (h | h)
  · exact h hs
  · omega
theorem seal_opens (hs : sideOk sd) (hq : 0 ≤ sq ∧ sq ≤ 9999) (hn : ds.length ≤ 120) : openCode 32 ks (sealL ks sd sq ds) = 0 := by
  unfold openCode
  rw [seal_head hs hq hn, seal_body, seal_tag]
  simp
theorem seal_plain (hb : ∀ x ∈ ds, 0 ≤ x ∧ x ≤ 255) : openL ks (sealL ks sd sq ds) = ds := by
  have e1 : (sealL ks sd sq ds).take 5 = headL sd sq := by
    unfold sealL bodyL
    rw [List.append_assoc, List.take_append_of_le_length (by rw [headL_len]; omega), List.take_of_length_le (by rw [headL_len]; omega)]
  have e2 : part (sealL ks sd sq ds) 5 (ds.length + 13 - 13) = hideL ks (headL sd sq) ds := by
    unfold sealL bodyL
    rw [List.append_assoc, part_skip _ _ 5 _ (headL_len _ _), List.take_append_of_le_length (by rw [hideL_len]; omega), List.take_of_length_le (by rw [hideL_len]; omega)]
  unfold openL
  rw [sealL_len, e1, e2]
  exact hide_hide ks _ ds hb
end

theorem open_seals {ks ps : List Int} (hb : ∀ x ∈ ps, 0 ≤ x ∧ x ≤ 255) (h : openCode 32 ks ps = 0) : sealL ks (hdSide ps) (hdSeq ps) (openL ks ps) = ps ∧ sideOk (hdSide ps) ∧ (0 ≤ hdSeq ps ∧ hdSeq ps ≤ 9999) ∧ (openL ks ps).length ≤ 120 := by
  unfold openCode at h
  rw [if_neg (by simp)] at h
  by_cases hh : headCode ps = 0
  · rw [if_neg (by simp [hh])] at h
    have ht : tagL ks (bodyOf ps) = tagOf ps := by
      by_cases ht : tagL ks (bodyOf ps) = tagOf ps
      · exact ht
      · rw [if_pos ht] at h; omega
    unfold headCode at hh
    by_cases hn : ps.length < 13 ∨ 133 < ps.length
    · rw [if_pos hn] at hh; omega
    rw [if_neg hn] at hh
    by_cases hd : ¬ sideOk (hdSide ps) ∨ 9999 < hdSeq ps
    · rw [if_pos hd] at hh; omega
    have h0 : 0 ≤ hdSeq ps := (part_val ps hb 1).1
    obtain ⟨s, rest, rfl⟩ : ∃ s rest, ps = s :: rest := by
      cases ps with
      | nil => simp at hn
      | cons s rest => exact ⟨s, rest, rfl⟩
    have hp5 : headL (hdSide (s :: rest)) (hdSeq (s :: rest)) = (s :: rest).take 5 := by
      have e := digs_val (part (s :: rest) 1 4) (fun x hx => hb x (List.mem_of_mem_drop (List.mem_of_mem_take hx)))
      have hl : (part (s :: rest) 1 4).length = 4 := by unfold part; simp at hn ⊢; omega
      rw [hl] at e
      unfold headL hdSeq
      rw [e]
      rfl
    have hol : (openL ks (s :: rest)).length = (s :: rest).length - 13 := by
      unfold openL; rw [hideL_len]; unfold part; rw [List.length_take, List.length_drop]; omega
    refine ⟨?_, by simpa using (fun hx => hd (Or.inl hx)), ⟨h0, by omega⟩, by rw [hol]; omega⟩
    have hbo : bodyL ks (hdSide (s :: rest)) (hdSeq (s :: rest)) (openL ks (s :: rest)) = bodyOf (s :: rest) := by
      unfold bodyL
      rw [hp5]
      have e3 : hideL ks ((s :: rest).take 5) (openL ks (s :: rest)) = part (s :: rest) 5 ((s :: rest).length - 13) :=
        hide_hide ks _ _ (fun x hx => hb x (List.mem_of_mem_drop (List.mem_of_mem_take hx)))
      rw [e3]
      unfold bodyOf part
      rw [show (s :: rest).length - 8 = 5 + ((s :: rest).length - 13) from by omega, List.take_add]
    unfold sealL
    rw [hbo, ht]
    unfold bodyOf tagOf
    exact List.take_append_drop _ _
  · rw [if_pos hh] at h; exact absurd h hh
end Go.Proofs.YtpnpjngaenlciaaDoor
namespace Go.Proofs.YtpnpjngaenlciaaDoor
open Go.RowKit
set_option linter.unusedVariables false
set_option maxRecDepth 100000

/-- At most m bytes were drawn out of a source. -/
def ListDrawn (m : Nat) (w : World) (s k : Nat) (A : Option Addr) (nc cc hi : Nat) (xs : List Int) (e : Ending) (w' : World) : Prop :=
  ∃ (g l cap k' : Nat) (zs : List Int), e = .returned (.slice (some ⟨g, 0, none⟩) l cap) ∧ l ≤ m ∧ l ≤ cap ∧ k' ≤ k + m + 99 ∧ Wr w' w.heap.size w'.heap.size (some ⟨g, 0, none⟩) l zs ∧ Src w' s k' A nc cc hi xs ∧ Keep s (s + 1) w w'

set_option maxHeartbeats 1000000 in
theorem plain_any (s k : Nat) (A : Option Addr) (n c hi : Nat) (xs : List Int) (v0 : World) (h0 : Src v0 s k A n c hi xs) (hk : k ≤ 1000000) :
    Calls Tryd.prog 38 #[.pointer (some ⟨s, 0, none⟩)] v0 (ListDrawn 121 v0 s k A n c hi xs) := by
  have hs0 := h0.1
  go_enter Tryd.func38, Tryd.ntmps38
  go_wp2_with fail
  have h1a := h0.keep ((Keep.refl 0 0 v0).alloc (.cells ([0, 1, 9, 31, 32, 33, 64, 65, 120, 121].map (Value.int .i64)).toArray 2)) (by omega) (by omega)
  have n1 : v0.heap.size ≠ s := by have := h0.1; omega
  refine (pick_any s k v0.heap.size 10 A n c hi xs [0, 1, 9, 31, 32, 33, 64, 65, 120, 121] 10 _ h1a (by omega) rfl (by omega) (by omega) n1 (by simp) (row_cells v0 [0, 1, 9, 31, 32, 33, 64, 65, 120, 121] _ _ rfl)).mono ?_
  rintro e v1 ⟨r1, m1, rfl, h1, k1⟩
  have ka1 : Keep s (s + 1) v0 v1 := ((Keep.refl s (s + 1) v0).alloc (.cells ([0, 1, 9, 31, 32, 33, 64, 65, 120, 121].map (Value.int .i64)).toArray 2)).trans k1
  have y1 : 0 ≤ r1 ∧ r1 ≤ 121 := by simp at m1; omega
  clear m1
  go_wp2_with fail
  refine (some_cap s (k + 1) A n c hi xs r1 v1 h1 (by omega) (by omega)).mono ?_
  rintro e v3 ⟨g, cap, zs, rfl, hc, q3, h3, k3⟩
  have ka3 := ka1.trans k3
  have Q := Lib.hid (q3.wide ka1.size (Nat.le_refl _) (Nat.le_refl _))
  have H := Lib.hid h3
  have KK := Lib.hid ka3
  clear h0 h1a h1 h3 k1 ka1 k3 ka3 q3
  go_wp2_with fail
  go_ret
  exact ⟨g, _, cap, _, zs, rfl, by omega, hc, by omega, Q.out, H.out, KK.out⟩

set_option maxHeartbeats 1000000 in
theorem drawKey_any (s k : Nat) (A : Option Addr) (n c hi : Nat) (xs : List Int) (v0 : World) (h0 : Src v0 s k A n c hi xs) (hk : k ≤ 1000000) :
    Calls Tryd.prog 36 #[.pointer (some ⟨s, 0, none⟩)] v0 (ListDrawn 33 v0 s k A n c hi xs) := by
  have hs0 := h0.1
  go_enter Tryd.func36, Tryd.ntmps36
  go_wp2_with fail
  refine (chance_any s k A n c hi xs 14 v0 h0 (by omega) (by omega)).mono ?_
  rintro e v2 ⟨t, rfl, h2, k2⟩
  rcases t with _ | _
  · have kb := k2
    have h9 := h2
    clear k2 h2
    generalize v2 = v9 at *
    go_wp2_with fail
    refine (some_cap s (k + 1) A n c hi xs 32 v9 h9 (by omega) (by omega)).mono ?_
    rintro e v3 ⟨g, cap, zs, rfl, hc, q3, h3, k3⟩
    have ka3 := kb.trans k3
    have Q := Lib.hid (q3.wide kb.size (Nat.le_refl _) (Nat.le_refl _))
    have H := Lib.hid h3
    have KK := Lib.hid ka3
    clear h0 h9 h3 kb k3 ka3 q3 
    go_wp2_with fail
    go_ret
    exact ⟨g, _, cap, _, zs, rfl, by omega, hc, by omega, Q.out, H.out, KK.out⟩
  · go_wp2_with fail
    have h4a := h2.keep ((Keep.refl 0 0 v2).alloc (.cells ([31, 33, 0].map (Value.int .i64)).toArray 2)) (by omega) (by omega)
    have n4 : v2.heap.size ≠ s := by have := h2.1; omega
    refine (pick_any s (k + 1) v2.heap.size 3 A n c hi xs [31, 33, 0] 3 _ h4a (by omega) rfl (by omega) (by omega) n4 (by simp) (row_cells v2 [31, 33, 0] _ _ rfl)).mono ?_
    rintro e v4 ⟨r4, m4, rfl, h4, k4⟩
    have ka4 : Keep s (s + 1) v2 v4 := ((Keep.refl s (s + 1) v2).alloc (.cells ([31, 33, 0].map (Value.int .i64)).toArray 2)).trans k4
    have y4 : 0 ≤ r4 ∧ r4 ≤ 33 := by simp at m4; omega
    have kb := k2.trans ka4
    have h9 := h4
    clear m4 h4 h4a h2 k2 ka4 k4
    generalize v4 = v9 at *
    go_wp2_with fail
    refine (some_cap s (k + 1 + 1) A n c hi xs r4 v9 h9 (by omega) (by omega)).mono ?_
    rintro e v3 ⟨g, cap, zs, rfl, hc, q3, h3, k3⟩
    have ka3 := kb.trans k3
    have Q := Lib.hid (q3.wide kb.size (Nat.le_refl _) (Nat.le_refl _))
    have H := Lib.hid h3
    have KK := Lib.hid ka3
    clear h0 h9 h3 kb k3 ka3 q3 
    go_wp2_with fail
    go_ret
    exact ⟨g, _, cap, _, zs, rfl, by omega, hc, by omega, Q.out, H.out, KK.out⟩

/-- One list of at most m bytes, with its capacity. -/
def OneListC (w : World) (m : Nat) (e : Ending) (w' : World) : Prop :=
  ∃ (g l cap : Nat) (zs : List Int), e = .returned (.slice (some ⟨g, 0, none⟩) l cap) ∧ l ≤ m ∧ l ≤ cap ∧ Wr w' w.heap.size w'.heap.size (some ⟨g, 0, none⟩) l zs ∧ Below w.heap.size w w'
/-- Two lists. -/
def TwoListsC (w : World) (m m' : Nat) (e : Ending) (w' : World) : Prop :=
  ∃ (g l cap g' l' cap' : Nat) (zs zs' : List Int), e = .returned (.tuple #[.slice (some ⟨g, 0, none⟩) l cap, .slice (some ⟨g', 0, none⟩) l' cap']) ∧ l ≤ m ∧ l ≤ cap ∧ l' ≤ m' ∧ l' ≤ cap' ∧ Wr w' w.heap.size w'.heap.size (some ⟨g, 0, none⟩) l zs ∧ Wr w' w.heap.size w'.heap.size (some ⟨g', 0, none⟩) l' zs' ∧ Below w.heap.size w w'
/-- Three lists. -/
def ThreeLists (w : World) (e : Ending) (w' : World) : Prop :=
  ∃ (g l cap g' l' cap' g'' l'' cap'' : Nat) (zs zs' zs'' : List Int), e = .returned (.tuple #[.slice (some ⟨g, 0, none⟩) l cap, .slice (some ⟨g', 0, none⟩) l' cap', .slice (some ⟨g'', 0, none⟩) l'' cap'']) ∧ (l ≤ 33 ∧ l ≤ cap) ∧ (l' ≤ 6 ∧ l' ≤ cap') ∧ (l'' ≤ 121 ∧ l'' ≤ cap'') ∧
    Wr w' w.heap.size w'.heap.size (some ⟨g, 0, none⟩) l zs ∧ Wr w' w.heap.size w'.heap.size (some ⟨g', 0, none⟩) l' zs' ∧ Wr w' w.heap.size w'.heap.size (some ⟨g'', 0, none⟩) l'' zs'' ∧ Below w.heap.size w w'
/-- A key, a side, a number, bytes. -/
def SealArgs (w : World) (e : Ending) (w' : World) : Prop :=
  ∃ (g l cap g' l' cap' : Nat) (sd sq : Int) (zs zs' : List Int), e = .returned (.tuple #[.slice (some ⟨g, 0, none⟩) l cap, .int .i64 sd, .int .i64 sq, .slice (some ⟨g', 0, none⟩) l' cap']) ∧ (l ≤ 33 ∧ l ≤ cap) ∧ (-1 ≤ sd ∧ sd ≤ 2) ∧ (-1 ≤ sq ∧ sq ≤ 10000) ∧ (l' ≤ 121 ∧ l' ≤ cap') ∧
    Wr w' w.heap.size w'.heap.size (some ⟨g, 0, none⟩) l zs ∧ Wr w' w.heap.size w'.heap.size (some ⟨g', 0, none⟩) l' zs' ∧ Below w.heap.size w w'

set_option maxHeartbeats 1000000 in
theorem drawHide_any (A : Option Addr) (n c hi : Nat) (xs : List Int) (w : World) (h : Rd w 0 hi A n xs) :
    Calls Tryd.prog 16 #[.slice A n c] w (ThreeLists w) := by
  have htop := h.top
  go_enter Tryd.func16, Tryd.ntmps16
  go_wp2_with fail
  refine (source_any A n c hi xs w h).mono ?_
  rintro e v0 ⟨s, rfl, h0, s0, b0⟩
  have z0 := b0.size
  have hs0 : s < v0.heap.size := h0.1
  go_wp2_with fail
  refine (drawKey_any s _ A n c hi xs v0 h0 (by omega)).mono ?_
  rintro e v1 ⟨ga, la, capa, ka', zsa, rfl, hla, hca, hka, qa, h1, k1⟩
  have z1 := k1.size
  have b1 := b0.trans (k1.below (by omega) b0.size)
  clear b0 h0
  clear k1
  go_wp2_with fail
  have h2a := h1.keep ((Keep.refl 0 0 v1).alloc (.cells ([5, 5, 5, 5, 5, 5, 4, 6].map (Value.int .i64)).toArray 2)) (by omega) (by omega)
  have n2 : v1.heap.size ≠ s := by have := h1.1; omega
  refine (pick_any s ka' v1.heap.size 8 A n c hi xs [5, 5, 5, 5, 5, 5, 4, 6] 8 _ h2a (by omega) rfl (by omega) (by omega) n2 (by simp) (row_cells v1 [5, 5, 5, 5, 5, 5, 4, 6] _ _ rfl)).mono ?_
  rintro e v2 ⟨r2, m2, rfl, h2, k2⟩
  have ka2 : Keep s (s + 1) v1 v2 := ((Keep.refl s (s + 1) v1).alloc (.cells ([5, 5, 5, 5, 5, 5, 4, 6].map (Value.int .i64)).toArray 2)).trans k2
  have z2 := ka2.size
  have b2 := b1.trans (ka2.below (by omega) b1.size)
  clear b1 h1
  have y2 : 0 ≤ r2 ∧ r2 ≤ 6 := by simp at m2; omega
  clear m2 h2a k2
  replace qa := qa.keep ka2 (by omega)
  clear ka2
  go_wp2_with fail
  refine (some_cap s _ A n c hi xs r2 v2 h2 (by omega) (by omega)).mono ?_
  rintro e v3 ⟨gb, capb, zsb, rfl, hcb, qb, h3, k3⟩
  have z3 := k3.size
  have b3 := b2.trans (k3.below (by omega) b2.size)
  clear b2 h2
  replace qa := qa.keep k3 (by omega)
  clear k3
  go_wp2_with fail
  refine (plain_any s _ A n c hi xs v3 h3 (by omega)).mono ?_
  rintro e v4 ⟨gd, ld, capd, kd', zsd, rfl, hld, hcd, hkd, qd, h4, k4⟩
  have z4 := k4.size
  have b4 := b3.trans (k4.below (by omega) b3.size)
  clear b3 h3
  replace qa := qa.keep k4 (by omega)
  replace qb := qb.keep k4 (by omega)
  clear k4
  have QA' := Lib.hid (qa.wide (lo' := w.heap.size) (by omega) (by omega) (Nat.le_refl _))
  have QB' := Lib.hid (qb.wide (lo' := w.heap.size) (by omega) (by omega) (Nat.le_refl _))
  have QD' := Lib.hid (qd.wide (lo' := w.heap.size) (by omega) (by omega) (Nat.le_refl _))
  have BB := Lib.hid b4
  clear b4 h4 h qa qb qd
  go_wp2_with fail
  go_ret3
  exact ⟨ga, la, capa, gb, _, capb, gd, ld, capd, zsa, zsb, zsd, rfl, ⟨hla, hca⟩, ⟨by omega, hcb⟩, ⟨hld, hcd⟩, QA'.out, QB'.out, QD'.out, BB.out⟩

set_option maxHeartbeats 1000000 in
theorem drawTag_any (A : Option Addr) (n c hi : Nat) (xs : List Int) (w : World) (h : Rd w 0 hi A n xs) :
    Calls Tryd.prog 18 #[.slice A n c] w (TwoListsC w 33 301) := by
  have htop := h.top
  go_enter Tryd.func18, Tryd.ntmps18
  go_wp2_with fail
  refine (source_any A n c hi xs w h).mono ?_
  rintro e v0 ⟨s, rfl, h0, s0, b0⟩
  have z0 := b0.size
  have hs0 : s < v0.heap.size := h0.1
  go_wp2_with fail
  refine (drawKey_any s _ A n c hi xs v0 h0 (by omega)).mono ?_
  rintro e v1 ⟨ga, la, capa, ka', zsa, rfl, hla, hca, hka, qa, h1, k1⟩
  have z1 := k1.size
  have b1 := b0.trans (k1.below (by omega) b0.size)
  clear b0 h0
  clear k1
  go_wp2_with fail
  have h2a := h1.keep ((Keep.refl 0 0 v1).alloc (.cells ([0, 1, 9, 63, 64, 130, 300, 301].map (Value.int .i64)).toArray 2)) (by omega) (by omega)
  have n2 : v1.heap.size ≠ s := by have := h1.1; omega
  refine (pick_any s ka' v1.heap.size 8 A n c hi xs [0, 1, 9, 63, 64, 130, 300, 301] 8 _ h2a (by omega) rfl (by omega) (by omega) n2 (by simp) (row_cells v1 [0, 1, 9, 63, 64, 130, 300, 301] _ _ rfl)).mono ?_
  rintro e v2 ⟨r2, m2, rfl, h2, k2⟩
  have ka2 : Keep s (s + 1) v1 v2 := ((Keep.refl s (s + 1) v1).alloc (.cells ([0, 1, 9, 63, 64, 130, 300, 301].map (Value.int .i64)).toArray 2)).trans k2
  have z2 := ka2.size
  have b2 := b1.trans (ka2.below (by omega) b1.size)
  clear b1 h1
  have y2 : 0 ≤ r2 ∧ r2 ≤ 301 := by simp at m2; omega
  clear m2 h2a k2
  replace qa := qa.keep ka2 (by omega)
  clear ka2
  go_wp2_with fail
  refine (some_cap s _ A n c hi xs r2 v2 h2 (by omega) (by omega)).mono ?_
  rintro e v3 ⟨gb, capb, zsb, rfl, hcb, qb, h3, k3⟩
  have z3 := k3.size
  have b3 := b2.trans (k3.below (by omega) b2.size)
  clear b2 h2
  replace qa := qa.keep k3 (by omega)
  clear k3
  have QA' := Lib.hid (qa.wide (lo' := w.heap.size) (by omega) (by omega) (Nat.le_refl _))
  have QB' := Lib.hid (qb.wide (lo' := w.heap.size) (by omega) (by omega) (Nat.le_refl _))
  have BB := Lib.hid b3
  clear b3 h3 h qa qb
  go_wp2_with fail
  go_ret2
  exact ⟨ga, la, capa, gb, _, capb, zsa, zsb, rfl, hla, hca, by omega, hcb, QA'.out, QB'.out, BB.out⟩

set_option maxHeartbeats 1000000 in
theorem drawSeal_any (A : Option Addr) (n c hi : Nat) (xs : List Int) (w : World) (h : Rd w 0 hi A n xs) :
    Calls Tryd.prog 9 #[.slice A n c] w (SealArgs w) := by
  have htop := h.top
  go_enter Tryd.func9, Tryd.ntmps9
  go_wp2_with fail
  refine (source_any A n c hi xs w h).mono ?_
  rintro e v0 ⟨s, rfl, h0, s0, b0⟩
  have z0 := b0.size
  have hs0 : s < v0.heap.size := h0.1
  go_wp2_with fail
  refine (drawKey_any s _ A n c hi xs v0 h0 (by omega)).mono ?_
  rintro e v1 ⟨ga, la, capa, ka', zsa, rfl, hla, hca, hka, qa, h1, k1⟩
  have z1 := k1.size
  have b1 := b0.trans (k1.below (by omega) b0.size)
  clear b0 h0
  clear k1
  go_wp2_with fail
  have h2a := h1.keep ((Keep.refl 0 0 v1).alloc (.cells ([0, 1, 0, 1, 0, 1, 2, -1].map (Value.int .i64)).toArray 2)) (by omega) (by omega)
  have n2 : v1.heap.size ≠ s := by have := h1.1; omega
  refine (pick_any s ka' v1.heap.size 8 A n c hi xs [0, 1, 0, 1, 0, 1, 2, -1] 8 _ h2a (by omega) rfl (by omega) (by omega) n2 (by simp) (row_cells v1 [0, 1, 0, 1, 0, 1, 2, -1] _ _ rfl)).mono ?_
  rintro e v2 ⟨r2, m2, rfl, h2, k2⟩
  have ka2 : Keep s (s + 1) v1 v2 := ((Keep.refl s (s + 1) v1).alloc (.cells ([0, 1, 0, 1, 0, 1, 2, -1].map (Value.int .i64)).toArray 2)).trans k2
  have z2 := ka2.size
  have b2 := b1.trans (ka2.below (by omega) b1.size)
  clear b1 h1
  have y2 : -1 ≤ r2 ∧ r2 ≤ 2 := by simp at m2; omega
  clear m2 h2a k2
  replace qa := qa.keep ka2 (by omega)
  clear ka2
  go_wp2_with fail
  have h3a := h2.keep ((Keep.refl 0 0 v2).alloc (.cells ([0, 1, 255, 9999, 256, 7, 10000, -1].map (Value.int .i64)).toArray 2)) (by omega) (by omega)
  have n3 : v2.heap.size ≠ s := by have := h2.1; omega
  refine (pick_any s (ka' + 1) v2.heap.size 8 A n c hi xs [0, 1, 255, 9999, 256, 7, 10000, -1] 8 _ h3a (by omega) rfl (by omega) (by omega) n3 (by simp) (row_cells v2 [0, 1, 255, 9999, 256, 7, 10000, -1] _ _ rfl)).mono ?_
  rintro e v3 ⟨r3, m3, rfl, h3, k3⟩
  have ka3 : Keep s (s + 1) v2 v3 := ((Keep.refl s (s + 1) v2).alloc (.cells ([0, 1, 255, 9999, 256, 7, 10000, -1].map (Value.int .i64)).toArray 2)).trans k3
  have z3 := ka3.size
  have b3 := b2.trans (ka3.below (by omega) b2.size)
  clear b2 h2
  have y3 : -1 ≤ r3 ∧ r3 ≤ 10000 := by simp at m3; omega
  clear m3 h3a k3
  replace qa := qa.keep ka3 (by omega)
  clear ka3
  go_wp2_with fail
  refine (plain_any s _ A n c hi xs v3 h3 (by omega)).mono ?_
  rintro e v4 ⟨gd, ld, capd, kd', zsd, rfl, hld, hcd, hkd, qd, h4, k4⟩
  have z4 := k4.size
  have b4 := b3.trans (k4.below (by omega) b3.size)
  clear b3 h3
  replace qa := qa.keep k4 (by omega)
  clear k4
  have QA' := Lib.hid (qa.wide (lo' := w.heap.size) (by omega) (by omega) (Nat.le_refl _))
  have QD' := Lib.hid (qd.wide (lo' := w.heap.size) (by omega) (by omega) (Nat.le_refl _))
  have BB := Lib.hid b4
  clear b4 h4 h qa qd
  go_wp2_with fail
  go_returns
  exact ⟨ga, la, capa, gd, ld, capd, r2, r3, zsa, zsd, rfl, ⟨hla, hca⟩, by omega, by omega, ⟨hld, hcd⟩, QA'.out, QD'.out, BB.out⟩

end Go.Proofs.YtpnpjngaenlciaaDoor
namespace Go.Proofs.YtpnpjngaenlciaaDoor
open Go.RowKit
set_option linter.unusedVariables false
set_option maxRecDepth 100000

theorem Wr.take3_ {w : World} {lo hi n g j : Nat} {zs : List Int} (h : Wr w lo hi (some ⟨g, 0, none⟩) n zs) (hj : j ≤ n) : Wr w lo hi (some ⟨g, 0, none⟩) j (part zs 0 j) :=
  ⟨h.1.part_ 0 j (by omega), fun b off e i hi => h.2 b off e i (by omega)⟩

theorem Wr.cell_ {w : World} {lo hi n g j : Nat} {zs : List Int} (h : Wr w lo hi (some ⟨g, 0, none⟩) n zs) (hj : j < n) : w.cell? ⟨g, j, none⟩ = some (.int .u8 (zs.getD j 0)) := by
  obtain ⟨bb, off, e, i1, i2, hc⟩ := h.1.at_ (by omega)
  injection e with e
  injection e with e1 e2
  subst e1 e2
  have c1 := hc j hj
  rwa [Nat.zero_add] at c1
theorem Wr.frozen_ {w : World} {lo hi n g j : Nat} {zs : List Int} (h : Wr w lo hi (some ⟨g, 0, none⟩) n zs) (hj : j < n) : w.frozen? ⟨g, j, none⟩ = false := by
  have f := h.2 g 0 rfl j hj
  rwa [Nat.zero_add] at f
theorem Keep.past {lo hi g g' : Nat} {a b c : World} (h : Keep lo hi a b) (k : Keep g g' b c) (hg : a.heap.size ≤ g) : Keep lo hi a c :=
  ⟨k.os.trans h.os, k.tape.trans h.tape, k.output.trans h.output, Nat.le_trans h.size k.size, fun q hq ho => (k.block q (Nat.lt_of_lt_of_le hq h.size) (Or.inl (Nat.lt_of_lt_of_le hq hg))).trans (h.block q hq ho)⟩
theorem own_base {w : World} {base n c g : Nat} {e : TypeId} {vs : List Value} (h : w.ownsRow base e 1 (.slice (some ⟨g, 0, none⟩) n c) n vs) : base ≤ g := by
  rcases h.2 with ⟨hv, _⟩ | ⟨g', cap, _, hv, hg, _⟩
  · cases hv
  · injection hv with e1 _ _
    injection e1 with e1
    injection e1 with e1
    omega

set_option maxHeartbeats 1500000 in
theorem packet_any (s k : Nat) (A : Option Addr) (n c hi : Nat) (xs : List Int) (K : Option Addr) (nk ck lo hk : Nat) (ks : List Int) (v0 : World) (h0 : Src v0 s k A n c hi xs) (hk0 : k ≤ 1000000) (hkey : Rd v0 lo hk K nk ks) (hlo : s + 1 ≤ lo) :
    Calls Tryd.prog 44 #[.pointer (some ⟨s, 0, none⟩), .slice K nk ck] v0 (ListDrawn 1000 v0 s k A n c hi xs) := by
  have hs0 := h0.1
  have hint := hkey.int
  by_cases hnk : nk = 32
  · have HNK := Lib.hid hnk
    clear hnk
    obtain ⟨i0, hi0, hz0, hz1, hz2⟩ := info_parts info_u8s
    go_enter Tryd.func44, Tryd.ntmps44
    go_wp2_with fail
    refine (l3Key_any K nk ck _ true (decide_eq_true HNK.out)).mono ?_
    rintro e w0 ⟨rfl, rfl⟩
    go_wp2_with fail
    refine (next_any s k A n c hi xs 2 v0 h0 (by omega) (by omega)).mono ?_
    rintro e v1 ⟨r, rfl, r0, r1, _, h1, k1⟩
    have r1' := r1 (by omega)
    have key1 := hkey.keep k1 (by omega)
    have z1 := k1.size
    clear r1 h0 hkey
    go_wp2_with fail
    have h2a := h1.keep ((Keep.refl 0 0 v1).alloc (.cells ([0, 1, 300, 9999].map (Value.int .i64)).toArray 2)) (by omega) (by omega)
    have n2 : v1.heap.size ≠ s := by have := h1.1; omega
    refine (pick_any s (k + 1) v1.heap.size 4 A n c hi xs [0, 1, 300, 9999] 4 _ h2a (by omega) rfl (by omega) (by omega) n2 (by simp) (row_cells v1 [0, 1, 300, 9999] _ _ rfl)).mono ?_
    rintro e v2 ⟨r2, m2, rfl, h2, k2⟩
    have ka2 : Keep s (s + 1) v1 v2 := ((Keep.refl s (s + 1) v1).alloc (.cells ([0, 1, 300, 9999].map (Value.int .i64)).toArray 2)).trans k2
    have y2 : 0 ≤ r2 ∧ r2 ≤ 9999 := by simp at m2; omega
    have key2 := key1.keep ka2 (by omega)
    have kb2 := k1.trans ka2
    have z2 := ka2.size
    clear m2 h1 h2a key1 k1 k2 ka2
    go_wp2_with fail
    have h3a := h2.keep ((Keep.refl 0 0 v2).alloc (.cells ([0, 1, 40, 120].map (Value.int .i64)).toArray 2)) (by omega) (by omega)
    have n3 : v2.heap.size ≠ s := by have := h2.1; omega
    refine (pick_any s (k + 1 + 1) v2.heap.size 4 A n c hi xs [0, 1, 40, 120] 4 _ h3a (by omega) rfl (by omega) (by omega) n3 (by simp) (row_cells v2 [0, 1, 40, 120] _ _ rfl)).mono ?_
    rintro e v3 ⟨r3, m3, rfl, h3, k3⟩
    have ka3 : Keep s (s + 1) v2 v3 := ((Keep.refl s (s + 1) v2).alloc (.cells ([0, 1, 40, 120].map (Value.int .i64)).toArray 2)).trans k3
    have y3 : 0 ≤ r3 ∧ r3 ≤ 120 := by simp at m3; omega
    have key3 := key2.keep ka3 (by omega)
    have kb3 := kb2.trans ka3
    have z3 := ka3.size
    clear m3 h2 h3a key2 kb2 k3 ka3
    go_wp2_with fail
    refine (some_cap s (k + 1 + 1 + 1) A n c hi xs r3 v3 h3 (by omega) (by omega)).mono ?_
    rintro e v4 ⟨gp, cp, ps, rfl, hcp, qp, h4, k4⟩
    have key4 := key3.keep k4 (by omega)
    have kb4 := kb3.trans k4
    have z4 := k4.size
    clear h3 key3 kb3 k4
    have hl120 : r3.toNat ≤ 120 := by omega
    generalize r3.toNat = l at *
    go_wp2_with fail
    refine (l3Seal_own K (some ⟨gp, 0, none⟩) nk ck l cp _ _ r r2 ks ps v4 key4.rd0 qp.1.rd0 (by omega) (by omega) hl120).mono ?_
    intro e v5 hm
    have hsl : (sealL ks r r2 ps).length = l + 13 := by rw [sealL_len, qp.1.len]
    have hsb := sealL_byte ks r r2 ps (by omega)
    obtain ⟨g, cap, rfl, hcap, own5, b5⟩ := hm.at_ hsl
    have h5 := h4.keep (Keep.of_below b5 0 0) (by omega) (by omega)
    have kb5 := kb4.trans (Keep.of_below b5 s (s + 1))
    have z5 := b5.size
    have hs4 : s < v4.heap.size := h4.1
    generalize sealL ks r r2 ps = zs at *
    clear hm b5 kb4 h4 key4 qp hcp
    go_wp2_with fail
    refine (next_any s _ A n c hi xs 6 v5 h5 (by omega) (by omega)).mono ?_
    rintro e v6 ⟨q, rfl, q0, q1, _, h6, k6⟩
    have q1' := q1 (by omega)
    have own6 := own_keep own5 k6 (by omega)
    have kb6 := kb5.trans k6
    have z6 := k6.size
    have hgl := own6.lt g rfl
    have hgb : v4.heap.size ≤ g := own_base own6
    have wr6 := Wr.of_own own6 (by unfold maxLen; omega) hsb
    clear q1 own5 h5 kb5 k6
    have z04 : v0.heap.size ≤ v4.heap.size := by omega
    by_cases e0 : q = 0
    · subst e0
      clear own6
      go_wp2_with fail
      have kd : Keep s (s + 1) v6 v6.drew := ⟨rfl, rfl, rfl, Nat.le_refl _, fun _ _ _ => rfl⟩
      have hd : Src v6.drew s (k + 1 + 1 + 1 + l + 1) A n c hi xs := h6
      have wrd := wr6.keep kd (by omega)
      have kbd := kb6.trans kd
      have zd : v5.heap.size ≤ v6.drew.heap.size := z6
      have zde : v6.drew.heap.size = v6.heap.size := rfl
      clear wr6 h6 kb6 kd
      go_region_with (first
        | (go_at_call 59; refine (next_any s _ A n c hi xs ((l : Int) + 13) _ hd (by omega) (by omega)).mono ?_; rintro e v7 ⟨j, rfl, j0, j1, _, h7, k7⟩; have j1' := j1 (by omega); clear j1; obtain ⟨j, rfl⟩ := Int.eq_ofNat_of_zero_le j0; have hjl : j < l + 13 := (by omega); have hjl' : (j : Int) < (l : Int) + 13 := (by omega); have wr7 := wrd.keep k7 (by omega); have kb7 := kbd.trans k7; have z7 := k7.size; have c7 := wr7.cell_ hjl; have f7 := wr7.frozen_ hjl; clear k7 hd wrd kbd)
        | (go_at_call 59; refine (next_any s _ A n c hi xs 255 _ h7 (by omega) (by omega)).mono ?_; rintro e v8 ⟨x, rfl, x0, x1, _, h8, k8⟩; have x1' := x1 (by omega); have wr8 := wr7.keep k8 (by omega); have kb8 := kb7.trans k8; have z8 := k8.size; have c8 := wr8.cell_ hjl; have f8 := wr8.frozen_ hjl; have hwx : IntKind.i64.wrap (1 + x) = 1 + x := (by rw [IntKind.wrap_i64]; omega); clear x1 k8))
      all_goals
        have kk : ∀ y, Keep g (g + 1) v8 (v8.setCell ⟨g, j, none⟩ (.int .u8 y)) := fun y => (Keep.refl _ _ v8).setCell (p := ⟨g, j, none⟩) ⟨Nat.le_refl _, Nat.lt_succ_self _⟩ _
        have hbits : ∀ a b : Int, 0 ≤ bits .xor .u8 a b ∧ bits .xor .u8 a b ≤ 255 := fun a b => by
          simpa [Lit.wf, IntKind.min, IntKind.max, IntKind.signed, IntKind.bits] using wf_bits .xor .u8 a b
        have QQ : Hid (∀ y, 0 ≤ y ∧ y ≤ 255 → Wr (v8.setCell ⟨g, j, none⟩ (.int .u8 y)) v0.heap.size (v8.setCell ⟨g, j, none⟩ (.int .u8 y)).heap.size (some ⟨g, 0, none⟩) (l + 13) (zs.set j y)) :=
          fun y hy => (wr8.set_ hjl y hy).wide (lo' := v0.heap.size) (by omega) (by have := (kk y).size; omega) (Nat.le_refl _)
        have h82 := h8.2.1
        have HH : Hid (∀ y, Src (v8.setCell ⟨g, j, none⟩ (.int .u8 y)) s _ A n c hi xs) := fun y => h8.keep (kk y) (by omega) (by omega)
        have KK : Hid (∀ y, Keep s (s + 1) v0 (v8.setCell ⟨g, j, none⟩ (.int .u8 y))) := fun y => kb8.past (kk y) (by omega)
        clear kk kb8 kb7 h8 h7 wr8 wr7 c7 c8 f7 f8 hwx
        go_wp2_with fail
        go_ret
        exact ⟨g, l + 13, cap, _, _, rfl, by omega, by omega, by omega, QQ.out _ (hbits _ _), HH.out _, KK.out _⟩
    · by_cases e1 : q = 1
      · subst e1
        clear own6
        go_wp2_with fail
        refine (next_any s _ A n c hi xs ((l + 13 : Nat) : Int) v6 h6 (by omega) (by omega)).mono ?_
        rintro e v7 ⟨j, rfl, j0, j1, _, h7, k7⟩
        have j1' := j1 (by omega)
        clear j1
        obtain ⟨j, rfl⟩ := Int.eq_ofNat_of_zero_le j0
        have hjl : j < l + 13 := by omega
        have hj1 : (j : Int) ≤ (cap : Int) := by omega
        have Q := Lib.hid (((wr6.keep k7 (by omega)).take3_ (Nat.le_of_lt hjl)).wide (lo' := v0.heap.size) (by omega) (by have := k7.size; omega) (Nat.le_refl _))
        have KK := Lib.hid (kb6.trans k7)
        have HH := Lib.hid h7
        clear wr6 kb6 k7 h6 h7
        go_wp2_with fail
        go_ret
        exact ⟨g, j, cap, _, _, rfl, by omega, by omega, by omega, Q.out, HH.out, KK.out⟩
      · by_cases e2 : q = 2
        · subst e2
          clear wr6
          go_wp2_with fail
          have h7a := h6.keep ((Keep.refl 0 0 v6).alloc (.cells ([1, 120].map (Value.int .i64)).toArray 2)) (by omega) (by omega)
          have n7 : v6.heap.size ≠ s := by have := h6.1; omega
          refine (pick_any s _ v6.heap.size 2 A n c hi xs [1, 120] 2 _ h7a (by omega) rfl (by omega) (by omega) n7 (by simp) (row_cells v6 [1, 120] _ _ rfl)).mono ?_
          rintro e v7 ⟨r7, m7, rfl, h7, k7⟩
          have ka7 : Keep s (s + 1) v6 v7 := ((Keep.refl s (s + 1) v6).alloc (.cells ([1, 120].map (Value.int .i64)).toArray 2)).trans k7
          have y7 : 0 ≤ r7 ∧ r7 ≤ 120 := by simp at m7; omega
          have own7 := own_keep own6 ka7 (by omega)
          have kb7 := kb6.trans ka7
          have z7 := ka7.size
          clear m7 h6 h7a own6 kb6 k7 ka7
          go_wp2_with fail
          refine (some_cap s _ A n c hi xs r7 v7 h7 (by omega) (by omega)).mono ?_
          rintro e v8 ⟨gx, cx, ys, rfl, hcx, qx, h8, k8⟩
          have own8 := own_keep own7 k8 (by omega)
          have kb8 := kb7.trans k8
          have z8 := k8.size
          have hl120' : r7.toNat ≤ 120 := by omega
          have hyb := qx.1.byte
          have hgl8 := own8.lt g rfl
          clear own7 kb7 h7 k8
          generalize r7.toNat = l' at *
          go_wp2_with (at_builtin; refine wpList_append_rd rfl (.tmp 50) (.tmp 55) 22 rfl v4.heap.size 5 i0 (.int .u8 0) Tryd.underlying22 hi0 hz0 hz1 hz2 rfl g (l + 13) cap _ rfl own8 (some ⟨gx, 0, none⟩) l' cx _ _ ys rfl qx.1.rd0 (fun h => by cases h) ?k5 ?k6 (by omega) ?_)
          case k5 => unfold maxLen; omega
          case k6 => omega
          intro g9 cap9 v9 own9 grow9 hat9
          have hc9 := own_le own9
          have k9 := Keep.of_append grow9
          have h82 := h8.2.1
          have own9' : v9.ownsRow v4.heap.size 5 1 (.slice (some ⟨g9, 0, none⟩) (l + 13 + l') cap9) (l + 13 + l') ((zs ++ ys).map (Value.int .u8)) := by rw [List.map_append]; exact own9
          have Q := Lib.hid ((Wr.of_own own9' (by unfold maxLen; omega) (fun z hz => (List.mem_append.1 hz).elim (hsb z) (hyb z))).wide (lo' := v0.heap.size) (by omega) (Nat.le_refl _) (Nat.le_refl _))
          have HH := Lib.hid (h8.keep k9 (by omega) (by omega))
          have KK := Lib.hid (kb8.past k9 (by omega))
          clear own9 own9' grow9 hat9 k9 own8 qx h8 kb8
          go_wp2_with fail
          go_ret
          exact ⟨g9, l + 13 + l', cap9, _, _, rfl, by omega, hc9, by omega, Q.out, HH.out, KK.out⟩
        · have Q := Lib.hid (wr6.wide (lo' := v0.heap.size) (by omega) (Nat.le_refl _) (Nat.le_refl _))
          have KK := Lib.hid kb6
          have HH := Lib.hid h6
          clear wr6 kb6 h6 own6
          go_wp2_with fail
          go_ret
          exact ⟨g, l + 13, cap, _, zs, rfl, by omega, by omega, by omega, Q.out, HH.out, KK.out⟩
  · go_enter Tryd.func44, Tryd.ntmps44
    go_wp2_with fail
    refine (l3Key_any K nk ck _ false (decide_eq_false hnk)).mono ?_
    rintro e w0 ⟨rfl, rfl⟩
    go_wp2_with fail
    refine (some_cap s k A n c hi xs 20 v0 h0 (by omega) (by omega)).mono ?_
    rintro e v3 ⟨g, cap, zs, rfl, hc, q3, h3, k3⟩
    clear h0 hkey
    go_wp2_with fail
    go_ret
    exact ⟨g, _, cap, _, zs, rfl, by omega, hc, by omega, q3, h3, k3⟩
set_option maxHeartbeats 1000000 in
theorem drawHead_any (A : Option Addr) (n c hi : Nat) (xs : List Int) (w : World) (h : Rd w 0 hi A n xs) :
    Calls Tryd.prog 14 #[.slice A n c] w (OneListC w 1000) := by
  have htop := h.top
  go_enter Tryd.func14, Tryd.ntmps14
  go_wp2_with fail
  refine (source_any A n c hi xs w h).mono ?_
  rintro e v0 ⟨s, rfl, h0, s0, b0⟩
  have z0 := b0.size
  have hs0 : s < v0.heap.size := h0.1
  go_wp2_with fail
  refine (some_cap s 0 A n c hi xs 32 v0 h0 (by omega) (by omega)).mono ?_
  rintro e v1 ⟨g, cap, zs, rfl, hc, q1, h1, k1⟩
  have z1 := k1.size
  have b1 := b0.trans (k1.below (by omega) b0.size)
  clear b0 h0 k1 h
  go_wp2_with fail
  refine (packet_any s _ A n c hi xs _ _ cap _ _ zs v1 h1 (by omega) q1.1 (by omega)).mono ?_
  rintro e v2 ⟨g2, l2, cap2, k2', zs2, rfl, hl2, hc2, hk2, q2, h2, k2⟩
  have B := Lib.hid (b1.trans (k2.below (by omega) b1.size))
  have Q := Lib.hid (q2.wide (lo' := w.heap.size) (by omega) (Nat.le_refl _) (Nat.le_refl _))
  clear b1 h1 h2 k2 q1 q2
  go_wp2_with fail
  go_ret
  exact ⟨g2, l2, cap2, zs2, rfl, hl2, hc2, Q.out, B.out⟩
set_option maxHeartbeats 1000000 in
theorem drawOpen_any (A : Option Addr) (n c hi : Nat) (xs : List Int) (w : World) (h : Rd w 0 hi A n xs) :
    Calls Tryd.prog 11 #[.slice A n c] w (TwoListsC w 33 1000) := by
  have htop := h.top
  go_enter Tryd.func11, Tryd.ntmps11
  go_wp2_with fail
  refine (source_any A n c hi xs w h).mono ?_
  rintro e v0 ⟨s, rfl, h0, s0, b0⟩
  have z0 := b0.size
  have hs0 : s < v0.heap.size := h0.1
  go_wp2_with fail
  refine (drawKey_any s 0 A n c hi xs v0 h0 (by omega)).mono ?_
  rintro e v1 ⟨g, l, cap, k1', zs, rfl, hl, hc, hk1, q1, h1, k1⟩
  have z1 := k1.size
  have b1 := b0.trans (k1.below (by omega) b0.size)
  clear b0 h0 k1 h
  go_wp2_with fail
  refine (packet_any s _ A n c hi xs _ _ cap _ _ zs v1 h1 (by omega) q1.1 (by omega)).mono ?_
  rintro e v2 ⟨g2, l2, cap2, k2', zs2, rfl, hl2, hc2, hk2, q2, h2, k2⟩
  have B := Lib.hid (b1.trans (k2.below (by omega) b1.size))
  have z2 := k2.size
  have Q1 := Lib.hid ((q1.keep k2 (by omega)).wide (lo' := w.heap.size) (by omega) (by omega) (Nat.le_refl _))
  have Q := Lib.hid (q2.wide (lo' := w.heap.size) (by omega) (Nat.le_refl _) (Nat.le_refl _))
  clear b1 h1 h2 k2 q1 q2
  go_wp2_with fail
  go_ret2
  exact ⟨g, l, cap, g2, l2, cap2, zs, zs2, rfl, hl, hc, hl2, hc2, Q1.out, Q.out, B.out⟩
end Go.Proofs.YtpnpjngaenlciaaDoor
