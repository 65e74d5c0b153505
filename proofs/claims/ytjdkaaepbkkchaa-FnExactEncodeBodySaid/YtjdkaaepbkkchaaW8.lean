/-
  Chapter 7: an item's bytes, both sides.
-/
import Derived.Test.YtjdkaaepbkkchaaW4
import Derived.Test.YtjdkaaepbkkchaaW6
namespace Go.Proofs.Ytjdkaaepbkkchaa
open Go.RowKit
set_option linter.unusedVariables false
set_option maxRecDepth 100000

theorem below_drew {B : Nat} {w w' : World} (h : Below B w w') : Below B w w'.drew := h.trans ⟨rfl, rfl, rfl, Nat.le_refl _, fun _ _ => rfl⟩
def itemL (x : Itm) : List Int := if x.1 = 1 then 1 :: (x.2.1.length : Int) :: x.2.1 else 2 :: (digs x.2.2.1 2 ++ digs x.2.2.2 2)
def bodyL (bs st ec : Int) (xs : List Itm) : List Int := repL bs st ec ++ ((xs.length : Int) :: xs.flatMap itemL)
/-- An item without a fault. -/
theorem item_ok {x : Itm} (h : cdOf x = 0) : (∃ ys, x = (1, ys, 0, 0) ∧ 1 ≤ ys.length ∧ ys.length ≤ 8) ∨ (∃ p q, x = (2, [], p, q) ∧ (1 ≤ p ∧ p ≤ 999) ∧ (1 ≤ q ∧ q ≤ 999)) := by
  obtain ⟨k, ys, p, q⟩ := x
  unfold cdOf itemCode at h
  simp only at h
  split at h
  · rename_i h1
    obtain ⟨rfl, rfl, rfl⟩ := h1
    split at h
    · omega
    · exact .inl ⟨ys, rfl, by omega, by omega⟩
  · split at h
    · rename_i h2
      obtain ⟨rfl, hl⟩ := h2
      obtain rfl : ys = [] := List.eq_nil_of_length_eq_zero hl
      split at h
      · omega
      · exact .inr ⟨p, q, rfl, by omega, by omega⟩
    · omega
theorem itemL_key (ys : List Int) : itemL (1, ys, 0, 0) = [1, (ys.length : Int)] ++ ys := by simp [itemL]
theorem itemL_size (p q : Int) : itemL (2, [], p, q) = [2] ++ (digs p 2 ++ digs q 2) := by simp [itemL]
theorem digs1 (n : Int) (h : 0 ≤ n ∧ n ≤ 255) : digs n 1 = [n] := by
  simp [digs, sh]
  omega
theorem itemL_len {x : Itm} (h : cdOf x = 0) : 1 ≤ (itemL x).length ∧ (itemL x).length ≤ 10 := by
  rcases item_ok h with ⟨ys, rfl, h1, h2⟩ | ⟨p, q, rfl, _, _⟩
  · rw [itemL_key]; simp; omega
  · rw [itemL_size]; simp [digs_len]

set_option maxHeartbeats 4000000 in
theorem l7Item_any (b off lo hi : Nat) (x : Itm) (w : World) (h : ItAt w lo hi b off x) (hbl : b < w.heap.size) (hcd : cdOf x = 0) :
    Calls Try.prog 49 #[.pointer (some ⟨b, off, none⟩)] w fun e w' => ∃ g cap, e = .returned (.slice (some ⟨g, 0, none⟩) (itemL x).length cap) ∧ OwnB w' w.heap.size g (itemL x).length cap (itemL x) ∧ Below w.heap.size w w' := by
  rcases item_ok hcd with ⟨ys, rfl, hl1, hl8⟩ | ⟨p, q, rfl, hp, hq⟩
  · obtain ⟨c0, ⟨G, c, c1, hr, gz⟩, c2, c3⟩ := h
    simp only at c0 c1 c2 c3 hr
    have hby := hr.byte
    obtain ⟨n, hn⟩ : ∃ n, ys.length = n := ⟨_, rfl⟩
    rw [hn] at c1 hr hl1 hl8
    have hz : (itemL (1, ys, 0, 0)).length = 2 + n := by rw [itemL_key]; simp [hn]; omega
    have hzz := itemL_key ys
    rw [hn] at hzz
    generalize itemL (1, ys, 0, 0) = Z at *
    have HZ := Lib.hid hzz
    rw [hz]
    have HS := Lib.hid (fun (w' : World) (k : Below w.heap.size w w') => (k.cell (p := ⟨b, off + 1, none⟩) hbl).trans c1)
    have bd0 : Below w.heap.size w w.drew := below_drew (Below.refl _ _)
    have hw8 : IntKind.u8.wrap (n : Int) = (n : Int) := by rw [IntKind.wrap_u8]; omega
    have ha : Below w.heap.size w (w.alloc (.cells #[.int .u8 1, .int .u8 (n : Int)] 5)) := (Below.refl _ _).alloc (Nat.le_refl _) _
    have hA : OwnB (w.alloc (.cells #[.int .u8 1, .int .u8 (n : Int)] 5)).drew w.heap.size w.heap.size 2 2 [1, (n : Int)] := OwnB.lit w _ [1, (n : Int)] rfl (by omega) (by simp; omega) rfl
    have hR0 := hr.keep (Keep.of_below ha 0 0) (by omega)
    have hR : Rd (w.alloc (.cells #[.int .u8 1, .int .u8 (n : Int)] 5)).drew lo hi G n ys := hR0
    have bd : Below w.heap.size w (w.alloc (.cells #[.int .u8 1, .int .u8 (n : Int)] 5)).drew := below_drew ha
    clear ha hr hzz hz hR0
    go_enter Try.func49, Try.ntmps49
    go_wp2_with fail
    go_region_held3 (fun w' => w'.cell? ⟨b, off + 1, none⟩ = some (.slice G n c))
      (first | exact HS.out _ bd0 | exact HS.out _ bd | go_keep)
      (first
        | (refine step_append_ob rfl _ _ rfl w.heap.size w.heap.size 2 2 _ rfl hA G n c _ _ _ rfl hR gz (by omega) (by simp) ?_; intro g4 c4 v4 hp; have p1 := hp.own; replace bd := bd.trans (hp.below (Nat.le_refl _) (by simp))))
    rw [← HZ.out] at p1
    have HO := Lib.hid p1
    clear hp p1 hA hR
    go_wp2_with fail
    go_ret
    exact ⟨g4, c4, rfl, HO.out, bd⟩
  · obtain ⟨c0, _, c2, c3⟩ := h
    simp only at c0 c2 c3
    have hz : (itemL (2, [], p, q)).length = 5 := by rw [itemL_size]; simp [digs_len]
    have hzz := itemL_size p q
    generalize itemL (2, [], p, q) = Z at *
    have HZ := Lib.hid hzz
    rw [hz]
    have HS := Lib.hid (fun (w' : World) (k : Below w.heap.size w w') => (⟨(k.cell (p := ⟨b, off + 2, none⟩) hbl).trans c2, (k.cell (p := ⟨b, off + 3, none⟩) hbl).trans c3⟩ : w'.cell? ⟨b, off + 2, none⟩ = some (.int .i64 p) ∧ w'.cell? ⟨b, off + 3, none⟩ = some (.int .i64 q)))
    have ha0 : Below w.heap.size w (w.alloc (.cells #[.int .u8 2] 5)) := (Below.refl _ _).alloc (Nat.le_refl _) _
    have ha : Below w.heap.size w (w.alloc (.cells #[.int .u8 2] 5)).drew := below_drew ha0
    clear ha0
    have bd : Below w.heap.size w w.drew := ⟨rfl, rfl, rfl, Nat.le_refl _, fun _ _ => rfl⟩
    have szd := bd.size
    have hA : OwnB (w.alloc (.cells #[.int .u8 2] 5)).drew w.heap.size w.heap.size 1 1 [2] := OwnB.lit w _ [2] rfl (by omega) (by simp) rfl
    clear hzz hz
    go_enter Try.func49, Try.ntmps49
    go_wp2_with fail
    go_region_held3 (fun w' => w'.cell? ⟨b, off + 2, none⟩ = some (.int .i64 p) ∧ w'.cell? ⟨b, off + 3, none⟩ = some (.int .i64 q))
      (first | exact HS.out _ bd | exact HS.out _ ha | exact HS.out _ (bd.alloc szd _) | go_keep)
      (first
        | (go_at_call_of 48 p; refine (l1High_own p 2 w.drew (by omega) (by omega) (by omega)).mono ?_; rintro e v1 ⟨g1, c1, rfl, o1, hb⟩; have hB := hb; replace bd := bd.trans (hb.mono szd); have szd := bd.size; have oz := OwnB.lit (n := 1) v1 #[.int .u8 2] [2] rfl (by omega) (by simp) rfl; have oy := o1.below ((Below.refl _ _).alloc (Nat.le_refl _) (.cells #[.int .u8 2] 5)); have bd2 := bd.alloc szd (.cells #[.int .u8 2] 5); have oz' := oz.down szd)
        | (go_at_call_of 48 p; refine (l1High_own p 2 (w.alloc (.cells #[.int .u8 2] 5)).drew (by omega) (by omega) (by omega)).mono ?_; rintro e v1 ⟨g1, c1, rfl, o1, hb⟩; have oz' := hA.below hb; have oy := o1; have bd2 := ha.trans (hb.mono ha.size); replace bd := bd2; have szd := bd.size)
        | (refine step_append_ob rfl _ _ rfl w.heap.size _ 1 1 _ rfl oz' (some ⟨g1, 0, none⟩) 2 c1 _ _ _ rfl oy.wr.1 some_ne (by omega) bd2.size ?_; intro g4 c4 v4 hp; have p1 := hp.own; replace bd := bd2.trans (hp.below oz'.le bd2.size); have szd := bd.size)
        | (go_at_call_of 48 q; refine (l1High_own q 2 v4 (by omega) (by omega) (by omega)).mono ?_; rintro e v5 ⟨g5, c5, rfl, o5, hb⟩; have p1' := p1.below hb; replace bd := bd.trans (hb.mono szd); have szd := bd.size)
        | (refine step_append_ob rfl _ _ rfl w.heap.size g4 3 c4 _ rfl p1' (some ⟨g5, 0, none⟩) 2 c5 _ _ _ rfl o5.wr.1 some_ne (by omega) szd ?_; intro g6 c6 v6 hp2; have p2 := hp2.own; replace bd := bd.trans (hp2.below p1'.le szd); have szd := bd.size))
    all_goals
      rw [List.append_assoc, ← HZ.out] at p2
      have HO := Lib.hid p2
      clear p2 hp2 p1 p1' hp
      go_wp2_with fail
      go_ret
      exact ⟨g6, c6, rfl, HO.out, bd⟩
end Go.Proofs.Ytjdkaaepbkkchaa
