/-
  W19, W20, W21, W26, W27, in one text.
-/
import Derived.Test.YtjdkaaepbkkchaaDoorZ4
import Derived.Test.YtjdkaaepbkkchaaDoorVec
import Derived.Test.YtjdkaaepbkkchaaDoorMath1
import Derived.Test.YtjdkaaepbkkchaaDoorW16
import Derived.Test.YtjdkaaepbkkchaaDoorVal
namespace Go.Proofs.YtjdkaaepbkkchaaDoor
open Go.RowKit
set_option linter.unusedVariables false
set_option maxRecDepth 100000

/-- The item that some bytes begin with, and how many it has. -/
def rdItem (bs : List Int) : Option (Itm × Nat) :=
  if 2 ≤ bs.length ∧ bs.getD 0 0 = 1 ∧ 2 + (bs.getD 1 0).toNat ≤ bs.length then some ((1, part bs 2 (bs.getD 1 0).toNat, 0, 0), 2 + (bs.getD 1 0).toNat)
  else if 5 ≤ bs.length ∧ bs.getD 0 0 = 2 then some ((2, [], val (part bs 1 2), val (part bs 3 2)), 5)
  else none
theorem rd_key {bs : List Int} {m : Nat} (h : 2 ≤ bs.length) (h0 : bs.getD 0 0 = 1) (h1 : bs.getD 1 0 = (m : Int)) (h2 : 2 + m ≤ bs.length) : rdItem bs = some ((1, part bs 2 m, 0, 0), 2 + m) := by
  unfold rdItem
  rw [h1, Int.toNat_natCast, if_pos ⟨h, h0, h2⟩]
theorem rd_key_no {bs : List Int} (h0 : bs.getD 0 0 = 1) (h : ¬ (2 ≤ bs.length ∧ 2 + (bs.getD 1 0).toNat ≤ bs.length)) : rdItem bs = none := by
  unfold rdItem
  rw [if_neg (fun e => h ⟨e.1, e.2.2⟩), if_neg (fun e => by omega)]
theorem rd_size {bs : List Int} (h : 5 ≤ bs.length) (h0 : bs.getD 0 0 = 2) : rdItem bs = some ((2, [], val (part bs 1 2), val (part bs 3 2)), 5) := by
  unfold rdItem
  rw [if_neg (fun e => by omega), if_pos ⟨h, h0⟩]
theorem rd_size_no {bs : List Int} (h0 : bs.getD 0 0 = 2) (h : ¬ 5 ≤ bs.length) : rdItem bs = none := by
  unfold rdItem
  rw [if_neg (fun e => by omega), if_neg (fun e => h e.1)]
theorem rd_other {bs : List Int} (h1 : bs.getD 0 0 ≠ 1) (h2 : bs.getD 0 0 ≠ 2) : rdItem bs = none := by
  unfold rdItem
  rw [if_neg (fun e => h1 e.2.1), if_neg (fun e => h2 e.2)]
theorem rd_nil : rdItem [] = none := by simp [rdItem]
theorem rd_pos {bs : List Int} {x : Itm} {k : Nat} (h : rdItem bs = some (x, k)) : 0 < k ∧ k ≤ bs.length ∧ x.2.1.length ≤ bs.length := by
  unfold rdItem at h
  split at h
  · rename_i hc
    injection h with h
    injection h with h1 h2
    subst h1 h2
    refine ⟨by omega, hc.2.2, ?_⟩
    simp [part]
    omega
  · split at h
    · rename_i hc
      injection h with h
      injection h with h1 h2
      subst h1 h2
      exact ⟨by omega, hc.1, by simp⟩
    · cases h
theorem part_app {xs ys : List Int} (k m : Nat) (h : k + m ≤ xs.length) : part (xs ++ ys) k m = part xs k m := by
  unfold part
  rw [List.drop_append_of_le_length (by omega), List.take_append_of_le_length (by rw [List.length_drop]; omega)]
theorem part_two (a b c : List Int) : part (a ++ (b ++ c)) a.length b.length = b := by
  simp [part]
/-- What an item's bytes begin with is that item. -/
theorem rd_itemL {x : Itm} (h : cdOf x = 0) (r : List Int) : rdItem (itemL x ++ r) = some (x, (itemL x).length) := by
  rcases item_ok h with ⟨ys, rfl, h1, h2⟩ | ⟨p, q, rfl, hp, hq⟩
  · have e : itemL (1, ys, 0, 0) ++ r = [1, (ys.length : Int)] ++ (ys ++ r) := by rw [itemL_key, List.append_assoc]
    have el : (itemL (1, ys, 0, 0)).length = 2 + ys.length := by rw [itemL_key]; simp; omega
    rw [e, el, rd_key (m := ys.length) (by simp) (by simp) (by simp) (by simp; omega)]
    rw [show part ([1, (ys.length : Int)] ++ (ys ++ r)) 2 ys.length = ys from part_two [1, (ys.length : Int)] ys r]
  · have e : itemL (2, [], p, q) ++ r = [2] ++ (digs p 2 ++ (digs q 2 ++ r)) := by rw [itemL_size]; simp
    have el : (itemL (2, [], p, q)).length = 5 := by rw [itemL_size]; simp [digs_len]
    have s0 : ∀ n : Int, 1 ≤ n ∧ n ≤ 999 → sh n 2 = 0 := fun n hn => by
      unfold sh
      rw [show (256 : Int) ^ 2 = 65536 from by decide]
      omega
    rw [e, el, rd_size (by simp [digs_len]; omega) (by simp)]
    have e1 : part ([2] ++ (digs p 2 ++ (digs q 2 ++ r))) 1 2 = digs p 2 := by
      have := part_two [2] (digs p 2) (digs q 2 ++ r)
      rwa [digs_len] at this
    have e2 : part ([2] ++ (digs p 2 ++ (digs q 2 ++ r))) 3 2 = digs q 2 := by
      have := part_two ([2] ++ digs p 2) (digs q 2) r
      rw [digs_len] at this
      rw [show ([(2 : Int)] ++ digs p 2).length = 3 by simp [digs_len], List.append_assoc] at this
      exact this
    rw [e1, e2, val_digs p 2 (s0 p hp), val_digs q 2 (s0 q hq)]

/-- These items are read, one behind the other; so much is left. -/
def Reads : List Int → List Itm → List Int → Prop
  | b, [], r => r = b
  | b, y :: ys, r => ∃ k, rdItem b = some (y, k) ∧ Reads (b.drop k) ys r
theorem Reads.snoc : ∀ {ys : List Itm} {b r : List Int} {x : Itm} {k : Nat}, Reads b ys r → rdItem r = some (x, k) → Reads b (ys ++ [x]) (r.drop k)
  | [], b, r, x, k, h, hx => by
    obtain rfl : r = b := h
    exact ⟨k, hx, rfl⟩
  | y :: ys, b, r, x, k, h, hx => by
    obtain ⟨j, h1, h2⟩ := h
    exact ⟨j, h1, Reads.snoc h2 hx⟩
theorem itemsL_cons (x : Itm) (xs : List Itm) : (x :: xs).flatMap itemL = itemL x ++ xs.flatMap itemL := by simp
/-- From the bytes of items without a fault these are read, and no others. -/
theorem Reads.of_items : ∀ {ys xs : List Itm} {r : List Int}, (∀ x ∈ xs, cdOf x = 0) → Reads (xs.flatMap itemL) ys r → ys.length ≤ xs.length ∧ ys = xs.take ys.length ∧ r = (xs.drop ys.length).flatMap itemL
  | [], xs, r, _, h => by
    obtain rfl : r = _ := h
    simp
  | y :: ys, [], r, _, h => by
    obtain ⟨k, h1, _⟩ := h
    rw [show ([] : List Itm).flatMap itemL = [] from rfl, rd_nil] at h1
    cases h1
  | y :: ys, x :: xs, r, hx, h => by
    obtain ⟨k, h1, h2⟩ := h
    rw [itemsL_cons, rd_itemL (hx x (by simp))] at h1
    injection h1 with h1
    injection h1 with e1 e2
    subst e1 e2
    rw [itemsL_cons, List.drop_left] at h2
    obtain ⟨q1, q2, q3⟩ := Reads.of_items (fun z hz => hx z (by simp [hz])) h2
    exact ⟨by simpa using q1, by simpa using q2, by simpa using q3⟩
/-- These bytes say this body. -/
def isBody (ps : List Int) (bs st ec : Int) (xs : List Itm) : Prop := bodyCode bs st ec xs = 0 ∧ bodyL bs st ec xs = ps
theorem body_drop {ps : List Int} {bs st ec : Int} {xs : List Itm} (h : isBody ps bs st ec xs) : 10 ≤ ps.length ∧ ps.drop 10 = xs.flatMap itemL ∧ ps.getD 9 0 = (xs.length : Int) := by
  obtain ⟨_, rfl⟩ := h
  have hl := repL_len bs st ec
  unfold bodyL
  refine ⟨by simp [hl]; omega, ?_, ?_⟩
  · rw [show repL bs st ec ++ ((xs.length : Int) :: xs.flatMap itemL) = (repL bs st ec ++ [(xs.length : Int)]) ++ xs.flatMap itemL by simp]
    exact List.drop_left' (by simp [hl])
  · rw [List.getD_eq_getElem?_getD, List.getElem?_append_right (by omega), hl]
    rfl
theorem body_rv {ps : List Int} {bs st ec : Int} {xs : List Itm} (h : isBody ps bs st ec xs) : val (ps.take 4) = bs ∧ val (part ps 4 2) = st ∧ val (part ps 6 3) = ec := by
  obtain ⟨hc, rfl⟩ := h
  obtain ⟨⟨hs, he⟩, hb, _⟩ := body_ok hc
  have s4 : sh bs 4 = 0 := by
    unfold sh
    rw [show (256 : Int) ^ 4 = 4294967296 from by decide]
    omega
  have s2 : sh st 2 = 0 := by
    unfold sh
    rw [show (256 : Int) ^ 2 = 65536 from by decide]
    omega
  have s3 : sh ec 3 = 0 := by
    unfold sh
    rw [show (256 : Int) ^ 3 = 16777216 from by decide]
    omega
  generalize hr : ((xs.length : Int) :: xs.flatMap itemL) = r
  have e : bodyL bs st ec xs = digs bs 4 ++ (digs st 2 ++ (digs ec 3 ++ r)) := by unfold bodyL repL; rw [hr]; simp
  rw [e]
  refine ⟨?_, ?_, ?_⟩
  · rw [List.take_left' (digs_len bs 4), val_digs bs 4 s4]
  · have := part_two (digs bs 4) (digs st 2) (digs ec 3 ++ r)
    rw [digs_len, digs_len] at this
    rw [this, val_digs st 2 s2]
  · have := part_two (digs bs 4 ++ digs st 2) (digs ec 3) r
    rw [digs_len, show (digs bs 4 ++ digs st 2).length = 6 by simp [digs_len], List.append_assoc] at this
    rw [this, val_digs ec 3 s3]
/-- What is said by these bytes: the body, or nothing. -/
def Dec (ps : List Int) (cd bs st ec : Int) (xs : List Itm) : Prop := (cd = 0 ∧ isBody ps bs st ec xs) ∨ ((cd = 5 ∧ bs = 0 ∧ st = 0 ∧ ec = 0 ∧ xs = []) ∧ ∀ b s e ys, ¬ isBody ps b s e ys)
theorem dec_some (ps : List Int) : ∃ cd bs st ec xs, Dec ps cd bs st ec xs := by
  by_cases h : ∃ b s e ys, isBody ps b s e ys
  · obtain ⟨b, s, e, ys, h⟩ := h
    exact ⟨0, b, s, e, ys, .inl ⟨rfl, h⟩⟩
  · exact ⟨5, 0, 0, 0, [], .inr ⟨⟨rfl, rfl, rfl, rfl, rfl⟩, fun b s e ys hb => h ⟨b, s, e, ys, hb⟩⟩⟩
/-- All has been read, and it is a body's: then it is this one. -/
theorem body_all {ps : List Int} {bs st ec : Int} {xs ys : List Itm} {r : List Int} (h : isBody ps bs st ec xs) (hr : Reads (ps.drop 10) ys r) (hn : ys.length = xs.length) : ys = xs := by
  rw [(body_drop h).2.1] at hr
  have := (hr.of_items (body_ok h.1).2.2.2.1).2.1
  rw [this, hn, List.take_of_length_le (Nat.le_refl _)]
/-- As long as not all has been read, there is an item to be read. -/
theorem body_more {ps : List Int} {bs st ec : Int} {xs ys : List Itm} {r : List Int} (h : isBody ps bs st ec xs) (hr : Reads (ps.drop 10) ys r) : (ys.length < xs.length → rdItem r ≠ none) ∧ (r ≠ [] → ys.length < xs.length) ∧ (r = [] → ys.length = xs.length) := by
  rw [(body_drop h).2.1] at hr
  have hx := (body_ok h.1).2.2.2.1
  obtain ⟨q1, _, q3⟩ := hr.of_items hx
  have hd : ys.length < xs.length → ∃ x, x ∈ xs ∧ r = itemL x ++ (xs.drop (ys.length + 1)).flatMap itemL := fun hlt => by
    refine ⟨xs[ys.length], List.getElem_mem hlt, ?_⟩
    rw [q3, List.drop_eq_getElem_cons hlt, itemsL_cons]
  refine ⟨fun hlt e => ?_, fun hne => ?_, fun he => ?_⟩
  · obtain ⟨x, hm, hr'⟩ := hd hlt
    rw [hr', rd_itemL (hx x hm)] at e
    cases e
  · rcases Nat.lt_or_ge ys.length xs.length with hlt | hge
    · exact hlt
    · exact absurd (by rw [q3, List.drop_of_length_le hge]; rfl) hne
  · rcases Nat.lt_or_ge ys.length xs.length with hlt | hge
    · obtain ⟨x, hm, hr'⟩ := hd hlt
      have := congrArg List.length hr'
      rw [he, List.length_append] at this
      have := (itemL_len (hx x hm)).1
      simp at *
      omega
    · omega
end Go.Proofs.YtjdkaaepbkkchaaDoor
namespace Go.Proofs.YtjdkaaepbkkchaaDoor
open Go.RowKit
set_option linter.unusedVariables false
set_option maxRecDepth 100000

theorem val_one {bs : List Int} (h : 1 ≤ bs.length) : val (bs.take 1) = bs.getD 0 0 := by
  rcases bs with _ | ⟨b, bs⟩
  · simp at h
  · simp [val]
theorem drop_getD (bs : List Int) (k j : Nat) : (bs.drop k).getD j 0 = bs.getD (k + j) 0 := by simp [List.getD_eq_getElem?_getD, List.getElem?_drop]
theorem BoxL.four {w : World} {b : Nat} {u0 u1 u2 u3 : Value} (h : BoxL w b [u0, u1, u2, u3]) (v0 v1 v2 v3 : Value) : BoxL ((((w.setCell ⟨b, 0, none⟩ v0).setCell ⟨b, 1, none⟩ v1).setCell ⟨b, 2, none⟩ v2).setCell ⟨b, 3, none⟩ v3) b [v0, v1, v2, v3] :=
  (((h.set 0 v0 (by simp)).set 1 v1 (by simp)).set 2 v2 (by simp)).set 3 v3 (by simp)
theorem Keep.four {lo hi : Nat} {a w : World} {b : Nat} (h : Keep lo hi a w) (hb : lo ≤ b ∧ b < hi) (v0 v1 v2 v3 : Value) : Keep lo hi a ((((w.setCell ⟨b, 0, none⟩ v0).setCell ⟨b, 1, none⟩ v1).setCell ⟨b, 2, none⟩ v2).setCell ⟨b, 3, none⟩ v3) :=
  (((h.setCell (p := ⟨b, 0, none⟩) hb v0).setCell (p := ⟨b, 1, none⟩) hb v1).setCell (p := ⟨b, 2, none⟩) hb v2).setCell (p := ⟨b, 3, none⟩) hb v3
/-- Old blocks but one are as they were: a new block may be written besides. -/
theorem Keep.fresh4 {lo hi : Nat} {a w : World} {b : Nat} (h : Keep lo hi a w) (hb : a.heap.size ≤ b) (v0 v1 v2 v3 : Value) : Keep lo hi a ((((w.setCell ⟨b, 0, none⟩ v0).setCell ⟨b, 1, none⟩ v1).setCell ⟨b, 2, none⟩ v2).setCell ⟨b, 3, none⟩ v3) := by
  refine ⟨h.os, h.tape, h.output, by simpa using h.size, fun q hq ho => ?_⟩
  rw [Below.heap_setCell _ _ _ _ (show q ≠ b by omega), Below.heap_setCell _ _ _ _ (show q ≠ b by omega), Below.heap_setCell _ _ _ _ (show q ≠ b by omega), Below.heap_setCell _ _ _ _ (show q ≠ b by omega)]
  exact h.block q hq ho

set_option maxHeartbeats 1000000 in
theorem itemWith_key (A : Option Addr) (n c lo hi : Nat) (xs : List Int) (w : World) (h : Rd w lo hi A n xs) (hA : A = none → c = 0) (hn : n ≤ 4194304) :
    Calls Tryd.prog 91 #[.int .i64 1, .slice A n c] w fun e w' => ∃ G cap, e = .returned (.agg #[.int .i64 1, .slice G n cap, .int .i64 0, .int .i64 0]) ∧ (G = none → cap = 0) ∧ Wr w' w.heap.size w'.heap.size G n xs ∧ Below w.heap.size w w' := by
  have htop := h.top
  have b1 : Below w.heap.size w (w.alloc (.cells #[.int .i64 0, .slice none 0 0, .int .i64 0, .int .i64 0] 55)) := (Below.refl _ _).alloc (Nat.le_refl _) _
  have b2 : Below w.heap.size w ((w.alloc (.cells #[.int .i64 0, .slice none 0 0, .int .i64 0, .int .i64 0] 55)).alloc (.cells #[.slice A n c] 22)) := b1.alloc (by simp) _
  have x4 := (BoxL.new w [.int .i64 0, .slice none 0 0, .int .i64 0, .int .i64 0] #[.int .i64 0, .slice none 0 0, .int .i64 0, .int .i64 0] 55 rfl).below ((Below.refl _ _).alloc (Nat.le_refl _) (.cells #[.slice A n c] 22))
  have xs1 := BoxL.new (w.alloc (.cells #[.int .i64 0, .slice none 0 0, .int .i64 0, .int .i64 0] 55)) [.slice A n c] #[.slice A n c] 22 rfl
  simp only [World.size_alloc] at xs1
  have hr := (h.keep (Keep.of_below b2 0 0) (by omega)).wide (Nat.zero_le _) (Nat.le_refl _) (by simp; omega)
  have HC := Lib.hid (concat1_any (w.heap.size + 1) 1 hi A n c xs _ xs1.lt (xs1.at_ 0 _ rfl) hr hA hn)
  have X4 := Lib.hid x4
  have B2 := Lib.hid b2
  clear b1 b2 x4 xs1 hr h
  go_enter Tryd.func91, Tryd.ntmps91
  go_wp2_with fail
  refine HC.out.mono ?_
  rintro e w1 ⟨G, cap, rfl, gz, hw, hb⟩
  have x4 := X4.out.below hb
  have bb := B2.out.trans (hb.mono B2.out.size)
  have hz := hb.size
  simp only [World.size_alloc] at hz hw
  have kk : Keep w.heap.size (w.heap.size + 1) w1 ((((w1.setCell ⟨w.heap.size, 0, none⟩ (.int .i64 1)).setCell ⟨w.heap.size, 1, none⟩ (.slice G n cap)).setCell ⟨w.heap.size, 2, none⟩ (.int .i64 0)).setCell ⟨w.heap.size, 3, none⟩ (.int .i64 0)) := (Keep.refl _ _ w1).four ⟨Nat.le_refl _, Nat.lt_succ_self _⟩ _ _ _ _
  have HW := Lib.hid ((hw.keep kk (by omega)).wide (lo' := w.heap.size) (by omega) kk.size (Nat.le_refl _))
  have HF := Lib.hid (below4 bb (Nat.le_refl _) (.int .i64 1) (.slice G n cap) (.int .i64 0) (.int .i64 0))
  obtain ⟨e0, e1, e2, e3⟩ := set4 x4 (.int .i64 1) (.slice G n cap) (.int .i64 0) (.int .i64 0)
  have hlt := x4.lt
  have c0 := x4.at_ 0 _ rfl
  have c1 := x4.at_ 1 _ rfl
  have c2 := x4.at_ 2 _ rfl
  have c3 := x4.at_ 3 _ rfl
  have f0 := x4.fz 0
  have f1 := x4.fz 1
  have f2 := x4.fz 2
  have f3 := x4.fz 3
  clear x4 hb bb hw kk
  go_wp2_with fail
  exact bodyPost_ret (v := .agg #[.int .i64 1, .slice G n cap, .int .i64 0, .int .i64 0]) (by simp [results, Tryd.results91, go_sem, e0, e1, e2, e3]) rfl ⟨_, _, rfl, gz, HW.out, HF.out⟩

set_option maxHeartbeats 1000000 in
theorem itemWith_size (A : Option Addr) (c lo hi : Nat) (xs : List Int) (w : World) (h : Rd w lo hi A 4 xs) (hc : 4 ≤ c) (hA : (A = none ∧ c = 0) ∨ ∃ g off, A = some ⟨g, off, none⟩) :
    Calls Tryd.prog 91 #[.int .i64 2, .slice A 4 c] w fun e w' => e = .returned (.agg #[.int .i64 2, .slice none 0 0, .int .i64 (val (xs.take 2)), .int .i64 (val ((xs.drop 2).take 2))]) ∧ Below w.heap.size w w' := by
  have htop := h.top
  have hl := h.len
  have b1 : Below w.heap.size w (w.alloc (.cells #[.int .i64 0, .slice none 0 0, .int .i64 0, .int .i64 0] 55)) := (Below.refl _ _).alloc (Nat.le_refl _) _
  have b2 : Below w.heap.size w ((w.alloc (.cells #[.int .i64 0, .slice none 0 0, .int .i64 0, .int .i64 0] 55)).alloc (.cells #[.slice A 4 c] 101)) := b1.alloc (by simp) _
  have x4 := (BoxL.new w [.int .i64 0, .slice none 0 0, .int .i64 0, .int .i64 0] #[.int .i64 0, .slice none 0 0, .int .i64 0, .int .i64 0] 55 rfl).below ((Below.refl _ _).alloc (Nat.le_refl _) (.cells #[.slice A 4 c] 101))
  have xs1 := BoxL.new (w.alloc (.cells #[.int .i64 0, .slice none 0 0, .int .i64 0, .int .i64 0] 55)) [.slice A 4 c] #[.slice A 4 c] 101 rfl
  simp only [World.size_alloc] at xs1
  have hr := h.keep (Keep.of_below b2 0 0) (by omega)
  have hR : Rdr ((w.alloc (.cells #[.int .i64 0, .slice none 0 0, .int .i64 0, .int .i64 0] 55)).alloc (.cells #[.slice A 4 c] 101)) (w.heap.size + 1) lo hi xs :=
    ⟨xs1.lt, by omega, xs1.fz 0, A, 4, c, xs1.at_ 0 _ rfl, hr, hc, hA⟩
  have HN1 := Lib.hid (number_yes _ lo hi 2 xs _ hR (by omega) (by omega) (by omega))
  have HN2 := Lib.hid (fun w' (h' : Rdr w' (w.heap.size + 1) lo hi (xs.drop 2)) => number_yes _ lo hi 2 _ w' h' (by rw [List.length_drop]; omega) (by omega) (by omega))
  generalize val (xs.take 2) = v1 at *
  generalize val ((xs.drop 2).take 2) = v2 at *
  have X4 := Lib.hid x4
  have B2 := Lib.hid b2
  clear b1 b2 x4 xs1 hr h hR hA
  go_enter Tryd.func91, Tryd.ntmps91
  go_wp2_with fail
  refine HN1.out.mono ?_
  rintro e w1 ⟨rfl, r1, k1⟩
  go_wp2_with fail
  refine (HN2.out _ r1).mono ?_
  rintro e w2 ⟨rfl, r2, k2⟩
  have k12 := k1.trans k2
  have x4 := X4.out.keep k12 (by omega)
  have bb := B2.out.trans (k12.below (.inl (by omega)) B2.out.size)
  have HF := Lib.hid (below4 bb (Nat.le_refl _) (.int .i64 2) (.slice none 0 0) (.int .i64 v1) (.int .i64 v2))
  obtain ⟨e0, e1, e2, e3⟩ := set4 x4 (.int .i64 2) (.slice none 0 0) (.int .i64 v1) (.int .i64 v2)
  have hlt := x4.lt
  have c0 := x4.at_ 0 _ rfl
  have c1 := x4.at_ 1 _ rfl
  have c2 := x4.at_ 2 _ rfl
  have c3 := x4.at_ 3 _ rfl
  have f0 := x4.fz 0
  have f1 := x4.fz 1
  have f2 := x4.fz 2
  have f3 := x4.fz 3
  clear x4 k1 k2 k12 bb r1 r2
  go_wp2_with fail
  exact bodyPost_ret (v := .agg #[.int .i64 2, .slice none 0 0, .int .i64 v1, .int .i64 v2]) (by simp [results, Tryd.results91, go_sem, e0, e1, e2, e3]) rfl ⟨rfl, HF.out⟩
end Go.Proofs.YtjdkaaepbkkchaaDoor
namespace Go.Proofs.YtjdkaaepbkkchaaDoor
open Go.RowKit
set_option linter.unusedVariables false
set_option maxRecDepth 100000

theorem Rdr.byte {w : World} {b lo hi : Nat} {xs : List Int} (h : Rdr w b lo hi xs) : ∀ x ∈ xs, 0 ≤ x ∧ x ≤ 255 := by
  obtain ⟨A, n, c, _, hr, _⟩ := h.st
  exact hr.byte
theorem noneC {A : Option Addr} {c : Nat} (h : (A = none ∧ c = 0) ∨ ∃ g off, A = some ⟨g, off, none⟩) : A = none → c = 0 := fun e => by
  rcases h with ⟨_, h⟩ | ⟨g, off, h⟩
  · exact h
  · rw [e] at h; cases h
set_option maxHeartbeats 2000000 in
theorem item_yes (b lo hi : Nat) (r : List Int) (x : Itm) (k : Nat) (w : World) (h : Rdr w b lo hi r) (hx : rdItem r = some (x, k)) :
    Calls Tryd.prog 86 #[.pointer (some ⟨b, 0, none⟩)] w fun e w' => ∃ G c, e = .returned (.agg #[.int .i64 x.1, .slice G x.2.1.length c, .int .i64 x.2.2.1, .int .i64 x.2.2.2]) ∧ (G = none → c = 0) ∧ Wr w' w.heap.size w'.heap.size G x.2.1.length x.2.1 ∧ Rdr w' b lo hi (r.drop k) ∧ Keep b (b + 1) w w' := by
  have hlt := h.lt
  have hby := h.byte
  have b1 : Below w.heap.size w (w.alloc (.cells #[.int .i64 0, .slice none 0 0, .int .i64 0, .int .i64 0] 55)) := (Below.refl _ _).alloc (Nat.le_refl _) _
  have h1 := h.below b1
  have X2 := Lib.hid (BoxL.new w [.int .i64 0, .slice none 0 0, .int .i64 0, .int .i64 0] #[.int .i64 0, .slice none 0 0, .int .i64 0, .int .i64 0] 55 rfl)
  have K1 := Lib.hid (Keep.of_below b1 b (b + 1))
  have hz1 : (w.alloc (.cells #[.int .i64 0, .slice none 0 0, .int .i64 0, .int .i64 0] 55)).heap.size = w.heap.size + 1 := by simp
  unfold rdItem at hx
  split at hx
  · rename_i hc
    obtain ⟨q1, q2, q3⟩ := hc
    injection hx with hx
    injection hx with e1 e2
    subst e1 e2
    have hb1 := hby _ (getD_mem r 1 (by omega))
    obtain ⟨m, hm⟩ := Int.eq_ofNat_of_zero_le hb1.1
    rw [hm, Int.toNat_natCast] at q3 ⊢
    have hm8 : m ≤ 255 := by omega
    have hpl : (part r 2 m).length = m := by simp [part]; omega
    have HN1 := Lib.hid (number_yes b lo hi 1 r _ h1 (by omega) (by omega) (by omega))
    rw [val_one (by omega), q2] at HN1
    have HN2 := Lib.hid (fun w' (h' : Rdr w' b lo hi (r.drop 1)) => number_yes b lo hi 1 _ w' h' (by rw [List.length_drop]; omega) (by omega) (by omega))
    rw [val_one (by rw [List.length_drop]; omega), drop_getD, hm, List.drop_drop] at HN2
    have HT := Lib.hid (fun w' (h' : Rdr w' b lo hi (r.drop (1 + 1))) => take_yes b lo hi m _ w' h' (by rw [List.length_drop]; omega))
    rw [List.drop_drop, show (List.drop (1 + 1) r).take m = part r 2 m from rfl] at HT
    have HW := Lib.hid (fun (A : Option Addr) (c : Nat) (w' : World) (hr : Rd w' lo hi A m (part r 2 m)) (hA : A = none → c = 0) => itemWith_key A m c lo hi _ w' hr hA (by omega))
    simp only [hpl]
    generalize part r 2 m = zs at *
    rw [show 1 + 1 + m = 2 + m from rfl] at HT
    clear h1 h hm hpl b1 hby hb1 q1 q2 q3
    go_enter Tryd.func86, Tryd.ntmps86
    go_wp2_with fail
    refine HN1.out.mono ?_
    rintro e w1 ⟨rfl, r1, k1⟩
    go_wp2_with fail
    refine (HN2.out _ r1).mono ?_
    rintro e w2 ⟨rfl, r2, k2⟩
    go_wp2_with fail
    refine (HT.out _ r2).mono ?_
    rintro e w3 ⟨A, c, rfl, hr, hmc, hA, r3, k3⟩
    go_wp2_with fail
    refine (HW.out A c _ hr (noneC hA)).mono ?_
    rintro e w4 ⟨G, cap, rfl, gz, hw, b4⟩
    have k13 := k1.trans (k2.trans k3)
    have k14 := k13.trans (Keep.of_below b4 b (b + 1))
    have x2 := X2.out.keep k14 (by omega)
    have r4 := r3.below b4
    have kk := K1.out.trans k14
    have hz3 := k13.size
    rw [hz1] at hz3
    have kw : Keep w.heap.size (w.heap.size + 1) w4 ((((w4.setCell ⟨w.heap.size, 0, none⟩ (.int .i64 1)).setCell ⟨w.heap.size, 1, none⟩ (.slice G m cap)).setCell ⟨w.heap.size, 2, none⟩ (.int .i64 0)).setCell ⟨w.heap.size, 3, none⟩ (.int .i64 0)) := (Keep.refl _ _ w4).four ⟨Nat.le_refl _, Nat.lt_succ_self _⟩ _ _ _ _
    have HWR := Lib.hid ((hw.keep kw (by omega)).wide (lo' := w.heap.size) (by omega) kw.size (Nat.le_refl _))
    have ho := r4.out
    have HR := Lib.hid (r4.keep kw (by omega))
    have HK := Lib.hid (kk.fresh4 (b := w.heap.size) (Nat.le_refl _) (.int .i64 1) (.slice G m cap) (.int .i64 0) (.int .i64 0))
    obtain ⟨e0, e1, e2, e3⟩ := set4 x2 (.int .i64 1) (.slice G m cap) (.int .i64 0) (.int .i64 0)
    have hlt2 := x2.lt
    have c0 := x2.at_ 0 _ rfl
    have c1 := x2.at_ 1 _ rfl
    have c2 := x2.at_ 2 _ rfl
    have c3 := x2.at_ 3 _ rfl
    have f0 := x2.fz 0
    have f1 := x2.fz 1
    have f2 := x2.fz 2
    have f3 := x2.fz 3
    clear x2 k1 k2 k3 k13 k14 kk kw hw r1 r2 r3 r4 hr b4
    go_wp2_with fail
    exact bodyPost_ret (v := .agg #[.int .i64 1, .slice G m cap, .int .i64 0, .int .i64 0]) (by simp [results, Tryd.results86, go_sem, e0, e1, e2, e3]) rfl ⟨_, _, rfl, gz, HWR.out, HR.out, HK.out⟩
  · split at hx
    · rename_i hc
      obtain ⟨q1, q2⟩ := hc
      injection hx with hx
      injection hx with e1 e2
      subst e1 e2
      have HN1 := Lib.hid (number_yes b lo hi 1 r _ h1 (by omega) (by omega) (by omega))
      rw [val_one (by omega), q2] at HN1
      have HT := Lib.hid (fun w' (h' : Rdr w' b lo hi (r.drop 1)) => take_yes b lo hi 4 _ w' h' (by rw [List.length_drop]; omega))
      rw [List.drop_drop] at HT
      have HW := Lib.hid (fun (A : Option Addr) (c : Nat) (w' : World) (hr : Rd w' lo hi A 4 ((r.drop 1).take 4)) (hc : 4 ≤ c) hA => itemWith_size A c lo hi _ w' hr hc hA)
      rw [show List.take 2 (List.take 4 (List.drop 1 r)) = part r 1 2 by rw [List.take_take]; rfl, show List.take 2 (List.drop 2 (List.take 4 (List.drop 1 r))) = part r 3 2 by rw [List.drop_take, List.take_take, List.drop_drop]; rfl] at HW
      generalize val (part r 1 2) = v1 at *
      generalize val (part r 3 2) = v2 at *
      clear h1 h b1 hby q1 q2
      go_enter Tryd.func86, Tryd.ntmps86
      go_wp2_with fail
      refine HN1.out.mono ?_
      rintro e w1 ⟨rfl, r1, k1⟩
      go_wp2_with fail
      refine (HT.out _ r1).mono ?_
      rintro e w3 ⟨A, c, rfl, hr, hmc, hA, r3, k3⟩
      go_wp2_with fail
      refine (HW.out A c _ hr hmc hA).mono ?_
      rintro e w4 ⟨rfl, b4⟩
      have k13 := k1.trans k3
      have k14 := k13.trans (Keep.of_below b4 b (b + 1))
      have x2 := X2.out.keep k14 (by omega)
      have r4 := r3.below b4
      have kk := K1.out.trans k14
      have hz3 := k14.size
      rw [hz1] at hz3
      have kw : Keep w.heap.size (w.heap.size + 1) w4 ((((w4.setCell ⟨w.heap.size, 0, none⟩ (.int .i64 2)).setCell ⟨w.heap.size, 1, none⟩ (.slice none 0 0)).setCell ⟨w.heap.size, 2, none⟩ (.int .i64 v1)).setCell ⟨w.heap.size, 3, none⟩ (.int .i64 v2)) := (Keep.refl _ _ w4).four ⟨Nat.le_refl _, Nat.lt_succ_self _⟩ _ _ _ _
      have ho := r4.out
      have HR := Lib.hid (r4.keep kw (by omega))
      have HK := Lib.hid (kk.fresh4 (b := w.heap.size) (Nat.le_refl _) (.int .i64 2) (.slice none 0 0) (.int .i64 v1) (.int .i64 v2))
      have HWR : Hid (Wr ((((w4.setCell ⟨w.heap.size, 0, none⟩ (.int .i64 2)).setCell ⟨w.heap.size, 1, none⟩ (.slice none 0 0)).setCell ⟨w.heap.size, 2, none⟩ (.int .i64 v1)).setCell ⟨w.heap.size, 3, none⟩ (.int .i64 v2)) w.heap.size ((((w4.setCell ⟨w.heap.size, 0, none⟩ (.int .i64 2)).setCell ⟨w.heap.size, 1, none⟩ (.slice none 0 0)).setCell ⟨w.heap.size, 2, none⟩ (.int .i64 v1)).setCell ⟨w.heap.size, 3, none⟩ (.int .i64 v2)).heap.size none 0 []) := Wr.empty_top _ none
      obtain ⟨e0, e1, e2, e3⟩ := set4 x2 (.int .i64 2) (.slice none 0 0) (.int .i64 v1) (.int .i64 v2)
      have hlt2 := x2.lt
      have c0 := x2.at_ 0 _ rfl
      have c1 := x2.at_ 1 _ rfl
      have c2 := x2.at_ 2 _ rfl
      have c3 := x2.at_ 3 _ rfl
      have f0 := x2.fz 0
      have f1 := x2.fz 1
      have f2 := x2.fz 2
      have f3 := x2.fz 3
      clear x2 k1 k3 k13 k14 kk kw r1 r3 r4 hr b4
      go_wp2_with fail
      exact bodyPost_ret (v := .agg #[.int .i64 2, .slice none 0 0, .int .i64 v1, .int .i64 v2]) (by simp [results, Tryd.results86, go_sem, e0, e1, e2, e3]) rfl ⟨_, _, rfl, (fun _ => rfl), HWR.out, HR.out, HK.out⟩
    · cases hx

set_option maxHeartbeats 2000000 in
theorem item_no (ea : Addr) (b lo hi : Nat) (r : List Int) (w : World) (h : Rdr w b lo hi r) (hx : rdItem r = none) (ke : Ke ea w) (hb0 : 0 < b) :
    Calls Tryd.prog 86 #[.pointer (some ⟨b, 0, none⟩)] w fun e w' => Pan e ∧ Keep b (b + 1) w w' := by
  have hlt := h.lt
  have hby := h.byte
  have b1 : Below w.heap.size w (w.alloc (.cells #[.int .i64 0, .slice none 0 0, .int .i64 0, .int .i64 0] 55)) := (Below.refl _ _).alloc (Nat.le_refl _) _
  have h1 := h.below b1
  have ke1 := ke.below b1 ke.1
  have K1 := Lib.hid (Keep.of_below b1 b (b + 1))
  by_cases l1 : r.length < 1
  · have HN1 := Lib.hid (number_no ea b lo hi 1 r _ h1 l1 ke1)
    clear h1 h b1 hby ke1 ke hx
    go_enter Tryd.func86, Tryd.ntmps86
    go_wp2_with fail
    refine HN1.out.mono ?_
    rintro e w1 ⟨⟨u, pv, rfl⟩, rfl⟩
    go_wp2_with fail
    exact ⟨rfl, ⟨_, _, rfl⟩, K1.out⟩
  · have HN1 := Lib.hid (number_yes b lo hi 1 r _ h1 (by omega) (by omega) (by omega))
    rw [val_one (by omega)] at HN1
    by_cases h01 : r.getD 0 0 = 1
    · rw [h01] at HN1
      by_cases l2 : r.length < 2
      · have HN2 := Lib.hid (fun w' (h' : Rdr w' b lo hi (r.drop 1)) (ke' : Ke ea w') => number_no ea b lo hi 1 _ w' h' (by rw [List.length_drop]; omega) ke')
        clear h1 h b1 hby ke hx
        go_enter Tryd.func86, Tryd.ntmps86
        go_wp2_with fail
        refine HN1.out.mono ?_
        rintro e w1 ⟨rfl, r1, k1⟩
        have ke2 := ke1.keep k1 (by omega)
        have HK := Lib.hid (K1.out.trans k1)
        go_wp2_with fail
        refine (HN2.out _ r1 ke2).mono ?_
        rintro e w2 ⟨⟨u, pv, rfl⟩, rfl⟩
        go_wp2_with fail
        exact ⟨rfl, ⟨_, _, rfl⟩, HK.out⟩
      · have hb1 := hby _ (getD_mem r 1 (by omega))
        obtain ⟨m, hm⟩ := Int.eq_ofNat_of_zero_le hb1.1
        have hml : r.length < 2 + m := by
          rcases Nat.lt_or_ge r.length (2 + m) with hq | hq
          · exact hq
          · rw [rd_key (by omega) h01 hm hq] at hx
            cases hx
        have HN2 := Lib.hid (fun w' (h' : Rdr w' b lo hi (r.drop 1)) => number_yes b lo hi 1 _ w' h' (by rw [List.length_drop]; omega) (by omega) (by omega))
        rw [val_one (by rw [List.length_drop]; omega), drop_getD, hm, List.drop_drop] at HN2
        have HT := Lib.hid (fun w' (h' : Rdr w' b lo hi (r.drop (1 + 1))) (ke' : Ke ea w') => take_no ea b lo hi m _ w' h' (by rw [List.length_drop]; omega) ke')
        clear h1 h b1 hby ke hx hb1 hm
        go_enter Tryd.func86, Tryd.ntmps86
        go_wp2_with fail
        refine HN1.out.mono ?_
        rintro e w1 ⟨rfl, r1, k1⟩
        have ke2 := ke1.keep k1 (by omega)
        have kk1 := K1.out.trans k1
        go_wp2_with fail
        refine (HN2.out _ r1).mono ?_
        rintro e w2 ⟨rfl, r2, k2⟩
        have ke3 := ke2.keep k2 (by omega)
        have HK := Lib.hid (kk1.trans k2)
        clear k1 k2 kk1
        go_wp2_with fail
        refine (HT.out _ r2 ke3).mono ?_
        rintro e w3 ⟨⟨u, pv, rfl⟩, rfl⟩
        go_wp2_with fail
        exact ⟨rfl, ⟨_, _, rfl⟩, HK.out⟩
    · by_cases h02 : r.getD 0 0 = 2
      · rw [h02] at HN1
        have hl5 : r.length < 5 := by
          rcases Nat.lt_or_ge r.length 5 with hq | hq
          · exact hq
          · rw [rd_size hq h02] at hx
            cases hx
        have HT := Lib.hid (fun w' (h' : Rdr w' b lo hi (r.drop 1)) (ke' : Ke ea w') => take_no ea b lo hi 4 _ w' h' (by rw [List.length_drop]; omega) ke')
        clear h1 h b1 hby ke hx
        go_enter Tryd.func86, Tryd.ntmps86
        go_wp2_with fail
        refine HN1.out.mono ?_
        rintro e w1 ⟨rfl, r1, k1⟩
        have ke2 := ke1.keep k1 (by omega)
        have HK := Lib.hid (K1.out.trans k1)
        go_wp2_with fail
        refine (HT.out _ r1 ke2).mono ?_
        rintro e w3 ⟨⟨u, pv, rfl⟩, rfl⟩
        go_wp2_with fail
        exact ⟨rfl, ⟨_, _, rfl⟩, HK.out⟩
      · generalize r.getD 0 0 = v at *
        have n1 : (v == 1) = false := by simp [h01]
        have n2 : (v == 2) = false := by simp [h02]
        clear h1 h b1 hby ke hx
        go_enter Tryd.func86, Tryd.ntmps86
        go_wp2_with fail
        refine HN1.out.mono ?_
        rintro e w1 ⟨rfl, r1, k1⟩
        have ke2 := ke1.keep k1 (by omega)
        have g0 := ke2.1
        have g1 := ke2.2
        have HK := Lib.hid (K1.out.trans k1)
        clear k1 ke1 ke2 h01 h02
        go_wp2_with fail
        exact ⟨rfl, ⟨_, _, rfl⟩, HK.out⟩
end Go.Proofs.YtjdkaaepbkkchaaDoor
namespace Go.Proofs.YtjdkaaepbkkchaaDoor
open Go.RowKit
set_option linter.unusedVariables false
set_option maxRecDepth 100000

set_option maxHeartbeats 4000000 in
theorem l7Read_none (A : Option Addr) (n c hi : Nat) (bs : List Int) (w : World) (h : Rd w 0 hi A n bs) (hnc : n ≤ c) (hx : rdItem bs = none) :
    Calls Tryd.prog 50 #[.slice A n c] w fun e w' => e = .returned (.tuple #[.agg #[.int .i64 0, .slice none 0 0, .int .i64 0, .int .i64 0], .int .i64 0]) ∧ Below w.heap.size w w' := by
  have hl := h.len
  have hint := h.int
  have htop := h.top
  by_cases l2 : n < 2
  · have g2 : ¬ (2 : Int) ≤ (n : Int) := by omega
    have g5 : ¬ (5 : Int) ≤ (n : Int) := by omega
    clear h hx
    go_enter Tryd.func50, Tryd.ntmps50
    go_wp2_with fail
    go_returns
    exact ⟨rfl, by go_grown⟩
  · have g2 : (2 : Int) ≤ (n : Int) := by omega
    obtain ⟨b, off, rfl, _, hbh, hc⟩ := h.at_ (by omega)
    have c0 := hc 0 (by omega)
    have c1 := hc 1 (by omega)
    rw [Nat.add_zero] at c0
    have y0 := h.byteAt (j := 0) (by omega)
    have y1 := h.byteAt (j := 1) (by omega)
    have hbl : b < w.heap.size := by omega
    have i0 : (0 : Int) < (n : Int) := by omega
    have i1 : (1 : Int) < (n : Int) := by omega
    by_cases h01 : bs.getD 0 0 = 1
    · obtain ⟨m, hm⟩ := Int.eq_ofNat_of_zero_le y1.1
      have hml : n < 2 + m := by
        rcases Nat.lt_or_ge n (2 + m) with hq | hq
        · exact hq
        · rw [rd_key (by omega) h01 hm (by omega)] at hx
          cases hx
      rw [h01] at c0
      rw [hm] at c1 y1
      obtain ⟨k, hk⟩ : ∃ k : Nat, (2 : Int) + (m : Int) = (k : Int) := ⟨2 + m, by omega⟩
      have hw : IntKind.i64.wrap ((2 : Int) + (m : Int)) = (k : Int) := by rw [IntKind.wrap_i64]; omega
      have hwm : IntKind.i64.wrap (m : Int) = (m : Int) := by rw [IntKind.wrap_i64]; omega
      have n1 : ¬ (k : Int) ≤ (n : Int) := by omega
      have HKK := Lib.hid hk
      clear h hx hc h01 hm y0
      by_cases l5 : 5 ≤ n
      · have g5 : (5 : Int) ≤ (n : Int) := by omega
        clear hml
        go_enter Tryd.func50, Tryd.ntmps50
        go_wp2_with fail
        go_returns
        exact ⟨rfl, by go_grown⟩
      · have g5 : ¬ (5 : Int) ≤ (n : Int) := by omega
        clear hml
        go_enter Tryd.func50, Tryd.ntmps50
        go_wp2_with fail
        go_returns
        exact ⟨rfl, by go_grown⟩
    · have e1 : (bs.getD 0 0 == 1) = false := by simpa using h01
      by_cases l5 : 5 ≤ n
      · have h02 : bs.getD 0 0 ≠ 2 := fun e => by
          rw [rd_size (by omega) e] at hx
          cases hx
        have e2 : (bs.getD 0 0 == 2) = false := by simpa using h02
        have g5 : (5 : Int) ≤ (n : Int) := by omega
        generalize bs.getD 0 0 = v0 at *
        clear h hx hc
        go_enter Tryd.func50, Tryd.ntmps50
        go_wp2_with fail
        go_returns
        exact ⟨rfl, by go_grown⟩
      · have g5 : ¬ (5 : Int) ≤ (n : Int) := by omega
        generalize bs.getD 0 0 = v0 at *
        clear h hx hc
        go_enter Tryd.func50, Tryd.ntmps50
        go_wp2_with fail
        go_returns
        exact ⟨rfl, by go_grown⟩

set_option maxHeartbeats 4000000 in
theorem l7Read_yes (A : Option Addr) (n c hi : Nat) (bs : List Int) (x : Itm) (k : Nat) (w : World) (h : Rd w 0 hi A n bs) (hnc : n ≤ c) (hx : rdItem bs = some (x, k)) :
    Calls Tryd.prog 50 #[.slice A n c] w fun e w' => ∃ G cap, e = .returned (.tuple #[.agg #[.int .i64 x.1, .slice G x.2.1.length cap, .int .i64 x.2.2.1, .int .i64 x.2.2.2], .int .i64 (k : Int)]) ∧ (G = none → cap = 0) ∧ Wr w' w.heap.size w'.heap.size G x.2.1.length x.2.1 ∧ Below w.heap.size w w' := by
  have hl := h.len
  have hint := h.int
  have htop := h.top
  have bA : Below w.heap.size w (w.alloc (.cells #[.int .i64 0, .slice none 0 0, .int .i64 0, .int .i64 0] 55)) := (Below.refl _ _).alloc (Nat.le_refl _) _
  have hr := h.keep (Keep.of_below bA 0 0) (by omega)
  have X2 := Lib.hid (BoxL.new w [.int .i64 0, .slice none 0 0, .int .i64 0, .int .i64 0] #[.int .i64 0, .slice none 0 0, .int .i64 0, .int .i64 0] 55 rfl)
  have BA := Lib.hid bA
  unfold rdItem at hx
  split at hx
  · rename_i hq
    obtain ⟨q1, q2, q3⟩ := hq
    injection hx with hx
    injection hx with e1 e2
    subst e1
    obtain ⟨b, off, rfl, _, hbh, hc⟩ := h.at_ (by omega)
    have c0 := hc 0 (by omega)
    have c1 := hc 1 (by omega)
    rw [Nat.add_zero] at c0
    have y1 := h.byteAt (j := 1) (by omega)
    obtain ⟨m, hm⟩ := Int.eq_ofNat_of_zero_le y1.1
    rw [hm, Int.toNat_natCast] at q3 e2 ⊢
    rw [q2] at c0
    rw [hm] at c1 y1
    have hbl : b < w.heap.size := by omega
    have i0 : (0 : Int) < (n : Int) := by omega
    have i1 : (1 : Int) < (n : Int) := by omega
    have g2 : (2 : Int) ≤ (n : Int) := by omega
    have hk : (2 : Int) + (m : Int) = (k : Int) := by omega
    have hw : IntKind.i64.wrap ((2 : Int) + (m : Int)) = (k : Int) := by rw [IntKind.wrap_i64]; omega
    have hwm : IntKind.i64.wrap (m : Int) = (m : Int) := by rw [IntKind.wrap_i64]; omega
    have n1 : (k : Int) ≤ (n : Int) := by omega
    have n2 : (k : Int) ≤ (c : Int) := by omega
    have n3 : (2 : Int) ≤ (k : Int) := by omega
    have hkm : k - 2 = m := by omega
    have hpl : (part bs 2 m).length = m := by simp [part]; omega
    simp only [hpl]
    have hm8 : m ≤ 255 := by omega
    have hp := hr.part_ 2 m (by omega)
    have hpz : c = 2 → m = 0 ∧ part bs 2 m = [] := fun e => by
      have e0 : m = 0 := by omega
      exact ⟨e0, by rw [e0]; simp [part]⟩
    generalize part bs 2 m = zs at *
    have key : ∀ (A' : Option Addr) (c' : Nat) (r : Rd (w.alloc (.cells #[.int .i64 0, .slice none 0 0, .int .i64 0, .int .i64 0] 55)) 0 hi A' m zs) (hA' : A' = none → c' = 0), Calls Tryd.prog 75 #[.slice A' m c'] (w.alloc (.cells #[.int .i64 0, .slice none 0 0, .int .i64 0, .int .i64 0] 55)) (Copied _ m zs) := fun A' c' r hA' => copy_any A' m c' 0 hi zs _ r (by omega) hA'
    by_cases hc2 : c = 2
    · obtain ⟨e0, ez⟩ := hpz hc2
      subst e0
      subst ez
      have HC := Lib.hid (key (some ⟨b, off, none⟩) 0 (Rd.none_ _ (by simp; omega)) some_ne)
      subst hc2
      obtain rfl : k = 2 := by omega
      clear h hr hc hm hk hp key hpz q1 q2 q3 e2 hpl
      go_enter Tryd.func50, Tryd.ntmps50
      go_wp2_with fail
      refine HC.out.mono ?_
      rintro e w1 ⟨g, cap, rfl, _, hww, hb⟩
      have x2 := X2.out.below hb
      have bb := BA.out.trans (hb.mono BA.out.size)
      simp only [World.size_alloc] at hww
      have kk : Keep w.heap.size (w.heap.size + 1) w1 ((((w1.setCell ⟨w.heap.size, 0, none⟩ (.int .i64 1)).setCell ⟨w.heap.size, 1, none⟩ (.slice (some ⟨g, 0, none⟩) 0 cap)).setCell ⟨w.heap.size, 2, none⟩ (.int .i64 0)).setCell ⟨w.heap.size, 3, none⟩ (.int .i64 0)) := (Keep.refl _ _ w1).four ⟨Nat.le_refl _, Nat.lt_succ_self _⟩ _ _ _ _
      have HW := Lib.hid ((hww.keep kk (by omega)).wide (lo' := w.heap.size) (by omega) kk.size (Nat.le_refl _))
      have HF := Lib.hid (below4 bb (Nat.le_refl _) (.int .i64 1) (.slice (some ⟨g, 0, none⟩) 0 cap) (.int .i64 0) (.int .i64 0))
      obtain ⟨e0, e1, e2, e3⟩ := set4 x2 (.int .i64 1) (.slice (some ⟨g, 0, none⟩) 0 cap) (.int .i64 0) (.int .i64 0)
      have hlt := x2.lt
      have d0 := x2.at_ 0 _ rfl
      have d1 := x2.at_ 1 _ rfl
      have d2 := x2.at_ 2 _ rfl
      have d3 := x2.at_ 3 _ rfl
      have f0 := x2.fz 0
      have f1 := x2.fz 1
      have f2 := x2.fz 2
      have f3 := x2.fz 3
      clear x2 hb bb hww kk
      go_wp2_with fail
      exact bodyPost_ret (v := .tuple #[.agg #[.int .i64 1, .slice (some ⟨g, 0, none⟩) 0 cap, .int .i64 0, .int .i64 0], .int .i64 2]) (by simp [results, Tryd.results50, go_sem, e0, e1, e2, e3]) rfl ⟨_, _, rfl, some_ne, HW.out, HF.out⟩
    · have HC := Lib.hid (key (some ⟨b, off + 2, none⟩) (c - 2) hp some_ne)
      clear h hr hc hm hp key hpz q1 q2 q3 e2 hpl
      have HKK := Lib.hid hk
      clear hk
      go_enter Tryd.func50, Tryd.ntmps50
      go_wp2_with fail
      refine HC.out.mono ?_
      rintro e w1 ⟨g, cap, rfl, _, hww, hb⟩
      have x2 := X2.out.below hb
      have bb := BA.out.trans (hb.mono BA.out.size)
      simp only [World.size_alloc] at hww
      have kk : Keep w.heap.size (w.heap.size + 1) w1 ((((w1.setCell ⟨w.heap.size, 0, none⟩ (.int .i64 1)).setCell ⟨w.heap.size, 1, none⟩ (.slice (some ⟨g, 0, none⟩) m cap)).setCell ⟨w.heap.size, 2, none⟩ (.int .i64 0)).setCell ⟨w.heap.size, 3, none⟩ (.int .i64 0)) := (Keep.refl _ _ w1).four ⟨Nat.le_refl _, Nat.lt_succ_self _⟩ _ _ _ _
      have HW := Lib.hid ((hww.keep kk (by omega)).wide (lo' := w.heap.size) (by omega) kk.size (Nat.le_refl _))
      have HF := Lib.hid (below4 bb (Nat.le_refl _) (.int .i64 1) (.slice (some ⟨g, 0, none⟩) m cap) (.int .i64 0) (.int .i64 0))
      obtain ⟨e0, e1, e2, e3⟩ := set4 x2 (.int .i64 1) (.slice (some ⟨g, 0, none⟩) m cap) (.int .i64 0) (.int .i64 0)
      have hlt := x2.lt
      have d0 := x2.at_ 0 _ rfl
      have d1 := x2.at_ 1 _ rfl
      have d2 := x2.at_ 2 _ rfl
      have d3 := x2.at_ 3 _ rfl
      have f0 := x2.fz 0
      have f1 := x2.fz 1
      have f2 := x2.fz 2
      have f3 := x2.fz 3
      clear x2 hb bb hww kk
      go_wp2_with fail
      exact bodyPost_ret (v := .tuple #[.agg #[.int .i64 1, .slice (some ⟨g, 0, none⟩) m cap, .int .i64 0, .int .i64 0], .int .i64 (k : Int)]) (by simp [results, Tryd.results50, go_sem, e0, e1, e2, e3]) rfl ⟨_, _, rfl, some_ne, HW.out, HF.out⟩
  · split at hx
    · rename_i hq
      obtain ⟨q1, q2⟩ := hq
      injection hx with hx
      injection hx with e1 e2
      subst e1 e2
      obtain ⟨b, off, rfl, _, hbh, hc⟩ := h.at_ (by omega)
      have c0 := hc 0 (by omega)
      have c1 := hc 1 (by omega)
      rw [Nat.add_zero, q2] at c0
      have hbl : b < w.heap.size := by omega
      have i0 : (0 : Int) < (n : Int) := by omega
      have g2 : (2 : Int) ≤ (n : Int) := by omega
      have g5 : (5 : Int) ≤ (n : Int) := by omega
      have g1 : (1 : Int) ≤ (c : Int) := by omega
      have g3 : (3 : Int) ≤ (c : Int) := by omega
      have g5c : (5 : Int) ≤ (c : Int) := by omega
      have hc1 : ¬ c = 1 := by omega
      have hc3 : ¬ c = 3 := by omega
      have bd : Below (w.alloc (.cells #[.int .i64 0, .slice none 0 0, .int .i64 0, .int .i64 0] 55)).heap.size (w.alloc (.cells #[.int .i64 0, .slice none 0 0, .int .i64 0, .int .i64 0] 55)) (w.alloc (.cells #[.int .i64 0, .slice none 0 0, .int .i64 0, .int .i64 0] 55)).drew := (Below.refl _ _).trans ⟨rfl, rfl, rfl, Nat.le_refl _, fun _ _ => rfl⟩
      have hrd := hr.keep (Keep.of_below bd 0 0) (by omega)
      have H1 : Hid (Calls Tryd.prog 49 #[.slice (some ⟨b, off + 1, none⟩) 2 (c - 1)] (w.alloc (.cells #[.int .i64 0, .slice none 0 0, .int .i64 0, .int .i64 0] 55)).drew fun e w1 => e = .returned (.int .i64 (val (part bs 1 2))) ∧ (w.alloc (.cells #[.int .i64 0, .slice none 0 0, .int .i64 0, .int .i64 0] 55)).drew = w1) :=
        readHigh_any _ 2 _ 0 hi (part bs 1 2) _ (hrd.part_ 1 2 (by omega)) (by omega)
      have H2 : Hid (Calls Tryd.prog 49 #[.slice (some ⟨b, off + 3, none⟩) 2 (c - 3)] (w.alloc (.cells #[.int .i64 0, .slice none 0 0, .int .i64 0, .int .i64 0] 55)).drew fun e w1 => e = .returned (.int .i64 (val (part bs 3 2))) ∧ (w.alloc (.cells #[.int .i64 0, .slice none 0 0, .int .i64 0, .int .i64 0] 55)).drew = w1) :=
        readHigh_any _ 2 _ 0 hi (part bs 3 2) _ (hrd.part_ 3 2 (by omega)) (by omega)
      generalize val (part bs 1 2) = v1 at *
      generalize val (part bs 3 2) = v2 at *
      clear h hr hrd hc bd q1 q2
      go_enter Tryd.func50, Tryd.ntmps50
      go_wp2_with fail
      go_region_held3 (fun _ => True) (trivial)
        (first
          | (have hg := H1; clear hg; go_at_call 49; refine H1.out.mono ?_; rintro e v ⟨rfl, rfl⟩; clear H1)
          | (have hg := H2; clear hg; go_at_call 49; refine H2.out.mono ?_; rintro e v ⟨rfl, rfl⟩; clear H2))
      go_wp2_with fail
      go_returns
      exact ⟨_, _, rfl, (fun _ => rfl), Wr.empty_top _ none, by go_grown⟩
    · cases hx
end Go.Proofs.YtjdkaaepbkkchaaDoor
namespace Go.Proofs.YtjdkaaepbkkchaaDoor
open Go.RowKit
set_option linter.unusedVariables false
set_option maxRecDepth 100000

theorem reads_all : ∀ {xs : List Itm}, (∀ x ∈ xs, cdOf x = 0) → Reads (xs.flatMap itemL) xs []
  | [], _ => rfl
  | x :: xs, hx => by
    refine ⟨(itemL x).length, by rw [itemsL_cons]; exact rd_itemL (hx x (by simp)) _, ?_⟩
    rw [itemsL_cons, List.drop_left]
    exact reads_all fun z hz => hx z (by simp [hz])
theorem isBody.unique {ps : List Int} {bs st ec b s e : Int} {xs ys : List Itm} (h : isBody ps bs st ec xs) (h' : isBody ps b s e ys) : bs = b ∧ st = s ∧ ec = e ∧ xs = ys := by
  obtain ⟨v1, v2, v3⟩ := body_rv h
  obtain ⟨u1, u2, u3⟩ := body_rv h'
  have hr : Reads (ps.drop 10) xs [] := by
    rw [(body_drop h).2.1]
    exact reads_all (body_ok h.1).2.2.2.1
  have hl := (body_more h' hr).2.2 rfl
  exact ⟨v1.symm.trans u1, v2.symm.trans u2, v3.symm.trans u3, body_all h' hr hl⟩
theorem Dec.ok {ps : List Int} {cd bs st ec b s e : Int} {xs ys : List Itm} (ht : Dec ps cd bs st ec xs) (h : isBody ps b s e ys) : cd = 0 ∧ bs = b ∧ st = s ∧ ec = e ∧ xs = ys := by
  rcases ht with ⟨h0, h1⟩ | ⟨_, h1⟩
  · exact ⟨h0, h1.unique h⟩
  · exact absurd h (h1 b s e ys)
theorem Dec.no {ps : List Int} {cd bs st ec : Int} {xs : List Itm} (ht : Dec ps cd bs st ec xs) (h : ∀ b s e ys, ¬ isBody ps b s e ys) : cd = 5 ∧ bs = 0 ∧ st = 0 ∧ ec = 0 ∧ xs = [] := by
  rcases ht with ⟨_, h1⟩ | ⟨h1, _⟩
  · exact absurd h1 (h _ _ _ _)
  · exact h1
theorem no_short {ps : List Int} (h : ps.length < 10) : ∀ b s e ys, ¬ isBody ps b s e ys := fun b s e ys hb => by
  have := (body_drop hb).1
  omega
theorem no_end {ps : List Int} {ys : List Itm} (hr : Reads (ps.drop 10) ys []) (h : ¬ isBody ps (val (ps.take 4)) (val (part ps 4 2)) (val (part ps 6 3)) ys) : ∀ b s e xs, ¬ isBody ps b s e xs := fun b s e xs hb => by
  obtain ⟨v1, v2, v3⟩ := body_rv hb
  have e1 : ys = xs := body_all hb hr ((body_more hb hr).2.2 rfl)
  subst e1
  rw [v1, v2, v3] at h
  exact h hb
theorem no_mid {ps : List Int} {ys : List Itm} {r : List Int} (hr : Reads (ps.drop 10) ys r) (h : r ≠ []) (hx : rdItem r = none) : ∀ b s e xs, ¬ isBody ps b s e xs := fun b s e xs hb =>
  (body_more hb hr).1 ((body_more hb hr).2.1 h) hx
/-- Two that say the same are the same. -/
theorem Dec.unique {ps : List Int} {cd bs st ec cd' bs' st' ec' : Int} {xs xs' : List Itm} (h : Dec ps cd bs st ec xs) (h' : Dec ps cd' bs' st' ec' xs') : cd = cd' ∧ bs = bs' ∧ st = st' ∧ ec = ec' ∧ xs = xs' := by
  rcases h' with ⟨h0, h1⟩ | ⟨⟨rfl, rfl, rfl, rfl, rfl⟩, h1⟩
  · obtain ⟨q0, q1, q2, q3, q4⟩ := h.ok h1
    exact ⟨q0.trans h0.symm, q1, q2, q3, q4⟩
  · exact h.no h1
end Go.Proofs.YtjdkaaepbkkchaaDoor
