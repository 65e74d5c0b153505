/-
  W25, W28, W29, in one text.
-/
import Derived.Test.YtjdkaaepbkkchaaDoorZ6
import Derived.Test.YtjdkaaepbkkchaaDoorZ5
import Derived.Test.YtjdkaaepbkkchaaDoorZ4
import Derived.Test.YtjdkaaepbkkchaaDoorStr
import Derived.Deep.CutRange
import Derived.Test.YtjdkaaepbkkchaaDoorZ1
namespace Go.Proofs.YtjdkaaepbkkchaaDoor
open Go.RowKit
set_option linter.unusedVariables false
set_option maxRecDepth 100000

theorem below5 {w0 w : World} {b : Nat} (h : Below w0.heap.size w0 w) (hb : w0.heap.size ≤ b) (v0 v1 v2 v3 v4 : Value) :
    Below w0.heap.size w0 (((((w.setCell ⟨b, 0, none⟩ v0).setCell ⟨b, 1, none⟩ v1).setCell ⟨b, 2, none⟩ v2).setCell ⟨b, 3, none⟩ v3).setCell ⟨b, 4, none⟩ v4) := (below4 h hb v0 v1 v2 v3).setCell (p := ⟨b, 4, none⟩) hb v4
theorem Keep.five {lo hi : Nat} {a w : World} {b : Nat} (h : Keep lo hi a w) (hb : lo ≤ b ∧ b < hi) (v0 v1 v2 v3 v4 : Value) : Keep lo hi a (((((w.setCell ⟨b, 0, none⟩ v0).setCell ⟨b, 1, none⟩ v1).setCell ⟨b, 2, none⟩ v2).setCell ⟨b, 3, none⟩ v3).setCell ⟨b, 4, none⟩ v4) :=
  (h.four hb v0 v1 v2 v3).setCell (p := ⟨b, 4, none⟩) hb v4
set_option maxHeartbeats 2000000 in
theorem implDecBody_any (ea : Addr) (A : Option Addr) (n c hi : Nat) (ps : List Int) (cd bs st ec : Int) (ys : List Itm) (w : World) (h : Rd w 0 hi A n ps) (hnc : n ≤ c) (hA : (A = none ∧ c = 0) ∨ ∃ g off, A = some ⟨g, off, none⟩) (ke : Ke ea w) (ht : Dec ps cd bs st ec ys) :
    Calls Tryd.prog 10 #[.slice A n c] w fun e w' => ∃ G cap, e = .returned (.agg #[.int .i64 cd, .int .i64 bs, .int .i64 st, .int .i64 ec, .slice G ys.length cap]) ∧ OwnT w' w.heap.size G ys.length cap ys ∧ Below w.heap.size w w' := by
  have bA : Below w.heap.size w (w.alloc (.cells #[.int .i64 0, .int .i64 0, .int .i64 0, .int .i64 0, .slice none 0 0] 33)) := (Below.refl _ _).alloc (Nat.le_refl _) _
  have hr := h.keep (Keep.of_below bA 0 0) (by omega)
  have ke1 := ke.below bA ke.1
  have HX := Lib.hid (BoxL.new w [.int .i64 0, .int .i64 0, .int .i64 0, .int .i64 0, .slice none 0 0] #[.int .i64 0, .int .i64 0, .int .i64 0, .int .i64 0, .slice none 0 0] 33 rfl)
  have BA := Lib.hid bA
  rcases ht with ⟨rfl, hB⟩ | ⟨⟨rfl, rfl, rfl, rfl, rfl⟩, hB⟩
  · have HC := Lib.hid (readAllB_yes ea A n c hi ps bs st ec ys _ hr hnc hA ke1 hB)
    clear bA hr ke1 ke h hA hB
    obtain ⟨m, hm⟩ : ∃ m, ys.length = m := ⟨_, rfl⟩
    rw [hm] at HC ⊢
    clear hm
    go_enter Tryd.func10, Tryd.ntmps10
    go_wp2_with fail
    refine HC.out.mono ?_
    rintro e w1 ⟨G, cap, rfl, hO, b1⟩
    have x := HX.out.below b1
    have hlt := x.lt
    have hb := BA.out.trans (b1.mono BA.out.size)
    have z := (((((x.set 0 (.int .i64 0) (by simp)).set 1 (.int .i64 bs) (by simp)).set 2 (.int .i64 st) (by simp)).set 3 (.int .i64 ec) (by simp)).set 4 (.slice G m cap) (by simp)).below ((Below.refl _ _).alloc (Nat.le_refl _) (.cells #[.int .i64 bs, .int .i64 st, .int .i64 ec, .slice G m cap] 26))
    have e0 := z.at_ 0 _ rfl
    have e1 := z.at_ 1 _ rfl
    have e2 := z.at_ 2 _ rfl
    have e3 := z.at_ 3 _ rfl
    have e4 := z.at_ 4 _ rfl
    have hb4 := below5 hb (Nat.le_refl _) (.int .i64 0) (.int .i64 bs) (.int .i64 st) (.int .i64 ec) (.slice G m cap)
    have HF := Lib.hid (hb4.alloc hb4.size (.cells #[.int .i64 bs, .int .i64 st, .int .i64 ec, .slice G m cap] 26))
    have c0 := x.at_ 0 _ rfl
    have c1 := x.at_ 1 _ rfl
    have c2 := x.at_ 2 _ rfl
    have c3 := x.at_ 3 _ rfl
    have c4 := x.at_ 4 _ rfl
    have f0 := x.fz 0
    have f1 := x.fz 1
    have f2 := x.fz 2
    have f3 := x.fz 3
    have f4 := x.fz 4
    have kk := ((Keep.refl w.heap.size (w.heap.size + 1) w1).five ⟨Nat.le_refl _, Nat.lt_succ_self _⟩ (.int .i64 0) (.int .i64 bs) (.int .i64 st) (.int .i64 ec) (.slice G m cap)).alloc (.cells #[.int .i64 bs, .int .i64 st, .int .i64 ec, .slice G m cap] 26)
    simp only [World.size_alloc] at hO
    have HOO := Lib.hid ((hO.keep kk (by omega)).down (base' := w.heap.size) (by omega))
    clear kk hO
    clear x z hb hb4 b1
    go_wp2_with fail
    exact bodyPost_ret (v := .agg #[.int .i64 0, .int .i64 bs, .int .i64 st, .int .i64 ec, .slice G m cap]) (by simp [results, Tryd.results10, go_sem, e0, e1, e2, e3, e4]) rfl ⟨_, _, rfl, HOO.out, HF.out⟩
  · have HC := Lib.hid (readAllB_none ea A n c hi ps _ hr hnc hA ke1 hB)
    clear bA hr ke1 ke h hA hB
    go_enter Tryd.func10, Tryd.ntmps10
    go_wp2_with fail
    refine HC.out.mono ?_
    rintro e w1 ⟨rfl, b1⟩
    have x := HX.out.below b1
    have hlt := x.lt
    have hb := BA.out.trans (b1.mono BA.out.size)
    have z := (((((x.set 0 (.int .i64 5) (by simp)).set 1 (.int .i64 0) (by simp)).set 2 (.int .i64 0) (by simp)).set 3 (.int .i64 0) (by simp)).set 4 (.slice none 0 0) (by simp)).below ((Below.refl _ _).alloc (Nat.le_refl _) (.cells #[.int .i64 0, .int .i64 0, .int .i64 0, .slice none 0 0] 26))
    have e0 := z.at_ 0 _ rfl
    have e1 := z.at_ 1 _ rfl
    have e2 := z.at_ 2 _ rfl
    have e3 := z.at_ 3 _ rfl
    have e4 := z.at_ 4 _ rfl
    have hb4 := below5 hb (Nat.le_refl _) (.int .i64 5) (.int .i64 0) (.int .i64 0) (.int .i64 0) (.slice none 0 0)
    have HF := Lib.hid (hb4.alloc hb4.size (.cells #[.int .i64 0, .int .i64 0, .int .i64 0, .slice none 0 0] 26))
    have c0 := x.at_ 0 _ rfl
    have c1 := x.at_ 1 _ rfl
    have c2 := x.at_ 2 _ rfl
    have c3 := x.at_ 3 _ rfl
    have c4 := x.at_ 4 _ rfl
    have f0 := x.fz 0
    have f1 := x.fz 1
    have f2 := x.fz 2
    have f3 := x.fz 3
    have f4 := x.fz 4
    have HOO := Lib.hid (OwnT.none_ ((((((w1.setCell ⟨w.heap.size, 0, none⟩ (.int .i64 5)).setCell ⟨w.heap.size, 1, none⟩ (.int .i64 0)).setCell ⟨w.heap.size, 2, none⟩ (.int .i64 0)).setCell ⟨w.heap.size, 3, none⟩ (.int .i64 0)).setCell ⟨w.heap.size, 4, none⟩ (.slice none 0 0)).alloc (.cells #[.int .i64 0, .int .i64 0, .int .i64 0, .slice none 0 0] 26)) w.heap.size)
    clear x z hb hb4 b1
    go_wp2_with fail
    exact bodyPost_ret (v := .agg #[.int .i64 5, .int .i64 0, .int .i64 0, .int .i64 0, .slice none 0 0]) (by simp [results, Tryd.results10, go_sem, e0, e1, e2, e3, e4]) rfl ⟨_, _, rfl, HOO.out, HF.out⟩
end Go.Proofs.YtjdkaaepbkkchaaDoor
namespace Go.Proofs.YtjdkaaepbkkchaaDoor
open Go.RowKit
set_option linter.unusedVariables false
set_option maxRecDepth 100000

/-- How long a slice is. -/
def lenV : Value → Nat | .slice _ n _ => n | _ => 0
theorem itemL_byte {x : Itm} (h : cdOf x = 0) (hb : ∀ q ∈ x.2.1, 0 ≤ q ∧ q ≤ 255) : ∀ q ∈ itemL x, 0 ≤ q ∧ q ≤ 255 := by
  rcases item_ok h with ⟨ys, rfl, h1, h2⟩ | ⟨p, q, rfl, hp, hq⟩
  · intro z hz
    rw [itemL_key] at hz
    simp only [List.mem_append, List.mem_cons, List.not_mem_nil, or_false] at hz
    rcases hz with (rfl | rfl) | hz
    · omega
    · omega
    · exact hb z hz
  · intro z hz
    rw [itemL_size] at hz
    simp only [List.mem_append, List.mem_cons, List.not_mem_nil, or_false] at hz
    rcases hz with rfl | hz | hz
    · omega
    · exact digs_byte _ _ z hz
    · exact digs_byte _ _ z hz
theorem bodyL_byte (bs st ec : Int) {xs : List Itm} (h4 : xs.length ≤ 4) (hx : ∀ x ∈ xs, cdOf x = 0) (hb : ∀ x ∈ xs, ∀ q ∈ x.2.1, 0 ≤ q ∧ q ≤ 255) : ∀ q ∈ bodyL bs st ec xs, 0 ≤ q ∧ q ≤ 255 := by
  intro z hz
  unfold bodyL at hz
  simp only [List.mem_append, List.mem_cons, List.mem_flatMap] at hz
  rcases hz with hz | rfl | ⟨x, hm, hz⟩
  · exact repL_byte _ _ _ z hz
  · omega
  · exact itemL_byte (hx x hm) (hb x hm) z hz
theorem Rt.bytes {w : World} {lo hi n : Nat} {A : Option Addr} {xs : List Itm} (h : Rt w lo hi A n xs) {x : Itm} (hx : x ∈ xs) : ∀ q ∈ x.2.1, 0 ≤ q ∧ q ≤ 255 := by
  obtain ⟨j, hj, rfl⟩ := List.getElem_of_mem hx
  have hl := h.len
  obtain ⟨b, off, _, _, _, hc⟩ := h.at_ (by omega)
  obtain ⟨_, ⟨G, c, _, hr, _⟩, _⟩ := hc j (by omega)
  rw [List.getD_eq_getElem?_getD, List.getElem?_eq_getElem hj] at hr
  exact hr.byte
theorem ret5 {a b c d e a' b' c' d' e' : Value} (h0 : a = a') (h1 : b = b') (h2 : c = c') (h3 : d = d') (h4 : e = e') : Ending.returned (.agg #[a, b, c, d, e]) = .returned (.agg #[a', b', c', d', e']) := by rw [h0, h1, h2, h3, h4]
set_option maxHeartbeats 8000000 in
theorem specDecBody_any (A : Option Addr) (n c hi : Nat) (ps : List Int) (cd bs st ec : Int) (xs : List Itm) (w : World) (h : Rd w 0 hi A n ps) (hnc : n ≤ c) (hn : n ≤ 1048576) (ht : Dec ps cd bs st ec xs) :
    Calls Tryd.prog 17 #[.slice A n c] w fun e w' => ∃ G cap, e = .returned (.agg #[.int .i64 cd, .int .i64 bs, .int .i64 st, .int .i64 ec, .slice G xs.length cap]) ∧ OwnT w' w.heap.size G xs.length cap xs ∧ Below w.heap.size w w' := by
  have hl := h.len
  have hint := h.int
  have htop := h.top
  by_cases h10 : n < 10
  · have i10 : (n : Int) < 10 := by omega
    obtain ⟨rfl, rfl, rfl, rfl, rfl⟩ := ht.no (no_short (by omega))
    clear h hnc ht
    go_enter Tryd.func17, Tryd.ntmps17
    go_wp2_with fail
    go_returns
    exact ⟨none, 0, rfl, OwnT.none_ _ _, by go_grown⟩
  · have i10 : ¬ (n : Int) < 10 := by omega
    have j10 : (10 : Int) ≤ (n : Int) := by omega
    have i4 : (4 : Int) ≤ (c : Int) := by omega
    have i6 : (6 : Int) ≤ (c : Int) := by omega
    have i9 : (9 : Int) ≤ (c : Int) := by omega
    have ic : (10 : Int) ≤ (c : Int) := by omega
    have hc4 : ¬ c = 4 := by omega
    have hc6 : ¬ c = 6 := by omega
    obtain ⟨b, off, rfl, _⟩ := h.at_ (by omega)
    obtain ⟨o2, ho2⟩ : ∃ o2, (if c = 10 then off else off + 10) = o2 := ⟨_, rfl⟩
    have hif : (if c = 10 then (some ⟨b, off, none⟩ : Option Addr) else some ⟨b, off + 10, none⟩) = some ⟨b, o2, none⟩ := by
      rw [← ho2]; split <;> rfl
    have HRD2 := Lib.hid (fun (w' : World) (r : Rd w' 0 hi (some ⟨b, off, none⟩) n ps) => (show Rd w' 0 hi (some ⟨b, o2, none⟩) (n - 10) (ps.drop 10) by
      rw [← ho2]
      split
      · rw [show n - 10 = 0 by omega, List.drop_of_length_le (by omega)]
        exact Rd.none_ _ r.top
      · exact r.drop_ 10 (by omega)))
    have HNM := Lib.hid (fun ys r (hr : Reads (ps.drop 10) ys r) (h1 : r ≠ []) (h2 : rdItem r = none) => ht.no (no_mid hr h1 h2))
    have HNE := Lib.hid (fun ys (hr : Reads (ps.drop 10) ys []) (h1 : ¬ isBody ps (val (ps.take 4)) (val (part ps 4 2)) (val (part ps 6 3)) ys) => ht.no (no_end hr h1))
    have HOK := Lib.hid (fun ys (h1 : isBody ps (val (ps.take 4)) (val (part ps 4 2)) (val (part ps 6 3)) ys) => ht.ok h1)
    have bA : Below w.heap.size w (w.alloc (.cells #[.int .i64 0, .int .i64 0, .int .i64 0, .int .i64 0, .slice none 0 0] 33)) := (Below.refl _ _).alloc (Nat.le_refl _) _
    have hr := h.keep (Keep.of_below bA 0 0) (by omega)
    have bd1 : Below (w.alloc (.cells #[.int .i64 0, .int .i64 0, .int .i64 0, .int .i64 0, .slice none 0 0] 33)).heap.size (w.alloc (.cells #[.int .i64 0, .int .i64 0, .int .i64 0, .int .i64 0, .slice none 0 0] 33)) (w.alloc (.cells #[.int .i64 0, .int .i64 0, .int .i64 0, .int .i64 0, .slice none 0 0] 33)).drew := below_drew (Below.refl _ _)
    have bd2 : Below (w.alloc (.cells #[.int .i64 0, .int .i64 0, .int .i64 0, .int .i64 0, .slice none 0 0] 33)).heap.size (w.alloc (.cells #[.int .i64 0, .int .i64 0, .int .i64 0, .int .i64 0, .slice none 0 0] 33)) ((w.alloc (.cells #[.int .i64 0, .int .i64 0, .int .i64 0, .int .i64 0, .slice none 0 0] 33)).alloc (.cells #[.int .i64 0, .int .i64 0, .int .i64 0, .slice none 0 0] 26)).drew := below_drew ((Below.refl _ _).alloc (Nat.le_refl _) _)
    have H1 := Lib.hid (fun (w' : World) (k : Below (w.alloc (.cells #[.int .i64 0, .int .i64 0, .int .i64 0, .int .i64 0, .slice none 0 0] 33)).heap.size (w.alloc (.cells #[.int .i64 0, .int .i64 0, .int .i64 0, .int .i64 0, .slice none 0 0] 33)) w') => readHigh_any _ 4 c 0 hi (ps.take 4) w' ((hr.keep (Keep.of_below k 0 0) (by omega)).take_ 4 (by omega)) (by omega))
    have H2 := Lib.hid (fun (w' : World) (k : Below (w.alloc (.cells #[.int .i64 0, .int .i64 0, .int .i64 0, .int .i64 0, .slice none 0 0] 33)).heap.size (w.alloc (.cells #[.int .i64 0, .int .i64 0, .int .i64 0, .int .i64 0, .slice none 0 0] 33)) w') => readHigh_any _ 2 (c - 4) 0 hi (part ps 4 2) w' ((hr.keep (Keep.of_below k 0 0) (by omega)).part_ 4 2 (by omega)) (by omega))
    have H3 := Lib.hid (fun (w' : World) (k : Below (w.alloc (.cells #[.int .i64 0, .int .i64 0, .int .i64 0, .int .i64 0, .slice none 0 0] 33)).heap.size (w.alloc (.cells #[.int .i64 0, .int .i64 0, .int .i64 0, .int .i64 0, .slice none 0 0] 33)) w') => readHigh_any _ 3 (c - 6) 0 hi (part ps 6 3) w' ((hr.keep (Keep.of_below k 0 0) (by omega)).part_ 6 3 (by omega)) (by omega))
    generalize val (ps.take 4) = v1 at *
    generalize val (part ps 4 2) = v2 at *
    generalize val (part ps 6 3) = v3 at *
    have bd3 : Below (w.alloc (.cells #[.int .i64 0, .int .i64 0, .int .i64 0, .int .i64 0, .slice none 0 0] 33)).heap.size (w.alloc (.cells #[.int .i64 0, .int .i64 0, .int .i64 0, .int .i64 0, .slice none 0 0] 33)) ((w.alloc (.cells #[.int .i64 0, .int .i64 0, .int .i64 0, .int .i64 0, .slice none 0 0] 33)).alloc (.cells #[.int .i64 v1, .int .i64 v2, .int .i64 v3, .slice none 0 0] 26)).drew := below_drew ((Below.refl _ _).alloc (Nat.le_refl _) _)
    have X := (BoxL.new w [.int .i64 0, .int .i64 0, .int .i64 0, .int .i64 0, .slice none 0 0] #[.int .i64 0, .int .i64 0, .int .i64 0, .int .i64 0, .slice none 0 0] 33 rfl).below bd3
    have Y := (BoxL.new (w.alloc (.cells #[.int .i64 0, .int .i64 0, .int .i64 0, .int .i64 0, .slice none 0 0] 33)) [.int .i64 v1, .int .i64 v2, .int .i64 v3, .slice none 0 0] #[.int .i64 v1, .int .i64 v2, .int .i64 v3, .slice none 0 0] 26 rfl).below (below_drew (Below.refl _ _))
    have BZ := bA.trans (bd3.mono bA.size)
    have RP := h.keep (Keep.of_below BZ 0 0) (by omega)
    have R2 := HRD2.out _ RP
    have hzw : ((w.alloc (.cells #[.int .i64 0, .int .i64 0, .int .i64 0, .int .i64 0, .slice none 0 0] 33)).alloc (.cells #[.int .i64 v1, .int .i64 v2, .int .i64 v3, .slice none 0 0] 26)).drew.heap.size = w.heap.size + 1 + 1 := by simp
    simp only [World.size_alloc] at Y
    have I0 := info_item
    obtain ⟨I0, hi0, hz0, hz1, hz2⟩ := info_parts info_item
    have HNC : Hid (n - 10 ≤ c - 10) := by show _ ≤ _; omega
    have HST := Lib.hid (fun (w' : World) (r : Rd w' 0 hi (some ⟨b, off, none⟩) n ps) => r.string c)
    have HPB := Lib.hid h.byte
    have HH := Lib.hid h
    have HXs := Lib.hid X
    have HYs := Lib.hid Y
    have HBZ := Lib.hid BZ
    have HR2 := Lib.hid R2
    clear h hr ht bA bd3 ho2 X Y BZ RP R2 HRD2 hnc
    go_enter Tryd.func17, Tryd.ntmps17
    go_upto_region 3 with fail
    go_cut [3] from 3 to 20 (fun sv wx => sv = .pointer (some ⟨w.heap.size + 1, 0, none⟩) ∧ wx = ((w.alloc (.cells #[.int .i64 0, .int .i64 0, .int .i64 0, .int .i64 0, .slice none 0 0] 33)).alloc (.cells #[.int .i64 v1, .int .i64 v2, .int .i64 v3, .slice none 0 0] 26)).drew)
    case first =>
      go_region_held3 (fun _ => True) (trivial)
        (first
          | (have hg := H1; clear hg; go_at_call 49; refine (H1.out _ (by first | exact bd1 | exact bd2)).mono ?_; rintro e v ⟨rfl, rfl⟩; clear H1)
          | (have hg := H2; clear hg; go_at_call 49; refine (H2.out _ (by first | exact bd1 | exact bd2)).mono ?_; rintro e v ⟨rfl, rfl⟩; clear H2)
          | (have hg := H3; clear hg; go_at_call 49; refine (H3.out _ (by first | exact bd1 | exact bd2)).mono ?_; rintro e v ⟨rfl, rfl⟩; clear H3))
      all_goals
        go_wp2_with fail
        go_meet
        case rel => exact ⟨rfl, rfl⟩
    case rest =>
    obtain ⟨rfl, rfl⟩ := hcut
    clear bd1 bd2 H1 H2 H3
    go_wp2_with fail
    go_loopw [4] (fun s wr => ∃ (k n' c' o' : Nat) (ys : List Itm) (r : List Int) (G : Option Addr) (cap : Nat), ys.length = k ∧ r.length = n' ∧ s = .slice (some ⟨b, o', none⟩) n' c' ∧ n' ≤ c' ∧ k + n' ≤ n ∧ Reads (ps.drop 10) ys r ∧ Rd wr 0 hi (some ⟨b, o', none⟩) n' r ∧ OwnT wr (w.heap.size + 1 + 1) G k cap ys ∧
        BoxL wr (w.heap.size + 1) [.int .i64 v1, .int .i64 v2, .int .i64 v3, .slice G k cap] ∧ BoxL wr w.heap.size [.int .i64 0, .int .i64 0, .int .i64 0, .int .i64 0, .slice none 0 0] ∧ Below w.heap.size w wr) (fun s _ => lenV s)
    case atStart => exact ⟨0, n - 10, c - 10, o2, [], _, none, 0, rfl, HR2.out.len, rfl, HNC.out, by omega, rfl, HR2.out, OwnT.none_ _ _, HYs.out, HXs.out, HBZ.out⟩
    case round =>
      obtain ⟨k, n', c', o', ys, r, G, cap, hyl, hrl, rfl, hnc', hkn, hR, hrd, hO, hY, hX, hB⟩ := hrel
      have hzz := hB.size
      have hXl := hX.lt
      have hYl := hY.lt
      by_cases hlt : 0 < n'
      · have j1 : (0 : Int) < (n' : Int) := by omega
        have hrne : r ≠ [] := fun e => by rw [e] at hrl; simp at hrl; omega
        cases hx : rdItem r with
        | none =>
          have HC := Lib.hid (l7Read_none (some ⟨b, o', none⟩) n' c' hi r wr hrd hnc' hx)
          obtain ⟨q0, q1, q2, q3, q4⟩ := HNM.out ys r hR hrne hx
          have HV : Hid (Ending.returned (.agg #[.int .i64 5, .int .i64 0, .int .i64 0, .int .i64 0, .slice none 0 0]) = .returned (.agg #[.int .i64 cd, .int .i64 bs, .int .i64 st, .int .i64 ec, .slice none xs.length 0])) := by
            show _ = _
            rw [q0, q1, q2, q3, q4]; rfl
          have HOX : Hid (∀ w', OwnT w' w.heap.size none xs.length 0 xs) := fun w' => by rw [q4]; exact OwnT.none_ _ _
          clear q0 q1 q2 q3 q4 hx hR hrd hO hrne
          go_wp2_with fail
          refine HC.out.mono ?_
          rintro e wa ⟨rfl, hb⟩
          have x := hX.below hb
          have hlx := x.lt
          have bb := hB.trans (hb.mono hzz)
          have z := (((((x.set 0 (.int .i64 5) (by simp)).set 1 (.int .i64 0) (by simp)).set 2 (.int .i64 0) (by simp)).set 3 (.int .i64 0) (by simp)).set 4 (.slice none 0 0) (by simp)).below ((Below.refl _ _).alloc (Nat.le_refl _) (.cells #[.int .i64 0, .slice none 0 0, .int .i64 0, .int .i64 0] 55))
          have e0 := z.at_ 0 _ rfl
          have e1 := z.at_ 1 _ rfl
          have e2 := z.at_ 2 _ rfl
          have e3 := z.at_ 3 _ rfl
          have e4 := z.at_ 4 _ rfl
          have hb4 := below5 bb (Nat.le_refl _) (.int .i64 5) (.int .i64 0) (.int .i64 0) (.int .i64 0) (.slice none 0 0)
          have HF := Lib.hid (hb4.alloc hb4.size (.cells #[.int .i64 0, .slice none 0 0, .int .i64 0, .int .i64 0] 55))
          have c0 := x.at_ 0 _ rfl
          have c1 := x.at_ 1 _ rfl
          have c2 := x.at_ 2 _ rfl
          have c3 := x.at_ 3 _ rfl
          have c4 := x.at_ 4 _ rfl
          have f0 := x.fz 0
          have f1 := x.fz 1
          have f2 := x.fz 2
          have f3 := x.fz 3
          have f4 := x.fz 4
          clear x z bb hb4 hb hX hY hB
          go_wp2_with fail
          exact bodyPost_ret (v := .agg #[.int .i64 5, .int .i64 0, .int .i64 0, .int .i64 0, .slice none 0 0]) (by simp [results, Tryd.results17, go_sem, e0, e1, e2, e3, e4]) rfl ⟨none, 0, HV.out, HOX.out _, HF.out⟩
        | some p =>
          obtain ⟨x, m⟩ := p
          obtain ⟨hm0, hml, _⟩ := rd_pos hx
          have HC := Lib.hid (l7Read_yes (some ⟨b, o', none⟩) n' c' hi r x m wr hrd hnc' hx)
          have HRS := Lib.hid (hR.snoc hx)
          obtain ⟨o3, ho3⟩ : ∃ o3, (if c' = m then o' else o' + m) = o3 := ⟨_, rfl⟩
          have hif3 : (if c' = m then (some ⟨b, o', none⟩ : Option Addr) else some ⟨b, o' + m, none⟩) = some ⟨b, o3, none⟩ := by
            rw [← ho3]; split <;> rfl
          have HR3 := Lib.hid (fun (w' : World) (q : Rd w' 0 hi (some ⟨b, o', none⟩) n' r) => (show Rd w' 0 hi (some ⟨b, o3, none⟩) (n' - m) (r.drop m) by
            rw [← ho3]
            split
            · rw [show n' - m = 0 by omega, List.drop_of_length_le (by omega)]
              exact Rd.none_ _ q.top
            · exact q.drop_ m (by omega)))
          have hmb : (m == 0) = false := by simp; omega
          have hmi : ((m : Int) == 0) = false := by simp; omega
          have m0 : (0 : Int) ≤ (m : Int) := by omega
          have m1 : (m : Int) ≤ (n' : Int) := by omega
          have m2 : (m : Int) ≤ (c' : Int) := by omega
          have hne0 : ¬ m = 0 := by omega
          clear hx hR hrne ho3
          go_wp2_with fail
          refine HC.out.mono ?_
          rintro e wa ⟨GC, cb, rfl, hgz, hw, hb⟩
          have hza := hb.size
          have bX : Below wa.heap.size wa (wa.alloc (.cells #[.int .i64 x.1, .slice GC x.2.1.length cb, .int .i64 x.2.2.1, .int .i64 x.2.2.2] 55)) := (Below.refl _ _).alloc (Nat.le_refl _) _
          have bW := hb.trans (bX.mono hza)
          have hO1 := hO.below bW
          obtain ⟨ls, hys, hY0⟩ := hO
          have hYa := hY0.below bW
          have own0 := hYa.1
          have y := hY.below hb
          have hly := y.lt
          have y0 := y.at_ 0 _ rfl
          have y1 := y.at_ 1 _ rfl
          have y2 := y.at_ 2 _ rfl
          have y3 := y.at_ 3 _ rfl
          have fy := y.fz 3
          have hw2 := (hw.keep (Keep.of_below bX 0 0) (by omega)).wide (lo' := wr.heap.size) (Nat.le_refl _) bX.size (Nat.le_refl _)
          have hmL : k + 1 ≤ maxLen := by unfold maxLen; omega
          have hmB : (k + 1) * 48 ≤ 140737488355328 := by omega
          have hbase : w.heap.size + 1 + 1 ≤ wr.heap.size := by omega
          go_wp2_with (at_builtin; refine wpList_append_lies _ rfl (.tmp 35) (.tmp 37) 24 rfl (w.heap.size + 1 + 1) 55 I0 (.agg #[.int .i64 0, .slice none 0 0, .int .i64 0, .int .i64 0]) 4 48 Tryd.underlying24 hi0 hz0 hz1 hz2 rfl (by decide) _ _ _ rfl (own0.alloc _) ⟨wa.heap.size + 1, 0, none⟩ 1 1 (cell4 (x, GC, cb, wr.heap.size, (wa.alloc (.cells #[.int .i64 x.1, .slice GC x.2.1.length cb, .int .i64 x.2.2.1, .int .i64 x.2.2.2] 55)).heap.size)) rfl rfl (World.news_of_block (cs := #[.int .i64 x.1, .slice GC x.2.1.length cb, .int .i64 x.2.2.1, .int .i64 x.2.2.2]) (t := 55) (fr := (0, 0)) (by simpa using heap_alloc_new (wa.alloc (.cells #[.int .i64 x.1, .slice GC x.2.1.length cb, .int .i64 x.2.2.1, .int .i64 x.2.2.2] 55)) (.cells #[.int .i64 x.1, .slice GC x.2.1.length cb, .int .i64 x.2.2.1, .int .i64 x.2.2.2] 55))) (by simp [Value.oneCell', cell4]) (by omega) hmL hmB ?c5 (wa.heap.size + 1 + 1) (by simp) ?_)
          case c5 => simp; omega
          intro g1 cap1 W1 own1 hgrow hat hgl
          have hY1 := hY0.push_any hbase bW hw2 hgz own1 hgrow (by simpa using hat)
          have kr := keep_row hgrow (base := w.heap.size + 1 + 1) (fun q e => (own0.lt q e).1)
          have hzW := bX.size
          have kS : Keep (w.heap.size + 1) (w.heap.size + 1 + 1) W1 (W1.setCell ⟨w.heap.size + 1, 3, none⟩ (.slice (some ⟨g1, 0, none⟩) (k + 1) cap1)) := (Keep.refl _ _ W1).setCell (p := ⟨w.heap.size + 1, 3, none⟩) ⟨Nat.le_refl _, Nat.lt_succ_self _⟩ _
          have hOO : OwnT W1 (w.heap.size + 1 + 1) (some ⟨g1, 0, none⟩) (k + 1) cap1 (ys ++ [x]) := ⟨_, by rw [List.map_append, hys]; rfl, hY1⟩
          have HOO := Lib.hid (hOO.keep kS (by omega))
          have y4 := (y.below bX).keep kr (by omega)
          have HYY := Lib.hid (y4.set 3 (.slice (some ⟨g1, 0, none⟩) (k + 1) cap1) (by simp))
          have HXX := Lib.hid (((hX.below bW).keep kr (by omega)).keep kS (by omega))
          have HRR := Lib.hid (HR3.out _ (((hrd.keep (Keep.of_below bW 0 0) (by omega)).keep kr (by omega)).keep kS (by omega)))
          have hBB := hB.trans (bW.mono hzz)
          have HBB := Lib.hid ((hBB.trans (kr.below (.inl (by omega)) hBB.size)).setCell (p := ⟨w.heap.size + 1, 3, none⟩) (by show w.heap.size ≤ w.heap.size + 1; omega) (.slice (some ⟨g1, 0, none⟩) (k + 1) cap1))
          have z3 := y4.at_ 3 _ rfl
          have fz3 := y4.fz 3
          have hlz := y4.lt
          clear hY1 kr kS hOO y4 hY hX hO1 hrd hB hBB bW bX hb hw hw2 own0 own1 hgrow hat hY0 hYa y y0 y1 y2 y3 fy hly
          go_wp2_with fail
          go_roundw
          case rel => exact ⟨k + 1, n' - m, c' - m, o3, ys ++ [x], r.drop m, _, _, by rw [List.length_append, hyl]; rfl, by rw [List.length_drop, hrl], rfl, by omega, by omega, HRS.out, HRR.out, HOO.out, HYY.out, HXX.out, HBB.out⟩
          case measure => simp [lenV]; omega
      · skip
        obtain rfl : n' = 0 := by omega
        obtain rfl : r = [] := List.eq_nil_of_length_eq_zero hrl
        have bd : Below wr.heap.size wr wr.drew := below_drew (Below.refl _ _)
        have szd := bd.size
        have rt := hO.rt0
        obtain ⟨sp, hsp⟩ : ∃ sp, strOfNums ps = sp := ⟨_, rfl⟩
        have HPS := Lib.hid (fun (w' : World) (q : Below wr.heap.size wr w') => hsp ▸ HST.out w' (HH.out.keep (Keep.of_below (hB.trans (q.mono hzz)) 0 0) (by omega)))
        have HSB := Lib.hid (fun (w' : World) (kb : Below wr.heap.size wr w') => (⟨(hY.below kb).at_ 0 _ rfl, (hY.below kb).at_ 1 _ rfl, (hY.below kb).at_ 2 _ rfl, (hY.below kb).at_ 3 _ rfl, HPS.out w' kb⟩ : w'.cell? ⟨w.heap.size + 1, 0, none⟩ = some (.int .i64 v1) ∧ w'.cell? ⟨w.heap.size + 1, 1, none⟩ = some (.int .i64 v2) ∧ w'.cell? ⟨w.heap.size + 1, 2, none⟩ = some (.int .i64 v3) ∧ w'.cell? ⟨w.heap.size + 1, 3, none⟩ = some (.slice G k cap) ∧ (convert 22 9 (.slice (some ⟨b, off, none⟩) n c)).run Tryd.prog w' = .ok (.string sp) w'))
        have HBF := Lib.hid (fun (w' : World) (q : Rt w' 0 wr.heap.size G k ys) => specBodyFault_any v1 v2 v3 G k cap 0 wr.heap.size ys w' q)
        have rtd := rt.keep (Keep.of_below bd 0 0) (by omega)
        by_cases hbc : bodyCode v1 v2 v3 ys = 0
        · rw [hbc] at HBF
          obtain ⟨⟨hv2, hv3⟩, hv1, hk4, hxs, hfull⟩ := body_ok hbc
          have HL7 := Lib.hid (fun (w' : World) (hx : BoxL w' (w.heap.size + 1) [.int .i64 v1, .int .i64 v2, .int .i64 v3, .slice G k cap]) (q : Rt w' 0 wr.heap.size G k ys) => l7Body_any (w.heap.size + 1) v1 v2 v3 G k cap wr.heap.size ys w' hx q (by omega) (by omega) (by omega) (by omega) hxs)
          have hisb : isBody ps v1 v2 v3 ys ↔ bodyL v1 v2 v3 ys = ps := ⟨fun e => e.2, fun e => ⟨hbc, e⟩⟩
          have hzb : ∀ q ∈ bodyL v1 v2 v3 ys, 0 ≤ q ∧ q ≤ 255 := bodyL_byte v1 v2 v3 (by omega) hxs (fun x hx => rt.bytes hx)
          generalize bodyL v1 v2 v3 ys = Z at *
          obtain ⟨lz, hlz⟩ : ∃ lz, Z.length = lz := ⟨_, rfl⟩
          rw [hlz] at HL7
          have HZL := Lib.hid hlz
          have hbeq := str_beq hzb HPB.out
          rw [hsp] at hbeq
          obtain ⟨sz, hsz⟩ : ∃ sz, strOfNums Z = sz := ⟨_, rfl⟩
          rw [hsz] at hbeq
          have HCV2 := Lib.hid (fun (w' : World) (g cz base : Nat) (o : OwnB w' base g lz cz Z) => hsz ▸ o.wr.1.string cz)
          by_cases hd : Z = ps
          · rw [decide_eq_true hd] at hbeq
            obtain ⟨q0, q1, q2, q3, q4⟩ := HOK.out ys (hisb.2 hd)
            have HV : Hid (Ending.returned (.agg #[.int .i64 0, .int .i64 v1, .int .i64 v2, .int .i64 v3, .slice G k cap]) = .returned (.agg #[.int .i64 cd, .int .i64 bs, .int .i64 st, .int .i64 ec, .slice G xs.length cap])) := by
              show _ = _
              rw [q0, q1, q2, q3, q4, hyl]
            have HOX : Hid (∀ w', OwnT w' w.heap.size G k cap ys → OwnT w' w.heap.size G xs.length cap xs) := fun w' o => by rw [q4, hyl]; exact o
            have hbne : (sz.toList != sp.toList) = false := by simp [bne, hbeq]
            clear q0 q1 q2 q3 q4 hd hisb hzb hsz hsp hbc hR hrd hlz
            go_wp2_with fail
            refine wp_region_held_drew (S := fun w' => w'.cell? ⟨w.heap.size + 1, 0, none⟩ = some (.int .i64 v1) ∧ w'.cell? ⟨w.heap.size + 1, 1, none⟩ = some (.int .i64 v2) ∧ w'.cell? ⟨w.heap.size + 1, 2, none⟩ = some (.int .i64 v3) ∧ w'.cell? ⟨w.heap.size + 1, 3, none⟩ = some (.slice G k cap) ∧ (convert 22 9 (.slice (some ⟨b, off, none⟩) n c)).run Tryd.prog w' = .ok (.string sp) w') (by kernel_rfl) ?sSg0 (fun hHeld0 => ?sRg0)
            · first | exact HSB.out _ bd | go_keep
            refine wpAnyH_take (i := 0) (oi := { dst := some 43, op := Op.load 26 (Operand.tmp 3), type := 26, pos := "l07_wire.go:76", after := #[], guard := none }) (v := ?vg01) rfl (by as_aux_lemma => kernel_rfl) (by as_aux_lemma => kernel_rfl) (by as_aux_lemma => kernel_rfl) (fun _ _ _ h => h) (Or.inl ⟨(by as_aux_lemma => rfl), ?yg01⟩) (by assumption) ?rg01
            case yg01 =>
              intro w hSw
              (try dsimp only at hSw)
              go_simp
              (try with_reducible rfl)
            try simp only [Act.put, List.setIfInBounds_toArray, List.set_cons_zero, List.set_cons_succ]
            refine wpAnyH_ready (rs := [1]) (by as_aux_lemma => kernel_rfl) (by simp) ?rg02
            refine AllReadyH.cons (o := { dst := some 44, op := Op.call { callee := Callee.value (Operand.func 38), args := #[Operand.tmp 43], argTypes := #[26] }, type := 2, pos := "l07_wire.go:76", after := #[{ on := 0, ground := Ground.data }], guard := none }) rfl (fun K hK => ?kg02) AllReadyH.nil
            go_simp
            (go_at_call 38; refine (HBF.out _ rtd).mono ?_; rintro e u1 ⟨rfl, hk⟩; replace bd := bd.trans (hk.below (.inr (Nat.le_refl _)) szd); have szd := bd.size; have hYv := hY.below bd; have rtv := rt.keep (Keep.of_below bd 0 0) (by omega))
            refine hK.out _ _ ?sg02 (fun hHeld2 => ?tg02)
            · first | exact HSB.out _ bd | go_keep
            clear hK K
            try simp only [Act.put, List.setIfInBounds_toArray, List.set_cons_zero, List.set_cons_succ]
            refine wpAnyH_take (i := 2) (oi := { dst := some 45, op := Op.binOp BinOp.neq 2 (Operand.tmp 44) (Operand.const (Value.int IntKind.i64 0)) 2, type := 4, pos := "l07_wire.go:76", after := #[{ on := 1, ground := Ground.data }], guard := none }) (v := ?vg03) rfl (by as_aux_lemma => kernel_rfl) (by as_aux_lemma => kernel_rfl) (by as_aux_lemma => kernel_rfl) (fun _ _ _ h => h) (Or.inl ⟨(by as_aux_lemma => rfl), ?yg03⟩) (by assumption) ?rg03
            case yg03 =>
              intro w hSw
              (try dsimp only at hSw)
              go_simp
              (try with_reducible rfl)
            try simp only [Act.put, List.setIfInBounds_toArray, List.set_cons_zero, List.set_cons_succ]
            refine wpAnyH_take (i := 3) (oi := { dst := some 46, op := Op.move (Operand.tmp 45), type := 4, pos := "l07_wire.go:76", after := #[{ on := 2, ground := Ground.data }, { on := 1, ground := Ground.chain }], guard := none }) (v := ?vg04) rfl (by as_aux_lemma => kernel_rfl) (by as_aux_lemma => kernel_rfl) (by as_aux_lemma => kernel_rfl) (fun _ _ _ h => h) (Or.inl ⟨(by as_aux_lemma => rfl), ?yg04⟩) (by assumption) ?rg04
            case yg04 =>
              intro w hSw
              (try dsimp only at hSw)
              go_simp
              (try with_reducible rfl)
            try simp only [Act.put, List.setIfInBounds_toArray, List.set_cons_zero, List.set_cons_succ]
            refine wpAnyH_take (i := 6) (oi := { dst := some 49, op := Op.move (Operand.tmp 0), type := 22, pos := "l07_wire.go:76", after := #[{ on := 3, ground := Ground.guard }], guard := some (3, false) }) (v := ?vg05) rfl (by as_aux_lemma => kernel_rfl) (by as_aux_lemma => kernel_rfl) (by as_aux_lemma => kernel_rfl) (fun _ _ _ h => h) (Or.inl ⟨(by as_aux_lemma => rfl), ?yg05⟩) (by assumption) ?rg05
            case yg05 =>
              intro w hSw
              (try dsimp only at hSw)
              go_simp
              (try with_reducible rfl)
            try simp only [Act.put, List.setIfInBounds_toArray, List.set_cons_zero, List.set_cons_succ]
            refine wpAnyH_take (i := 7) (oi := { dst := some 50, op := Op.convert 22 9 (Operand.tmp 49), type := 9, pos := "l07_wire.go:76", after := #[{ on := 6, ground := Ground.data }, { on := 3, ground := Ground.guard }], guard := some (3, false) }) (v := ?vg06) rfl (by as_aux_lemma => kernel_rfl) (by as_aux_lemma => kernel_rfl) (by as_aux_lemma => kernel_rfl) (fun _ _ _ h => h) (Or.inl ⟨(by as_aux_lemma => rfl), ?yg06⟩) (by assumption) ?rg06
            case yg06 =>
              intro w hSw
              (try dsimp only at hSw)
              go_simp
              (try with_reducible rfl)
            try simp only [Act.put, List.setIfInBounds_toArray, List.set_cons_zero, List.set_cons_succ]
            refine wpAnyH_ready (rs := [4]) (by as_aux_lemma => kernel_rfl) (by simp) ?rg07
            refine AllReadyH.cons (o := { dst := some 47, op := Op.call { callee := Callee.value (Operand.func 41), args := #[Operand.tmp 3], argTypes := #[63] }, type := 22, pos := "l07_wire.go:76", after := #[{ on := 3, ground := Ground.chain }, { on := 3, ground := Ground.guard }], guard := some (3, false) }) rfl (fun K hK => ?kg07) AllReadyH.nil
            go_simp
            (go_at_call 41; refine (HL7.out _ hYv rtv).mono ?_; rintro e u2 ⟨gz, cz, rfl, oz, hb⟩; have hcv := HCV2.out _ _ _ _ oz; replace bd := bd.trans (hb.mono szd); have szd := bd.size)
            refine hK.out _ _ ?sg07 (fun hHeld7 => ?tg07)
            · first | exact HSB.out _ bd | go_keep
            clear hK K
            try simp only [Act.put, List.setIfInBounds_toArray, List.set_cons_zero, List.set_cons_succ]
            refine wpAnyH_ready (rs := [5]) (by as_aux_lemma => kernel_rfl) (by simp) ?rg08
            refine AllReadyH.cons (o := { dst := some 48, op := Op.convert 22 9 (Operand.tmp 47), type := 9, pos := "l07_wire.go:76", after := #[{ on := 4, ground := Ground.data }, { on := 3, ground := Ground.guard }], guard := some (3, false) }) rfl (fun K hK => ?kg08) AllReadyH.nil
            go_simp
            skip
            refine hK.out _ _ ?sg08 (fun hHeld8 => ?tg08)
            · first | exact HSB.out _ bd | go_keep
            clear hK K
            try simp only [Act.put, List.setIfInBounds_toArray, List.set_cons_zero, List.set_cons_succ]
            refine wpAnyH_take (i := 8) (oi := { dst := some 51, op := Op.binOp BinOp.neq 9 (Operand.tmp 48) (Operand.tmp 50) 9, type := 4, pos := "l07_wire.go:76", after := #[{ on := 5, ground := Ground.data }, { on := 7, ground := Ground.data }, { on := 3, ground := Ground.guard }], guard := some (3, false) }) (v := ?vg09) rfl (by as_aux_lemma => kernel_rfl) (by as_aux_lemma => kernel_rfl) (by as_aux_lemma => kernel_rfl) (fun _ _ _ h => h) (Or.inl ⟨(by as_aux_lemma => rfl), ?yg09⟩) (by assumption) ?rg09
            case yg09 =>
              intro w hSw
              (try dsimp only at hSw)
              go_simp
              (try with_reducible rfl)
            try simp only [Act.put, List.setIfInBounds_toArray, List.set_cons_zero, List.set_cons_succ]
            refine wpAnyH_take (i := 9) (oi := { dst := some 52, op := Op.pick (Operand.tmp 46) (Operand.const (Value.bool true)) (Operand.tmp 51), type := 4, pos := "l07_wire.go:76", after := #[{ on := 3, ground := Ground.data }, { on := 8, ground := Ground.data }], guard := none }) (v := ?vg010) rfl (by as_aux_lemma => kernel_rfl) (by as_aux_lemma => kernel_rfl) (by as_aux_lemma => kernel_rfl) (fun _ _ _ h => h) (Or.inl ⟨(by as_aux_lemma => rfl), ?yg010⟩) (by assumption) ?rg010
            case yg010 =>
              intro w hSw
              (try dsimp only at hSw)
              go_simp
              (try with_reducible rfl)
            try simp only [Act.put, List.setIfInBounds_toArray, List.set_cons_zero, List.set_cons_succ]
            refine wpAnyH_done (by as_aux_lemma => kernel_rfl) ?eg0 _
            have x := hX.below bd
            have y := hY.below bd
            have hlx := x.lt
            have hly := y.lt
            have bb := hB.trans (bd.mono hzz)
            have hOF := hO.below bd
            have z := (((((x.set 0 (.int .i64 0) (by simp)).set 1 (.int .i64 v1) (by simp)).set 2 (.int .i64 v2) (by simp)).set 3 (.int .i64 v3) (by simp)).set 4 (.slice G k cap) (by simp))
            have e0 := z.at_ 0 _ rfl
            have e1 := z.at_ 1 _ rfl
            have e2 := z.at_ 2 _ rfl
            have e3 := z.at_ 3 _ rfl
            have e4 := z.at_ 4 _ rfl
            have HF := Lib.hid (below5 bb (Nat.le_refl _) (.int .i64 0) (.int .i64 v1) (.int .i64 v2) (.int .i64 v3) (.slice G k cap))
            have c0 := x.at_ 0 _ rfl
            have f0 := x.fz 0
            have c1 := x.at_ 1 _ rfl
            have f1 := x.fz 1
            have c2 := x.at_ 2 _ rfl
            have f2 := x.fz 2
            have c3 := x.at_ 3 _ rfl
            have f3 := x.fz 3
            have c4 := x.at_ 4 _ rfl
            have f4 := x.fz 4
            have y0 := y.at_ 0 _ rfl
            have y1 := y.at_ 1 _ rfl
            have y2 := y.at_ 2 _ rfl
            have y3 := y.at_ 3 _ rfl
            have HOO := Lib.hid (HOX.out _ ((hOF.keep ((Keep.refl w.heap.size (w.heap.size + 1) _).five ⟨Nat.le_refl _, Nat.lt_succ_self _⟩ (.int .i64 0) (.int .i64 v1) (.int .i64 v2) (.int .i64 v3) (.slice G k cap)) (by omega)).down (base' := w.heap.size) (by omega)))
            clear y hOF
            clear x z bb hX hY hB hO rt rtd
            go_wp2_with fail
            exact bodyPost_ret (v := .agg #[.int .i64 0, .int .i64 v1, .int .i64 v2, .int .i64 v3, .slice G k cap]) (by simp [results, Tryd.results17, go_sem, e0, e1, e2, e3, e4]) rfl ⟨_, _, HV.out, HOO.out, HF.out⟩
          · rw [decide_eq_false hd] at hbeq
            obtain ⟨q0, q1, q2, q3, q4⟩ := HNE.out ys hR (fun e => hd (hisb.1 e))
            have HV : Hid (Ending.returned (.agg #[.int .i64 5, .int .i64 0, .int .i64 0, .int .i64 0, .slice none 0 0]) = .returned (.agg #[.int .i64 cd, .int .i64 bs, .int .i64 st, .int .i64 ec, .slice none xs.length 0])) := by
              show _ = _
              rw [q0, q1, q2, q3, q4]; rfl
            have HOX : Hid (∀ w', OwnT w' w.heap.size none xs.length 0 xs) := fun w' => by rw [q4]; exact OwnT.none_ _ _
            have hbne : (sz.toList != sp.toList) = true := by simp [bne, hbeq]
            clear q0 q1 q2 q3 q4 hd hisb hzb hsz hsp hbc hR hrd hlz
            go_wp2_with fail
            refine wp_region_held_drew (S := fun w' => w'.cell? ⟨w.heap.size + 1, 0, none⟩ = some (.int .i64 v1) ∧ w'.cell? ⟨w.heap.size + 1, 1, none⟩ = some (.int .i64 v2) ∧ w'.cell? ⟨w.heap.size + 1, 2, none⟩ = some (.int .i64 v3) ∧ w'.cell? ⟨w.heap.size + 1, 3, none⟩ = some (.slice G k cap) ∧ (convert 22 9 (.slice (some ⟨b, off, none⟩) n c)).run Tryd.prog w' = .ok (.string sp) w') (by kernel_rfl) ?sSg1 (fun hHeld0 => ?sRg1)
            · first | exact HSB.out _ bd | go_keep
            refine wpAnyH_take (i := 0) (oi := { dst := some 43, op := Op.load 26 (Operand.tmp 3), type := 26, pos := "l07_wire.go:76", after := #[], guard := none }) (v := ?vg11) rfl (by as_aux_lemma => kernel_rfl) (by as_aux_lemma => kernel_rfl) (by as_aux_lemma => kernel_rfl) (fun _ _ _ h => h) (Or.inl ⟨(by as_aux_lemma => rfl), ?yg11⟩) (by assumption) ?rg11
            case yg11 =>
              intro w hSw
              (try dsimp only at hSw)
              go_simp
              (try with_reducible rfl)
            try simp only [Act.put, List.setIfInBounds_toArray, List.set_cons_zero, List.set_cons_succ]
            refine wpAnyH_ready (rs := [1]) (by as_aux_lemma => kernel_rfl) (by simp) ?rg12
            refine AllReadyH.cons (o := { dst := some 44, op := Op.call { callee := Callee.value (Operand.func 38), args := #[Operand.tmp 43], argTypes := #[26] }, type := 2, pos := "l07_wire.go:76", after := #[{ on := 0, ground := Ground.data }], guard := none }) rfl (fun K hK => ?kg12) AllReadyH.nil
            go_simp
            (go_at_call 38; refine (HBF.out _ rtd).mono ?_; rintro e u1 ⟨rfl, hk⟩; replace bd := bd.trans (hk.below (.inr (Nat.le_refl _)) szd); have szd := bd.size; have hYv := hY.below bd; have rtv := rt.keep (Keep.of_below bd 0 0) (by omega))
            refine hK.out _ _ ?sg12 (fun hHeld2 => ?tg12)
            · first | exact HSB.out _ bd | go_keep
            clear hK K
            try simp only [Act.put, List.setIfInBounds_toArray, List.set_cons_zero, List.set_cons_succ]
            refine wpAnyH_take (i := 2) (oi := { dst := some 45, op := Op.binOp BinOp.neq 2 (Operand.tmp 44) (Operand.const (Value.int IntKind.i64 0)) 2, type := 4, pos := "l07_wire.go:76", after := #[{ on := 1, ground := Ground.data }], guard := none }) (v := ?vg13) rfl (by as_aux_lemma => kernel_rfl) (by as_aux_lemma => kernel_rfl) (by as_aux_lemma => kernel_rfl) (fun _ _ _ h => h) (Or.inl ⟨(by as_aux_lemma => rfl), ?yg13⟩) (by assumption) ?rg13
            case yg13 =>
              intro w hSw
              (try dsimp only at hSw)
              go_simp
              (try with_reducible rfl)
            try simp only [Act.put, List.setIfInBounds_toArray, List.set_cons_zero, List.set_cons_succ]
            refine wpAnyH_take (i := 3) (oi := { dst := some 46, op := Op.move (Operand.tmp 45), type := 4, pos := "l07_wire.go:76", after := #[{ on := 2, ground := Ground.data }, { on := 1, ground := Ground.chain }], guard := none }) (v := ?vg14) rfl (by as_aux_lemma => kernel_rfl) (by as_aux_lemma => kernel_rfl) (by as_aux_lemma => kernel_rfl) (fun _ _ _ h => h) (Or.inl ⟨(by as_aux_lemma => rfl), ?yg14⟩) (by assumption) ?rg14
            case yg14 =>
              intro w hSw
              (try dsimp only at hSw)
              go_simp
              (try with_reducible rfl)
            try simp only [Act.put, List.setIfInBounds_toArray, List.set_cons_zero, List.set_cons_succ]
            refine wpAnyH_take (i := 6) (oi := { dst := some 49, op := Op.move (Operand.tmp 0), type := 22, pos := "l07_wire.go:76", after := #[{ on := 3, ground := Ground.guard }], guard := some (3, false) }) (v := ?vg15) rfl (by as_aux_lemma => kernel_rfl) (by as_aux_lemma => kernel_rfl) (by as_aux_lemma => kernel_rfl) (fun _ _ _ h => h) (Or.inl ⟨(by as_aux_lemma => rfl), ?yg15⟩) (by assumption) ?rg15
            case yg15 =>
              intro w hSw
              (try dsimp only at hSw)
              go_simp
              (try with_reducible rfl)
            try simp only [Act.put, List.setIfInBounds_toArray, List.set_cons_zero, List.set_cons_succ]
            refine wpAnyH_take (i := 7) (oi := { dst := some 50, op := Op.convert 22 9 (Operand.tmp 49), type := 9, pos := "l07_wire.go:76", after := #[{ on := 6, ground := Ground.data }, { on := 3, ground := Ground.guard }], guard := some (3, false) }) (v := ?vg16) rfl (by as_aux_lemma => kernel_rfl) (by as_aux_lemma => kernel_rfl) (by as_aux_lemma => kernel_rfl) (fun _ _ _ h => h) (Or.inl ⟨(by as_aux_lemma => rfl), ?yg16⟩) (by assumption) ?rg16
            case yg16 =>
              intro w hSw
              (try dsimp only at hSw)
              go_simp
              (try with_reducible rfl)
            try simp only [Act.put, List.setIfInBounds_toArray, List.set_cons_zero, List.set_cons_succ]
            refine wpAnyH_ready (rs := [4]) (by as_aux_lemma => kernel_rfl) (by simp) ?rg17
            refine AllReadyH.cons (o := { dst := some 47, op := Op.call { callee := Callee.value (Operand.func 41), args := #[Operand.tmp 3], argTypes := #[63] }, type := 22, pos := "l07_wire.go:76", after := #[{ on := 3, ground := Ground.chain }, { on := 3, ground := Ground.guard }], guard := some (3, false) }) rfl (fun K hK => ?kg17) AllReadyH.nil
            go_simp
            (go_at_call 41; refine (HL7.out _ hYv rtv).mono ?_; rintro e u2 ⟨gz, cz, rfl, oz, hb⟩; have hcv := HCV2.out _ _ _ _ oz; replace bd := bd.trans (hb.mono szd); have szd := bd.size)
            refine hK.out _ _ ?sg17 (fun hHeld7 => ?tg17)
            · first | exact HSB.out _ bd | go_keep
            clear hK K
            try simp only [Act.put, List.setIfInBounds_toArray, List.set_cons_zero, List.set_cons_succ]
            refine wpAnyH_ready (rs := [5]) (by as_aux_lemma => kernel_rfl) (by simp) ?rg18
            refine AllReadyH.cons (o := { dst := some 48, op := Op.convert 22 9 (Operand.tmp 47), type := 9, pos := "l07_wire.go:76", after := #[{ on := 4, ground := Ground.data }, { on := 3, ground := Ground.guard }], guard := some (3, false) }) rfl (fun K hK => ?kg18) AllReadyH.nil
            go_simp
            skip
            refine hK.out _ _ ?sg18 (fun hHeld8 => ?tg18)
            · first | exact HSB.out _ bd | go_keep
            clear hK K
            try simp only [Act.put, List.setIfInBounds_toArray, List.set_cons_zero, List.set_cons_succ]
            refine wpAnyH_take (i := 8) (oi := { dst := some 51, op := Op.binOp BinOp.neq 9 (Operand.tmp 48) (Operand.tmp 50) 9, type := 4, pos := "l07_wire.go:76", after := #[{ on := 5, ground := Ground.data }, { on := 7, ground := Ground.data }, { on := 3, ground := Ground.guard }], guard := some (3, false) }) (v := ?vg19) rfl (by as_aux_lemma => kernel_rfl) (by as_aux_lemma => kernel_rfl) (by as_aux_lemma => kernel_rfl) (fun _ _ _ h => h) (Or.inl ⟨(by as_aux_lemma => rfl), ?yg19⟩) (by assumption) ?rg19
            case yg19 =>
              intro w hSw
              (try dsimp only at hSw)
              go_simp
              (try with_reducible rfl)
            try simp only [Act.put, List.setIfInBounds_toArray, List.set_cons_zero, List.set_cons_succ]
            refine wpAnyH_take (i := 9) (oi := { dst := some 52, op := Op.pick (Operand.tmp 46) (Operand.const (Value.bool true)) (Operand.tmp 51), type := 4, pos := "l07_wire.go:76", after := #[{ on := 3, ground := Ground.data }, { on := 8, ground := Ground.data }], guard := none }) (v := ?vg110) rfl (by as_aux_lemma => kernel_rfl) (by as_aux_lemma => kernel_rfl) (by as_aux_lemma => kernel_rfl) (fun _ _ _ h => h) (Or.inl ⟨(by as_aux_lemma => rfl), ?yg110⟩) (by assumption) ?rg110
            case yg110 =>
              intro w hSw
              (try dsimp only at hSw)
              go_simp
              (try with_reducible rfl)
            try simp only [Act.put, List.setIfInBounds_toArray, List.set_cons_zero, List.set_cons_succ]
            refine wpAnyH_done (by as_aux_lemma => kernel_rfl) ?eg1 _
            have x := hX.below bd
            have hlx := x.lt
            have bb := hB.trans (bd.mono hzz)
            have z := (((((x.set 0 (.int .i64 5) (by simp)).set 1 (.int .i64 0) (by simp)).set 2 (.int .i64 0) (by simp)).set 3 (.int .i64 0) (by simp)).set 4 (.slice none 0 0) (by simp))
            have e0 := z.at_ 0 _ rfl
            have e1 := z.at_ 1 _ rfl
            have e2 := z.at_ 2 _ rfl
            have e3 := z.at_ 3 _ rfl
            have e4 := z.at_ 4 _ rfl
            have HF := Lib.hid (below5 bb (Nat.le_refl _) (.int .i64 5) (.int .i64 0) (.int .i64 0) (.int .i64 0) (.slice none 0 0))
            have c0 := x.at_ 0 _ rfl
            have f0 := x.fz 0
            have c1 := x.at_ 1 _ rfl
            have f1 := x.fz 1
            have c2 := x.at_ 2 _ rfl
            have f2 := x.fz 2
            have c3 := x.at_ 3 _ rfl
            have f3 := x.fz 3
            have c4 := x.at_ 4 _ rfl
            have f4 := x.fz 4
            clear x z bb hX hY hB hO rt rtd
            go_wp2_with fail
            exact bodyPost_ret (v := .agg #[.int .i64 5, .int .i64 0, .int .i64 0, .int .i64 0, .slice none 0 0]) (by simp [results, Tryd.results17, go_sem, e0, e1, e2, e3, e4]) rfl ⟨_, _, HV.out, HOX.out _, HF.out⟩
        · obtain ⟨q0, q1, q2, q3, q4⟩ := HNE.out ys hR (fun e => hbc e.1)
          have HV : Hid (Ending.returned (.agg #[.int .i64 5, .int .i64 0, .int .i64 0, .int .i64 0, .slice none 0 0]) = .returned (.agg #[.int .i64 cd, .int .i64 bs, .int .i64 st, .int .i64 ec, .slice none xs.length 0])) := by
            show _ = _
            rw [q0, q1, q2, q3, q4]; rfl
          have HOX : Hid (∀ w', OwnT w' w.heap.size none xs.length 0 xs) := fun w' => by rw [q4]; exact OwnT.none_ _ _
          obtain ⟨bc, hbcc⟩ : ∃ bc, bodyCode v1 v2 v3 ys = bc := ⟨_, rfl⟩
          rw [hbcc] at HBF hbc
          have hcb := hidNe hbc
          clear q0 q1 q2 q3 q4 hbcc hbc hR hrd hsp
          go_wp2_with fail
          refine wp_region_held_drew (S := fun w' => w'.cell? ⟨w.heap.size + 1, 0, none⟩ = some (.int .i64 v1) ∧ w'.cell? ⟨w.heap.size + 1, 1, none⟩ = some (.int .i64 v2) ∧ w'.cell? ⟨w.heap.size + 1, 2, none⟩ = some (.int .i64 v3) ∧ w'.cell? ⟨w.heap.size + 1, 3, none⟩ = some (.slice G k cap) ∧ (convert 22 9 (.slice (some ⟨b, off, none⟩) n c)).run Tryd.prog w' = .ok (.string sp) w') (by kernel_rfl) ?sSg2 (fun hHeld0 => ?sRg2)
          · first | exact HSB.out _ bd | go_keep
          refine wpAnyH_take (i := 0) (oi := { dst := some 43, op := Op.load 26 (Operand.tmp 3), type := 26, pos := "l07_wire.go:76", after := #[], guard := none }) (v := ?vg21) rfl (by as_aux_lemma => kernel_rfl) (by as_aux_lemma => kernel_rfl) (by as_aux_lemma => kernel_rfl) (fun _ _ _ h => h) (Or.inl ⟨(by as_aux_lemma => rfl), ?yg21⟩) (by assumption) ?rg21
          case yg21 =>
            intro w hSw
            (try dsimp only at hSw)
            go_simp
            (try with_reducible rfl)
          try simp only [Act.put, List.setIfInBounds_toArray, List.set_cons_zero, List.set_cons_succ]
          refine wpAnyH_ready (rs := [1]) (by as_aux_lemma => kernel_rfl) (by simp) ?rg22
          refine AllReadyH.cons (o := { dst := some 44, op := Op.call { callee := Callee.value (Operand.func 38), args := #[Operand.tmp 43], argTypes := #[26] }, type := 2, pos := "l07_wire.go:76", after := #[{ on := 0, ground := Ground.data }], guard := none }) rfl (fun K hK => ?kg22) AllReadyH.nil
          go_simp
          (go_at_call 38; refine (HBF.out _ rtd).mono ?_; rintro e u1 ⟨rfl, hk⟩; replace bd := bd.trans (hk.below (.inr (Nat.le_refl _)) szd); have szd := bd.size; have hYv := hY.below bd; have rtv := rt.keep (Keep.of_below bd 0 0) (by omega))
          refine hK.out _ _ ?sg22 (fun hHeld2 => ?tg22)
          · first | exact HSB.out _ bd | go_keep
          clear hK K
          try simp only [Act.put, List.setIfInBounds_toArray, List.set_cons_zero, List.set_cons_succ]
          refine wpAnyH_take (i := 2) (oi := { dst := some 45, op := Op.binOp BinOp.neq 2 (Operand.tmp 44) (Operand.const (Value.int IntKind.i64 0)) 2, type := 4, pos := "l07_wire.go:76", after := #[{ on := 1, ground := Ground.data }], guard := none }) (v := ?vg23) rfl (by as_aux_lemma => kernel_rfl) (by as_aux_lemma => kernel_rfl) (by as_aux_lemma => kernel_rfl) (fun _ _ _ h => h) (Or.inl ⟨(by as_aux_lemma => rfl), ?yg23⟩) (by assumption) ?rg23
          case yg23 =>
            intro w hSw
            (try dsimp only at hSw)
            go_simp
            (try with_reducible rfl)
          try simp only [Act.put, List.setIfInBounds_toArray, List.set_cons_zero, List.set_cons_succ]
          refine wpAnyH_take (i := 3) (oi := { dst := some 46, op := Op.move (Operand.tmp 45), type := 4, pos := "l07_wire.go:76", after := #[{ on := 2, ground := Ground.data }, { on := 1, ground := Ground.chain }], guard := none }) (v := ?vg24) rfl (by as_aux_lemma => kernel_rfl) (by as_aux_lemma => kernel_rfl) (by as_aux_lemma => kernel_rfl) (fun _ _ _ h => h) (Or.inl ⟨(by as_aux_lemma => rfl), ?yg24⟩) (by assumption) ?rg24
          case yg24 =>
            intro w hSw
            (try dsimp only at hSw)
            go_simp
            (try with_reducible rfl)
          try simp only [Act.put, List.setIfInBounds_toArray, List.set_cons_zero, List.set_cons_succ]
          refine wpAnyH_take (i := 4) (oi := { dst := some 47, op := Op.call { callee := Callee.value (Operand.func 41), args := #[Operand.tmp 3], argTypes := #[63] }, type := 22, pos := "l07_wire.go:76", after := #[{ on := 3, ground := Ground.chain }, { on := 3, ground := Ground.guard }], guard := some (3, false) }) (v := undef) rfl (by as_aux_lemma => kernel_rfl) (by as_aux_lemma => kernel_rfl) (by as_aux_lemma => kernel_rfl) (fun _ _ _ h => h) (Or.inr ⟨(by as_aux_lemma => rfl), rfl⟩) (by assumption) ?rg25
          try simp only [Act.put, List.setIfInBounds_toArray, List.set_cons_zero, List.set_cons_succ]
          refine wpAnyH_take (i := 5) (oi := { dst := some 48, op := Op.convert 22 9 (Operand.tmp 47), type := 9, pos := "l07_wire.go:76", after := #[{ on := 4, ground := Ground.data }, { on := 3, ground := Ground.guard }], guard := some (3, false) }) (v := undef) rfl (by as_aux_lemma => kernel_rfl) (by as_aux_lemma => kernel_rfl) (by as_aux_lemma => kernel_rfl) (fun _ _ _ h => h) (Or.inr ⟨(by as_aux_lemma => rfl), rfl⟩) (by assumption) ?rg26
          try simp only [Act.put, List.setIfInBounds_toArray, List.set_cons_zero, List.set_cons_succ]
          refine wpAnyH_take (i := 6) (oi := { dst := some 49, op := Op.move (Operand.tmp 0), type := 22, pos := "l07_wire.go:76", after := #[{ on := 3, ground := Ground.guard }], guard := some (3, false) }) (v := undef) rfl (by as_aux_lemma => kernel_rfl) (by as_aux_lemma => kernel_rfl) (by as_aux_lemma => kernel_rfl) (fun _ _ _ h => h) (Or.inr ⟨(by as_aux_lemma => rfl), rfl⟩) (by assumption) ?rg27
          try simp only [Act.put, List.setIfInBounds_toArray, List.set_cons_zero, List.set_cons_succ]
          refine wpAnyH_take (i := 7) (oi := { dst := some 50, op := Op.convert 22 9 (Operand.tmp 49), type := 9, pos := "l07_wire.go:76", after := #[{ on := 6, ground := Ground.data }, { on := 3, ground := Ground.guard }], guard := some (3, false) }) (v := undef) rfl (by as_aux_lemma => kernel_rfl) (by as_aux_lemma => kernel_rfl) (by as_aux_lemma => kernel_rfl) (fun _ _ _ h => h) (Or.inr ⟨(by as_aux_lemma => rfl), rfl⟩) (by assumption) ?rg28
          try simp only [Act.put, List.setIfInBounds_toArray, List.set_cons_zero, List.set_cons_succ]
          refine wpAnyH_take (i := 8) (oi := { dst := some 51, op := Op.binOp BinOp.neq 9 (Operand.tmp 48) (Operand.tmp 50) 9, type := 4, pos := "l07_wire.go:76", after := #[{ on := 5, ground := Ground.data }, { on := 7, ground := Ground.data }, { on := 3, ground := Ground.guard }], guard := some (3, false) }) (v := undef) rfl (by as_aux_lemma => kernel_rfl) (by as_aux_lemma => kernel_rfl) (by as_aux_lemma => kernel_rfl) (fun _ _ _ h => h) (Or.inr ⟨(by as_aux_lemma => rfl), rfl⟩) (by assumption) ?rg29
          try simp only [Act.put, List.setIfInBounds_toArray, List.set_cons_zero, List.set_cons_succ]
          refine wpAnyH_take (i := 9) (oi := { dst := some 52, op := Op.pick (Operand.tmp 46) (Operand.const (Value.bool true)) (Operand.tmp 51), type := 4, pos := "l07_wire.go:76", after := #[{ on := 3, ground := Ground.data }, { on := 8, ground := Ground.data }], guard := none }) (v := ?vg210) rfl (by as_aux_lemma => kernel_rfl) (by as_aux_lemma => kernel_rfl) (by as_aux_lemma => kernel_rfl) (fun _ _ _ h => h) (Or.inl ⟨(by as_aux_lemma => rfl), ?yg210⟩) (by assumption) ?rg210
          case yg210 =>
            intro w hSw
            (try dsimp only at hSw)
            go_simp
            (try with_reducible rfl)
          try simp only [Act.put, List.setIfInBounds_toArray, List.set_cons_zero, List.set_cons_succ]
          refine wpAnyH_done (by as_aux_lemma => kernel_rfl) ?eg2 _
          have x := hX.below bd
          have hlx := x.lt
          have bb := hB.trans (bd.mono hzz)
          have z := (((((x.set 0 (.int .i64 5) (by simp)).set 1 (.int .i64 0) (by simp)).set 2 (.int .i64 0) (by simp)).set 3 (.int .i64 0) (by simp)).set 4 (.slice none 0 0) (by simp))
          have e0 := z.at_ 0 _ rfl
          have e1 := z.at_ 1 _ rfl
          have e2 := z.at_ 2 _ rfl
          have e3 := z.at_ 3 _ rfl
          have e4 := z.at_ 4 _ rfl
          have HF := Lib.hid (below5 bb (Nat.le_refl _) (.int .i64 5) (.int .i64 0) (.int .i64 0) (.int .i64 0) (.slice none 0 0))
          have c0 := x.at_ 0 _ rfl
          have f0 := x.fz 0
          have c1 := x.at_ 1 _ rfl
          have f1 := x.fz 1
          have c2 := x.at_ 2 _ rfl
          have f2 := x.fz 2
          have c3 := x.at_ 3 _ rfl
          have f3 := x.fz 3
          have c4 := x.at_ 4 _ rfl
          have f4 := x.fz 4
          clear x z bb hX hY hB hO rt rtd
          go_wp2_with fail
          exact bodyPost_ret (v := .agg #[.int .i64 5, .int .i64 0, .int .i64 0, .int .i64 0, .slice none 0 0]) (by simp [results, Tryd.results17, go_sem, e0, e1, e2, e3, e4]) rfl ⟨_, _, HV.out, HOX.out _, HF.out⟩
end Go.Proofs.YtjdkaaepbkkchaaDoor
namespace Go.Proofs.YtjdkaaepbkkchaaDoor
open Go.RowKit
set_option linter.unusedVariables false
set_option maxRecDepth 100000

theorem small_sumI {zs : List Itm} (h : ∀ x ∈ zs, cdOf x = 0) : sumLen zs ≤ 8 * zs.length := by
  induction zs with
  | nil => simp [sumLen]
  | cons x zs ih =>
    have h1 : x.2.1.length ≤ 8 := by rcases item_ok (h x (by simp)) with ⟨ys, rfl, _, hy⟩ | ⟨p, q, rfl, _⟩ <;> simp <;> omega
    have := ih fun z hz => h z (by simp [hz])
    simp only [sumLen, List.map_cons, List.sum_cons, List.length_cons] at *
    omega
theorem dec_small {ps : List Int} {cd bs st ec : Int} {xs : List Itm} (h : Dec ps cd bs st ec xs) : xs.length ≤ 4 ∧ sumLen xs ≤ 32 := by
  rcases h with ⟨_, h⟩ | ⟨⟨_, _, _, _, rfl⟩, _⟩
  · obtain ⟨_, _, h4, hx, _⟩ := body_ok h.1
    have := small_sumI hx
    omega
  · simp [sumLen]
set_option maxHeartbeats 2000000 in
theorem exactDecodeBody (A : Option Addr) (n c : Nat) (xs : List Int) (w : World) (h : Rd w 0 w.heap.size A n xs) (ea : Addr) (ke : Ke ea w) :
    Calls Tryd.prog 4 #[.slice A n c] w fun e w' => e = .returned (.bool true) ∧ Below w.heap.size w w' := by
  have hint := h.int
  have hke := ke.1
  by_cases hn : 1048576 < n
  · go_enter Tryd.func4, Tryd.ntmps4
    go_wp2_with fail
    go_ret
    exact ⟨rfl, Below.refl _ _⟩
  have hn' : n ≤ 1048576 := by omega
  obtain ⟨cd, bs, st, ec, ys, ht⟩ := dec_some xs
  obtain ⟨hy4, hys⟩ := dec_small ht
  have HS := Lib.hid (fun (A' : Option Addr) (c' hi' : Nat) (w' : World) (r : Rd w' 0 hi' A' n xs) (k : n ≤ c') => specDecBody_any A' n c' hi' xs cd bs st ec ys w' r k hn' ht)
  have HI := Lib.hid (fun (A' : Option Addr) (c' hi' : Nat) (w' : World) (r : Rd w' 0 hi' A' n xs) (k : n ≤ c') (hA : (A' = none ∧ c' = 0) ∨ ∃ g off, A' = some ⟨g, off, none⟩) (ke' : Ke ea w') => implDecBody_any ea A' n c' hi' xs cd bs st ec ys w' r k hA ke' ht)
  clear ht
  go_enter Tryd.func4, Tryd.ntmps4
  have bb := Below.refl w.heap.size w
  go_wp2_with fail
  refine (toByteS_any A n c _ _ xs w h (by omega)).mono ?_
  rintro e w1 ⟨g0, rfl, r0, hb1⟩
  have hk1 := Keep.of_below hb1 0 0
  have hz1 := hb1.size
  replace h := h.keep hk1 (by omega)
  replace ke := ke.keep hk1 (by omega)
  replace bb := bb.trans (hk1.below (by omega) bb.size)
  clear hb1 hk1
  go_wp2_with fail
  refine (HS.out _ _ _ w1 r0.rd0 (Nat.le_refl _)).mono ?_
  rintro e w2 ⟨G0, cap0, rfl, o0, hb2⟩
  have hk2 := Keep.of_below hb2 0 0
  have hz2 := hb2.size
  replace h := h.keep hk2 (by omega)
  replace ke := ke.keep hk2 (by omega)
  replace r0 := r0.keep hk2 (by omega)
  replace bb := bb.trans (hk2.below (by omega) bb.size)
  clear hb2 hk2
  have v0 := o0.wt
  clear o0
  clear r0
  go_wp2_with fail
  have hk3 := (Keep.refl 0 0 w2).alloc (.cells #[.int .i64 cd, .int .i64 bs, .int .i64 st, .int .i64 ec, .slice G0 ys.length cap0] 33)
  have b0 := BoxL.new w2 [.int .i64 cd, .int .i64 bs, .int .i64 st, .int .i64 ec, .slice G0 ys.length cap0] #[.int .i64 cd, .int .i64 bs, .int .i64 st, .int .i64 ec, .slice G0 ys.length cap0] 33 rfl
  have hz3 : w2.heap.size + 1 ≤ (w2.alloc (.cells #[.int .i64 cd, .int .i64 bs, .int .i64 st, .int .i64 ec, .slice G0 ys.length cap0] 33)).heap.size := by simp
  replace h := h.keep hk3 (by omega)
  replace ke := ke.keep hk3 (by omega)
  replace v0 := v0.keep hk3 (by omega)
  replace bb := bb.trans (hk3.below (by omega) bb.size)
  clear hk3
  generalize w2.alloc (.cells #[.int .i64 cd, .int .i64 bs, .int .i64 st, .int .i64 ec, .slice G0 ys.length cap0] 33) = w3 at *
  refine (toByteS_any A n c _ _ xs w3 h (by omega)).mono ?_
  rintro e w4 ⟨g1, rfl, x0, hb4⟩
  have hk4 := Keep.of_below hb4 0 0
  have hz4 := hb4.size
  replace h := h.keep hk4 (by omega)
  replace ke := ke.keep hk4 (by omega)
  replace v0 := v0.keep hk4 (by omega)
  replace b0 := b0.keep hk4 (by omega)
  replace bb := bb.trans (hk4.below (by omega) bb.size)
  clear hb4 hk4
  go_wp2_with fail
  refine (HI.out _ _ _ w4 x0.rd0 (Nat.le_refl _) (.inr ⟨_, _, rfl⟩) ke).mono ?_
  rintro e w5 ⟨G1, cap1, rfl, o1, hb5⟩
  have hk5 := Keep.of_below hb5 0 0
  have hz5 := hb5.size
  replace h := h.keep hk5 (by omega)
  replace ke := ke.keep hk5 (by omega)
  replace v0 := v0.keep hk5 (by omega)
  replace b0 := b0.keep hk5 (by omega)
  replace x0 := x0.keep hk5 (by omega)
  replace bb := bb.trans (hk5.below (by omega) bb.size)
  clear hb5 hk5
  have v1 := o1.wt
  clear o1
  have b0lt := b0.lt
  have b0c0 := b0.at_ 0 _ rfl
  have b0c1 := b0.at_ 1 _ rfl
  have b0c2 := b0.at_ 2 _ rfl
  have b0c3 := b0.at_ 3 _ rfl
  have b0c4 := b0.at_ 4 _ rfl
  go_wp2_with fail
  clear b0lt b0c0 b0c1 b0c2 b0c3 b0c4
  have hk6 := (Keep.refl 0 0 w5).alloc (.cells #[.int .i64 cd, .int .i64 bs, .int .i64 st, .int .i64 ec, .slice G1 ys.length cap1] 33)
  have b1 := BoxL.new w5 [.int .i64 cd, .int .i64 bs, .int .i64 st, .int .i64 ec, .slice G1 ys.length cap1] #[.int .i64 cd, .int .i64 bs, .int .i64 st, .int .i64 ec, .slice G1 ys.length cap1] 33 rfl
  have hz6 : w5.heap.size + 1 ≤ (w5.alloc (.cells #[.int .i64 cd, .int .i64 bs, .int .i64 st, .int .i64 ec, .slice G1 ys.length cap1] 33)).heap.size := by simp
  replace h := h.keep hk6 (by omega)
  replace ke := ke.keep hk6 (by omega)
  replace v0 := v0.keep hk6 (by omega)
  replace b0 := b0.keep hk6 (by omega)
  replace x0 := x0.keep hk6 (by omega)
  replace v1 := v1.keep hk6 (by omega)
  replace bb := bb.trans (hk6.below (by omega) bb.size)
  clear hk6
  generalize w5.alloc (.cells #[.int .i64 cd, .int .i64 bs, .int .i64 st, .int .i64 ec, .slice G1 ys.length cap1] 33) = w6 at *
  refine (eqBodyResult_true cd bs st ec _ _ ys.length _ _ _ _ _ _ ys w6 v1.rt v0.rt).mono ?_
  rintro e w7 ⟨rfl, hk7⟩
  have hz7 := hk7.size
  replace h := h.keep hk7 (by omega)
  replace ke := ke.keep hk7 (by omega)
  replace v0 := v0.keep hk7 (by omega)
  replace b0 := b0.keep hk7 (by omega)
  replace x0 := x0.keep hk7 (by omega)
  replace v1 := v1.keep hk7 (by omega)
  replace b1 := b1.keep hk7 (by omega)
  replace bb := bb.trans (hk7.below (by omega) bb.size)
  clear hk7
  go_wp2_with fail
  refine (toByteS_any A n c _ _ xs w7 h (by omega)).mono ?_
  rintro e w8 ⟨g2, rfl, r2, hb8⟩
  have hk8 := Keep.of_below hb8 0 0
  have hz8 := hb8.size
  replace h := h.keep hk8 (by omega)
  replace ke := ke.keep hk8 (by omega)
  replace v0 := v0.keep hk8 (by omega)
  replace b0 := b0.keep hk8 (by omega)
  replace x0 := x0.keep hk8 (by omega)
  replace v1 := v1.keep hk8 (by omega)
  replace b1 := b1.keep hk8 (by omega)
  replace bb := bb.trans (hk8.below (by omega) bb.size)
  clear hb8 hk8
  go_wp2_with fail
  refine (eqByteS_true _ _ n n n _ _ _ _ xs w8 x0.1 r2.1).mono ?_
  rintro e w9 ⟨rfl, q9, hq9⟩
  have hk9 : Keep 0 0 w8 w9 := by rw [hq9]; exact (Keep.refl 0 0 _).drewN _
  clear hq9
  have hz9 := hk9.size
  replace h := h.keep hk9 (by omega)
  replace ke := ke.keep hk9 (by omega)
  replace v0 := v0.keep hk9 (by omega)
  replace b0 := b0.keep hk9 (by omega)
  replace x0 := x0.keep hk9 (by omega)
  replace v1 := v1.keep hk9 (by omega)
  replace b1 := b1.keep hk9 (by omega)
  replace r2 := r2.keep hk9 (by omega)
  replace bb := bb.trans (hk9.below (by omega) bb.size)
  clear hk9
  clear r2
  go_wp2_with fail
  refine (markByteS_any _ n n _ _ 1 xs w9 x0 (by omega) (by omega)).mono ?_
  rintro e w10 ⟨rfl, x0', hk10⟩
  have hz10 := hk10.size
  replace h := h.keep hk10 (by omega)
  replace ke := ke.keep hk10 (by omega)
  replace v0 := v0.keep hk10 (by omega)
  replace b0 := b0.keep hk10 (by omega)
  replace v1 := v1.keep hk10 (by omega)
  replace b1 := b1.keep hk10 (by omega)
  replace bb := bb.trans (hk10.below (by omega) bb.size)
  clear hk10
  clear x0
  have hn1 : ¬ (1 + (n : Int)) < 0 := by omega
  generalize 1 + (n : Int) = M at *
  have b1lt := b1.lt
  have b1c0 := b1.at_ 0 _ rfl
  have b1c1 := b1.at_ 1 _ rfl
  have b1c2 := b1.at_ 2 _ rfl
  have b1c3 := b1.at_ 3 _ rfl
  have b1c4 := b1.at_ 4 _ rfl
  have b0lt := b0.lt
  have b0c0 := b0.at_ 0 _ rfl
  have b0c1 := b0.at_ 1 _ rfl
  have b0c2 := b0.at_ 2 _ rfl
  have b0c3 := b0.at_ 3 _ rfl
  have b0c4 := b0.at_ 4 _ rfl
  go_wp2_with fail
  clear b1lt b1c0 b1c1 b1c2 b1c3 b1c4 b0lt b0c0 b0c1 b0c2 b0c3 b0c4
  refine (eqBodyResult_true cd bs st ec _ _ ys.length _ _ _ _ _ _ ys w10 v1.rt v0.rt).mono ?_
  rintro e w11 ⟨rfl, hk11⟩
  have hz11 := hk11.size
  replace h := h.keep hk11 (by omega)
  replace ke := ke.keep hk11 (by omega)
  replace v0 := v0.keep hk11 (by omega)
  replace b0 := b0.keep hk11 (by omega)
  replace v1 := v1.keep hk11 (by omega)
  replace b1 := b1.keep hk11 (by omega)
  replace bb := bb.trans (hk11.below (by omega) bb.size)
  clear hk11
  have b1lt := b1.lt
  have b1c0 := b1.at_ 0 _ rfl
  have b1c1 := b1.at_ 1 _ rfl
  have b1c2 := b1.at_ 2 _ rfl
  have b1c3 := b1.at_ 3 _ rfl
  have b1c4 := b1.at_ 4 _ rfl
  go_wp2_with fail
  clear b1lt b1c0 b1c1 b1c2 b1c3 b1c4
  clear hn1
  refine (markBodyResult_any cd bs st ec _ ys.length _ _ _ 1 ys w11 v1 (by omega) (by omega)).mono ?_
  rintro e w12 ⟨rfl, v1', hk12⟩
  have hz12 := hk12.size
  replace h := h.keep hk12 (by omega)
  replace ke := ke.keep hk12 (by omega)
  replace v0 := v0.keep hk12 (by omega)
  replace b0 := b0.keep hk12 (by omega)
  replace b1 := b1.keep hk12 (by omega)
  replace bb := bb.trans (hk12.below (by omega) bb.size)
  clear hk12
  clear v1
  have b1lt := b1.lt
  have b1c0 := b1.at_ 0 _ rfl
  have b1c1 := b1.at_ 1 _ rfl
  have b1c2 := b1.at_ 2 _ rfl
  have b1c3 := b1.at_ 3 _ rfl
  have b1c4 := b1.at_ 4 _ rfl
  go_wp2_with fail
  clear b1lt b1c0 b1c1 b1c2 b1c3 b1c4
  refine (heldBodyResult_any cd bs st ec _ ys.length _ _ _ 1 ys w12 rfl v1'.rt (by omega) (by omega)).mono ?_
  rintro e w13 ⟨rfl, hk13⟩
  have hz13 := hk13.size
  replace h := h.keep hk13 (by omega)
  replace ke := ke.keep hk13 (by omega)
  replace v0 := v0.keep hk13 (by omega)
  replace b0 := b0.keep hk13 (by omega)
  replace b1 := b1.keep hk13 (by omega)
  replace v1' := v1'.keep hk13 (by omega)
  replace bb := bb.trans (hk13.below (by omega) bb.size)
  clear hk13
  have hn2 : ¬ (1 + ((3 * ys.length + sumLen ys : Nat) : Int)) < 0 := by omega
  go_wp2_with fail
  refine (toByteS_any A n c _ _ xs w13 h (by omega)).mono ?_
  rintro e w14 ⟨g4, rfl, r4, hb14⟩
  have hk14 := Keep.of_below hb14 0 0
  have hz14 := hb14.size
  replace h := h.keep hk14 (by omega)
  replace ke := ke.keep hk14 (by omega)
  replace v0 := v0.keep hk14 (by omega)
  replace b0 := b0.keep hk14 (by omega)
  replace b1 := b1.keep hk14 (by omega)
  replace v1' := v1'.keep hk14 (by omega)
  replace bb := bb.trans (hk14.below (by omega) bb.size)
  clear hb14 hk14
  go_wp2_with fail
  refine (HI.out _ _ _ w14 r4.rd0 (Nat.le_refl _) (.inr ⟨_, _, rfl⟩) ke).mono ?_
  rintro e w15 ⟨G2, cap2, rfl, o2, hb15⟩
  have hk15 := Keep.of_below hb15 0 0
  have hz15 := hb15.size
  replace h := h.keep hk15 (by omega)
  replace ke := ke.keep hk15 (by omega)
  replace v0 := v0.keep hk15 (by omega)
  replace b0 := b0.keep hk15 (by omega)
  replace b1 := b1.keep hk15 (by omega)
  replace v1' := v1'.keep hk15 (by omega)
  replace r4 := r4.keep hk15 (by omega)
  replace bb := bb.trans (hk15.below (by omega) bb.size)
  clear hb15 hk15
  have v2 := o2.wt
  clear o2
  have b0lt := b0.lt
  have b0c0 := b0.at_ 0 _ rfl
  have b0c1 := b0.at_ 1 _ rfl
  have b0c2 := b0.at_ 2 _ rfl
  have b0c3 := b0.at_ 3 _ rfl
  have b0c4 := b0.at_ 4 _ rfl
  go_wp2_with fail
  clear b0lt b0c0 b0c1 b0c2 b0c3 b0c4
  have hk16 := (Keep.refl 0 0 w15).alloc (.cells #[.int .i64 cd, .int .i64 bs, .int .i64 st, .int .i64 ec, .slice G2 ys.length cap2] 33)
  have b2 := BoxL.new w15 [.int .i64 cd, .int .i64 bs, .int .i64 st, .int .i64 ec, .slice G2 ys.length cap2] #[.int .i64 cd, .int .i64 bs, .int .i64 st, .int .i64 ec, .slice G2 ys.length cap2] 33 rfl
  have hz16 : w15.heap.size + 1 ≤ (w15.alloc (.cells #[.int .i64 cd, .int .i64 bs, .int .i64 st, .int .i64 ec, .slice G2 ys.length cap2] 33)).heap.size := by simp
  replace h := h.keep hk16 (by omega)
  replace ke := ke.keep hk16 (by omega)
  replace v0 := v0.keep hk16 (by omega)
  replace b0 := b0.keep hk16 (by omega)
  replace b1 := b1.keep hk16 (by omega)
  replace v1' := v1'.keep hk16 (by omega)
  replace r4 := r4.keep hk16 (by omega)
  replace v2 := v2.keep hk16 (by omega)
  replace bb := bb.trans (hk16.below (by omega) bb.size)
  clear hk16
  generalize w15.alloc (.cells #[.int .i64 cd, .int .i64 bs, .int .i64 st, .int .i64 ec, .slice G2 ys.length cap2] 33) = w16 at *
  refine (eqBodyResult_true cd bs st ec _ _ ys.length _ _ _ _ _ _ ys w16 v2.rt v0.rt).mono ?_
  rintro e w17 ⟨rfl, hk17⟩
  have hz17 := hk17.size
  replace h := h.keep hk17 (by omega)
  replace ke := ke.keep hk17 (by omega)
  replace v0 := v0.keep hk17 (by omega)
  replace b0 := b0.keep hk17 (by omega)
  replace b1 := b1.keep hk17 (by omega)
  replace v1' := v1'.keep hk17 (by omega)
  replace r4 := r4.keep hk17 (by omega)
  replace v2 := v2.keep hk17 (by omega)
  replace b2 := b2.keep hk17 (by omega)
  replace bb := bb.trans (hk17.below (by omega) bb.size)
  clear hk17
  have b1lt := b1.lt
  have b1c0 := b1.at_ 0 _ rfl
  have b1c1 := b1.at_ 1 _ rfl
  have b1c2 := b1.at_ 2 _ rfl
  have b1c3 := b1.at_ 3 _ rfl
  have b1c4 := b1.at_ 4 _ rfl
  go_wp2_with fail
  clear b1lt b1c0 b1c1 b1c2 b1c3 b1c4
  refine (heldBodyResult_any cd bs st ec _ ys.length _ _ _ 1 ys w17 rfl v1'.rt (by omega) (by omega)).mono ?_
  rintro e w18 ⟨rfl, hk18⟩
  have hz18 := hk18.size
  replace h := h.keep hk18 (by omega)
  replace ke := ke.keep hk18 (by omega)
  replace v0 := v0.keep hk18 (by omega)
  replace b0 := b0.keep hk18 (by omega)
  replace b1 := b1.keep hk18 (by omega)
  replace v1' := v1'.keep hk18 (by omega)
  replace r4 := r4.keep hk18 (by omega)
  replace v2 := v2.keep hk18 (by omega)
  replace b2 := b2.keep hk18 (by omega)
  replace bb := bb.trans (hk18.below (by omega) bb.size)
  clear hk18
  go_wp2_with fail
  go_ret
  exact ⟨rfl, bb⟩
end Go.Proofs.YtjdkaaepbkkchaaDoor
