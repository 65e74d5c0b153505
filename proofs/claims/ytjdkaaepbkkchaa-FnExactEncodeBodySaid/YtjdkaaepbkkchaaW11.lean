/-
  Chapter 7: a body's bytes, the model's side: l7Body, EncodeBody.
-/
import Derived.Test.YtjdkaaepbkkchaaW10
namespace Go.Proofs.Ytjdkaaepbkkchaa
open Go.RowKit
set_option linter.unusedVariables false
set_option maxRecDepth 100000

set_option maxHeartbeats 8000000 in
theorem l7Body_any (B : Nat) (bs st ec : Int) (A : Option Addr) (n c hi : Nat) (xs : List Itm) (w : World) (hx : BoxL w B [.int .i64 bs, .int .i64 st, .int .i64 ec, .slice A n c]) (h : Rt w 0 hi A n xs)
    (ha : 0 ≤ bs ∧ bs ≤ 9223372036854775807) (hs : 0 ≤ st ∧ st ≤ 9223372036854775807) (hc : 0 ≤ ec ∧ ec ≤ 9223372036854775807) (hn4 : n ≤ 4) (hxs : ∀ x ∈ xs, cdOf x = 0) :
    Calls Try.prog 31 #[.pointer (some ⟨B, 0, none⟩)] w fun e w' => ∃ g cap, e = .returned (.slice (some ⟨g, 0, none⟩) (bodyL bs st ec xs).length cap) ∧ OwnB w' w.heap.size g (bodyL bs st ec xs).length cap (bodyL bs st ec xs) ∧ Below w.heap.size w w' := by
  have hint := h.int
  have hl := h.len
  have htop := h.top
  have hBl := hx.lt
  have HK := Lib.hid (fun k => bodyK_len (bs := bs) (st := st) (ec := ec) hxs k)
  have HALL := Lib.hid (bodyK_all bs st ec xs n (by omega))
  have HZ0 : Hid (bodyK bs st ec xs 0 = (digs bs 4 ++ digs st 2) ++ digs ec 3 ++ [(n : Int)]) := by
    show _ = _
    rw [bodyK_zero, hl, repL]
    simp
  have HSC := Lib.hid (fun k => bodyK_succ bs st ec xs k)
  have HCD := Lib.hid hxs
  have HX := Lib.hid (fun (w' : World) (k : Below w.heap.size w w') => hx.below k)
  generalize bodyL bs st ec xs = Z at *
  have hw8 : IntKind.u8.wrap (n : Int) = (n : Int) := by rw [IntKind.wrap_u8]; omega
  have bd : Below w.heap.size w w.drew := below_drew (Below.refl _ _)
  have szd := bd.size
  clear hxs hx
  go_enter Try.func31, Try.ntmps31
  go_wp2_with fail
  have HS := Lib.hid (fun (w' : World) (k : Below w.heap.size w w') => (⟨(HX.out _ k).at_ 0 _ rfl, (HX.out _ k).at_ 1 _ rfl⟩ : w'.cell? ⟨B, 0, none⟩ = some (.int .i64 bs) ∧ w'.cell? ⟨B, 1, none⟩ = some (.int .i64 st)))
  go_region_held3 (fun w' => w'.cell? ⟨B, 0, none⟩ = some (.int .i64 bs) ∧ w'.cell? ⟨B, 1, none⟩ = some (.int .i64 st))
    (first | exact HS.out _ bd | go_keep)
    (first
      | (go_at_call_of 48 bs; refine (l1High_own bs 4 _ ha.1 ha.2 (by omega)).mono ?_; rintro e v1 ⟨g1, c1, rfl, o1, hb⟩; replace o1 := o1.down szd; replace bd := bd.trans (hb.mono szd); have szd := bd.size)
      | (go_at_call_of 48 st; refine (l1High_own st 2 _ hs.1 hs.2 (by omega)).mono ?_; rintro e v2 ⟨g2, c2, rfl, o2, hb⟩; replace o1 := o1.below hb; replace bd := bd.trans (hb.mono szd); have szd := bd.size)
      | (refine step_append_ob rfl _ _ rfl w.heap.size g1 4 c1 _ rfl o1 (some ⟨g2, 0, none⟩) 2 c2 _ _ _ rfl o2.wr.1 some_ne (by omega) szd ?_; intro g4 c4 v4 hp; have p1 := hp.own; replace bd := bd.trans (hp.below o1.le szd); have szd := bd.size))
  have o0 : OwnB v4 w.heap.size g4 6 c4 (digs bs 4 ++ digs st 2) := p1
  clear p1 hp o1 o2 HS
  go_wp2_with fail
  have o0d : OwnB v4.drew w.heap.size g4 6 c4 (digs bs 4 ++ digs st 2) := o0.below (below_drew (Below.refl _ _))
  have bA : Below w.heap.size w (v4.alloc (.cells #[.int .u8 (n : Int)] 5)).drew := below_drew (bd.alloc szd _)
  have oA0 := OwnB.lit (n := 1) v4 #[.int .u8 (n : Int)] [(n : Int)] rfl (by omega) (by simp; omega) rfl
  have oA : OwnB (v4.alloc (.cells #[.int .u8 (n : Int)] 5)).drew v4.heap.size v4.heap.size 1 1 [(n : Int)] := oA0.below (below_drew (Below.refl _ _))
  have oB : OwnB (v4.alloc (.cells #[.int .u8 (n : Int)] 5)).drew w.heap.size g4 6 c4 (digs bs 4 ++ digs st 2) := (o0.below ((Below.refl _ _).alloc (Nat.le_refl _) _)).below (below_drew (Below.refl _ _))
  replace bd := below_drew bd
  have szd : w.heap.size ≤ v4.drew.heap.size := szd
  have zd : v4.drew.heap.size = v4.heap.size := rfl
  have zdA : (v4.alloc (.cells #[.int .u8 (n : Int)] 5)).drew.heap.size = v4.heap.size + 1 := by simp
  have gl := o0.lt
  clear o0 oA0
  have HS := Lib.hid (fun (w' : World) (k : Below w.heap.size w w') => (⟨(HX.out _ k).at_ 2 _ rfl, (HX.out _ k).at_ 3 _ rfl⟩ : w'.cell? ⟨B, 2, none⟩ = some (.int .i64 ec) ∧ w'.cell? ⟨B, 3, none⟩ = some (.slice A n c)))
  go_region_held3 (fun w' => w'.cell? ⟨B, 2, none⟩ = some (.int .i64 ec) ∧ w'.cell? ⟨B, 3, none⟩ = some (.slice A n c))
    (first | exact HS.out _ bd | exact HS.out _ bA | exact HS.out _ (bd.alloc szd _) | go_keep)
    (first
      | (go_at_call 48; refine (l1High_own ec 3 v4.drew hc.1 hc.2 (by omega)).mono ?_; rintro e v5 ⟨g5, c5, rfl, o5, hb⟩; have z5 := hb.size; have o05 := o0d.below hb; replace bd := bd.trans (hb.mono szd); have szd := bd.size; have az := (Below.refl v5.heap.size v5).alloc (Nat.le_refl _) (.cells #[.int .u8 (n : Int)] 5); have oz := OwnB.lit (n := 1) v5 #[.int .u8 (n : Int)] [(n : Int)] rfl (by omega) (by simp; omega) rfl; have ox := o05.below az; have oy := o5.below az; have bz := bd.trans (az.mono szd); have nz : g4 < v5.heap.size := by omega)
      | (go_at_call 48; refine (l1High_own ec 3 (v4.alloc (.cells #[.int .u8 (n : Int)] 5)).drew hc.1 hc.2 (by omega)).mono ?_; rintro e v5 ⟨g5, c5, rfl, oy, hb⟩; have z5 := hb.size; have oz := oA.below hb; have ox := oB.below hb; have bz := bA.trans (hb.mono bA.size); replace bd := bz; have szd := bd.size; have nz : g4 < v4.heap.size := gl)
      | (refine step_append_ob rfl _ _ rfl w.heap.size g4 6 c4 _ rfl ox (some ⟨g5, 0, none⟩) 3 c5 _ _ _ rfl oy.wr.1 some_ne (by omega) bz.size ?_; intro g6 c6 v6 hp; have oF := oz.keep hp.keep (by omega); have pF := hp.own; replace bd := bz.trans (hp.below ox.le bz.size); have bF := bd; have szd := bd.size)
      | (refine step_append_ob rfl _ _ rfl w.heap.size g4 6 c4 _ rfl o05 (some ⟨g5, 0, none⟩) 3 c5 _ _ _ rfl o5.wr.1 some_ne (by omega) szd ?_; intro g6 c6 v6 hp; replace bd := bd.trans (hp.below o05.le szd); have szd := bd.size; have az6 := (Below.refl v6.heap.size v6).alloc (Nat.le_refl _) (.cells #[.int .u8 (n : Int)] 5); have oF := OwnB.lit (n := 1) v6 #[.int .u8 (n : Int)] [(n : Int)] rfl (by omega) (by simp; omega) rfl; have pF := hp.own.below az6; have bF := bd.trans (az6.mono szd))
      | (refine step_append_ob rfl _ _ rfl w.heap.size g6 9 c6 _ rfl pF (some ⟨_, 0, none⟩) 1 1 _ _ _ rfl oF.wr.1 some_ne (by omega) bF.size ?_; intro g7 c7 v7 hp2; have p2 := hp2.own; replace bd := bF.trans (hp2.below pF.le bF.size); have szd := bd.size))
  all_goals
    rw [← HZ0.out] at p2
    have hl0 : (bodyK bs st ec xs 0).length = 10 := by rw [HZ0.out]; simp [digs_len]
    have hHO := Lib.hid p2
    have x3 := (HX.out _ bd).at_ 3 _ rfl
    clear p2 hp2 pF oF hp oA oB o0d bA HS zdA
    (try simp only [Nat.reduceAdd])
    go_wp2_with fail
    clear x3
    go_loopw [36, 3] (fun i p wr => ∃ k g cap : Nat, k ≤ n ∧ i = .int .i64 (k : Int) ∧ p = .slice (some ⟨g, 0, none⟩) (bodyK bs st ec xs k).length cap ∧ OwnB wr w.heap.size g (bodyK bs st ec xs k).length cap (bodyK bs st ec xs k) ∧ Below w.heap.size w wr) (fun i _ _ => n - (intOf i).toNat)
    case atStart => exact ⟨0, g7, c7, Nat.zero_le _, rfl, by rw [hl0], by rw [hl0]; exact hHO.out, bd⟩
    case round =>
      obtain ⟨k, g, cap, hk, rfl, rfl, own, hke⟩ := hrel
      have hsz := hke.size
      have hkl := HK.out k (by omega)
      by_cases hlt : k < n
      · obtain ⟨b, off, rfl, h1, h2, hit⟩ := h.at_ (by omega)
        have hI := (hit k hlt).keep (Keep.of_below hke 0 0) h2 (Nat.zero_le _) htop (by omega)
        have i0 : (0 : Int) ≤ (k : Int) := by omega
        have i1 : (k : Int) < (n : Int) := by omega
        have HT := Lib.hid (HSC.out k (by omega))
        have hcx := HCD.out (xs.getD k it0) (by
          rw [List.getD_eq_getElem?_getD, List.getElem?_eq_getElem (by omega)]
          simp)
        have hli := (itemL_len hcx).2
        have HC := Lib.hid (l7Item_any b (off + k * 4) 0 hi (xs.getD k it0) wr hI (by omega) hcx)
        generalize xs.getD k it0 = x at *
        generalize itemL x = Zi at *
        obtain ⟨li, hLi⟩ : ∃ li, Zi.length = li := ⟨_, rfl⟩
        rw [hLi] at HC hli
        obtain ⟨Zk, hZk⟩ : ∃ Zk, bodyK bs st ec xs k = Zk := ⟨_, rfl⟩
        have HT1 := HT.out
        rw [hZk] at own hkl HT1 ⊢
        obtain ⟨lk, hLk⟩ : ∃ lk, Zk.length = lk := ⟨_, rfl⟩
        rw [hLk] at own hkl ⊢
        have HL : Hid ((bodyK bs st ec xs (k + 1)).length = lk + li) := by show _ = _; rw [HT1, List.length_append, hLk, hLi]
        have HT2 := Lib.hid HT1
        have HO := Lib.hid own
        have HKE := Lib.hid hke
        have x3 := (HX.out _ hke).at_ 3 _ rfl
        clear hit h hcx hLi hZk hLk own hke HT HT1 hI hHO bd
        go_wp2_with fail
        refine HC.out.mono ?_
        rintro e wa ⟨ga, ca, rfl, oa, ba⟩
        have hza := ba.size
        have own2 := HO.out.below ba
        have hbase : w.heap.size ≤ wa.heap.size := by omega
        clear x3
        go_wp2_with (at_builtin; refine wpList_append_ob rfl _ _ rfl w.heap.size g lk cap Zk rfl own2 (some ⟨ga, 0, none⟩) li ca _ _ Zi rfl oa.wr.1 some_ne ?k2 hbase ?_)
        case k2 => omega
        intro gx capx wx hp
        have b6 : Below w.heap.size w wx := HKE.out.trans ((ba.mono hsz).trans (hp.below own2.le hbase))
        have HO6 := Lib.hid hp.own
        have HB6 := Lib.hid b6
        clear own2 hp b6 ba oa
        go_wp2_with fail
        go_roundw
        case rel => exact ⟨k + 1, gx, capx, by omega, by go_num, by rw [HL.out], by rw [HL.out, HT2.out]; exact HO6.out, HB6.out⟩
        case measure => simp [intOf]; omega
      · obtain rfl : k = n := by omega
        rw [HALL.out] at own
        rw [HALL.out]
        have HO := Lib.hid own
        clear own hHO bd h
        go_wp2_with fail
        go_ret
        exact ⟨g, cap, rfl, HO.out, hke⟩

set_option maxHeartbeats 1000000 in
theorem specEncBody_any (bs st ec : Int) (A : Option Addr) (n c hi : Nat) (xs : List Itm) (w : World) (h : Rt w 0 hi A n xs) :
    Calls Try.prog 12 #[.agg #[.int .i64 bs, .int .i64 st, .int .i64 ec, .slice A n c]] w (BytesPost w (bodyCode bs st ec xs) (bodyAns bs st ec xs)) := by
  have hl := h.len
  have htop := h.top
  have hx := (BoxL.new w [.int .i64 bs, .int .i64 st, .int .i64 ec, .slice A n c] #[.int .i64 bs, .int .i64 st, .int .i64 ec, .slice A n c] 29 rfl).below ((Below.refl _ _).alloc (Nat.le_refl _) (.cells #[.int .i64 0, .slice none 0 0] 35))
  have hr := BoxL.new (w.alloc (.cells #[.int .i64 bs, .int .i64 st, .int .i64 ec, .slice A n c] 29)) [.int .i64 0, .slice none 0 0] #[.int .i64 0, .slice none 0 0] 35 rfl
  have hb : Below w.heap.size w ((w.alloc (.cells #[.int .i64 bs, .int .i64 st, .int .i64 ec, .slice A n c] 29)).alloc (.cells #[.int .i64 0, .slice none 0 0] 35)) := ((Below.refl _ _).alloc (Nat.le_refl _) _).alloc (by simp) _
  simp only [World.size_alloc] at hr
  have hrt := h.keep (Keep.of_below hb 0 0) (by omega)
  have HI := Lib.hid (fun w' (r : Rt w' 0 hi A n xs) => specBodyFault_any bs st ec A n c 0 hi xs w' r)
  have HX := Lib.hid hx
  have HRB := Lib.hid hr
  have HB := Lib.hid hb
  clear hx hr hb
  by_cases hcd : bodyCode bs st ec xs = 0
  · rw [hcd] at HI
    unfold bodyAns
    rw [hcd, if_pos rfl]
    obtain ⟨⟨hs, hc⟩, ha, hn4, hxs, hfull⟩ := body_ok hcd
    have HC := Lib.hid (fun w' (hx : BoxL w' w.heap.size [.int .i64 bs, .int .i64 st, .int .i64 ec, .slice A n c]) (h : Rt w' 0 hi A n xs) => l7Body_any w.heap.size bs st ec A n c hi xs w' hx h (by omega) (by omega) (by omega) (by omega) hxs)
    generalize bodyL bs st ec xs = Z at *
    obtain ⟨lz, hLz⟩ : ∃ lz, Z.length = lz := ⟨_, rfl⟩
    rw [hLz] at HC
    have HL := Lib.hid hLz
    clear hcd hxs hfull hLz
    go_enter Try.func12, Try.ntmps12
    go_wp2_with fail
    refine (HI.out _ hrt).mono ?_
    rintro e w1 ⟨rfl, k1⟩
    have hx := HX.out.keep k1 (by omega)
    have hr := HRB.out.keep k1 (by omega)
    have hb := HB.out.trans (k1.below (.inr (Nat.le_refl _)) HB.out.size)
    have hrt1 := hrt.keep k1 (by omega)
    have zz := k1.size
    simp only [World.size_alloc] at zz
    clear k1 hrt
    go_wp2_with fail
    refine (HC.out _ hx hrt1).mono ?_
    rintro e w2 ⟨g, cap, rfl, ho, b2⟩
    replace hr := hr.below b2
    replace hb := hb.trans (b2.mono hb.size)
    obtain ⟨e0, e1, HF⟩ := bytes_done (cd := 0) hr (ho.down (by omega)) hb (by omega)
    have c0 := hr.at_ 0 _ rfl
    have c1 := hr.at_ 1 _ rfl
    have f0 := hr.fz 0
    have f1 := hr.fz 1
    clear hr hb hx ho b2 hrt1
    go_wp2_with fail
    exact bodyPost_ret (v := .agg #[.int .i64 0, .slice (some ⟨g, 0, none⟩) lz cap]) (by simp [results, Try.results12, go_sem, e0, e1]) rfl HF.out
  · unfold bodyAns
    rw [if_neg hcd]
    generalize bodyCode bs st ec xs = cd at *
    have hcb := hidNe hcd
    go_enter Try.func12, Try.ntmps12
    go_wp2_with fail
    refine (HI.out _ hrt).mono ?_
    rintro e w1 ⟨rfl, k1⟩
    have hr := HRB.out.keep k1 (by omega)
    have hb := HB.out.trans (k1.below (.inr (Nat.le_refl _)) HB.out.size)
    have zz := k1.size
    simp only [World.size_alloc] at zz
    clear k1
    obtain ⟨e0, e1, HF⟩ := bytes_fail (cd := cd) hr hb (by omega)
    have c0 := hr.at_ 0 _ rfl
    have c1 := hr.at_ 1 _ rfl
    have f0 := hr.fz 0
    have f1 := hr.fz 1
    clear hr hb hcd
    go_wp2_with fail
    exact bodyPost_ret (v := .agg #[.int .i64 cd, .slice none 0 0]) (by simp [results, Try.results12, go_sem, e0, e1]) rfl HF.out
end Go.Proofs.Ytjdkaaepbkkchaa
