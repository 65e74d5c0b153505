/-
  Chapter 7: EncodeBody, the developers' side.
-/
import Derived.Test.YtjdkaaepbkkchaaW9
namespace Go.Proofs.Ytjdkaaepbkkchaa
open Go.RowKit
set_option linter.unusedVariables false
set_option maxRecDepth 100000

theorem items_each : ∀ {xs : List Itm}, itemsCode xs = 0 → ∀ x ∈ xs, cdOf x = 0
  | [], _, x, hx => by simp at hx
  | y :: ys, h, x, hx => by
    unfold itemsCode at h
    split at h
    · rename_i h0
      rcases List.mem_cons.1 hx with rfl | hx
      · exact h0
      · exact items_each h x hx
    · rename_i h0
      exact absurd h h0
theorem body_ok {bs st ec : Int} {xs : List Itm} (h : bodyCode bs st ec xs = 0) : stampsOk st ec ∧ (0 ≤ bs ∧ bs ≤ 9000) ∧ xs.length ≤ 4 ∧ (∀ x ∈ xs, cdOf x = 0) ∧ bs + xs.length ≤ 9000 := by
  unfold bodyCode at h
  split at h
  · omega
  · rename_i h1
    unfold logCode at h
    split at h
    · omega
    · split at h
      · omega
      · split at h
        · rename_i h2 h3 h4
          exact absurd h h4
        · split at h
          · omega
          · rename_i h2 h3 h4 h5
            exact ⟨Decidable.not_not.1 h1, by omega, by omega, items_each (Decidable.not_not.1 h4), by omega⟩
def bodyAns (bs st ec : Int) (xs : List Itm) : List Int := if bodyCode bs st ec xs = 0 then bodyL bs st ec xs else []
/-- A body's bytes up to the k-th item. -/
def bodyK (bs st ec : Int) (xs : List Itm) (k : Nat) : List Int := repL bs st ec ++ ((xs.length : Int) :: (xs.take k).flatMap itemL)
theorem bodyK_zero (bs st ec : Int) (xs : List Itm) : bodyK bs st ec xs 0 = repL bs st ec ++ [(xs.length : Int)] := by simp [bodyK]
theorem bodyK_all (bs st ec : Int) (xs : List Itm) (k : Nat) (hk : xs.length ≤ k) : bodyK bs st ec xs k = bodyL bs st ec xs := by rw [bodyK, List.take_of_length_le hk]; rfl
theorem bodyK_succ (bs st ec : Int) (xs : List Itm) (k : Nat) (hk : k < xs.length) : bodyK bs st ec xs (k + 1) = bodyK bs st ec xs k ++ itemL (xs.getD k it0) := by
  have h1 : xs.take (k + 1) = xs.take k ++ [xs.getD k it0] := by
    rw [List.take_succ_eq_append_getElem hk, List.getD_eq_getElem?_getD, List.getElem?_eq_getElem hk]
    rfl
  simp [bodyK, h1]
theorem bodyK_len {bs st ec : Int} {xs : List Itm} (hx : ∀ x ∈ xs, cdOf x = 0) : ∀ k, k ≤ xs.length → (bodyK bs st ec xs k).length ≤ 10 + 10 * k
  | 0, _ => by rw [bodyK_zero]; simp [repL_len]
  | k + 1, hk => by
    have ih := bodyK_len (bs := bs) (st := st) (ec := ec) hx k (by omega)
    have hm : xs.getD k it0 ∈ xs := by
      rw [List.getD_eq_getElem?_getD, List.getElem?_eq_getElem (by omega)]
      simp
    have := (itemL_len (hx _ hm)).2
    rw [bodyK_succ _ _ _ _ _ (by omega), List.length_append]
    omega
theorem BoxL.belowB {w w' : World} {b B : Nat} {vs : List Value} (h : BoxL w b vs) (k : Below B w w') (hb : b < B) : BoxL w' b vs :=
  ⟨Nat.lt_of_lt_of_le h.lt k.size, fun j v hj => (k.cell (p := ⟨b, j, none⟩) hb).trans (h.at_ j v hj), fun j => (k.frozen (p := ⟨b, j, none⟩) hb).trans (h.fz j)⟩
theorem hidNe {a b : Int} (h : a ≠ b) : (a != b) = true := by simp [h]
theorem retAgg {a b : Int} {v : Value} (h : a = b) : Ending.returned (.agg #[.int .i64 a, v]) = .returned (.agg #[.int .i64 b, v]) := by rw [h]

set_option maxHeartbeats 4000000 in
theorem implEncBody_any (bs st ec : Int) (A : Option Addr) (n c hi : Nat) (xs : List Itm) (w : World) (h : Rt w 0 hi A n xs) :
    Calls Try.prog 13 #[.agg #[.int .i64 bs, .int .i64 st, .int .i64 ec, .slice A n c]] w (BytesPost w (bodyCode bs st ec xs) (bodyAns bs st ec xs)) := by
  have hint := h.int
  have hl := h.len
  have htop := h.top
  have hx := (BoxL.new w [.int .i64 bs, .int .i64 st, .int .i64 ec, .slice A n c] #[.int .i64 bs, .int .i64 st, .int .i64 ec, .slice A n c] 29 rfl).below ((Below.refl _ _).alloc (Nat.le_refl _) (.cells #[.int .i64 0, .slice none 0 0] 35))
  have hr := BoxL.new (w.alloc (.cells #[.int .i64 bs, .int .i64 st, .int .i64 ec, .slice A n c] 29)) [.int .i64 0, .slice none 0 0] #[.int .i64 0, .slice none 0 0] 35 rfl
  have hb : Below w.heap.size w ((w.alloc (.cells #[.int .i64 bs, .int .i64 st, .int .i64 ec, .slice A n c] 29)).alloc (.cells #[.int .i64 0, .slice none 0 0] 35)) := ((Below.refl _ _).alloc (Nat.le_refl _) _).alloc (by simp) _
  simp only [World.size_alloc] at hr
  have hrt := h.keep (Keep.of_below hb 0 0) (by omega)
  have HI := Lib.hid (fun w' (r : Rt w' 0 hi A n xs) => implBodyFault_any bs st ec A n c hi xs w' r)
  have HX := Lib.hid hx
  have HRB := Lib.hid hr
  have HB := Lib.hid hb
  clear hx hr hb
  by_cases hcd : bodyCode bs st ec xs = 0
  · rw [hcd] at HI
    unfold bodyAns
    rw [hcd, if_pos rfl]
    obtain ⟨⟨hs, hc⟩, ha, hn4, hxs, hfull⟩ := body_ok hcd
    have HK := Lib.hid (fun k => bodyK_len (bs := bs) (st := st) (ec := ec) hxs k)
    have HALL := Lib.hid (bodyK_all bs st ec xs n (by omega))
    have HZ0 := Lib.hid (bodyK_zero bs st ec xs)
    have HSC := Lib.hid (fun k => bodyK_succ bs st ec xs k)
    have HCD := Lib.hid hxs
    generalize bodyL bs st ec xs = Z at *
    clear hcd hxs hfull
    go_enter Try.func13, Try.ntmps13
    go_wp2_with fail
    refine (HI.out _ hrt).mono ?_
    rintro e w1 ⟨rfl, b1⟩
    have hx := HX.out.below b1
    have hr := HRB.out.below b1
    have hb := HB.out.trans (b1.mono HB.out.size)
    have zz := b1.size
    simp only [World.size_alloc] at zz
    clear b1 hrt
    go_wp2_with fail
    have bd : Below w1.heap.size w1 w1.drew := below_drew (Below.refl _ _)
    have szd := bd.size
    have HS := Lib.hid (fun (w' : World) (k : Below w1.heap.size w1 w') => (⟨(hx.below k).at_ 0 _ rfl, (hx.below k).at_ 1 _ rfl, (hx.below k).at_ 2 _ rfl, (hx.below k).at_ 3 _ rfl⟩ : w'.cell? ⟨w.heap.size, 0, none⟩ = some (.int .i64 bs) ∧ w'.cell? ⟨w.heap.size, 1, none⟩ = some (.int .i64 st) ∧ w'.cell? ⟨w.heap.size, 2, none⟩ = some (.int .i64 ec) ∧ w'.cell? ⟨w.heap.size, 3, none⟩ = some (.slice A n c)))
    go_region_held3 (fun w' => w'.cell? ⟨w.heap.size, 0, none⟩ = some (.int .i64 bs) ∧ w'.cell? ⟨w.heap.size, 1, none⟩ = some (.int .i64 st) ∧ w'.cell? ⟨w.heap.size, 2, none⟩ = some (.int .i64 ec) ∧ w'.cell? ⟨w.heap.size, 3, none⟩ = some (.slice A n c))
      (first | exact HS.out _ bd | exact HS.out _ (bd.alloc szd _) | go_keep)
      (first
        | (go_at_call 33; refine (startBytes_any bs st ec _ (by omega) (by omega) (by omega)).mono ?_; rintro e v1 ⟨g1, c1, rfl, o1, hb'⟩; replace bd := bd.trans (hb'.mono szd); have szd := bd.size)
        | (go_at_call 34; refine (putWord_any (n : Int) 1 _ (by omega) (by omega) (by omega)).mono ?_; rintro e v2 ⟨g2, rfl, r2, hb'⟩; replace bd := bd.trans (hb'.mono szd); have szd := bd.size; have o1' := o1.below hb'; have hP := Lib.hid (Parts.new v2 [(some ⟨g1, 0, none⟩, 9, c1, repL bs st ec), (some ⟨g2, 0, none⟩, 1, 1, digs (n : Int) 1)] #[.slice (some ⟨g1, 0, none⟩) 9 c1, .slice (some ⟨g2, 0, none⟩) 1 1] 33 rfl (fun p hp => by
            simp only [List.mem_cons, List.not_mem_nil, or_false] at hp
            rcases hp with rfl | rfl
            · exact ⟨o1'.wr.rd0, some_ne⟩
            · exact ⟨r2.rd0, some_ne⟩)))
        | (go_at_call 32; refine (concatN_any v2.heap.size 2 _ 2 10 _ (bodyK bs st ec xs 0) _ hP.out (by simp) rfl rfl (by rw [HZ0.out, digs1 (n : Int) (by omega), hl]; simp [catP]) (by omega) (by omega) (by omega)).mono ?_; rintro e v3 ⟨g, cap, rfl, ho, hb'⟩; replace bd := (bd.alloc szd _).trans (hb'.mono (by simp; omega)); have ho' := ho.down (base' := w.heap.size + 1 + 1) (by simp; omega)))
    have hl0 : (bodyK bs st ec xs 0).length = 10 := by rw [HZ0.out]; simp [repL_len]
    replace hr := hr.below bd
    have x3 := (hx.below bd).at_ 3 _ rfl
    have hbv : Below w.heap.size w v3 := hb.trans (bd.mono hb.size)
    have hz3 : w.heap.size + 1 + 1 ≤ v3.heap.size := by have := bd.size; omega
    have hHO := Lib.hid ho'
    clear ho ho' hP o1 o1' r2 bd szd hb hx HS
    go_wp2_with fail
    clear x3
    go_loopw [29, 4, 6] (fun i p _ wr => ∃ k g cap : Nat, k ≤ n ∧ i = .int .i64 (k : Int) ∧ p = .slice (some ⟨g, 0, none⟩) (bodyK bs st ec xs k).length cap ∧ OwnB wr (w.heap.size + 1 + 1) g (bodyK bs st ec xs k).length cap (bodyK bs st ec xs k) ∧ Below (w.heap.size + 1 + 1) v3 wr) (fun i _ _ _ => n - (intOf i).toNat)
    case atStart => exact ⟨0, g, cap, Nat.zero_le _, rfl, by rw [hl0], by rw [hl0]; exact hHO.out, Below.refl _ _⟩
    case round =>
      obtain ⟨k, g, cap, hk, rfl, rfl, own, hke⟩ := hrel
      have hbw : Below w.heap.size w wr := hbv.trans (hke.mono (by omega))
      have hsz := hke.size
      have hkl := HK.out k (by omega)
      by_cases hlt : k < n
      · obtain ⟨b, off, rfl, h1, h2, hit⟩ := h.at_ (by omega)
        obtain ⟨a0, ⟨G, cg, a1, rg, gz⟩, a2, a3⟩ := (hit k hlt).keep (Keep.of_below hbw 0 0) h2 (Nat.zero_le _) htop (by omega)
        have i0 : (0 : Int) ≤ (k : Int) := by omega
        have i1 : (k : Int) < (n : Int) := by omega
        have HT := Lib.hid (HSC.out k (by omega))
        have hcx := HCD.out (xs.getD k it0) (by
          rw [List.getD_eq_getElem?_getD, List.getElem?_eq_getElem (by omega)]
          simp)
        have hli := (itemL_len hcx).2
        generalize xs.getD k it0 = x at *
        obtain ⟨xk, xb, xp, xq⟩ := x
        simp only at a0 a1 a2 a3 rg
        have rg2 := rg.keep ((Keep.refl 0 0 wr).alloc (.cells #[.int .i64 xk, .slice G xb.length cg, .int .i64 xp, .int .i64 xq] 62)) (by omega)
        have HC := Lib.hid (itemBytes_any xk xp xq G cg hi xb _ rg2 gz hcx)
        have HT1 := Lib.hid (HT.out.symm.trans rfl)
        generalize itemL (xk, xb, xp, xq) = Zi at *
        obtain ⟨li, hLi⟩ : ∃ li, Zi.length = li := ⟨_, rfl⟩
        rw [hLi] at HC hli
        obtain ⟨Zk, hZk⟩ : ∃ Zk, bodyK bs st ec xs k = Zk := ⟨_, rfl⟩
        rw [hZk] at own hkl HT1 ⊢
        obtain ⟨lk, hLk⟩ : ∃ lk, Zk.length = lk := ⟨_, rfl⟩
        rw [hLk] at own hkl ⊢
        have HL : Hid ((bodyK bs st ec xs (k + 1)).length = lk + li) := by show _ = _; rw [← HT1.out, List.length_append, hLk, hLi]
        have HT2 : Hid (bodyK bs st ec xs (k + 1) = Zk ++ Zi) := HT1.out.symm
        have HO := Lib.hid own
        have HKE := Lib.hid hke
        clear rg rg2 gz hit h hcx hLi hZk hLk own hke HT HT1
        go_wp2_with fail
        refine HC.out.mono ?_
        rintro e wa ⟨ga, ca, rfl, oa, ba⟩
        have ba2 := below_new ba
        have hza := ba2.size
        have own2 := HO.out.below ba2
        have hbase : w.heap.size + 1 + 1 ≤ wa.heap.size := by omega
        go_wp2_with (at_builtin; refine wpList_append_ob rfl _ _ rfl (w.heap.size + 1 + 1) g lk cap Zk rfl own2 (some ⟨ga, 0, none⟩) li ca _ _ Zi rfl oa.wr.1 some_ne ?k2 hbase ?_)
        case k2 => omega
        intro g6 cap6 w6 hp
        have b6 : Below (w.heap.size + 1 + 1) v3 w6 := HKE.out.trans ((ba2.mono (by omega)).trans (hp.below own2.le hbase))
        have HO6 := Lib.hid hp.own
        have HB6 := Lib.hid b6
        clear own2 hp b6 ba ba2 oa
        go_wp2_with fail
        go_roundw
        case rel => exact ⟨k + 1, g6, cap6, by omega, by go_num, by rw [HL.out], by rw [HL.out, HT2.out]; exact HO6.out, HB6.out⟩
        case measure => simp [intOf]; omega
      · obtain rfl : k = n := by omega
        rw [HALL.out] at own
        rw [HALL.out]
        obtain ⟨lz, hLz⟩ : ∃ lz, Z.length = lz := ⟨_, rfl⟩
        rw [hLz] at own ⊢
        obtain ⟨e0, e1, HF⟩ := bytes_done (cd := 0) (hr.belowB hke (by omega)) own hbw (by omega)
        have hr2 := hr.belowB hke (by omega)
        have c0 := hr2.at_ 0 _ rfl
        have c1 := hr2.at_ 1 _ rfl
        have f0 := hr2.fz 0
        have f1 := hr2.fz 1
        clear hr hr2 own hke hbw h
        go_wp2_with fail
        exact bodyPost_ret (v := .agg #[.int .i64 0, .slice (some ⟨g, 0, none⟩) lz cap]) (by simp [results, Try.results13, go_sem, e0, e1]) rfl HF.out
  · unfold bodyAns
    rw [if_neg hcd]
    generalize bodyCode bs st ec xs = cd at *
    have hcb := hidNe hcd
    go_enter Try.func13, Try.ntmps13
    go_wp2_with fail
    refine (HI.out _ hrt).mono ?_
    rintro e w1 ⟨rfl, b1⟩
    have hr := HRB.out.below b1
    have hb := HB.out.trans (b1.mono HB.out.size)
    have zz := b1.size
    simp only [World.size_alloc] at zz
    clear b1
    obtain ⟨e0, e1, HF⟩ := bytes_fail (cd := cd) hr hb (by omega)
    have c0 := hr.at_ 0 _ rfl
    have c1 := hr.at_ 1 _ rfl
    have f0 := hr.fz 0
    have f1 := hr.fz 1
    clear hr hb hcd
    go_wp2_with fail
    exact bodyPost_ret (v := .agg #[.int .i64 cd, .slice none 0 0]) (by simp [results, Try.results13, go_sem, e0, e1]) rfl HF.out
end Go.Proofs.Ytjdkaaepbkkchaa
