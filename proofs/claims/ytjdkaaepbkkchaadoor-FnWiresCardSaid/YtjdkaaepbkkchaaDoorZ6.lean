/-
  W22, W23, W24, in one text.
-/
import Derived.Test.YtjdkaaepbkkchaaDoorZ5
import Derived.Test.YtjdkaaepbkkchaaDoorZ3
namespace Go.Proofs.YtjdkaaepbkkchaaDoor
open Go.RowKit
set_option linter.unusedVariables false
set_option maxRecDepth 100000

set_option maxHeartbeats 4000000 in
theorem items_any (ea : Addr) (b lo hi N : Nat) (r0 : List Int) (w : World) (h : Rdr w b lo hi r0) (h1 : 1 ≤ r0.length) (hN : r0.getD 0 0 = (N : Int)) (ke : Ke ea w) (hb0 : 0 < b) :
    Calls Tryd.prog 73 #[.pointer (some ⟨b, 0, none⟩)] w fun e w' =>
      (∃ ys r G cap, e = .returned (.slice G N cap) ∧ ys.length = N ∧ Reads (r0.drop 1) ys r ∧ OwnT w' w.heap.size G N cap ys ∧ Rdr w' b lo hi r ∧ Keep b (b + 1) w w') ∨
      (Pan e ∧ (∃ ys r, Reads (r0.drop 1) ys r ∧ ys.length < N ∧ rdItem r = none) ∧ Keep b (b + 1) w w') := by
  have hlt := h.lt
  have hby := h.byte _ (getD_mem r0 0 (by omega))
  have hN255 : N ≤ 255 := by omega
  obtain ⟨I0, hi0, hz0, hz1, hz2⟩ := info_parts info_item
  have HN1 := Lib.hid (number_yes b lo hi 1 r0 _ h (by omega) (by omega) (by omega))
  rw [val_one (by omega), hN] at HN1
  clear hby hN
  go_enter Tryd.func73, Tryd.ntmps73
  go_wp2_with fail
  refine HN1.out.mono ?_
  rintro e w1 ⟨rfl, r1, k1⟩
  have ke1 := ke.keep k1 (by omega)
  clear h ke
  go_wp2_with fail
  go_loopw [3, 6] (fun o i wr => ∃ (k : Nat) (ys : List Itm) (r : List Int) (G : Option Addr) (cap : Nat), ys.length = k ∧ k ≤ N ∧ i = .int .i64 (k : Int) ∧ o = .slice G k cap ∧ Reads (r0.drop 1) ys r ∧ OwnT wr w.heap.size G k cap ys ∧ Rdr wr b lo hi r ∧ Ke ea wr ∧ Keep b (b + 1) w wr) (fun _ i _ => N - (intOf i).toNat)
  case atStart => exact ⟨0, [], _, none, 0, rfl, Nat.zero_le _, rfl, rfl, rfl, OwnT.none_ w1 w.heap.size, r1, ke1, k1⟩
  case round =>
    obtain ⟨k, ys, r, G, cap, hyl, hk, rfl, rfl, hR, hO, hr, hke, hK⟩ := hrel
    have hzz := hK.size
    by_cases hlt2 : k < N
    · have i1 : (k : Int) < (N : Int) := by omega
      cases hx : rdItem r with
      | none =>
        have HC := Lib.hid (item_no ea b lo hi r wr hr hx hke hb0)
        have HX := Lib.hid hx
        have HR := Lib.hid hR
        have HL := Lib.hid hyl
        clear hR hO hr hke r1 ke1 k1 hx hyl
        go_wp2_with fail
        refine HC.out.mono ?_
        rintro e wa ⟨⟨u, pv, rfl⟩, ka⟩
        have HKA := Lib.hid (hK.trans ka)
        clear ka hK
        go_wp2_with fail
        exact ⟨rfl, .inr ⟨⟨_, _, rfl⟩, ⟨ys, r, HR.out, by rw [HL.out]; exact hlt2, HX.out⟩, HKA.out⟩⟩
      | some p =>
        obtain ⟨x, m⟩ := p
        have HC := Lib.hid (item_yes b lo hi r x m wr hr hx)
        have HR := Lib.hid (hR.snoc hx)
        have HO := Lib.hid hO
        have HKE := Lib.hid hke
        have HK := Lib.hid hK
        have HL := Lib.hid hyl
        clear hR hO hr hke r1 ke1 k1 hx hK hyl
        go_wp2_with fail
        refine HC.out.mono ?_
        rintro e wa ⟨GC, cb, rfl, hgz, hw, hr2, ka⟩
        obtain ⟨ls, hys, hY⟩ := HO.out
        have hYa := hY.keep ka (by omega)
        have own0 := hYa.1
        have hza := ka.size
        have hml : k + 1 ≤ maxLen := by unfold maxLen; omega
        have hmb : (k + 1) * 48 ≤ 140737488355328 := by omega
        have hwl : w.heap.size ≤ wa.heap.size := by omega
        go_wp2_with (at_builtin; refine wpList_append_lies _ rfl (.tmp 8) (.tmp 11) 24 rfl w.heap.size 55 I0 (.agg #[.int .i64 0, .slice none 0 0, .int .i64 0, .int .i64 0]) 4 48 Tryd.underlying24 hi0 hz0 hz1 hz2 rfl (by decide) _ _ _ rfl (own0.alloc _) ⟨wa.heap.size, 0, none⟩ 1 1 (cell4 (x, GC, cb, wr.heap.size, wa.heap.size)) rfl rfl (World.news_of_block (cs := #[.int .i64 x.1, .slice GC x.2.1.length cb, .int .i64 x.2.2.1, .int .i64 x.2.2.2]) (t := 55) (fr := (0, 0)) (heap_alloc_new wa _)) (by simp [Value.oneCell', cell4]) (by omega) hml hmb ?c5 (wa.heap.size + 1) (by simp) ?_)
        case c5 => simp; omega
        intro g1 cap1 W1 own1 hgrow hat hgl
        have hY1 := hY.push_src hzz ka (by omega) hw hgz own1 hgrow hat
        have hO1 : OwnT W1 w.heap.size (some ⟨g1, 0, none⟩) (k + 1) cap1 (ys ++ [x]) := ⟨_, by rw [List.map_append, hys]; rfl, hY1⟩
        have kr := keep_row hgrow (base := w.heap.size) (fun q e => (own0.lt q e).1)
        have hr3 := hr2.keep kr (by have := hr2.out; omega)
        have hke2 := HKE.out.keep ka (by omega)
        have hke3 := hke2.keep kr (by omega)
        have HO1 := Lib.hid hO1
        have HR3 := Lib.hid hr3
        have HKE3 := Lib.hid hke3
        have HK3 : Hid (Keep b (b + 1) w W1) := by
          have k0 := HK.out.trans ka
          refine ⟨kr.os.trans k0.os, kr.tape.trans k0.tape, kr.output.trans k0.output, Nat.le_trans k0.size kr.size, fun q hq ho => ?_⟩
          rw [kr.block q (by omega) (by omega)]
          exact k0.block q hq ho
        clear own0 own1 hgrow hat hY hYa hY1 hO1 hw hgz hr2 hr3 hke2 hke3 kr ka
        go_wp2_with fail
        go_roundw
        case rel => exact ⟨k + 1, ys ++ [x], _, _, _, by rw [List.length_append, HL.out]; rfl, by omega, by go_num, rfl, HR.out, HO1.out, HR3.out, HKE3.out, HK3.out⟩
        case measure => simp [intOf]; omega
    · have ek : k = N := by omega
      subst ek
      have HR := Lib.hid hR
      have HO := Lib.hid hO
      have HR2 := Lib.hid hr
      have HK := Lib.hid hK
      have HL := Lib.hid hyl
      clear hR hO hr hK hyl r1 k1
      go_wp2_with fail
      go_ret
      exact .inl ⟨ys, r, G, cap, rfl, HL.out, HR.out, HO.out, HR2.out, HK.out⟩
theorem items_no (ea : Addr) (b lo hi : Nat) (r0 : List Int) (w : World) (h : Rdr w b lo hi r0) (h1 : r0.length < 1) (ke : Ke ea w) :
    Calls Tryd.prog 73 #[.pointer (some ⟨b, 0, none⟩)] w fun e w' => Pan e ∧ w = w' := by
  have HN1 := Lib.hid (number_no ea b lo hi 1 r0 _ h h1 ke)
  clear h ke
  go_enter Tryd.func73, Tryd.ntmps73
  go_wp2_with fail
  refine HN1.out.mono ?_
  rintro e w1 ⟨⟨u, pv, rfl⟩, rfl⟩
  go_wp2_with fail
  exact ⟨rfl, ⟨_, _, rfl⟩, rfl⟩
end Go.Proofs.YtjdkaaepbkkchaaDoor
namespace Go.Proofs.YtjdkaaepbkkchaaDoor
open Go.RowKit
set_option linter.unusedVariables false
set_option maxRecDepth 100000

set_option maxHeartbeats 1000000 in
theorem readBody_no (ea : Addr) (b lo hi : Nat) (xs : List Int) (w : World) (h : Rdr w b lo hi xs) (h10 : xs.length < 10) (ke : Ke ea w) (hb0 : 0 < b) :
    Calls Tryd.prog 43 #[.pointer (some ⟨b, 0, none⟩)] w fun e w' => Pan e ∧ Keep b (b + 1) w w' := by
  have hlt := h.lt
  have d0 : List.drop 2 (List.drop 4 xs) = List.drop 6 xs := by rw [List.drop_drop]
  have d1 : List.drop 3 (List.drop 6 xs) = List.drop 9 xs := by rw [List.drop_drop]
  have l0 : (List.drop 4 xs).length = xs.length - 4 := by rw [List.length_drop]
  have l1 : (List.drop 6 xs).length = xs.length - 6 := by rw [List.length_drop]
  have l2 : (List.drop 9 xs).length = xs.length - 9 := by rw [List.length_drop]
  have b0 := (Below.refl w.heap.size w).alloc (Nat.le_refl _) (.cells #[.int .i64 0, .int .i64 0, .int .i64 0, .slice none 0 0] 26)
  have h1 := h.below b0
  have ke1 := ke.below b0 ke.1
  have HK := Lib.hid ((Keep.refl b (b + 1) w).alloc (.cells #[.int .i64 0, .int .i64 0, .int .i64 0, .slice none 0 0] 26))
  clear b0
  by_cases h4 : xs.length < 4
  · have HN1 := Lib.hid (number_no ea b lo hi 4 xs _ h1 (by omega) ke1)
    clear h1 h
    go_enter Tryd.func43, Tryd.ntmps43
    go_wp2_with fail
    refine HN1.out.mono ?_
    rintro e w1 ⟨⟨u, pv, rfl⟩, rfl⟩
    go_wp2_with fail
    exact ⟨rfl, ⟨_, _, rfl⟩, HK.out⟩
  · have HN1 := Lib.hid (number_yes b lo hi 4 xs _ h1 (by omega) (by omega) (by omega))
    by_cases h6 : xs.length < 6
    · have HN2 := Lib.hid (fun w' (h' : Rdr w' b lo hi (xs.drop 4)) (ke' : Ke ea w') => number_no ea b lo hi 2 _ w' h' (by omega) ke')
      clear h1 h
      go_enter Tryd.func43, Tryd.ntmps43
      go_wp2_with fail
      refine HN1.out.mono ?_
      rintro e w1 ⟨rfl, r1, k1⟩
      have ke2 := ke1.keep k1 (by omega)
      have HK1 := Lib.hid (HK.out.trans k1)
      clear k1
      go_wp2_with fail
      refine (HN2.out _ r1 ke2).mono ?_
      rintro e w2 ⟨⟨u, pv, rfl⟩, rfl⟩
      go_wp2_with fail
      exact ⟨rfl, ⟨_, _, rfl⟩, HK1.out⟩
    · have HN2 := Lib.hid (fun w' (h' : Rdr w' b lo hi (xs.drop 4)) => number_yes b lo hi 2 _ w' h' (by omega) (by omega) (by omega))
      rw [d0] at HN2
      by_cases h9 : xs.length < 9
      · have HN3 := Lib.hid (fun w' (h' : Rdr w' b lo hi (xs.drop 6)) (ke' : Ke ea w') => number_no ea b lo hi 3 _ w' h' (by omega) ke')
        clear h1 h
        go_enter Tryd.func43, Tryd.ntmps43
        go_wp2_with fail
        refine HN1.out.mono ?_
        rintro e w1 ⟨rfl, r1, k1⟩
        have ke2 := ke1.keep k1 (by omega)
        have HK1 := Lib.hid (HK.out.trans k1)
        clear k1
        go_wp2_with fail
        refine (HN2.out _ r1).mono ?_
        rintro e w2 ⟨rfl, r2, k2⟩
        have ke3 := ke2.keep k2 (by omega)
        have HK2 := Lib.hid (HK1.out.trans k2)
        clear k2
        go_wp2_with fail
        refine (HN3.out _ r2 ke3).mono ?_
        rintro e w3 ⟨⟨u, pv, rfl⟩, rfl⟩
        go_wp2_with fail
        exact ⟨rfl, ⟨_, _, rfl⟩, HK2.out⟩
      · have HN3 := Lib.hid (fun w' (h' : Rdr w' b lo hi (xs.drop 6)) => number_yes b lo hi 3 _ w' h' (by omega) (by omega) (by omega))
        rw [d1] at HN3
        have HN4 := Lib.hid (fun w' (h' : Rdr w' b lo hi (xs.drop 9)) (ke' : Ke ea w') => items_no ea b lo hi _ w' h' (by omega) ke')
        clear h1 h
        go_enter Tryd.func43, Tryd.ntmps43
        go_wp2_with fail
        refine HN1.out.mono ?_
        rintro e w1 ⟨rfl, r1, k1⟩
        have ke2 := ke1.keep k1 (by omega)
        have HK1 := Lib.hid (HK.out.trans k1)
        clear k1
        go_wp2_with fail
        refine (HN2.out _ r1).mono ?_
        rintro e w2 ⟨rfl, r2, k2⟩
        have ke3 := ke2.keep k2 (by omega)
        have HK2 := Lib.hid (HK1.out.trans k2)
        clear k2
        go_wp2_with fail
        refine (HN3.out _ r2).mono ?_
        rintro e w3 ⟨rfl, r3, k3⟩
        have ke4 := ke3.keep k3 (by omega)
        have HK3 := Lib.hid (HK2.out.trans k3)
        clear k3
        go_wp2_with fail
        refine (HN4.out _ r3 ke4).mono ?_
        rintro e w4 ⟨⟨u, pv, rfl⟩, rfl⟩
        go_wp2_with fail
        exact ⟨rfl, ⟨_, _, rfl⟩, HK3.out⟩

set_option maxHeartbeats 2000000 in
theorem readBody_any (ea : Addr) (b lo hi : Nat) (ps : List Int) (w : World) (h : Rdr w b lo hi ps) (h10 : 10 ≤ ps.length) (ke : Ke ea w) (hb0 : 0 < b) :
    Calls Tryd.prog 43 #[.pointer (some ⟨b, 0, none⟩)] w fun e w' =>
      (∃ ys r G N cap, e = .returned (.agg #[.int .i64 (val (ps.take 4)), .int .i64 (val (part ps 4 2)), .int .i64 (val (part ps 6 3)), .slice G N cap]) ∧ ys.length = N ∧ (N : Int) = ps.getD 9 0 ∧ Reads (ps.drop 10) ys r ∧ OwnT w' w.heap.size G N cap ys ∧ Keep b (b + 1) w w') ∨
      (Pan e ∧ (∃ ys r, Reads (ps.drop 10) ys r ∧ (ys.length : Int) < ps.getD 9 0 ∧ rdItem r = none) ∧ Keep b (b + 1) w w') := by
  have hlt := h.lt
  have hby := h.byte _ (getD_mem ps 9 (by omega))
  obtain ⟨N, hN⟩ := Int.eq_ofNat_of_zero_le hby.1
  have d0 : List.drop 2 (List.drop 4 ps) = List.drop 6 ps := by rw [List.drop_drop]
  have d1 : List.drop 3 (List.drop 6 ps) = List.drop 9 ps := by rw [List.drop_drop]
  have d2 : List.drop 1 (List.drop 9 ps) = List.drop 10 ps := by rw [List.drop_drop]
  have l0 : (List.drop 4 ps).length = ps.length - 4 := by rw [List.length_drop]
  have l1 : (List.drop 6 ps).length = ps.length - 6 := by rw [List.length_drop]
  have l2 : (List.drop 9 ps).length = ps.length - 9 := by rw [List.length_drop]
  have b0 := (Below.refl w.heap.size w).alloc (Nat.le_refl _) (.cells #[.int .i64 0, .int .i64 0, .int .i64 0, .slice none 0 0] 26)
  have h1 := h.below b0
  have ke1 := ke.below b0 ke.1
  have HK := Lib.hid ((Keep.refl b (b + 1) w).alloc (.cells #[.int .i64 0, .int .i64 0, .int .i64 0, .slice none 0 0] 26))
  have HB := Lib.hid (BoxL.new w [.int .i64 0, .int .i64 0, .int .i64 0, .slice none 0 0] #[.int .i64 0, .int .i64 0, .int .i64 0, .slice none 0 0] 26 rfl)
  have HN1 := Lib.hid (number_yes b lo hi 4 ps _ h1 (by omega) (by omega) (by omega))
  have HN2 := Lib.hid (fun w' (h' : Rdr w' b lo hi (ps.drop 4)) => number_yes b lo hi 2 _ w' h' (by omega) (by omega) (by omega))
  rw [d0] at HN2
  have HN3 := Lib.hid (fun w' (h' : Rdr w' b lo hi (ps.drop 6)) => number_yes b lo hi 3 _ w' h' (by omega) (by omega) (by omega))
  rw [d1] at HN3
  have HN4 := Lib.hid (fun w' (h' : Rdr w' b lo hi (ps.drop 9)) (ke' : Ke ea w') => items_any ea b lo hi N _ w' h' (by omega) (by rw [drop_getD]; exact hN) ke' hb0)
  rw [d2] at HN4
  rw [hN]
  rw [show List.take 2 (List.drop 4 ps) = part ps 4 2 from rfl] at HN2
  rw [show List.take 3 (List.drop 6 ps) = part ps 6 3 from rfl] at HN3
  generalize val (ps.take 4) = v1 at *
  generalize val (part ps 4 2) = v2 at *
  generalize val (part ps 6 3) = v3 at *
  have hza : (w.alloc (.cells #[.int .i64 0, .int .i64 0, .int .i64 0, .slice none 0 0] 26)).heap.size = w.heap.size + 1 := by simp
  clear h1 h b0 d0 d1 d2 l0 l1 l2 hby hN h10 ke
  go_enter Tryd.func43, Tryd.ntmps43
  go_wp2_with fail
  refine HN1.out.mono ?_
  rintro e w1 ⟨rfl, r1, k1⟩
  have ke2 := ke1.keep k1 (by omega)
  go_wp2_with fail
  refine (HN2.out _ r1).mono ?_
  rintro e w2 ⟨rfl, r2, k2⟩
  have ke3 := ke2.keep k2 (by omega)
  go_wp2_with fail
  refine (HN3.out _ r2).mono ?_
  rintro e w3 ⟨rfl, r3, k3⟩
  have ke4 := ke3.keep k3 (by omega)
  have k13 := k1.trans (k2.trans k3)
  have hz3 := k13.size
  rw [hza] at hz3
  clear k1 k2 k3 r1 r2 ke1 ke2 ke3
  go_wp2_with fail
  refine (HN4.out _ r3 ke4).mono ?_
  rintro e w4 (⟨ys, r, G, cap, rfl, hyl, hR, hO, r4, k4⟩ | ⟨⟨u, pv, rfl⟩, ⟨ys, r, hR, hyl, hx⟩, k4⟩)
  · have k14 := k13.trans k4
    have x2 := HB.out.keep k14 (by omega)
    have kk := HK.out.trans k14
    have kw : Keep w.heap.size (w.heap.size + 1) w4 ((((w4.setCell ⟨w.heap.size, 0, none⟩ (.int .i64 v1)).setCell ⟨w.heap.size, 1, none⟩ (.int .i64 v2)).setCell ⟨w.heap.size, 2, none⟩ (.int .i64 v3)).setCell ⟨w.heap.size, 3, none⟩ (.slice G N cap)) := (Keep.refl _ _ w4).four ⟨Nat.le_refl _, Nat.lt_succ_self _⟩ _ _ _ _
    have HOO := Lib.hid ((hO.keep kw (by omega)).down (base' := w.heap.size) (by omega))
    have HKK := Lib.hid (kk.fresh4 (b := w.heap.size) (Nat.le_refl _) (.int .i64 v1) (.int .i64 v2) (.int .i64 v3) (.slice G N cap))
    have HRR := Lib.hid hR
    have HL := Lib.hid hyl
    obtain ⟨e0, e1, e2, e3⟩ := set4 x2 (.int .i64 v1) (.int .i64 v2) (.int .i64 v3) (.slice G N cap)
    have hlt2 := x2.lt
    have c0 := x2.at_ 0 _ rfl
    have c1 := x2.at_ 1 _ rfl
    have c2 := x2.at_ 2 _ rfl
    have c3 := x2.at_ 3 _ rfl
    have f0 := x2.fz 0
    have f1 := x2.fz 1
    have f2 := x2.fz 2
    have f3 := x2.fz 3
    clear x2 k13 k14 kk kw hO r3 r4 k4 hR hyl ke4
    go_wp2_with fail
    exact bodyPost_ret (v := .agg #[.int .i64 v1, .int .i64 v2, .int .i64 v3, .slice G N cap]) (by simp [results, Tryd.results43, go_sem, e0, e1, e2, e3]) rfl (.inl ⟨_, _, _, _, _, rfl, HL.out, rfl, HRR.out, HOO.out, HKK.out⟩)
  · have HKK := Lib.hid (HK.out.trans (k13.trans k4))
    have HRR := Lib.hid hR
    have HX := Lib.hid hx
    have HL := Lib.hid hyl
    clear k13 k4 r3 hR hx hyl ke4
    go_wp2_with fail
    exact ⟨rfl, .inr ⟨⟨_, _, rfl⟩, ⟨ys, r, HRR.out, by have := HL.out; omega, HX.out⟩, HKK.out⟩⟩
/-- The bytes are a body's: it is read. -/
theorem readBody_yes (ea : Addr) (b lo hi : Nat) (ps : List Int) (bs st ec : Int) (xs : List Itm) (w : World) (h : Rdr w b lo hi ps) (hB : isBody ps bs st ec xs) (ke : Ke ea w) (hb0 : 0 < b) :
    Calls Tryd.prog 43 #[.pointer (some ⟨b, 0, none⟩)] w fun e w' =>
      ∃ G cap, e = .returned (.agg #[.int .i64 bs, .int .i64 st, .int .i64 ec, .slice G xs.length cap]) ∧ OwnT w' w.heap.size G xs.length cap xs ∧ Keep b (b + 1) w w' := by
  obtain ⟨q1, q2, q3⟩ := body_drop hB
  obtain ⟨v1, v2, v3⟩ := body_rv hB
  refine (readBody_any ea b lo hi ps w h q1 ke hb0).mono ?_
  rintro e w' (⟨ys, r, G, N, cap, rfl, hyl, hN, hR, hO, k⟩ | ⟨_, ⟨ys, r, hR, hyl, hx⟩, k⟩)
  · have e1 : ys = xs := body_all hB hR (by omega)
    subst e1
    subst hyl
    rw [v1, v2, v3]
    exact ⟨G, cap, rfl, hO, k⟩
  · exact absurd hx ((body_more hB hR).1 (by omega))
/-- They are none's: whatever is read, its bytes are others. -/
theorem readBody_none (ea : Addr) (b lo hi : Nat) (ps : List Int) (w : World) (h : Rdr w b lo hi ps) (hB : ∀ bs st ec xs, ¬ isBody ps bs st ec xs) (ke : Ke ea w) (hb0 : 0 < b) :
    Calls Tryd.prog 43 #[.pointer (some ⟨b, 0, none⟩)] w fun e w' =>
      (∃ bs st ec ys G cap, e = .returned (.agg #[.int .i64 bs, .int .i64 st, .int .i64 ec, .slice G ys.length cap]) ∧ decide (bodyAns bs st ec ys = ps) = false ∧ OwnT w' w.heap.size G ys.length cap ys ∧ Keep b (b + 1) w w') ∨
      (Pan e ∧ Keep b (b + 1) w w') := by
  by_cases h10 : ps.length < 10
  · refine (readBody_no ea b lo hi ps w h h10 ke hb0).mono ?_
    rintro e w' ⟨hp, k⟩
    exact .inr ⟨hp, k⟩
  · refine (readBody_any ea b lo hi ps w h (by omega) ke hb0).mono ?_
    rintro e w' (⟨ys, r, G, N, cap, rfl, hyl, hN, hR, hO, k⟩ | ⟨hp, _, k⟩)
    · subst hyl
      refine .inl ⟨_, _, _, ys, G, cap, rfl, decide_eq_false fun e => ?_, hO, k⟩
      unfold bodyAns at e
      split at e
      · rename_i hc
        exact hB _ _ _ _ ⟨hc, e⟩
      · rw [← e] at h10
        simp at h10
    · exact .inr ⟨hp, k⟩
end Go.Proofs.YtjdkaaepbkkchaaDoor
namespace Go.Proofs.YtjdkaaepbkkchaaDoor
open Go.RowKit
set_option linter.unusedVariables false
set_option maxRecDepth 100000

theorem OwnT.rt0 {w : World} {base n c : Nat} {G : Option Addr} {xs : List Itm} (h : OwnT w base G n c xs) : Rt w 0 w.heap.size G n xs := h.wt.rt.wide (Nat.zero_le _) (Nat.le_refl _) (Nat.le_refl _)
theorem bodyAns_yes {ps : List Int} {bs st ec : Int} {xs : List Itm} (h : isBody ps bs st ec xs) : bodyAns bs st ec xs = ps := by
  unfold bodyAns
  rw [if_pos h.1, h.2]
theorem catchB_panicking (p : Addr) (x : Int) (u : TypeId) (pv : Value) (w : World) (hc : w.cell? p = some (.int .i64 x)) (hz : w.frozen? p = false) :
    CallsD Tryd.prog 70 #[.pointer (some p)] (.panicking [{ v := .iface u pv, recovered := false }]) w fun e u' w' =>
      e = .returned (.tuple #[]) ∧ u' = .panicking [{ v := .iface u pv, recovered := true }] ∧ w' = w.setCell p (.int .i64 5) := by
  refine callsD_of_wpS Tryd.func70 rfl fun c₀ cs hu => ?_
  apply wpS_seq
  apply wpS_region
  simp [wpOpsS, go_sem, recoverD, hu, Tryd.ntmps70, Exit.thenS]
  refine wpS_cond (t := true) (by simp [Act.eval, Array.replicate]) ?_
  simp only [if_true]
  apply wpS_region
  simp [wpOpsS, go_sem, hc, hz, bodyPostS, results, Tryd.results70]
theorem catchB_idle (p : Addr) (w : World) :
    CallsD Tryd.prog 70 #[.pointer (some p)] .returning w fun e u' w' => e = .returned (.tuple #[]) ∧ u' = .returning ∧ w' = w := by
  refine callsD_of_wpS Tryd.func70 rfl fun c₀ cs hu => ?_
  apply wpS_seq
  apply wpS_region
  simp [wpOpsS, go_sem, recoverD, hu, Tryd.ntmps70, Exit.thenS]
  refine wpS_cond (t := false) (by simp [Act.eval, Array.replicate]) ?_
  simp only [Bool.false_eq_true, if_false]
  refine wpS_of_wp (wp_skip ?_)
  cases c₀
  simp_all [bodyPostS, results, Tryd.results70]
set_option maxHeartbeats 2000000 in
theorem readAllB_yes (ea : Addr) (A : Option Addr) (n c hi : Nat) (ps : List Int) (bs st ec : Int) (ys : List Itm) (w : World) (h : Rd w 0 hi A n ps) (hnc : n ≤ c) (hA : (A = none ∧ c = 0) ∨ ∃ g off, A = some ⟨g, off, none⟩) (ke : Ke ea w) (hB : isBody ps bs st ec ys) :
    Calls Tryd.prog 42 #[.slice A n c, .func (.func 43) #[] #[], .func (.func 8) #[] #[]] w fun e w' => ∃ G cap, e = .returned (.tuple #[.agg #[.int .i64 bs, .int .i64 st, .int .i64 ec, .slice G ys.length cap], .int .i64 0]) ∧ OwnT w' w.heap.size G ys.length cap ys ∧ Below w.heap.size w w' := by
  have hl := h.len
  have htop := h.top
  have hmf : ∀ (fn : Fn) (first cap : Array Value) (w : World), (Instr.makeFunc fn first cap).run Tryd.prog w = .ok (.func fn first cap) w := fun _ _ _ _ => rfl
  have f1 : ∀ (p : Int) (v : Value) (w : World), (Instr.field 29 (.agg #[.int .i64 p, v]) 1).run Tryd.prog w = .ok v w := fun _ _ _ => by kernel_rfl
  have b1 : Below w.heap.size w (w.alloc (.cells #[.int .i64 0, .int .i64 0, .int .i64 0, .slice none 0 0] 26)) := (Below.refl _ _).alloc (Nat.le_refl _) _
  have b2 : Below w.heap.size w ((w.alloc (.cells #[.int .i64 0, .int .i64 0, .int .i64 0, .slice none 0 0] 26)).alloc (.cells #[.int .i64 0] 2)) := b1.alloc (by simp) _
  have b3 : Below w.heap.size w (((w.alloc (.cells #[.int .i64 0, .int .i64 0, .int .i64 0, .slice none 0 0] 26)).alloc (.cells #[.int .i64 0] 2)).alloc (.cells #[.slice A n c] 101)) := b2.alloc (by simp; omega) _
  have x6 := ((BoxL.new w [.int .i64 0, .int .i64 0, .int .i64 0, .slice none 0 0] #[.int .i64 0, .int .i64 0, .int .i64 0, .slice none 0 0] 26 rfl).below ((Below.refl _ _).alloc (Nat.le_refl _) (.cells #[.int .i64 0] 2))).below ((Below.refl _ _).alloc (Nat.le_refl _) (.cells #[.slice A n c] 101))
  have x7 := (BoxL.new (w.alloc (.cells #[.int .i64 0, .int .i64 0, .int .i64 0, .slice none 0 0] 26)) [.int .i64 0] #[.int .i64 0] 2 rfl).below ((Below.refl _ _).alloc (Nat.le_refl _) (.cells #[.slice A n c] 101))
  have xr := BoxL.new ((w.alloc (.cells #[.int .i64 0, .int .i64 0, .int .i64 0, .slice none 0 0] 26)).alloc (.cells #[.int .i64 0] 2)) [.slice A n c] #[.slice A n c] 101 rfl
  have hr := h.keep (Keep.of_below b3 0 0) (by omega)
  have ke3 := ke.below b3 ke.1
  simp only [World.size_alloc] at x7 xr
  have hR : Rdr (((w.alloc (.cells #[.int .i64 0, .int .i64 0, .int .i64 0, .slice none 0 0] 26)).alloc (.cells #[.int .i64 0] 2)).alloc (.cells #[.slice A n c] 101)) (w.heap.size + 1 + 1) 0 hi ps :=
    ⟨xr.lt, by omega, xr.fz 0, A, n, c, xr.at_ 0 _ rfl, hr, hnc, hA⟩
  have hs3 : (((w.alloc (.cells #[.int .i64 0, .int .i64 0, .int .i64 0, .slice none 0 0] 26)).alloc (.cells #[.int .i64 0] 2)).alloc (.cells #[.slice A n c] 101)).heap.size = w.heap.size + 1 + 1 + 1 := by simp
  have X6 := Lib.hid x6
  have X7 := Lib.hid x7
  have B3 := Lib.hid b3
  have H := Lib.hid h
  have KE := Lib.hid ke
  have HK0 := ke.1
  clear x6 x7 xr b1 b2 b3
  have HY := Lib.hid (readBody_yes ea _ 0 hi ps bs st ec ys _ hR hB ke3 (by omega))
  have hdd : decide (bodyAns bs st ec ys = ps) = true := decide_eq_true (bodyAns_yes hB)
  clear hR hr ke3 ke h hA hB
  go_enter_defers Tryd.func42, Tryd.ntmps42
  go_wp2_with fail
  refine HY.out.mono ?_
  rintro e w1 ⟨G, cap, rfl, hO, k1⟩
  have x6 := X6.out.keep k1 (by omega)
  have x7 := X7.out.keep k1 (by omega)
  have hb := B3.out.trans (k1.below (.inl (by omega)) B3.out.size)
  have h1 := H.out.keep (Keep.of_below hb 0 0) (by omega)
  have ke1 := KE.out.below hb HK0
  have hz := k1.size
  rw [hs3] at hz hO
  clear k1
  have HE := Lib.hid (fun w' (r : Rt w' 0 w1.heap.size G ys.length ys) => implEncBody_any bs st ec G ys.length cap w1.heap.size ys w' r)
  have bA : Below w1.heap.size w1 (w1.alloc (.cells #[.int .i64 bs, .int .i64 st, .int .i64 ec, .slice G ys.length cap] 26)) := (Below.refl _ _).alloc (Nat.le_refl _) _
  have x8 := BoxL.new w1 [.int .i64 bs, .int .i64 st, .int .i64 ec, .slice G ys.length cap] #[.int .i64 bs, .int .i64 st, .int .i64 ec, .slice G ys.length cap] 26 rfl
  have rt := hO.rt0.keep (Keep.of_below bA 0 0) (by omega)
  obtain ⟨zs, hzs⟩ : ∃ zs, bodyAns bs st ec ys = zs := ⟨_, rfl⟩
  rw [hzs] at HE hdd
  generalize bodyCode bs st ec ys = bc at *
  have HDD := Lib.hid hdd
  clear hzs hdd
  go_wp2_with fail
  refine (HE.out _ rt).mono ?_
  rintro e w2 ⟨GB, capB, rfl, hG, hle, wz, b2⟩
  have b12 := below_new b2
  replace x8 := x8.below b2
  replace x6 := x6.below b12
  replace x7 := x7.below b12
  replace hb := hb.trans (b12.mono hb.size)
  have h2 := h1.keep (Keep.of_below b12 0 0) (by omega)
  have ke2 := ke1.below b12 ke1.1
  have hO2 := hO.below b12
  clear h1 ke1 bA rt hO
  go_wp2_with fail
  refine (implSame_any GB A zs.length capB n c _ _ _ _ zs ps _ wz.1 h2).mono ?_
  rintro e w3 ⟨rfl, rfl⟩
  rw [HDD.out]
  have c0 := x6.at_ 0 _ rfl
  have c1 := x6.at_ 1 _ rfl
  have c2 := x6.at_ 2 _ rfl
  have c3 := x6.at_ 3 _ rfl
  have c7 := x7.at_ 0 _ rfl
  have f7 := x7.fz 0
  clear wz h2 b2 b12
  have y0 := x8.at_ 0 _ rfl
  have y1 := x8.at_ 1 _ rfl
  have y2 := x8.at_ 2 _ rfl
  have y3 := x8.at_ 3 _ rfl
  have f60 := x6.fz 0
  have f61 := x6.fz 1
  have f62 := x6.fz 2
  have f63 := x6.fz 3
  obtain ⟨e0, e1, e2, e3⟩ := set4 x6 (.int .i64 bs) (.int .i64 st) (.int .i64 ec) (.slice G ys.length cap)
  have e7 := World.cell?_setCell_same ((((w2.setCell ⟨w.heap.size, 0, none⟩ (.int .i64 bs)).setCell ⟨w.heap.size, 1, none⟩ (.int .i64 st)).setCell ⟨w.heap.size, 2, none⟩ (.int .i64 ec)).setCell ⟨w.heap.size, 3, none⟩ (.slice G ys.length cap)) (⟨w.heap.size + 1, 0, none⟩ : Addr) (.int .i64 0) (u := .int .i64 0) (by simp [go_sem, c7])
  have kk : Keep w.heap.size (w.heap.size + 1 + 1) w2 (((((w2.setCell ⟨w.heap.size, 0, none⟩ (.int .i64 bs)).setCell ⟨w.heap.size, 1, none⟩ (.int .i64 st)).setCell ⟨w.heap.size, 2, none⟩ (.int .i64 ec)).setCell ⟨w.heap.size, 3, none⟩ (.slice G ys.length cap)).setCell ⟨w.heap.size + 1, 0, none⟩ (.int .i64 0)) :=
    ((Keep.refl _ _ w2).four ⟨Nat.le_refl _, by omega⟩ _ _ _ _).setCell (p := ⟨w.heap.size + 1, 0, none⟩) (by constructor <;> (simp only []; omega)) _
  have HF := Lib.hid ((below4 hb (Nat.le_refl _) (.int .i64 bs) (.int .i64 st) (.int .i64 ec) (.slice G ys.length cap)).setCell (p := ⟨w.heap.size + 1, 0, none⟩) (by show w.heap.size ≤ w.heap.size + 1; omega) (.int .i64 0))
  have HOO := Lib.hid ((hO2.keep kk (by omega)).down (base' := w.heap.size) (by omega))
  clear x8 x6 x7 hb ke2 kk hO2
  go_wp2_with fail
  refine leaves_cons (f := 70) (args := #[.pointer (some ⟨w.heap.size + 1, 0, none⟩)]) (by simp) (by simp [go_sem]) ?_
  refine (catchB_idle ⟨w.heap.size + 1, 0, none⟩ _).mono ?_
  rintro e u' w'' ⟨rfl, rfl, rfl⟩
  exact ⟨.tuple #[.agg #[.int .i64 bs, .int .i64 st, .int .i64 ec, .slice G ys.length cap], .int .i64 0], by simp [results, Tryd.results42, go_sem, e0, e1, e2, e3, e7], G, cap, rfl, HOO.out, HF.out⟩

set_option maxHeartbeats 2000000 in
theorem readAllB_none (ea : Addr) (A : Option Addr) (n c hi : Nat) (ps : List Int) (w : World) (h : Rd w 0 hi A n ps) (hnc : n ≤ c) (hA : (A = none ∧ c = 0) ∨ ∃ g off, A = some ⟨g, off, none⟩) (ke : Ke ea w) (hB : ∀ bs st ec xs, ¬ isBody ps bs st ec xs) :
    Calls Tryd.prog 42 #[.slice A n c, .func (.func 43) #[] #[], .func (.func 8) #[] #[]] w fun e w' => e = .returned (.tuple #[.agg #[.int .i64 0, .int .i64 0, .int .i64 0, .slice none 0 0], .int .i64 5]) ∧ Below w.heap.size w w' := by
  have hl := h.len
  have htop := h.top
  have hmf : ∀ (fn : Fn) (first cap : Array Value) (w : World), (Instr.makeFunc fn first cap).run Tryd.prog w = .ok (.func fn first cap) w := fun _ _ _ _ => rfl
  have f1 : ∀ (p : Int) (v : Value) (w : World), (Instr.field 29 (.agg #[.int .i64 p, v]) 1).run Tryd.prog w = .ok v w := fun _ _ _ => by kernel_rfl
  have b1 : Below w.heap.size w (w.alloc (.cells #[.int .i64 0, .int .i64 0, .int .i64 0, .slice none 0 0] 26)) := (Below.refl _ _).alloc (Nat.le_refl _) _
  have b2 : Below w.heap.size w ((w.alloc (.cells #[.int .i64 0, .int .i64 0, .int .i64 0, .slice none 0 0] 26)).alloc (.cells #[.int .i64 0] 2)) := b1.alloc (by simp) _
  have b3 : Below w.heap.size w (((w.alloc (.cells #[.int .i64 0, .int .i64 0, .int .i64 0, .slice none 0 0] 26)).alloc (.cells #[.int .i64 0] 2)).alloc (.cells #[.slice A n c] 101)) := b2.alloc (by simp; omega) _
  have x6 := ((BoxL.new w [.int .i64 0, .int .i64 0, .int .i64 0, .slice none 0 0] #[.int .i64 0, .int .i64 0, .int .i64 0, .slice none 0 0] 26 rfl).below ((Below.refl _ _).alloc (Nat.le_refl _) (.cells #[.int .i64 0] 2))).below ((Below.refl _ _).alloc (Nat.le_refl _) (.cells #[.slice A n c] 101))
  have x7 := (BoxL.new (w.alloc (.cells #[.int .i64 0, .int .i64 0, .int .i64 0, .slice none 0 0] 26)) [.int .i64 0] #[.int .i64 0] 2 rfl).below ((Below.refl _ _).alloc (Nat.le_refl _) (.cells #[.slice A n c] 101))
  have xr := BoxL.new ((w.alloc (.cells #[.int .i64 0, .int .i64 0, .int .i64 0, .slice none 0 0] 26)).alloc (.cells #[.int .i64 0] 2)) [.slice A n c] #[.slice A n c] 101 rfl
  have hr := h.keep (Keep.of_below b3 0 0) (by omega)
  have ke3 := ke.below b3 ke.1
  simp only [World.size_alloc] at x7 xr
  have hR : Rdr (((w.alloc (.cells #[.int .i64 0, .int .i64 0, .int .i64 0, .slice none 0 0] 26)).alloc (.cells #[.int .i64 0] 2)).alloc (.cells #[.slice A n c] 101)) (w.heap.size + 1 + 1) 0 hi ps :=
    ⟨xr.lt, by omega, xr.fz 0, A, n, c, xr.at_ 0 _ rfl, hr, hnc, hA⟩
  have hs3 : (((w.alloc (.cells #[.int .i64 0, .int .i64 0, .int .i64 0, .slice none 0 0] 26)).alloc (.cells #[.int .i64 0] 2)).alloc (.cells #[.slice A n c] 101)).heap.size = w.heap.size + 1 + 1 + 1 := by simp
  have X6 := Lib.hid x6
  have X7 := Lib.hid x7
  have B3 := Lib.hid b3
  have H := Lib.hid h
  have KE := Lib.hid ke
  have HK0 := ke.1
  clear x6 x7 xr b1 b2 b3
  have HY := Lib.hid (readBody_none ea _ 0 hi ps _ hR hB ke3 (by omega))
  clear hR hr ke3 ke h hA hB
  go_enter_defers Tryd.func42, Tryd.ntmps42
  go_wp2_with fail
  refine HY.out.mono ?_
  rintro e w1 (⟨bs, st, ec, ys, G, cap, rfl, hdd, hO, k1⟩ | ⟨⟨u, pv, rfl⟩, k1⟩)
  · skip
    have x6 := X6.out.keep k1 (by omega)
    have x7 := X7.out.keep k1 (by omega)
    have hb := B3.out.trans (k1.below (.inl (by omega)) B3.out.size)
    have h1 := H.out.keep (Keep.of_below hb 0 0) (by omega)
    have ke1 := KE.out.below hb HK0
    have hz := k1.size
    rw [hs3] at hz hO
    clear k1
    have HE := Lib.hid (fun w' (r : Rt w' 0 w1.heap.size G ys.length ys) => implEncBody_any bs st ec G ys.length cap w1.heap.size ys w' r)
    have bA : Below w1.heap.size w1 (w1.alloc (.cells #[.int .i64 bs, .int .i64 st, .int .i64 ec, .slice G ys.length cap] 26)) := (Below.refl _ _).alloc (Nat.le_refl _) _
    have x8 := BoxL.new w1 [.int .i64 bs, .int .i64 st, .int .i64 ec, .slice G ys.length cap] #[.int .i64 bs, .int .i64 st, .int .i64 ec, .slice G ys.length cap] 26 rfl
    have rt := hO.rt0.keep (Keep.of_below bA 0 0) (by omega)
    obtain ⟨zs, hzs⟩ : ∃ zs, bodyAns bs st ec ys = zs := ⟨_, rfl⟩
    rw [hzs] at HE hdd
    generalize bodyCode bs st ec ys = bc at *
    have HDD := Lib.hid hdd
    clear hzs hdd
    go_wp2_with fail
    refine (HE.out _ rt).mono ?_
    rintro e w2 ⟨GB, capB, rfl, hG, hle, wz, b2⟩
    have b12 := below_new b2
    replace x8 := x8.below b2
    replace x6 := x6.below b12
    replace x7 := x7.below b12
    replace hb := hb.trans (b12.mono hb.size)
    have h2 := h1.keep (Keep.of_below b12 0 0) (by omega)
    have ke2 := ke1.below b12 ke1.1
    have hO2 := hO.below b12
    clear h1 ke1 bA rt hO
    go_wp2_with fail
    refine (implSame_any GB A zs.length capB n c _ _ _ _ zs ps _ wz.1 h2).mono ?_
    rintro e w3 ⟨rfl, rfl⟩
    rw [HDD.out]
    have c0 := x6.at_ 0 _ rfl
    have c1 := x6.at_ 1 _ rfl
    have c2 := x6.at_ 2 _ rfl
    have c3 := x6.at_ 3 _ rfl
    have c7 := x7.at_ 0 _ rfl
    have f7 := x7.fz 0
    clear wz h2 b2 b12
    have g0 := ke2.1
    have g1 := ke2.2
    have HF := Lib.hid (hb.setCell (p := ⟨w.heap.size + 1, 0, none⟩) (by show w.heap.size ≤ w.heap.size + 1; omega) (.int .i64 5))
    clear x8 x6 x7 hb ke2 hO2
    go_wp2_with fail
    refine leaves_cons (f := 70) (args := #[.pointer (some ⟨w.heap.size + 1, 0, none⟩)]) (by simp) (by simp [go_sem]) ?_
    refine (catchB_panicking ⟨w.heap.size + 1, 0, none⟩ 0 _ _ w2 c7 f7).mono ?_
    rintro e u' w'' ⟨rfl, rfl, rfl⟩
    have e7 := World.cell?_setCell_same w2 (⟨w.heap.size + 1, 0, none⟩ : Addr) (.int .i64 5) c7
    exact ⟨.tuple #[.agg #[.int .i64 0, .int .i64 0, .int .i64 0, .slice none 0 0], .int .i64 5], by simp [results, Tryd.results42, go_sem, c0, c1, c2, c3, e7], rfl, HF.out⟩
  · skip
    have x6 := X6.out.keep k1 (by omega)
    have x7 := X7.out.keep k1 (by omega)
    have hb := B3.out.trans (k1.below (.inl (by omega)) B3.out.size)
    clear k1
    have c0 := x6.at_ 0 _ rfl
    have c1 := x6.at_ 1 _ rfl
    have c2 := x6.at_ 2 _ rfl
    have c3 := x6.at_ 3 _ rfl
    have c7 := x7.at_ 0 _ rfl
    have HF := Lib.hid (hb.setCell (p := ⟨w.heap.size + 1, 0, none⟩) (by show w.heap.size ≤ w.heap.size + 1; omega) (.int .i64 5))
    go_wp2_with fail
    refine leaves_cons (f := 70) (args := #[.pointer (some ⟨w.heap.size + 1, 0, none⟩)]) (by simp) (by simp [go_sem]) ?_
    refine (catchB_panicking ⟨w.heap.size + 1, 0, none⟩ 0 u pv w1 c7 (x7.fz 0)).mono ?_
    rintro e u' w'' ⟨rfl, rfl, rfl⟩
    have e7 := World.cell?_setCell_same w1 (⟨w.heap.size + 1, 0, none⟩ : Addr) (.int .i64 5) c7
    exact ⟨.tuple #[.agg #[.int .i64 0, .int .i64 0, .int .i64 0, .slice none 0 0], .int .i64 5], by simp [results, Tryd.results42, go_sem, c0, c1, c2, c3, e7], rfl, HF.out⟩
end Go.Proofs.YtjdkaaepbkkchaaDoor
