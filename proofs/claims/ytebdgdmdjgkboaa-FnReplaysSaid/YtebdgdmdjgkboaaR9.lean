/-
  The model's l4Take: the walk.
-/
import Derived.Test.YtebdgdmdjgkboaaR7
import Derived.Deep.AppendLies
import Derived.Deep.RegionLaw
import Derived.Deep.Cut
namespace Go.Proofs.Ytebdgdmdjgkboaa
open Go.RowKit
set_option linter.unusedVariables false
set_option maxRecDepth 100000

/-- What an append onto the row of 'out' leaves as it was. -/
theorem OutB.far {W W1 : World} {B : Nat} {zs : List Int} {A : Option Addr} {c : Nat} {o : Obj} (h6 : W.ownsRow (B + 1) 2 1 (.slice A zs.length c) zs.length (zs.map (Value.int .i64)))
    (hg : (W.alloc o).grownBy W1 (Value.ownBlock (.slice A zs.length c))) {p : Addr} (hB : B < W.heap.size) (hp : p.block ≤ B) : W1.cell? p = W.cell? p ∧ W1.frozen? p = W.frozen? p := by
  have hrow : ∀ q, Value.ownBlock (.slice A zs.length c) = some q → B + 1 ≤ q := fun q e => (h6.lt q e).1
  have kB : W1.heap[p.block]? = W.heap[p.block]? := by
    rw [hg.block p.block (by simp; omega) (fun e => by have := hrow p.block e.symm; omega)]
    exact Below.heap_alloc _ _ _ (by omega)
  exact ⟨World.cell?_of_block (w := W) kB, World.frozen?_of_block (w := W) kB⟩
/-- The slice value is a row of the call's own (from block base on), and reads as xs. -/
def OwnI (w : World) (base : Nat) (A : Option Addr) (n c : Nat) (xs : List Int) : Prop :=
  w.ownsRow base 2 1 (.slice A n c) n (xs.map (Value.int .i64)) ∧ n ≤ maxLen ∧ ∀ x ∈ xs, -9223372036854775808 ≤ x ∧ x ≤ 9223372036854775807
theorem OwnI.wi {w : World} {base n c : Nat} {A : Option Addr} {xs : List Int} (h : OwnI w base A n c xs) : Wi w base w.heap.size A n xs := Wi.of_own h.1 h.2.1 h.2.2
theorem OwnI.len {w : World} {base n c : Nat} {A : Option Addr} {xs : List Int} (h : OwnI w base A n c xs) : xs.length = n := h.wi.1.len
theorem OwnI.keep {w w' : World} {base n c lo hi : Nat} {A : Option Addr} {xs : List Int} (h : OwnI w base A n c xs) (k : Keep lo hi w w') (ho : hi ≤ base ∨ hi ≤ lo) : OwnI w' base A n c xs := by
  refine ⟨⟨h.1.1, ?_⟩, h.2.1, h.2.2⟩
  rcases h.1.2 with h0 | ⟨g, cap, cur, e1, hb, hg, r⟩
  · exact .inl h0
  · have hlt := (Array.getElem?_eq_some_iff.1 hg).1
    exact .inr ⟨g, cap, cur, e1, hb, (k.block g hlt (by omega)).trans hg, r⟩
theorem OwnI.down {w : World} {base base' n c : Nat} {A : Option Addr} {xs : List Int} (h : OwnI w base A n c xs) (hb : base' ≤ base) : OwnI w base' A n c xs := by
  refine ⟨⟨h.1.1, ?_⟩, h.2.1, h.2.2⟩
  rcases h.1.2 with h0 | ⟨g, cap, cur, e1, hg, r⟩
  · exact .inl h0
  · exact .inr ⟨g, cap, cur, e1, Nat.le_trans hb hg, r⟩
theorem OwnI.nil (w : World) (base : Nat) : OwnI w base none 0 0 [] := ⟨World.ownsRow_nil _ _ _ _, Nat.zero_le _, by simp⟩
theorem grown_drew {W W1 : World} {o : Obj} {r : Option Nat} (h : ((W.alloc o).drew).grownBy W1 r) : (W.alloc o).grownBy W1 r := ⟨h.os, h.tape, h.output, h.size, h.block⟩

set_option maxHeartbeats 4000000 in
theorem l4Take_any (b : Nat) (t sq : Int) (A : Option Addr) (n c hi : Nat) (xs : List Int) (w : World) (hb : b < w.heap.size) (c0 : w.cell? ⟨b, 0, none⟩ = some (.int .i64 t)) (c1 : w.cell? ⟨b, 1, none⟩ = some (.slice A n c)) (h : Ri w 0 hi A n xs) (hn : n ≤ 1048576) (ht : -1 ≤ t ∧ t ≤ 9999) (hsq : 0 ≤ sq ∧ sq ≤ 9999) :
    Calls Try.prog 40 #[.pointer (some ⟨b, 0, none⟩), .int .i64 sq] w fun e w' => ∃ G cap, e = .returned (.agg #[.int .i64 (max t sq), .slice G (takeL (max t sq) sq xs).length cap]) ∧ OwnI w' w.heap.size G (takeL (max t sq) sq xs).length cap (takeL (max t sq) sq xs) ∧ Below w.heap.size w w' := by
  have hint := h.int
  have hl := h.len
  have htop := h.top
  obtain ⟨I0, hi0, hz0, hz1, hz2⟩ := info_parts info_i64
  have hm : -1 ≤ max t sq ∧ max t sq ≤ 9999 := by omega
  have hmx := fun w' => l1Max_any t sq w'
  generalize max t sq = m at *
  have HMX := Lib.hid hmx
  clear hmx
  have hw0 := Lib.hid (takeSt_wf m sq xs h.byte (by omega))
  have HT : Hid (takeL m sq xs = (takeSt m sq xs).2 ++ (if (takeSt m sq xs).1 then [] else [sq])) := rfl
  generalize takeL m sq xs = tl at *
  go_enter Try.func40, Try.ntmps40
  go_wp2_with fail
  refine (HMX.out _).mono ?_
  rintro e w1 ⟨rfl, rfl⟩
  go_wp2_with fail
  have hO : OutB ((w.alloc (.cells #[.int .i64 0, .slice none 0 0] 26)).alloc (.cells #[.int .i64 m, .slice none 0 0] 26)) (w.heap.size + 1) m [] := ⟨by simp, by simp [go_sem], by simp [go_sem], by simp [go_sem], none, 0, by simp [go_sem], World.ownsRow_nil _ _ _ _⟩
  have bw : Below w.heap.size w ((w.alloc (.cells #[.int .i64 0, .slice none 0 0] 26)).alloc (.cells #[.int .i64 m, .slice none 0 0] 26)) := ((Below.refl _ w).alloc (Nat.le_refl _) _).alloc (by simp) _
  have cw1 := (bw.cell (p := ⟨b, 1, none⟩) hb).trans c1
  have q0 : ((w.alloc (.cells #[.int .i64 0, .slice none 0 0] 26)).alloc (.cells #[.int .i64 m, .slice none 0 0] 26)).cell? ⟨w.heap.size, 0, none⟩ = some (.int .i64 0) := by simp [go_sem]
  have q1 : ((w.alloc (.cells #[.int .i64 0, .slice none 0 0] 26)).alloc (.cells #[.int .i64 m, .slice none 0 0] 26)).cell? ⟨w.heap.size, 1, none⟩ = some (.slice none 0 0) := by simp [go_sem]
  have q2 : ((w.alloc (.cells #[.int .i64 0, .slice none 0 0] 26)).alloc (.cells #[.int .i64 m, .slice none 0 0] 26)).frozen? ⟨w.heap.size, 0, none⟩ = false := by simp [go_sem]
  have q3 : ((w.alloc (.cells #[.int .i64 0, .slice none 0 0] 26)).alloc (.cells #[.int .i64 m, .slice none 0 0] 26)).frozen? ⟨w.heap.size, 1, none⟩ = false := by simp [go_sem]
  have z2 : w.heap.size + 1 < ((w.alloc (.cells #[.int .i64 0, .slice none 0 0] 26)).alloc (.cells #[.int .i64 m, .slice none 0 0] 26)).heap.size := by simp
  generalize ((w.alloc (.cells #[.int .i64 0, .slice none 0 0] 26)).alloc (.cells #[.int .i64 m, .slice none 0 0] 26)) = w2 at *
  go_loopw [20, 6, 7] (fun i dn _ wr => ∃ (k : Nat) (d : Bool) (zs : List Int), takeSt m sq (xs.take k) = (d, zs) ∧ k ≤ n ∧ i = .int .i64 (k : Int) ∧ dn = .bool d ∧ OutB wr (w.heap.size + 1) m zs ∧ Below (w.heap.size + 1) w2 wr) (fun i _ _ _ => n - (intOf i).toNat)
  case atStart => exact ⟨0, false, [], rfl, Nat.zero_le _, rfl, rfl, hO, Below.refl _ _⟩
  case round =>
    obtain ⟨k, d, zs, hst, hk, rfl, rfl, hO, bw2⟩ := hrel
    have hlen : zs.length ≤ 2 * k := by
      have h1 := takeSt_len m sq (xs.take k)
      rw [hst] at h1
      have h2 : zs.length ≤ 2 * (xs.take k).length := h1
      rw [List.length_take] at h2
      omega
    have HST := Lib.hid hst
    clear hst
    by_cases hlt : k < n
    · obtain ⟨ab, off, rfl, _, hab, hc⟩ := h.at_ (by omega)
      have hck := (bw.cell (p := ⟨ab, off + k, none⟩) (by show ab < _; omega)).trans (hc k hlt)
      have hbx := h.byteAt (j := k) hlt
      have i0 : (0 : Int) ≤ (k : Int) := by omega
      have i1 : (k : Int) < (n : Int) := by omega
      have hsn := takeSt_snoc m sq xs k (by omega)
      rw [HST.out, takeStep_eq] at hsn
      generalize xs.getD k 0 = x at *
      have HSN := Lib.hid hsn
      clear hsn HST hc hw0 HT
      by_cases hd : d = true
      · subst hd
        by_cases hkp : m - 32 < x
        · have hO0 := hO
          obtain ⟨o1, o2, o3, o4, Ao, co, o5, o6⟩ := hO
          have cb := (bw2.cell (p := ⟨b, 1, none⟩) (by show b < _; omega)).trans cw1
          have cx := (bw2.cell (p := ⟨ab, off + k, none⟩) (by show ab < _; omega)).trans hck
          have zr := bw2.size
          go_wp2_with fail
          go_quiet (fail)
          have kq : Keep 0 0 wr (wr.drewN nq) := (Keep.refl 0 0 _).drewN nq
          have hO := hO0.keep kq
          have bw2 := bw2.trans (kq.below (B := w.heap.size + 1) (by omega) (by omega))
          clear cb cx o1 o2 o3 o4 o5 o6 hO0 kq
          generalize (wr.drewN nq) = wb at *
          have hO0 := hO
          obtain ⟨o1, o2, o3, o4, Ao, co, o5, o6⟩ := hO
          have cb := (bw2.cell (p := ⟨b, 1, none⟩) (by show b < _; omega)).trans cw1
          have cx := (bw2.cell (p := ⟨ab, off + k, none⟩) (by show ab < _; omega)).trans hck
          have zb := bw2.size
          go_wp2_with fail
          have hml : zs.length + 1 ≤ maxLen := by unfold maxLen; omega
          have hmb : (zs.length + 1) * 8 ≤ 140737488355328 := by omega
          go_region_law
            ((refine step_append_lies _ (by rfl) _ _ _ (by rfl) (w.heap.size + 1 + 1) 2 I0 (.int .i64 0) 1 8 Try.underlying24 hi0 hz0 hz1 hz2 rfl (by decide) (.slice Ao zs.length co) zs.length _ (by rfl) ((o6.alloc _).drew)
                ⟨wb.heap.size, 0, none⟩ 1 1 [.int .i64 x] (by rfl) (by rfl) (World.news_of_block (cs := #[.int .i64 x]) (t := 2) (fr := (0, 0)) (heap_alloc_new wb _)) (by simp [Value.oneCell'])
                (by omega) hml hmb (by simp; omega) (wb.heap.size + 1) (by simp) ?_; intro g cap W1 own1 hgrow hat hgl; have g1 := (OutB.far o6 (grown_drew hgrow) o1 (p := ⟨b, 1, none⟩) (by show b ≤ _; omega)).1.trans cb; have g2 := (OutB.far o6 (grown_drew hgrow) o1 (p := ⟨ab, off + k, none⟩) (by show ab ≤ _; omega)).1.trans cx; have g3 := (OutB.far o6 (grown_drew hgrow) o1 (p := ⟨w.heap.size + 1, 1, none⟩) (Nat.le_refl _)).1.trans o5; have fz1 := (OutB.far o6 (grown_drew hgrow) o1 (p := ⟨w.heap.size + 1, 1, none⟩) (Nat.le_refl _)).2.trans o4))
          all_goals
            obtain ⟨_, e1, f1, hO, bp⟩ := OutB.push x o1 o2 o3 o4 o5 o6 own1 (grown_drew hgrow)
            have bw2 := bw2.trans (bp.mono (by omega))
            go_wp2_with fail
            go_roundw
            case rel => exact ⟨k + 1, true, zs ++ [x], HSN.out.trans (by simp [hkp]), by omega, by go_num, rfl, hO, bw2⟩
            case measure => simp [intOf]; omega
        · have hO0 := hO
          obtain ⟨o1, o2, o3, o4, Ao, co, o5, o6⟩ := hO
          have cb := (bw2.cell (p := ⟨b, 1, none⟩) (by show b < _; omega)).trans cw1
          have cx := (bw2.cell (p := ⟨ab, off + k, none⟩) (by show ab < _; omega)).trans hck
          have zr := bw2.size
          go_wp2_with fail
          go_quiet (fail)
          have kq : Keep 0 0 wr (wr.drewN nq) := (Keep.refl 0 0 _).drewN nq
          have hO := hO0.keep kq
          have bw2 := bw2.trans (kq.below (B := w.heap.size + 1) (by omega) (by omega))
          clear cb cx o1 o2 o3 o4 o5 o6 hO0 kq
          generalize (wr.drewN nq) = wb at *
          go_wp2_with fail
          go_roundw
          case rel => exact ⟨k + 1, true, zs, HSN.out.trans (by simp [hkp]), by omega, by go_num, rfl, hO, bw2⟩
          case measure => simp [intOf]; omega
      · have hd' : d = false := by simpa using hd
        subst hd'
        by_cases hlx : sq < x
        · by_cases hkp : m - 32 < x
          · have hO0 := hO
            obtain ⟨o1, o2, o3, o4, Ao, co, o5, o6⟩ := hO
            have cb := (bw2.cell (p := ⟨b, 1, none⟩) (by show b < _; omega)).trans cw1
            have cx := (bw2.cell (p := ⟨ab, off + k, none⟩) (by show ab < _; omega)).trans hck
            have zr := bw2.size
            go_wp2_with (at_builtin; (refine wpList_append_own _ rfl (.tmp 37) (.tmp 39) 24 rfl (w.heap.size + 1 + 1) 2 I0 (.int .i64 0) 1 8 Try.underlying24 hi0 hz0 hz1 hz2 rfl (by decide) _ _ _ rfl (o6.alloc _) ⟨wr.heap.size, 0, none⟩ 1 1 [.int .i64 sq] rfl rfl (cell_one_new _ _ _) (fun u hu => by rw [List.mem_singleton.1 hu]; rfl) ?c1a ?c1b ?c1c ?_))
            case c1a => unfold maxLen; omega
            case c1b => omega
            case c1c => first | omega | (simp; omega)
            intro v' W1 own1 grow1 _
            obtain ⟨⟨A1, k1, rfl⟩, e1, f1, hO, bp⟩ := OutB.push sq o1 o2 o3 o4 o5 o6 own1 grow1
            have bw2 := bw2.trans (bp.mono (by omega))
            have e1' := e1
            have hlz : (zs ++ [sq]).length = zs.length + 1 := by simp
            go_wp2_with fail
            clear cb cx o1 o2 o3 o4 o5 o6 own1 grow1 bp e1 e1' f1 hO0
            generalize W1.setCell ⟨w.heap.size + 1, 1, none⟩ (.slice A1 (zs.length + 1) k1) = wa at *
            generalize hzs : zs ++ [sq] = zq at *
            have HZS := Lib.hid hzs
            have hlq : zq.length ≤ 2 * k + 1 := by omega
            clear hzs hlz
            have hO0 := hO
            obtain ⟨o1, o2, o3, o4, Ao, co, o5, o6⟩ := hO
            have cb := (bw2.cell (p := ⟨b, 1, none⟩) (by show b < _; omega)).trans cw1
            have cx := (bw2.cell (p := ⟨ab, off + k, none⟩) (by show ab < _; omega)).trans hck
            have za := bw2.size
            go_wp2_with fail
            go_quiet (fail)
            have kq : Keep 0 0 wa (wa.drewN nq) := (Keep.refl 0 0 _).drewN nq
            have hO := hO0.keep kq
            have bw2 := bw2.trans (kq.below (B := w.heap.size + 1) (by omega) (by omega))
            clear cb cx o1 o2 o3 o4 o5 o6 hO0 kq
            generalize (wa.drewN nq) = wb at *
            have hO0 := hO
            obtain ⟨o1, o2, o3, o4, Ao, co, o5, o6⟩ := hO
            have cb := (bw2.cell (p := ⟨b, 1, none⟩) (by show b < _; omega)).trans cw1
            have cx := (bw2.cell (p := ⟨ab, off + k, none⟩) (by show ab < _; omega)).trans hck
            have zb := bw2.size
            go_wp2_with fail
            have hml : zq.length + 1 ≤ maxLen := by unfold maxLen; omega
            have hmb : (zq.length + 1) * 8 ≤ 140737488355328 := by omega
            go_region_law
              ((refine step_append_lies _ (by rfl) _ _ _ (by rfl) (w.heap.size + 1 + 1) 2 I0 (.int .i64 0) 1 8 Try.underlying24 hi0 hz0 hz1 hz2 rfl (by decide) (.slice Ao zq.length co) zq.length _ (by rfl) ((o6.alloc _).drew)
                  ⟨wb.heap.size, 0, none⟩ 1 1 [.int .i64 x] (by rfl) (by rfl) (World.news_of_block (cs := #[.int .i64 x]) (t := 2) (fr := (0, 0)) (heap_alloc_new wb _)) (by simp [Value.oneCell'])
                  (by omega) hml hmb (by simp; omega) (wb.heap.size + 1) (by simp) ?_; intro g cap W1 own1 hgrow hat hgl; have g1 := (OutB.far o6 (grown_drew hgrow) o1 (p := ⟨b, 1, none⟩) (by show b ≤ _; omega)).1.trans cb; have g2 := (OutB.far o6 (grown_drew hgrow) o1 (p := ⟨ab, off + k, none⟩) (by show ab ≤ _; omega)).1.trans cx; have g3 := (OutB.far o6 (grown_drew hgrow) o1 (p := ⟨w.heap.size + 1, 1, none⟩) (Nat.le_refl _)).1.trans o5; have fz1 := (OutB.far o6 (grown_drew hgrow) o1 (p := ⟨w.heap.size + 1, 1, none⟩) (Nat.le_refl _)).2.trans o4))
            all_goals
              obtain ⟨_, e1, f1, hO, bp⟩ := OutB.push x o1 o2 o3 o4 o5 o6 own1 (grown_drew hgrow)
              have bw2 := bw2.trans (bp.mono (by omega))
              go_wp2_with fail
              go_roundw
              case rel => exact ⟨k + 1, true, zq ++ [x], HSN.out.trans (by simp [hkp, hlx, ← HZS.out]), by omega, by go_num, rfl, hO, bw2⟩
              case measure => simp [intOf]; omega
          · have hO0 := hO
            obtain ⟨o1, o2, o3, o4, Ao, co, o5, o6⟩ := hO
            have cb := (bw2.cell (p := ⟨b, 1, none⟩) (by show b < _; omega)).trans cw1
            have cx := (bw2.cell (p := ⟨ab, off + k, none⟩) (by show ab < _; omega)).trans hck
            have zr := bw2.size
            go_wp2_with (at_builtin; (refine wpList_append_own _ rfl (.tmp 37) (.tmp 39) 24 rfl (w.heap.size + 1 + 1) 2 I0 (.int .i64 0) 1 8 Try.underlying24 hi0 hz0 hz1 hz2 rfl (by decide) _ _ _ rfl (o6.alloc _) ⟨wr.heap.size, 0, none⟩ 1 1 [.int .i64 sq] rfl rfl (cell_one_new _ _ _) (fun u hu => by rw [List.mem_singleton.1 hu]; rfl) ?c2a ?c2b ?c2c ?_))
            case c2a => unfold maxLen; omega
            case c2b => omega
            case c2c => first | omega | (simp; omega)
            intro v' W1 own1 grow1 _
            obtain ⟨⟨A1, k1, rfl⟩, e1, f1, hO, bp⟩ := OutB.push sq o1 o2 o3 o4 o5 o6 own1 grow1
            have bw2 := bw2.trans (bp.mono (by omega))
            have e1' := e1
            have hlz : (zs ++ [sq]).length = zs.length + 1 := by simp
            go_wp2_with fail
            clear cb cx o1 o2 o3 o4 o5 o6 own1 grow1 bp e1 e1' f1 hO0
            generalize W1.setCell ⟨w.heap.size + 1, 1, none⟩ (.slice A1 (zs.length + 1) k1) = wa at *
            generalize hzs : zs ++ [sq] = zq at *
            have HZS := Lib.hid hzs
            have hlq : zq.length ≤ 2 * k + 1 := by omega
            clear hzs hlz
            have hO0 := hO
            obtain ⟨o1, o2, o3, o4, Ao, co, o5, o6⟩ := hO
            have cb := (bw2.cell (p := ⟨b, 1, none⟩) (by show b < _; omega)).trans cw1
            have cx := (bw2.cell (p := ⟨ab, off + k, none⟩) (by show ab < _; omega)).trans hck
            have za := bw2.size
            go_wp2_with fail
            go_quiet (fail)
            have kq : Keep 0 0 wa (wa.drewN nq) := (Keep.refl 0 0 _).drewN nq
            have hO := hO0.keep kq
            have bw2 := bw2.trans (kq.below (B := w.heap.size + 1) (by omega) (by omega))
            clear cb cx o1 o2 o3 o4 o5 o6 hO0 kq
            generalize (wa.drewN nq) = wb at *
            go_wp2_with fail
            go_roundw
            case rel => exact ⟨k + 1, true, zq, HSN.out.trans (by simp [hkp, hlx, ← HZS.out]), by omega, by go_num, rfl, hO, bw2⟩
            case measure => simp [intOf]; omega
        · by_cases hkp : m - 32 < x
          · have hO0 := hO
            obtain ⟨o1, o2, o3, o4, Ao, co, o5, o6⟩ := hO
            have cb := (bw2.cell (p := ⟨b, 1, none⟩) (by show b < _; omega)).trans cw1
            have cx := (bw2.cell (p := ⟨ab, off + k, none⟩) (by show ab < _; omega)).trans hck
            have zr := bw2.size
            go_wp2_with fail
            go_quiet (fail)
            have kq : Keep 0 0 wr (wr.drewN nq) := (Keep.refl 0 0 _).drewN nq
            have hO := hO0.keep kq
            have bw2 := bw2.trans (kq.below (B := w.heap.size + 1) (by omega) (by omega))
            clear cb cx o1 o2 o3 o4 o5 o6 hO0 kq
            generalize (wr.drewN nq) = wb at *
            have hO0 := hO
            obtain ⟨o1, o2, o3, o4, Ao, co, o5, o6⟩ := hO
            have cb := (bw2.cell (p := ⟨b, 1, none⟩) (by show b < _; omega)).trans cw1
            have cx := (bw2.cell (p := ⟨ab, off + k, none⟩) (by show ab < _; omega)).trans hck
            have zb := bw2.size
            go_wp2_with fail
            have hml : zs.length + 1 ≤ maxLen := by unfold maxLen; omega
            have hmb : (zs.length + 1) * 8 ≤ 140737488355328 := by omega
            go_region_law
              ((refine step_append_lies _ (by rfl) _ _ _ (by rfl) (w.heap.size + 1 + 1) 2 I0 (.int .i64 0) 1 8 Try.underlying24 hi0 hz0 hz1 hz2 rfl (by decide) (.slice Ao zs.length co) zs.length _ (by rfl) ((o6.alloc _).drew)
                  ⟨wb.heap.size, 0, none⟩ 1 1 [.int .i64 x] (by rfl) (by rfl) (World.news_of_block (cs := #[.int .i64 x]) (t := 2) (fr := (0, 0)) (heap_alloc_new wb _)) (by simp [Value.oneCell'])
                  (by omega) hml hmb (by simp; omega) (wb.heap.size + 1) (by simp) ?_; intro g cap W1 own1 hgrow hat hgl; have g1 := (OutB.far o6 (grown_drew hgrow) o1 (p := ⟨b, 1, none⟩) (by show b ≤ _; omega)).1.trans cb; have g2 := (OutB.far o6 (grown_drew hgrow) o1 (p := ⟨ab, off + k, none⟩) (by show ab ≤ _; omega)).1.trans cx; have g3 := (OutB.far o6 (grown_drew hgrow) o1 (p := ⟨w.heap.size + 1, 1, none⟩) (Nat.le_refl _)).1.trans o5; have fz1 := (OutB.far o6 (grown_drew hgrow) o1 (p := ⟨w.heap.size + 1, 1, none⟩) (Nat.le_refl _)).2.trans o4))
            all_goals
              obtain ⟨_, e1, f1, hO, bp⟩ := OutB.push x o1 o2 o3 o4 o5 o6 own1 (grown_drew hgrow)
              have bw2 := bw2.trans (bp.mono (by omega))
              go_wp2_with fail
              go_roundw
              case rel => exact ⟨k + 1, false, zs ++ [x], HSN.out.trans (by simp [hkp, hlx]), by omega, by go_num, rfl, hO, bw2⟩
              case measure => simp [intOf]; omega
          · have hO0 := hO
            obtain ⟨o1, o2, o3, o4, Ao, co, o5, o6⟩ := hO
            have cb := (bw2.cell (p := ⟨b, 1, none⟩) (by show b < _; omega)).trans cw1
            have cx := (bw2.cell (p := ⟨ab, off + k, none⟩) (by show ab < _; omega)).trans hck
            have zr := bw2.size
            go_wp2_with fail
            go_quiet (fail)
            have kq : Keep 0 0 wr (wr.drewN nq) := (Keep.refl 0 0 _).drewN nq
            have hO := hO0.keep kq
            have bw2 := bw2.trans (kq.below (B := w.heap.size + 1) (by omega) (by omega))
            clear cb cx o1 o2 o3 o4 o5 o6 hO0 kq
            generalize (wr.drewN nq) = wb at *
            go_wp2_with fail
            go_roundw
            case rel => exact ⟨k + 1, false, zs, HSN.out.trans (by simp [hkp, hlx]), by omega, by go_num, rfl, hO, bw2⟩
            case measure => simp [intOf]; omega
    · have ek : k = n := by omega
      have hxk : xs.take k = xs := List.take_of_length_le (by omega)
      rw [hxk] at HST
      have hfin : tl = zs ++ (if d then [] else [sq]) := by rw [HT.out, HST.out]
      have hwz : ∀ x ∈ zs, -9223372036854775808 ≤ x ∧ x ≤ 9223372036854775807 := by
        have := hw0.out
        rw [HST.out] at this
        exact this
      have HW := Lib.hid hwz
      have HFI := Lib.hid hfin
      clear HST ek hxk HT hw0 hwz hfin
      by_cases hd : d = true
      · subst hd
        have zr := bw2.size
        have p0 := (bw2.cell (p := ⟨w.heap.size, 0, none⟩) (by show w.heap.size < _; omega)).trans q0
        have p1 := (bw2.cell (p := ⟨w.heap.size, 1, none⟩) (by show w.heap.size < _; omega)).trans q1
        have p2 := (bw2.frozen (p := ⟨w.heap.size, 0, none⟩) (by show w.heap.size < _; omega)).trans q2
        have p3 := (bw2.frozen (p := ⟨w.heap.size, 1, none⟩) (by show w.heap.size < _; omega)).trans q3
        obtain ⟨o1, o2, o3, o4, Ao, co, o5, o6⟩ := hO
        have hEQ : tl = zs := by rw [HFI.out]; simp
        have HF : Hid (∀ v0 v1, ∃ G cap, Ending.returned (.agg #[.int .i64 m, .slice Ao zs.length co]) = .returned (.agg #[.int .i64 m, .slice G tl.length cap]) ∧
            OwnI ((wr.setCell ⟨w.heap.size, 0, none⟩ v0).setCell ⟨w.heap.size, 1, none⟩ v1) w.heap.size G tl.length cap tl ∧
            Below w.heap.size w ((wr.setCell ⟨w.heap.size, 0, none⟩ v0).setCell ⟨w.heap.size, 1, none⟩ v1)) := fun v0 v1 => by
          have kk : Keep w.heap.size (w.heap.size + 1) wr ((wr.setCell ⟨w.heap.size, 0, none⟩ v0).setCell ⟨w.heap.size, 1, none⟩ v1) :=
            ((Keep.refl _ _ wr).setCell (p := ⟨w.heap.size, 0, none⟩) ⟨Nat.le_refl _, Nat.lt_succ_self _⟩ v0).setCell (p := ⟨w.heap.size, 1, none⟩) ⟨Nat.le_refl _, Nat.lt_succ_self _⟩ v1
          have wi : OwnI wr (w.heap.size + 1 + 1) Ao zs.length co zs := ⟨o6, by unfold maxLen; omega, HW.out⟩
          rw [hEQ]
          exact ⟨Ao, co, by simp, by simpa using (wi.keep kk (by omega)).down (by omega), (bw.trans (bw2.mono (by omega))).trans (kk.below (by omega) (by have := bw.size; have := bw2.size; omega))⟩
        clear HFI HW bw2 bw o6
        go_wp2_with fail
        obtain ⟨g0, g1⟩ := two_cells p0 p1 (.int .i64 m) (.slice Ao zs.length co)
        exact bodyPost_ret (v := .agg #[.int .i64 m, .slice Ao zs.length co]) (by simp [results, Try.results40, go_sem, g0, g1]) rfl (HF.out _ _)
      · have hd' : d = false := by simpa using hd
        subst hd'
        have hEQ : tl = zs ++ [sq] := by rw [HFI.out]; simp
        have zr := bw2.size
        obtain ⟨o1, o2, o3, o4, Ao, co, o5, o6⟩ := hO
        go_wp2_with (at_builtin; (refine wpList_append_own _ rfl (.tmp 69) (.tmp 71) 24 rfl (w.heap.size + 1 + 1) 2 I0 (.int .i64 0) 1 8 Try.underlying24 hi0 hz0 hz1 hz2 rfl (by decide) _ _ _ rfl (o6.alloc _) ⟨wr.heap.size, 0, none⟩ 1 1 [.int .i64 sq] rfl rfl (cell_one_new _ _ _) (fun u hu => by rw [List.mem_singleton.1 hu]; rfl) ?c3a ?c3b ?c3c ?_))
        case c3a => unfold maxLen; omega
        case c3b => omega
        case c3c => first | omega | (simp; omega)
        intro v' W1 own1 grow1 _
        obtain ⟨⟨A1, k1, rfl⟩, e1, f1, hO, bp⟩ := OutB.push sq o1 o2 o3 o4 o5 o6 own1 grow1
        have bw2 := bw2.trans (bp.mono (by omega))
        have e1' := e1
        have hW2 : ∀ y ∈ zs ++ [sq], -9223372036854775808 ≤ y ∧ y ≤ 9223372036854775807 := fun y hy => by
          rcases List.mem_append.1 hy with hy | hy
          · exact HW.out y hy
          · rw [List.mem_singleton.1 hy]; omega
        have hlz : (zs ++ [sq]).length = zs.length + 1 := by simp
        replace HW := Lib.hid hW2
        clear hW2 HFI
        go_upto_region 14 with fail
        clear o1 o2 o3 o4 o5 o6 own1 grow1 bp e1 e1' f1
        generalize W1.setCell ⟨w.heap.size + 1, 1, none⟩ (.slice A1 (zs.length + 1) k1) = wa at *
        generalize zs ++ [sq] = zq at *
        clear zr
        have zr := bw2.size
        have p0 := (bw2.cell (p := ⟨w.heap.size, 0, none⟩) (by show w.heap.size < _; omega)).trans q0
        have p1 := (bw2.cell (p := ⟨w.heap.size, 1, none⟩) (by show w.heap.size < _; omega)).trans q1
        have p2 := (bw2.frozen (p := ⟨w.heap.size, 0, none⟩) (by show w.heap.size < _; omega)).trans q2
        have p3 := (bw2.frozen (p := ⟨w.heap.size, 1, none⟩) (by show w.heap.size < _; omega)).trans q3
        obtain ⟨o1, o2, o3, o4, Ao, co, o5, o6⟩ := hO
        have HF : Hid (∀ v0 v1, ∃ G cap, Ending.returned (.agg #[.int .i64 m, .slice Ao zq.length co]) = .returned (.agg #[.int .i64 m, .slice G tl.length cap]) ∧
            OwnI ((wa.setCell ⟨w.heap.size, 0, none⟩ v0).setCell ⟨w.heap.size, 1, none⟩ v1) w.heap.size G tl.length cap tl ∧
            Below w.heap.size w ((wa.setCell ⟨w.heap.size, 0, none⟩ v0).setCell ⟨w.heap.size, 1, none⟩ v1)) := fun v0 v1 => by
          have kk : Keep w.heap.size (w.heap.size + 1) wa ((wa.setCell ⟨w.heap.size, 0, none⟩ v0).setCell ⟨w.heap.size, 1, none⟩ v1) :=
            ((Keep.refl _ _ wa).setCell (p := ⟨w.heap.size, 0, none⟩) ⟨Nat.le_refl _, Nat.lt_succ_self _⟩ v0).setCell (p := ⟨w.heap.size, 1, none⟩) ⟨Nat.le_refl _, Nat.lt_succ_self _⟩ v1
          have wi : OwnI wa (w.heap.size + 1 + 1) Ao zq.length co zq := ⟨o6, by unfold maxLen; omega, HW.out⟩
          rw [hEQ]
          exact ⟨Ao, co, by simp, by simpa using (wi.keep kk (by omega)).down (by omega), (bw.trans (bw2.mono (by omega))).trans (kk.below (by omega) (by have := bw.size; have := bw2.size; omega))⟩
        clear hlz HW bw2 bw o6
        go_wp2_with fail
        obtain ⟨g0, g1⟩ := two_cells p0 p1 (.int .i64 m) (.slice Ao zq.length co)
        exact bodyPost_ret (v := .agg #[.int .i64 m, .slice Ao zq.length co]) (by simp [results, Try.results40, go_sem, g0, g1]) rfl (HF.out _ _)
end Go.Proofs.Ytebdgdmdjgkboaa
