/-
  impl.hideBytes.
-/
import Derived.Test.YtpnpjngaenlciaaDoorS4a
namespace Go.Proofs.YtpnpjngaenlciaaDoor
open Go.RowKit Go.Shelf
set_option linter.unusedVariables false
set_option maxRecDepth 100000
attribute [local go_sem] Oper.semAt_some

theorem Keep.put (W : World) (l : Nat) (o : Obj) : Keep l (l + 1) W (W.putObj l o) :=
  ⟨rfl, rfl, rfl, by simp [World.putObj], fun k _ ho => World.putObj_heap_other (by omega)⟩
theorem own_slice {w : World} {base n : Nat} {e : TypeId} {v : Value} {vs : List Value} (h : w.ownsRow base e 1 v n vs) : ∃ A c, v = .slice A n c := by
  rcases h.2 with ⟨rfl, rfl⟩ | ⟨g, cap, cur, rfl, _⟩
  · exact ⟨none, 0, rfl⟩
  · exact ⟨_, _, rfl⟩
theorem own_block {w : World} {base n : Nat} {e : TypeId} {v : Value} {vs : List Value} (h : w.ownsRow base e 1 v n vs) : ∀ j, v.ownBlock = some j → base ≤ j ∧ ∀ o : Obj, w.heap[j]? = some o → o.isCells = true := by
  rcases h.2 with ⟨rfl, rfl⟩ | ⟨g, cap, cur, rfl, hb, hg, _⟩
  · intro j hj; simp [Value.ownBlock] at hj
  · intro j hj
    obtain rfl : g = j := by simpa [Value.ownBlock] using hj
    refine ⟨hb, fun o ho => ?_⟩
    rw [hg] at ho
    cases ho
    rfl

set_option maxHeartbeats 4000000 in
theorem hideBytes_any (A D X : Option Addr) (nk ck nh ch n c hk hb hd : Nat) (ks hs ds : List Int) (w : World) (hkey : Rd w 0 hk A nk ks) (hhead : Rd w 0 hb D nh hs) (hdata : Rd w 0 hd X n ds) (hnk : nk ≤ 64) (hnh : 0 < nh) (hnh2 : nh ≤ 1000) (hn : n ≤ 120) (hkt : Kt w) :
    Calls Tryd.prog 42 #[.slice A nk ck, .slice D nh ch, .slice X n c] w (Made w (hideL ks hs ds)) := by
  have hdl := hdata.len
  have htk := hkey.top
  have hth := hhead.top
  have HH : Hid (hideL ks hs ds = mix n ds (strm ks hs ((n + 31) / 32))) := by show _ = _; rw [← hdl]; rfl
  have hZl := hideL_len ks hs ds
  rw [hdl] at hZl
  generalize hideL ks hs ds = Z at *
  obtain ⟨M, hM⟩ : ∃ M, M = (n + 31) / 32 := ⟨_, rfl⟩
  rw [← hM] at HH
  have hM4 : M ≤ 4 := by omega
  have hMn : n ≤ 32 * M := by omega
  have HMe := Lib.hid hM
  clear hM
  obtain ⟨i0, hi0, hz0, hz1, hz2⟩ := info_parts info_u8
  refine (callsIn_wide (n := 6)).1 ?_
  refine callsIn_of_wp_marks Tryd.func42 rfl trivial ?_ rfl
  simp only [Tryd.ntmps42, List.size_toArray, List.length_cons, List.length_nil, Nat.reduceAdd, Nat.reduceSub, Array.replicate_succ, Array.replicate_zero, List.push_toArray, List.append_toArray, List.nil_append, List.cons_append]
  rw [wpIn_wide]
  go_wp2_with fail
  have bx := Boxed.new w 22 (.slice none 0 0)
  have ka := (Keep.refl 0 0 w).alloc (.cells #[.slice none 0 0] 22)
  have zA : w.heap.size < (w.alloc (.cells #[.slice none 0 0] 22)).heap.size := by simp
  generalize w.alloc (.cells #[.slice none 0 0] 22) = w1 at *
  refine (hidingBlocks_any A D nk ck nh ch (n : Int) w1).mono ?_
  rintro e w4 ⟨rfl, hw4⟩
  have cK : w4.cell? ⟨w1.heap.size, 0, none⟩ = some (.slice A nk ck) := by rw [hw4]; simp [go_sem]
  have cH : w4.cell? ⟨w1.heap.size + 1, 0, none⟩ = some (.slice D nh ch) := by rw [hw4]; simp [go_sem]
  have cN : w4.cell? ⟨w1.heap.size + 2, 0, none⟩ = some (.int .i64 (n : Int)) := by rw [hw4]; simp [go_sem]
  have k4 : Keep 0 0 w w4 := by rw [hw4]; exact ((ka.alloc _).alloc _).alloc _
  have z4 : w1.heap.size + 3 ≤ w4.heap.size := by rw [hw4]; simp
  have bx4 : Boxed w4 w.heap.size 22 (.slice none 0 0) := by rw [hw4]; exact ((bx.alloc _).alloc _).alloc _
  have bb4 : Below w.heap.size w w4 := k4.below (by omega) (Nat.le_refl _)
  have key4 := hkey.keep k4 (by omega)
  have head4 := hhead.keep k4 (by omega)
  have data4 := hdata.keep k4 (by omega)
  have kt4 := hkt.keep k4 (by omega)
  have hg0 := hkt.1
  clear hw4 ka bx
  go_wp2_with fail
  refine (wpIn_wide (n := 6)).1 ?_
  refine wpIn_rangeFunc_told rfl (by omega) (gf := 72) (lb := #[.pointer (some ⟨w1.heap.size + 2, 0, none⟩), .pointer (some ⟨w1.heap.size, 0, none⟩), .pointer (some ⟨w1.heap.size + 1, 0, none⟩)]) rfl trivial (enters_of Tryd.func72 (by kernel_rfl) rfl)
    (hiding_told 5 (by omega) (w1.heap.size + 2) w1.heap.size (w1.heap.size + 1) w4.heap.size w.heap.size A D nk ck nh ch n hk hb M ks hs w4 HMe.out hn (by omega) (by omega) (by omega) (by omega) (by omega) (by omega) htk hth (by omega) hg0 (Nat.le_refl _) cN cK cH key4 head4 kt4 hnk hnh hnh2)
    (fun h k => h.trans k) (fun W l o hl => Kq.put W l o hl) (fun _ => rfl)
    (fun pre W => (∃ v, Boxed W w.heap.size 22 v ∧ W.ownsRow w4.heap.size 5 1 v (32 * pre.length) ((strm ks hs pre.length).map (Value.int .u8)) ∧ True) ∧ (Below w.heap.size w W ∧ w4.heap.size ≤ W.heap.size))
    (OwnFrom.and (Own.from (holdsRow_own w4.heap.size w.heap.size 22 5 1 (fun pre : List (Nat × Nat) => 32 * pre.length) (fun pre : List (Nat × Nat) => (strm ks hs pre.length).map (Value.int .u8)) (fun _ _ => True)) _)
      (OwnFrom.and (ownFrom_below (Nat.le_refl _) (by omega)) (fun _ _ _ _ h hg _ => Nat.le_trans h hg.size)))
    (fun pre x => Hb.own M ks hs _ pre x)
    ⟨⟨_, bx4, World.ownsRow_nil _ _ _ _, trivial⟩, bb4, Nat.le_refl _⟩
    (fun x => { tmps := #[.slice A nk ck, .slice D nh ch, .slice X n c, undef, undef, undef, .slice none 0 0, .pointer (some ⟨w.heap.size, 0, none⟩), .slice (some ⟨x.1, 0, none⟩) 32 x.2, .slice A nk ck, .slice D nh ch, .slice X n c, .int .i64 (n : Int),
        .func (.func 72) #[] #[.pointer (some ⟨w1.heap.size + 2, 0, none⟩), .pointer (some ⟨w1.heap.size, 0, none⟩), .pointer (some ⟨w1.heap.size + 1, 0, none⟩)],
        .slice (some ⟨x.1, 0, none⟩) 32 x.2, undef, undef, undef, undef, undef, undef, undef], defers := [] }) ?assign ?body ?done
  case assign =>
    intro l x W K hK
    gi_wp2
    exact hK
  case body =>
    rintro l pre x W ⟨⟨v, hbx, hown, _⟩, hb, hz⟩ hT
    have hT' : Rd W x.1 (x.1 + 1) (some ⟨x.1, 0, none⟩) 32 (macL ks (hs ++ [((pre.length + 1 : Nat) : Int)])) := hT.2
    have hlM : pre.length < M := hT.1
    have hcell := hbx.cell
    have hml := macL_len ks (hs ++ [((pre.length + 1 : Nat) : Int)])
    have HMC : Hid (strm ks hs (pre.length + 1) = strm ks hs pre.length ++ macL ks (hs ++ [((pre.length + 1 : Nat) : Int)])) := rfl
    generalize macL ks (hs ++ [((pre.length + 1 : Nat) : Int)]) = mc at *
    have hne : (22 : TypeId) ≠ 5 := by decide
    have hnr := hbx.not_row hne hown
    have hob := own_block hown
    gi_wp2_with (gi_at_builtin; refine wpListIn_append_own _ rfl _ _ 22 rfl w4.heap.size 5 i0 (.int .u8 0) 1 1 Tryd.underlying22 hi0 hz0 hz1 hz2 rfl (by decide) v (32 * pre.length) _ rfl hown ⟨x.1, 0, none⟩ 32 x.2 (mc.map (Value.int .u8)) rfl (by rw [List.length_map, hml]) hT'.news (ints_oneCell _ _) ?k1 ?k2 hz ?_)
    case k1 => unfold maxLen; omega
    case k2 => omega
    intro v' W2 own2 grow2 _
    have hbx1 := hbx.kept grow2 hnr
    have hc1 := hbx1.cell
    have hf1 := hbx1.frozen
    obtain ⟨A', c', rfl⟩ := own_slice own2
    have hbx2 := hbx1.set (.slice A' (32 * pre.length + 32) c')
    have own3 := own2.kept (grownBy_setCell' W2 w.heap.size (.slice A' (32 * pre.length + 32) c')) (.inr (hbx1.not_row hne own2).symm)
    have HK := Lib.hid (((KeepsOthers.of_grownBy grow2 (fun j o ej hj => (hob j ej).2 o hj)).trans (KeepsOthers.setCell W2 ⟨w.heap.size, 0, none⟩ (.slice A' (32 * pre.length + 32) c'))).from w4.heap.size)
    have HQ : Hid (Kq w4.heap.size w.heap.size W (W2.setCell ⟨w.heap.size, 0, none⟩ (.slice A' (32 * pre.length + 32) c'))) :=
      ⟨Nat.le_trans grow2.size (by simp [World.setCell]), fun k hk hkB => (Below.heap_setCell _ _ _ k (by show k ≠ w.heap.size; exact hkB)).trans (grow2.block k (by omega) (fun e => by have := (hob k e.symm).1; omega))⟩
    have HB : Hid (Below w.heap.size w (W2.setCell ⟨w.heap.size, 0, none⟩ (.slice A' (32 * pre.length + 32) c'))) :=
      (hb.grown grow2 hb.size (fun k e => by have := (hob k e).1; omega)).setCell (p := ⟨w.heap.size, 0, none⟩) (Nat.le_refl _) _
    have HI2 : Hid (∃ v, Boxed (W2.setCell ⟨w.heap.size, 0, none⟩ (.slice A' (32 * pre.length + 32) c')) w.heap.size 22 v ∧ (W2.setCell ⟨w.heap.size, 0, none⟩ (.slice A' (32 * pre.length + 32) c')).ownsRow w4.heap.size 5 1 v (32 * (pre ++ [x]).length) ((strm ks hs (pre ++ [x]).length).map (Value.int .u8)) ∧ True) := by
      refine ⟨_, hbx2, ?_, trivial⟩
      have e1 : (pre ++ [x]).length = pre.length + 1 := by rw [List.length_append]; rfl
      rw [e1, HMC.out, List.map_append]
      exact own3
    have HZ : Hid (w4.heap.size ≤ (W2.setCell ⟨w.heap.size, 0, none⟩ (.slice A' (32 * pre.length + 32) c')).heap.size) := Nat.le_trans hz HQ.out.size
    clear hbx hown hb hT hT' hcell hnr hob own2 grow2 hbx1 hbx2 own3
    gi_wp2
    exact ⟨rfl, HK.out, HQ.out, HI2.out, HB.out, HZ.out⟩
  case done =>
    rintro Dd ys W hD hS ⟨⟨v, hbx, hown, _⟩, hb, hz⟩ hK
    obtain ⟨A', c', rfl⟩ := own_slice hown
    have hcell := hbx.cell
    have hDW : Dd < W.heap.size := (Array.getElem?_eq_some_iff.1 hK).1
    have hS' : ys.length = M := hS
    rw [hS'] at hown hcell
    have r5 := (Wr.of_own hown (by unfold maxLen; omega) (strm_byte ks hs M)).1
    have d5 := hdata.keep (⟨hb.os, hb.tape, hb.output, hb.size, fun k hk _ => hb.block k hk⟩ : Keep 0 0 w W) (by omega)
    have hmix := implMix_some X A' n c (32 * M) c' _ _ _ _ ds (strm ks hs M) W d5 r5 (by omega)
    rw [← HH.out] at hmix
    have HMX := Lib.hid hmix
    clear hmix r5 d5 hown hbx
    dsimp only
    go_wp2_with fail
    refine HMX.out.mono ?_
    rintro e w6 ⟨g6, rfl, wr6, b6⟩
    have hK' : w6.heap[Dd]? = some (.deferred (some [])) := (b6.block Dd hDW).trans hK
    have bz : Below w.heap.size w (w6.putObj Dd (.deferred none)) := (hb.trans (b6.mono hb.size)).trans (belowK_b (w := w) (Nat.le_refl _) w6 Dd _ _ (by omega) hK' rfl rfl)
    have wz := wr6.keep (Keep.put w6 Dd (.deferred none)) (by omega)
    have HF : Hid (Made w Z (.returned (.slice (some ⟨g6, 0, none⟩) n n)) (w6.putObj Dd (.deferred none))) := by
      refine ⟨g6, n, ret_slice hZl.symm, by omega, ?_, bz⟩
      rw [hZl]
      exact wz.wide hb.size (by simp [World.putObj]) (Nat.le_refl _)
    clear wr6 b6 bz wz hb
    have hfld : ∀ w : World, (Instr.field 27 (.agg #[.int .i64 0, .slice (some ⟨g6, 0, none⟩) n n]) 1).run Tryd.prog w = .ok (.slice (some ⟨g6, 0, none⟩) n n) w := fun _ => by kernel_rfl
    go_wp2_with fail
    refine ⟨by simp, .inl ⟨_, _, rfl, run_takeDeferred hK', ?_⟩⟩
    exact ⟨_, results_tmp (t := 6) rfl _ _ _, HF.out⟩
end Go.Proofs.YtpnpjngaenlciaaDoor
