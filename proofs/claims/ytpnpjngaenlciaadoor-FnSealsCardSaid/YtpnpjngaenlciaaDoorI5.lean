/-
  The hash, by the developers' function: impl.hashBytes.
-/
import Derived.Test.YtpnpjngaenlciaaDoorI4
namespace Go.Proofs.YtpnpjngaenlciaaDoor
open Go.RowKit Go.Shelf
set_option linter.unusedVariables false
set_option maxRecDepth 100000
attribute [local go_sem] Oper.semAt_some

theorem chunk_stops (n : Nat) (hn : 1 ≤ n) (Bs Bn n₀ g gp N cap M : Nat) (hN : N = 64 * M) (hM : 1 ≤ M) (hNb : N ≤ 4194304) (hcap : N ≤ cap)
    (b1 : Bs < n₀) (b2 : Bn < n₀) (b3 : Bs ≠ g) (b4 : Bn ≠ g) (w : World) (s1 : Bs < w.heap.size) (s2 : Bn < w.heap.size)
    (hBs : w.cell? ⟨Bs, 0, none⟩ = some (.slice (some ⟨gp, 0, none⟩) N cap)) (hBn : w.cell? ⟨Bn, 0, none⟩ = some (.int .i64 64)) :
    SeqStopsK Fence.wide n Tryd.prog 85 #[.pointer (some ⟨Bs, 0, none⟩), .pointer (some ⟨Bn, 0, none⟩)] (fun x : Nat => #[.slice (some ⟨gp, 64 * min x (M - 1), none⟩) 64 64])
      (Kq n₀ g) (fun ys => ys = List.range M) (fun _ => True) M w := fun l J Jx W hW hJ _ hY h0 =>
  chunk1_in n hn l Bs Bn n₀ g gp N cap M hN hM hNb hcap b1 b2 b3 b4 J Jx hY W hJ ((hW.cell (p := ⟨Bs, 0, none⟩) s1).trans hBs) ((hW.cell (p := ⟨Bn, 0, none⟩) s2).trans hBn) h0

/-- The words behind the blocks whose numbers are told. -/
def hfold (ps : List Int) (M : Nat) (pre : List Nat) : Nat → Int := pre.foldl (fun V x => blk V (part ps (64 * min x (M - 1)) 64)) H0
theorem hfold_snoc (ps : List Int) (M : Nat) (pre : List Nat) (x : Nat) : hfold ps M (pre ++ [x]) = blk (hfold ps M pre) (part ps (64 * min x (M - 1)) 64) := by simp [hfold]
theorem hfold_range (ps : List Int) (M : Nat) : ∀ m, m ≤ M → hfold ps M (List.range m) = hst ps m := by
  intro m
  induction m with
  | zero => intro _; rfl
  | succ m ih =>
    intro hm
    rw [List.range_succ, hfold_snoc, ih (by omega), show min m (M - 1) = m from by omega]
    rfl
theorem hfold_u32 (ps : List Int) (M : Nat) (pre : List Nat) : U32 (hfold ps M pre) := by
  rcases List.eq_nil_or_concat pre with rfl | ⟨l, x, rfl⟩
  · exact H0_u32
  · rw [List.concat_eq_append, hfold_snoc]
    intro j; show 0 ≤ (_ : Int) % 4294967296 ∧ (_ : Int) % 4294967296 ≤ 4294967295; omega

/-- What a turn of a block that is no row of the call's leaves. -/
theorem keep_grown {W W' : World} {row : Option Nat} {B : Nat} (hg : W.grownBy W' row) (hr : ∀ r, row = some r → B ≤ r) : ∃ r, B ≤ r ∧ Keep r (r + 1) W W' := by
  rcases row with _ | r
  · exact ⟨B, Nat.le_refl _, ⟨hg.os, hg.tape, hg.output, hg.size, fun k hk _ => hg.block k hk (by simp)⟩⟩
  · exact ⟨r, hr r rfl, ⟨hg.os, hg.tape, hg.output, hg.size, fun k hk ho => hg.block k hk (by simp; omega)⟩⟩
theorem Keep.from_ {W W' : World} {g B : Nat} (h : Keep g (g + 1) W W') (hB : g < B) : KeepsFrom B W W' :=
  ⟨h.size, fun k o hk hko _ => (h.block k (Array.getElem?_eq_some_iff.1 hko).1 (by omega)).trans hko⟩
theorem Keep.kq {W W' : World} {g n₀ : Nat} (h : Keep g (g + 1) W W') (hn : n₀ ≤ W.heap.size) : Kq n₀ g W W' := ⟨h.size, fun k hk hg => h.block k (by omega) (by omega)⟩
/-- What holds between two rounds of the hash. -/
structure HI (w : World) (B g gp hi N : Nat) (ps : List Int) (V : Nat → Int) (W : World) : Prop where
  s : Wd W g 8 V
  r : Rd W (g + 1) hi (some ⟨gp, 0, none⟩) N ps
  k : Kt W
  b : Below w.heap.size w W
  z : B ≤ W.heap.size
theorem HI.own {w : World} {B g gp hi N : Nat} {ps : List Int} (f : List Nat → Nat → Int) (h1 : g < B) (h2 : hi ≤ B) (h3 : 1 < B) (h4 : w.heap.size ≤ B) : OwnFrom B (fun pre W => HI w B g gp hi N ps (f pre) W) := by
  intro pre W W' row h hg hr
  obtain ⟨r, hrB, k⟩ := keep_grown (B := B) hg (fun r e => (hr r e).1)
  exact ⟨h.s.keep k (by omega), h.r.keep k (by omega), h.k.keep k (by omega), h.b.trans (k.below (by omega) h.b.size), Nat.le_trans h.z k.size⟩
theorem run_make32 : ∀ w : World, (Instr.makeSlice 22 (.int .i64 0) (.int .i64 32)).run Tryd.prog w = .ok (.slice (some ⟨w.heap.size, 0, none⟩) 0 32) (w.alloc (.cells (madeCells #[.int .u8 0] 32) 5)) := by
  intro w
  obtain ⟨i, hi, hz, hs, hb⟩ := info_parts info_u8
  have hr := run_make (P := Tryd.prog) w 22 5 i (.int .u8 0) Tryd.underlying22 hi hz .i64 .i64 0 32 (by omega) (by omega) (by rw [hb]; omega) (by omega)
  simpa [hs, Value.cells] using hr

set_option maxRecDepth 100000 in
set_option maxHeartbeats 2000000 in
theorem hashBytes_any (A : Option Addr) (n c hi : Nat) (xs : List Int) (w : World) (h : Rd w 0 hi A n xs) (hn : n ≤ 2097152) (hk : Kt w) :
    Calls Tryd.prog 73 #[.slice A n c] w (Made w (hashL xs)) := by
  have hlen := h.len
  have hbyte := h.byte
  refine (callsIn_wide (n := 6)).1 ?_
  refine callsIn_of_wp_marks Tryd.func73 rfl trivial ?_ rfl
  simp only [Tryd.ntmps73, List.size_toArray, List.length_cons, List.length_nil, Nat.reduceAdd, Nat.reduceSub, Array.replicate_succ, Array.replicate_zero, List.push_toArray, List.append_toArray, List.nil_append, List.cons_append]
  rw [wpIn_wide]
  go_wp2_with fail
  refine (newHash_any w).mono ?_
  rintro e w1 ⟨rfl, b1⟩
  unfold A8
  go_wp2_with fail
  have hs1 : Wd (w1.alloc (.cells #[.int .u32 (H0 0), .int .u32 (H0 1), .int .u32 (H0 2), .int .u32 (H0 3), .int .u32 (H0 4), .int .u32 (H0 5), .int .u32 (H0 6), .int .u32 (H0 7)] 105)) w1.heap.size 8 H0 := boxed8 w1 H0 _
  have b2 : Below w.heap.size w (w1.alloc (.cells #[.int .u32 (H0 0), .int .u32 (H0 1), .int .u32 (H0 2), .int .u32 (H0 3), .int .u32 (H0 4), .int .u32 (H0 5), .int .u32 (H0 6), .int .u32 (H0 7)] 105)) := b1.alloc b1.size _
  have z1 := b1.size
  generalize w1.alloc (.cells #[.int .u32 (H0 0), .int .u32 (H0 1), .int .u32 (H0 2), .int .u32 (H0 3), .int .u32 (H0 4), .int .u32 (H0 5), .int .u32 (H0 6), .int .u32 (H0 7)] 105) = w2 at *
  have z2 := hs1.lt
  have hk2 := hk.below b2 hk.1
  have hg0 := hk.1
  refine (padBytes_any A n c hi xs w2 (h.keep (Keep.of_below b2 0 0) (by omega)) hn).mono ?_
  rintro e w3 ⟨gp, cap, rfl, hcap, wr3, b3⟩
  have hplen : (padL xs).length ≤ 2097152 + 80 := by rw [padL_len]; have := padEnd_le xs.length; omega
  have hp64 : 64 ≤ (padL xs).length := by rw [padL_len]; have := padEnd_at xs.length; omega
  have hblk := padL_blocks xs
  have HH : Hid (hashL xs = outB (hst (padL xs) ((padL xs).length / 64)) 8) := rfl
  have HL := Lib.hid (hashL_len xs)
  have HB := Lib.hid (hashL_byte xs)
  generalize hashL xs = zs at *
  generalize padL xs = ps at *
  have r3 := wr3.1
  generalize hN : ps.length = N at *
  have HN := Lib.hid hN
  obtain ⟨M, hM⟩ : ∃ M, M = N / 64 := ⟨_, rfl⟩
  rw [← hM] at hblk HH
  have hM1 : 1 ≤ M := by omega
  have HBK := Lib.hid hblk
  obtain ⟨bb, oo, e1, q1, q2, _⟩ := r3.at_ (by omega)
  injection e1 with e1
  injection e1 with e1 e2
  subst e1 e2
  have hs3 := hs1.keep (Keep.of_below b3 0 0) (by omega)
  have hk3 := hk2.below b3 hk2.1
  have bb3 := b2.trans (b3.mono b2.size)
  have z3 := b3.size
  clear hN hM hblk wr3 b3 b2 b1 hs1 hk2 h hk
  go_wp2_with fail
  refine (chunk_any gp N cap w3).mono ?_
  rintro e w4 ⟨rfl, hw4⟩
  have cS : w4.cell? ⟨w3.heap.size, 0, none⟩ = some (.slice (some ⟨gp, 0, none⟩) N cap) := by rw [hw4]; simp [go_sem]
  have cN : w4.cell? ⟨w3.heap.size + 1, 0, none⟩ = some (.int .i64 64) := by rw [hw4]; simp [go_sem]
  have k4 : Keep 0 0 w3 w4 := by rw [hw4]; exact ((Keep.refl 0 0 _).alloc _).alloc _
  have z4 : w4.heap.size = w3.heap.size + 2 := by rw [hw4]; simp
  have bb4 : Below w.heap.size w w4 := bb3.trans (k4.below (by omega) bb3.size)
  have hs4 := hs3.keep k4 (by omega)
  have hk4 := hk3.keep k4 (by omega)
  have r4 := (r3.keep k4 (by omega)).wide (lo' := w1.heap.size + 1) (by omega) (Nat.le_refl _) (by omega)
  clear hw4 k4 bb3 hs3 hk3 r3
  go_wp2_with fail
  have hI0 : HI w w4.heap.size w1.heap.size gp w3.heap.size N ps (hfold ps M []) w4 := ⟨hs4, r4, hk4, bb4, Nat.le_refl _⟩
  have hout : Hid (hst ps M = hfold ps M (List.range M)) := (hfold_range ps M M (Nat.le_refl _)).symm
  clear hs4 hk4 r4 bb4
  refine (wpIn_wide (n := 6)).1 ?_
  refine wpIn_rangeFunc_ownG rfl (by omega) (gf := 85) (lb := #[.pointer (some ⟨w3.heap.size, 0, none⟩), .pointer (some ⟨w3.heap.size + 1, 0, none⟩)]) rfl trivial (enters_of Tryd.func85 (by kernel_rfl) rfl)
    (chunk_stops 5 (by omega) w3.heap.size (w3.heap.size + 1) (w3.heap.size + 2) w1.heap.size gp N cap M HBK.out hM1 (by omega) hcap (by omega) (by omega) (by omega) (by omega) w4 (by omega) (by omega) cS cN)
    (fun h k => h.trans k) (fun W l o o' hl _ _ _ => Kq.put W l o' (by omega)) (Below.refl _ _) (fun _ => rfl)
    (fun pre W => HI w w4.heap.size w1.heap.size gp w3.heap.size N ps (hfold ps M pre) W)
    (fun _ _ _ => False)
    (HI.own (fun pre => hfold ps M pre) (by omega) (by omega) (by omega) (by omega))
    (fun _ _ _ _ _ hs _ _ => hs)
    hI0
    (fun x => { tmps := #[.slice A n c, undef, .slice none 0 0, .pointer (some ⟨w1.heap.size, 0, none⟩), .slice (some ⟨gp, 64 * min x (M - 1), none⟩) 64 64, undef, undef, undef, .agg #[.int .u32 (H0 0), .int .u32 (H0 1), .int .u32 (H0 2), .int .u32 (H0 3), .int .u32 (H0 4), .int .u32 (H0 5), .int .u32 (H0 6), .int .u32 (H0 7)], .slice A n c, .slice (some ⟨gp, 0, none⟩) N cap,
        .func (.func 85) #[] #[.pointer (some ⟨w3.heap.size, 0, none⟩), .pointer (some ⟨w3.heap.size + 1, 0, none⟩)], .slice (some ⟨gp, 64 * min x (M - 1), none⟩) 64 64, undef, undef, undef, undef, undef, undef, undef, undef, undef, undef, undef, undef, undef, undef], defers := [] }) ?assign ?body ?done ?stop
  case assign =>
    intro l x W K hK
    gi_wp2
    exact hK
  case body =>
    rintro l pre x W ⟨hs, hr, hkw, hb, hz⟩ _
    obtain ⟨c0, c1, c2, c3, c4, c5, c6, c7⟩ := hs.cells8
    have hbk := HBK.out
    have hp := (hr.part_ (64 * min x (M - 1)) 64 (by omega)).rd0
    rw [Nat.zero_add] at hp
    have hcall := afterBlock_any gp (64 * min x (M - 1)) 64 w3.heap.size (part ps (64 * min x (M - 1)) 64) (hfold ps M pre) W hp (Nat.le_refl _) (hfold_u32 ps M pre) hkw
    have hU : (fun j => (hfold ps M pre j + st (Ws (part ps (64 * min x (M - 1)) 64) 48) (hfold ps M pre) 64 j) % 4294967296) = hfold ps M (pre ++ [x]) := (hfold_snoc ps M pre x).symm
    rw [hU] at hcall
    gi_wp2
    refine ⟨trivial, (CallsIn.inRound l (callsIn_wide.2 hcall)).mono ?_⟩
    rintro e W5 ⟨rfl, b5⟩
    have k5 := Keep.of_below b5 w1.heap.size (w1.heap.size + 1)
    have hs5 := hs.keep (Keep.of_below b5 0 0) (by omega)
    obtain ⟨d0, d1, d2, d3, d4, d5, d6, d7⟩ := hs5.cells8
    have f0 := hs5.frozen 0
    have f1 := hs5.frozen 1
    have f2 := hs5.frozen 2
    have f3 := hs5.frozen 3
    have f4 := hs5.frozen 4
    have f5 := hs5.frozen 5
    have f6 := hs5.frozen 6
    have f7 := hs5.frozen 7
    have hs6 := hs5.setAll (hfold ps M (pre ++ [x]))
    have k6 := k5.trans (Keep.setCells (lo := w1.heap.size) (hi := w1.heap.size + 1) (b := w1.heap.size) ⟨Nat.le_refl _, Nat.lt_succ_self _⟩ (WL 8 (hfold ps M (pre ++ [x]))) 0 W5 (Keep.refl _ _ _))
    have hI6 : HI w w4.heap.size w1.heap.size gp w3.heap.size N ps (hfold ps M (pre ++ [x])) (W5.setCells w1.heap.size 0 (WL 8 (hfold ps M (pre ++ [x])))) :=
      ⟨hs6, hr.keep k6 (by omega), hkw.keep k6 (by omega), hb.trans (k6.below (by omega) hb.size), Nat.le_trans hz k6.size⟩
    have H1 := Lib.hid (k6.from_ (B := w4.heap.size) (by omega))
    have H2 := Lib.hid (k6.kq (n₀ := w3.heap.size + 2) (by omega))
    have H3 := Lib.hid hI6
    generalize hUe : hfold ps M (pre ++ [x]) = U at *
    have HUe := Lib.hid hUe
    clear hUe
    clear hs6 k6 hI6 k5 hs5 b5 hcall hU hs hr hkw hb hp
    unfold A8
    gi_wp2
    refine ⟨H1.out, H2.out, ?_⟩
    show HI _ _ _ _ _ _ _ (hfold ps M (pre ++ [x])) _
    rw [HUe.out]
    exact H3.out
  case done =>
    rintro D ys W hD rfl ⟨hs, hr, hkw, hb, hz⟩ hK
    rw [← hout.out] at hs
    have hu := hst_u32 ps M
    have HE := Lib.hid HH.out
    generalize hV : hst ps M = V at *
    clear hV
    have hgW := hs.lt
    obtain ⟨c0, c1, c2, c3, c4, c5, c6, c7⟩ := (hs.keep ((Keep.refl 0 0 W).alloc (.cells (madeCells #[.int .u8 0] 32) 5)) (by omega)).cells8
    have HIX8 := Lib.hid (fun (k : Nat) (hk : k < 8) => run_index8 V k hk)
    have hmk := run_make32
    have hDW : D < W.heap.size := (Array.getElem?_eq_some_iff.1 hK).1
    have own4 : (W.alloc (.cells (madeCells #[.int .u8 0] 32) 5)).ownsRow W.heap.size 5 1 (.slice (some ⟨W.heap.size, 0, none⟩) 0 32) 0 [] := World.ownsRow_made W _ 32 (Nat.le_refl _) (by unfold maxLen; omega) (by simp [size_madeCells])
    have bw4 : Below W.heap.size W (W.alloc (.cells (madeCells #[.int .u8 0] 32) 5)) := (Below.refl _ _).alloc (Nat.le_refl _) _
    dsimp only
    go_wp2_with fail
    clear c0 c1 c2 c3 c4 c5 c6 c7 hmk hs hr hkw
    go_loopw [18, 5, 7] (fun i out _ wx => ∃ k l g cap : Nat, l = 4 * k ∧ k ≤ 8 ∧ i = .int .i64 (k : Int) ∧ out = .slice (some ⟨g, 0, none⟩) l cap ∧ wx.ownsRow W.heap.size 5 1 (.slice (some ⟨g, 0, none⟩) l cap) l ((outB V k).map (Value.int .u8)) ∧ Below W.heap.size W wx) (fun i _ _ _ => 8 - (intOf i).toNat)
    case atStart => exact ⟨0, 0, W.heap.size, 32, rfl, Nat.zero_le _, rfl, rfl, own4, bw4⟩
    case round =>
      obtain ⟨k, l, g, cap', hl4, hk8, rfl, rfl, own, bo⟩ := hrel
      have HL4 := Lib.hid hl4
      have hl32 : l ≤ 32 := by omega
      have zo := bo.size
      by_cases hlt : k < 8
      · have hidx : ∀ w : World, (Instr.index 105 (.agg #[.int .u32 (V 0), .int .u32 (V 1), .int .u32 (V 2), .int .u32 (V 3), .int .u32 (V 4), .int .u32 (V 5), .int .u32 (V 6), .int .u32 (V 7)]) (.int .i64 (k : Int))).run Tryd.prog w = .ok (.int .u32 (V k)) w := HIX8.out k hlt
        have huk := hu k
        have HS : Hid (outB V (k + 1) = outB V k ++ digs (V k) 4) := rfl
        generalize hvk : V k = vk at *
        clear hvk hl4
        have j1 : (k : Int) < 8 := by omega
        go_wp2_with fail
        refine (putWord32_any vk 4 wr (by omega) (by omega) (by omega)).mono ?_
        rintro e w5 ⟨g5, rfl, wr5, b5⟩
        have own5 := own_keep own (Keep.of_below b5 0 0) (by omega)
        have bo5 := bo.trans (b5.mono zo)
        have zo5 := bo5.size
        have hg5 := own5.lt g rfl
        have r5 := wr5.1.rd0
        generalize hdg : digs vk 4 = dg at *
        obtain ⟨i0, hi0, hz0, hz1, hz2⟩ := info_parts info_u8
        clear hdg own b5 wr5 bo hidx
        go_wp2_with (at_builtin; refine wpList_append_rd rfl _ _ 22 rfl W.heap.size 5 i0 (.int .u8 0) Tryd.underlying22 hi0 hz0 hz1 hz2 rfl g l cap' _ rfl own5 (some ⟨g5, 0, none⟩) 4 4 _ _ dg rfl r5 (fun h => by cases h) ?k1 ?k2 zo5 ?_)
        case k1 => unfold maxLen; omega
        case k2 => omega
        intro g6 cap6 w6 own6 grow6 hat6
        have b6 : Below W.heap.size W w6 := bo5.grown grow6 zo5 (fun q hq => by simp at hq; omega)
        have own6' : w6.ownsRow W.heap.size 5 1 (.slice (some ⟨g6, 0, none⟩) (l + 4) cap6) (l + 4) ((outB V (k + 1)).map (Value.int .u8)) := by
          rw [HS.out, List.map_append]; exact own6
        have HO := Lib.hid own6'
        have HB6 := Lib.hid b6
        clear own6 own6' b6 grow6 hat6 own5 bo5 r5 hi0 hz0 hz1 hz2
        go_wp2_with fail
        go_roundw
        case rel => exact ⟨k + 1, l + 4, g6, cap6, by have := HL4.out; omega, by omega, by go_num, rfl, HO.out, HB6.out⟩
        case measure => simp [intOf]; omega
      · have ek : k = 8 := by omega
        have el : l = 32 := by omega
        have e32 : (outB V 8).length = l := by rw [outB_len]; omega
        have hK' : wr.heap[D]? = some (.deferred (some [])) := (bo.block D hDW).trans hK
        have own8 : (wr.putObj D (.deferred none)).ownsRow W.heap.size 5 1 (.slice (some ⟨g, 0, none⟩) l cap') l ((outB V 8).map (Value.int .u8)) := by
          rw [← ek]; exact ownsRow_putObj own _ hK' rfl
        have bz : Below w.heap.size w (wr.putObj D (.deferred none)) := (hb.trans (bo.mono hb.size)).trans (belowK_b (w := w) (Nat.le_refl _) wr D _ _ (by omega) hK' rfl rfl)
        have HF : Hid (Made w zs (.returned (.slice (some ⟨g, 0, none⟩) l cap')) (wr.putObj D (.deferred none))) := by
          show Made _ _ _ _
          rw [HE.out]
          refine ⟨g, cap', ret_slice e32.symm, by rw [e32]; exact own_cap own, ?_, bz⟩
          rw [e32]
          exact (Wr.of_own (own_less own8 hb.size) (by unfold maxLen; omega) (outB_byte _ _))
        have jk : ¬ (k : Int) < 8 := by omega
        clear own bo own8 bz ek el e32 hl4 hb
        go_wp2_with fail
        refine ⟨by simp, .inl ⟨_, _, rfl, run_takeDeferred hK', ?_⟩⟩
        exact ⟨_, results_tmp (t := 2) rfl _ _ _, HF.out⟩
  case stop =>
    rintro D c pre W _ _ h _
    exact h.elim
end Go.Proofs.YtpnpjngaenlciaaDoor
