/-
  The walk of FnExactAddItem.
-/
import Derived.Test.YtjibfncdkcmhcaaT18
import Derived.Test.YtjibfncdkcmhcaaV5b
import Derived.Test.YtjibfncdkcmhcaaLp
import Derived.Test.YtjibfncdkcmhcaaT9
import Derived.Test.YtjibfncdkcmhcaaT10
import Derived.Test.YtjibfncdkcmhcaaT11
import Derived.Test.YtjibfncdkcmhcaaL0
import Derived.Deep.RegionWith
import Derived.Deep.RegionLaw
import Derived.Deep.CutRange
namespace Go.Proofs.Ytjibfncdkcmhcaa
open Go.RowKit
set_option linter.unusedVariables false
set_option maxRecDepth 100000

/-- A log's answer in a box of its own. -/
def AddedP (W : World) (cc tb : Int) (zs : List Itm) (sv : Value) (wx : World) : Prop :=
  ∃ (B : Nat) (G : Option Addr) (cap L U : Nat), sv = .pointer (some ⟨B, 0, none⟩) ∧ Box3 wx B (.int .i64 cc) (.int .i64 tb) (.slice G zs.length cap) ∧ Wt wx L U G zs.length zs ∧ (W.heap.size ≤ B ∧ W.heap.size ≤ L ∧ U ≤ wx.heap.size ∧ (B < L ∨ U ≤ B)) ∧ Below W.heap.size W wx
/-- The box may be there, and be empty. -/
def MBox (W : World) (lo : Nat) (o : Option Nat) : Prop := ∀ B, o = some B → lo ≤ B ∧ Box3 W B (.int .i64 0) (.int .i64 0) (.slice none 0 0) ∧ ∀ j, W.frozen? ⟨B, j, none⟩ = false
theorem MBox.none_ (W : World) (lo : Nat) : MBox W lo none := fun B e => by cases e
theorem MBox.new {W : World} {lo : Nat} {t : TypeId} (h : lo ≤ W.heap.size) : MBox (W.alloc (.cells #[.int .i64 0, .int .i64 0, .slice none 0 0] t)) lo (some W.heap.size) := fun B e => by
  injection e with e
  subst e
  exact ⟨h, Box3.new W _ _ _ t, fun j => by simp [go_sem]⟩
theorem MBox.below {W W' : World} {lo : Nat} {o : Option Nat} (h : MBox W lo o) (hb : Below W.heap.size W W') : MBox W' lo o := fun B e => by
  obtain ⟨h1, h2, h3⟩ := h B e
  exact ⟨h1, h2.keep (Keep.of_below hb 0 0) (by omega), fun j => (hb.frozen (p := ⟨B, j, none⟩) h2.1).trans (h3 j)⟩
theorem AddedP.fresh {W v2 v3 : World} {cc tb : Int} {zs : List Itm} {G : Option Addr} {cap L : Nat} {t : TypeId} (b1 : Below W.heap.size W v2) (hL : W.heap.size ≤ L) (hw : Wt v3 L v3.heap.size G zs.length zs) (b2 : Below v2.heap.size v2 v3) :
    AddedP W cc tb zs (.pointer (some ⟨v3.heap.size, 0, none⟩)) (v3.alloc (.cells #[.int .i64 cc, .int .i64 tb, .slice G zs.length cap] t)) := by
  have z1 := b1.size
  have z2 := b2.size
  have k := (Keep.refl 0 0 v3).alloc (.cells #[.int .i64 cc, .int .i64 tb, .slice G zs.length cap] t)
  exact ⟨v3.heap.size, G, cap, L, v3.heap.size, rfl, Box3.new v3 _ _ _ t, hw.keep k (by omega), ⟨by omega, hL, by simp, .inr (Nat.le_refl _)⟩, (b1.trans (b2.mono z1)).alloc (by omega) _⟩
theorem AddedP.there {W v2 v3 : World} {cc tb : Int} {zs : List Itm} {G : Option Addr} {cap L B : Nat} (b1 : Below W.heap.size W v2) (hL : W.heap.size ≤ L) (hw : Wt v3 L v3.heap.size G zs.length zs) (b2 : Below v2.heap.size v2 v3) (hB : Box3 v3 B (.int .i64 0) (.int .i64 0) (.slice none 0 0)) (hWB : W.heap.size ≤ B) (hBL : B < L) :
    AddedP W cc tb zs (.pointer (some ⟨B, 0, none⟩)) (((v3.setCell ⟨B, 0, none⟩ (.int .i64 cc)).setCell ⟨B, 1, none⟩ (.int .i64 tb)).setCell ⟨B, 2, none⟩ (.slice G zs.length cap)) := by
  have z1 := b1.size
  have kk : Keep B (B + 1) v3 (((v3.setCell ⟨B, 0, none⟩ (.int .i64 cc)).setCell ⟨B, 1, none⟩ (.int .i64 tb)).setCell ⟨B, 2, none⟩ (.slice G zs.length cap)) :=
    (((Keep.refl B (B + 1) v3).setCell (p := ⟨B, 0, none⟩) ⟨Nat.le_refl _, Nat.lt_succ_self _⟩ _).setCell (p := ⟨B, 1, none⟩) ⟨Nat.le_refl _, Nat.lt_succ_self _⟩ _).setCell (p := ⟨B, 2, none⟩) ⟨Nat.le_refl _, Nat.lt_succ_self _⟩ _
  obtain ⟨q0, q1, q2⟩ := three_cells hB.2.1 hB.2.2.1 hB.2.2.2 (.int .i64 cc) (.int .i64 tb) (.slice G zs.length cap)
  have hb3 := b1.trans (b2.mono z1)
  exact ⟨B, G, cap, L, v3.heap.size, rfl, ⟨Nat.lt_of_lt_of_le hB.1 kk.size, q0, q1, q2⟩, hw.keep kk (by omega), ⟨hWB, hL, kk.size, .inl hBL⟩, hb3.trans (kk.below (.inl hWB) hb3.size)⟩
set_option maxHeartbeats 400000 in
theorem markItem_any (k p q : Int) (A : Option Addr) (n c lo hi : Nat) (K : Int) (xs : List Int) (w : World) (h : Wr w lo hi A n xs) (hK0 : 0 ≤ K) (hK : K + n ≤ 9223372036854775807) :
    Calls Try.prog 47 #[.agg #[.int .i64 k, .slice A n c, .int .i64 p, .int .i64 q], .int .i64 K] w fun e w' => e = .returned (.int .i64 (K + (n : Int))) ∧ Wr w' lo hi A n (marks K n) ∧ Keep lo hi w w' := by
  have k1 := (Keep.refl 0 0 w).alloc (.cells #[.int .i64 k, .slice A n c, .int .i64 p, .int .i64 q] 28)
  have r := h.keep k1 (by omega)
  have K1 := Lib.hid (k1.none_ lo hi)
  clear k1
  have hc := markByteS_any A n c lo hi K xs _ r hK0 hK
  generalize K + (n : Int) = M at *
  have HC := Lib.hid hc
  clear hc
  go_enter Try.func47, Try.ntmps47
  go_wp2_with fail
  refine HC.out.mono ?_
  rintro e w1 ⟨rfl, hw1, hk1⟩
  go_wp2_with fail
  go_ret
  exact ⟨rfl, hw1, K1.out.trans hk1⟩

set_option maxHeartbeats 4000000 in
theorem exactAddItem (bs room k p q : Int) (A D : Option Addr) (n c m d : Nat) (xs : List Itm) (ys : List Int) (w : World) (hbs : -9223372036854775808 ≤ bs ∧ bs ≤ 9223372036854775807) (h : Rt w 0 w.heap.size A n xs) (hx : Rd w 0 w.heap.size D m ys) :
    Calls Try.prog 7 #[.agg #[.int .i64 bs, .slice A n c], .int .i64 room, .agg #[.int .i64 k, .slice D m d, .int .i64 p, .int .i64 q]] w fun e w' => e = .returned (.bool true) ∧ Below w.heap.size w w' := by
  have hint := h.int
  have hlx := h.len
  have hly := hx.len
  have hmi := hx.int
  have K2 := ((Keep.refl 0 0 w).alloc (.cells #[.int .i64 bs, .slice A n c] 64)).alloc (.cells #[.int .i64 k, .slice D m d, .int .i64 p, .int .i64 q] 51)
  have HS1 := Lib.hid (fun w' (h' : Rt w' 0 w.heap.size A n xs) => szLog_any bs A n c _ _ xs 1048576 w' h' (by omega) (by omega))
  by_cases hn1 : (1048576 : Int) < (xs.length : Int) + sumLen xs
  · have hsz : szT 1048576 xs = -1 := by unfold szT; rw [if_pos hn1]
    rw [hsz] at HS1
    go_enter Try.func7, Try.ntmps7
    go_wp2_with fail
    refine (HS1.out _ (h.keep K2 (by omega))).mono ?_
    rintro e w1 ⟨rfl, k1⟩
    have bb := (K2.trans k1).below (B := w.heap.size) (by omega) (Nat.le_refl _)
    go_wp2_with fail
    go_ret
    exact ⟨rfl, bb⟩
  obtain ⟨left1, hleft1⟩ : ∃ left, szT 1048576 xs = left := ⟨_, rfl⟩
  have hl1 : 0 ≤ left1 ∧ left1 ≤ 1048576 := by rw [← hleft1]; unfold szT; rw [if_neg hn1]; omega
  rw [hleft1] at HS1
  have j1 : ¬ left1 < 0 := by omega
  have HX1 := Lib.hid (fun x (hx : x ∈ xs) => show x.2.1.length ≤ 281474976710656 by
    have := mem_sumLen hx
    omega)
  have HS2 := Lib.hid (fun w' => szItem_any k p q D m d left1 w' (by omega) (by omega) hmi)
  by_cases hn2 : left1 < (m : Int)
  · rw [if_pos hn2] at HS2
    go_enter Try.func7, Try.ntmps7
    go_wp2_with fail
    refine (HS1.out _ (h.keep K2 (by omega))).mono ?_
    rintro e w1 ⟨rfl, k1⟩
    have x0 := (k1.cell (p := ⟨w.heap.size + 1, 0, none⟩) (by simp) (by show w.heap.size + 1 < 0 ∨ 0 ≤ w.heap.size + 1; omega))
    have x1 := (k1.cell (p := ⟨w.heap.size + 1, 1, none⟩) (by simp) (by show w.heap.size + 1 < 0 ∨ 0 ≤ w.heap.size + 1; omega))
    have x2 := (k1.cell (p := ⟨w.heap.size + 1, 2, none⟩) (by simp) (by show w.heap.size + 1 < 0 ∨ 0 ≤ w.heap.size + 1; omega))
    have x3 := (k1.cell (p := ⟨w.heap.size + 1, 3, none⟩) (by simp) (by show w.heap.size + 1 < 0 ∨ 0 ≤ w.heap.size + 1; omega))
    simp [go_sem] at x0 x1 x2 x3
    go_wp2_with fail
    refine (HS2.out _).mono ?_
    rintro e w2 ⟨rfl, k2⟩
    have bb := ((K2.trans k1).trans k2).below (B := w.heap.size) (by omega) (Nat.le_refl _)
    go_wp2_with fail
    go_ret
    exact ⟨rfl, bb⟩
  rw [if_neg hn2] at HS2
  obtain ⟨left2, hleft2⟩ : ∃ left2, left1 - (m : Int) = left2 := ⟨_, rfl⟩
  rw [hleft2] at HS2
  have j2 : ¬ left2 < 0 := by omega
  obtain ⟨cc, hcc⟩ : ∃ cc, addCode bs room xs (k, ys, p, q) = cc := ⟨_, rfl⟩
  obtain ⟨tb, htb⟩ : ∃ tb, addBase bs room xs (k, ys, p, q) = tb := ⟨_, rfl⟩
  obtain ⟨zs, hzs⟩ : ∃ zs, addOut bs room xs (k, ys, p, q) = zs := ⟨_, rfl⟩
  have hn3 : n ≤ 1048576 ∧ m ≤ 1048576 := by omega
  have HSP := Lib.hid (fun g g' hi' hi2 w' (h' : Rt w' 0 hi' (some ⟨g, 0, none⟩) n xs) (hx' : Rd w' 0 hi2 (some ⟨g', 0, none⟩) m ys) => lp_at (specAdd_any bs room k p q (some ⟨g, 0, none⟩) (some ⟨g', 0, none⟩) n n m m hi' hi2 xs ys w' h' hx' (fun e => by cases e) hbs) hcc htb hzs)
  have HIP := Lib.hid (fun g g' hi' hi2 w' (h' : Rt w' 0 hi' (some ⟨g, 0, none⟩) n xs) (hx' : Rd w' 0 hi2 (some ⟨g', 0, none⟩) m ys) => lp_at (implAdd_any bs room k p q (some ⟨g, 0, none⟩) (some ⟨g', 0, none⟩) n n m m hi' hi2 xs ys w' h' hx' (fun e => by cases e) hbs) hcc htb hzs)
  obtain ⟨mk, hmk⟩ : ∃ mk : Int, 1 + ((3 * n + sumLen xs : Nat) : Int) = mk := ⟨_, rfl⟩
  have HMK := Lib.hid (fun A' c' lo' hi' w' (h' : Wt w' lo' hi' A' n xs) => hmk ▸ markLog_any bs A' n c' lo' hi' 1 xs w' h' (by omega) (by omega))
  obtain ⟨mi, hmi2⟩ : ∃ mi : Int, mk + (m : Int) = mi := ⟨_, rfl⟩
  have hmk0 : ¬ mi < 0 := by omega
  have HMI := Lib.hid (fun A' c' lo' hi' w' (h' : Wr w' lo' hi' A' m ys) => hmi2 ▸ markItem_any k p q A' m c' lo' hi' mk ys w' h' (by omega) (by omega))
  have HZL : Hid (zs.length ≤ xs.length + 1 ∧ sumLen zs ≤ sumLen xs + ys.length) := by rw [← hzs]; exact addOut_small bs room xs (k, ys, p, q)
  have hzl := HZL.out
  obtain ⟨mz, hmz⟩ : ∃ mz : Int, 1 + ((3 * zs.length + sumLen zs : Nat) : Int) = mz := ⟨_, rfl⟩
  have hmz0 : ¬ mz < 0 := by omega
  have HMR := Lib.hid (fun A' c' lo' hi' w' (h' : Wt w' lo' hi' A' zs.length zs) => hmz ▸ markLogResult_any cc tb A' zs.length c' lo' hi' 1 zs w' h' (by omega) (by omega))
  have HHR := Lib.hid (fun A' c' lo' hi' w' (h' : Rt w' lo' hi' A' zs.length (markT 1 zs)) => hmz ▸ heldLogResult_any cc tb A' zs.length c' lo' hi' 1 zs w' rfl h' (by omega) (by omega))
  clear hn1 hn2 hleft1 hleft2 hlx hmk hmz hcc hzs htb hzl HZL hmi2 hly K2
  go_enter Try.func7, Try.ntmps7
  have bb := Below.refl w.heap.size w
  go_wp2_with fail
  have ba : Box2 ((w.alloc (.cells #[.int .i64 bs, .slice A n c] 64)).alloc (.cells #[.int .i64 k, .slice D m d, .int .i64 p, .int .i64 q] 51)) w.heap.size (.int .i64 bs) (.slice A n c) := (Box2.new w _ _ _).keep ((Keep.refl 0 0 _).alloc _) (by omega)
  have bi : Box4 ((w.alloc (.cells #[.int .i64 bs, .slice A n c] 64)).alloc (.cells #[.int .i64 k, .slice D m d, .int .i64 p, .int .i64 q] 51)) (w.heap.size + 1) (.int .i64 k) (.slice D m d) (.int .i64 p) (.int .i64 q) := by simpa using Box4.new (w.alloc (.cells #[.int .i64 bs, .slice A n c] 64)) (.int .i64 k) (.slice D m d) (.int .i64 p) (.int .i64 q) 51
  have hk0 := ((Keep.refl 0 0 w).alloc (.cells #[.int .i64 bs, .slice A n c] 64)).alloc (.cells #[.int .i64 k, .slice D m d, .int .i64 p, .int .i64 q] 51)
  replace h := h.keep hk0 (by omega)
  replace hx := hx.keep hk0 (by omega)
  replace bb := bb.trans (hk0.below (by omega) bb.size)
  clear hk0
  have hz0 : w.heap.size + 2 ≤ ((w.alloc (.cells #[.int .i64 bs, .slice A n c] 64)).alloc (.cells #[.int .i64 k, .slice D m d, .int .i64 p, .int .i64 q] 51)).heap.size := by simp
  generalize (w.alloc (.cells #[.int .i64 bs, .slice A n c] 64)).alloc (.cells #[.int .i64 k, .slice D m d, .int .i64 p, .int .i64 q] 51) = w0 at *
  refine (HS1.out w0 h).mono ?_
  rintro e w1 ⟨rfl, hk1⟩
  have hz1 := hk1.size
  replace h := h.keep hk1 (by omega)
  replace hx := hx.keep hk1 (by omega)
  replace ba := ba.keep hk1 (by omega)
  replace bi := bi.keep hk1 (by omega)
  replace bb := bb.trans (hk1.below (by omega) bb.size)
  clear hk1
  have bac0 := ba.2.1
  have bac1 := ba.2.2
  have bic0 := bi.2.1
  have bic1 := bi.2.2.1
  have bic2 := bi.2.2.2.1
  have bic3 := bi.2.2.2.2
  go_wp2_with fail
  clear bac0 bac1
  clear bic0 bic1 bic2 bic3
  refine (HS2.out w1).mono ?_
  rintro e w2 ⟨rfl, hk2⟩
  have hz2 := hk2.size
  replace h := h.keep hk2 (by omega)
  replace hx := hx.keep hk2 (by omega)
  replace ba := ba.keep hk2 (by omega)
  replace bi := bi.keep hk2 (by omega)
  replace bb := bb.trans (hk2.below (by omega) bb.size)
  clear hk2
  go_upto_region 8 with fail
  go_cut [8] from 26 to 31 (fun sv wx => AddedP w2 cc tb zs sv wx)
  case first =>
    have kd : Keep 0 0 w2 w2.drew := ⟨rfl, rfl, rfl, Nat.le_refl _, fun _ _ _ => rfl⟩
    have ka0 := (Keep.refl 0 0 w2).alloc (.cells #[.int .i64 0, .int .i64 0, .slice none 0 0] 32)
    have ka : Keep 0 0 w2.drew (w2.alloc (.cells #[.int .i64 0, .int .i64 0, .slice none 0 0] 32)).drew := ⟨ka0.os, ka0.tape, ka0.output, ka0.size, ka0.block⟩
    have hD := h.keep kd (by omega)
    have hxD := hx.keep kd (by omega)
    have baD := ba.keep kd (by omega)
    have biD := bi.keep kd (by omega)
    have hDz := hD.keep ka (by omega)
    have baZ := ba.keep ka0 (by omega)
    have biZ := bi.keep ka0 (by omega)
    have bD : Below w2.heap.size w2 w2.drew := ⟨rfl, rfl, rfl, Nat.le_refl _, fun _ _ => rfl⟩
    have zD : w2.drew.heap.size = w2.heap.size := rfl
    have zZ : (w2.alloc (.cells #[.int .i64 0, .int .i64 0, .slice none 0 0] 32)).drew.heap.size = w2.heap.size + 1 := by simp
    have a0 := baD.2.1
    have a1 := baD.2.2
    have x0 := biD.2.1
    have x1 := biD.2.2.1
    have x2 := biD.2.2.2.1
    have x3 := biD.2.2.2.2
    have a0z := baZ.2.1
    have a1z := baZ.2.2
    have x0z := biZ.2.1
    have x1z := biZ.2.2.1
    have x2z := biZ.2.2.2.1
    have x3z := biZ.2.2.2.2
    go_region_law (first
      | (go_simp; go_at_call 43; refine (toLog_any bs A n c _ xs w2.drew hD (by omega) HX1.out).mono ?_; rintro e v1 ⟨gL, rfl, uL, hb1⟩; have k1 : Keep 0 0 w2.drew v1 := Keep.of_below hb1 0 0; have zv1 := hb1.size; have hB1 : MBox v1 w2.heap.size none := MBox.none_ v1 w2.heap.size; have rL := uL.rt.wide (Nat.zero_le _) (Nat.le_refl _) uL.top; have hxE := hxD.keep k1 (by omega); have bE : Below w2.heap.size w2 v1 := bD.trans (k1.below (by omega) (by omega)); have biE := biD.keep k1 (by omega); have k1z := (Keep.refl 0 0 v1).alloc (.cells #[.int .i64 0, .int .i64 0, .slice none 0 0] 32); have biEz := biE.keep k1z (by omega); have hxEz := hxE.keep k1z (by omega); have x0v := biE.2.1; have x1v := biE.2.2.1; have x2v := biE.2.2.2.1; have x3v := biE.2.2.2.2; have x0vz := biEz.2.1; have x1vz := biEz.2.2.1; have x2vz := biEz.2.2.2.1; have x3vz := biEz.2.2.2.2; have zv1z : (v1.alloc (.cells #[.int .i64 0, .int .i64 0, .slice none 0 0] 32)).heap.size = v1.heap.size + 1 := (by simp); have zw1 : w2.heap.size ≤ v1.heap.size := (by omega))
      | (go_simp; go_at_call 43; refine (toLog_any bs A n c _ xs (w2.alloc (.cells #[.int .i64 0, .int .i64 0, .slice none 0 0] 32)).drew hDz (by omega) HX1.out).mono ?_; rintro e v1 ⟨gL, rfl, uL, hb1⟩; have k1 : Keep 0 0 w2.drew v1 := ka.trans (Keep.of_below hb1 0 0); have zv1 := hb1.size; have hB1 : MBox v1 w2.heap.size (some w2.heap.size) := MBox.below (W := (w2.alloc (.cells #[.int .i64 0, .int .i64 0, .slice none 0 0] 32)).drew) (MBox.new (W := w2) (lo := w2.heap.size) (t := 32) (Nat.le_refl _)) hb1; have rL := uL.rt.wide (Nat.zero_le _) (Nat.le_refl _) uL.top; have hxE := hxD.keep k1 (by omega); have bE : Below w2.heap.size w2 v1 := bD.trans (k1.below (by omega) (by omega)); have biE := biD.keep k1 (by omega); have k1z := (Keep.refl 0 0 v1).alloc (.cells #[.int .i64 0, .int .i64 0, .slice none 0 0] 32); have biEz := biE.keep k1z (by omega); have hxEz := hxE.keep k1z (by omega); have x0v := biE.2.1; have x1v := biE.2.2.1; have x2v := biE.2.2.2.1; have x3v := biE.2.2.2.2; have x0vz := biEz.2.1; have x1vz := biEz.2.2.1; have x2vz := biEz.2.2.2.1; have x3vz := biEz.2.2.2.2; have zv1z : (v1.alloc (.cells #[.int .i64 0, .int .i64 0, .slice none 0 0] 32)).heap.size = v1.heap.size + 1 := (by simp); have zw1 : w2.heap.size ≤ v1.heap.size := (by omega))
      | (go_simp; go_at_call 33; refine (toItem_any k p q D m d _ _ ys v1 hxE (by omega)).mono ?_; rintro e v2 ⟨gI, rfl, uI, hb2⟩; have k2 : Keep 0 0 v1 v2 := Keep.of_below hb2 0 0; have zv2 := hb2.size; have hB2 := hB1.below hb2; have rM := (rL.keep k2 (by omega)).wide (Nat.zero_le _) (by omega) (Nat.le_refl _); have rI := uI.1.wide (Nat.zero_le _) (Nat.le_refl _) (Nat.le_refl _); have k2z := (Keep.refl 0 0 v2).alloc (.cells #[.int .i64 0, .int .i64 0, .slice none 0 0] 32); have rMz := rM.keep k2z (by omega); have rIz := rI.keep k2z (by omega); have bF : Below w2.heap.size w2 v2 := bE.trans (k2.below (by omega) zw1); have zw2 : w2.heap.size ≤ v2.heap.size := (by omega); have zv2z : (v2.alloc (.cells #[.int .i64 0, .int .i64 0, .slice none 0 0] 32)).heap.size = v2.heap.size + 1 := (by simp))
      | (go_simp; go_at_call 33; refine (toItem_any k p q D m d _ _ ys (v1.alloc (.cells #[.int .i64 0, .int .i64 0, .slice none 0 0] 32)) hxEz (by omega)).mono ?_; rintro e v2 ⟨gI, rfl, uI, hb2⟩; have k2 : Keep 0 0 v1 v2 := k1z.trans (Keep.of_below hb2 0 0); have zv2 := hb2.size; have hB2 := (MBox.new (W := v1) (lo := w2.heap.size) (t := 32) zw1).below hb2; have rM := (rL.keep k2 (by omega)).wide (Nat.zero_le _) (by omega) (Nat.le_refl _); have rI := uI.1.wide (Nat.zero_le _) (Nat.le_refl _) (Nat.le_refl _); have k2z := (Keep.refl 0 0 v2).alloc (.cells #[.int .i64 0, .int .i64 0, .slice none 0 0] 32); have rMz := rM.keep k2z (by omega); have rIz := rI.keep k2z (by omega); have bF : Below w2.heap.size w2 v2 := bE.trans (k2.below (by omega) zw1); have zw2 : w2.heap.size ≤ v2.heap.size := (by omega); have zv2z : (v2.alloc (.cells #[.int .i64 0, .int .i64 0, .slice none 0 0] 32)).heap.size = v2.heap.size + 1 := (by simp))
      | (go_simp; go_at_call 20; refine (HSP.out gL gI _ _ v2 rM rI).mono ?_; rintro e v3 ⟨GG, capG, rfl, zz, hb3⟩; have hb0 := (hB2 _ rfl).2.1.1; have hB3 := (hB2.below hb3) _ rfl; obtain ⟨hlB, hbB, rf⟩ := hB3; have r0 := hbB.2.1; have r1 := hbB.2.2.1; have r2 := hbB.2.2.2; have rz0 := rf 0; have rz1 := rf 1; have rz2 := rf 2; have HAD := Lib.hid (AddedP.there (cc := cc) (tb := tb) (cap := capG) bF zw2 zz hb3 hbB hlB hb0))
      | (go_simp; go_at_call 20; refine (HSP.out gL gI _ _ v2 rM rI).mono ?_; rintro e v3 ⟨GG, capG, rfl, zz, hb3⟩; have HAD := Lib.hid (AddedP.fresh (cc := cc) (tb := tb) (cap := capG) (t := 32) bF zw2 zz hb3))
      | (go_simp; go_at_call 20; refine (HSP.out gL gI _ _ (v2.alloc (.cells #[.int .i64 0, .int .i64 0, .slice none 0 0] 32)) rMz rIz).mono ?_; rintro e v3 ⟨GG, capG, rfl, zz, hb3⟩; have hB2n := MBox.new (W := v2) (lo := w2.heap.size) (t := 32) zw2; have hb0 := (hB2n _ rfl).2.1.1; have hB3 := (hB2n.below hb3) _ rfl; obtain ⟨hlB, hbB, rf⟩ := hB3; have r0 := hbB.2.1; have r1 := hbB.2.2.1; have r2 := hbB.2.2.2; have rz0 := rf 0; have rz1 := rf 1; have rz2 := rf 2; have HAD := Lib.hid (AddedP.there (cc := cc) (tb := tb) (cap := capG) (bF.trans (k2z.below (by omega) zw2)) (by omega) zz hb3 hbB hlB hb0)))
    all_goals
      go_wp2_with fail
      go_meet
      case rel => exact HAD.out
  case rest =>
  obtain ⟨B0, G0, cap0, L0, U0, rfl, bx0, z0, ⟨hB0, hL0, hU0, hD0⟩, hb3⟩ := hcut
  have hk3 := Keep.of_below hb3 0 0
  have hz3 := hb3.size
  have hy3 := bx0.1
  replace h := h.keep hk3 (by omega)
  replace hx := hx.keep hk3 (by omega)
  replace ba := ba.keep hk3 (by omega)
  replace bi := bi.keep hk3 (by omega)
  replace bb := bb.trans (hk3.below (by omega) bb.size)
  clear hb3 hk3
  generalize hwc3 : wc = w3 at *
  clear hwc3
  have bac0 := ba.2.1
  have bac1 := ba.2.2
  go_wp2_with fail
  clear bac0 bac1
  refine (toLog_any bs A n c _ xs w3 h (by omega) HX1.out).mono ?_
  rintro e w4 ⟨g2, rfl, u2, hb4⟩
  have hk4 := Keep.of_below hb4 0 0
  have hz4 := hb4.size
  replace h := h.keep hk4 (by omega)
  replace hx := hx.keep hk4 (by omega)
  replace ba := ba.keep hk4 (by omega)
  replace bi := bi.keep hk4 (by omega)
  replace bx0 := bx0.keep hk4 (by omega)
  replace z0 := z0.keep hk4 (by omega)
  replace bb := bb.trans (hk4.below (by omega) bb.size)
  clear hb4 hk4
  have bilt := bi.1
  have bic0 := bi.2.1
  have bic1 := bi.2.2.1
  have bic2 := bi.2.2.2.1
  have bic3 := bi.2.2.2.2
  go_wp2_with fail
  clear bilt bic0 bic1 bic2 bic3
  have hk5 := (Keep.refl 0 0 w4).alloc (.cells #[.int .i64 bs, .slice (some ⟨g2, 0, none⟩) n n] 26)
  have bx := Box2.new w4 (.int .i64 bs) (.slice (some ⟨g2, 0, none⟩) n n) 26
  have hz5 : w4.heap.size + 1 ≤ (w4.alloc (.cells #[.int .i64 bs, .slice (some ⟨g2, 0, none⟩) n n] 26)).heap.size := by simp
  replace h := h.keep hk5 (by omega)
  replace hx := hx.keep hk5 (by omega)
  replace ba := ba.keep hk5 (by omega)
  replace bi := bi.keep hk5 (by omega)
  replace bx0 := bx0.keep hk5 (by omega)
  replace z0 := z0.keep hk5 (by omega)
  replace u2 := u2.keep hk5 (by omega)
  replace bb := bb.trans (hk5.below (by omega) bb.size)
  clear hk5
  generalize w4.alloc (.cells #[.int .i64 bs, .slice (some ⟨g2, 0, none⟩) n n] 26) = w5 at *
  refine (toItem_any k p q D m d _ _ ys w5 hx (by omega)).mono ?_
  rintro e w6 ⟨g3, rfl, u3, hb6⟩
  have hk6 := Keep.of_below hb6 0 0
  have hz6 := hb6.size
  replace h := h.keep hk6 (by omega)
  replace hx := hx.keep hk6 (by omega)
  replace ba := ba.keep hk6 (by omega)
  replace bi := bi.keep hk6 (by omega)
  replace bx0 := bx0.keep hk6 (by omega)
  replace z0 := z0.keep hk6 (by omega)
  replace u2 := u2.keep hk6 (by omega)
  replace bx := bx.keep hk6 (by omega)
  replace bb := bb.trans (hk6.below (by omega) bb.size)
  clear hb6 hk6
  have bxlt := bx.1
  have bxc0 := bx.2.1
  have bxc1 := bx.2.2
  go_wp2_with fail
  clear bxlt bxc0 bxc1
  have hk7 := (Keep.refl 0 0 w6).alloc (.cells #[.int .i64 k, .slice (some ⟨g3, 0, none⟩) m m, .int .i64 p, .int .i64 q] 28)
  have by_ := Box4.new w6 (.int .i64 k) (.slice (some ⟨g3, 0, none⟩) m m) (.int .i64 p) (.int .i64 q) 28
  have hz7 : w6.heap.size + 1 ≤ (w6.alloc (.cells #[.int .i64 k, .slice (some ⟨g3, 0, none⟩) m m, .int .i64 p, .int .i64 q] 28)).heap.size := by simp
  replace h := h.keep hk7 (by omega)
  replace hx := hx.keep hk7 (by omega)
  replace ba := ba.keep hk7 (by omega)
  replace bi := bi.keep hk7 (by omega)
  replace bx0 := bx0.keep hk7 (by omega)
  replace z0 := z0.keep hk7 (by omega)
  replace u2 := u2.keep hk7 (by omega)
  replace bx := bx.keep hk7 (by omega)
  replace u3 := u3.keep hk7 (by omega)
  replace bb := bb.trans (hk7.below (by omega) bb.size)
  clear hk7
  generalize w6.alloc (.cells #[.int .i64 k, .slice (some ⟨g3, 0, none⟩) m m, .int .i64 p, .int .i64 q] 28) = w7 at *
  refine (HIP.out g2 g3 _ _ w7 (u2.rt.wide (Nat.zero_le _) (Nat.le_refl _) u2.top) (u3.1.wide (Nat.zero_le _) (Nat.le_refl _) u3.1.top)).mono ?_
  rintro e w8 ⟨G1, cap1, rfl, z1, hb8⟩
  have hk8 := Keep.of_below hb8 0 0
  have hz8 := hb8.size
  replace h := h.keep hk8 (by omega)
  replace hx := hx.keep hk8 (by omega)
  replace ba := ba.keep hk8 (by omega)
  replace bi := bi.keep hk8 (by omega)
  replace bx0 := bx0.keep hk8 (by omega)
  replace z0 := z0.keep hk8 (by omega)
  replace u2 := u2.keep hk8 (by omega)
  replace bx := bx.keep hk8 (by omega)
  replace u3 := u3.keep hk8 (by omega)
  replace by_ := by_.keep hk8 (by omega)
  replace bb := bb.trans (hk8.below (by omega) bb.size)
  clear hb8 hk8
  have bx0lt := bx0.1
  have bx0c0 := bx0.2.1
  have bx0c1 := bx0.2.2.1
  have bx0c2 := bx0.2.2.2
  go_wp2_with fail
  clear bx0lt bx0c0 bx0c1 bx0c2
  have hk9 := (Keep.refl 0 0 w8).alloc (.cells #[.int .i64 cc, .int .i64 tb, .slice G1 zs.length cap1] 32)
  have bx1 := Box3.new w8 (.int .i64 cc) (.int .i64 tb) (.slice G1 zs.length cap1) 32
  have hz9 : w8.heap.size + 1 ≤ (w8.alloc (.cells #[.int .i64 cc, .int .i64 tb, .slice G1 zs.length cap1] 32)).heap.size := by simp
  replace h := h.keep hk9 (by omega)
  replace hx := hx.keep hk9 (by omega)
  replace ba := ba.keep hk9 (by omega)
  replace bi := bi.keep hk9 (by omega)
  replace bx0 := bx0.keep hk9 (by omega)
  replace z0 := z0.keep hk9 (by omega)
  replace u2 := u2.keep hk9 (by omega)
  replace bx := bx.keep hk9 (by omega)
  replace u3 := u3.keep hk9 (by omega)
  replace by_ := by_.keep hk9 (by omega)
  replace z1 := z1.keep hk9 (by omega)
  replace bb := bb.trans (hk9.below (by omega) bb.size)
  clear hk9
  generalize w8.alloc (.cells #[.int .i64 cc, .int .i64 tb, .slice G1 zs.length cap1] 32) = w9 at *
  refine (eqLogResult_true cc tb _ _ zs.length _ _ _ _ _ _ zs w9 z1.rt z0.rt).mono ?_
  rintro e w10 ⟨rfl, hk10⟩
  have hz10 := hk10.size
  replace h := h.keep hk10 (by omega)
  replace hx := hx.keep hk10 (by omega)
  replace ba := ba.keep hk10 (by omega)
  replace bi := bi.keep hk10 (by omega)
  replace bx0 := bx0.keep hk10 (by omega)
  replace z0 := z0.keep hk10 (by omega)
  replace u2 := u2.keep hk10 (by omega)
  replace bx := bx.keep hk10 (by omega)
  replace u3 := u3.keep hk10 (by omega)
  replace by_ := by_.keep hk10 (by omega)
  replace z1 := z1.keep hk10 (by omega)
  replace bx1 := bx1.keep hk10 (by omega)
  replace bb := bb.trans (hk10.below (by omega) bb.size)
  clear hk10
  go_upto_region 14 with fail
  go_cut [48] from 44 to 48 (fun sv wx => sv = .bool false ∧ Below w10.heap.size w10 wx)
  case first =>
    have kd : Keep 0 0 w10 w10.drew := ⟨rfl, rfl, rfl, Nat.le_refl _, fun _ _ _ => rfl⟩
    have hD := h.keep kd (by omega)
    have uD := u2.keep kd (by omega)
    have baD := ba.keep kd (by omega)
    have ba_0 := baD.2.1
    have ba_1 := baD.2.2
    have bxD := bx.keep kd (by omega)
    have bx_0 := bxD.2.1
    have bx_1 := bxD.2.2
    have bD : Below w10.heap.size w10 w10.drew := ⟨rfl, rfl, rfl, Nat.le_refl _, fun _ _ => rfl⟩
    have zD : w10.heap.size ≤ w10.drew.heap.size := Nat.le_refl _
    go_region_with (first
      | (go_at_call 43; refine (toLog_any bs A n c _ xs _ hD (by omega) HX1.out).mono ?_; rintro e v1 ⟨g3, rfl, u3, hb⟩; have kx := Keep.of_below hb 0 0; have bxv := bxD.keep kx (by omega); have bxv_0 := bxv.2.1; have bxv_1 := bxv.2.2; have u2v := uD.keep kx (by omega); have bbv := bD.trans (hb.mono bD.size))
      | (go_at_call 44; refine (eqLog_true bs _ _ n n n _ _ _ _ xs _ u2v.rt u3.rt).mono ?_; rintro e v2 ⟨rfl, k2⟩; have bbz := bbv.trans (k2.below (B := w10.heap.size) (by omega) bbv.size)))
    all_goals
      go_wp2_with fail
      go_meet
      case rel => exact ⟨rfl, bbz⟩
  case rest =>
  obtain ⟨rfl, hb11⟩ := hcut
  have hk11 := Keep.of_below hb11 0 0
  have hz11 := hb11.size
  replace h := h.keep hk11 (by omega)
  replace hx := hx.keep hk11 (by omega)
  replace ba := ba.keep hk11 (by omega)
  replace bi := bi.keep hk11 (by omega)
  replace bx0 := bx0.keep hk11 (by omega)
  replace z0 := z0.keep hk11 (by omega)
  replace u2 := u2.keep hk11 (by omega)
  replace bx := bx.keep hk11 (by omega)
  replace u3 := u3.keep hk11 (by omega)
  replace by_ := by_.keep hk11 (by omega)
  replace z1 := z1.keep hk11 (by omega)
  replace bx1 := bx1.keep hk11 (by omega)
  replace bb := bb.trans (hk11.below (by omega) bb.size)
  clear hb11 hk11
  generalize hwc11 : wc = w11 at *
  clear hwc11
  go_upto_region 16 with fail
  go_cut [53] from 49 to 53 (fun sv wx => sv = .bool false ∧ Below w11.heap.size w11 wx)
  case first =>
    have kd : Keep 0 0 w11 w11.drew := ⟨rfl, rfl, rfl, Nat.le_refl _, fun _ _ _ => rfl⟩
    have hD := hx.keep kd (by omega)
    have uD := u3.keep kd (by omega)
    have biD := bi.keep kd (by omega)
    have bi_0 := biD.2.1
    have bi_1 := biD.2.2.1
    have bi_2 := biD.2.2.2.1
    have bi_3 := biD.2.2.2.2
    have by_D := by_.keep kd (by omega)
    have by__0 := by_D.2.1
    have by__1 := by_D.2.2.1
    have by__2 := by_D.2.2.2.1
    have by__3 := by_D.2.2.2.2
    have bD : Below w11.heap.size w11 w11.drew := ⟨rfl, rfl, rfl, Nat.le_refl _, fun _ _ => rfl⟩
    have zD : w11.heap.size ≤ w11.drew.heap.size := Nat.le_refl _
    go_region_with (first
      | (go_at_call 33; refine (toItem_any k p q D m d _ _ ys _ hD (by omega)).mono ?_; rintro e v1 ⟨g3, rfl, u3, hb⟩; have kx := Keep.of_below hb 0 0; have by_v := by_D.keep kx (by omega); have by_v_0 := by_v.2.1; have by_v_1 := by_v.2.2.1; have by_v_2 := by_v.2.2.2.1; have by_v_3 := by_v.2.2.2.2; have u2v := uD.keep kx (by omega); have bbv := bD.trans (hb.mono bD.size))
      | (go_at_call 34; refine (eqItem_true k p q _ _ m m m _ _ _ _ ys _ u2v.1 u3.1).mono ?_; rintro e v2 ⟨rfl, k2⟩; have bbz := bbv.trans (k2.below (B := w11.heap.size) (by omega) bbv.size)))
    all_goals
      go_wp2_with fail
      go_meet
      case rel => exact ⟨rfl, bbz⟩
  case rest =>
  obtain ⟨rfl, hb12⟩ := hcut
  have hk12 := Keep.of_below hb12 0 0
  have hz12 := hb12.size
  replace h := h.keep hk12 (by omega)
  replace hx := hx.keep hk12 (by omega)
  replace ba := ba.keep hk12 (by omega)
  replace bi := bi.keep hk12 (by omega)
  replace bx0 := bx0.keep hk12 (by omega)
  replace z0 := z0.keep hk12 (by omega)
  replace u2 := u2.keep hk12 (by omega)
  replace bx := bx.keep hk12 (by omega)
  replace u3 := u3.keep hk12 (by omega)
  replace by_ := by_.keep hk12 (by omega)
  replace z1 := z1.keep hk12 (by omega)
  replace bx1 := bx1.keep hk12 (by omega)
  replace bb := bb.trans (hk12.below (by omega) bb.size)
  clear hb12 hk12
  generalize hwc12 : wc = w12 at *
  clear hwc12
  have bxc0 := bx.2.1
  have bxc1 := bx.2.2
  go_wp2_with fail
  clear bxc0 bxc1
  refine (HMK.out _ n _ _ w12 u2).mono ?_
  rintro e w13 ⟨rfl, y2, hk13⟩
  have hz13 := hk13.size
  replace h := h.keep hk13 (by omega)
  replace hx := hx.keep hk13 (by omega)
  replace ba := ba.keep hk13 (by omega)
  replace bi := bi.keep hk13 (by omega)
  replace bx0 := bx0.keep hk13 (by omega)
  replace z0 := z0.keep hk13 (by omega)
  replace bx := bx.keep hk13 (by omega)
  replace u3 := u3.keep hk13 (by omega)
  replace by_ := by_.keep hk13 (by omega)
  replace z1 := z1.keep hk13 (by omega)
  replace bx1 := bx1.keep hk13 (by omega)
  replace bb := bb.trans (hk13.below (by omega) bb.size)
  clear hk13
  clear u2
  clear y2
  have by_c0 := by_.2.1
  have by_c1 := by_.2.2.1
  have by_c2 := by_.2.2.2.1
  have by_c3 := by_.2.2.2.2
  go_wp2_with fail
  clear by_c0 by_c1 by_c2 by_c3
  refine (HMI.out _ m _ _ w13 u3).mono ?_
  rintro e w14 ⟨rfl, y3, hk14⟩
  have hz14 := hk14.size
  replace h := h.keep hk14 (by omega)
  replace hx := hx.keep hk14 (by omega)
  replace ba := ba.keep hk14 (by omega)
  replace bi := bi.keep hk14 (by omega)
  replace bx0 := bx0.keep hk14 (by omega)
  replace z0 := z0.keep hk14 (by omega)
  replace bx := bx.keep hk14 (by omega)
  replace by_ := by_.keep hk14 (by omega)
  replace z1 := z1.keep hk14 (by omega)
  replace bx1 := bx1.keep hk14 (by omega)
  replace bb := bb.trans (hk14.below (by omega) bb.size)
  clear hk14
  clear u3
  clear y3
  have bx0c0 := bx0.2.1
  have bx0c1 := bx0.2.2.1
  have bx0c2 := bx0.2.2.2
  have bx1c0 := bx1.2.1
  have bx1c1 := bx1.2.2.1
  have bx1c2 := bx1.2.2.2
  go_wp2_with fail
  clear bx0c0 bx0c1 bx0c2
  clear bx1c0 bx1c1 bx1c2
  refine (eqLogResult_true cc tb _ _ zs.length _ _ _ _ _ _ zs w14 z1.rt z0.rt).mono ?_
  rintro e w15 ⟨rfl, hk15⟩
  have hz15 := hk15.size
  replace h := h.keep hk15 (by omega)
  replace hx := hx.keep hk15 (by omega)
  replace ba := ba.keep hk15 (by omega)
  replace bi := bi.keep hk15 (by omega)
  replace bx0 := bx0.keep hk15 (by omega)
  replace z0 := z0.keep hk15 (by omega)
  replace bx := bx.keep hk15 (by omega)
  replace by_ := by_.keep hk15 (by omega)
  replace z1 := z1.keep hk15 (by omega)
  replace bx1 := bx1.keep hk15 (by omega)
  replace bb := bb.trans (hk15.below (by omega) bb.size)
  clear hk15
  have bx1c0 := bx1.2.1
  have bx1c1 := bx1.2.2.1
  have bx1c2 := bx1.2.2.2
  go_wp2_with fail
  clear bx1c0 bx1c1 bx1c2
  refine (HMR.out G1 cap1 _ _ w15 z1).mono ?_
  rintro e w16 ⟨rfl, z1', hk16⟩
  have hz16 := hk16.size
  replace h := h.keep hk16 (by omega)
  replace hx := hx.keep hk16 (by omega)
  replace ba := ba.keep hk16 (by omega)
  replace bi := bi.keep hk16 (by omega)
  replace bx0 := bx0.keep hk16 (by omega)
  replace z0 := z0.keep hk16 (by omega)
  replace bx := bx.keep hk16 (by omega)
  replace by_ := by_.keep hk16 (by omega)
  replace bx1 := bx1.keep hk16 (by omega)
  replace bb := bb.trans (hk16.below (by omega) bb.size)
  clear hk16
  clear z1
  have bx1c0 := bx1.2.1
  have bx1c1 := bx1.2.2.1
  have bx1c2 := bx1.2.2.2
  go_wp2_with fail
  clear bx1c0 bx1c1 bx1c2
  refine (HHR.out G1 cap1 _ _ w16 z1'.rt).mono ?_
  rintro e w17 ⟨rfl, hk17⟩
  have hz17 := hk17.size
  replace h := h.keep hk17 (by omega)
  replace hx := hx.keep hk17 (by omega)
  replace ba := ba.keep hk17 (by omega)
  replace bi := bi.keep hk17 (by omega)
  replace bx0 := bx0.keep hk17 (by omega)
  replace z0 := z0.keep hk17 (by omega)
  replace bx := bx.keep hk17 (by omega)
  replace by_ := by_.keep hk17 (by omega)
  replace bx1 := bx1.keep hk17 (by omega)
  replace z1' := z1'.keep hk17 (by omega)
  replace bb := bb.trans (hk17.below (by omega) bb.size)
  clear hk17
  go_upto_region 31 with fail
  go_cut [15] from 79 to 84 (fun sv wx => AddedP w17 cc tb zs sv wx)
  case first =>
    have kd : Keep 0 0 w17 w17.drew := ⟨rfl, rfl, rfl, Nat.le_refl _, fun _ _ _ => rfl⟩
    have ka0 := (Keep.refl 0 0 w17).alloc (.cells #[.int .i64 0, .int .i64 0, .slice none 0 0] 32)
    have ka : Keep 0 0 w17.drew (w17.alloc (.cells #[.int .i64 0, .int .i64 0, .slice none 0 0] 32)).drew := ⟨ka0.os, ka0.tape, ka0.output, ka0.size, ka0.block⟩
    have hD := h.keep kd (by omega)
    have hxD := hx.keep kd (by omega)
    have baD := ba.keep kd (by omega)
    have biD := bi.keep kd (by omega)
    have hDz := hD.keep ka (by omega)
    have baZ := ba.keep ka0 (by omega)
    have biZ := bi.keep ka0 (by omega)
    have bD : Below w17.heap.size w17 w17.drew := ⟨rfl, rfl, rfl, Nat.le_refl _, fun _ _ => rfl⟩
    have zD : w17.drew.heap.size = w17.heap.size := rfl
    have zZ : (w17.alloc (.cells #[.int .i64 0, .int .i64 0, .slice none 0 0] 32)).drew.heap.size = w17.heap.size + 1 := by simp
    have a0 := baD.2.1
    have a1 := baD.2.2
    have x0 := biD.2.1
    have x1 := biD.2.2.1
    have x2 := biD.2.2.2.1
    have x3 := biD.2.2.2.2
    have a0z := baZ.2.1
    have a1z := baZ.2.2
    have x0z := biZ.2.1
    have x1z := biZ.2.2.1
    have x2z := biZ.2.2.2.1
    have x3z := biZ.2.2.2.2
    go_region_law (first
      | (go_simp; go_at_call 43; refine (toLog_any bs A n c _ xs w17.drew hD (by omega) HX1.out).mono ?_; rintro e v1 ⟨gL, rfl, uL, hb1⟩; have k1 : Keep 0 0 w17.drew v1 := Keep.of_below hb1 0 0; have zv1 := hb1.size; have hB1 : MBox v1 w17.heap.size none := MBox.none_ v1 w17.heap.size; have rL := uL.rt.wide (Nat.zero_le _) (Nat.le_refl _) uL.top; have hxE := hxD.keep k1 (by omega); have bE : Below w17.heap.size w17 v1 := bD.trans (k1.below (by omega) (by omega)); have biE := biD.keep k1 (by omega); have k1z := (Keep.refl 0 0 v1).alloc (.cells #[.int .i64 0, .int .i64 0, .slice none 0 0] 32); have biEz := biE.keep k1z (by omega); have hxEz := hxE.keep k1z (by omega); have x0v := biE.2.1; have x1v := biE.2.2.1; have x2v := biE.2.2.2.1; have x3v := biE.2.2.2.2; have x0vz := biEz.2.1; have x1vz := biEz.2.2.1; have x2vz := biEz.2.2.2.1; have x3vz := biEz.2.2.2.2; have zv1z : (v1.alloc (.cells #[.int .i64 0, .int .i64 0, .slice none 0 0] 32)).heap.size = v1.heap.size + 1 := (by simp); have zw1 : w17.heap.size ≤ v1.heap.size := (by omega))
      | (go_simp; go_at_call 43; refine (toLog_any bs A n c _ xs (w17.alloc (.cells #[.int .i64 0, .int .i64 0, .slice none 0 0] 32)).drew hDz (by omega) HX1.out).mono ?_; rintro e v1 ⟨gL, rfl, uL, hb1⟩; have k1 : Keep 0 0 w17.drew v1 := ka.trans (Keep.of_below hb1 0 0); have zv1 := hb1.size; have hB1 : MBox v1 w17.heap.size (some w17.heap.size) := MBox.below (W := (w17.alloc (.cells #[.int .i64 0, .int .i64 0, .slice none 0 0] 32)).drew) (MBox.new (W := w17) (lo := w17.heap.size) (t := 32) (Nat.le_refl _)) hb1; have rL := uL.rt.wide (Nat.zero_le _) (Nat.le_refl _) uL.top; have hxE := hxD.keep k1 (by omega); have bE : Below w17.heap.size w17 v1 := bD.trans (k1.below (by omega) (by omega)); have biE := biD.keep k1 (by omega); have k1z := (Keep.refl 0 0 v1).alloc (.cells #[.int .i64 0, .int .i64 0, .slice none 0 0] 32); have biEz := biE.keep k1z (by omega); have hxEz := hxE.keep k1z (by omega); have x0v := biE.2.1; have x1v := biE.2.2.1; have x2v := biE.2.2.2.1; have x3v := biE.2.2.2.2; have x0vz := biEz.2.1; have x1vz := biEz.2.2.1; have x2vz := biEz.2.2.2.1; have x3vz := biEz.2.2.2.2; have zv1z : (v1.alloc (.cells #[.int .i64 0, .int .i64 0, .slice none 0 0] 32)).heap.size = v1.heap.size + 1 := (by simp); have zw1 : w17.heap.size ≤ v1.heap.size := (by omega))
      | (go_simp; go_at_call 33; refine (toItem_any k p q D m d _ _ ys v1 hxE (by omega)).mono ?_; rintro e v2 ⟨gI, rfl, uI, hb2⟩; have k2 : Keep 0 0 v1 v2 := Keep.of_below hb2 0 0; have zv2 := hb2.size; have hB2 := hB1.below hb2; have rM := (rL.keep k2 (by omega)).wide (Nat.zero_le _) (by omega) (Nat.le_refl _); have rI := uI.1.wide (Nat.zero_le _) (Nat.le_refl _) (Nat.le_refl _); have k2z := (Keep.refl 0 0 v2).alloc (.cells #[.int .i64 0, .int .i64 0, .slice none 0 0] 32); have rMz := rM.keep k2z (by omega); have rIz := rI.keep k2z (by omega); have bF : Below w17.heap.size w17 v2 := bE.trans (k2.below (by omega) zw1); have zw2 : w17.heap.size ≤ v2.heap.size := (by omega); have zv2z : (v2.alloc (.cells #[.int .i64 0, .int .i64 0, .slice none 0 0] 32)).heap.size = v2.heap.size + 1 := (by simp))
      | (go_simp; go_at_call 33; refine (toItem_any k p q D m d _ _ ys (v1.alloc (.cells #[.int .i64 0, .int .i64 0, .slice none 0 0] 32)) hxEz (by omega)).mono ?_; rintro e v2 ⟨gI, rfl, uI, hb2⟩; have k2 : Keep 0 0 v1 v2 := k1z.trans (Keep.of_below hb2 0 0); have zv2 := hb2.size; have hB2 := (MBox.new (W := v1) (lo := w17.heap.size) (t := 32) zw1).below hb2; have rM := (rL.keep k2 (by omega)).wide (Nat.zero_le _) (by omega) (Nat.le_refl _); have rI := uI.1.wide (Nat.zero_le _) (Nat.le_refl _) (Nat.le_refl _); have k2z := (Keep.refl 0 0 v2).alloc (.cells #[.int .i64 0, .int .i64 0, .slice none 0 0] 32); have rMz := rM.keep k2z (by omega); have rIz := rI.keep k2z (by omega); have bF : Below w17.heap.size w17 v2 := bE.trans (k2.below (by omega) zw1); have zw2 : w17.heap.size ≤ v2.heap.size := (by omega); have zv2z : (v2.alloc (.cells #[.int .i64 0, .int .i64 0, .slice none 0 0] 32)).heap.size = v2.heap.size + 1 := (by simp))
      | (go_simp; go_at_call 13; refine (HIP.out gL gI _ _ v2 rM rI).mono ?_; rintro e v3 ⟨GG, capG, rfl, zz, hb3⟩; have hb0 := (hB2 _ rfl).2.1.1; have hB3 := (hB2.below hb3) _ rfl; obtain ⟨hlB, hbB, rf⟩ := hB3; have r0 := hbB.2.1; have r1 := hbB.2.2.1; have r2 := hbB.2.2.2; have rz0 := rf 0; have rz1 := rf 1; have rz2 := rf 2; have HAD := Lib.hid (AddedP.there (cc := cc) (tb := tb) (cap := capG) bF zw2 zz hb3 hbB hlB hb0))
      | (go_simp; go_at_call 13; refine (HIP.out gL gI _ _ v2 rM rI).mono ?_; rintro e v3 ⟨GG, capG, rfl, zz, hb3⟩; have HAD := Lib.hid (AddedP.fresh (cc := cc) (tb := tb) (cap := capG) (t := 32) bF zw2 zz hb3))
      | (go_simp; go_at_call 13; refine (HIP.out gL gI _ _ (v2.alloc (.cells #[.int .i64 0, .int .i64 0, .slice none 0 0] 32)) rMz rIz).mono ?_; rintro e v3 ⟨GG, capG, rfl, zz, hb3⟩; have hB2n := MBox.new (W := v2) (lo := w17.heap.size) (t := 32) zw2; have hb0 := (hB2n _ rfl).2.1.1; have hB3 := (hB2n.below hb3) _ rfl; obtain ⟨hlB, hbB, rf⟩ := hB3; have r0 := hbB.2.1; have r1 := hbB.2.2.1; have r2 := hbB.2.2.2; have rz0 := rf 0; have rz1 := rf 1; have rz2 := rf 2; have HAD := Lib.hid (AddedP.there (cc := cc) (tb := tb) (cap := capG) (bF.trans (k2z.below (by omega) zw2)) (by omega) zz hb3 hbB hlB hb0)))
    all_goals
      go_wp2_with fail
      go_meet
      case rel => exact HAD.out
  case rest =>
  obtain ⟨B2, G2, cap2, L2, U2, rfl, bx2, z2, ⟨hB2, hL2, hU2, hD2⟩, hb18⟩ := hcut
  have hk18 := Keep.of_below hb18 0 0
  have hz18 := hb18.size
  have hy18 := bx2.1
  replace h := h.keep hk18 (by omega)
  replace hx := hx.keep hk18 (by omega)
  replace ba := ba.keep hk18 (by omega)
  replace bi := bi.keep hk18 (by omega)
  replace bx0 := bx0.keep hk18 (by omega)
  replace z0 := z0.keep hk18 (by omega)
  replace bx := bx.keep hk18 (by omega)
  replace by_ := by_.keep hk18 (by omega)
  replace bx1 := bx1.keep hk18 (by omega)
  replace z1' := z1'.keep hk18 (by omega)
  replace bb := bb.trans (hk18.below (by omega) bb.size)
  clear hb18 hk18
  generalize hwc18 : wc = w18 at *
  clear hwc18
  have bx2c0 := bx2.2.1
  have bx2c1 := bx2.2.2.1
  have bx2c2 := bx2.2.2.2
  have bx0c0 := bx0.2.1
  have bx0c1 := bx0.2.2.1
  have bx0c2 := bx0.2.2.2
  go_wp2_with fail
  clear bx2c0 bx2c1 bx2c2
  clear bx0c0 bx0c1 bx0c2
  refine (eqLogResult_true cc tb _ _ zs.length _ _ _ _ _ _ zs w18 z2.rt z0.rt).mono ?_
  rintro e w19 ⟨rfl, hk19⟩
  have hz19 := hk19.size
  replace h := h.keep hk19 (by omega)
  replace hx := hx.keep hk19 (by omega)
  replace ba := ba.keep hk19 (by omega)
  replace bi := bi.keep hk19 (by omega)
  replace bx0 := bx0.keep hk19 (by omega)
  replace z0 := z0.keep hk19 (by omega)
  replace bx := bx.keep hk19 (by omega)
  replace by_ := by_.keep hk19 (by omega)
  replace bx1 := bx1.keep hk19 (by omega)
  replace z1' := z1'.keep hk19 (by omega)
  replace bx2 := bx2.keep hk19 (by omega)
  replace z2 := z2.keep hk19 (by omega)
  replace bb := bb.trans (hk19.below (by omega) bb.size)
  clear hk19
  have bx1c0 := bx1.2.1
  have bx1c1 := bx1.2.2.1
  have bx1c2 := bx1.2.2.2
  go_wp2_with fail
  clear bx1c0 bx1c1 bx1c2
  refine (HHR.out G1 cap1 _ _ w19 z1'.rt).mono ?_
  rintro e w20 ⟨rfl, hk20⟩
  have hz20 := hk20.size
  replace h := h.keep hk20 (by omega)
  replace hx := hx.keep hk20 (by omega)
  replace ba := ba.keep hk20 (by omega)
  replace bi := bi.keep hk20 (by omega)
  replace bx0 := bx0.keep hk20 (by omega)
  replace z0 := z0.keep hk20 (by omega)
  replace bx := bx.keep hk20 (by omega)
  replace by_ := by_.keep hk20 (by omega)
  replace bx1 := bx1.keep hk20 (by omega)
  replace z1' := z1'.keep hk20 (by omega)
  replace bx2 := bx2.keep hk20 (by omega)
  replace z2 := z2.keep hk20 (by omega)
  replace bb := bb.trans (hk20.below (by omega) bb.size)
  clear hk20
  go_wp2_with fail
  go_ret
  exact ⟨rfl, bb⟩

end Go.Proofs.Ytjibfncdkcmhcaa
