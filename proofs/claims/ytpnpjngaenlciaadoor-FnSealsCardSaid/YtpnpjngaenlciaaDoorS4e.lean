/-
  impl.openBytes.
-/
import Derived.Test.YtpnpjngaenlciaaDoorS4d
import Derived.Test.YtpnpjngaenlciaaDoorIs
import Derived.Test.YtpnpjngaenlciaaDoorSame
import Derived.StillTailTactics
namespace Go.Proofs.YtpnpjngaenlciaaDoor
open Go.RowKit
set_option linter.unusedVariables false
set_option maxRecDepth 100000

/-- The sentinel lies in its variable. -/
def Ke (a : Addr) (w : World) : Prop := 0 < w.heap.size ∧ w.cell? ⟨0, 0, none⟩ = some (.iface 122 (.pointer (some a)))
/-- The table of the round words and the sentinel. -/
def KtE (a : Addr) (w : World) : Prop := Kt w ∧ Ke a w
theorem KtE.keep {a : Addr} {w w' : World} {lo hi : Nat} (h : KtE a w) (k : Keep lo hi w w') (ho : (1 < lo ∨ hi ≤ 1) ∧ (0 < lo ∨ hi ≤ 0)) : KtE a w' :=
  ⟨h.1.keep k ho.1, Nat.lt_of_lt_of_le h.2.1 k.size, (k.cell (p := ⟨_, 0, none⟩) h.2.1 ho.2).trans h.2.2⟩

set_option maxHeartbeats 2000000 in
theorem openBytes_yes (a : Addr) (A : Option Addr) (b off nk ck n c k hk hi : Nat) (ks ps : List Int) (w : World) (hkey : Rd w 0 hk A nk ks) (h : Rd w 0 hi (some ⟨b, off, none⟩) n ps) (hnk : nk ≤ 64) (hn : n = k + 8) (h5 : 5 ≤ k) (hk125 : k ≤ 125) (hnc : n ≤ c) (hkt : KtE a w)
    (ht : tagL ks (part ps 0 k) = part ps k 8) :
    Calls Tryd.prog 45 #[.slice A nk ck, .slice (some ⟨b, off, none⟩) n c] w fun e w' =>
      ∃ g cp, e = .returned (.tuple #[.slice (some ⟨g, 0, none⟩) (k - 5) cp, .nilIface]) ∧ k - 5 ≤ cp ∧ Wr w' w.heap.size w'.heap.size (some ⟨g, 0, none⟩) (k - 5) (hideL ks (part ps 0 5) (part ps 5 (k - 5))) ∧ Below w.heap.size w w' := by
  have hint := h.int
  have hpart := fun (w' : World) (hr : Rd w' 0 hi (some ⟨b, off, none⟩) n ps) => hr.part_ k 8 (by omega)
  have hbody := fun (w' : World) (hr : Rd w' 0 hi (some ⟨b, off, none⟩) n ps) => hr.part_ 0 k (by omega)
  have hhd := fun (w' : World) (hr : Rd w' 0 hi (some ⟨b, off, none⟩) n ps) => hr.part_ 0 5 (by omega)
  have hbd := fun (w' : World) (hr : Rd w' 0 hi (some ⟨b, off, none⟩) n ps) => hr.part_ 5 (k - 5) (by omega)
  rw [Nat.add_zero] at hbody hhd
  have hil : (hideL ks (part ps 0 5) (part ps 5 (k - 5))).length = k - 5 := (hideL_len _ _ _).trans (hbd _ h).len
  have htag := fun (w' : World) (q1 : Rd w' 0 hk A nk ks) (q2 : Rd w' 0 hi (some ⟨b, off, none⟩) n ps) (q3 : Kt w') => tagBytes_any A (some ⟨b, off, none⟩) nk ck k c hk hi ks (part ps 0 k) w' q1 (hbody w' q2) hnk (by omega) (fun h => by cases h) q3
  have hhide := fun (w' : World) (q1 : Rd w' 0 hk A nk ks) (q2 : Rd w' 0 hi (some ⟨b, off, none⟩) n ps) (q3 : Kt w') => hideBytes_any A (some ⟨b, off, none⟩) (some ⟨b, off + 5, none⟩) nk ck 5 c (k - 5) (c - 5) hk hi hi ks (part ps 0 5) (part ps 5 (k - 5)) w' q1 (hhd w' q2) (hbd w' q2) hnk (by omega) (by omega) (by omega) q3
  rw [ht] at htag
  have hsame := fun (w' : World) (g c' lo' hi' : Nat) (q1 : Rd w' 0 hi (some ⟨b, off, none⟩) n ps) (q2 : Rd w' lo' hi' (some ⟨g, 0, none⟩) 8 (part ps k 8)) => implSame_any (some ⟨b, off + k, none⟩) (some ⟨g, 0, none⟩) 8 (c - k) 8 c' _ _ _ _ (part ps k 8) (part ps k 8) w' (hpart w' q1) q2
  rw [decide_eq_true rfl] at hsame
  generalize hideL ks (part ps 0 5) (part ps 5 (k - 5)) = Z at *
  generalize part ps k 8 = tl at *
  have HTAG := Lib.hid htag
  have HHIDE := Lib.hid hhide
  have HSAME := Lib.hid hsame
  have HIL := Lib.hid hil
  have HN := Lib.hid hn
  have hw1 : IntKind.i64.wrap ((n : Int) - 8) = (k : Int) := by rw [IntKind.wrap_i64]; omega
  have i1 : (n : Int) - 8 = (k : Int) := by omega
  have i2 : (k : Int) ≤ (c : Int) := by omega
  have i3 : (k : Int) ≤ (n : Int) := by omega
  have i4 : ¬ c = k := by omega
  have i5 : (5 : Int) ≤ (c : Int) := by omega
  have i6 : (5 : Int) ≤ (k : Int) := by omega
  have i7 : ¬ c = 5 := by omega
  have i8 : n - k = 8 := by omega
  have hg0 := hkt.1.1
  have hg1 := hkt.2.1
  clear htag hhide hsame hil hn hpart hbody hhd hbd ht
  go_enter Tryd.func45, Tryd.ntmps45
  go_wp2_with fail
  have kd : Keep 0 0 w w.drew := ⟨rfl, rfl, rfl, Nat.le_refl _, fun _ _ _ => rfl⟩
  have key1 := hkey.keep kd (by omega)
  have r1 := h.keep kd (by omega)
  have kt1 := hkt.keep kd (by omega)
  have bb1 : Below w.heap.size w w.drew := kd.below (by omega) (Nat.le_refl _)
  go_region_with (first
    | (go_at_call 43; refine (HTAG.out _ key1 r1 kt1.1).mono ?_; rintro e w2 ⟨g2, rfl, wr2, b2⟩; have k2 := Keep.of_below b2 0 0; have key2 := key1.keep k2 (by omega); have r2 := r1.keep k2 (by omega); have kt2 := kt1.keep k2 (by omega); have bb2 := bb1.trans (b2.mono bb1.size); have HS2 := Lib.hid (HSAME.out w2 g2 8 _ _ r2 wr2.1); clear wr2 b2 HTAG)
    | (go_at_call 65; refine HS2.out.mono ?_; rintro e w3 ⟨rfl, rfl⟩))
  go_wp2_with fail
  have kd3 : Keep 0 0 w2 w2.drew := ⟨rfl, rfl, rfl, Nat.le_refl _, fun _ _ _ => rfl⟩
  have key3 := key2.keep kd3 (by omega)
  have r3 := r2.keep kd3 (by omega)
  have kt3 := kt2.keep kd3 (by omega)
  have bb3 : Below w.heap.size w w2.drew := bb2.trans (kd3.below (by omega) bb2.size)
  go_region_with (first
    | (go_at_call 42; refine (HHIDE.out _ key3 r3 kt3.1).mono ?_; intro e w4 hm4; obtain ⟨g4, c4, rfl, hc4, wr4, b4⟩ := hm4.at_ HIL.out; have bb4 := bb3.trans (b4.mono bb3.size); have hw4 := wr4.wide bb3.size (Nat.le_refl _) (Nat.le_refl _); clear hm4 b4 HHIDE))
  go_wp2_with fail
  exact bodyPost_ret (v := .tuple #[.slice (some ⟨g4, 0, none⟩) (k - 5) c4, .nilIface]) (by simp [results, Tryd.results45, go_sem]) rfl ⟨g4, c4, rfl, hc4, hw4, bb4⟩

set_option maxHeartbeats 2000000 in
theorem openBytes_no (a : Addr) (A : Option Addr) (b off nk ck n c k hk hi : Nat) (ks ps : List Int) (w : World) (hkey : Rd w 0 hk A nk ks) (h : Rd w 0 hi (some ⟨b, off, none⟩) n ps) (hnk : nk ≤ 64) (hn : n = k + 8) (h5 : 5 ≤ k) (hk125 : k ≤ 125) (hnc : n ≤ c) (hkt : KtE a w)
    (ht : ¬ tagL ks (part ps 0 k) = part ps k 8) :
    Calls Tryd.prog 45 #[.slice A nk ck, .slice (some ⟨b, off, none⟩) n c] w fun e w' =>
      e = .returned (.tuple #[.slice none 0 0, .iface 122 (.pointer (some a))]) ∧ Below w.heap.size w w' := by
  have hint := h.int
  have hpart := fun (w' : World) (hr : Rd w' 0 hi (some ⟨b, off, none⟩) n ps) => hr.part_ k 8 (by omega)
  have hbody := fun (w' : World) (hr : Rd w' 0 hi (some ⟨b, off, none⟩) n ps) => hr.part_ 0 k (by omega)
  rw [Nat.add_zero] at hbody
  have htag := fun (w' : World) (q1 : Rd w' 0 hk A nk ks) (q2 : Rd w' 0 hi (some ⟨b, off, none⟩) n ps) (q3 : Kt w') => tagBytes_any A (some ⟨b, off, none⟩) nk ck k c hk hi ks (part ps 0 k) w' q1 (hbody w' q2) hnk (by omega) (fun h => by cases h) q3
  have hsame := fun (w' : World) (g c' lo' hi' : Nat) (q1 : Rd w' 0 hi (some ⟨b, off, none⟩) n ps) (q2 : Rd w' lo' hi' (some ⟨g, 0, none⟩) 8 (tagL ks (part ps 0 k))) => implSame_any (some ⟨b, off + k, none⟩) (some ⟨g, 0, none⟩) 8 (c - k) 8 c' _ _ _ _ (part ps k 8) (tagL ks (part ps 0 k)) w' (hpart w' q1) q2
  rw [decide_eq_false (fun e => ht e.symm)] at hsame
  generalize part ps k 8 = tl at *
  generalize tagL ks (part ps 0 k) = tg at *
  have HTAG := Lib.hid htag
  have HSAME := Lib.hid hsame
  have HN := Lib.hid hn
  have hw1 : IntKind.i64.wrap ((n : Int) - 8) = (k : Int) := by rw [IntKind.wrap_i64]; omega
  have i1 : (n : Int) - 8 = (k : Int) := by omega
  have i2 : (k : Int) ≤ (c : Int) := by omega
  have i3 : (k : Int) ≤ (n : Int) := by omega
  have i4 : ¬ c = k := by omega
  have i5 : (5 : Int) ≤ (c : Int) := by omega
  have i6 : (5 : Int) ≤ (k : Int) := by omega
  have i7 : ¬ c = 5 := by omega
  have i8 : n - k = 8 := by omega
  have hg0 := hkt.1.1
  have hg1 := hkt.2.1
  clear htag hsame hn hpart hbody ht
  go_enter Tryd.func45, Tryd.ntmps45
  go_wp2_with fail
  have kd : Keep 0 0 w w.drew := ⟨rfl, rfl, rfl, Nat.le_refl _, fun _ _ _ => rfl⟩
  have key1 := hkey.keep kd (by omega)
  have r1 := h.keep kd (by omega)
  have kt1 := hkt.keep kd (by omega)
  have bb1 : Below w.heap.size w w.drew := kd.below (by omega) (Nat.le_refl _)
  go_region_with (first
    | (go_at_call 43; refine (HTAG.out _ key1 r1 kt1.1).mono ?_; rintro e w2 ⟨g2, rfl, wr2, b2⟩; have k2 := Keep.of_below b2 0 0; have key2 := key1.keep k2 (by omega); have r2 := r1.keep k2 (by omega); have kt2 := kt1.keep k2 (by omega); have bb2 := bb1.trans (b2.mono bb1.size); have HS2 := Lib.hid (HSAME.out w2 g2 8 _ _ r2 wr2.1); clear wr2 b2 HTAG)
    | (go_at_call 65; refine HS2.out.mono ?_; rintro e w3 ⟨rfl, rfl⟩))
  go_wp2_with fail
  have kd3 : Keep 0 0 w2 w2.drew := ⟨rfl, rfl, rfl, Nat.le_refl _, fun _ _ _ => rfl⟩
  have kt3 := kt2.keep kd3 (by omega)
  have bb3 : Below w.heap.size w w2.drew := bb2.trans (kd3.below (by omega) bb2.size)
  have ce2 := kt2.2.2
  have ce3 := kt3.2.2
  go_region
  all_goals go_wp2_with fail
  all_goals exact bodyPost_ret (v := .tuple #[.slice none 0 0, .iface 122 (.pointer (some a))]) (by simp [results, Tryd.results45, go_sem]) rfl ⟨rfl, bb3⟩
end Go.Proofs.YtpnpjngaenlciaaDoor
