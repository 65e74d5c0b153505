/-
  Chapter 7: DecodeReply, the developers' side: readReply, the face of all reading.
-/
import Derived.Test.YtjdkaaepbkkchaaDoorW13
import Derived.Test.YtjdkaaepbkkchaaDoorW4
import Derived.Test.YtjdkaaepbkkchaaDoorSame
import Derived.Recover
namespace Go.Proofs.YtjdkaaepbkkchaaDoor
open Go.RowKit
set_option linter.unusedVariables false
set_option maxRecDepth 100000

set_option maxHeartbeats 1000000 in
theorem readReply_yes (b lo hi : Nat) (xs : List Int) (w : World) (h : Rdr w b lo hi xs) (h9 : 9 ≤ xs.length) :
    Calls Tryd.prog 48 #[.pointer (some ⟨b, 0, none⟩)] w fun e w' => e = .returned (.agg #[.int .i64 (val (xs.take 4)), .int .i64 (val ((xs.drop 4).take 2)), .int .i64 (val ((xs.drop 6).take 3))]) ∧ Keep b (b + 1) w w' := by
  have hlt := h.lt
  have d0 : List.drop 2 (List.drop 4 xs) = List.drop 6 xs := by rw [List.drop_drop]
  have l0 : (List.drop 4 xs).length = xs.length - 4 := by rw [List.length_drop]
  have l1 : (List.drop 6 xs).length = xs.length - 6 := by rw [List.length_drop]
  have h1 := h.below ((Below.refl _ _).alloc (Nat.le_refl _) (.cells #[.int .i64 0, .int .i64 0, .int .i64 0] 36))
  have k0 := (Keep.refl b (b + 1) w).alloc (.cells #[.int .i64 0, .int .i64 0, .int .i64 0] 36)
  have bx := BoxL.new w [.int .i64 0, .int .i64 0, .int .i64 0] #[.int .i64 0, .int .i64 0, .int .i64 0] 36 rfl
  have HN1 := Lib.hid (number_yes b lo hi 4 xs _ h1 (by omega) (by omega) (by omega))
  have HN2 := Lib.hid (fun w' (h' : Rdr w' b lo hi (xs.drop 4)) => number_yes b lo hi 2 _ w' h' (by omega) (by omega) (by omega))
  have HN3 := Lib.hid (fun w' (h' : Rdr w' b lo hi (xs.drop 6)) => number_yes b lo hi 3 _ w' h' (by omega) (by omega) (by omega))
  rw [d0] at HN2
  generalize val (xs.take 4) = v1 at *
  generalize val ((xs.drop 4).take 2) = v2 at *
  generalize val ((xs.drop 6).take 3) = v3 at *
  have HB := Lib.hid bx
  have HK := Lib.hid k0
  clear bx k0 d0 l0 l1 h1 h
  go_enter Tryd.func48, Tryd.ntmps48
  go_wp2_with fail
  refine HN1.out.mono ?_
  rintro e w1 ⟨rfl, r1, k1⟩
  go_wp2_with fail
  refine (HN2.out _ r1).mono ?_
  rintro e w2 ⟨rfl, r2, k2⟩
  go_wp2_with fail
  refine (HN3.out _ r2).mono ?_
  rintro e w3 ⟨rfl, r3, k3⟩
  have k13 := k1.trans (k2.trans k3)
  have bx := HB.out.keep k13 (by omega)
  have hk := HK.out.trans k13
  have c0 := bx.at_ 0 _ rfl
  have c1 := bx.at_ 1 _ rfl
  have c2 := bx.at_ 2 _ rfl
  have f0 := bx.fz 0
  have f1 := bx.fz 1
  have f2 := bx.fz 2
  have bx1 := ((bx.set 0 (.int .i64 v1) (by simp)).set 1 (.int .i64 v2) (by simp)).set 2 (.int .i64 v3) (by simp)
  have e0 := (bx.set 0 (.int .i64 v1) (by simp)).at_ 0 _ rfl
  have e1 := ((bx.set 0 (.int .i64 v1) (by simp)).set 1 (.int .i64 v2) (by simp)).at_ 1 _ rfl
  have e2 := bx1.at_ 2 _ rfl
  have HF : Hid (Keep b (b + 1) w (((w3.setCell ⟨w.heap.size, 0, none⟩ (.int .i64 v1)).setCell ⟨w.heap.size, 1, none⟩ (.int .i64 v2)).setCell ⟨w.heap.size, 2, none⟩ (.int .i64 v3))) := by
    have hz := hk.size
    refine ⟨hk.os, hk.tape, hk.output, by simpa using hk.size, fun q hq ho => ?_⟩
    rw [Below.heap_setCell _ _ _ _ (show q ≠ w.heap.size by omega), Below.heap_setCell _ _ _ _ (show q ≠ w.heap.size by omega), Below.heap_setCell _ _ _ _ (show q ≠ w.heap.size by omega)]
    exact hk.block q hq ho
  clear bx bx1 hk k13 k1 k2 k3 r1 r2 r3
  go_wp2_with fail
  exact bodyPost_ret (v := .agg #[.int .i64 v1, .int .i64 v2, .int .i64 v3]) (by simp [results, Tryd.results48, go_sem, e0, e1, e2]) rfl ⟨rfl, HF.out⟩

set_option maxHeartbeats 1000000 in
theorem readReply_no (ea : Addr) (b lo hi : Nat) (xs : List Int) (w : World) (h : Rdr w b lo hi xs) (h9 : xs.length < 9) (ke : Ke ea w) (hb0 : 0 < b) :
    Calls Tryd.prog 48 #[.pointer (some ⟨b, 0, none⟩)] w fun e w' => Pan e ∧ Keep b (b + 1) w w' := by
  have hlt := h.lt
  have d0 : List.drop 2 (List.drop 4 xs) = List.drop 6 xs := by rw [List.drop_drop]
  have l0 : (List.drop 4 xs).length = xs.length - 4 := by rw [List.length_drop]
  have l1 : (List.drop 6 xs).length = xs.length - 6 := by rw [List.length_drop]
  have b0 := (Below.refl w.heap.size w).alloc (Nat.le_refl _) (.cells #[.int .i64 0, .int .i64 0, .int .i64 0] 36)
  have h1 := h.below b0
  have ke1 := ke.below b0 ke.1
  have k0 := (Keep.refl b (b + 1) w).alloc (.cells #[.int .i64 0, .int .i64 0, .int .i64 0] 36)
  have HK := Lib.hid k0
  clear k0 b0
  by_cases h4 : xs.length < 4
  · have HN1 := Lib.hid (number_no ea b lo hi 4 xs _ h1 (by omega) ke1)
    clear h1 h
    go_enter Tryd.func48, Tryd.ntmps48
    go_wp2_with fail
    refine HN1.out.mono ?_
    rintro e w1 ⟨⟨u, pv, rfl⟩, rfl⟩
    go_wp2_with fail
    exact ⟨rfl, ⟨_, _, rfl⟩, HK.out⟩
  · have HN1 := Lib.hid (number_yes b lo hi 4 xs _ h1 (by omega) (by omega) (by omega))
    by_cases h6 : xs.length < 6
    · have HN2 := Lib.hid (fun w' (h' : Rdr w' b lo hi (xs.drop 4)) (ke' : Ke ea w') => number_no ea b lo hi 2 _ w' h' (by omega) ke')
      clear h1 h
      go_enter Tryd.func48, Tryd.ntmps48
      go_wp2_with fail
      refine HN1.out.mono ?_
      rintro e w1 ⟨rfl, r1, k1⟩
      have ke2 := ke1.keep k1 (by omega)
      have HK1 := Lib.hid (HK.out.trans k1)
      clear k1
      go_wp2_with fail
      refine (HN2.out _ r1 ke2).mono ?_
      rintro e w2 ⟨⟨u, pv, rfl⟩, rfl⟩
      go_wp2_with fail
      exact ⟨rfl, ⟨_, _, rfl⟩, HK1.out⟩
    · have HN2 := Lib.hid (fun w' (h' : Rdr w' b lo hi (xs.drop 4)) => number_yes b lo hi 2 _ w' h' (by omega) (by omega) (by omega))
      have HN3 := Lib.hid (fun w' (h' : Rdr w' b lo hi (xs.drop 6)) (ke' : Ke ea w') => number_no ea b lo hi 3 _ w' h' (by omega) ke')
      rw [d0] at HN2
      clear h1 h
      go_enter Tryd.func48, Tryd.ntmps48
      go_wp2_with fail
      refine HN1.out.mono ?_
      rintro e w1 ⟨rfl, r1, k1⟩
      have ke2 := ke1.keep k1 (by omega)
      have HK1 := Lib.hid (HK.out.trans k1)
      clear k1
      go_wp2_with fail
      refine (HN2.out _ r1).mono ?_
      rintro e w2 ⟨rfl, r2, k2⟩
      have ke3 := ke2.keep k2 (by omega)
      have HK2 := Lib.hid (HK1.out.trans k2)
      clear k2
      go_wp2_with fail
      refine (HN3.out _ r2 ke3).mono ?_
      rintro e w3 ⟨⟨u, pv, rfl⟩, rfl⟩
      go_wp2_with fail
      exact ⟨rfl, ⟨_, _, rfl⟩, HK2.out⟩
end Go.Proofs.YtjdkaaepbkkchaaDoor
