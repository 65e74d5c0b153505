/-
  Chapter 7: a body's bytes, the developers' side: itemBytes, EncodeBody.
-/
import Derived.Test.YtjdkaaepbkkchaaW8
namespace Go.Proofs.Ytjdkaaepbkkchaa
open Go.RowKit
set_option linter.unusedVariables false
set_option maxRecDepth 100000

set_option maxHeartbeats 4000000 in
theorem itemBytes_any (k p q : Int) (G : Option Addr) (c hi : Nat) (ys : List Int) (w : World) (hr : Rd w 0 hi G ys.length ys) (gz : G = none → c = 0) (hcd : cdOf (k, ys, p, q) = 0) :
    Calls Try.prog 35 #[.agg #[.int .i64 k, .slice G ys.length c, .int .i64 p, .int .i64 q]] w fun e w' => ∃ g cap, e = .returned (.slice (some ⟨g, 0, none⟩) (itemL (k, ys, p, q)).length cap) ∧ OwnB w' w.heap.size g (itemL (k, ys, p, q)).length cap (itemL (k, ys, p, q)) ∧ Below w.heap.size w w' := by
  have hbx := BoxL.new w [.int .i64 k, .slice G ys.length c, .int .i64 p, .int .i64 q] #[.int .i64 k, .slice G ys.length c, .int .i64 p, .int .i64 q] 62 rfl
  have htop := hr.top
  have hr1 := hr.keep ((Keep.refl 0 0 w).alloc (.cells #[.int .i64 k, .slice G ys.length c, .int .i64 p, .int .i64 q] 62)) (by omega)
  have hb0 : Below w.heap.size w (w.alloc (.cells #[.int .i64 k, .slice G ys.length c, .int .i64 p, .int .i64 q] 62)) := (Below.refl _ _).alloc (Nat.le_refl _) _
  rcases item_ok hcd with ⟨zs, e, hl1, hl8⟩ | ⟨p', q', e, hp, hq⟩
  · injection e with e1 e2
    injection e2 with e2 e3
    injection e3 with e3 e4
    subst e1 e2 e3 e4
    obtain ⟨n, hn⟩ : ∃ n, ys.length = n := ⟨_, rfl⟩
    rw [hn] at hl1 hl8 hr1 hbx hb0 ⊢
    have hz : (itemL (1, ys, 0, 0)).length = 2 + n := by rw [itemL_key]; simp [hn]; omega
    have hzz := itemL_key ys
    rw [hn] at hzz
    generalize itemL (1, ys, 0, 0) = Z at *
    have HZ := Lib.hid hzz
    obtain ⟨L, hL⟩ : ∃ L, Z.length = L := ⟨_, rfl⟩
    rw [hL] at hz ⊢
    have HL := Lib.hid hz
    have HBX := Lib.hid hbx
    have HB0 := Lib.hid hb0
    clear hzz hL hr hbx hb0 hz
    go_enter Try.func35, Try.ntmps35
    go_wp2_with fail
    refine (putWord_any 1 1 _ (by omega) (by omega) (by omega)).mono ?_
    rintro e w1 ⟨g1, rfl, r1, hb⟩
    have bx := HBX.out.below hb
    have b1 := HB0.out.trans (hb.mono HB0.out.size)
    have z1 := b1.size
    have hr2 := hr1.keep (Keep.of_below hb 0 0) (by omega)
    have c0 := bx.at_ 0 _ rfl
    have rk := r1.rd0
    clear hb r1 hr1
    go_wp2_with fail
    have HS := Lib.hid (fun (w' : World) (k : Below w1.heap.size w1 w') => (bx.below k).at_ 1 _ rfl)
    have bd : Below w1.heap.size w1 w1.drew := below_drew (Below.refl _ _)
    have szd := bd.size
    clear c0 bx
    go_region_held3 (fun w' => w'.cell? ⟨w.heap.size, 1, none⟩ = some (.slice G n c))
      (first | exact HS.out _ bd | exact HS.out _ (bd.alloc szd _) | go_keep)
      (first
        | (go_at_call 34; refine (putWord_any (n : Int) 1 _ (by omega) (by omega) (by omega)).mono ?_; rintro e v1 ⟨g2, rfl, r2, hb⟩; replace bd := bd.trans (hb.mono szd); have szd := bd.size; have kk := Keep.of_below bd 0 0; have hP := Lib.hid (Parts.new v1 [(some ⟨g1, 0, none⟩, 1, 1, digs 1 1), (some ⟨g2, 0, none⟩, 1, 1, digs (n : Int) 1), (G, n, c, ys)] #[.slice (some ⟨g1, 0, none⟩) 1 1, .slice (some ⟨g2, 0, none⟩) 1 1, .slice G n c] 33 rfl (fun p hp => by
            simp only [List.mem_cons, List.not_mem_nil, or_false] at hp
            rcases hp with rfl | rfl | rfl
            · exact ⟨(rk.keep kk (by omega)).wide (Nat.zero_le _) szd (Nat.le_refl _), some_ne⟩
            · exact ⟨r2.rd0, some_ne⟩
            · exact ⟨(hr2.keep kk (by omega)).wide (Nat.zero_le _) (by omega) (Nat.le_refl _), gz⟩)))
        | (go_at_call 32; refine (concatN_any v1.heap.size 3 _ 3 L _ Z _ hP.out (by simp) rfl (by have := HL.out; simp [lenP]; omega) (by rw [HZ.out, digs1 1 (by omega), digs1 (n : Int) (by omega)]; simp [catP]) (by have := HL.out; omega) (by have := HL.out; omega) (by omega)).mono ?_; rintro e v2 ⟨g, cap, rfl, ho, hb⟩; replace bd := (bd.alloc szd _).trans (hb.mono (by simp; omega)); have ho' := ho.down (base' := w.heap.size) (by simp; omega)))
    have HO := Lib.hid ho'
    have HB := Lib.hid (b1.trans (bd.mono z1))
    clear ho ho' bd hP b1
    go_wp2_with fail
    go_ret
    exact ⟨g, cap, rfl, HO.out, HB.out⟩
  · injection e with e1 e2
    injection e2 with e2 e3
    injection e3 with e3 e4
    subst e1 e2 e3 e4
    have hz : (itemL (2, [], p, q)).length = 5 := by rw [itemL_size]; simp [digs_len]
    have hzz := itemL_size p q
    generalize itemL (2, [], p, q) = Z at *
    have HZ := Lib.hid hzz
    obtain ⟨L, hL⟩ : ∃ L, Z.length = L := ⟨_, rfl⟩
    rw [hL] at hz ⊢
    have HL := Lib.hid hz
    have HBX := Lib.hid hbx
    have HB0 := Lib.hid hb0
    clear hzz hL hr hbx hb0 hz
    go_enter Try.func35, Try.ntmps35
    go_wp2_with fail
    refine (putWord_any 2 1 _ (by omega) (by omega) (by omega)).mono ?_
    rintro e w1 ⟨g1, rfl, r1, hb⟩
    have bx := HBX.out.below hb
    have b1 := HB0.out.trans (hb.mono HB0.out.size)
    have z1 := b1.size
    have c0 := bx.at_ 0 _ rfl
    have rk := r1.rd0
    clear hb r1 hr1
    go_wp2_with fail
    have HS := Lib.hid (fun (w' : World) (k : Below w1.heap.size w1 w') => (⟨(bx.below k).at_ 2 _ rfl, (bx.below k).at_ 3 _ rfl⟩ : w'.cell? ⟨w.heap.size, 2, none⟩ = some (.int .i64 p) ∧ w'.cell? ⟨w.heap.size, 3, none⟩ = some (.int .i64 q)))
    have bd : Below w1.heap.size w1 w1.drew := below_drew (Below.refl _ _)
    have szd := bd.size
    clear c0 bx
    go_region_held3 (fun w' => w'.cell? ⟨w.heap.size, 2, none⟩ = some (.int .i64 p) ∧ w'.cell? ⟨w.heap.size, 3, none⟩ = some (.int .i64 q))
      (first | exact HS.out _ bd | exact HS.out _ (bd.alloc szd _) | go_keep)
      (first
        | (go_at_call_of 34 p; refine (putWord_any p 2 _ (by omega) (by omega) (by omega)).mono ?_; rintro e v1 ⟨g2, rfl, r2, hb⟩; replace bd := bd.trans (hb.mono szd); have szd := bd.size; have r2' := r2.rd0)
        | (go_at_call_of 34 q; refine (putWord_any q 2 _ (by omega) (by omega) (by omega)).mono ?_; rintro e v2 ⟨g3, rfl, r3, hb⟩; replace bd := bd.trans (hb.mono szd); have szd := bd.size; have kk := Keep.of_below bd 0 0; have k2 := Keep.of_below hb 0 0; have hP := Lib.hid (Parts.new v2 [(some ⟨g1, 0, none⟩, 1, 1, digs 2 1), (some ⟨g2, 0, none⟩, 2, 2, digs p 2), (some ⟨g3, 0, none⟩, 2, 2, digs q 2)] #[.slice (some ⟨g1, 0, none⟩) 1 1, .slice (some ⟨g2, 0, none⟩) 2 2, .slice (some ⟨g3, 0, none⟩) 2 2] 33 rfl (fun p hp => by
            simp only [List.mem_cons, List.not_mem_nil, or_false] at hp
            rcases hp with rfl | rfl | rfl
            · exact ⟨(rk.keep kk (by omega)).wide (Nat.zero_le _) szd (Nat.le_refl _), some_ne⟩
            · exact ⟨(r2'.keep k2 (by omega)).wide (Nat.zero_le _) hb.size (Nat.le_refl _), some_ne⟩
            · exact ⟨r3.rd0, some_ne⟩)))
        | (go_at_call 32; refine (concatN_any v2.heap.size 3 _ 3 L _ Z _ hP.out (by simp) rfl (by have := HL.out; simp [lenP]; omega) (by rw [HZ.out, digs1 2 (by omega)]; simp [catP]) (by have := HL.out; omega) (by have := HL.out; omega) (by omega)).mono ?_; rintro e v3 ⟨g, cap, rfl, ho, hb⟩; replace bd := (bd.alloc szd _).trans (hb.mono (by simp; omega)); have ho' := ho.down (base' := w.heap.size) (by simp; omega)))
    have HO := Lib.hid ho'
    have HB := Lib.hid (b1.trans (bd.mono z1))
    clear ho ho' bd hP b1
    go_wp2_with fail
    go_ret
    exact ⟨g, cap, rfl, HO.out, HB.out⟩
end Go.Proofs.Ytjdkaaepbkkchaa
