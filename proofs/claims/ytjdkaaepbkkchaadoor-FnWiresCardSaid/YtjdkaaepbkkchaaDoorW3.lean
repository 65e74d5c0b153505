/-
  Chapter 7: a reply's bytes, both sides; EncodeReply.
-/
import Derived.Test.YtjdkaaepbkkchaaDoorW2
import Derived.Test.YtjdkaaepbkkchaaDoorBR
import Derived.Lib.Bytes
namespace Go.Proofs.YtjdkaaepbkkchaaDoor
open Go.RowKit
set_option linter.unusedVariables false
set_option maxRecDepth 100000

/-- What bodies and replies begin with. -/
def repL (a s c : Int) : List Int := digs a 4 ++ (digs s 2 ++ digs c 3)
theorem repL_len (a s c : Int) : (repL a s c).length = 9 := by simp [repL, digs_len]
theorem repL_byte (a s c : Int) : ∀ x ∈ repL a s c, 0 ≤ x ∧ x ≤ 255 := by
  intro x hx
  rcases List.mem_append.1 hx with hx | hx
  · exact digs_byte _ _ x hx
  · rcases List.mem_append.1 hx with hx | hx
    · exact digs_byte _ _ x hx
    · exact digs_byte _ _ x hx
def pcV (p : Pc) : Value := .slice p.1 p.2.1 p.2.2.1
theorem Parts.new (w : World) (ps : List Pc) (cs : Array Value) (t : TypeId) (h : cs = (ps.map pcV).toArray) (hr : ∀ p ∈ ps, Rd w 0 w.heap.size p.1 p.2.1 p.2.2.2 ∧ (p.1 = none → p.2.2.1 = 0)) :
    Parts (w.alloc (.cells cs t)) w.heap.size w.heap.size ps := by
  have hx := BoxL.new w (ps.map pcV) cs t h
  refine ⟨hx.lt, fun j hj => ?_⟩
  have hp : ps.getD j pc0 ∈ ps := by
    rw [List.getD_eq_getElem?_getD, List.getElem?_eq_getElem hj]
    simp
  have hv : (ps.map pcV)[j]? = some (pcV (ps.getD j pc0)) := by
    rw [List.getElem?_map, List.getD_eq_getElem?_getD, List.getElem?_eq_getElem hj]
    rfl
  exact ⟨hx.at_ j _ hv, (hr _ hp).1.keep ((Keep.refl 0 0 w).alloc _) (by omega), (hr _ hp).2⟩
theorem Wr.rd0 {w : World} {lo n : Nat} {A : Option Addr} {xs : List Int} (h : Wr w lo w.heap.size A n xs) : Rd w 0 w.heap.size A n xs := h.1.wide (Nat.zero_le _) (Nat.le_refl _) (Nat.le_refl _)
theorem some_ne {A : Addr} {c : Nat} : (some A = none → c = 0) := fun h => by cases h

set_option maxHeartbeats 800000 in
theorem startBytes_any (a s c : Int) (w : World) (ha : 0 ≤ a ∧ a ≤ 9223372036854775807) (hs : 0 ≤ s ∧ s ≤ 9223372036854775807) (hc : 0 ≤ c ∧ c ≤ 9223372036854775807) :
    Calls Tryd.prog 33 #[.int .i64 a, .int .i64 s, .int .i64 c] w fun e w' => ∃ g cap, e = .returned (.slice (some ⟨g, 0, none⟩) 9 cap) ∧ OwnB w' w.heap.size g 9 cap (repL a s c) ∧ Below w.heap.size w w' := by
  go_enter Tryd.func33, Tryd.ntmps33
  go_wp2_with fail
  refine (putWord_any a 4 _ ha.1 ha.2 (by omega)).mono ?_
  rintro e w1 ⟨g1, rfl, r1, b1⟩
  go_wp2_with fail
  refine (putWord_any s 2 _ hs.1 hs.2 (by omega)).mono ?_
  rintro e w2 ⟨g2, rfl, r2, b2⟩
  replace r1 := r1.keep (Keep.of_below b2 0 0) (by omega)
  have z1 := b1.size
  have z2 := b2.size
  go_wp2_with fail
  refine (putWord_any c 3 _ hc.1 hc.2 (by omega)).mono ?_
  rintro e w3 ⟨g3, rfl, r3, b3⟩
  replace r1 := (r1.keep (Keep.of_below b3 0 0) (by omega)).1.wide (Nat.zero_le _) (show w1.heap.size ≤ w3.heap.size by have := b3.size; omega) (Nat.le_refl _)
  replace r2 := (r2.keep (Keep.of_below b3 0 0) (by omega)).1.wide (Nat.zero_le _) b3.size (Nat.le_refl _)
  have bb : Below w.heap.size w w3 := b1.trans ((b2.trans (b3.mono z2)).mono z1)
  have hP := Lib.hid (Parts.new w3 [(some ⟨g1, 0, none⟩, 4, 4, digs a 4), (some ⟨g2, 0, none⟩, 2, 2, digs s 2), (some ⟨g3, 0, none⟩, 3, 3, digs c 3)] #[.slice (some ⟨g1, 0, none⟩) 4 4, .slice (some ⟨g2, 0, none⟩) 2 2, .slice (some ⟨g3, 0, none⟩) 3 3] 22 rfl (fun p hp => by
    simp only [List.mem_cons, List.not_mem_nil, or_false] at hp
    rcases hp with rfl | rfl | rfl
    · exact ⟨r1, some_ne⟩
    · exact ⟨r2, some_ne⟩
    · exact ⟨r3.rd0, some_ne⟩))
  have BB := Lib.hid bb
  clear r1 r2 r3 b1 b2 b3 z1 z2 bb
  go_wp2_with fail
  refine (concatN_any w3.heap.size 3 _ 3 9 _ (repL a s c) _ hP.out (by simp) rfl rfl (by simp [catP, repL]) (by omega) (by omega) (by omega)).mono ?_
  rintro e w4 ⟨g, cap, rfl, ho, hb⟩
  have zz := BB.out.size
  have HO := Lib.hid (ho.down (base' := w.heap.size) (by simp; omega))
  have HB := Lib.hid ((BB.out.alloc zz _).trans (hb.mono (by simp; omega)))
  clear ho hb
  go_wp2_with fail
  go_ret
  exact ⟨g, cap, rfl, HO.out, HB.out⟩

set_option maxHeartbeats 4000000 in
theorem l7Reply_any (b : Nat) (a s c : Int) (w : World) (hx : BoxL w b [.int .i64 a, .int .i64 s, .int .i64 c]) (ha : 0 ≤ a ∧ a ≤ 9223372036854775807) (hs : 0 ≤ s ∧ s ≤ 9223372036854775807) (hc : 0 ≤ c ∧ c ≤ 9223372036854775807) :
    Calls Tryd.prog 46 #[.pointer (some ⟨b, 0, none⟩)] w fun e w' => ∃ g cap, e = .returned (.slice (some ⟨g, 0, none⟩) 9 cap) ∧ OwnB w' w.heap.size g 9 cap (repL a s c) ∧ Below w.heap.size w w' := by
  have HS := Lib.hid (fun (w' : World) (k : Below w.heap.size w w') => (⟨(hx.below k).at_ 0 _ rfl, (hx.below k).at_ 1 _ rfl, (hx.below k).at_ 2 _ rfl⟩ : w'.cell? ⟨b, 0, none⟩ = some (.int .i64 a) ∧ w'.cell? ⟨b, 1, none⟩ = some (.int .i64 s) ∧ w'.cell? ⟨b, 2, none⟩ = some (.int .i64 c)))
  have bd : Below w.heap.size w w.drew := ⟨rfl, rfl, rfl, Nat.le_refl _, fun _ _ => rfl⟩
  have szd := bd.size
  clear hx
  go_enter Tryd.func46, Tryd.ntmps46
  go_wp2_with fail
  go_region_held3 (fun w' => w'.cell? ⟨b, 0, none⟩ = some (.int .i64 a) ∧ w'.cell? ⟨b, 1, none⟩ = some (.int .i64 s) ∧ w'.cell? ⟨b, 2, none⟩ = some (.int .i64 c))
    (first | exact HS.out _ bd | go_keep)
    (first
      | (go_at_call_of 68 a; refine (l1High_own a 4 _ ha.1 ha.2 (by omega)).mono ?_; rintro e v1 ⟨g1, c1, rfl, o1, hb⟩; replace o1 := o1.down szd; replace bd := bd.trans (hb.mono szd); have szd := bd.size)
      | (go_at_call_of 68 s; refine (l1High_own s 2 _ hs.1 hs.2 (by omega)).mono ?_; rintro e v2 ⟨g2, c2, rfl, o2, hb⟩; replace o1 := o1.below hb; replace bd := bd.trans (hb.mono szd); have szd := bd.size)
      | (go_at_call_of 68 c; refine (l1High_own c 3 _ hc.1 hc.2 (by omega)).mono ?_; rintro e v3 ⟨g3, c3, rfl, o3, hb⟩; have p1' := p1.below hb; replace bd := bd.trans (hb.mono szd); have szd := bd.size)
      | (refine step_append_ob rfl _ _ rfl w.heap.size g1 4 c1 _ rfl o1 (some ⟨g2, 0, none⟩) 2 c2 _ _ _ rfl o2.wr.1 some_ne (by omega) szd ?_; intro g4 c4 v4 hp; have p1 := hp.own; replace bd := bd.trans (hp.below o1.le szd); have szd := bd.size)
      | (refine step_append_ob rfl _ _ rfl w.heap.size g4 6 c4 _ rfl p1' (some ⟨g3, 0, none⟩) 3 c3 _ _ _ rfl o3.wr.1 some_ne (by omega) szd ?_; intro g5 c5 v5 hp2; have p2 := hp2.own; replace bd := bd.trans (hp2.below p1'.le szd); have szd := bd.size))
  rw [List.append_assoc] at p2
  have HO := Lib.hid p2
  clear p2 p1 p1' hp hp2 o1 o2 o3
  go_wp2_with fail
  go_ret
  exact ⟨g5, c5, rfl, HO.out, bd⟩
end Go.Proofs.YtjdkaaepbkkchaaDoor
