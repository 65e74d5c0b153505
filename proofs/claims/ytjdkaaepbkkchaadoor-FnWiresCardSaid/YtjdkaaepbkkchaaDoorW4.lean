/-
  Chapter 7: EncodeReply, both sides.
-/
import Derived.Test.YtjdkaaepbkkchaaDoorW3
namespace Go.Proofs.YtjdkaaepbkkchaaDoor
open Go.RowKit
set_option linter.unusedVariables false
set_option maxRecDepth 100000

/-- A code and new bytes. -/
def BytesPost (w : World) (cd : Int) (zs : List Int) (e : Ending) (w' : World) : Prop :=
  ∃ G cap, e = .returned (.agg #[.int .i64 cd, .slice G zs.length cap]) ∧ (G = none → cap = 0) ∧ zs.length ≤ cap ∧ Wr w' w.heap.size w'.heap.size G zs.length zs ∧ Below w.heap.size w w'
theorem bytes_done {w w3 : World} {rb g n cap : Nat} {zs : List Int} {cd : Int} {u v : Value} (hr : BoxL w3 rb [u, v]) (ho : OwnB w3 (rb + 1) g n cap zs) (hb : Below w.heap.size w w3) (hrb : w.heap.size ≤ rb) :
    (w3.setCell ⟨rb, 0, none⟩ (.int .i64 cd)).cell? ⟨rb, 0, none⟩ = some (.int .i64 cd) ∧
    ((w3.setCell ⟨rb, 0, none⟩ (.int .i64 cd)).setCell ⟨rb, 1, none⟩ (.slice (some ⟨g, 0, none⟩) n cap)).cell? ⟨rb, 1, none⟩ = some (.slice (some ⟨g, 0, none⟩) n cap) ∧
    Hid (BytesPost w cd zs (.returned (.agg #[.int .i64 cd, .slice (some ⟨g, 0, none⟩) n cap])) ((w3.setCell ⟨rb, 0, none⟩ (.int .i64 cd)).setCell ⟨rb, 1, none⟩ (.slice (some ⟨g, 0, none⟩) n cap))) := by
  obtain ⟨e0, e1⟩ := two_cells (hr.at_ 0 _ rfl) (hr.at_ 1 _ rfl) (.int .i64 cd) (.slice (some ⟨g, 0, none⟩) n cap)
  have hk : Keep rb (rb + 1) w3 ((w3.setCell ⟨rb, 0, none⟩ (.int .i64 cd)).setCell ⟨rb, 1, none⟩ (.slice (some ⟨g, 0, none⟩) n cap)) :=
    ((Keep.refl _ _ w3).setCell (p := ⟨rb, 0, none⟩) ⟨Nat.le_refl _, Nat.lt_succ_self _⟩ _).setCell (p := ⟨rb, 1, none⟩) ⟨Nat.le_refl _, Nat.lt_succ_self _⟩ _
  have hl := ho.le
  have hlt := hr.lt
  have ho' := ho.keep hk (.inr hl)
  have hn := ho.len
  subst hn
  exact ⟨e0, e1, some ⟨g, 0, none⟩, cap, rfl, some_ne, ho.2.1, (ho'.down (show w.heap.size ≤ rb + 1 by omega)).wr, hb.trans (hk.below (.inl hrb) (Nat.le_trans hrb (Nat.le_of_lt hlt)))⟩
theorem bytes_fail {w w3 : World} {rb : Nat} {cd : Int} {u v : Value} (hr : BoxL w3 rb [u, v]) (hb : Below w.heap.size w w3) (hrb : w.heap.size ≤ rb) :
    (w3.setCell ⟨rb, 0, none⟩ (.int .i64 cd)).cell? ⟨rb, 0, none⟩ = some (.int .i64 cd) ∧
    ((w3.setCell ⟨rb, 0, none⟩ (.int .i64 cd)).setCell ⟨rb, 1, none⟩ (.slice none 0 0)).cell? ⟨rb, 1, none⟩ = some (.slice none 0 0) ∧
    Hid (BytesPost w cd [] (.returned (.agg #[.int .i64 cd, .slice none 0 0])) ((w3.setCell ⟨rb, 0, none⟩ (.int .i64 cd)).setCell ⟨rb, 1, none⟩ (.slice none 0 0))) := by
  obtain ⟨e0, e1⟩ := two_cells (hr.at_ 0 _ rfl) (hr.at_ 1 _ rfl) (.int .i64 cd) (.slice none 0 0)
  have hk : Keep rb (rb + 1) w3 ((w3.setCell ⟨rb, 0, none⟩ (.int .i64 cd)).setCell ⟨rb, 1, none⟩ (.slice none 0 0)) :=
    ((Keep.refl _ _ w3).setCell (p := ⟨rb, 0, none⟩) ⟨Nat.le_refl _, Nat.lt_succ_self _⟩ _).setCell (p := ⟨rb, 1, none⟩) ⟨Nat.le_refl _, Nat.lt_succ_self _⟩ _
  exact ⟨e0, e1, none, 0, rfl, fun _ => rfl, Nat.le_refl _, Wr.empty_top _ none, hb.trans (hk.below (.inl hrb) (Nat.le_trans hrb (Nat.le_of_lt hr.lt)))⟩
def repAns (a s c : Int) : List Int := if replyCode a s c = 0 then repL a s c else []

set_option maxHeartbeats 1000000 in
theorem specEncReply_any (a s c : Int) (w : World) : Calls Tryd.prog 19 #[.agg #[.int .i64 a, .int .i64 s, .int .i64 c]] w (BytesPost w (replyCode a s c) (repAns a s c)) := by
  have HI := Lib.hid (fun w' => specReplyFault_any a s c w')
  have hx := (BoxL.new w [.int .i64 a, .int .i64 s, .int .i64 c] #[.int .i64 a, .int .i64 s, .int .i64 c] 36 rfl).below ((Below.refl _ _).alloc (Nat.le_refl _) (.cells #[.int .i64 0, .slice none 0 0] 29))
  have hr := BoxL.new (w.alloc (.cells #[.int .i64 a, .int .i64 s, .int .i64 c] 36)) [.int .i64 0, .slice none 0 0] #[.int .i64 0, .slice none 0 0] 29 rfl
  have hb : Below w.heap.size w ((w.alloc (.cells #[.int .i64 a, .int .i64 s, .int .i64 c] 36)).alloc (.cells #[.int .i64 0, .slice none 0 0] 29)) := ((Below.refl _ _).alloc (Nat.le_refl _) _).alloc (by simp) _
  simp only [World.size_alloc] at hr
  have HX := Lib.hid hx
  have HRB := Lib.hid hr
  have HB := Lib.hid hb
  clear hx hr hb
  by_cases h : (0 ≤ a ∧ a ≤ 9000) ∧ stampsOk s c
  · have hp := replyCode_ok h
    rw [hp] at HI
    unfold repAns
    rw [hp, if_pos rfl]
    obtain ⟨ha, hs, hc⟩ := h
    generalize hZ : repL a s c = Z at *
    have HZ := Lib.hid hZ
    clear hZ hp
    go_enter Tryd.func19, Tryd.ntmps19
    go_wp2_with fail
    refine (HI.out _).mono ?_
    rintro e w1 ⟨rfl, b1⟩
    have hx := HX.out.below b1
    have hr := HRB.out.below b1
    have hb := HB.out.trans (b1.mono HB.out.size)
    have zz := b1.size
    simp only [World.size_alloc] at zz
    clear b1
    go_wp2_with fail
    refine (l7Reply_any w.heap.size a s c _ hx (by omega) (by omega) (by omega)).mono ?_
    rintro e w2 ⟨g, cap, rfl, ho, b2⟩
    replace hr := hr.below b2
    replace hb := hb.trans (b2.mono hb.size)
    rw [HZ.out] at ho
    obtain ⟨e0, e1, HF⟩ := bytes_done (cd := 0) hr (ho.down (by omega)) hb (by omega)
    have c0 := hr.at_ 0 _ rfl
    have c1 := hr.at_ 1 _ rfl
    have f0 := hr.fz 0
    have f1 := hr.fz 1
    clear hr hb hx ho b2
    go_wp2_with fail
    exact bodyPost_ret (v := .agg #[.int .i64 0, .slice (some ⟨g, 0, none⟩) 9 cap]) (by simp [results, Tryd.results19, go_sem, e0, e1]) rfl HF.out
  · have hp := replyCode_no h
    rw [hp] at HI
    unfold repAns
    rw [hp, if_neg (by decide)]
    clear h hp
    go_enter Tryd.func19, Tryd.ntmps19
    go_wp2_with fail
    refine (HI.out _).mono ?_
    rintro e w1 ⟨rfl, b1⟩
    have hr := HRB.out.below b1
    have hb := HB.out.trans (b1.mono HB.out.size)
    have zz := b1.size
    simp only [World.size_alloc] at zz
    clear b1
    obtain ⟨e0, e1, HF⟩ := bytes_fail (cd := 3) hr hb (by omega)
    have c0 := hr.at_ 0 _ rfl
    have c1 := hr.at_ 1 _ rfl
    have f0 := hr.fz 0
    have f1 := hr.fz 1
    clear hr hb
    go_wp2_with fail
    exact bodyPost_ret (v := .agg #[.int .i64 3, .slice none 0 0]) (by simp [results, Tryd.results19, go_sem, e0, e1]) rfl HF.out

set_option maxHeartbeats 1000000 in
theorem implEncReply_any (a s c : Int) (w : World) : Calls Tryd.prog 12 #[.agg #[.int .i64 a, .int .i64 s, .int .i64 c]] w (BytesPost w (replyCode a s c) (repAns a s c)) := by
  have HI := Lib.hid (fun w' => implReplyFault_any a s c w')
  have hx := (BoxL.new w [.int .i64 a, .int .i64 s, .int .i64 c] #[.int .i64 a, .int .i64 s, .int .i64 c] 36 rfl).below ((Below.refl _ _).alloc (Nat.le_refl _) (.cells #[.int .i64 0, .slice none 0 0] 29))
  have hr := BoxL.new (w.alloc (.cells #[.int .i64 a, .int .i64 s, .int .i64 c] 36)) [.int .i64 0, .slice none 0 0] #[.int .i64 0, .slice none 0 0] 29 rfl
  have hb : Below w.heap.size w ((w.alloc (.cells #[.int .i64 a, .int .i64 s, .int .i64 c] 36)).alloc (.cells #[.int .i64 0, .slice none 0 0] 29)) := ((Below.refl _ _).alloc (Nat.le_refl _) _).alloc (by simp) _
  simp only [World.size_alloc] at hr
  have HX := Lib.hid hx
  have HRB := Lib.hid hr
  have HB := Lib.hid hb
  clear hx hr hb
  by_cases h : (0 ≤ a ∧ a ≤ 9000) ∧ stampsOk s c
  · have hp := replyCode_ok h
    rw [hp] at HI
    unfold repAns
    rw [hp, if_pos rfl]
    obtain ⟨ha, hs, hc⟩ := h
    generalize hZ : repL a s c = Z at *
    have HZ := Lib.hid hZ
    clear hZ hp
    go_enter Tryd.func12, Tryd.ntmps12
    go_wp2_with fail
    refine (HI.out _).mono ?_
    rintro e w1 ⟨rfl, b1⟩
    have hx := HX.out.below b1
    have hr := HRB.out.below b1
    have hb := HB.out.trans (b1.mono HB.out.size)
    have zz := b1.size
    simp only [World.size_alloc] at zz
    have x0 := hx.at_ 0 _ rfl
    have x1 := hx.at_ 1 _ rfl
    have x2 := hx.at_ 2 _ rfl
    clear b1
    go_wp2_with fail
    refine (startBytes_any a s c _ (by omega) (by omega) (by omega)).mono ?_
    rintro e w2 ⟨g, cap, rfl, ho, b2⟩
    clear x0 x1 x2
    replace hr := hr.below b2
    replace hb := hb.trans (b2.mono hb.size)
    rw [HZ.out] at ho
    obtain ⟨e0, e1, HF⟩ := bytes_done (cd := 0) hr (ho.down (by omega)) hb (by omega)
    have c0 := hr.at_ 0 _ rfl
    have c1 := hr.at_ 1 _ rfl
    have f0 := hr.fz 0
    have f1 := hr.fz 1
    clear hr hb hx ho b2
    go_wp2_with fail
    exact bodyPost_ret (v := .agg #[.int .i64 0, .slice (some ⟨g, 0, none⟩) 9 cap]) (by simp [results, Tryd.results12, go_sem, e0, e1]) rfl HF.out
  · have hp := replyCode_no h
    rw [hp] at HI
    unfold repAns
    rw [hp, if_neg (by decide)]
    clear h hp
    go_enter Tryd.func12, Tryd.ntmps12
    go_wp2_with fail
    refine (HI.out _).mono ?_
    rintro e w1 ⟨rfl, b1⟩
    have hr := HRB.out.below b1
    have hb := HB.out.trans (b1.mono HB.out.size)
    have zz := b1.size
    simp only [World.size_alloc] at zz
    clear b1
    obtain ⟨e0, e1, HF⟩ := bytes_fail (cd := 3) hr hb (by omega)
    have c0 := hr.at_ 0 _ rfl
    have c1 := hr.at_ 1 _ rfl
    have f0 := hr.fz 0
    have f1 := hr.fz 1
    clear hr hb
    go_wp2_with fail
    exact bodyPost_ret (v := .agg #[.int .i64 3, .slice none 0 0]) (by simp [results, Tryd.results12, go_sem, e0, e1]) rfl HF.out
end Go.Proofs.YtjdkaaepbkkchaaDoor
