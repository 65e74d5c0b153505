/-
  The walk of FnTimers.
-/
import Derived.Test.YtlgpbnngepkkmaaK6
import Derived.Deep.CutRange
namespace Go.Proofs.Ytlgpbnngepkkmaa
open Go.RowKit
set_option linter.unusedVariables false
set_option maxRecDepth 100000

def Box4 (w : World) (b : Nat) (u0 u1 u2 u3 : Value) : Prop := b < w.heap.size ∧ w.cell? ⟨b, 0, none⟩ = some u0 ∧ w.cell? ⟨b, 1, none⟩ = some u1 ∧ w.cell? ⟨b, 2, none⟩ = some u2 ∧ w.cell? ⟨b, 3, none⟩ = some u3
theorem Box4.keep {w w' : World} {b lo hi : Nat} {u0 u1 u2 u3 : Value} (h : Box4 w b u0 u1 u2 u3) (k : Keep lo hi w w') (ho : b < lo ∨ hi ≤ b) : Box4 w' b u0 u1 u2 u3 :=
  ⟨Nat.lt_of_lt_of_le h.1 k.size, (k.cell h.1 ho).trans h.2.1, (k.cell h.1 ho).trans h.2.2.1, (k.cell h.1 ho).trans h.2.2.2.1, (k.cell h.1 ho).trans h.2.2.2.2⟩
theorem Box4.new (w : World) (u0 u1 u2 u3 : Value) (t : TypeId) : Box4 (w.alloc (.cells #[u0, u1, u2, u3] t)) w.heap.size u0 u1 u2 u3 := by
  refine ⟨by simp, ?_, ?_, ?_, ?_⟩ <;> simp [go_sem]
def Box5 (w : World) (b : Nat) (u0 u1 u2 u3 u4 : Value) : Prop := b < w.heap.size ∧ w.cell? ⟨b, 0, none⟩ = some u0 ∧ w.cell? ⟨b, 1, none⟩ = some u1 ∧ w.cell? ⟨b, 2, none⟩ = some u2 ∧ w.cell? ⟨b, 3, none⟩ = some u3 ∧ w.cell? ⟨b, 4, none⟩ = some u4
theorem Box5.keep {w w' : World} {b lo hi : Nat} {u0 u1 u2 u3 u4 : Value} (h : Box5 w b u0 u1 u2 u3 u4) (k : Keep lo hi w w') (ho : b < lo ∨ hi ≤ b) : Box5 w' b u0 u1 u2 u3 u4 :=
  ⟨Nat.lt_of_lt_of_le h.1 k.size, (k.cell h.1 ho).trans h.2.1, (k.cell h.1 ho).trans h.2.2.1, (k.cell h.1 ho).trans h.2.2.2.1, (k.cell h.1 ho).trans h.2.2.2.2.1, (k.cell h.1 ho).trans h.2.2.2.2.2⟩
theorem Box5.new (w : World) (u0 u1 u2 u3 u4 : Value) (t : TypeId) : Box5 (w.alloc (.cells #[u0, u1, u2, u3, u4] t)) w.heap.size u0 u1 u2 u3 u4 := by
  refine ⟨by simp, ?_, ?_, ?_, ?_, ?_⟩ <;> simp [go_sem]
theorem ans_form2 (k : Bool) (m s r ms : Int) : ∃ c k' m' s' r', sampAns k m s r ms = .agg #[.int .i64 c, .bool k', .int .i64 m', .int .i64 s', .int .i64 r'] ∧ (c = 0 → k' = true ∧ timerCode true m' s' r' = 0 ∧ 50 ≤ r' ∧ r' ≤ 1000) := by
  by_cases h : sampCode k m s r ms = 0
  · have ht : timerCode k m s r = 0 := by
      by_cases e : timerCode k m s r = 0
      · exact e
      · rw [samp_fault ms e] at h; exact h
    have hx : 0 ≤ ms ∧ ms ≤ 5000 := by
      by_cases e : 0 ≤ ms ∧ ms ≤ 5000
      · exact e
      · rw [samp_range ht e] at h; omega
    obtain ⟨⟨hm, hs, hr⟩, _⟩ := timer_zero ht
    exact ⟨_, _, _, _, _, ans_ok h, fun _ => ⟨rfl, timer_ok ⟨mean_bound hm hx, swing_bound hm hs hx, rto_bound _ _⟩ (by simp), rto_bound _ _⟩⟩
  · exact ⟨_, _, _, _, _, ans_bad h, fun e => absurd e h⟩
theorem stamp_in {n : Int} (h : 0 ≤ n ∧ n ≤ 1000000) : stampCode n = 0 ∧ stampAns n = n % 65536 := ⟨if_pos h, if_pos h⟩
theorem stamp_out {n : Int} (h : ¬ (0 ≤ n ∧ n ≤ 1000000)) : stampCode n = 3 ∧ stampAns n = 0 := ⟨if_neg h, if_neg h⟩
theorem passed_later {n d : Int} (h : 0 ≤ n) (hd : 0 ≤ d ∧ d < 5000) (hl : n + d ≤ 1000000) : passedCode (n + d) (n % 65536) = 0 ∧ passedAns (n + d) (n % 65536) = n + d - n := by
  have h1 : (0 ≤ n + d ∧ n + d ≤ 1000000) ∧ (0 ≤ n % 65536 ∧ n % 65536 ≤ 65535) := by omega
  exact ⟨if_pos h1, (if_pos h1).trans (by omega)⟩

set_option maxHeartbeats 8000000 in
theorem timers (A : Option Addr) (n c : Nat) (xs : List Int) (w : World) (h : Rd w 0 w.heap.size A n xs) :
    Calls Try.prog 4 #[.slice A n c] w fun e w' => e = .returned (.bool true) ∧ Below w.heap.size w w' := by
  have hint := h.int
  by_cases hn : 1048576 < n
  · go_enter Try.func4, Try.ntmps4
    go_wp2_with fail
    refine (lwBig_any A n c w true (decide_eq_true hn)).mono ?_
    rintro e w0 ⟨rfl, rfl⟩
    go_wp2_with fail
    go_ret
    exact ⟨rfl, Below.refl _ _⟩
  go_enter Try.func4, Try.ntmps4
  have bb := Below.refl w.heap.size w
  go_wp2_with fail
  refine (lwBig_any A n c w false (decide_eq_false hn)).mono ?_
  rintro e w0 ⟨rfl, rfl⟩
  go_wp2_with fail
  refine (drawSample_any A n c _ xs w h).mono ?_
  rintro e w1 ⟨k, m, s, r, ms, rfl, hb1⟩
  have hk1 := Keep.of_below hb1 0 0
  have hz1 := hb1.size
  replace h := h.keep hk1 (by omega)
  replace bb := bb.trans (hk1.below (by omega) bb.size)
  clear hb1 hk1
  have HSS := Lib.hid (fun w' => specSample_any k m s r ms w')
  have HSI := Lib.hid (fun w' => implSample_any k m s r ms w')
  have HTS := Lib.hid (fun w' => specTimerFault_any k m s r w')
  have HTI := Lib.hid (fun w' => implTimerFault_any k m s r w')
  obtain ⟨sc, sk, sm, ss, sr, hf, hprop⟩ := ans_form2 k m s r ms
  rw [hf] at HSS HSI
  generalize timerCode k m s r = tc at HTS HTI
  clear hf
  have HP := Lib.hid hprop
  clear hprop
  go_wp2_with fail
  have hk2 := (Keep.refl 0 0 w1).alloc (.cells #[.bool k, .int .i64 m, .int .i64 s, .int .i64 r] 52)
  have tb := Box4.new w1 (.bool k) (.int .i64 m) (.int .i64 s) (.int .i64 r) 52
  have hz2 : w1.heap.size + 1 ≤ (w1.alloc (.cells #[.bool k, .int .i64 m, .int .i64 s, .int .i64 r] 52)).heap.size := by simp
  replace h := h.keep hk2 (by omega)
  replace bb := bb.trans (hk2.below (by omega) bb.size)
  clear hk2
  generalize w1.alloc (.cells #[.bool k, .int .i64 m, .int .i64 s, .int .i64 r] 52) = w2 at *
  refine (HSI.out w2).mono ?_
  rintro e w3 ⟨rfl, hb3⟩
  have hk3 := Keep.of_below hb3 0 0
  have hz3 := hb3.size
  replace h := h.keep hk3 (by omega)
  replace tb := tb.keep hk3 (by omega)
  replace bb := bb.trans (hk3.below (by omega) bb.size)
  clear hb3 hk3
  go_wp2_with fail
  have hk4 := (Keep.refl 0 0 w3).alloc (.cells #[.int .i64 sc, .bool sk, .int .i64 sm, .int .i64 ss, .int .i64 sr] 56)
  have rb := Box5.new w3 (.int .i64 sc) (.bool sk) (.int .i64 sm) (.int .i64 ss) (.int .i64 sr) 56
  have hz4 : w3.heap.size + 1 ≤ (w3.alloc (.cells #[.int .i64 sc, .bool sk, .int .i64 sm, .int .i64 ss, .int .i64 sr] 56)).heap.size := by simp
  replace h := h.keep hk4 (by omega)
  replace tb := tb.keep hk4 (by omega)
  replace bb := bb.trans (hk4.below (by omega) bb.size)
  clear hk4
  generalize w3.alloc (.cells #[.int .i64 sc, .bool sk, .int .i64 sm, .int .i64 ss, .int .i64 sr] 56) = w4 at *
  refine (drawStamp_any A n c _ xs w4 h).mono ?_
  rintro e w5 ⟨nn, rfl, hnn, hb5⟩
  have hk5 := Keep.of_below hb5 0 0
  have hz5 := hb5.size
  replace h := h.keep hk5 (by omega)
  replace tb := tb.keep hk5 (by omega)
  replace rb := rb.keep hk5 (by omega)
  replace bb := bb.trans (hk5.below (by omega) bb.size)
  clear hb5 hk5
  have HXS := Lib.hid (fun w' => specStamp_any nn w')
  have HXI := Lib.hid (fun w' => implStamp_any nn w')
  obtain ⟨xc, hxc⟩ : ∃ x, stampCode nn = x := ⟨_, rfl⟩
  obtain ⟨xv, hxv⟩ : ∃ x, stampAns nn = x := ⟨_, rfl⟩
  rw [hxc, hxv] at HXS HXI
  have HXC := Lib.hid hxc
  have HXV := Lib.hid hxv
  clear hxc hxv
  go_wp2_with fail
  refine (HXI.out w5).mono ?_
  rintro e w6 ⟨rfl, hb6⟩
  have hk6 := Keep.of_below hb6 0 0
  have hz6 := hb6.size
  replace h := h.keep hk6 (by omega)
  replace tb := tb.keep hk6 (by omega)
  replace rb := rb.keep hk6 (by omega)
  replace bb := bb.trans (hk6.below (by omega) bb.size)
  clear hb6 hk6
  go_wp2_with fail
  have hk7 := (Keep.refl 0 0 w6).alloc (.cells #[.int .i64 xc, .int .i64 xv] 60)
  have xb := Box2.new w6 (.int .i64 xc) (.int .i64 xv) 60
  have hz7 : w6.heap.size + 1 ≤ (w6.alloc (.cells #[.int .i64 xc, .int .i64 xv] 60)).heap.size := by simp
  replace h := h.keep hk7 (by omega)
  replace tb := tb.keep hk7 (by omega)
  replace rb := rb.keep hk7 (by omega)
  replace bb := bb.trans (hk7.below (by omega) bb.size)
  clear hk7
  generalize w6.alloc (.cells #[.int .i64 xc, .int .i64 xv] 60) = w7 at *
  refine (drawPassed_any A n c _ xs w7 h).mono ?_
  rintro e w8 ⟨now, st, rfl, hb8⟩
  have hk8 := Keep.of_below hb8 0 0
  have hz8 := hb8.size
  replace h := h.keep hk8 (by omega)
  replace tb := tb.keep hk8 (by omega)
  replace rb := rb.keep hk8 (by omega)
  replace xb := xb.keep hk8 (by omega)
  replace bb := bb.trans (hk8.below (by omega) bb.size)
  clear hb8 hk8
  have HPS := Lib.hid (fun w' => specPassed_any now st w')
  have HPI := Lib.hid (fun w' => implPassed_any now st w')
  generalize passedCode now st = pc at HPS HPI
  generalize passedAns now st = pv at HPS HPI
  go_wp2_with fail
  refine (HPI.out w8).mono ?_
  rintro e w9 ⟨rfl, hb9⟩
  have hk9 := Keep.of_below hb9 0 0
  have hz9 := hb9.size
  replace h := h.keep hk9 (by omega)
  replace tb := tb.keep hk9 (by omega)
  replace rb := rb.keep hk9 (by omega)
  replace xb := xb.keep hk9 (by omega)
  replace bb := bb.trans (hk9.below (by omega) bb.size)
  clear hb9 hk9
  go_wp2_with fail
  have hk10 := (Keep.refl 0 0 w9).alloc (.cells #[.int .i64 pc, .int .i64 pv] 60)
  have pb := Box2.new w9 (.int .i64 pc) (.int .i64 pv) 60
  have hz10 : w9.heap.size + 1 ≤ (w9.alloc (.cells #[.int .i64 pc, .int .i64 pv] 60)).heap.size := by simp
  replace h := h.keep hk10 (by omega)
  replace tb := tb.keep hk10 (by omega)
  replace rb := rb.keep hk10 (by omega)
  replace xb := xb.keep hk10 (by omega)
  replace bb := bb.trans (hk10.below (by omega) bb.size)
  clear hk10
  generalize w9.alloc (.cells #[.int .i64 pc, .int .i64 pv] 60) = w10 at *
  go_upto_region 9 with fail
  go_cut [63] from 34 to 63 (fun sv wx => sv = .bool false ∧ Below w10.heap.size w10 wx)
  case first =>
    as_aux_lemma =>
      have bd : Below w10.heap.size w10 w10.drew := ⟨rfl, rfl, rfl, Nat.le_refl _, fun _ _ => rfl⟩
      have szd := bd.size
      have HS := Lib.hid (fun (w' : World) (kb : Below w10.heap.size w10 w') => (⟨(kb.cell tb.1).trans tb.2.1, (kb.cell tb.1).trans tb.2.2.1, (kb.cell tb.1).trans tb.2.2.2.1, (kb.cell tb.1).trans tb.2.2.2.2, (kb.cell rb.1).trans rb.2.1, (kb.cell rb.1).trans rb.2.2.1, (kb.cell rb.1).trans rb.2.2.2.1, (kb.cell rb.1).trans rb.2.2.2.2.1, (kb.cell rb.1).trans rb.2.2.2.2.2, (kb.cell xb.1).trans xb.2.1, (kb.cell xb.1).trans xb.2.2, (kb.cell pb.1).trans pb.2.1, (kb.cell pb.1).trans pb.2.2⟩ : w'.cell? ⟨w1.heap.size, 0, none⟩ = some (.bool k) ∧ w'.cell? ⟨w1.heap.size, 1, none⟩ = some (.int .i64 m) ∧ w'.cell? ⟨w1.heap.size, 2, none⟩ = some (.int .i64 s) ∧ w'.cell? ⟨w1.heap.size, 3, none⟩ = some (.int .i64 r) ∧ w'.cell? ⟨w3.heap.size, 0, none⟩ = some (.int .i64 sc) ∧ w'.cell? ⟨w3.heap.size, 1, none⟩ = some (.bool sk) ∧ w'.cell? ⟨w3.heap.size, 2, none⟩ = some (.int .i64 sm) ∧ w'.cell? ⟨w3.heap.size, 3, none⟩ = some (.int .i64 ss) ∧ w'.cell? ⟨w3.heap.size, 4, none⟩ = some (.int .i64 sr) ∧ w'.cell? ⟨w6.heap.size, 0, none⟩ = some (.int .i64 xc) ∧ w'.cell? ⟨w6.heap.size, 1, none⟩ = some (.int .i64 xv) ∧ w'.cell? ⟨w9.heap.size, 0, none⟩ = some (.int .i64 pc) ∧ w'.cell? ⟨w9.heap.size, 1, none⟩ = some (.int .i64 pv)))
      clear h tb rb xb pb bb
      try simp only [List.append_eq, List.cons_append, List.nil_append]
      refine wp_region_held_drew (S := fun w' => w'.cell? ⟨w1.heap.size, 0, none⟩ = some (.bool k) ∧ w'.cell? ⟨w1.heap.size, 1, none⟩ = some (.int .i64 m) ∧ w'.cell? ⟨w1.heap.size, 2, none⟩ = some (.int .i64 s) ∧ w'.cell? ⟨w1.heap.size, 3, none⟩ = some (.int .i64 r) ∧ w'.cell? ⟨w3.heap.size, 0, none⟩ = some (.int .i64 sc) ∧ w'.cell? ⟨w3.heap.size, 1, none⟩ = some (.bool sk) ∧ w'.cell? ⟨w3.heap.size, 2, none⟩ = some (.int .i64 sm) ∧ w'.cell? ⟨w3.heap.size, 3, none⟩ = some (.int .i64 ss) ∧ w'.cell? ⟨w3.heap.size, 4, none⟩ = some (.int .i64 sr) ∧ w'.cell? ⟨w6.heap.size, 0, none⟩ = some (.int .i64 xc) ∧ w'.cell? ⟨w6.heap.size, 1, none⟩ = some (.int .i64 xv) ∧ w'.cell? ⟨w9.heap.size, 0, none⟩ = some (.int .i64 pc) ∧ w'.cell? ⟨w9.heap.size, 1, none⟩ = some (.int .i64 pv)) (by kernel_rfl) ?sSn (fun hHeld0 => ?sRn)
      · try dsimp only
        first | exact HS.out _ bd | go_keep
      refine wpAnyH_take (i := 0) (oi := { dst := some 34, op := Op.load 56 (Operand.tmp 5), type := 56, pos := "laws.go:225", after := #[], guard := none }) (v := ?vn0) rfl (by as_aux_lemma => kernel_rfl) (by as_aux_lemma => kernel_rfl) (by as_aux_lemma => kernel_rfl) (fun _ _ _ h => h) (Or.inl ⟨(by as_aux_lemma => rfl), ?yn0⟩) (by assumption) ?rn0
      case yn0 =>
        intro w hSw
        (try dsimp only at hSw)
        go_simp
        (try with_reducible rfl)
      try simp only [Act.put, List.setIfInBounds_toArray, List.set_cons_zero, List.set_cons_succ]
      refine wpAnyH_take (i := 1) (oi := { dst := some 35, op := Op.load 52 (Operand.tmp 3), type := 52, pos := "laws.go:225", after := #[], guard := none }) (v := ?vn1) rfl (by as_aux_lemma => kernel_rfl) (by as_aux_lemma => kernel_rfl) (by as_aux_lemma => kernel_rfl) (fun _ _ _ h => h) (Or.inl ⟨(by as_aux_lemma => rfl), ?yn1⟩) (by assumption) ?rn1
      case yn1 =>
        intro w hSw
        (try dsimp only at hSw)
        go_simp
        (try with_reducible rfl)
      try simp only [Act.put, List.setIfInBounds_toArray, List.set_cons_zero, List.set_cons_succ]
      refine wpAnyH_take (i := 2) (oi := { dst := some 36, op := Op.move (Operand.tmp 4), type := 2, pos := "laws.go:225", after := #[], guard := none }) (v := ?vn2) rfl (by as_aux_lemma => kernel_rfl) (by as_aux_lemma => kernel_rfl) (by as_aux_lemma => kernel_rfl) (fun _ _ _ h => h) (Or.inl ⟨(by as_aux_lemma => rfl), ?yn2⟩) (by assumption) ?rn2
      case yn2 =>
        intro w hSw
        (try dsimp only at hSw)
        go_simp
        (try with_reducible rfl)
      try simp only [Act.put, List.setIfInBounds_toArray, List.set_cons_zero, List.set_cons_succ]
      refine wpAnyH_ready (rs := [3]) (by as_aux_lemma => kernel_rfl) (by simp) ?rn3
      refine AllReadyH.cons (o := { dst := some 37, op := Op.call { callee := Callee.value (Operand.func 37), args := #[Operand.tmp 35, Operand.tmp 36], argTypes := #[52, 2] }, type := 56, pos := "laws.go:225", after := #[{ on := 1, ground := Ground.data }, { on := 2, ground := Ground.data }], guard := none }) rfl (fun K hK => ?kn3) AllReadyH.nil
      go_simp
      (go_at_call 37; refine (HSS.out _).mono ?_; rintro e v ⟨rfl, hb⟩; replace bd := bd.trans (hb.mono bd.size); have szd := bd.size)
      (try go_wp2_with fail)
      refine hK.out _ _ ?sn3 (fun hHeld1 => ?tn3)
      · try dsimp only
        first | exact HS.out _ bd | go_keep
      clear hK K hHeld0
      try simp only [Act.put, List.setIfInBounds_toArray, List.set_cons_zero, List.set_cons_succ]
      refine wpAnyH_take (i := 4) (oi := { dst := some 38, op := Op.binOp BinOp.neq 56 (Operand.tmp 34) (Operand.tmp 37) 56, type := 4, pos := "laws.go:225", after := #[{ on := 0, ground := Ground.data }, { on := 3, ground := Ground.data }], guard := none }) (v := ?vn4) rfl (by as_aux_lemma => kernel_rfl) (by as_aux_lemma => kernel_rfl) (by as_aux_lemma => kernel_rfl) (fun _ _ _ h => h) (Or.inl ⟨(by as_aux_lemma => rfl), ?yn4⟩) (by assumption) ?rn4
      case yn4 =>
        intro w hSw
        (try dsimp only at hSw)
        go_simp
        (try with_reducible rfl)
      try simp only [Act.put, List.setIfInBounds_toArray, List.set_cons_zero, List.set_cons_succ]
      refine wpAnyH_take (i := 5) (oi := { dst := some 39, op := Op.move (Operand.tmp 38), type := 4, pos := "laws.go:225", after := #[{ on := 4, ground := Ground.data }, { on := 3, ground := Ground.chain }], guard := none }) (v := ?vn5) rfl (by as_aux_lemma => kernel_rfl) (by as_aux_lemma => kernel_rfl) (by as_aux_lemma => kernel_rfl) (fun _ _ _ h => h) (Or.inl ⟨(by as_aux_lemma => rfl), ?yn5⟩) (by assumption) ?rn5
      case yn5 =>
        intro w hSw
        (try dsimp only at hSw)
        go_simp
        (try with_reducible rfl)
      try simp only [Act.put, List.setIfInBounds_toArray, List.set_cons_zero, List.set_cons_succ]
      refine wpAnyH_take (i := 6) (oi := { dst := some 40, op := Op.load 60 (Operand.tmp 7), type := 60, pos := "laws.go:225", after := #[{ on := 5, ground := Ground.guard }], guard := some (5, false) }) (v := ?vn6) rfl (by as_aux_lemma => kernel_rfl) (by as_aux_lemma => kernel_rfl) (by as_aux_lemma => kernel_rfl) (fun _ _ _ h => h) (Or.inl ⟨(by as_aux_lemma => rfl), ?yn6⟩) (by assumption) ?rn6
      case yn6 =>
        intro w hSw
        (try dsimp only at hSw)
        go_simp
        (try with_reducible rfl)
      try simp only [Act.put, List.setIfInBounds_toArray, List.set_cons_zero, List.set_cons_succ]
      refine wpAnyH_take (i := 7) (oi := { dst := some 41, op := Op.move (Operand.tmp 6), type := 2, pos := "laws.go:225", after := #[{ on := 5, ground := Ground.guard }], guard := some (5, false) }) (v := ?vn7) rfl (by as_aux_lemma => kernel_rfl) (by as_aux_lemma => kernel_rfl) (by as_aux_lemma => kernel_rfl) (fun _ _ _ h => h) (Or.inl ⟨(by as_aux_lemma => rfl), ?yn7⟩) (by assumption) ?rn7
      case yn7 =>
        intro w hSw
        (try dsimp only at hSw)
        go_simp
        (try with_reducible rfl)
      try simp only [Act.put, List.setIfInBounds_toArray, List.set_cons_zero, List.set_cons_succ]
      refine wpAnyH_ready (rs := [8]) (by as_aux_lemma => kernel_rfl) (by simp) ?rn8
      refine AllReadyH.cons (o := { dst := some 42, op := Op.call { callee := Callee.value (Operand.func 38), args := #[Operand.tmp 41], argTypes := #[2] }, type := 60, pos := "laws.go:225", after := #[{ on := 7, ground := Ground.data }, { on := 5, ground := Ground.chain }, { on := 5, ground := Ground.guard }], guard := some (5, false) }) rfl (fun K hK => ?kn8) AllReadyH.nil
      go_simp
      (go_at_call 38; refine (HXS.out _).mono ?_; rintro e v ⟨rfl, hb⟩; replace bd := bd.trans (hb.mono bd.size); have szd := bd.size)
      (try go_wp2_with fail)
      refine hK.out _ _ ?sn8 (fun hHeld2 => ?tn8)
      · try dsimp only
        first | exact HS.out _ bd | go_keep
      clear hK K hHeld1
      try simp only [Act.put, List.setIfInBounds_toArray, List.set_cons_zero, List.set_cons_succ]
      as_aux_lemma =>
       refine wpAnyH_take (i := 9) (oi := { dst := some 43, op := Op.binOp BinOp.neq 60 (Operand.tmp 40) (Operand.tmp 42) 60, type := 4, pos := "laws.go:225", after := #[{ on := 6, ground := Ground.data }, { on := 8, ground := Ground.data }, { on := 5, ground := Ground.guard }], guard := some (5, false) }) (v := ?vn9) rfl (by as_aux_lemma => kernel_rfl) (by as_aux_lemma => kernel_rfl) (by as_aux_lemma => kernel_rfl) (fun _ _ _ h => h) (Or.inl ⟨(by as_aux_lemma => rfl), ?yn9⟩) (by assumption) ?rn9
       case yn9 =>
         intro w hSw
         (try dsimp only at hSw)
         go_simp
         (try with_reducible rfl)
       try simp only [Act.put, List.setIfInBounds_toArray, List.set_cons_zero, List.set_cons_succ]
       refine wpAnyH_take (i := 10) (oi := { dst := some 44, op := Op.pick (Operand.tmp 39) (Operand.const (Value.bool true)) (Operand.tmp 43), type := 4, pos := "laws.go:225", after := #[{ on := 5, ground := Ground.data }, { on := 9, ground := Ground.data }], guard := none }) (v := ?vn10) rfl (by as_aux_lemma => kernel_rfl) (by as_aux_lemma => kernel_rfl) (by as_aux_lemma => kernel_rfl) (fun _ _ _ h => h) (Or.inl ⟨(by as_aux_lemma => rfl), ?yn10⟩) (by assumption) ?rn10
       case yn10 =>
         intro w hSw
         (try dsimp only at hSw)
         go_simp
         (try with_reducible rfl)
       try simp only [Act.put, List.setIfInBounds_toArray, List.set_cons_zero, List.set_cons_succ]
       refine wpAnyH_take (i := 11) (oi := { dst := some 45, op := Op.move (Operand.tmp 44), type := 4, pos := "laws.go:225", after := #[{ on := 10, ground := Ground.data }, { on := 8, ground := Ground.chain }], guard := none }) (v := ?vn11) rfl (by as_aux_lemma => kernel_rfl) (by as_aux_lemma => kernel_rfl) (by as_aux_lemma => kernel_rfl) (fun _ _ _ h => h) (Or.inl ⟨(by as_aux_lemma => rfl), ?yn11⟩) (by assumption) ?rn11
       case yn11 =>
         intro w hSw
         (try dsimp only at hSw)
         go_simp
         (try with_reducible rfl)
       try simp only [Act.put, List.setIfInBounds_toArray, List.set_cons_zero, List.set_cons_succ]
       refine wpAnyH_take (i := 12) (oi := { dst := some 46, op := Op.load 60 (Operand.tmp 10), type := 60, pos := "laws.go:225", after := #[{ on := 11, ground := Ground.guard }], guard := some (11, false) }) (v := ?vn12) rfl (by as_aux_lemma => kernel_rfl) (by as_aux_lemma => kernel_rfl) (by as_aux_lemma => kernel_rfl) (fun _ _ _ h => h) (Or.inl ⟨(by as_aux_lemma => rfl), ?yn12⟩) (by assumption) ?rn12
       case yn12 =>
         intro w hSw
         (try dsimp only at hSw)
         go_simp
         (try with_reducible rfl)
       try simp only [Act.put, List.setIfInBounds_toArray, List.set_cons_zero, List.set_cons_succ]
       refine wpAnyH_take (i := 13) (oi := { dst := some 47, op := Op.move (Operand.tmp 8), type := 2, pos := "laws.go:225", after := #[{ on := 11, ground := Ground.guard }], guard := some (11, false) }) (v := ?vn13) rfl (by as_aux_lemma => kernel_rfl) (by as_aux_lemma => kernel_rfl) (by as_aux_lemma => kernel_rfl) (fun _ _ _ h => h) (Or.inl ⟨(by as_aux_lemma => rfl), ?yn13⟩) (by assumption) ?rn13
       case yn13 =>
         intro w hSw
         (try dsimp only at hSw)
         go_simp
         (try with_reducible rfl)
       try simp only [Act.put, List.setIfInBounds_toArray, List.set_cons_zero, List.set_cons_succ]
       refine wpAnyH_take (i := 14) (oi := { dst := some 48, op := Op.move (Operand.tmp 9), type := 2, pos := "laws.go:225", after := #[{ on := 11, ground := Ground.guard }], guard := some (11, false) }) (v := ?vn14) rfl (by as_aux_lemma => kernel_rfl) (by as_aux_lemma => kernel_rfl) (by as_aux_lemma => kernel_rfl) (fun _ _ _ h => h) (Or.inl ⟨(by as_aux_lemma => rfl), ?yn14⟩) (by assumption) ?rn14
       case yn14 =>
         intro w hSw
         (try dsimp only at hSw)
         go_simp
         (try with_reducible rfl)
       try simp only [Act.put, List.setIfInBounds_toArray, List.set_cons_zero, List.set_cons_succ]
       refine wpAnyH_ready (rs := [15]) (by as_aux_lemma => kernel_rfl) (by simp) ?rn15
       refine AllReadyH.cons (o := { dst := some 49, op := Op.call { callee := Callee.value (Operand.func 39), args := #[Operand.tmp 47, Operand.tmp 48], argTypes := #[2, 2] }, type := 60, pos := "laws.go:225", after := #[{ on := 13, ground := Ground.data }, { on := 14, ground := Ground.data }, { on := 11, ground := Ground.chain }, { on := 11, ground := Ground.guard }], guard := some (11, false) }) rfl (fun K hK => ?kn15) AllReadyH.nil
       go_simp
       (go_at_call 39; refine (HPS.out _).mono ?_; rintro e v ⟨rfl, hb⟩; replace bd := bd.trans (hb.mono bd.size); have szd := bd.size)
       (try go_wp2_with fail)
       refine hK.out _ _ ?sn15 (fun hHeld3 => ?tn15)
       · try dsimp only
         first | exact HS.out _ bd | go_keep
       clear hK K hHeld2
       try simp only [Act.put, List.setIfInBounds_toArray, List.set_cons_zero, List.set_cons_succ]
       refine wpAnyH_take (i := 16) (oi := { dst := some 50, op := Op.binOp BinOp.neq 60 (Operand.tmp 46) (Operand.tmp 49) 60, type := 4, pos := "laws.go:225", after := #[{ on := 12, ground := Ground.data }, { on := 15, ground := Ground.data }, { on := 11, ground := Ground.guard }], guard := some (11, false) }) (v := ?vn16) rfl (by as_aux_lemma => kernel_rfl) (by as_aux_lemma => kernel_rfl) (by as_aux_lemma => kernel_rfl) (fun _ _ _ h => h) (Or.inl ⟨(by as_aux_lemma => rfl), ?yn16⟩) (by assumption) ?rn16
       case yn16 =>
         intro w hSw
         (try dsimp only at hSw)
         go_simp
         (try with_reducible rfl)
       try simp only [Act.put, List.setIfInBounds_toArray, List.set_cons_zero, List.set_cons_succ]
       refine wpAnyH_take (i := 17) (oi := { dst := some 51, op := Op.pick (Operand.tmp 45) (Operand.const (Value.bool true)) (Operand.tmp 50), type := 4, pos := "laws.go:225", after := #[{ on := 11, ground := Ground.data }, { on := 16, ground := Ground.data }], guard := none }) (v := ?vn17) rfl (by as_aux_lemma => kernel_rfl) (by as_aux_lemma => kernel_rfl) (by as_aux_lemma => kernel_rfl) (fun _ _ _ h => h) (Or.inl ⟨(by as_aux_lemma => rfl), ?yn17⟩) (by assumption) ?rn17
       case yn17 =>
         intro w hSw
         (try dsimp only at hSw)
         go_simp
         (try with_reducible rfl)
       try simp only [Act.put, List.setIfInBounds_toArray, List.set_cons_zero, List.set_cons_succ]
       refine wpAnyH_take (i := 18) (oi := { dst := some 52, op := Op.move (Operand.tmp 51), type := 4, pos := "laws.go:225", after := #[{ on := 17, ground := Ground.data }, { on := 15, ground := Ground.chain }], guard := none }) (v := ?vn18) rfl (by as_aux_lemma => kernel_rfl) (by as_aux_lemma => kernel_rfl) (by as_aux_lemma => kernel_rfl) (fun _ _ _ h => h) (Or.inl ⟨(by as_aux_lemma => rfl), ?yn18⟩) (by assumption) ?rn18
       case yn18 =>
         intro w hSw
         (try dsimp only at hSw)
         go_simp
         (try with_reducible rfl)
       try simp only [Act.put, List.setIfInBounds_toArray, List.set_cons_zero, List.set_cons_succ]
       refine wpAnyH_take (i := 19) (oi := { dst := some 53, op := Op.load 52 (Operand.tmp 3), type := 52, pos := "laws.go:225", after := #[{ on := 18, ground := Ground.guard }], guard := some (18, false) }) (v := ?vn19) rfl (by as_aux_lemma => kernel_rfl) (by as_aux_lemma => kernel_rfl) (by as_aux_lemma => kernel_rfl) (fun _ _ _ h => h) (Or.inl ⟨(by as_aux_lemma => rfl), ?yn19⟩) (by assumption) ?rn19
       case yn19 =>
         intro w hSw
         (try dsimp only at hSw)
         go_simp
         (try with_reducible rfl)
       try simp only [Act.put, List.setIfInBounds_toArray, List.set_cons_zero, List.set_cons_succ]
       refine wpAnyH_take (i := 21) (oi := { dst := some 55, op := Op.load 52 (Operand.tmp 3), type := 52, pos := "laws.go:225", after := #[{ on := 18, ground := Ground.guard }], guard := some (18, false) }) (v := ?vn21) rfl (by as_aux_lemma => kernel_rfl) (by as_aux_lemma => kernel_rfl) (by as_aux_lemma => kernel_rfl) (fun _ _ _ h => h) (Or.inl ⟨(by as_aux_lemma => rfl), ?yn21⟩) (by assumption) ?rn21
       case yn21 =>
         intro w hSw
         (try dsimp only at hSw)
         go_simp
         (try with_reducible rfl)
       try simp only [Act.put, List.setIfInBounds_toArray, List.set_cons_zero, List.set_cons_succ]
       refine wpAnyH_ready (rs := [20]) (by as_aux_lemma => kernel_rfl) (by simp) ?rn20
       refine AllReadyH.cons (o := { dst := some 54, op := Op.call { callee := Callee.value (Operand.func 40), args := #[Operand.tmp 53], argTypes := #[52] }, type := 2, pos := "laws.go:225", after := #[{ on := 19, ground := Ground.data }, { on := 18, ground := Ground.chain }, { on := 18, ground := Ground.guard }], guard := some (18, false) }) rfl (fun K hK => ?kn20) AllReadyH.nil
       go_simp
       (go_at_call 40; refine (HTI.out _).mono ?_; rintro e v ⟨rfl, hb⟩; replace bd := bd.trans (hb.mono bd.size); have szd := bd.size)
       (try go_wp2_with fail)
       refine hK.out _ _ ?sn20 (fun hHeld4 => ?tn20)
       · try dsimp only
         first | exact HS.out _ bd | go_keep
       clear hK K hHeld3
       try simp only [Act.put, List.setIfInBounds_toArray, List.set_cons_zero, List.set_cons_succ]
       as_aux_lemma =>
        refine wpAnyH_ready (rs := [22]) (by as_aux_lemma => kernel_rfl) (by simp) ?rn22
        refine AllReadyH.cons (o := { dst := some 56, op := Op.call { callee := Callee.value (Operand.func 41), args := #[Operand.tmp 55], argTypes := #[52] }, type := 2, pos := "laws.go:225", after := #[{ on := 21, ground := Ground.data }, { on := 20, ground := Ground.chain }, { on := 18, ground := Ground.guard }], guard := some (18, false) }) rfl (fun K hK => ?kn22) AllReadyH.nil
        go_simp
        (go_at_call 41; refine (HTS.out _).mono ?_; rintro e v ⟨rfl, hb⟩; replace bd := bd.trans (hb.mono bd.size); have szd := bd.size)
        (try go_wp2_with fail)
        refine hK.out _ _ ?sn22 (fun hHeld5 => ?tn22)
        · try dsimp only
          first | exact HS.out _ bd | go_keep
        clear hK K hHeld4
        try simp only [Act.put, List.setIfInBounds_toArray, List.set_cons_zero, List.set_cons_succ]
        refine wpAnyH_take (i := 23) (oi := { dst := some 57, op := Op.binOp BinOp.neq 2 (Operand.tmp 54) (Operand.tmp 56) 2, type := 4, pos := "laws.go:225", after := #[{ on := 20, ground := Ground.data }, { on := 22, ground := Ground.data }, { on := 18, ground := Ground.guard }], guard := some (18, false) }) (v := ?vn23) rfl (by as_aux_lemma => kernel_rfl) (by as_aux_lemma => kernel_rfl) (by as_aux_lemma => kernel_rfl) (fun _ _ _ h => h) (Or.inl ⟨(by as_aux_lemma => rfl), ?yn23⟩) (by assumption) ?rn23
        case yn23 =>
          intro w hSw
          (try dsimp only at hSw)
          go_simp
          (try with_reducible rfl)
        try simp only [Act.put, List.setIfInBounds_toArray, List.set_cons_zero, List.set_cons_succ]
        refine wpAnyH_take (i := 24) (oi := { dst := some 58, op := Op.pick (Operand.tmp 52) (Operand.const (Value.bool true)) (Operand.tmp 57), type := 4, pos := "laws.go:225", after := #[{ on := 18, ground := Ground.data }, { on := 23, ground := Ground.data }], guard := none }) (v := ?vn24) rfl (by as_aux_lemma => kernel_rfl) (by as_aux_lemma => kernel_rfl) (by as_aux_lemma => kernel_rfl) (fun _ _ _ h => h) (Or.inl ⟨(by as_aux_lemma => rfl), ?yn24⟩) (by assumption) ?rn24
        case yn24 =>
          intro w hSw
          (try dsimp only at hSw)
          go_simp
          (try with_reducible rfl)
        try simp only [Act.put, List.setIfInBounds_toArray, List.set_cons_zero, List.set_cons_succ]
        refine wpAnyH_take (i := 25) (oi := { dst := some 59, op := Op.move (Operand.tmp 58), type := 4, pos := "laws.go:225", after := #[{ on := 24, ground := Ground.data }, { on := 22, ground := Ground.chain }], guard := none }) (v := ?vn25) rfl (by as_aux_lemma => kernel_rfl) (by as_aux_lemma => kernel_rfl) (by as_aux_lemma => kernel_rfl) (fun _ _ _ h => h) (Or.inl ⟨(by as_aux_lemma => rfl), ?yn25⟩) (by assumption) ?rn25
        case yn25 =>
          intro w hSw
          (try dsimp only at hSw)
          go_simp
          (try with_reducible rfl)
        try simp only [Act.put, List.setIfInBounds_toArray, List.set_cons_zero, List.set_cons_succ]
        refine wpAnyH_ready (rs := [26]) (by as_aux_lemma => kernel_rfl) (by simp) ?rn26
        refine AllReadyH.cons (o := { dst := some 60, op := Op.call { callee := Callee.value (Operand.func 42), args := #[], argTypes := #[] }, type := 56, pos := "laws.go:225", after := #[{ on := 25, ground := Ground.chain }, { on := 25, ground := Ground.guard }], guard := some (25, false) }) rfl (fun K hK => ?kn26) AllReadyH.nil
        go_simp
        (go_at_call 42; refine (implNewTimer_any _).mono ?_; rintro e v ⟨rfl, hb⟩; replace bd := bd.trans (hb.mono bd.size); have szd := bd.size)
        (try go_wp2_with fail)
        refine hK.out _ _ ?sn26 (fun hHeld6 => ?tn26)
        · try dsimp only
          first | exact HS.out _ bd | go_keep
        clear hK K hHeld5
        try simp only [Act.put, List.setIfInBounds_toArray, List.set_cons_zero, List.set_cons_succ]
        as_aux_lemma =>
         refine wpAnyH_ready (rs := [27]) (by as_aux_lemma => kernel_rfl) (by simp) ?rn27
         refine AllReadyH.cons (o := { dst := some 61, op := Op.call { callee := Callee.value (Operand.func 43), args := #[], argTypes := #[] }, type := 56, pos := "laws.go:225", after := #[{ on := 26, ground := Ground.chain }, { on := 25, ground := Ground.guard }], guard := some (25, false) }) rfl (fun K hK => ?kn27) AllReadyH.nil
         go_simp
         (go_at_call 43; refine (specNewTimer_any _).mono ?_; rintro e v ⟨rfl, hb⟩; replace bd := bd.trans (hb.mono bd.size); have szd := bd.size)
         (try go_wp2_with fail)
         refine hK.out _ _ ?sn27 (fun hHeld7 => ?tn27)
         · try dsimp only
           first | exact HS.out _ bd | go_keep
         clear hK K hHeld6
         try simp only [Act.put, List.setIfInBounds_toArray, List.set_cons_zero, List.set_cons_succ]
         refine wpAnyH_take (i := 28) (oi := { dst := some 62, op := Op.binOp BinOp.neq 56 (Operand.tmp 60) (Operand.tmp 61) 56, type := 4, pos := "laws.go:225", after := #[{ on := 26, ground := Ground.data }, { on := 27, ground := Ground.data }, { on := 25, ground := Ground.guard }], guard := some (25, false) }) (v := ?vn28) rfl (by as_aux_lemma => kernel_rfl) (by as_aux_lemma => kernel_rfl) (by as_aux_lemma => kernel_rfl) (fun _ _ _ h => h) (Or.inl ⟨(by as_aux_lemma => rfl), ?yn28⟩) (by assumption) ?rn28
         case yn28 =>
           intro w hSw
           (try dsimp only at hSw)
           go_simp
           (try with_reducible rfl)
         try simp only [Act.put, List.setIfInBounds_toArray, List.set_cons_zero, List.set_cons_succ]
         refine wpAnyH_take (i := 29) (oi := { dst := some 63, op := Op.pick (Operand.tmp 59) (Operand.const (Value.bool true)) (Operand.tmp 62), type := 4, pos := "laws.go:225", after := #[{ on := 25, ground := Ground.data }, { on := 28, ground := Ground.data }], guard := none }) (v := ?vn29) rfl (by as_aux_lemma => kernel_rfl) (by as_aux_lemma => kernel_rfl) (by as_aux_lemma => kernel_rfl) (fun _ _ _ h => h) (Or.inl ⟨(by as_aux_lemma => rfl), ?yn29⟩) (by assumption) ?rn29
         case yn29 =>
           intro w hSw
           (try dsimp only at hSw)
           go_simp
           (try with_reducible rfl)
         try simp only [Act.put, List.setIfInBounds_toArray, List.set_cons_zero, List.set_cons_succ]
         refine wpAnyH_done (by as_aux_lemma => kernel_rfl) ?en _
         go_wp2_with fail
         go_meet
         case rel => exact ⟨rfl, bd⟩
  case rest =>
  obtain ⟨rfl, hb11⟩ := hcut
  have hk11 := Keep.of_below hb11 0 0
  have hz11 := hb11.size
  replace h := h.keep hk11 (by omega)
  replace tb := tb.keep hk11 (by omega)
  replace rb := rb.keep hk11 (by omega)
  replace xb := xb.keep hk11 (by omega)
  replace pb := pb.keep hk11 (by omega)
  replace bb := bb.trans (hk11.below (by omega) bb.size)
  clear hb11 hk11
  generalize hwc11 : wc = w11 at *
  clear hwc11
  clear pb
  clear tb
  go_upto_region 11 with fail
  go_cut [90] from 64 to 90 (fun sv wx => sv = .bool false ∧ Below w11.heap.size w11 wx)
  case first =>
    have rl := rb.1
    have r0 := rb.2.1
    have r1 := rb.2.2.1
    have r2 := rb.2.2.2.1
    have r3 := rb.2.2.2.2.1
    have r4 := rb.2.2.2.2.2
    have bd := Below.refl w11.heap.size w11
    clear h rb xb bb
    by_cases hc0 : sc = 0
    · obtain ⟨e1, e2, e3, e4⟩ := HP.out hc0
      subst e1
      have hcb : (sc == 0) = true := by simp [hc0]
      clear hc0
      have HTF := Lib.hid (fun w' => implTimerFault_any true sm ss sr w')
      rw [e2] at HTF
      have n1 : ¬ sr < 50 := by omega
      have n2 : ¬ 1000 < sr := by omega
      go_wp2_with fail
      refine (HTF.out _).mono ?_
      rintro e v ⟨rfl, hb⟩
      replace bd := bd.trans hb
      replace r0 := (hb.cell rl).trans r0
      replace r1 := (hb.cell rl).trans r1
      replace r4 := (hb.cell rl).trans r4
      clear r2 r3
      go_wp2_with fail
      go_meet
      case rel => exact ⟨by simp; omega, bd⟩
    · have hcb : (sc == 0) = false := by simp [hc0]
      go_wp2_with fail
      go_meet
      case rel => exact ⟨rfl, bd⟩
  case rest =>
  obtain ⟨rfl, hb12⟩ := hcut
  have hk12 := Keep.of_below hb12 0 0
  have hz12 := hb12.size
  replace h := h.keep hk12 (by omega)
  replace rb := rb.keep hk12 (by omega)
  replace xb := xb.keep hk12 (by omega)
  replace bb := bb.trans (hk12.below (by omega) bb.size)
  clear hb12 hk12
  generalize hwc12 : wc = w12 at *
  clear hwc12
  go_wp2_with fail
  refine (lwAt3_any A n c _ _ xs w12 h).mono ?_
  rintro e w13 ⟨d, rfl, hd, hk13⟩
  have hz13 := hk13.size
  replace h := h.keep hk13 (by omega)
  replace rb := rb.keep hk13 (by omega)
  replace xb := xb.keep hk13 (by omega)
  replace bb := bb.trans (hk13.below (by omega) bb.size)
  clear hk13
  obtain ⟨La, hLa⟩ : ∃ x, nn + d = x := ⟨_, rfl⟩
  have hwL : IntKind.i64.wrap (nn + d) = La := by rw [IntKind.wrap_i64]; omega
  have hwD : IntKind.i64.wrap (La - nn) = La - nn := by rw [IntKind.wrap_i64]; omega
  have xlt := xb.1
  have x0 := xb.2.1
  have x1 := xb.2.2
  clear h rb xb
  by_cases hin : 0 ≤ nn ∧ nn ≤ 1000000
  · obtain ⟨y0, y1⟩ := stamp_in hin
    obtain rfl : 0 = xc := y0.symm.trans HXC.out
    by_cases hlt : 1000000 < La
    · clear hLa
      go_wp2_with fail
      go_ret
      exact ⟨rfl, bb⟩
    · have HPL := Lib.hid (fun w' => implPassed_any La xv w')
      obtain ⟨p0, p1⟩ := passed_later hin.1 hd (show nn + d ≤ 1000000 by omega)
      have hxv : nn % 65536 = xv := y1.symm.trans HXV.out
      rw [hLa, hxv] at p0 p1
      rw [p0, p1] at HPL
      clear hLa p0 p1 hxv y0 y1
      go_wp2_with fail
      refine (HPL.out _).mono ?_
      rintro e v ⟨rfl, hb⟩
      replace bb := bb.trans (hb.mono bb.size)
      go_wp2_with fail
      go_ret
      exact ⟨rfl, bb⟩
  · obtain ⟨y0, y1⟩ := stamp_out hin
    obtain rfl : 3 = xc := y0.symm.trans HXC.out
    clear hLa
    go_wp2_with fail
    go_ret
    exact ⟨rfl, bb⟩

end Go.Proofs.Ytlgpbnngepkkmaa
