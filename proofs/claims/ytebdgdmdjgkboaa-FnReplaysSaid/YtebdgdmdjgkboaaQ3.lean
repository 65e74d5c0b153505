/-
  impl.seenNumbers, impl.deleteOld: a map of numbers.
-/
import Derived.Test.YtebdgdmdjgkboaaQ2
import Derived.Test.YtebdgdmdjgkboaaVal
import Derived.Maps.RangeWalk
import Derived.Maps.OwnSet
import Derived.Lib.SlKeysI
namespace Go.Proofs.Ytebdgdmdjgkboaa
open Go.RowKit Go.Maps
set_option linter.unusedVariables false
set_option maxRecDepth 100000

/-- The elements of the map: true, all of them. -/
def trueE : Value → Option (DataW Unit × List MemPlace)
  | .bool true => some (.lit (.bool true), [])
  | _ => none
theorem trueE_mk : trueE (.bool true) = some (.lit (.bool true), []) := rfl
theorem trueE_inv {v : Value} {y : DataW Unit × List MemPlace} (h : trueE v = some y) : v = .bool true ∧ y = (.lit (.bool true), []) := by
  unfold trueE at h
  split at h
  · exact ⟨rfl, by cases h; rfl⟩
  · cases h
theorem trueE_inv' {v : Value} {y : DataW Unit × List MemPlace} (h : trueE v = some y) : ∃ c : Bool, v = .bool c := ⟨true, (trueE_inv h).1⟩
theorem keyed64 : Keyed Try.prog 2 := int_keyed Try.underlying2
theorem key64 {x : Int} (h : -9223372036854775808 ≤ x ∧ x ≤ 9223372036854775807) : keyOf Try.prog 2 (.int .i64 x) = some (.int .i64 x) :=
  keyOf_int_mk Try.underlying2 (by simpa [Lit.wf, IntKind.min, IntKind.max, IntKind.signed, IntKind.bits] using h)

/-- Block b is a map of at most n keys, which are the numbers of ks. -/
def SetM (w : World) (b n : Nat) (ks : List Int) : Prop :=
  ∃ D : DataW Unit, w.ownsMap Try.prog 2 trueE b n D ∧ ∀ x : Int, Maps.has D (.int .i64 x) = true ↔ x ∈ ks
theorem SetM.lt {w : World} {b n : Nat} {ks : List Int} (h : SetM w b n ks) : b < w.heap.size := by
  obtain ⟨D, h, _⟩ := h
  exact h.lt
theorem SetM.same {w : World} {b n : Nat} {ks ks' : List Int} (h : SetM w b n ks) (e : ∀ x, x ∈ ks ↔ x ∈ ks') : SetM w b n ks' := by
  obtain ⟨D, h, hk⟩ := h
  exact ⟨D, h, fun x => (hk x).trans (e x)⟩
theorem SetM.below {w w' : World} {b n : Nat} {ks : List Int} (h : SetM w b n ks) (hb : Below w.heap.size w w') : SetM w' b n ks := by
  have hl := h.lt
  obtain ⟨D, ⟨es, clock, h1, h2, h3, h4⟩, hk⟩ := h
  exact ⟨D, ⟨es, clock, (hb.block b hl).trans h1, h2, h3, h4⟩, hk⟩
theorem SetM.keep {w w' : World} {b n lo hi : Nat} {ks : List Int} (h : SetM w b n ks) (k : Keep lo hi w w') (ho : b < lo ∨ hi ≤ b) : SetM w' b n ks := by
  have hl := h.lt
  obtain ⟨D, ⟨es, clock, h1, h2, h3, h4⟩, hk⟩ := h
  exact ⟨D, ⟨es, clock, (k.block b hl ho).trans h1, h2, h3, h4⟩, hk⟩
theorem Keep.of_turned {w w' : World} {b : Nat} (h : w.mapTurned w' b) : Keep b (b + 1) w w' := by
  have hg := h.grown
  exact ⟨hg.os, hg.tape, hg.output, hg.size, fun i hi ho => hg.block i hi (fun e => by cases e; omega)⟩
theorem Keep.of_grownBy {w w' : World} {b : Nat} (hg : w.grownBy w' (some b)) : Keep b (b + 1) w w' :=
  ⟨hg.os, hg.tape, hg.output, hg.size, fun i hi ho => hg.block i hi (fun e => by cases e; omega)⟩
theorem lit_ne {x y : Int} (h : x ≠ y) : (Lit.int .i64 x) ≠ Lit.int .i64 y := fun e => h (by injection e)
theorem has_put {D : DataW Unit} (hD : IsMap D) (y x : Int) (d : DataW Unit) : has (D.put (.int .i64 y) d) (.int .i64 x) = true ↔ (x = y ∨ has D (.int .i64 x) = true) := by
  by_cases e : x = y
  · subst e
    rw [has_put_same hD (by exact trivial)]
    simp
  · rw [has_put_other (lit_ne e)]
    simp [e]
theorem has_del {D : DataW Unit} (y x : Int) : has (D.del (.int .i64 y)) (.int .i64 x) = true ↔ (x ≠ y ∧ has D (.int .i64 x) = true) := by
  by_cases e : x = y
  · subst e
    rw [has_del_same]
    simp
  · rw [has_del_other (lit_ne e)]
    simp [e]
/-- One more number. -/
theorem SetM.of_put {b n : Nat} {ks : List Int} {D : DataW Unit} {y : Int} {w1 : World} (h : ∀ x : Int, Maps.has D (.int .i64 x) = true ↔ x ∈ ks) (hD : IsMap D)
    (ho : w1.ownsMap Try.prog 2 trueE b n (D.put (.int .i64 y) (.lit (.bool true)))) : SetM w1 b n (y :: ks) :=
  ⟨_, ho, fun x => by rw [has_put hD, h x, List.mem_cons]⟩

theorem mem_take_succ {xs : List Int} {k : Nat} (hk : k < xs.length) (x : Int) : x ∈ xs.getD k 0 :: xs.take k ↔ x ∈ xs.take (k + 1) := by
  rw [take_snoc xs k hk]
  simp [List.mem_append, or_comm]

set_option maxHeartbeats 800000 in
theorem seenNumbers_any (t : Int) (A : Option Addr) (n c lo hi : Nat) (xs : List Int) (w : World) (h : Ri w lo hi A n xs) :
    Calls Try.prog 30 #[.agg #[.int .i64 t, .slice A n c]] w fun e w' => ∃ b, e = .returned (.map (some b)) ∧ w.heap.size ≤ b ∧ SetM w' b n xs ∧ Below w.heap.size w w' := by
  have hint := h.int
  have hmx := h.max
  have hl := h.len
  have htop := h.top
  have hmm := @run_makeMap Try.prog
  go_enter Try.func30, Try.ntmps30
  go_wp2_with fail
  go_loopw [10, 5] (fun i _ wr => ∃ k : Nat, k ≤ n ∧ i = .int .i64 (k : Int) ∧ SetM wr (w.heap.size + 1) k (xs.take k) ∧ Below w.heap.size w wr) (fun i _ _ => n - (RowKit.intOf i).toNat)
  case atStart =>
    refine ⟨0, Nat.zero_le _, rfl, ⟨.map [], ?_, fun x => by simp [Maps.has]⟩, ((Below.refl _ w).alloc (Nat.le_refl _) _).alloc (by simp) _⟩
    have hm := World.ownsMap_made (w.alloc (.cells #[.int .i64 t, .slice A n c] 26)) Try.prog 2 trueE
    simpa only [World.size_alloc] using hm
  case round =>
    obtain ⟨k, hk, rfl, hset, hbw⟩ := hrel
    by_cases hlt : k < n
    · obtain ⟨ab, off, rfl, _, hab, hc⟩ := h.at_ (by omega)
      have hck := (hbw.cell (p := ⟨ab, off + k, none⟩) (by show ab < _; omega)).trans (hc k hlt)
      have hbx := h.byteAt (j := k) hlt
      have i0 : (0 : Int) ≤ (k : Int) := by omega
      have i1 : (k : Int) < (n : Int) := by omega
      have hms := mem_take_succ (xs := xs) (k := k) (by omega)
      generalize xs.getD k 0 = x at *
      have hkey := key64 hbx
      obtain ⟨D, hown, hhas⟩ := hset
      have HH := Lib.hid hhas
      have HM := Lib.hid hms
      clear hhas hms hc
      go_wp2_with (at_mapUpdate; refine wpList_mapUpdate_in _ rfl _ _ _ 48 rfl 2 4 keyed64 Try.underlying48 trueE (w.heap.size + 1) k D rfl hown (by omega) _ _ (.int .i64 x) rfl rfl hkey (.lit (.bool true)) [] trueE_mk ?_; intro w1 hown1 hturn1)
      go_roundw
      case rel => exact ⟨k + 1, by omega, by go_num, (SetM.of_put HH.out hown.isMap hown1).same HM.out, hbw.trans ((Keep.of_turned hturn1).below (by omega) (by have := hbw.size; omega))⟩
      case measure => simp [RowKit.intOf]; omega
    · have ek : k = n := by omega
      have he : xs.take k = xs := List.take_of_length_le (by omega)
      rw [he, ek] at hset
      have HS := Lib.hid hset
      clear hset he ek
      go_wp2_with fail
      go_ret
      exact ⟨_, rfl, by omega, HS.out, hbw⟩

/-- The step of a range over such a map. -/
theorem wpList_next_set {P : Program} (w : World) {ops : Array Oper} {rest : List Oper} {o : Oper} {a : Act} {Q : Exit → Act → World → Prop}
    (hg : o.guard = none) (it : Operand) (hop : o.op = Op.next it false) (k : TypeId) (K : Keyed P k) (hk : P.underlying k = some (.int .i64)) (b r n : Nat) (D : DataW Unit) (left : Lit → Bool) (cnt : Nat)
    (hit : a.eval it = .pointer (some ⟨r, 0, none⟩)) (h : w.ranges P k trueE b r n D left cnt)
    (hDone : cnt = 0 → (∀ kl, left kl = false) → wpList P ops Q rest (a.put o.dst (.tuple #[.bool false])) w)
    (hMore : ∀ (x : Int) (w' : World) (cnt' : Nat), keyOf P k (.int .i64 x) = some (.int .i64 x) → left (.int .i64 x) = true → w'.ranges P k trueE b r n D (fun z => left z && !z.sameKey (.int .i64 x)) cnt' → cnt' < cnt →
      w.grownBy w' (some r) → w'.heap.size = w.heap.size → (Instr.entry (.pointer (some ⟨r, 0, none⟩))).run P w' = .ok (.tuple #[.int .i64 x, .bool true]) w' → wpList P ops Q rest (a.put o.dst (.tuple #[.bool true, .int .i64 x, .bool true])) w') :
    wpList P ops Q (o :: rest) a w :=
  wpList_next_ranges w hg it hop k K trueE (Value.int .i64) Value.bool (fun key kl hkey => by obtain ⟨x, rfl, _⟩ := Maps.keyOf_i64 hk hkey; exact ⟨x, rfl⟩) (fun v y hv => trueE_inv' hv) b r n D left cnt hit h hDone
    (fun x c kl y w' cnt' hkey hlk hv hat hrg hlt hgr hsz hen => by
      obtain ⟨x', ex, rfl, _⟩ := Maps.keyOf_i64 hk hkey
      obtain rfl : x = x' := by injection ex
      obtain ⟨ec, _⟩ := trueE_inv hv
      obtain rfl : c = true := by injection ec
      exact hMore x w' cnt' hkey hlk hrg hlt hgr hsz hen)

set_option maxHeartbeats 800000 in
theorem deleteOld_any (b n : Nat) (top : Int) (ks : List Int) (w : World) (h : SetM w b n ks) (ht : -1 ≤ top ∧ top ≤ 9999) :
    Calls Try.prog 31 #[.map (some b), .int .i64 top] w fun e w' => e = .returned (.tuple #[]) ∧ SetM w' b n (ks.filter fun x => decide (top - 32 < x)) ∧ Keep b (b + 1) w w' := by
  have hbl := h.lt
  obtain ⟨D0, hown, hhas⟩ := h
  have HH := Lib.hid hhas
  clear hhas
  go_enter Try.func31, Try.ntmps31
  go_wp2_with (at_range; refine wpList_range_own _ rfl _ 48 rfl 2 4 keyed64 Try.underlying48 _ b n _ rfl hown ?_; intro w0 hrg0 hg0 hs0)
  go_frame
  go_loopw [4] (fun _ wr => ∃ (D : DataW Unit) (left : Lit → Bool) (cnt : Nat), wr.ranges Try.prog 2 trueE b w.heap.size n D left cnt ∧ (∀ x : Int, has D (.int .i64 x) = true ↔ x ∈ ks ∧ (top - 32 < x ∨ left (.int .i64 x) = true)) ∧ Keep b (b + 1) w wr)
    (fun _ wr => wr.rangeLeft b w.heap.size)
  case atStart =>
    refine ⟨_, _, _, hrg0, fun x => ?_, ?_⟩
    · rw [← HH.out x]
      exact ⟨fun e => ⟨e, Or.inr e⟩, fun e => e.1⟩
    · exact Keep.of_grownBy (hg0.but (some b))
  case round =>
    obtain ⟨D, left, cnt, hrg, hks, hke⟩ := hrel
    have HK := Lib.hid hks
    clear hks
    go_wp2_with (at_next; refine wpList_next_set _ rfl _ rfl 2 keyed64 Try.underlying2 b w.heap.size n _ _ _ rfl hrg ?_ ?_)
    · intro _ hl0
      have HF : Hid (∀ x : Int, has D (.int .i64 x) = true ↔ x ∈ ks.filter fun x => decide (top - 32 < x)) := fun x => by
        rw [HK.out x, hl0]
        simp
      clear HK hl0
      go_wp2_with fail
      go_end0
      exact ⟨rfl, ⟨D, hrg.owns, HF.out⟩, hke⟩
    · intro x w1 cnt1 hkey hlk hrg1 hlt hg1 hs1 hen
      have hke1 : Keep b (b + 1) w w1 := ⟨hg1.os.trans hke.os, hg1.tape.trans hke.tape, hg1.output.trans hke.output, Nat.le_trans hke.size hg1.size, fun i hi ho => (hg1.block i (Nat.lt_of_lt_of_le hi hke.size) (fun e => by cases e; omega)).trans (hke.block i hi ho)⟩
      have HLK := Lib.hid hlk
      clear hlk hg1 hke
      by_cases hold : x ≤ top - 32
      · have hto := decide_eq_true hold
        have HN : Hid (∀ z : Int, has (D.del (.int .i64 x)) (.int .i64 z) = true ↔ z ∈ ks ∧ (top - 32 < z ∨ (left (.int .i64 z) && !(Lit.int .i64 z).sameKey (.int .i64 x)) = true)) := fun z => by
          rw [has_del, HK.out z]
          by_cases e : z = x
          · subst e
            simp [Lit.sameKey]
            intro _
            omega
          · have : (Lit.int .i64 z).sameKey (.int .i64 x) = false := sameKey_ne (lit_ne e)
            rw [this]
            simp [e]
        clear HK
        go_wp2_with (first
          | (at_delete; refine wpList_delete_ranges _ rfl _ _ 48 2 rfl 4 keyed64 Try.underlying48 _ b w.heap.size n _ _ _ rfl hrg1 _ _ rfl hkey ?_; intro w2 cnt2 hrg2 hle hturn; go_frame)
          | (go_at_call 43; refine (isTooOld_any top x _ true ht hto).mono ?_; rintro e w3 ⟨rfl, rfl⟩))
        rw [strike_twice] at hrg2
        go_roundw
        case rel => exact ⟨_, _, cnt2, hrg2, HN.out, hke1.trans (Keep.of_turned hturn)⟩
        case measure => rw [hrg2.left_eq, hrg.left_eq]; omega
      · have hto := decide_eq_false hold
        have HN : Hid (∀ z : Int, has D (.int .i64 z) = true ↔ z ∈ ks ∧ (top - 32 < z ∨ (left (.int .i64 z) && !(Lit.int .i64 z).sameKey (.int .i64 x)) = true)) := fun z => by
          rw [HK.out z]
          by_cases e : z = x
          · subst e
            simp [Lit.sameKey]
            intro _
            omega
          · have : (Lit.int .i64 z).sameKey (.int .i64 x) = false := sameKey_ne (lit_ne e)
            rw [this]
            simp
        clear HK
        go_wp2_with (go_at_call 43; refine (isTooOld_any top x _ false ht hto).mono ?_; rintro e w3 ⟨rfl, rfl⟩)
        go_roundw
        case rel => exact ⟨_, _, cnt1, hrg1, HN.out, hke1⟩
        case measure => rw [hrg1.left_eq, hrg.left_eq]; exact hlt
end Go.Proofs.Ytebdgdmdjgkboaa
