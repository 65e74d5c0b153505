/-
  slices.Grow of nothing; slices.Concat of one slice of bytes.
-/
import Derived.Test.YtjdkaaepbkkchaaDoorApp
import Derived.Lib.AppendZerosOnto
import Derived.Lib.Walk
import Derived.Lib.SliceRun
namespace Go.Proofs.YtjdkaaepbkkchaaDoor
open Go.RowKit
set_option linter.unusedVariables false
set_option maxRecDepth 100000

/-- slices.Grow of nothing: new room. -/
theorem grow_nil (n : Nat) (w : World) (h0 : 0 < n) (hb : n ≤ 140737488355328) :
    Calls Tryd.prog 63 #[.slice none 0 0, .int .i64 (n : Int)] w fun e w' => ∃ g c, e = .returned (.slice (some ⟨g, 0, none⟩) 0 c) ∧ w.heap.size ≤ g ∧ w'.ownsRow w.heap.size 5 1 (.slice (some ⟨g, 0, none⟩) 0 c) 0 [] ∧ Below w.heap.size w w' := by
  obtain ⟨i0, hi0, hz0, hz1, hz2⟩ := info_parts info_u8
  have hrz : ∀ ty, (Builtin.append_ #[22, 3] ty #[.slice none 0 0, .int .i64 (n : Int)]).run Tryd.prog w =
      .ok (.slice (some ⟨w.heap.size, 0, none⟩) n (grownCap w n 0 5)) (w.drew.alloc (.cells (([] : List Value).toArray ++ Builtin.zeroCells #[.int .u8 0] n ++ Builtin.zeroCells #[.int .u8 0] (grownCap w n 0 5 - n)) 5)) := fun ty => by
    have h := Lib.run_append_grow_zeros w 22 3 ty 5 i0 (.int .u8 0) .i64 .i64 Tryd.underlying22 Tryd.underlying3 hi0 hz0 none 0 0 [] (by simp [Builtin.firstCells]) n h0 (by omega) (by omega) (by omega)
      (by rw [hz2]; omega) (by rw [hz2]; exact growslice_fits (by omega) (by omega))
    simpa [Value.cells] using h
  have hGn : n ≤ grownCap w n 0 5 := grownCap_ge w _ _ _
  have hGm : grownCap w n 0 5 ≤ maxLen := grownCap_le_maxLen w n 0 5 (by unfold maxLen; omega)
  generalize grownCap w n 0 5 = G at *
  have hG63 : G ≤ 9223372036854775807 := by unfold maxLen at hGm; omega
  have h1 : ¬ ((n : Int) < 0) := by omega
  have h2 : (0 : Int) < (n : Int) := by omega
  go_enter Tryd.func63, Tryd.ntmps63
  go_wp2_with (at_builtin; refine Lib.wpList_append_run _ rfl _ _ _ _ rfl _ _ rfl rfl _ _ (hrz _) ?_)
  have hown : ((w.alloc (.cells (Builtin.zeroCells #[.int .u8 0] n ++ Builtin.zeroCells #[.int .u8 0] (G - n)) 5)).drew).ownsRow w.heap.size 5 1 (.slice (some ⟨w.heap.size, 0, none⟩) 0 G) 0 [] :=
    World.ownsRow_made w _ G (Nat.le_refl _) hGm (by simp [Builtin.zeroCells]; omega)
  have hbl : Below w.heap.size w ((w.alloc (.cells (Builtin.zeroCells #[.int .u8 0] n ++ Builtin.zeroCells #[.int .u8 0] (G - n)) 5)).drew) := by
    have := (Below.refl w.heap.size w).alloc (Nat.le_refl _) (.cells (Builtin.zeroCells #[.int .u8 0] n ++ Builtin.zeroCells #[.int .u8 0] (G - n)) 5)
    exact ⟨this.os, this.tape, this.output, this.size, this.block⟩
  go_ret
  exact ⟨_, _, rfl, Nat.le_refl _, hown, hbl⟩


theorem run_append_nil_empty {P : Program} {w : World} (t ty e : TypeId) (i : TypeInfo) (ht : P.underlying t = some (.slice e)) (hi : P.info? e = some i) (ad : Addr) (c : Nat) :
    (Builtin.append_ #[t, t] ty #[.slice none 0 0, .slice (some ad) 0 c]).run P w = .ok (.slice none 0 0) w := by
  simp [Builtin.append_, run_underlying ht, sizeOf, typeInfo, hi, Builtin.lenOf, Builtin.firstCells, loadCells, loadCellsFrom]
theorem wpList_append_nil_empty {P : Program} {w : World} {ops : Array Oper} {rest : List Oper} {o : Oper} {a : Act} {Q : Exit → Act → World → Prop} (hgd : o.guard = none) (s x : Operand) (t : TypeId)
    (ho : o.op = .call { callee := .builtin .append, args := #[s, x], argTypes := #[t, t] })
    (e : TypeId) (i : TypeInfo) (ht : P.underlying t = some (.slice e)) (hi : P.info? e = some i) (A : Option Addr) (c : Nat) (hA : A = none → c = 0)
    (hs : a.eval s = .slice none 0 0) (hx : a.eval x = .slice A 0 c)
    (h : wpList P ops Q rest (a.put o.dst (.slice none 0 0)) w) : wpList P ops Q (o :: rest) a w := by
  rcases A with _ | ad
  · obtain rfl : c = 0 := hA rfl
    exact wpList_append_own_none hgd s x t ho 0 e i 1 ht hi (.slice none 0 0) 0 [] hs ⟨rfl, .inl ⟨rfl, rfl⟩⟩ hx h
  · refine wpList_plain hgd fun K hK => ?_
    have hrun := run_append_nil_empty (P := P) (w := w) t o.type e i ht hi ad c
    unfold Oper.wp
    simp [execOp, ho, resolve, invoke, builtin, hs, hx, hrun, Result.andThen]
    exact hK _ _ h

set_option maxHeartbeats 400000 in
theorem grow_zero (w : World) : Calls Tryd.prog 63 #[.slice none 0 0, .int .i64 0] w fun e w' => e = .returned (.slice none 0 0) ∧ w = w' := by
  go_enter Tryd.func63, Tryd.ntmps63
  go_wp2_with fail
  go_ret
  exact ⟨rfl, rfl⟩

set_option maxHeartbeats 2000000 in
theorem concat1_any (sb c2 hi : Nat) (A : Option Addr) (n c : Nat) (xs : List Int) (w : World) (hsb : sb < w.heap.size) (hc0 : w.cell? ⟨sb, 0, none⟩ = some (.slice A n c)) (h : Rd w 0 hi A n xs) (hA : A = none → c = 0) (hn : n ≤ 4194304) :
    Calls Tryd.prog 32 #[.slice (some ⟨sb, 0, none⟩) 1 c2] w fun e w' => ∃ G cap, e = .returned (.slice G n cap) ∧ (G = none → cap = 0) ∧ Wr w' w.heap.size w'.heap.size G n xs ∧ Below w.heap.size w w' := by
  obtain ⟨i0, hi0, hz0, hz1, hz2⟩ := info_parts info_u8
  have htop := h.top
  by_cases hn0 : n = 0
  · subst hn0
    obtain rfl : xs = [] := List.eq_nil_of_length_eq_zero h.len
    have HF : Hid (∃ (G : Option Addr) (cap : Nat), Ending.returned (.slice none 0 0) = .returned (.slice G 0 cap) ∧ (G = none → cap = 0) ∧ Wr w w.heap.size w.heap.size G 0 [] ∧ Below w.heap.size w w) :=
      ⟨none, 0, rfl, fun _ => rfl, ⟨⟨rfl, Nat.zero_le _, Nat.le_refl _, by simp, fun h => absurd h (by omega)⟩, fun _ _ _ j hj => by omega⟩, Below.refl _ _⟩
    clear h
    go_enter Tryd.func32, Tryd.ntmps32
    go_wp2_with fail
    go_loopw [3, 5, 11] (fun s _ i wx => ((i = .int .i64 0 ∧ s = .int .i64 0) ∨ (i = .int .i64 1 ∧ s = .int .i64 0)) ∧ w = wx) (fun _ _ i _ => 1 - (intOf i).toNat)
    case atStart => exact ⟨.inl ⟨rfl, rfl⟩, rfl⟩
    case round =>
      obtain ⟨hcase, rfl⟩ := hrel
      rcases hcase with ⟨rfl, rfl⟩ | ⟨rfl, rfl⟩
      · go_wp2_with fail
        go_roundw
        case rel => exact ⟨.inr ⟨rfl, rfl⟩, trivial⟩
        case measure => simp [intOf]
      · go_wp2_with fail
        refine (grow_zero _).mono ?_
        rintro e w1 ⟨rfl, rfl⟩
        go_wp2_with fail
        go_loopw [6, 8, 27] (fun out _ i wx => ((i = .int .i64 0 ∧ out = .slice none 0 0) ∨ (i = .int .i64 1 ∧ out = .slice none 0 0)) ∧ w = wx) (fun _ _ i _ => 1 - (intOf i).toNat)
        case atStart => exact ⟨.inl ⟨rfl, rfl⟩, rfl⟩
        case round =>
          obtain ⟨hcase, rfl⟩ := hrel
          rcases hcase with ⟨rfl, rfl⟩ | ⟨rfl, rfl⟩
          · go_wp2_with (at_builtin; refine wpList_append_nil_empty rfl _ _ 22 rfl 5 i0 Tryd.underlying22 hi0 A c hA rfl rfl ?_)
            go_wp2_with fail
            go_roundw
            case rel => exact ⟨.inr ⟨rfl, rfl⟩, trivial⟩
            case measure => simp [intOf]
          · go_wp2_with fail
            go_ret
            exact HF.out
  · have hnp : 0 < n := by omega
    go_enter Tryd.func32, Tryd.ntmps32
    go_wp2_with fail
    go_loopw [3, 5, 11] (fun s _ i wx => ((i = .int .i64 0 ∧ s = .int .i64 0) ∨ (i = .int .i64 1 ∧ s = .int .i64 (n : Int))) ∧ w = wx) (fun _ _ i _ => 1 - (intOf i).toNat)
    case atStart => exact ⟨.inl ⟨rfl, rfl⟩, rfl⟩
    case round =>
      obtain ⟨hcase, rfl⟩ := hrel
      rcases hcase with ⟨rfl, rfl⟩ | ⟨rfl, rfl⟩
      · have j1 : ¬ (n : Int) < 0 := by omega
        go_wp2_with fail
        go_roundw
        case rel => exact ⟨.inr ⟨rfl, by go_num⟩, trivial⟩
        case measure => simp [intOf]
      · go_wp2_with fail
        refine (grow_nil n _ hnp (by omega)).mono ?_
        rintro e w1 ⟨g1, cap1, rfl, hg1, own1, b1⟩
        have h1 := h.keep (Keep.of_below b1 0 0) (by omega)
        have hc1 := (b1.cell (p := ⟨sb, 0, none⟩) hsb).trans hc0
        have z1 := b1.size
        clear h hc0
        go_wp2_with fail
        go_loopw [6, 8, 27] (fun out _ i wx => ∃ g cap' : Nat, ((i = .int .i64 0 ∧ out = .slice (some ⟨g, 0, none⟩) 0 cap' ∧ wx.ownsRow w.heap.size 5 1 (.slice (some ⟨g, 0, none⟩) 0 cap') 0 []) ∨
            (i = .int .i64 1 ∧ out = .slice (some ⟨g, 0, none⟩) n cap' ∧ wx.ownsRow w.heap.size 5 1 (.slice (some ⟨g, 0, none⟩) n cap') n (xs.map (Value.int .u8)))) ∧
            wx.cell? ⟨sb, 0, none⟩ = some (.slice A n c) ∧ Rd wx 0 hi A n xs ∧ Below w.heap.size w wx) (fun _ _ i _ => 1 - (intOf i).toNat)
        case atStart => exact ⟨g1, cap1, .inl ⟨rfl, rfl, own1⟩, hc1, h1, b1⟩
        case round =>
          obtain ⟨g, cap', hcase, hcc, hr, bo⟩ := hrel
          rcases hcase with ⟨rfl, rfl, own⟩ | ⟨rfl, rfl, own⟩
          · have hb1 := bo.size
            go_wp2_with (at_builtin; refine wpList_append_rd rfl _ _ 22 rfl w.heap.size 5 i0 (.int .u8 0) Tryd.underlying22 hi0 hz0 hz1 hz2 rfl g 0 cap' _ rfl own A n c _ _ xs rfl hr hA ?k1 ?k2 hb1 ?_)
            case k1 => unfold maxLen; omega
            case k2 => omega
            intro g6 cap6 w6 own6 grow6 hat6
            have hgl := (own.lt g rfl).1
            have kg := Keep.of_append grow6
            have hr6 := hr.keep kg (by omega)
            have hcl := World.block_lt_of_cell? wr _ hcc
            have hc6 := (kg.cell (p := ⟨sb, 0, none⟩) hcl (by show sb < g ∨ g + 1 ≤ sb; omega)).trans hcc
            have b6 : Below w.heap.size w w6 := bo.grown grow6 hb1 (fun q hq => by simp at hq; omega)
            have own6' : w6.ownsRow w.heap.size 5 1 (.slice (some ⟨g6, 0, none⟩) n cap6) n (xs.map (Value.int .u8)) := by
              simpa using own6
            have HO := Lib.hid own6'
            have HB6 := Lib.hid b6
            have HR6 := Lib.hid hr6
            have HC6 := Lib.hid hc6
            clear own6 own6' b6 grow6 hat6 own bo hr6 hr hcc hc6 h1 b1 hc1
            go_wp2_with fail
            go_roundw
            case rel => exact ⟨g6, cap6, .inr ⟨rfl, rfl, HO.out⟩, HC6.out, HR6.out, HB6.out⟩
            case measure => simp [intOf]
          · have hby := hr.byte
            have hmx := hr.max
            have HF : Hid (∃ (G : Option Addr) (cap : Nat), Ending.returned (.slice (some ⟨g, 0, none⟩) n cap') = .returned (.slice G n cap) ∧ (G = none → cap = 0) ∧ Wr wr w.heap.size wr.heap.size G n xs ∧ Below w.heap.size w wr) :=
              ⟨_, cap', rfl, (fun e => by cases e), Wr.of_own own hmx hby, bo⟩
            clear own bo hr hcc h1 b1 hc1
            go_wp2_with fail
            go_ret
            exact HF.out
end Go.Proofs.YtjdkaaepbkkchaaDoor
