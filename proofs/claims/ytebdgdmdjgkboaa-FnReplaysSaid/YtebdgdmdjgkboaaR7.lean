/-
  The model's l4Take.
-/
import Derived.Test.YtebdgdmdjgkboaaR5
import Derived.Test.YtebdgdmdjgkboaaVal
import Derived.OwnWalk
import Derived.Laws.AppendOwn
import Derived.RangeFuncBox
import Derived.StillTailTactics
namespace Go.Proofs.Ytebdgdmdjgkboaa
open Go.RowKit
set_option linter.unusedVariables false
set_option maxRecDepth 100000

def takeStep (m sq : Int) (s : Bool × List Int) (x : Int) : Bool × List Int :=
  (s.1 || decide (sq < x), s.2 ++ ((if s.1 = false ∧ sq < x then [sq] else []) ++ (if m - 32 < x then [x] else [])))
def takeSt (m sq : Int) (xs : List Int) : Bool × List Int := xs.foldl (takeStep m sq) (false, [])
def takeL (m sq : Int) (xs : List Int) : List Int := (takeSt m sq xs).2 ++ (if (takeSt m sq xs).1 then [] else [sq])
theorem takeSt_snoc (m sq : Int) (xs : List Int) (k : Nat) (hk : k < xs.length) : takeSt m sq (xs.take (k + 1)) = takeStep m sq (takeSt m sq (xs.take k)) (xs.getD k 0) := by
  unfold takeSt
  rw [take_snoc xs k hk, List.foldl_append]
  rfl
theorem takeSt_len (m sq : Int) (xs : List Int) : (takeSt m sq xs).2.length ≤ 2 * xs.length := by
  unfold takeSt
  suffices h : ∀ (ys : List Int) (s : Bool × List Int), (ys.foldl (takeStep m sq) s).2.length ≤ s.2.length + 2 * ys.length by simpa using h xs (false, [])
  intro ys
  induction ys with
  | nil => intro s; simp
  | cons y ys ih =>
    intro s
    have := ih (takeStep m sq s y)
    have h2 : (takeStep m sq s y).2.length ≤ s.2.length + 2 := by
      unfold takeStep
      simp only [List.length_append]
      split <;> split <;> simp
    simp only [List.foldl_cons, List.length_cons]
    omega

/-- The variable 'out' in block B: its Top, and the row that it holds of its own. -/
def OutB (W : World) (B : Nat) (m : Int) (zs : List Int) : Prop :=
  B < W.heap.size ∧ W.cell? ⟨B, 0, none⟩ = some (.int .i64 m) ∧ W.frozen? ⟨B, 0, none⟩ = false ∧ W.frozen? ⟨B, 1, none⟩ = false ∧
    ∃ A c, W.cell? ⟨B, 1, none⟩ = some (.slice A zs.length c) ∧ W.ownsRow (B + 1) 2 1 (.slice A zs.length c) zs.length (zs.map (Value.int .i64))
theorem OutB.keep {W W' : World} {B : Nat} {m : Int} {zs : List Int} (h : OutB W B m zs) (k : Keep 0 0 W W') : OutB W' B m zs := by
  obtain ⟨h1, h2, h3, h4, A, c, h5, h6⟩ := h
  exact ⟨Nat.lt_of_lt_of_le h1 k.size, (k.cell h1 (by show B < 0 ∨ 0 ≤ B; omega)).trans h2, (k.frozen h1 (by show B < 0 ∨ 0 ≤ B; omega)).trans h3, (k.frozen h1 (by show B < 0 ∨ 0 ≤ B; omega)).trans h4, A, c, (k.cell h1 (by show B < 0 ∨ 0 ≤ B; omega)).trans h5,
    h6.kept (row := none) ⟨k.os, k.tape, k.output, k.size, fun i hi _ => k.block i hi (by omega)⟩ (by cases hv : Value.ownBlock (.slice A zs.length c) with
      | none => exact .inl rfl
      | some q => exact .inr (by simp))⟩
/-- One more number is put on. -/
theorem OutB.push {W W1 : World} {B : Nat} {m : Int} {zs : List Int} {A : Option Addr} {c : Nat} {v' : Value} {o : Obj} (x : Int) (h1 : B < W.heap.size) (h2 : W.cell? ⟨B, 0, none⟩ = some (.int .i64 m)) (h3 : W.frozen? ⟨B, 0, none⟩ = false) (h4 : W.frozen? ⟨B, 1, none⟩ = false)
    (h5 : W.cell? ⟨B, 1, none⟩ = some (.slice A zs.length c)) (h6 : W.ownsRow (B + 1) 2 1 (.slice A zs.length c) zs.length (zs.map (Value.int .i64)))
    (hown : W1.ownsRow (B + 1) 2 1 v' (zs.length + 1) (zs.map (Value.int .i64) ++ [.int .i64 x])) (hg : (W.alloc o).grownBy W1 (Value.ownBlock (.slice A zs.length c))) :
    (∃ A' c', v' = .slice A' (zs.length + 1) c') ∧ W1.cell? ⟨B, 1, none⟩ = some (.slice A zs.length c) ∧ W1.frozen? ⟨B, 1, none⟩ = false ∧ OutB (W1.setCell ⟨B, 1, none⟩ v') B m (zs ++ [x]) ∧ Below B W (W1.setCell ⟨B, 1, none⟩ v') := by
  have hrow : ∀ q, Value.ownBlock (.slice A zs.length c) = some q → B + 1 ≤ q := fun q e => (h6.lt q e).1
  have kB : ∀ i, i < W.heap.size → i ≤ B → W1.heap[i]? = W.heap[i]? := fun i hi hb => by
    rw [hg.block i (by simp; omega) (fun e => by have := hrow i e.symm; omega)]
    exact Below.heap_alloc _ _ _ hi
  have hz : W.heap.size + 1 ≤ W1.heap.size := by have := hg.size; simpa using this
  have e0 : W1.cell? ⟨B, 0, none⟩ = some (.int .i64 m) := (World.cell?_of_block (w := W) (kB B h1 (Nat.le_refl _))).trans h2
  have e1 : W1.cell? ⟨B, 1, none⟩ = some (.slice A zs.length c) := (World.cell?_of_block (w := W) (kB B h1 (Nat.le_refl _))).trans h5
  have f0 : W1.frozen? ⟨B, 0, none⟩ = false := (World.frozen?_of_block (w := W) (kB B h1 (Nat.le_refl _))).trans h3
  have f1 : W1.frozen? ⟨B, 1, none⟩ = false := (World.frozen?_of_block (w := W) (kB B h1 (Nat.le_refl _))).trans h4
  obtain ⟨A', c', rfl⟩ : ∃ A' c', v' = .slice A' (zs.length + 1) c' := by
    rcases hown.2 with ⟨_, h0⟩ | ⟨g, cap, cur, rfl, _⟩
    · omega
    · exact ⟨_, _, rfl⟩
  have hl : (zs ++ [x]).length = zs.length + 1 := by simp
  have hrow' : ∀ q, Value.ownBlock (.slice A' (zs.length + 1) c') = some q → B + 1 ≤ q := fun q e => (hown.lt q e).1
  refine ⟨⟨_, _, rfl⟩, e1, f1, ⟨?_, ?_, ?_, ?_, A', c', ?_, ?_⟩, ?_⟩
  · simp [World.setCell]; omega
  · exact (World.cell?_setCell_other _ _ _ _ (by simp)).trans e0
  · rw [World.frozen?_setCell]; exact f0
  · rw [World.frozen?_setCell]; exact f1
  · rw [hl]; exact World.cell?_setCell_same _ _ _ e1
  · rw [hl, List.map_append]
    refine hown.kept (row := some B) ⟨rfl, rfl, rfl, by simp [World.setCell], fun i _ hi => Below.heap_setCell _ _ _ i (fun e => hi (by rw [e]))⟩ ?_
    cases hv : Value.ownBlock (.slice A' (zs.length + 1) c') with
    | none => exact .inl rfl
    | some q => exact .inr (fun e => by cases e; have := hrow' _ hv; omega)
  · have hb1 : Below B W W1 := ((Below.refl B W).alloc (by omega) o).grown hg (by simp; omega) (fun q e => by have := hrow q e; omega)
    exact hb1.setCell (p := ⟨B, 1, none⟩) (Nat.le_refl _) _

theorem takeSt_wf (m sq : Int) (xs : List Int) (hx : ∀ x ∈ xs, -9223372036854775808 ≤ x ∧ x ≤ 9223372036854775807) (hs : -9223372036854775808 ≤ sq ∧ sq ≤ 9223372036854775807) : ∀ x ∈ (takeSt m sq xs).2, -9223372036854775808 ≤ x ∧ x ≤ 9223372036854775807 := by
  unfold takeSt
  suffices h : ∀ (ys : List Int) (s : Bool × List Int), (∀ y ∈ ys, -9223372036854775808 ≤ y ∧ y ≤ 9223372036854775807) → (∀ y ∈ s.2, -9223372036854775808 ≤ y ∧ y ≤ 9223372036854775807) → ∀ y ∈ (ys.foldl (takeStep m sq) s).2, -9223372036854775808 ≤ y ∧ y ≤ 9223372036854775807 from h xs (false, []) hx (by simp)
  intro ys
  induction ys with
  | nil => intro s _ h; exact h
  | cons y ys ih =>
    intro s h1 h2
    refine ih _ (fun z hz => h1 z (List.mem_cons_of_mem _ hz)) ?_
    intro z hz
    unfold takeStep at hz
    simp only [List.mem_append] at hz
    rcases hz with hz | hz | hz
    · exact h2 z hz
    · split at hz
      · rw [List.mem_singleton.1 hz]; exact hs
      · cases hz
    · split at hz
      · rw [List.mem_singleton.1 hz]; exact h1 y (List.mem_cons_self ..)
      · cases hz
theorem takeStep_eq {m sq x : Int} {s : Bool × List Int} : takeStep m sq s x = (s.1 || decide (sq < x), s.2 ++ ((if s.1 = false ∧ sq < x then [sq] else []) ++ (if m - 32 < x then [x] else []))) := rfl

set_option maxHeartbeats 400000 in
theorem l1Max_any (a b : Int) (w : World) : Calls Try.prog 60 #[.int .i64 a, .int .i64 b] w fun e w' => e = .returned (.int .i64 (max a b)) ∧ w = w' := by
  by_cases h : b < a
  · have HR : Hid (a = max a b) := by show _ = _; omega
    go_enter Try.func60, Try.ntmps60
    go_wp2_with fail
    go_ret
    exact ⟨ret_i64 HR.out, rfl⟩
  · have HR : Hid (b = max a b) := by show _ = _; omega
    go_enter Try.func60, Try.ntmps60
    go_wp2_with fail
    go_ret
    exact ⟨ret_i64 HR.out, rfl⟩
end Go.Proofs.Ytebdgdmdjgkboaa
