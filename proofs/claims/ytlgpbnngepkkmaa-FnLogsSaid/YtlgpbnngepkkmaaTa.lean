/-
  What AddItem answers; a row of items and one more.
-/
import Derived.Test.YtlgpbnngepkkmaaV4
import Derived.Test.YtlgpbnngepkkmaaT15
namespace Go.Proofs.Ytlgpbnngepkkmaa
open Go.RowKit
set_option linter.unusedVariables false
set_option maxRecDepth 100000

/-- A log's answer: this code, this base, these items, in new memory. -/
def LogPost (w : World) (tc tb : Int) (tos : List Itm) (e : Ending) (w' : World) : Prop :=
  ∃ G m cap, e = .returned (.agg #[.int .i64 tc, .int .i64 tb, .slice G m cap]) ∧ Wt w' w.heap.size w'.heap.size G m tos ∧ Below w.heap.size w w'
def addCode (bs room : Int) (xs : List Itm) (x : Itm) : Int := if logCode bs room xs ≠ 0 then logCode bs room xs else if cdOf x ≠ 0 then cdOf x else if 9000 ≤ bs + (xs.length : Int) then 8 else if room ≤ (xs.length : Int) then 7 else 0
def addBase (bs room : Int) (xs : List Itm) (x : Itm) : Int := if addCode bs room xs x = 0 then bs else 0
def addOut (bs room : Int) (xs : List Itm) (x : Itm) : List Itm := if addCode bs room xs x = 0 then xs ++ [x] else []
/-- What an append leaves as it was. -/
theorem far_row' {W W1 : World} {o : Obj} {v : Value} (hg : (W.alloc o).grownBy W1 (Value.ownBlock v)) {p : Addr} (hp : p.block < W.heap.size) (hn : Value.ownBlock v ≠ some p.block) : W1.cell? p = W.cell? p ∧ W1.frozen? p = W.frozen? p := by
  have kB : W1.heap[p.block]? = W.heap[p.block]? := by
    rw [hg.block p.block (by simp; omega) (fun e => hn e.symm)]
    exact Below.heap_alloc _ _ _ hp
  exact ⟨World.cell?_of_block (w := W) kB, World.frozen?_of_block (w := W) kB⟩
end Go.Proofs.Ytlgpbnngepkkmaa
