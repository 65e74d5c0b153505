/-
  Small words for the exact laws of functions that answer a code and bytes.
-/
import Derived.Test.YtpnpjngaenlciaaDoorBR
namespace Go.Proofs.YtpnpjngaenlciaaDoor
open Go.RowKit
set_option linter.unusedVariables false
set_option maxRecDepth 100000

/-- An answer with a code and bytes of its own. -/
def BAns (w : World) (p : Int) (zs : List Int) (e : Ending) (w' : World) : Prop :=
  ∃ G cap, e = .returned (.agg #[.int .i64 p, .slice G zs.length cap]) ∧ zs.length ≤ cap ∧ Wr w' w.heap.size w'.heap.size G zs.length zs ∧ Below w.heap.size w w'
theorem BAns.fault {w w' : World} {p : Int} (h : Below w.heap.size w w') : BAns w p [] (.returned (.agg #[.int .i64 p, .slice none 0 0])) w' :=
  ⟨none, 0, rfl, Nat.le_refl _, Wr.empty_top _ none, h⟩
theorem bans_at {P : Program} {f : FuncId} {args : Array Value} {w : World} {p p' : Int} {zs zs' : List Int} (h : Calls P f args w (BAns w p zs)) (hp : p = p') (hz : zs = zs') : Calls P f args w (BAns w p' zs') := by
  subst hp hz; exact h
theorem Wr.rd0 {w : World} {lo hi n : Nat} {A : Option Addr} {xs : List Int} (h : Wr w lo hi A n xs) : Rd w 0 hi A n xs := h.1.wide (Nat.zero_le _) (Nat.le_refl _) h.1.top
theorem Rd.rd0 {w : World} {lo hi n : Nat} {A : Option Addr} {xs : List Int} (h : Rd w lo hi A n xs) : Rd w 0 hi A n xs := h.wide (Nat.zero_le _) (Nat.le_refl _) h.top
end Go.Proofs.YtpnpjngaenlciaaDoor
