/-
  The model's HideBytes, TagOf, SealPacket, HeadOf, OpenPacket.
-/
import Derived.Test.YtpnpjngaenlciaaS1
import Derived.Test.YtpnpjngaenlciaaPut2
import Derived.Test.YtpnpjngaenlciaaLwS
import Derived.Deep.RegionHeld3
namespace Go.Proofs.Ytpnpjngaenlciaa
open Go.RowKit
set_option linter.unusedVariables false
set_option maxRecDepth 100000

/-- The bytes of an answer: none beside a code. -/
def ansOf (c : Int) (zs : List Int) : List Int := if c = 0 then zs else []
theorem ansOf_zero (zs : List Int) : ansOf 0 zs = zs := rfl
theorem ansOf_bad {c : Int} (h : c ≠ 0) (zs : List Int) : ansOf c zs = [] := if_neg h
theorem ansOf_len (c : Int) (zs : List Int) : (ansOf c zs).length ≤ zs.length := by unfold ansOf; split <;> simp
def hideCode (nk nh n : Nat) : Int := if nk ≠ 32 ∨ nh ≠ 5 then 3 else if 120 < n then 2 else 0
def tagCode (nk n : Nat) : Int := if nk ≠ 32 then 3 else if 300 < n then 2 else 0
def sideOk (sd : Int) : Prop := sd = 0 ∨ sd = 1
instance (sd : Int) : Decidable (sideOk sd) := by unfold sideOk; infer_instance
def sealCode (nk n : Nat) (sd sq : Int) : Int := if nk ≠ 32 ∨ ¬ sideOk sd ∨ ¬ (0 ≤ sq ∧ sq ≤ 9999) then 3 else if 120 < n then 2 else 0
/-- What a packet's head says: the code, the side, the number. -/
def hdSide (ps : List Int) : Int := ps.getD 0 0
def hdSeq (ps : List Int) : Int := val (part ps 1 4)
def headCode (ps : List Int) : Int := if ps.length < 13 ∨ 133 < ps.length then 2 else if ¬ sideOk (hdSide ps) ∨ 9999 < hdSeq ps then 5 else 0
def bodyOf (ps : List Int) : List Int := ps.take (ps.length - 8)
def tagOf (ps : List Int) : List Int := ps.drop (ps.length - 8)
def openCode (nk : Nat) (ks ps : List Int) : Int := if nk ≠ 32 then 3 else if headCode ps ≠ 0 then headCode ps else if tagL ks (bodyOf ps) ≠ tagOf ps then 6 else 0
def openL (ks ps : List Int) : List Int := hideL ks (ps.take 5) (part ps 5 (ps.length - 13))
def zeroOr (c : Int) (x : Int) : Int := if c = 0 then x else 0

/-- An answer with a code, a side, a number and bytes of its own. -/
def PAns (w : World) (p sd sq : Int) (zs : List Int) (e : Ending) (w' : World) : Prop :=
  ∃ G cap, e = .returned (.agg #[.int .i64 p, .int .i64 sd, .int .i64 sq, .slice G zs.length cap]) ∧ zs.length ≤ cap ∧ Wr w' w.heap.size w'.heap.size G zs.length zs ∧ Below w.heap.size w w'
theorem PAns.fault {w w' : World} {p sd sq : Int} (h : Below w.heap.size w w') : PAns w p sd sq [] (.returned (.agg #[.int .i64 p, .int .i64 sd, .int .i64 sq, .slice none 0 0])) w' :=
  ⟨none, 0, rfl, Nat.le_refl _, Wr.empty_top _ none, h⟩
theorem pans_at {P : Program} {f : FuncId} {args : Array Value} {w : World} {p p' sd sd' sq sq' : Int} {zs zs' : List Int} (h : Calls P f args w (PAns w p sd sq zs)) (hp : p = p') (hs : sd = sd') (hq : sq = sq') (hz : zs = zs') : Calls P f args w (PAns w p' sd' sq' zs') := by
  subst hp hs hq hz; exact h

set_option maxHeartbeats 400000 in
theorem l3Side_any (sd : Int) (w : World) (r : Bool) (hr : decide (sideOk sd) = r) :
    Calls Try.prog 13 #[.int .i64 sd] w fun e w' => e = .returned (.bool r) ∧ w = w' := by
  subst hr
  by_cases h0 : sd = 0
  · subst h0
    go_enter Try.func13, Try.ntmps13
    go_wp2_with fail
    go_ret
    exact ⟨ret_bool (by simp [sideOk]), rfl⟩
  · go_enter Try.func13, Try.ntmps13
    go_wp2_with fail
    go_ret
    exact ⟨ret_bool (by rw [Bool.eq_iff_iff]; simp [sideOk, h0]), rfl⟩

theorem BAns.of_len {w w' : World} {p : Int} {zs : List Int} {n g cap : Nat} (hl : zs.length = n) (hc : n ≤ cap) (h : Wr w' w.heap.size w'.heap.size (some ⟨g, 0, none⟩) n zs) (hb : Below w.heap.size w w') : BAns w p zs (.returned (.agg #[.int .i64 p, .slice (some ⟨g, 0, none⟩) n cap])) w' := by
  subst hl
  exact ⟨_, _, rfl, hc, h, hb⟩




end Go.Proofs.Ytpnpjngaenlciaa
