/-
  Replies and bodies, as the row opens them.
-/
import Derived.Test.YtjdkaaepbkkchaaO5
namespace Go.Proofs.Ytjdkaaepbkkchaa
open Go.ChangeShapes Go.WideShapes Go.ChangeAt Go.RowKit Go.Joins Go.Deep
set_option linter.unusedVariables false
set_option maxRecDepth 100000

theorem cellsReply : Try.prog.cellsOf 41 = 3 := by kernel_rfl
theorem cellsBody : Try.prog.cellsOf 24 = 4 := by kernel_rfl
theorem open_reply {H : Type} {enc : TypeId × Value → H} {W : World} {base b0 : Nat} {held : Bool} {r : Reach} {v : Value} {d : DataW H} {p : List MemPlace} (hv : Value.okWide Try.prog W r b0 41 v)
    (h : DataW.Trod enc Try.prog W base (fun _ => true) held 41 v d p) : ∃ a s c, v = .agg #[.int .i64 a, .int .i64 s, .int .i64 c] := by
  obtain ⟨c0, c1, c2, y0, y1, y2, n, rfl, rfl, rfl, h0, h1, h2⟩ := open_agg3 Try.underlying41 (by kernel_rfl) cellsReply hv h
  obtain ⟨m, hm, _, _⟩ := DataW.trod_int Try.underlying2 h0
  obtain ⟨s, hs, _, _⟩ := DataW.trod_int Try.underlying2 h1
  obtain ⟨q, hq, _, _⟩ := DataW.trod_int Try.underlying2 h2
  simp at hm hs hq
  subst hm hs hq
  exact ⟨m, s, q, rfl⟩
theorem open_body {H : Type} {enc : TypeId × Value → H} {W : World} {base b0 : Nat} {r : Reach} {v : Value} {d : DataW H} {p : List MemPlace} {held : Bool} (hv : Value.okWide Try.prog W r b0 24 v)
    (h : DataW.Trod enc Try.prog W base (fun _ => true) held 24 v d p) :
    ∃ (bs st ec : Int) (A : Option Addr) (n c : Nat) (xs : List Itm), v = .agg #[.int .i64 bs, .int .i64 st, .int .i64 ec, .slice A n c] ∧ Rt W 0 W.heap.size A n xs := by
  obtain ⟨c0, c1, c2, c3, y0, y1, y2, y3, m, rfl, rfl, rfl, h0, h1, h2, h3⟩ := open_agg4 Try.underlying24 (by kernel_rfl) cellsBody hv h
  obtain ⟨bs, hb, _, _⟩ := DataW.trod_int Try.underlying2 h0
  obtain ⟨st, hs, _, _⟩ := DataW.trod_int Try.underlying2 h1
  obtain ⟨ec, hc, _, _⟩ := DataW.trod_int Try.underlying2 h2
  obtain ⟨A, n, c, xs, e, hr⟩ := items_of_trod h3
  simp at hb hs hc
  subst hb hs hc e
  exact ⟨bs, st, ec, A, n, c, xs, rfl, hr⟩
end Go.Proofs.Ytjdkaaepbkkchaa
