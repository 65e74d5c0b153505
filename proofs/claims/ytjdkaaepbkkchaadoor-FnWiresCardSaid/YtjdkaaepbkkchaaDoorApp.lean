/-
  append of bytes that are read from anywhere (nil, empty or not) onto a row of the call's own.
-/
import Derived.Test.YtjdkaaepbkkchaaDoorBase
import Derived.StillTactics
import Derived.Laws.Pointers
import Derived.Deep.AppendLies
import Derived.Laws.AppendOwnNone
namespace Go.Proofs.YtjdkaaepbkkchaaDoor
open Go.RowKit
set_option linter.unusedVariables false
set_option maxRecDepth 100000

theorem wpList_append_rd {P : Program} {w : World} {ops : Array Oper} {rest : List Oper} {o : Oper} {a : Act} {Q : Exit → Act → World → Prop} (hgd : o.guard = none) (s x : Operand) (t : TypeId)
    (ho : o.op = Op.call { callee := Callee.builtin Builtin.append, args := #[s, x], argTypes := #[t, t] })
    (base : Nat) (e : TypeId) (i : TypeInfo) (z : Value) (ht : P.underlying t = some (.slice e)) (hi : P.info? e = some i) (hz : i.zero = some z)
    (hsize : i.size = 1) (hby : i.bytes = 1) (hzs : z.cells.size = 1)
    (g k cap : Nat) (vs : List Value) (hs : a.eval s = .slice (some ⟨g, 0, none⟩) k cap) (hown : w.ownsRow base e 1 (.slice (some ⟨g, 0, none⟩) k cap) k vs)
    (A : Option Addr) (m c lo hi' : Nat) (ds : List Int) (hx : a.eval x = .slice A m c) (hr : Rd w lo hi' A m ds) (hA : A = none → c = 0)
    (h63 : k + m ≤ maxLen) (hbytes : k + m ≤ 140737488355328) (hbase : base ≤ w.heap.size)
    (h : ∀ g' cap' w', w'.ownsRow base e 1 (.slice (some ⟨g', 0, none⟩) (k + m) cap') (k + m) (vs ++ ds.map (Value.int .u8)) → w.grownBy w' (some g) → (g' = g ∨ g' = w.heap.size) → wpList P ops Q rest (a.put o.dst (.slice (some ⟨g', 0, none⟩) (k + m) cap')) w') :
    wpList P ops Q (o :: rest) a w := by
  rcases Nat.eq_zero_or_pos m with h0 | h0
  · subst h0
    obtain rfl : ds = [] := List.eq_nil_of_length_eq_zero hr.len
    rcases A with _ | ad
    · obtain rfl : c = 0 := hA rfl
      refine wpList_append_own_none hgd s x t ho base e i 1 ht hi _ k vs hs hown hx ?_
      exact h g cap w (by simpa using hown) (World.grownBy.refl w _) (.inl rfl)
    · have hkc : k ≤ cap := by
        rcases hown.2 with ⟨hv, _⟩ | ⟨_, cap', _, hv, _, _, hnc, _⟩
        · cases hv
        · injection hv with _ _ e'
          omega
      refine wpList_append_fits w hgd s x t ho base e i 1 ht hi hsize g k cap vs hs hown ad 0 c [] hx rfl (by simp) (by simp) (by omega) ?_
      intro w' own' grow'
      exact h g cap w' (by simpa using own') grow' (.inl rfl)
  · obtain ⟨b, off, rfl, _, _, _⟩ := hr.at_ h0
    refine wpList_append_lies w hgd s x t ho base e i z 1 1 ht hi hz hsize hby hzs (by decide) _ k vs hs hown ⟨b, off, none⟩ m c (ds.map (Value.int .u8)) hx (by simp [hr.len]) hr.news (ints_oneCell _ _) h0 h63 (by omega) hbase w.heap.size rfl ?_
    intro g' cap' w' own' grow' hat hlt
    exact h g' cap' w' own' grow' (by simpa [Value.ownBlock, eq_comm] using hat)

/-- What is kept behind an append onto block g. -/
theorem Keep.of_append {w w' : World} {g : Nat} (h : w.grownBy w' (some g)) : Keep g (g + 1) w w' :=
  ⟨h.os, h.tape, h.output, h.size, fun q hq ho => h.block q hq (by simp; omega)⟩
end Go.Proofs.YtjdkaaepbkkchaaDoor
