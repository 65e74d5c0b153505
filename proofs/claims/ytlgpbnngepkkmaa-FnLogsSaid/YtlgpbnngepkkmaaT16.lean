/-
  The model's l5Same.
-/
import Derived.Test.YtlgpbnngepkkmaaT15
import Derived.BigQuiet
import Derived.Deep.QuietTactic
namespace Go.Proofs.Ytlgpbnngepkkmaa
open Go.RowKit
set_option linter.unusedVariables false
set_option maxRecDepth 100000

set_option maxHeartbeats 1000000 in
theorem l5Same_core (b o b' o' n c n' c' : Nat) (G G' : Option Addr) (k p q k' p' q' : Int) (s t : ByteArray) (r : Bool) (w : World)
    (a0 : w.cell? ⟨b, o, none⟩ = some (.int .i64 k)) (a1 : w.cell? ⟨b, o + 1, none⟩ = some (.slice G n c)) (a2 : w.cell? ⟨b, o + 2, none⟩ = some (.int .i64 p)) (a3 : w.cell? ⟨b, o + 3, none⟩ = some (.int .i64 q))
    (b0 : w.cell? ⟨b', o', none⟩ = some (.int .i64 k')) (b1 : w.cell? ⟨b', o' + 1, none⟩ = some (.slice G' n' c')) (b2 : w.cell? ⟨b', o' + 2, none⟩ = some (.int .i64 p')) (b3 : w.cell? ⟨b', o' + 3, none⟩ = some (.int .i64 q'))
    (hs : ∀ q, (convert 22 9 (.slice G n c)).run Try.prog (w.drewN q) = .ok (.string s) (w.drewN q)) (ht : ∀ q, (convert 22 9 (.slice G' n' c')).run Try.prog (w.drewN q) = .ok (.string t) (w.drewN q))
    (hr : (k == k' && (s.toList == t.toList) && p == p' && q == q') = r) :
    Calls Try.prog 68 #[.pointer (some ⟨b, o, none⟩), .pointer (some ⟨b', o', none⟩)] w fun e w' => e = .returned (.bool r) ∧ ∃ m, w' = w.drewN m := by
  by_cases g0 : k = k'
  · subst g0
    cases g1 : (s.toList == t.toList) with
    | false =>
      obtain rfl : r = false := by rw [← hr, g1]; simp
      clear hr
      go_enter Try.func68, Try.ntmps68
      go_wp2_with fail
      go_quiet (fail)
      go_wp2_with fail
      go_ret
      exact ⟨rfl, _, rfl⟩
    | true =>
      by_cases g2 : p = p'
      · subst g2
        obtain rfl : (q == q') = r := by rw [← hr, g1]; simp
        clear hr
        go_enter Try.func68, Try.ntmps68
        go_wp2_with fail
        go_quiet (fail)
        go_wp2_with fail
        go_ret
        exact ⟨rfl, _, rfl⟩
      · have g2b : (p == p') = false := by simp [g2]
        obtain rfl : r = false := by rw [← hr, g1, g2b]; simp
        clear hr
        go_enter Try.func68, Try.ntmps68
        go_wp2_with fail
        go_quiet (fail)
        go_wp2_with fail
        go_ret
        exact ⟨rfl, _, rfl⟩
  · have g0b : (k == k') = false := by simp [g0]
    obtain rfl : r = false := by rw [← hr, g0b]; simp
    clear hr
    go_enter Try.func68, Try.ntmps68
    go_wp2_with fail
    go_quiet (fail)
    go_wp2_with fail
    go_ret
    exact ⟨rfl, _, rfl⟩
end Go.Proofs.Ytlgpbnngepkkmaa
