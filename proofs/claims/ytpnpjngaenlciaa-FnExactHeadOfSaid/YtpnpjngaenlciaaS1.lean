/-
  Sealing, the model's functions: l3Hide, l3Tag, l3Seal.
-/
import Derived.Test.YtpnpjngaenlciaaH6
import Derived.Test.YtpnpjngaenlciaaExB
import Derived.Test.YtpnpjngaenlciaaMix
namespace Go.Proofs.Ytpnpjngaenlciaa
open Go.RowKit
set_option linter.unusedVariables false
set_option maxRecDepth 100000

/-- The stream behind m proofs. -/
def strm (ks hd : List Int) : Nat → List Int
  | 0 => []
  | m + 1 => strm ks hd m ++ macL ks (hd ++ [((m + 1 : Nat) : Int)])
theorem strm_len (ks hd : List Int) : ∀ m, (strm ks hd m).length = 32 * m
  | 0 => rfl
  | m + 1 => by simp only [strm, List.length_append, strm_len ks hd m, macL_len]; omega
theorem strm_byte (ks hd : List Int) : ∀ m, ∀ x ∈ strm ks hd m, 0 ≤ x ∧ x ≤ 255
  | 0, x, hx => by simp [strm] at hx
  | m + 1, x, hx => by
    rcases List.mem_append.1 hx with hx | hx
    · exact strm_byte ks hd m x hx
    · exact macL_byte _ _ x hx
/-- What is hidden. -/
def hideL (ks hd ds : List Int) : List Int := mix ds.length ds (strm ks hd ((ds.length + 31) / 32))
theorem hideL_len (ks hd ds : List Int) : (hideL ks hd ds).length = ds.length := mix_len _ _ _
theorem hideL_byte (ks hd ds : List Int) : ∀ x ∈ hideL ks hd ds, 0 ≤ x ∧ x ≤ 255 := mix_byte _ _ _
/-- The tag. -/
def tagL (ks ds : List Int) : List Int := (macL ks (255 :: ds)).take 8
theorem tagL_len (ks ds : List Int) : (tagL ks ds).length = 8 := by simp [tagL, macL_len]
theorem tagL_byte (ks ds : List Int) : ∀ x ∈ tagL ks ds, 0 ≤ x ∧ x ≤ 255 := fun x hx => macL_byte _ _ x (List.mem_of_mem_take hx)
/-- A head. -/
def headL (sd sq : Int) : List Int := sd :: digs sq 4
theorem headL_len (sd sq : Int) : (headL sd sq).length = 5 := by simp [headL, digs_len]
theorem headL_byte (sd sq : Int) (h : 0 ≤ sd ∧ sd ≤ 255) : ∀ x ∈ headL sd sq, 0 ≤ x ∧ x ≤ 255 := by
  intro x hx
  rcases List.mem_cons.1 hx with rfl | hx
  · exact h
  · exact digs_byte _ _ x hx
/-- What is sealed. -/
def bodyL (ks : List Int) (sd sq : Int) (ds : List Int) : List Int := headL sd sq ++ hideL ks (headL sd sq) ds
def sealL (ks : List Int) (sd sq : Int) (ds : List Int) : List Int := bodyL ks sd sq ds ++ tagL ks (bodyL ks sd sq ds)
theorem bodyL_len (ks : List Int) (sd sq : Int) (ds : List Int) : (bodyL ks sd sq ds).length = ds.length + 5 := by simp [bodyL, headL_len, hideL_len]; omega
theorem sealL_len (ks : List Int) (sd sq : Int) (ds : List Int) : (sealL ks sd sq ds).length = ds.length + 13 := by simp [sealL, bodyL_len, tagL_len]
theorem bodyL_byte (ks : List Int) (sd sq : Int) (ds : List Int) (h : 0 ≤ sd ∧ sd ≤ 255) : ∀ x ∈ bodyL ks sd sq ds, 0 ≤ x ∧ x ≤ 255 := by
  intro x hx
  rcases List.mem_append.1 hx with hx | hx
  · exact headL_byte _ _ h x hx
  · exact hideL_byte _ _ _ x hx
theorem sealL_byte (ks : List Int) (sd sq : Int) (ds : List Int) (h : 0 ≤ sd ∧ sd ≤ 255) : ∀ x ∈ sealL ks sd sq ds, 0 ≤ x ∧ x ≤ 255 := by
  intro x hx
  rcases List.mem_append.1 hx with hx | hx
  · exact bodyL_byte _ _ _ _ h x hx
  · exact tagL_byte _ _ x hx

/-- New memory with these bytes (the model's functions). -/
def Got (w : World) (ps : List Int) (e : Ending) (w' : World) : Prop :=
  ∃ g cap, e = .returned (.slice (some ⟨g, 0, none⟩) ps.length cap) ∧ ps.length ≤ cap ∧ Wr w' w.heap.size w'.heap.size (some ⟨g, 0, none⟩) ps.length ps ∧ Below w.heap.size w w'
theorem Got.at_ {w : World} {ps : List Int} {n : Nat} {e : Ending} {w' : World} (h : Got w ps e w') (hl : ps.length = n) : ∃ g c, e = .returned (.slice (some ⟨g, 0, none⟩) n c) ∧ n ≤ c ∧ Wr w' w.heap.size w'.heap.size (some ⟨g, 0, none⟩) n ps ∧ Below w.heap.size w w' := by
  subst hl
  exact h
theorem Padded.at_ {w : World} {ps : List Int} {n : Nat} {e : Ending} {w' : World} (h : Padded w ps e w') (hl : ps.length = n) : ∃ g c, e = .returned (.slice (some ⟨g, 0, none⟩) n c) ∧ n ≤ c ∧ w'.ownsRow w.heap.size 5 1 (.slice (some ⟨g, 0, none⟩) n c) n (ps.map (Value.int .u8)) ∧ Below w.heap.size w w' := by
  subst hl
  exact h
/-- A literal of bytes, as a row of the call's own. -/
theorem own_lit (w : World) (base : Nat) (cs : Array Value) (zs : List Int) (n : Nat) (hn : zs.length = n) (hm : n ≤ maxLen) (hb : base ≤ w.heap.size) (h : cs = (zs.map (Value.int .u8)).toArray) :
    (w.alloc (.cells cs 5)).ownsRow base 5 1 (.slice (some ⟨w.heap.size, 0, none⟩) n n) n (zs.map (Value.int .u8)) := by
  subst h
  exact ⟨by simp [hn], .inr ⟨w.heap.size, n, _, rfl, hb, heap_alloc_new w _, Nat.le_refl _, hm, by simp [hn], by subst hn; simp [List.take_of_length_le]⟩⟩
/-- The first m elements of a row of the call's own. -/
theorem own_take {w : World} {base n c g : Nat} {vs : List Value} (h : w.ownsRow base 5 1 (.slice (some ⟨g, 0, none⟩) n c) n vs) (m : Nat) (hm : m ≤ n) : w.ownsRow base 5 1 (.slice (some ⟨g, 0, none⟩) m c) m (vs.take m) := by
  have hl : vs.length = n := by simpa using h.1
  rcases h.2 with ⟨hv, _⟩ | ⟨g', cap, cur, hv, h1, h2, h3, h4, h5, h6⟩
  · cases hv
  · injection hv with hA _ hc
    injection hA with hA
    injection hA with hA
    subst hA hc
    refine ⟨by simp [hl]; omega, .inr ⟨_, _, cur, rfl, h1, h2, by omega, h4, h5, ?_⟩⟩
    rw [← h6, List.take_take]
    congr 1
    omega

theorem own_wide {w : World} {base base' n : Nat} {e : TypeId} {v : Value} {vs : List Value} (h : w.ownsRow base e 1 v n vs) (hb : base' ≤ base) : w.ownsRow base' e 1 v n vs := by
  obtain ⟨h1, h2⟩ := h
  refine ⟨h1, ?_⟩
  rcases h2 with h2 | ⟨g, cap, cur, hv, hg, hr⟩
  · exact Or.inl h2
  · exact Or.inr ⟨g, cap, cur, hv, Nat.le_trans hb hg, hr⟩
end Go.Proofs.Ytpnpjngaenlciaa
