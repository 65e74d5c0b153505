/-
  Sealing, the model's functions: l3Hide, l3Tag, l3Seal.
-/
import Derived.Test.YtpnpjngaenlciaaDoorH6
import Derived.Test.YtpnpjngaenlciaaDoorExB
import Derived.Test.YtpnpjngaenlciaaDoorMix
namespace Go.Proofs.YtpnpjngaenlciaaDoor
open Go.RowKit
set_option linter.unusedVariables false
set_option maxRecDepth 100000

/-- The stream behind m proofs. -/
def strm (ks hd : List Int) : Nat → List Int
  | 0 => []
  | m + 1 => strm ks hd m ++ macL ks (hd ++ [((m + 1 : Nat) : Int)])
theorem strm_len (ks hd : List Int) : ∀ m, (strm ks hd m).length = 32 * m
  | 0 => rfl
  | m + 1 => by simp only [strm, List.length_append, strm_len ks hd m, macL_len]; omega
theorem strm_byte (ks hd : List Int) : ∀ m, ∀ x ∈ strm ks hd m, 0 ≤ x ∧ x ≤ 255
  | 0, x, hx => by simp [strm] at hx
  | m + 1, x, hx => by
    rcases List.mem_append.1 hx with hx | hx
    · exact strm_byte ks hd m x hx
    · exact macL_byte _ _ x hx
/-- What is hidden. -/
def hideL (ks hd ds : List Int) : List Int := mix ds.length ds (strm ks hd ((ds.length + 31) / 32))
theorem hideL_len (ks hd ds : List Int) : (hideL ks hd ds).length = ds.length := mix_len _ _ _
theorem hideL_byte (ks hd ds : List Int) : ∀ x ∈ hideL ks hd ds, 0 ≤ x ∧ x ≤ 255 := mix_byte _ _ _
/-- The tag. -/
def tagL (ks ds : List Int) : List Int := (macL ks (255 :: ds)).take 8
theorem tagL_len (ks ds : List Int) : (tagL ks ds).length = 8 := by simp [tagL, macL_len]
theorem tagL_byte (ks ds : List Int) : ∀ x ∈ tagL ks ds, 0 ≤ x ∧ x ≤ 255 := fun x hx => macL_byte _ _ x (List.mem_of_mem_take hx)
/-- A head. -/
def headL (sd sq : Int) : List Int := sd :: digs sq 4
theorem headL_len (sd sq : Int) : (headL sd sq).length = 5 := by simp [headL, digs_len]
theorem headL_byte (sd sq : Int) (h : 0 ≤ sd ∧ sd ≤ 255) : ∀ x ∈ headL sd sq, 0 ≤ x ∧ x ≤ 255 := by
  intro x hx
  rcases List.mem_cons.1 hx with rfl | hx
  · exact h
  · exact digs_byte _ _ x hx
/-- What is sealed. -/
def bodyL (ks : List Int) (sd sq : Int) (ds : List Int) : List Int := headL sd sq ++ hideL ks (headL sd sq) ds
def sealL (ks : List Int) (sd sq : Int) (ds : List Int) : List Int := bodyL ks sd sq ds ++ tagL ks (bodyL ks sd sq ds)
theorem bodyL_len (ks : List Int) (sd sq : Int) (ds : List Int) : (bodyL ks sd sq ds).length = ds.length + 5 := by simp [bodyL, headL_len, hideL_len]; omega
theorem sealL_len (ks : List Int) (sd sq : Int) (ds : List Int) : (sealL ks sd sq ds).length = ds.length + 13 := by simp [sealL, bodyL_len, tagL_len]
theorem bodyL_byte (ks : List Int) (sd sq : Int) (ds : List Int) (h : 0 ≤ sd ∧ sd ≤ 255) : ∀ x ∈ bodyL ks sd sq ds, 0 ≤ x ∧ x ≤ 255 := by
  intro x hx
  rcases List.mem_append.1 hx with hx | hx
  · exact headL_byte _ _ h x hx
  · exact hideL_byte _ _ _ x hx
theorem sealL_byte (ks : List Int) (sd sq : Int) (ds : List Int) (h : 0 ≤ sd ∧ sd ≤ 255) : ∀ x ∈ sealL ks sd sq ds, 0 ≤ x ∧ x ≤ 255 := by
  intro x hx
  rcases List.mem_append.1 hx with hx | hx
  · exact bodyL_byte _ _ _ _ h x hx
  · exact tagL_byte _ _ x hx

/-- New memory with these bytes (the model's functions). -/
def Got (w : World) (ps : List Int) (e : Ending) (w' : World) : Prop :=
  ∃ g cap, e = .returned (.slice (some ⟨g, 0, none⟩) ps.length cap) ∧ ps.length ≤ cap ∧ Wr w' w.heap.size w'.heap.size (some ⟨g, 0, none⟩) ps.length ps ∧ Below w.heap.size w w'
theorem Got.at_ {w : World} {ps : List Int} {n : Nat} {e : Ending} {w' : World} (h : Got w ps e w') (hl : ps.length = n) : ∃ g c, e = .returned (.slice (some ⟨g, 0, none⟩) n c) ∧ n ≤ c ∧ Wr w' w.heap.size w'.heap.size (some ⟨g, 0, none⟩) n ps ∧ Below w.heap.size w w' := by
  subst hl
  exact h
theorem Padded.at_ {w : World} {ps : List Int} {n : Nat} {e : Ending} {w' : World} (h : Padded w ps e w') (hl : ps.length = n) : ∃ g c, e = .returned (.slice (some ⟨g, 0, none⟩) n c) ∧ n ≤ c ∧ w'.ownsRow w.heap.size 5 1 (.slice (some ⟨g, 0, none⟩) n c) n (ps.map (Value.int .u8)) ∧ Below w.heap.size w w' := by
  subst hl
  exact h
/-- A literal of bytes, as a row of the call's own. -/
theorem own_lit (w : World) (base : Nat) (cs : Array Value) (zs : List Int) (n : Nat) (hn : zs.length = n) (hm : n ≤ maxLen) (hb : base ≤ w.heap.size) (h : cs = (zs.map (Value.int .u8)).toArray) :
    (w.alloc (.cells cs 5)).ownsRow base 5 1 (.slice (some ⟨w.heap.size, 0, none⟩) n n) n (zs.map (Value.int .u8)) := by
  subst h
  exact ⟨by simp [hn], .inr ⟨w.heap.size, n, _, rfl, hb, heap_alloc_new w _, Nat.le_refl _, hm, by simp [hn], by subst hn; simp [List.take_of_length_le]⟩⟩
/-- The first m elements of a row of the call's own. -/
theorem own_take {w : World} {base n c g : Nat} {vs : List Value} (h : w.ownsRow base 5 1 (.slice (some ⟨g, 0, none⟩) n c) n vs) (m : Nat) (hm : m ≤ n) : w.ownsRow base 5 1 (.slice (some ⟨g, 0, none⟩) m c) m (vs.take m) := by
  have hl : vs.length = n := by simpa using h.1
  rcases h.2 with ⟨hv, _⟩ | ⟨g', cap, cur, hv, h1, h2, h3, h4, h5, h6⟩
  · cases hv
  · injection hv with hA _ hc
    injection hA with hA
    injection hA with hA
    subst hA hc
    refine ⟨by simp [hl]; omega, .inr ⟨_, _, cur, rfl, h1, h2, by omega, h4, h5, ?_⟩⟩
    rw [← h6, List.take_take]
    congr 1
    omega

set_option maxHeartbeats 2000000 in
theorem l3Hide_any (A B D : Option Addr) (nk ck nh ch n c hk hb hd : Nat) (ks hs ds : List Int) (w : World) (hkey : Rd w 0 hk A nk ks) (hhead : Rd w 0 hb B nh hs) (hdata : Rd w 0 hd D n ds) (hB : B = none → ch = 0) (hnh : nh ≤ 1000) (hn : n ≤ 120) :
    Calls Tryd.prog 49 #[.slice A nk ck, .slice B nh ch, .slice D n c] w (Got w (hideL ks hs ds)) := by
  obtain ⟨i0, hi0, hz0, hz1, hz2⟩ := info_parts info_u8s
  have hkl := hkey.len
  have hhl := hhead.len
  have hdl := hdata.len
  have hhb := hhead.byte
  have hM : Hid (hideL ks hs ds = mix n ds (strm ks hs ((n + 31) / 32))) := by show _ = _; rw [← hdl]; rfl
  have hZl := hideL_len ks hs ds
  rw [hdl] at hZl
  generalize hideL ks hs ds = Z at *
  obtain ⟨M, hMe⟩ : ∃ M, M = (n + 31) / 32 := ⟨_, rfl⟩
  rw [← hMe] at hM
  have hM4 : M ≤ 4 := by omega
  have HM := Lib.hid hMe
  go_enter Tryd.func49, Tryd.ntmps49
  go_wp2_with fail
  have own0 : (w.alloc (.cells #[] 5)).ownsRow w.heap.size 5 1 (.slice (some ⟨w.heap.size, 0, none⟩) 0 0) 0 [] := World.ownsRow_made w _ 0 (Nat.le_refl _) (Nat.zero_le _) rfl
  clear hMe
  go_loopw [7, 8] (fun out nv wr => ∃ m l g cap : Nat, l = 32 * m ∧ m ≤ M ∧ nv = .int .u8 ((m : Int) + 1) ∧ out = .slice (some ⟨g, 0, none⟩) l cap ∧ wr.ownsRow w.heap.size 5 1 (.slice (some ⟨g, 0, none⟩) l cap) l ((strm ks hs m).map (Value.int .u8)) ∧ Below w.heap.size w wr) (fun out _ _ => 200 - lenOf out)
  case atStart => exact ⟨0, 0, w.heap.size, 0, rfl, Nat.zero_le _, rfl, rfl, own0, (Below.refl _ _).alloc (Nat.le_refl _) _⟩
  case round =>
    obtain ⟨m, l, g, cap, hl, hm, rfl, rfl, own, b⟩ := hrel
    have HL := Lib.hid hl
    have z := b.size
    by_cases hlt : m < M
    · have hln : (l : Int) < (n : Int) := by have := HM.out; omega
      have hlb : l ≤ 96 := by omega
      have HS : Hid (strm ks hs (m + 1) = strm ks hs m ++ macL ks (hs ++ [((m + 1 : Nat) : Int)])) := rfl
      have hml := macL_len ks (hs ++ [((m + 1 : Nat) : Int)])
      have HMB := Lib.hid (macL_byte ks (hs ++ [((m + 1 : Nat) : Int)]))
      have hmac := fun (w' : World) (g' c' hk' hi' : Nat) (h1 : Rd w' 0 hk' A nk ks) (h2 : Rd w' 0 hi' (some ⟨g', 0, none⟩) (nh + 1) (hs ++ [((m + 1 : Nat) : Int)])) => l2Mac_any A (some ⟨g', 0, none⟩) nk ck (nh + 1) c' hk' hi' ks (hs ++ [((m + 1 : Nat) : Int)]) w' h1 h2 (by omega) (fun h => by cases h)
      generalize macL ks (hs ++ [((m + 1 : Nat) : Int)]) = mc at *
      have HMAC := Lib.hid hmac
      have hwu : IntKind.u8.wrap ((m : Int) + 1 + 1) = (m : Int) + 1 + 1 := by rw [IntKind.wrap_u8]; omega
      clear hl hmac
      go_wp2_with fail
      refine (copy_any B nh ch _ _ hs wr (hhead.keep (Keep.of_below b 0 0) (by omega)) (by omega) hB).mono ?_
      rintro e w1 ⟨g1, cap1, rfl, own1, _, b1⟩
      have z1 := b1.size
      have hl1 := own1.lt g1 rfl
      have own01 := own_keep own (Keep.of_below b1 0 0) (by omega)
      have bb1 := b.trans (b1.mono z)
      go_wp2_with (at_builtin; refine wpList_append_lies _ rfl (.tmp 20) (.tmp 22) 22 rfl wr.heap.size 5 i0 (.int .u8 0) 1 1 Tryd.underlying22 hi0 hz0 hz1 hz2 rfl (by decide) _ _ _ rfl (own1.alloc _) ⟨w1.heap.size, 0, none⟩ 1 1 [.int .u8 ((m : Int) + 1)] rfl rfl ?c1 ?c2 (by decide) ?c3 ?c4 ?c5 (w1.heap.size + 1) (by simp) ?_)
      case c1 => exact cell_one_new _ _ _
      case c2 => simp [Value.oneCell']
      case c3 => unfold maxLen; omega
      case c4 => omega
      case c5 => simp; omega
      intro g2 cap2 w2 own2 grow2 hat2 hlt2
      have b2 : Below wr.heap.size wr w2 := (b1.alloc z1 _).grown grow2 (by simp; omega) (fun q hq => by simp [Value.ownBlock] at hq; omega)
      have own2' : w2.ownsRow wr.heap.size 5 1 (.slice (some ⟨g2, 0, none⟩) (nh + 1) cap2) (nh + 1) ((hs ++ [((m + 1 : Nat) : Int)]).map (Value.int .u8)) := by
        rw [List.map_append]
        have e : ((m + 1 : Nat) : Int) = (m : Int) + 1 := by omega
        rw [e]
        exact own2
      have z2 := b2.size
      have own02 := own_keep own (Keep.of_below b2 0 0) (by omega)
      have hby2 : ∀ x ∈ hs ++ [((m + 1 : Nat) : Int)], 0 ≤ x ∧ x ≤ 255 := by
        intro x hx
        rcases List.mem_append.1 hx with hx | hx
        · exact hhb x hx
        · rw [List.mem_singleton.1 hx]; omega
      have r2 := (Wr.of_own own2' (by unfold maxLen; omega) hby2).1.rd0
      have key2 := (hkey.keep (Keep.of_below b 0 0) (by omega)).keep (Keep.of_below b2 0 0) (by omega)
      have bb2 := b.trans (b2.mono z)
      clear own1 own01 own2 own2' grow2 hat2 hlt2 b1 bb1 b2
      go_wp2_with fail
      refine (HMAC.out w2 g2 cap2 _ _ key2 r2).mono ?_
      intro e w3 hm3
      obtain ⟨g3, c3, rfl, hc3, own3, b3⟩ := hm3.at_ hml
      have z3 := b3.size
      have own03 := own_keep own02 (Keep.of_below b3 0 0) (by omega)
      have bb3 := bb2.trans (b3.mono bb2.size)
      have hg03 := own03.lt g rfl
      have hmb : ∀ x ∈ mc, 0 ≤ x ∧ x ≤ 255 := HMB.out
      have r3 := (Wr.of_own own3 (by unfold maxLen; omega) hmb).1.rd0
      clear hm3 own02 own3 b3 bb2 r2 key2 own
      go_wp2_with (at_builtin; refine wpList_append_rd rfl (.tmp 17) (.tmp 24) 22 rfl w.heap.size 5 i0 (.int .u8 0) Tryd.underlying22 hi0 hz0 hz1 hz2 rfl g l cap _ rfl own03 (some ⟨g3, 0, none⟩) 32 c3 _ _ mc rfl r3 (fun h => by cases h) ?k1 ?k2 bb3.size ?_)
      case k1 => unfold maxLen; omega
      case k2 => omega
      intro g4 cap4 w4 own4 grow4 hat4
      have b4 : Below w.heap.size w w4 := bb3.grown grow4 bb3.size (fun q hq => by simp at hq; omega)
      have own4' : w4.ownsRow w.heap.size 5 1 (.slice (some ⟨g4, 0, none⟩) (l + 32) cap4) (l + 32) ((strm ks hs (m + 1)).map (Value.int .u8)) := by
        rw [HS.out, List.map_append]; exact own4
      have HO := Lib.hid own4'
      have HB4 := Lib.hid b4
      clear own4 own4' b4 grow4 hat4 own03 r3 bb3
      go_wp2_with fail
      go_roundw
      case rel => exact ⟨m + 1, l + 32, g4, cap4, by have := HL.out; omega, by omega, by rw [show ((m + 1 : Nat) : Int) = (m : Int) + 1 from by omega], rfl, HO.out, HB4.out⟩
      case measure => simp [lenOf]; omega
    · have em : m = M := by omega
      have hln : ¬ (l : Int) < (n : Int) := by have := HM.out; omega
      have hnl : n ≤ l := by have := HM.out; omega
      have r5 := (Wr.of_own own (by unfold maxLen; omega) (strm_byte ks hs m)).1
      have d5 := hdata.keep (Keep.of_below b 0 0) (by omega)
      rw [em] at r5
      have bb := b
      clear hl own em b
      go_wp2_with fail
      refine (l1Mix_any D _ n c l cap _ _ _ _ ds (strm ks hs M) wr d5 r5 hnl (by omega)).mono ?_
      rintro e w6 ⟨g6, c6, rfl, hc6, wr6, b6⟩
      have HF : Hid (Got w Z (.returned (.slice (some ⟨g6, 0, none⟩) n c6)) w6) := by
        refine ⟨g6, c6, ret_slice hZl.symm, by rw [hZl]; exact hc6, ?_, bb.trans (b6.mono bb.size)⟩
        rw [hZl, hM.out]
        exact wr6.wide bb.size (Nat.le_refl _) (Nat.le_refl _)
      clear wr6 b6 hc6 bb r5 d5
      go_wp2_with fail
      go_ret
      exact HF.out
set_option maxHeartbeats 1000000 in
theorem l3Tag_any (A D : Option Addr) (nk ck n c hk hi : Nat) (ks ds : List Int) (w : World) (hkey : Rd w 0 hk A nk ks) (h : Rd w 0 hi D n ds) (hn : n ≤ 1048500) (hD : D = none → c = 0) :
    Calls Tryd.prog 48 #[.slice A nk ck, .slice D n c] w (Got w (tagL ks ds)) := by
  obtain ⟨i0, hi0, hz0, hz1, hz2⟩ := info_parts info_u8s
  have hdb := h.byte
  have hml := macL_len ks (255 :: ds)
  have hmb := macL_byte ks (255 :: ds)
  have hZ : Hid (tagL ks ds = (macL ks (255 :: ds)).take 8) := rfl
  have hZl := tagL_len ks ds
  have hmac := fun (w' : World) (g' c' hk' hi' : Nat) (h1 : Rd w' 0 hk' A nk ks) (h2 : Rd w' 0 hi' (some ⟨g', 0, none⟩) (n + 1) (255 :: ds)) => l2Mac_any A (some ⟨g', 0, none⟩) nk ck (n + 1) c' hk' hi' ks (255 :: ds) w' h1 h2 (by omega) (fun h => by cases h)
  generalize macL ks (255 :: ds) = mc at *
  generalize tagL ks ds = Z at *
  have HMAC := Lib.hid hmac
  have HMB := Lib.hid hmb
  have own1 := own_lit w w.heap.size #[.int .u8 255] [255] 1 rfl (by unfold maxLen; omega) (Nat.le_refl _) rfl
  have k1 := (Keep.refl 0 0 w).alloc (.cells #[.int .u8 255] 5)
  have b1 : Below w.heap.size w (w.alloc (.cells #[.int .u8 255] 5)) := (Below.refl _ w).alloc (Nat.le_refl _) _
  have d1 := h.keep k1 (by omega)
  have key1 := hkey.keep k1 (by omega)
  clear hmac hmb k1
  go_enter Tryd.func48, Tryd.ntmps48
  go_wp2_with (at_builtin; refine wpList_append_rd rfl (.tmp 6) (.tmp 7) 22 rfl w.heap.size 5 i0 (.int .u8 0) Tryd.underlying22 hi0 hz0 hz1 hz2 rfl w.heap.size 1 1 _ rfl own1 D n c _ _ ds rfl d1 hD ?k1 ?k2 b1.size ?_)
  case k1 => unfold maxLen; omega
  case k2 => omega
  intro g2 cap2 w2 own2 grow2 hat2
  have b2 : Below w.heap.size w w2 := b1.grown grow2 b1.size (fun q hq => by simp at hq; omega)
  have own2' : w2.ownsRow w.heap.size 5 1 (.slice (some ⟨g2, 0, none⟩) (n + 1) cap2) (n + 1) ((255 :: ds).map (Value.int .u8)) := by
    rw [Nat.add_comm n 1]; exact own2
  have hby2 : ∀ x ∈ 255 :: ds, 0 ≤ x ∧ x ≤ 255 := by
    intro x hx
    rcases List.mem_cons.1 hx with rfl | hx
    · omega
    · exact hdb x hx
  have r2 := (Wr.of_own own2' (by unfold maxLen; omega) hby2).1.rd0
  have key2 := hkey.keep (Keep.of_below b2 0 0) (by omega)
  have en : 1 + n = n + 1 := Nat.add_comm 1 n
  rw [en]
  clear own2 own2' grow2 hat2 own1 d1 key1 b1 en
  go_wp2_with fail
  refine (HMAC.out w2 g2 cap2 _ _ key2 r2).mono ?_
  intro e w3 hm3
  obtain ⟨g3, c3, rfl, hc3, own3, b3⟩ := hm3.at_ hml
  have own3' := own_take own3 8 (by omega)
  rw [← List.map_take] at own3'
  have hc38 : (8 : Int) ≤ (c3 : Int) := by omega
  have bb := b2.trans (b3.mono b2.size)
  have HF : Hid (Got w Z (.returned (.slice (some ⟨g3, 0, none⟩) 8 c3)) w3) := by
    refine ⟨g3, c3, ret_slice hZl.symm, by omega, ?_, bb⟩
    rw [hZl, hZ.out]
    exact (Wr.of_own own3' (by unfold maxLen; omega) (fun x hx => HMB.out x (List.mem_of_mem_take hx))).wide b2.size (Nat.le_refl _) (Nat.le_refl _)
  clear own3 own3' hm3 b3 bb b2 r2 key2
  go_wp2_with fail
  go_ret
  exact HF.out
theorem own_wide {w : World} {base base' n : Nat} {e : TypeId} {v : Value} {vs : List Value} (h : w.ownsRow base e 1 v n vs) (hb : base' ≤ base) : w.ownsRow base' e 1 v n vs := by
  obtain ⟨h1, h2⟩ := h
  refine ⟨h1, ?_⟩
  rcases h2 with h2 | ⟨g, cap, cur, hv, hg, hr⟩
  · exact Or.inl h2
  · exact Or.inr ⟨g, cap, cur, hv, Nat.le_trans hb hg, hr⟩
set_option maxHeartbeats 2000000 in
theorem l3Seal_own (A D : Option Addr) (nk ck n c hk hd : Nat) (sd sq : Int) (ks ds : List Int) (w : World) (hkey : Rd w 0 hk A nk ks) (h : Rd w 0 hd D n ds) (hsd : 0 ≤ sd ∧ sd ≤ 255) (hsq : 0 ≤ sq ∧ sq ≤ 9999) (hn : n ≤ 120) :
    Calls Tryd.prog 55 #[.slice A nk ck, .int .i64 sd, .int .i64 sq, .slice D n c] w (Padded w (sealL ks sd sq ds)) := by
  obtain ⟨i0, hi0, hz0, hz1, hz2⟩ := info_parts info_u8s
  have hdl := h.len
  have hktop := hkey.top
  have hZ : Hid (sealL ks sd sq ds = bodyL ks sd sq ds ++ tagL ks (bodyL ks sd sq ds)) := rfl
  have hB : Hid (bodyL ks sd sq ds = headL sd sq ++ hideL ks (headL sd sq) ds) := rfl
  have hH : Hid (headL sd sq = sd :: digs sq 4) := rfl
  have hZl := sealL_len ks sd sq ds
  have hZb := sealL_byte ks sd sq ds hsd
  have hBl := bodyL_len ks sd sq ds
  have hBb := bodyL_byte ks sd sq ds hsd
  have hHl := headL_len sd sq
  have hHb := headL_byte sd sq hsd
  have hil := hideL_len ks (headL sd sq) ds
  have htl := tagL_len ks (bodyL ks sd sq ds)
  rw [hdl] at hZl hBl hil
  generalize sealL ks sd sq ds = Z at *
  generalize bodyL ks sd sq ds = bd at *
  generalize headL sd sq = hs at *
  have hw8 : IntKind.u8.wrap sd = sd := by rw [IntKind.wrap_u8]; omega
  have own1 := own_lit w w.heap.size #[.int .u8 sd] [sd] 1 rfl (by unfold maxLen; omega) (Nat.le_refl _) rfl
  have b1 : Below w.heap.size w (w.alloc (.cells #[.int .u8 sd] 5)) := (Below.refl _ w).alloc (Nat.le_refl _) _
  have HZb := Lib.hid hZb
  have HBb := Lib.hid hBb
  have HHb := Lib.hid hHb
  clear hZb hBb hHb
  go_enter Tryd.func55, Tryd.ntmps55
  go_wp2_with fail
  refine (l1High_any sq 4 _ hsq.1 (by omega) (by omega)).mono ?_
  rintro e w2 ⟨g2, rfl, wr2, b2⟩
  have own2 := own_keep own1 (Keep.of_below b2 0 0) (by omega)
  have bb2 := b1.trans (b2.mono b1.size)
  have hl2 := own2.lt w.heap.size rfl
  have r2 := wr2.1.rd0
  generalize digs sq 4 = dg at *
  clear own1 b1 b2 wr2
  go_wp2_with (at_builtin; refine wpList_append_rd rfl (.tmp 13) (.tmp 15) 22 rfl w.heap.size 5 i0 (.int .u8 0) Tryd.underlying22 hi0 hz0 hz1 hz2 rfl w.heap.size 1 1 _ rfl own2 (some ⟨g2, 0, none⟩) 4 4 _ _ dg rfl r2 (fun h => by cases h) ?k1 ?k2 bb2.size ?_)
  case k1 => unfold maxLen; omega
  case k2 => omega
  intro g3 cap3 w3 own3 grow3 hat3
  have b3 : Below w.heap.size w w3 := bb2.grown grow3 bb2.size (fun q hq => by simp at hq; omega)
  have own3' : w3.ownsRow w.heap.size 5 1 (.slice (some ⟨g3, 0, none⟩) 5 cap3) 5 (hs.map (Value.int .u8)) := by
    rw [hH.out]; exact own3
  have hl3 := own3'.lt g3 rfl
  have r3 := (Wr.of_own own3' (by unfold maxLen; omega) HHb.out).1.rd0
  clear own3 own3' grow3 hat3 own2 bb2 r2
  go_wp2_with fail
  refine (copy_any (some ⟨g3, 0, none⟩) 5 cap3 _ _ hs w3 r3 (by omega) (fun h => by cases h)).mono ?_
  rintro e w4 ⟨g4, cap4, rfl, own4, _, b4⟩
  have r4 := r3.keep (Keep.of_below b4 0 0) (by omega)
  have bb4 := b3.trans (b4.mono b3.size)
  have z4 := b4.size
  have key4 := hkey.keep (Keep.of_below bb4 0 0) (by omega)
  have d4 := h.keep (Keep.of_below bb4 0 0) (by omega)
  clear r3 b3 b4 hkey h
  go_wp2_with fail
  refine (l3Hide_any A (some ⟨g3, 0, none⟩) D nk ck 5 cap3 n c _ _ _ ks hs ds w4 key4 r4 d4 (fun h => by cases h) (by omega) hn).mono ?_
  intro e w5 hm5
  obtain ⟨g5, c5, rfl, hc5, wr5, b5⟩ := hm5.at_ hil
  have own5 := own_keep own4 (Keep.of_below b5 0 0) (by omega)
  have hl5 := own5.lt g4 rfl
  have r5 := wr5.1.rd0
  have z5 := b5.size
  have bb5 := bb4.trans (b5.mono bb4.size)
  have key5 := key4.keep (Keep.of_below b5 0 0) (by omega)
  generalize hideL ks hs ds = hid5 at *
  clear hm5 own4 r4 key4 d4 b5 bb4 wr5
  go_wp2_with (at_builtin; refine wpList_append_rd rfl (.tmp 18) (.tmp 22) 22 rfl w3.heap.size 5 i0 (.int .u8 0) Tryd.underlying22 hi0 hz0 hz1 hz2 rfl g4 5 cap4 _ rfl own5 (some ⟨g5, 0, none⟩) n c5 _ _ hid5 rfl r5 (fun h => by cases h) ?k3 ?k4 (by omega) ?_)
  case k3 => unfold maxLen; omega
  case k4 => omega
  intro g6 cap6 w6 own6 grow6 hat6
  have hw3 : w.heap.size ≤ w3.heap.size := Nat.le_of_lt (by omega)
  have b6 : Below w.heap.size w w6 := bb5.grown grow6 bb5.size (fun q hq => by simp at hq; omega)
  have k6 := Keep.of_append grow6
  have own6' : w6.ownsRow w3.heap.size 5 1 (.slice (some ⟨g6, 0, none⟩) (n + 5) cap6) (n + 5) (bd.map (Value.int .u8)) := by
    rw [hB.out, List.map_append, Nat.add_comm n 5]; exact own6
  have r6 := (Wr.of_own own6' (by unfold maxLen; omega) HBb.out).1.rd0
  have hl6 := own6'.lt g6 rfl
  have z6 := k6.size
  have key6 := key5.keep k6 (by omega)
  have en : 5 + n = n + 5 := Nat.add_comm 5 n
  rw [en]
  clear own6 grow6 hat6 own5 r5 bb5 key5 k6 en
  go_wp2_with fail
  refine (l3Tag_any A (some ⟨g6, 0, none⟩) nk ck (n + 5) cap6 _ _ ks bd w6 key6 r6 (by omega) (fun h => by cases h)).mono ?_
  intro e w7 hm7
  obtain ⟨g7, c7, rfl, hc7, wr7, b7⟩ := hm7.at_ htl
  have own7 := own_keep own6' (Keep.of_below b7 0 0) (by omega)
  have hl7 := own7.lt g6 rfl
  have r7 := wr7.1.rd0
  have bb7 := b6.trans (b7.mono b6.size)
  generalize tagL ks bd = tg at *
  clear hm7 own6' r6 key6 b6 b7 wr7
  go_wp2_with (at_builtin; refine wpList_append_rd rfl (.tmp 24) (.tmp 27) 22 rfl w3.heap.size 5 i0 (.int .u8 0) Tryd.underlying22 hi0 hz0 hz1 hz2 rfl g6 (n + 5) cap6 _ rfl own7 (some ⟨g7, 0, none⟩) 8 c7 _ _ tg rfl r7 (fun h => by cases h) ?k5 ?k6 (by omega) ?_)
  case k5 => unfold maxLen; omega
  case k6 => omega
  intro g8 cap8 w8 own8 grow8 hat8
  have b8 : Below w.heap.size w w8 := bb7.grown grow8 bb7.size (fun q hq => by simp at hq; omega)
  have own8' : w8.ownsRow w3.heap.size 5 1 (.slice (some ⟨g8, 0, none⟩) (n + 5 + 8) cap8) (n + 5 + 8) (Z.map (Value.int .u8)) := by
    rw [hZ.out, List.map_append]; exact own8
  have HF : Hid (Padded w Z (.returned (.slice (some ⟨g8, 0, none⟩) (n + 5 + 8) cap8)) w8) := by
    have hZl' : Z.length = n + 5 + 8 := by omega
    refine ⟨g8, cap8, ret_slice hZl'.symm, by rw [hZl']; exact own_cap own8', ?_, b8⟩
    rw [hZl']
    exact own_wide own8' hw3
  clear own8 own8' grow8 hat8 own7 r7 bb7 b8
  go_wp2_with fail
  go_ret
  exact HF.out
theorem l3Seal_any (A D : Option Addr) (nk ck n c hk hd : Nat) (sd sq : Int) (ks ds : List Int) (w : World) (hkey : Rd w 0 hk A nk ks) (h : Rd w 0 hd D n ds) (hsd : 0 ≤ sd ∧ sd ≤ 255) (hsq : 0 ≤ sq ∧ sq ≤ 9999) (hn : n ≤ 120) :
    Calls Tryd.prog 55 #[.slice A nk ck, .int .i64 sd, .int .i64 sq, .slice D n c] w (Got w (sealL ks sd sq ds)) := by
  refine (l3Seal_own A D nk ck n c hk hd sd sq ks ds w hkey h hsd hsq hn).mono ?_
  rintro e w1 ⟨g, cap, he, hc, ho, hb⟩
  exact ⟨g, cap, he, hc, Wr.of_own ho (by rw [sealL_len, h.len]; unfold maxLen; omega) (sealL_byte ks sd sq ds hsd), hb⟩
end Go.Proofs.YtpnpjngaenlciaaDoor
