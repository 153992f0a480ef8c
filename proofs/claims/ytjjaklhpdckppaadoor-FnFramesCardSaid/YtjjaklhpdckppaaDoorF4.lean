/- The walk over readFrames: the texts of a stream are handed to the closure, one behind the other. -/
import Derived.Test.YtjjaklhpdckppaaDoorF3
namespace Go.Proofs.YtjjaklhpdckppaaDoor
open Go.RowKit Pl
set_option linter.unusedVariables false

/-- a text's length; of what is none: 0. -/
def strLen : Value → Nat
  | .string s => s.size
  | _ => 0

/-- what is left of a stream that is read. -/
def Leaves (b : Bool) (left r : ByteArray) : Prop := b = false → left = r

set_option maxRecDepth 100000 in
set_option maxHeartbeats 2000000 in
theorem readf_any (t : ByteArray) (g B : Nat) (v : Value) (xs ss : List ByteArray) (r : ByteArray) (b : Bool) (w : World) (hf : Hid (Fed t ss r b)) (hv : Hid (VarAt w g v)) (hown : Hid (OwnS w B v xs)) (htab : Hid (Tab w)) (hBg : B ≤ g) (hB : 0 < B) (hl : xs.length + ss.length ≤ 20000) (hs : t.size ≤ 20000) :
    Calls Tryd.prog 29 #[.string t, .func (Fn.func 30) #[] #[.pointer (some ⟨g, 0, none⟩)]] w fun e w' => ∃ left v', e = .returned (.tuple #[.string left, .bool b]) ∧ Leaves b left r ∧ left.size ≤ 20000 ∧ VarAt w' g v' ∧ OwnS w' B v' (xs ++ ss) ∧ Below B w w' := by
  go_enter Tryd.func29, Tryd.ntmps29
  go_wp2
  go_loopw [0] (fun s0 wr => ∃ (T : ByteArray) (ys zs : List ByteArray) (u : Value), s0 = .string T ∧ Hid (Fed T zs r b) ∧ Hid (VarAt wr g u) ∧ Hid (OwnS wr B u ys) ∧ Hid (ys ++ zs = xs ++ ss) ∧ T.size ≤ 20000 ∧ Hid (Tab wr) ∧ Hid (Below B w wr)) (fun s0 _ => strLen s0)
  case atStart => exact ⟨t, xs, ss, v, rfl, hf, hv, hown, rfl, hs, htab, Below.refl _ _⟩
  case round =>
    clear hf hv hown htab
    obtain ⟨T, ys, zs, u, rfl, hf, hv, hown, he, hT, htab, hb⟩ := hrel
    have hF := hf.out
    clear hf
    rcases fed_inv hF with ⟨h0, rfl, rfl, rfl⟩ | ⟨h0, h1, rfl, rfl, rfl⟩ | ⟨h0, h1, h2, rfl, rfl, rfl⟩ | ⟨h0, h1, h2, h3, rfl, rfl, rfl⟩ | ⟨zs', h0, h1, h2, h3, rfl, h4⟩
    · clear hF
      have hn : ys = xs ++ ss := by rw [← he.out, List.append_nil]
      go_wp2_with (first | (go_at_call 37; refine (first_none T _ h0).mono ?_; rintro e w1 ⟨rfl, hb1⟩))
      go_ret2
      have hvg := hv.out.lt
      exact ⟨T, u, rfl, (show Leaves _ _ _ from fun _ => ext_list (List.eq_nil_of_length_eq_zero h0)), hT, hv.out.stays hb1 hvg, by rw [← hn]; exact hown.out.stays hb1 (fun k hk => (hown.out.lt k hk).2), hb.out.trans (hb1.mono (by omega))⟩
    · clear hF
      have hn : ys = xs ++ ss := by rw [← he.out, List.append_nil]
      go_wp2_with (first | (go_at_call 37; refine (first_big T _ h0 h1 (by omega)).mono ?_; rintro e w1 ⟨rfl, hb1⟩))
      go_ret2
      have hvg := hv.out.lt
      exact ⟨T, u, rfl, (show Leaves _ _ _ from fun h => by cases h), hT, hv.out.stays hb1 hvg, by rw [← hn]; exact hown.out.stays hb1 (fun k hk => (hown.out.lt k hk).2), hb.out.trans (hb1.mono (by omega))⟩
    · clear hF
      have hn : ys = xs ++ ss := by rw [← he.out, List.append_nil]
      go_wp2_with (first | (go_at_call 37; refine (first_part r _ h0 h1 h2).mono ?_; rintro e w1 ⟨rfl, hb1⟩))
      go_ret2
      have hvg := hv.out.lt
      exact ⟨r, u, rfl, (show Leaves _ _ _ from fun _ => rfl), hT, hv.out.stays hb1 hvg, by rw [← hn]; exact hown.out.stays hb1 (fun k hk => (hown.out.lt k hk).2), hb.out.trans (hb1.mono (by omega))⟩
    · clear hF
      have hn : ys = xs ++ ss := by rw [← he.out, List.append_nil]
      go_wp2_with (first | (go_at_call 37; refine (first_torn T _ h0 h1 h2 h3 (by omega) htab).mono ?_; rintro e w1 ⟨rfl, hb1⟩))
      go_ret2
      have hvg := hv.out.lt
      exact ⟨T, u, rfl, (show Leaves _ _ _ from fun h => by cases h), hT, hv.out.stays hb1 hvg, by rw [← hn]; exact hown.out.stays hb1 (fun k hk => (hown.out.lt k hk).2), hb.out.trans (hb1.mono (by omega))⟩
    · clear hF
      have hz := text0_size T h2
      have HF : Hid (Fed (rest0 T) zs' r b) := h4
      have hyl : ys.length ≤ 20000 := by
        have := congrArg List.length he.out
        simp only [List.length_append] at this
        omega
      have hvg := hv.out.lt
      have HE : Hid ((ys ++ [text0 T]) ++ zs' = xs ++ ss) := by rw [← he.out]; show _ = _; simp
      have hX := fun w => first_whole T w h0 h1 h2 h3 (by omega)
      have hR : Hid (T.extract (3 + len0 T) T.size = rest0 T) := rfl
      clear h3 h4 he
      generalize hn : len0 T = n at *
      generalize text0 T = s at *
      go_wp2_with (first
        | (go_at_call 37; refine (hX _ htab).mono ?_; rintro e w1 ⟨rfl, hb1⟩; have hv1 := hv.out.stays hb1 hvg; have hown1 := hown.out.stays hb1 (fun k hk => (hown.out.lt k hk).2))
        | (go_at_call 30; refine (yield_any s g B u ys _ hv1 hown1 hBg (by omega) (by omega)).mono ?_; rintro e w2 ⟨rfl, v2, hv2, hown2, hb2⟩))
      go_roundw
      case rel =>
        refine ⟨rest0 T, ys ++ [s], zs', v2, ?_, HF, hv2, hown2, HE, ?_, ?_, ?_⟩
        · rw [← hR.out]
        · rw [rest0_size]; omega
        · exact (htab.out.below hb1).keep hb2 hB
        · exact hb.out.trans ((hb1.mono (by omega)).trans hb2)
      case measure =>
        simp only [strLen]
        rw [ByteArray.size_extract]
        omega
end Go.Proofs.YtjjaklhpdckppaaDoor
