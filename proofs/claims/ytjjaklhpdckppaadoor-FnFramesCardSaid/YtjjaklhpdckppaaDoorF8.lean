/- The walk over the specification's FeedReader where it reads. -/
import Derived.Test.YtjjaklhpdckppaaDoorF7
namespace Go.Proofs.YtjjaklhpdckppaaDoor
open Go.RowKit Pl
set_option linter.unusedVariables false

theorem fin8 {w wr : World} {v : Value} {ys : List ByteArray} (hR : RdrAt wr (w.heap.size + 1) ⟨#[]⟩ false) (ho : OwnS wr (w.heap.size + 1 + 1) v ys) (hB : Below w.heap.size w wr) (r : ByteArray) (b : Bool) :
    RdrAt ((wr.setCell ⟨w.heap.size + 1, 0, none⟩ (.string r)).setCell ⟨w.heap.size + 1, 1, none⟩ (.bool b)) (w.heap.size + 1) r b ∧
    OwnS ((wr.setCell ⟨w.heap.size + 1, 0, none⟩ (.string r)).setCell ⟨w.heap.size + 1, 1, none⟩ (.bool b)) w.heap.size v ys ∧
    Below w.heap.size w ((wr.setCell ⟨w.heap.size + 1, 0, none⟩ (.string r)).setCell ⟨w.heap.size + 1, 1, none⟩ (.bool b)) :=
  ⟨hR.set r b, own_rdr (ho.down (by omega)) hR _ _, (hB.setCell (Nat.le_succ _) _).setCell (Nat.le_succ _) _⟩

set_option maxRecDepth 100000 in
set_option maxHeartbeats 4000000 in
theorem spfeed_any (a m : ByteArray) (ss : List ByteArray) (r : ByteArray) (b : Bool) (w : World) (hf : Hid (Fed (a ++ m) ss r b)) (hs : a.size + m.size ≤ 20000) :
    Calls Tryd.prog 14 #[.agg #[.string a, .bool false], .string m] w fun e w' => ∃ v, e = .returned (.tuple #[.agg #[.string r, .bool b], v]) ∧ OwnS w' w.heap.size v ss ∧ Below w.heap.size w w' := by
  have HL : Hid _ := laid3 w a ⟨#[]⟩ false false
  have hfl := fed_len hf.out
  have hsz : (a ++ m).size = a.size + m.size := ByteArray.size_append
  rw [hsz] at hfl
  go_enter Tryd.func14, Tryd.ntmps14
  go_wp2
  have H := HL.out
  generalize (((w.alloc (Obj.cells #[Value.string a, Value.bool false] 32)).alloc (Obj.cells #[Value.string ⟨#[]⟩, Value.bool false] 32)).alloc (Obj.cells #[] 9)) = W at H ⊢
  clear HL
  have hB := H.size
  have HR : Hid (RdrAt W (w.heap.size + 1) ⟨#[]⟩ false) := H.res
  have HO : Hid (OwnS W (w.heap.size + 1 + 1) (.slice (some ⟨w.heap.size + 1 + 1, 0, none⟩) 0 0) []) := H.own
  have HB : Hid (Below w.heap.size w W) := H.below
  clear H
  generalize hS : a ++ m = S at *
  have hSs : S.size ≤ 20000 := by omega
  have hfl2 : ss.length ≤ 20000 := by omega
  clear hS hsz hfl hs
  go_loopw [6, 8, 9, 10, 11, 12] (fun v i _ _ _ _ wr => ∃ (k : Nat) (ys zs : List ByteArray), k ≤ S.size ∧ i = .int .i64 k ∧ Hid (Fed (dropT S k) zs r b) ∧ OwnS wr (w.heap.size + 1 + 1) v ys ∧ Hid (ys ++ zs = ss) ∧ Below (w.heap.size + 1 + 1) W wr) (fun _ i _ _ _ _ _ => S.size - (intOf i).toNat)
  case atStart => exact ⟨0, [], ss, by omega, rfl, (show Fed _ _ _ _ by rw [dropT_zero]; exact hf.out), HO.out, rfl, Below.refl _ _⟩
  case round =>
    obtain ⟨k, ys, zs, hk, rfl, hF0, hown, he, hbW⟩ := hrel
    have hwsz := hbW.size
    have hyl : ys.length ≤ 20000 := by
      have := congrArg List.length he.out
      rw [List.length_append] at this
      omega
    have hRd := HR.out.stays hbW (Nat.lt_succ_self _)
    have HBr : Hid (Below w.heap.size w wr) := HB.out.trans (hbW.mono (by omega))
    obtain ⟨c0, c1, z0, z1⟩ := hRd.cells
    obtain ⟨ao1, cap1, hvf⟩ := hown.form
    subst hvf
    have hdz := dropT_size S k
    have hF := hF0.out
    clear hF0 hf
    generalize hT : dropT S k = T at hF
    rcases fed_inv hF with ⟨h0, rfl, rfl, rfl⟩ | ⟨h0, h1, rfl, rfl, rfl⟩ | ⟨h0, h1, h2, rfl, rfl, rfl⟩ | ⟨h0, h1, h2, h3, rfl, rfl, rfl⟩ | ⟨zs', h0, h1, h2, h3, rfl, h4⟩
    · clear hF
      obtain rfl : k = S.size := by rw [← hT] at h0; omega
      clear hT
      have hn : ys = ss := by rw [← he.out, List.append_nil]
      have HFIN : Hid _ := fin8 hRd hown HBr.out ⟨#[]⟩ false
      have HN : Hid (ys = ss) := hn
      clear hn he
      go_wp2
      obtain ⟨R2, O2, B2⟩ := HFIN.out
      generalize ((wr.setCell ⟨w.heap.size + 1, 0, none⟩ (.string ⟨#[]⟩)).setCell ⟨w.heap.size + 1, 1, none⟩ (.bool false)) = W2 at R2 O2 B2 ⊢
      obtain ⟨q0, q1, _, _⟩ := R2.cells
      refine bodyPost_ret (v := .tuple #[.agg #[.string ⟨#[]⟩, .bool false], .slice ao1 ys.length cap1]) (by simp [results, Tryd.results14, go_sem, q0, q1]) rfl ?_
      exact ⟨_, rfl, by rw [← HN.out]; exact O2, B2⟩
    · clear hF
      have hkl : k < S.size := by rw [← hT] at h0; omega
      have hl0 := dropT_len0 S k hkl
      rw [hT] at hl0 hdz
      have hlt := len0_lt T
      clear hT
      have hn : ys = ss := by rw [← he.out, List.append_nil]
      have HFIN : Hid _ := fin8 hRd hown HBr.out ⟨#[]⟩ true
      have HN : Hid (ys = ss) := hn
      clear hn he
      go_wp2
      obtain ⟨R2, O2, B2⟩ := HFIN.out
      generalize ((wr.setCell ⟨w.heap.size + 1, 0, none⟩ (.string ⟨#[]⟩)).setCell ⟨w.heap.size + 1, 1, none⟩ (.bool true)) = W2 at R2 O2 B2 ⊢
      obtain ⟨q0, q1, _, _⟩ := R2.cells
      refine bodyPost_ret (v := .tuple #[.agg #[.string ⟨#[]⟩, .bool true], .slice ao1 ys.length cap1]) (by simp [results, Tryd.results14, go_sem, q0, q1]) rfl ?_
      exact ⟨_, rfl, by rw [← HN.out]; exact O2, B2⟩
    · clear hF
      have hkl : k < S.size := by rw [← hT] at h0; omega
      have hl0 := dropT_len0 S k hkl
      rw [hT] at hl0 hdz
      have hE : Hid (S.extract k S.size = r) := hT
      clear hT
      have hn : ys = ss := by rw [← he.out, List.append_nil]
      have HN : Hid (ys = ss) := hn
      clear hn he
      have HFIN : Hid _ := fin8 hRd hown HBr.out (S.extract k S.size) false
      go_wp2
      obtain ⟨R2, O2, B2⟩ := HFIN.out
      generalize ((wr.setCell ⟨w.heap.size + 1, 0, none⟩ (.string (S.extract k S.size))).setCell ⟨w.heap.size + 1, 1, none⟩ (.bool false)) = W2 at R2 O2 B2 ⊢
      obtain ⟨q0, q1, _, _⟩ := R2.cells
      refine bodyPost_ret (v := .tuple #[.agg #[.string (S.extract k S.size), .bool false], .slice ao1 ys.length cap1]) (by simp [results, Tryd.results14, go_sem, q0, q1]) rfl ?_
      exact ⟨_, by rw [hE.out], by rw [← HN.out]; exact O2, B2⟩
    · clear hF
      have hkl : k < S.size := by rw [← hT] at h0; omega
      have hl0 := dropT_len0 S k hkl
      have hX := dropT_text0 S k
      have hE := dropT_extract S k 0 (3 + len0 T)
      rw [hT] at hl0 hdz hX hE
      rw [Nat.add_zero, ← Nat.add_assoc] at hE
      have hcmp := list_differ (frame_differ h2 h3)
      have hxs := text0_size T h2
      rw [hE, hX] at hcmp
      rw [hX] at hxs
      clear hT hX hE h3
      generalize len0 T = n at *
      have hxs2 : (S.extract (k + 3) (k + 3 + n)).size ≤ 60 := by omega
      clear hxs
      have hn : ys = ss := by rw [← he.out, List.append_nil]
      have HN : Hid (ys = ss) := hn
      clear hn he
      go_wp2_with (first | (go_at_call 15; refine (spFrameOf_any _ _ hxs2).mono ?_; rintro e w3 ⟨rfl, hb3⟩; have hR3 := RdrAt.stays hRd hb3 hRd.lt; obtain ⟨c0', c1', z0', z1'⟩ := hR3.cells; have hown3 := hown.stays hb3 (fun k hk => (hown.lt k hk).2); have hB3 := Below.trans HBr.out (hb3.mono HBr.out.size)))
      obtain ⟨R2, O2, B2⟩ := fin8 hR3 hown3 hB3 ⟨#[]⟩ true
      generalize ((w3.setCell ⟨w.heap.size + 1, 0, none⟩ (.string ⟨#[]⟩)).setCell ⟨w.heap.size + 1, 1, none⟩ (.bool true)) = W2 at R2 O2 B2 ⊢
      obtain ⟨q0, q1, _, _⟩ := R2.cells
      refine bodyPost_ret (v := .tuple #[.agg #[.string ⟨#[]⟩, .bool true], .slice ao1 ys.length cap1]) (by simp [results, Tryd.results14, go_sem, q0, q1]) rfl ?_
      exact ⟨_, rfl, by rw [← HN.out]; exact O2, B2⟩
    · clear hF
      have hkl : k < S.size := by rw [← hT] at h0; omega
      have hl0 := dropT_len0 S k hkl
      have hX := dropT_text0 S k
      have hE := dropT_extract S k 0 (3 + len0 T)
      rw [hT] at hl0 hdz hX hE
      rw [Nat.add_zero, ← Nat.add_assoc] at hE
      have hcmp := list_same (frame_same h2 h3)
      have hxs := text0_size T h2
      have hRs := dropT_rest0 S k
      rw [hT] at hRs
      rw [hRs, ← Nat.add_assoc] at h4
      have HE : Hid ((ys ++ [S.extract (k + 3) (k + 3 + len0 T)]) ++ zs' = ss) := by rw [← hX, ← he.out]; show _ = _; simp
      rw [hE, hX] at hcmp
      rw [hX] at hxs
      have HF : Hid (Fed (dropT S (k + 3 + len0 T)) zs' r b) := h4
      clear hT hX hE h3 h4 hRs he
      generalize len0 T = n at *
      have hxs2 : (S.extract (k + 3) (k + 3 + n)).size ≤ 60 := by omega
      clear hxs
      go_wp2_with (first | (go_at_call 15; refine (spFrameOf_any _ _ hxs2).mono ?_; rintro e w3 ⟨rfl, hb3⟩; have hown3 := hown.stays hb3 (fun k hk => (hown.lt k hk).2); have hs3 := hb3.size) | (at_builtin; refine wpList_pushS rfl _ _ 24 rfl Tryd.underlying24 Tryd.info9f (w.heap.size + 1 + 1) _ ys rfl hown3 _ rfl (by omega) (by omega) ?_; intro v4 w4 hown4 hb4))
      go_roundw
      case rel => exact ⟨k + 3 + n, _, zs', by omega, by go_num, HF, hown4, HE, hbW.trans ((hb3.mono (by omega)).trans hb4)⟩
      case measure => simp [intOf]; omega
end Go.Proofs.YtjjaklhpdckppaaDoor
