/- The law on Missing. -/
import Derived.Test.YtjijpcfdkmbgpaaA6
import Derived.Test.YtjijpcfdkmbgpaaC4
import Derived.Test.YtjijpcfdkmbgpaaMk
import Derived.Test.YtjijpcfdkmbgpaaEs
namespace Go.Proofs.Ytjijpcfdkmbgpaa
open Go.RowKit Pl
set_option linter.unusedVariables false

set_option maxRecDepth 100000 in
set_option maxHeartbeats 4000000 in
theorem lawMissing (ao : Option Addr) (cap : Nat) (ts : List It) (u : Int) (w : World) (hx : Hid (ItemsAt w ao ts)) (hl : ts.length ≤ maxLen) (hs : Hid (∀ x ∈ ts, x.2.2.2.size ≤ maxLen)) :
    Calls Try.prog 9 #[.slice ao ts.length cap, .int .i64 u] w fun e w' => e = .returned (.bool true) ∧ Below w.heap.size w w' := by
  unfold maxLen at hl hs
  go_enter Try.func9, Try.ntmps9
  go_wp2_with fail
  refine (szItems_left 1048576 (Nat.le_refl _) ao cap ts w hx hl hs).mono ?_
  rintro e w1 ⟨rfl | ⟨z, rfl, hz1, hs1⟩, B1⟩
  · go_wp2_with fail
    go_ret
    exact ⟨rfl, B1⟩
  have hl2 : ts.length ≤ 1048576 := by omega
  have hz : decide ((z : Int) < 0) = false := by simp
  have X1 : Hid (ItemsAt w1 ao ts) := hx.out.stays B1
  have HS : Hid (∀ x ∈ ts, x.2.2.2.size ≤ 1048576) := hs1
  obtain ⟨R, hR⟩ : ∃ R : List Int, R = missP ts u := ⟨_, rfl⟩
  have hRl : R.length ≤ 20 := by rw [hR]; exact missP_le ts u
  have SPC : Hid (∀ (a : Option Addr) (W : World), Hid (ItemsAt W a ts) → Calls Try.prog 40 #[.slice a ts.length ts.length, .int .i64 u] W fun e w' => ∃ v, e = .returned v ∧ OwnI w' W.heap.size v R ∧ Below W.heap.size W w') := fun a W h => by rw [hR]; exact spMissing_any a _ ts u W h hl2
  have IMP : Hid (∀ (a : Option Addr) (W : World), Hid (ItemsAt W a ts) → Calls Try.prog 25 #[.slice a ts.length ts.length, .int .i64 u] W fun e w' => ∃ v, e = .returned v ∧ OwnI w' W.heap.size v R ∧ Below W.heap.size W w') := fun a W h => by rw [hR]; exact missing_any a _ ts u W h hl2
  clear hl hs hz1 hs1 hR HS

  go_wp2_with fail
  refine (toItems_sl w1 ao cap ts X1 hl2).mono ?_
  rintro e w2 ⟨rfl, _, Y2, b2⟩
  have Y2 : Hid (ItemsAt w2 (some ⟨w1.heap.size, 0, none⟩) ts) := Y2
  have B2 : Below w.heap.size w w2 := B1.trans (b2.mono B1.size)
  clear b2 X1 B1
  go_wp2_with fail
  refine (SPC.out _ w2 Y2).mono ?_
  rintro e w3 ⟨v0, rfl, P3, b3⟩
  have P3 : Hid (OwnI w3 w2.heap.size v0 R) := P3
  have B3 : Below w.heap.size w w3 := B2.trans (b3.mono B2.size)
  have X3 : Hid (ItemsAt w3 ao ts) := hx.out.stays B3
  have L3 : Hid (∀ k, v0.ownBlock = some k → k < w3.heap.size) := fun k hk => (P3.out.lt k hk).2
  clear b3 Y2 B2 SPC
  go_wp2_with fail
  refine (toItems_sl w3 ao cap ts X3 hl2).mono ?_
  rintro e w4 ⟨rfl, S4, Y4, b4⟩
  have S4 : Hid (SlI w4 w3.heap.size (.slice (some ⟨w3.heap.size, 0, none⟩) ts.length ts.length) ts) := S4
  have Y4 : Hid (ItemsAt w4 (some ⟨w3.heap.size, 0, none⟩) ts) := Y4
  have P4 : Hid (OwnI w4 w2.heap.size v0 R) := P3.out.under b4
  have B4 : Below w.heap.size w w4 := B3.trans (b4.mono B3.size)
  have G4 : w3.heap.size < w4.heap.size := (S4.out.lt _ rfl).2
  have z3 : w.heap.size ≤ w3.heap.size := B3.size
  clear b4 X3 P3 B3
  go_wp2_with fail
  refine (IMP.out _ w4 Y4).mono ?_
  rintro e w5 ⟨v1, rfl, O5, b5⟩
  have O5 : Hid (OwnI w5 w4.heap.size v1 R) := O5
  have P5 : Hid (OwnI w5 w2.heap.size v0 R) := P4.out.under b5
  have S5 : Hid (SlI w5 w3.heap.size (.slice (some ⟨w3.heap.size, 0, none⟩) ts.length ts.length) ts) := S4.out.below b5
  have B5 : Below w.heap.size w w5 := B4.trans (b5.mono B4.size)
  clear b5 Y4 P4 S4 B4
  go_wp2_with fail
  refine (eqI_same v1 v0 R _ _ w5 O5.out P5.out (by omega)).mono ?_
  rintro e w6 ⟨rfl, b6⟩
  have O6 : Hid (OwnI w6 w4.heap.size v1 R) := O5.out.under b6
  have P6 : Hid (OwnI w6 w2.heap.size v0 R) := P5.out.under b6
  have S6 : Hid (SlI w6 w3.heap.size (.slice (some ⟨w3.heap.size, 0, none⟩) ts.length ts.length) ts) := S5.out.below b6
  have B6 : Below w.heap.size w w6 := B5.trans (b6.mono B5.size)
  have X6 : Hid (ItemsAt w6 ao ts) := hx.out.stays B6
  clear b6 O5 P5 S5 B5
  go_wp2_with fail
  refine (toItems_sl w6 ao cap ts X6 hl2).mono ?_
  rintro e w7 ⟨rfl, Y7, _, b7⟩
  have Y7 : Hid (SlI w7 w6.heap.size (.slice (some ⟨w6.heap.size, 0, none⟩) ts.length ts.length) ts) := Y7
  have O7 : Hid (OwnI w7 w4.heap.size v1 R) := O6.out.under b7
  have P7 : Hid (OwnI w7 w2.heap.size v0 R) := P6.out.under b7
  have S7 : Hid (SlI w7 w3.heap.size (.slice (some ⟨w3.heap.size, 0, none⟩) ts.length ts.length) ts) := S6.out.below b7
  have B7 : Below w.heap.size w w7 := B6.trans (b7.mono B6.size)
  clear b7 O6 P6 S6 B6 X6
  go_wp2_with fail
  refine (eqItems_sl _ _ ts _ _ w7 S7.out Y7.out hl2).mono ?_
  rintro e w8 ⟨rfl, b8⟩
  have O8 : Hid (OwnI w8 w4.heap.size v1 R) := O7.out.under b8
  have P8 : Hid (OwnI w8 w2.heap.size v0 R) := P7.out.under b8
  have S8 : Hid (SlI w8 w3.heap.size (.slice (some ⟨w3.heap.size, 0, none⟩) ts.length ts.length) ts) := S7.out.below b8
  have B8 : Below w.heap.size w w8 := B7.trans (b8.mono B7.size)
  clear b8 O7 P7 S7 B7 Y7
  go_wp2_with fail
  refine (markItems_any _ ts w3.heap.size 1 w8 S8 (by omega) (by omega)).mono ?_
  rintro e w9 ⟨rfl, _, G9⟩
  have O9 : Hid (OwnI w9 w4.heap.size v1 R) := O8.out.kept G9 (fun k hk he => by have := (O8.out.lt k hk).1; simp [Value.ownBlock] at he; omega)
  have P9 : Hid (OwnI w9 w2.heap.size v0 R) := P8.out.kept G9 (fun k hk he => by have := L3.out k hk; simp [Value.ownBlock] at he; omega)
  have B9 : Below w.heap.size w w9 := B8.grown G9 B8.size (fun k hk => by simp [Value.ownBlock] at hk; omega)
  obtain ⟨z9, hz9⟩ : ∃ z9 : Nat, 1 + 4 * ts.length = z9 := ⟨_, rfl⟩
  rw [hz9]
  have hz9 : decide ((z9 : Int) < 0) = false := by simp
  clear O8 P8 S8 G9 B8
  go_wp2_with fail
  refine (eqI_same v1 v0 R _ _ w9 O9.out P9.out (by omega)).mono ?_
  rintro e wa ⟨rfl, ba⟩
  have Oa : Hid (OwnI wa w4.heap.size v1 R) := O9.out.under ba
  have Pa : Hid (OwnI wa w2.heap.size v0 R) := P9.out.under ba
  have Ba : Below w.heap.size w wa := B9.trans (ba.mono B9.size)
  clear ba O9 P9 B9
  go_wp2_with fail
  refine (markI_any v1 R w4.heap.size 1 wa Oa.out (by omega) (by omega)).mono ?_
  rintro e wb ⟨rfl, Ob, Gb⟩
  have Ob : Hid (OwnI wb w4.heap.size v1 (marks 1 R.length)) := Ob
  have Pb : Hid (OwnI wb w2.heap.size v0 R) := Pa.out.kept Gb (fun k hk he => by have := L3.out k hk; have := (Oa.out.lt k he.symm).1; omega)
  have hBa := Ba.size
  have Bb : Below w.heap.size w wb := Ba.grown Gb Ba.size (fun k hk => by have := (Oa.out.lt k hk).1; omega)
  clear Oa Pa Gb Ba hz9
  obtain ⟨M, hM⟩ : ∃ M : Nat, 1 + R.length = M := ⟨_, rfl⟩
  rw [hM]
  have HM : Hid (1 + R.length = M) := hM
  have hM0 : decide ((M : Int) < 0) = false := by simp
  clear hM
  go_wp2_with fail
  refine (heldI_any v1 R.length w4.heap.size 1 wb Ob.out (by omega) (by omega)).mono ?_
  rintro e wc ⟨rfl, hwc⟩
  have bc : Below wb.heap.size wb wc := by rw [hwc]; exact Below.refl _ _
  clear hwc
  rw [HM.out]
  have Oc : Hid (OwnI wc w4.heap.size v1 (marks 1 R.length)) := Ob.out.under bc
  have Pc : Hid (OwnI wc w2.heap.size v0 R) := Pb.out.under bc
  have Bc : Below w.heap.size w wc := Bb.trans (bc.mono Bb.size)
  have Xc : Hid (ItemsAt wc ao ts) := hx.out.stays Bc
  clear bc Ob Pb Bb
  go_wp2_with fail
  refine (toItems_sl wc ao cap ts Xc hl2).mono ?_
  rintro e wd ⟨rfl, _, Yd, bd⟩
  have Yd : Hid (ItemsAt wd (some ⟨wc.heap.size, 0, none⟩) ts) := Yd
  have Od : Hid (OwnI wd w4.heap.size v1 (marks 1 R.length)) := Oc.out.under bd
  have Pd : Hid (OwnI wd w2.heap.size v0 R) := Pc.out.under bd
  have Bd : Below w.heap.size w wd := Bc.trans (bd.mono Bc.size)
  clear bd Oc Pc Bc Xc
  go_wp2_with fail
  refine (IMP.out _ wd Yd).mono ?_
  rintro e we ⟨v2, rfl, Qe, be⟩
  have Qe : Hid (OwnI we wd.heap.size v2 R) := Qe
  have Oe : Hid (OwnI we w4.heap.size v1 (marks 1 R.length)) := Od.out.under be
  have Pe : Hid (OwnI we w2.heap.size v0 R) := Pd.out.under be
  have Be : Below w.heap.size w we := Bd.trans (be.mono Bd.size)
  clear be Od Pd Bd Yd
  go_wp2_with fail
  refine (eqI_same v2 v0 R _ _ we Qe.out Pe.out (by omega)).mono ?_
  rintro e wf ⟨rfl, bf⟩
  have Of : Hid (OwnI wf w4.heap.size v1 (marks 1 R.length)) := Oe.out.under bf
  have Bf : Below w.heap.size w wf := Be.trans (bf.mono Be.size)
  clear bf Oe Pe Qe Be
  go_wp2_with fail
  refine (heldI_any v1 R.length w4.heap.size 1 wf Of.out (by omega) (by omega)).mono ?_
  rintro e wg ⟨rfl, hwg⟩
  have bg : Below wf.heap.size wf wg := by rw [hwg]; exact Below.refl _ _
  clear hwg
  rw [HM.out]
  go_wp2_with fail
  go_ret
  exact ⟨rfl, Bf.trans (bg.mono Bf.size)⟩
end Go.Proofs.Ytjijpcfdkmbgpaa
