/- The law on Union. -/
import Derived.Test.YtjijpcfdkmbgpaaUn
import Derived.Test.YtjijpcfdkmbgpaaEq
namespace Go.Proofs.Ytjijpcfdkmbgpaa
open Go.RowKit Pl
set_option linter.unusedVariables false

set_option maxRecDepth 100000 in
set_option maxHeartbeats 4000000 in
theorem lawUnion (ao : Option Addr) (cap : Nat) (ts : List (List It)) (w : World) (hx : Hid (IsAt w ao ts)) (hl : ts.length ≤ maxLen) :
    Calls Try.prog 10 #[.slice ao ts.length cap] w fun e w' => e = .returned (.bool true) ∧ Below w.heap.size w w' := by
  unfold maxLen at hl
  go_enter Try.func10, Try.ntmps10
  go_wp2_with fail
  refine (szSs_any ao cap ts w hx hl).mono ?_
  rintro e w1 ⟨rfl | ⟨z, rfl, hz1, hs1⟩, B1⟩
  · go_wp2_with fail
    go_ret
    exact ⟨rfl, B1⟩
  have hl2 : ts.length ≤ 1048576 := by omega
  have htt : tot ts ≤ 1048576 := by omega
  have hz : decide ((z : Int) < 0) = false := by simp
  have X1 : Hid (IsAt w1 ao ts) := hx.out.stays B1
  have HS : Hid (∀ l ∈ ts, ∀ y ∈ l, y.2.2.2.size ≤ 1048576) := hs1
  have HML : Hid (∀ l ∈ ts, l.length ≤ 1048576) := fun l hl => by have := tot_mem hl; omega
  have HMS : Hid (∀ l ∈ ts, l.length ≤ 1048576 ∧ ∀ y ∈ l, y.2.2.2.size ≤ 1048576) := fun l hl => ⟨HML.out l hl, HS.out l hl⟩
  obtain ⟨R, hR⟩ : ∃ R : List It, R = unionP ts := ⟨_, rfl⟩
  have hRl : R.length ≤ 1048576 := by rw [hR]; have := iGo_short (unionP_right ts); omega
  have SPC : Hid (∀ (a : Option Addr) (W : World), Hid (IsAt W a ts) → Calls Try.prog 45 #[.slice a ts.length ts.length] W fun e w' => ∃ v, e = .returned v ∧ SlI w' W.heap.size v R ∧ Below W.heap.size W w') := fun a W h => by rw [hR]; exact spUnion_any a _ ts W h hl2 HML
  have IMP : Hid (∀ (a : Option Addr) (W : World), Hid (IsAt W a ts) → Calls Try.prog 27 #[.slice a ts.length ts.length] W fun e w' => ∃ v, e = .returned v ∧ SlI w' W.heap.size v R ∧ Below W.heap.size W w') := fun a W h => by rw [hR]; exact union_any a _ ts W h hl2 HML HS
  clear hl hz1 hs1 hR HS
  go_wp2_with fail
  refine (toSs_any w1 ao cap ts X1 hl2 HML).mono ?_
  rintro e w2 ⟨rfl, R2, b2⟩
  have Y2 : Hid (IsAt w2 (some ⟨w1.heap.size, 0, none⟩) ts) := R2.ls rfl HMS.out
  clear R2
  have B2 : Below w.heap.size w w2 := B1.trans (b2.mono B1.size)
  clear b2 X1 B1
  go_wp2_with fail
  refine (SPC.out _ w2 Y2).mono ?_
  rintro e w3 ⟨v0, rfl, P3, b3⟩
  have P3 : Hid (SlI w3 w2.heap.size v0 R) := P3
  have B3 : Below w.heap.size w w3 := B2.trans (b3.mono B2.size)
  have X3 : Hid (IsAt w3 ao ts) := hx.out.stays B3
  have L3 : Hid (∀ k, v0.ownBlock = some k → k < w3.heap.size) := fun k hk => (P3.out.lt k hk).2
  clear b3 Y2 B2 SPC
  go_wp2_with fail
  refine (toSs_any w3 ao cap ts X3 hl2 HML).mono ?_
  rintro e w4 ⟨rfl, S4, b4⟩
  have S4 : Hid (RowSs w4 w3.heap.size w4.heap.size ts.length ts ts.length) := S4
  have Y4 : Hid (IsAt w4 (some ⟨w3.heap.size, 0, none⟩) ts) := S4.out.ls rfl HMS.out
  have P4 : Hid (SlI w4 w2.heap.size v0 R) := P3.out.below b4
  have B4 : Below w.heap.size w w4 := B3.trans (b4.mono B3.size)
  have G4 : w3.heap.size < w4.heap.size := S4.out.lt
  have z3 : w.heap.size ≤ w3.heap.size := B3.size
  clear b4 X3 P3 B3
  go_wp2_with fail
  refine (IMP.out _ w4 Y4).mono ?_
  rintro e w5 ⟨v1, rfl, O5, b5⟩
  have O5 : Hid (SlI w5 w4.heap.size v1 R) := O5
  have P5 : Hid (SlI w5 w2.heap.size v0 R) := P4.out.below b5
  have S5 : Hid (RowSs w5 w3.heap.size w4.heap.size ts.length ts ts.length) := S4.out.below b5
  have B5 : Below w.heap.size w w5 := B4.trans (b5.mono B4.size)
  clear b5 Y4 P4 S4 B4
  go_wp2_with fail
  refine (eqItems_sl v1 v0 R _ _ w5 O5.out P5.out hRl).mono ?_
  rintro e w6 ⟨rfl, b6⟩
  have O6 : Hid (SlI w6 w4.heap.size v1 R) := O5.out.below b6
  have P6 : Hid (SlI w6 w2.heap.size v0 R) := P5.out.below b6
  have S6 : Hid (RowSs w6 w3.heap.size w4.heap.size ts.length ts ts.length) := S5.out.below b6
  have B6 : Below w.heap.size w w6 := B5.trans (b6.mono B5.size)
  have X6 : Hid (IsAt w6 ao ts) := hx.out.stays B6
  clear b6 O5 P5 S5 B5
  go_wp2_with fail
  refine (toSs_any w6 ao cap ts X6 hl2 HML).mono ?_
  rintro e w7 ⟨rfl, Y7, b7⟩
  have Y7 : Hid (RowSs w7 w6.heap.size w7.heap.size ts.length ts ts.length) := Y7
  have O7 : Hid (SlI w7 w4.heap.size v1 R) := O6.out.below b7
  have P7 : Hid (SlI w7 w2.heap.size v0 R) := P6.out.below b7
  have S7 : Hid (RowSs w7 w3.heap.size w4.heap.size ts.length ts ts.length) := S6.out.below b7
  have B7 : Below w.heap.size w w7 := B6.trans (b7.mono B6.size)
  clear b7 O6 P6 S6 B6 X6
  go_wp2_with fail
  refine (eqSs_same w3.heap.size w6.heap.size w4.heap.size w7.heap.size ts.length ts w7 S7 Y7 (rfl : ts.length = ts.length) hl2 HML).mono ?_
  rintro e w8 ⟨rfl, b8⟩
  have O8 : Hid (SlI w8 w4.heap.size v1 R) := O7.out.below b8
  have P8 : Hid (SlI w8 w2.heap.size v0 R) := P7.out.below b8
  have S8 : Hid (RowSs w8 w3.heap.size w4.heap.size ts.length ts ts.length) := S7.out.below b8
  have B8 : Below w.heap.size w w8 := B7.trans (b8.mono B7.size)
  clear b8 O7 P7 S7 B7 Y7
  go_wp2_with fail
  refine (markSs_any w3.heap.size w4.heap.size ts.length ts w8 S8 (rfl : ts.length = ts.length) hl2 htt).mono ?_
  rintro e w9 ⟨⟨z9, rfl⟩, G9⟩
  have O9 : Hid (SlI w9 w4.heap.size v1 R) := O8.out.keep (fun k hk hlt => G9.block k hlt (fun he => by have := (O8.out.lt k hk).1; omega))
  have P9 : Hid (SlI w9 w2.heap.size v0 R) := P8.out.keep (fun k hk hlt => G9.block k hlt (fun he => by have := L3.out k hk; omega))
  have B9 : Below w.heap.size w w9 := B8.trans (G9.below (fun k hk => by omega) B8.size)
  have hz9 : decide ((z9 : Int) < 0) = false := by simp
  clear O8 P8 S8 G9 B8
  go_wp2_with fail
  refine (eqItems_sl v1 v0 R _ _ w9 O9.out P9.out hRl).mono ?_
  rintro e wa ⟨rfl, ba⟩
  have Oa : Hid (SlI wa w4.heap.size v1 R) := O9.out.below ba
  have Pa : Hid (SlI wa w2.heap.size v0 R) := P9.out.below ba
  have Ba : Below w.heap.size w wa := B9.trans (ba.mono B9.size)
  clear ba O9 P9 B9
  go_wp2_with fail
  refine (markItems_any v1 R w4.heap.size 1 wa Oa (by omega) (by omega)).mono ?_
  rintro e wb ⟨rfl, Ob, Gb⟩
  have Ob : Hid (SlI wb w4.heap.size v1 (mkI 1 R.length)) := Ob
  have Pb : Hid (SlI wb w2.heap.size v0 R) := Pa.out.kept Gb (fun k hk he => by have := L3.out k hk; have := (Oa.out.lt k he.symm).1; omega)
  have hBa := Ba.size
  have Bb : Below w.heap.size w wb := Ba.grown Gb Ba.size (fun k hk => by have := (Oa.out.lt k hk).1; omega)
  clear Oa Pa Gb Ba hz9
  obtain ⟨M, hM⟩ : ∃ M : Nat, 1 + 4 * R.length = M := ⟨_, rfl⟩
  rw [hM]
  have HM : Hid (1 + 4 * R.length = M) := hM
  have hM0 : decide ((M : Int) < 0) = false := by simp
  clear hM
  go_wp2_with fail
  refine (heldItems_any v1 R.length w4.heap.size 1 wb Ob (by omega) (by omega)).mono ?_
  rintro e wc ⟨rfl, bc⟩
  rw [HM.out]
  have Oc : Hid (SlI wc w4.heap.size v1 (mkI 1 R.length)) := Ob.out.below bc
  have Pc : Hid (SlI wc w2.heap.size v0 R) := Pb.out.below bc
  have Bc : Below w.heap.size w wc := Bb.trans (bc.mono Bb.size)
  have Xc : Hid (IsAt wc ao ts) := hx.out.stays Bc
  clear bc Ob Pb Bb
  go_wp2_with fail
  refine (toSs_any wc ao cap ts Xc hl2 HML).mono ?_
  rintro e wd ⟨rfl, Rd, bd⟩
  have Yd : Hid (IsAt wd (some ⟨wc.heap.size, 0, none⟩) ts) := Rd.ls rfl HMS.out
  clear Rd
  have Od : Hid (SlI wd w4.heap.size v1 (mkI 1 R.length)) := Oc.out.below bd
  have Pd : Hid (SlI wd w2.heap.size v0 R) := Pc.out.below bd
  have Bd : Below w.heap.size w wd := Bc.trans (bd.mono Bc.size)
  clear bd Oc Pc Bc Xc
  go_wp2_with fail
  refine (IMP.out _ wd Yd).mono ?_
  rintro e we ⟨v2, rfl, Qe, be⟩
  have Qe : Hid (SlI we wd.heap.size v2 R) := Qe
  have Oe : Hid (SlI we w4.heap.size v1 (mkI 1 R.length)) := Od.out.below be
  have Pe : Hid (SlI we w2.heap.size v0 R) := Pd.out.below be
  have Be : Below w.heap.size w we := Bd.trans (be.mono Bd.size)
  clear be Od Pd Bd Yd
  go_wp2_with fail
  refine (eqItems_sl v2 v0 R _ _ we Qe.out Pe.out hRl).mono ?_
  rintro e wf ⟨rfl, bf⟩
  have Of : Hid (SlI wf w4.heap.size v1 (mkI 1 R.length)) := Oe.out.below bf
  have Bf : Below w.heap.size w wf := Be.trans (bf.mono Be.size)
  clear bf Oe Pe Qe Be
  go_wp2_with fail
  refine (heldItems_any v1 R.length w4.heap.size 1 wf Of (by omega) (by omega)).mono ?_
  rintro e wg ⟨rfl, bg⟩
  rw [HM.out]
  go_wp2_with fail
  go_ret
  exact ⟨rfl, Bf.trans (bg.mono Bf.size)⟩
end Go.Proofs.Ytjijpcfdkmbgpaa
