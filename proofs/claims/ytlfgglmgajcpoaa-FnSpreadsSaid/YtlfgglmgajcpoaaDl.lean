/- The law on Distances. -/
import Derived.Test.YtlfgglmgajcpoaaDq
import Derived.Test.YtlfgglmgajcpoaaC4
namespace Go.Proofs.Ytlfgglmgajcpoaa
open Go.RowKit Pl
set_option linter.unusedVariables false

theorem dists_le (n : Int) (ts : List Rd) (s : Int) : (dists n ts s).length ≤ 6 := by
  unfold dists
  split
  · rename_i h
    rw [distL_length]
    have := (roadsB_iff.1 h.1).2.1
    omega
  · simp
theorem ownI_grown {w w' : World} {B : Nat} {v : Value} {ss : List Int} {row : Option Nat} (h : OwnI w B v ss) (hg : w.grownBy w' row) (hne : ∀ k, v.ownBlock = some k → some k ≠ row) : OwnI w' B v ss := by
  refine ⟨h.1, ?_⟩
  rcases h.2 with hn | ⟨g, cap, cur, rfl, hbg, hk, rest⟩
  · exact .inl hn
  · exact .inr ⟨g, cap, cur, rfl, hbg, (hg.block g (Array.getElem?_eq_some_iff.1 hk).1 (hne g rfl)).trans hk, rest⟩

set_option maxRecDepth 100000 in
set_option maxHeartbeats 4000000 in
theorem lawDistances (n : Int) (ao : Option Addr) (cap : Nat) (ts : List Rd) (s : Int) (w : World) (hx : Hid (RoadsAt w ao ts)) (hl : ts.length ≤ maxLen) :
    Calls Try.prog 6 #[.int .i64 n, .slice ao ts.length cap, .int .i64 s] w fun e w' => e = .returned (.bool true) ∧ Below w.heap.size w w' := by
  unfold maxLen at hl
  have HDL : Hid ((dists n ts s).length ≤ 6) := dists_le n ts s
  go_enter Try.func6, Try.ntmps6
  go_wp2_with fail
  refine (szRoads_any ao ts.length cap w (by omega)).mono ?_
  rintro e w1 ⟨rfl | ⟨z, rfl, hl2⟩, hw⟩
  · obtain rfl := hw.symm
    go_wp2_with fail
    go_ret
    exact ⟨rfl, Below.refl _ _⟩
  obtain rfl := hw.symm
  have hz : decide ((z : Int) < 0) = false := by simp
  clear hl hw
  go_wp2_with fail
  refine (toRoads_any w ao cap ts hx hl2).mono ?_
  rintro e w2 ⟨g2, rfl, hg2, Y2, B2⟩
  have Y2 : Hid (RoadsAt w2 (some ⟨g2, 0, none⟩) ts) := Y2.roads
  go_wp2_with fail
  refine (spDist_any n s (some ⟨g2, 0, none⟩) ts.length ts w2 Y2 hl2).mono ?_
  rintro e w3 ⟨⟨v0, rfl, O3⟩, b3⟩
  have B3 : Below w.heap.size w w3 := B2.trans (b3.mono B2.size)
  have X3 : Hid (RoadsAt w3 ao ts) := hx.out.stays B3
  have S3 : w.heap.size ≤ w3.heap.size := B3.size
  have O3 : Hid (OwnI w3 w2.heap.size v0 (dists n ts s)) := O3
  clear b3 Y2 B2 hg2
  go_wp2_with fail
  refine (toRoads_any w3 ao cap ts X3 hl2).mono ?_
  rintro e w4 ⟨g4, rfl, hg4, Y4, b4⟩
  have B4 : Below w.heap.size w w4 := B3.trans (b4.mono B3.size)
  have R4 : Hid (RowRd w4 g4 ts.length ts ts.length) := Y4
  have Y4 : Hid (RoadsAt w4 (some ⟨g4, 0, none⟩) ts) := Y4.roads
  have O4 : Hid (OwnI w4 w2.heap.size v0 (dists n ts s)) := O3.out.stays b4 (fun k hk => (O3.out.lt k hk).2)
  have L4 : Hid (∀ k, v0.ownBlock = some k → k < g4) := fun k hk => by have := (O3.out.lt k hk).2; omega
  clear b4 X3 B3 O3
  go_wp2_with fail
  refine (dist_any n s (some ⟨g4, 0, none⟩) ts.length ts w4 Y4 hl2).mono ?_
  rintro e w5 ⟨⟨v1, rfl, O5⟩, b5, _⟩
  have B5 : Below w.heap.size w w5 := B4.trans (b5.mono B4.size)
  have O5 : Hid (OwnI w5 w4.heap.size v1 (dists n ts s)) := O5
  have P5 : Hid (OwnI w5 w2.heap.size v0 (dists n ts s)) := O4.out.stays b5 (fun k hk => (O4.out.lt k hk).2)
  have R5 : Hid (RowRd w5 g4 ts.length ts ts.length) := R4.out.stays b5 R4.out.lt
  have X5 : Hid (RoadsAt w5 ao ts) := hx.out.stays B5
  have G4 : g4 < w4.heap.size := R4.out.lt
  clear b5 Y4 B4 O4 R4
  go_wp2_with fail
  refine (eqI_same v1 v0 (dists n ts s) _ _ w5 O5.out P5.out (by have := HDL.out; omega)).mono ?_
  rintro e w6 ⟨rfl, b6⟩
  have B6 : Below w.heap.size w w6 := B5.trans (b6.mono B5.size)
  have O6 : Hid (OwnI w6 w4.heap.size v1 (dists n ts s)) := O5.out.stays b6 (fun k hk => (O5.out.lt k hk).2)
  have P6 : Hid (OwnI w6 w2.heap.size v0 (dists n ts s)) := P5.out.stays b6 (fun k hk => (P5.out.lt k hk).2)
  have R6 : Hid (RowRd w6 g4 ts.length ts ts.length) := R5.out.stays b6 R5.out.lt
  have X6 : Hid (RoadsAt w6 ao ts) := hx.out.stays B6
  clear b6 O5 P5 R5 X5 B5
  go_wp2_with fail
  refine (toRoads_any w6 ao cap ts X6 hl2).mono ?_
  rintro e w7 ⟨g7, rfl, hg7, Y7, b7⟩
  have B7 : Below w.heap.size w w7 := B6.trans (b7.mono B6.size)
  have Y7 : Hid (RoadsAt w7 (some ⟨g7, 0, none⟩) ts) := Y7.roads
  have O7 : Hid (OwnI w7 w4.heap.size v1 (dists n ts s)) := O6.out.stays b7 (fun k hk => (O6.out.lt k hk).2)
  have P7 : Hid (OwnI w7 w2.heap.size v0 (dists n ts s)) := P6.out.stays b7 (fun k hk => (P6.out.lt k hk).2)
  have R7 : Hid (RowRd w7 g4 ts.length ts ts.length) := R6.out.stays b7 R6.out.lt
  have Z7 : Hid (RoadsAt w7 (some ⟨g4, 0, none⟩) ts) := R7.out.roads
  clear b7 O6 P6 R6 X6 B6 hg7
  go_wp2_with fail
  refine (eqRoads_same (some ⟨g4, 0, none⟩) (some ⟨g7, 0, none⟩) ts.length ts.length ts w7 Z7 Y7 hl2).mono ?_
  rintro e w8 ⟨rfl, b8⟩
  have B8 : Below w.heap.size w w8 := B7.trans (b8.mono B7.size)
  have O8 : Hid (OwnI w8 w4.heap.size v1 (dists n ts s)) := O7.out.stays b8 (fun k hk => (O7.out.lt k hk).2)
  have P8 : Hid (OwnI w8 w2.heap.size v0 (dists n ts s)) := P7.out.stays b8 (fun k hk => (P7.out.lt k hk).2)
  have R8 : Hid (RowRd w8 g4 ts.length ts 0) := by
    obtain ⟨arr, h1, h2, h3⟩ := R7.out.stays b8 R7.out.lt
    exact ⟨arr, h1, h2, fun i _ h => absurd h (by omega)⟩
  clear b8 O7 P7 R7 Z7 Y7 B7
  go_wp2_with fail
  refine (markRoads_own g4 ts.length 1 ts w8 R8 hl2 (by omega)).mono ?_
  rintro e w9 ⟨⟨z9, rfl⟩, G9⟩
  have B9 : Below w.heap.size w w9 := B8.grown G9 B8.size (fun k hk => by simp at hk; have := R8.out.lt; have := B8.size; omega)
  have O9 : Hid (OwnI w9 w4.heap.size v1 (dists n ts s)) := ownI_grown O8.out G9 (fun k hk he => by have := (O8.out.lt k hk).1; simp at he; omega)
  have P9 : Hid (OwnI w9 w2.heap.size v0 (dists n ts s)) := ownI_grown P8.out G9 (fun k hk he => by have := L4.out k hk; simp at he; omega)
  have hz9 : decide ((z9 : Int) < 0) = false := by simp
  clear O8 P8 R8 G9 B8
  go_wp2_with fail
  refine (eqI_same v1 v0 (dists n ts s) _ _ w9 O9.out P9.out (by have := HDL.out; omega)).mono ?_
  rintro e wa ⟨rfl, ba⟩
  have Ba : Below w.heap.size w wa := B9.trans (ba.mono B9.size)
  have Oa : Hid (OwnI wa w4.heap.size v1 (dists n ts s)) := O9.out.stays ba (fun k hk => (O9.out.lt k hk).2)
  have Pa : Hid (OwnI wa w2.heap.size v0 (dists n ts s)) := P9.out.stays ba (fun k hk => (P9.out.lt k hk).2)
  clear ba O9 P9 B9
  go_wp2_with fail
  refine (markI_any v1 (dists n ts s) w4.heap.size 1 wa Oa.out (by have := HDL.out; omega) (by omega)).mono ?_
  rintro e wb ⟨rfl, Ob, Gb⟩
  have Ob : Hid (OwnI wb w4.heap.size v1 (marks 1 (dists n ts s).length)) := Ob
  have Pb : Hid (OwnI wb w2.heap.size v0 (dists n ts s)) := ownI_grown Pa.out Gb (fun k hk he => by have := L4.out k hk; have := (Oa.out.lt k he.symm).1; omega)
  have hBa := Ba.size
  have Bb : Below w.heap.size w wb := Ba.grown Gb Ba.size (fun k hk => by have := (Oa.out.lt k hk).1; omega)
  clear Oa Pa Gb Ba hz9
  obtain ⟨M, hM⟩ : ∃ M, M = (dists n ts s).length := ⟨_, rfl⟩
  rw [← hM] at Ob
  have HM : Hid (M = (dists n ts s).length) := hM
  have hM6 : M ≤ 6 := by have := HDL.out; omega
  rw [← hM]
  clear hM
  go_wp2_with fail
  refine (heldI_any v1 M w4.heap.size 1 wb Ob.out (by omega) (by omega)).mono ?_
  rintro e wc ⟨rfl, hwc⟩
  obtain rfl := hwc.symm
  have hd1 : ¬ (((1 + M : Nat) : Int) < 0) := by omega
  have Xb : Hid (RoadsAt wb ao ts) := hx.out.stays Bb
  clear hwc
  go_wp2_with fail
  refine (toRoads_any wb ao cap ts Xb hl2).mono ?_
  rintro e wd ⟨gd, rfl, hgd, Yd, bd⟩
  have Bd : Below w.heap.size w wd := Bb.trans (bd.mono Bb.size)
  have Yd : Hid (RoadsAt wd (some ⟨gd, 0, none⟩) ts) := Yd.roads
  have Od : Hid (OwnI wd w4.heap.size v1 (marks 1 M)) := Ob.out.stays bd (fun k hk => (Ob.out.lt k hk).2)
  have Pd : Hid (OwnI wd w2.heap.size v0 (dists n ts s)) := Pb.out.stays bd (fun k hk => (Pb.out.lt k hk).2)
  clear bd Ob Pb Xb Bb hgd
  go_wp2_with fail
  refine (dist_any n s (some ⟨gd, 0, none⟩) ts.length ts wd Yd hl2).mono ?_
  rintro e we ⟨⟨v2, rfl, Qe⟩, be, _⟩
  have Be : Below w.heap.size w we := Bd.trans (be.mono Bd.size)
  have Qe : Hid (OwnI we wd.heap.size v2 (dists n ts s)) := Qe
  have Oe : Hid (OwnI we w4.heap.size v1 (marks 1 M)) := Od.out.stays be (fun k hk => (Od.out.lt k hk).2)
  have Pe : Hid (OwnI we w2.heap.size v0 (dists n ts s)) := Pd.out.stays be (fun k hk => (Pd.out.lt k hk).2)
  clear be Od Pd Yd Bd
  go_wp2_with fail
  refine (eqI_same v2 v0 (dists n ts s) _ _ we Qe.out Pe.out (by have := HDL.out; omega)).mono ?_
  rintro e wf ⟨rfl, bf⟩
  have Bf : Below w.heap.size w wf := Be.trans (bf.mono Be.size)
  have Of : Hid (OwnI wf w4.heap.size v1 (marks 1 M)) := Oe.out.stays bf (fun k hk => (Oe.out.lt k hk).2)
  clear bf Qe Oe Pe Be
  go_wp2_with fail
  refine (heldI_any v1 M w4.heap.size 1 wf Of.out (by omega) (by omega)).mono ?_
  rintro e wg ⟨rfl, hwg⟩
  obtain rfl := hwg.symm
  clear hwg
  go_wp2_with fail
  go_ret
  exact ⟨rfl, Bf⟩
end Go.Proofs.Ytlfgglmgajcpoaa
