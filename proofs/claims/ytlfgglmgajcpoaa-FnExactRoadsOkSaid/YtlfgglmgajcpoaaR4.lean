/- The law on RoadsOk. -/
import Derived.Test.YtlfgglmgajcpoaaR2
import Derived.Test.YtlfgglmgajcpoaaR3
namespace Go.Proofs.Ytlfgglmgajcpoaa
open Go.RowKit Pl
set_option linter.unusedVariables false

set_option maxRecDepth 100000 in
set_option maxHeartbeats 2000000 in
theorem lawRoadsOk (n : Int) (ao : Option Addr) (cap : Nat) (ts : List Rd) (w : World) (hx : Hid (RoadsAt w ao ts)) (hl : ts.length ≤ maxLen) :
    Calls Try.prog 5 #[.int .i64 n, .slice ao ts.length cap] w fun e w' => e = .returned (.bool true) ∧ Below w.heap.size w w' := by
  unfold maxLen at hl
  go_enter Try.func5, Try.ntmps5
  go_wp2_with fail
  refine (szRoads_any ao ts.length cap w (by omega)).mono ?_
  rintro e w1 ⟨rfl | ⟨z, rfl, hl2⟩, hw⟩
  · obtain rfl := hw.symm
    go_wp2_with fail
    go_ret
    exact ⟨rfl, Below.refl _ _⟩
  obtain rfl := hw.symm
  have hz : decide ((z : Int) < 0) = false := by simp
  clear hl hw
  go_wp2_with fail
  refine (toRoads_any w ao cap ts hx hl2).mono ?_
  rintro e w2 ⟨g2, rfl, hg2, Y2, B2⟩
  have Y2 : Hid (RoadsAt w2 (some ⟨g2, 0, none⟩) ts) := Y2.roads
  go_wp2_with fail
  refine (spRoadsOk_any n (some ⟨g2, 0, none⟩) ts.length ts w2 Y2 hl2).mono ?_
  rintro e w3 ⟨rfl, hb3⟩
  have B3 : Below w.heap.size w w3 := B2.trans (hb3.mono B2.size)
  have X3 : Hid (RoadsAt w3 ao ts) := hx.out.stays B3
  clear hb3 Y2 B2 hg2
  go_wp2_with fail
  refine (toRoads_any w3 ao cap ts X3 hl2).mono ?_
  rintro e w4 ⟨g4, rfl, hg4, Y4, hb4⟩
  have B4 : Below w.heap.size w w4 := B3.trans (hb4.mono B3.size)
  have Y4 : Hid (RoadsAt w4 (some ⟨g4, 0, none⟩) ts) := Y4.roads
  clear hb4 X3 B3 hg4
  go_wp2_with fail
  refine (roadsOk_any n (some ⟨g4, 0, none⟩) ts.length ts w4 Y4 hl2).mono ?_
  rintro e w5 ⟨rfl, hb5⟩
  have B5 : Below w.heap.size w w5 := B4.trans (hb5.mono B4.size)
  have Y5 : Hid (RoadsAt w5 (some ⟨g4, 0, none⟩) ts) := Y4.out.stays hb5
  have X5 : Hid (RoadsAt w5 ao ts) := hx.out.stays B5
  clear hb5 Y4 B4
  generalize roadsB n ts = bb
  go_wp2_with fail
  refine (toRoads_any w5 ao cap ts X5 hl2).mono ?_
  rintro e w6 ⟨g6, rfl, hg6, Y6, hb6⟩
  have B6 : Below w.heap.size w w6 := B5.trans (hb6.mono B5.size)
  have Y6 : Hid (RoadsAt w6 (some ⟨g6, 0, none⟩) ts) := Y6.roads
  have Z6 : Hid (RoadsAt w6 (some ⟨g4, 0, none⟩) ts) := Y5.out.stays hb6
  clear hb6 X5 B5 Y5 hg6
  go_wp2_with fail
  refine (eqRoads_same (some ⟨g4, 0, none⟩) (some ⟨g6, 0, none⟩) ts.length ts.length ts w6 Z6 Y6 hl2).mono ?_
  rintro e w7 ⟨rfl, hb7⟩
  have B7 : Below w.heap.size w w7 := B6.trans (hb7.mono B6.size)
  clear hb7
  go_wp2_with fail
  go_ret
  exact ⟨rfl, B7⟩
end Go.Proofs.Ytlfgglmgajcpoaa
