/- The law on OneOrder. -/
import Derived.Test.YthdjkkiegecgnaaOn
import Derived.Test.YthdjkkiegecgnaaEq
namespace Go.Proofs.Ythdjkkiegecgnaa
open Go.RowKit Pl
set_option linter.unusedVariables false

set_option maxRecDepth 100000 in
set_option maxHeartbeats 4000000 in
theorem lawOneOrder (ao : Option Addr) (cap : Nat) (ts : List (List It)) (w : World) (hx : Hid (IsAt w ao ts)) (hl : ts.length ≤ maxLen) :
    Calls Try.prog 7 #[.slice ao ts.length cap] w fun e w' => e = .returned (.bool true) ∧ Below w.heap.size w w' := by
  unfold maxLen at hl
  go_enter Try.func7, Try.ntmps7
  go_wp2_with fail
  refine (szSs_any ao cap ts w hx hl).mono ?_
  rintro e w1 ⟨rfl | ⟨z, rfl, hz1, hs1⟩, B1⟩
  · go_wp2_with fail
    go_ret
    exact ⟨rfl, B1⟩
  have hl2 : ts.length ≤ 1048576 := by omega
  have htt : tot ts ≤ 1048576 := by omega
  have hz : decide ((z : Int) < 0) = false := by simp
  have X1 : Hid (IsAt w1 ao ts) := hx.out.stays B1
  have HS : Hid (∀ l ∈ ts, ∀ y ∈ l, y.2.2.2.size ≤ 1048576) := hs1
  have HML : Hid (∀ l ∈ ts, l.length ≤ 1048576) := fun l hl => by have := tot_mem hl; omega
  have HMS : Hid (∀ l ∈ ts, l.length ≤ 1048576 ∧ ∀ y ∈ l, y.2.2.2.size ≤ 1048576) := fun l hl => ⟨HML.out l hl, HS.out l hl⟩
  obtain ⟨R, hR⟩ : ∃ R : Bool, R = oneB ts := ⟨_, rfl⟩
  have SPC : Hid (∀ (a : Option Addr) (W : World), Hid (IsAt W a ts) → Calls Try.prog 36 #[.slice a ts.length ts.length] W fun e w' => e = .returned (.bool R) ∧ Below W.heap.size W w') := fun a W h => by rw [hR]; exact spOne_any a _ ts W h hl2 HML
  have IMP : Hid (∀ (g E : Nat) (W : World), Hid (RowSs W g E ts.length ts ts.length) → Calls Try.prog 38 #[.slice (some ⟨g, 0, none⟩) ts.length ts.length] W fun e w' => e = .returned (.bool R) ∧ Below W.heap.size W w') := fun g E W h => by rw [hR]; exact one_any g E _ ts W h (rfl : ts.length = ts.length) hl2 HML
  clear hl hz1 hs1 hR HS
  go_wp2_with fail
  refine (toSs_any w1 ao cap ts X1 hl2 HML).mono ?_
  rintro e w2 ⟨rfl, R2, b2⟩
  have Y2 : Hid (IsAt w2 (some ⟨w1.heap.size, 0, none⟩) ts) := R2.ls rfl HMS.out
  clear R2
  have B2 : Below w.heap.size w w2 := B1.trans (b2.mono B1.size)
  clear b2 X1 B1
  go_wp2_with fail
  refine (SPC.out _ w2 Y2).mono ?_
  rintro e w3 ⟨rfl, b3⟩
  have B3 : Below w.heap.size w w3 := B2.trans (b3.mono B2.size)
  have X3 : Hid (IsAt w3 ao ts) := hx.out.stays B3
  clear b3 Y2 B2 SPC
  go_wp2_with fail
  refine (toSs_any w3 ao cap ts X3 hl2 HML).mono ?_
  rintro e w4 ⟨rfl, S4, b4⟩
  have S4 : Hid (RowSs w4 w3.heap.size w4.heap.size ts.length ts ts.length) := S4
  have B4 : Below w.heap.size w w4 := B3.trans (b4.mono B3.size)
  clear b4 X3 B3
  go_wp2_with fail
  refine (IMP.out _ _ w4 S4).mono ?_
  rintro e w5 ⟨rfl, b5⟩
  have S5 : Hid (RowSs w5 w3.heap.size w4.heap.size ts.length ts ts.length) := S4.out.below b5
  have B5 : Below w.heap.size w w5 := B4.trans (b5.mono B4.size)
  have X5 : Hid (IsAt w5 ao ts) := hx.out.stays B5
  clear b5 S4 B4 IMP
  cases R
  all_goals
    go_wp2_with fail
    refine (toSs_any w5 ao cap ts X5 hl2 HML).mono ?_
    rintro e w7 ⟨rfl, Y7, b7⟩
    have Y7 : Hid (RowSs w7 w5.heap.size w7.heap.size ts.length ts ts.length) := Y7
    have S7 : Hid (RowSs w7 w3.heap.size w4.heap.size ts.length ts ts.length) := S5.out.below b7
    have B7 : Below w.heap.size w w7 := B5.trans (b7.mono B5.size)
    clear b7
    go_wp2_with fail
    refine (eqSs_same w3.heap.size w5.heap.size w4.heap.size w7.heap.size ts.length ts w7 S7 Y7 (rfl : ts.length = ts.length) hl2 HML).mono ?_
    rintro e w8 ⟨rfl, b8⟩
    have B8 : Below w.heap.size w w8 := B7.trans (b8.mono B7.size)
    clear b8 Y7 S7 B7
    go_wp2_with fail
    go_ret
    exact ⟨rfl, B8⟩
end Go.Proofs.Ythdjkkiegecgnaa
