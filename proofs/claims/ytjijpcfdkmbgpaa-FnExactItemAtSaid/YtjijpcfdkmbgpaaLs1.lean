/- The laws on AruOf and on ItemAt. -/
import Derived.Test.YtjijpcfdkmbgpaaSz
import Derived.Test.YtjijpcfdkmbgpaaA3
namespace Go.Proofs.Ytjijpcfdkmbgpaa
open Go.RowKit Pl
set_option linter.unusedVariables false

set_option maxRecDepth 100000 in
set_option maxHeartbeats 4000000 in
theorem lawAruOf (ao : Option Addr) (cap : Nat) (ts : List It) (w : World) (hx : Hid (ItemsAt w ao ts)) (hl : ts.length ≤ maxLen) (hs : Hid (∀ x ∈ ts, x.2.2.2.size ≤ maxLen)) :
    Calls Try.prog 8 #[.slice ao ts.length cap] w fun e w' => e = .returned (.bool true) ∧ Below w.heap.size w w' := by
  unfold maxLen at hl hs
  go_enter Try.func8, Try.ntmps8
  go_wp2_with fail
  refine (szItems_left 1048576 (Nat.le_refl _) ao cap ts w hx hl hs).mono ?_
  rintro e w1 ⟨rfl | ⟨z, rfl, hz1, hs1⟩, B1⟩
  · go_wp2_with fail
    go_ret
    exact ⟨rfl, B1⟩
  have hl2 : ts.length ≤ 1048576 := by omega
  have hz : decide ((z : Int) < 0) = false := by simp
  have X1 : Hid (ItemsAt w1 ao ts) := hx.out.stays B1
  clear hl hs hz1 hs1
  go_wp2_with fail
  refine (toItems_sl w1 ao cap ts X1 hl2).mono ?_
  rintro e w2 ⟨rfl, S2, Y2, b2⟩
  have Y2 : Hid (ItemsAt w2 (some ⟨w1.heap.size, 0, none⟩) ts) := Y2
  have B2 : Below w.heap.size w w2 := B1.trans (b2.mono B1.size)
  clear S2 b2 X1
  go_wp2_with fail
  refine (spAru_any (some ⟨w1.heap.size, 0, none⟩) ts.length ts w2 Y2 hl2).mono ?_
  rintro e w3 ⟨rfl, b3⟩
  have B3 : Below w.heap.size w w3 := B2.trans (b3.mono B2.size)
  have X3 : Hid (ItemsAt w3 ao ts) := hx.out.stays B3
  clear b3 Y2 B2
  go_wp2_with fail
  refine (toItems_sl w3 ao cap ts X3 hl2).mono ?_
  rintro e w4 ⟨rfl, S4, Y4, b4⟩
  have Y4 : Hid (ItemsAt w4 (some ⟨w3.heap.size, 0, none⟩) ts) := Y4
  have B4 : Below w.heap.size w w4 := B3.trans (b4.mono B3.size)
  clear S4 b4 X3
  go_wp2_with fail
  refine (aruOf_any (some ⟨w3.heap.size, 0, none⟩) ts.length ts w4 Y4 hl2).mono ?_
  rintro e w5 ⟨rfl, b5⟩
  have B5 : Below w.heap.size w w5 := B4.trans (b5.mono B4.size)
  have X5 : Hid (ItemsAt w5 ao ts) := hx.out.stays B5
  have Y5 : Hid (ItemsAt w5 (some ⟨w3.heap.size, 0, none⟩) ts) := Y4.out.stays b5
  clear b5 Y4 B4
  go_wp2_with fail
  refine (toItems_sl w5 ao cap ts X5 hl2).mono ?_
  rintro e w6 ⟨rfl, S6, Y6, b6⟩
  have Y6 : Hid (ItemsAt w6 (some ⟨w5.heap.size, 0, none⟩) ts) := Y6
  have Z6 : Hid (ItemsAt w6 (some ⟨w3.heap.size, 0, none⟩) ts) := Y5.out.stays b6
  have B6 : Below w.heap.size w w6 := B5.trans (b6.mono B5.size)
  clear S6 b6 X5 Y5
  go_wp2_with fail
  refine (eqItems_same (some ⟨w3.heap.size, 0, none⟩) (some ⟨w5.heap.size, 0, none⟩) ts.length ts.length ts w6 Z6 Y6 hl2).mono ?_
  rintro e w7 ⟨rfl, b7⟩
  go_wp2_with fail
  go_ret
  exact ⟨rfl, B6.trans (b7.mono B6.size)⟩

set_option maxRecDepth 100000 in
set_option maxHeartbeats 4000000 in
theorem lawItemAt (ao : Option Addr) (cap : Nat) (ts : List It) (n : Int) (w : World) (hx : Hid (ItemsAt w ao ts)) (hl : ts.length ≤ maxLen) (hs : Hid (∀ x ∈ ts, x.2.2.2.size ≤ maxLen)) :
    Calls Try.prog 7 #[.slice ao ts.length cap, .int .i64 n] w fun e w' => e = .returned (.bool true) ∧ Below w.heap.size w w' := by
  unfold maxLen at hl hs
  go_enter Try.func7, Try.ntmps7
  go_wp2_with fail
  refine (szItems_left 1048576 (Nat.le_refl _) ao cap ts w hx hl hs).mono ?_
  rintro e w1 ⟨rfl | ⟨z, rfl, hz1, hs1⟩, B1⟩
  · go_wp2_with fail
    go_ret
    exact ⟨rfl, B1⟩
  have hl2 : ts.length ≤ 1048576 := by omega
  have hz : decide ((z : Int) < 0) = false := by simp
  have X1 : Hid (ItemsAt w1 ao ts) := hx.out.stays B1
  have HS : Hid (∀ x ∈ ts, x.2.2.2.size ≤ 1048576) := hs1
  clear hl hs hz1 hs1
  go_wp2_with fail
  refine (toItems_sl w1 ao cap ts X1 hl2).mono ?_
  rintro e w2 ⟨rfl, S2, Y2, b2⟩
  have Y2 : Hid (ItemsAt w2 (some ⟨w1.heap.size, 0, none⟩) ts) := Y2
  have B2 : Below w.heap.size w w2 := B1.trans (b2.mono B1.size)
  clear S2 b2 X1
  go_wp2_with fail
  have A := spAt_any (some ⟨w1.heap.size, 0, none⟩) ts.length ts n w2 Y2 hl2
  have AI := fun (W : World) (g : Nat) (h : Hid (ItemsAt W (some ⟨g, 0, none⟩) ts)) => itemAt_any (some ⟨g, 0, none⟩) ts.length ts n W h hl2 HS
  generalize (atP ts n).getD zIt = y at A AI
  generalize hasP ts n = bo at A AI
  obtain ⟨q, f, l, t⟩ := y
  refine A.mono ?_
  rintro e w3 ⟨rfl, b3⟩
  have AI : Hid _ := AI
  have B3 : Below w.heap.size w w3 := B2.trans (b3.mono B2.size)
  clear b3 Y2 B2 A
  unfold agg
  have X3 : Hid (ItemsAt (w3.alloc (.cells #[.int .i64 q, .int .i64 f, .int .i64 l, .string t] 26)) ao ts) := (hx.out.stays B3).stays ((Below.refl _ _).alloc (Nat.le_refl _) _)
  have I3 : Hid (ItAt (w3.alloc (.cells #[.int .i64 q, .int .i64 f, .int .i64 l, .string t] 26)) w3.heap.size q f l t) := heap_alloc_new w3 _
  have C3 : Below w.heap.size w (w3.alloc (.cells #[.int .i64 q, .int .i64 f, .int .i64 l, .string t] 26)) := B3.alloc B3.size _
  dsimp only
  go_wp2_with fail
  generalize w3.alloc (.cells #[.int .i64 q, .int .i64 f, .int .i64 l, .string t] 26) = W3 at *
  refine (toItems_sl W3 ao cap ts X3 hl2).mono ?_
  rintro e w4 ⟨rfl, S4, Y4, b4⟩
  have Y4 : Hid (ItemsAt w4 (some ⟨W3.heap.size, 0, none⟩) ts) := Y4
  have B4 : Below w.heap.size w w4 := C3.trans (b4.mono C3.size)
  have I4 : Hid (ItAt w4 w3.heap.size q f l t) := I3.out.stays b4 I3.out.lt
  clear S4 b4 X3 I3 C3 B3
  go_wp2_with fail
  refine (show Calls _ _ _ _ _ from AI.out w4 _ Y4).mono ?_
  rintro e w5 ⟨rfl, b5⟩
  have B5 : Below w.heap.size w w5 := B4.trans (b5.mono B4.size)
  have I5 : Hid (ItAt (w5.alloc (.cells #[.int .i64 q, .int .i64 f, .int .i64 l, .string t] 26)) w3.heap.size q f l t) := (I4.out.stays b5 I4.out.lt).stays ((Below.refl _ _).alloc (Nat.le_refl _) _) (I4.out.stays b5 I4.out.lt).lt
  have J5 : Hid (ItAt (w5.alloc (.cells #[.int .i64 q, .int .i64 f, .int .i64 l, .string t] 26)) w5.heap.size q f l t) := heap_alloc_new w5 _
  have Y5 : Hid (ItemsAt (w5.alloc (.cells #[.int .i64 q, .int .i64 f, .int .i64 l, .string t] 26)) (some ⟨W3.heap.size, 0, none⟩) ts) := (Y4.out.stays b5).stays ((Below.refl _ _).alloc (Nat.le_refl _) _)
  have C5 : Below w.heap.size w (w5.alloc (.cells #[.int .i64 q, .int .i64 f, .int .i64 l, .string t] 26)) := B5.alloc B5.size _
  clear b5 Y4 B4 AI I4 B5
  obtain ⟨a0, a1, a2, a3⟩ := I5.out.cells
  obtain ⟨c0, c1, c2, c3⟩ := J5.out.cells
  unfold agg
  dsimp only
  go_wp2_with fail
  generalize w5.alloc (.cells #[.int .i64 q, .int .i64 f, .int .i64 l, .string t] 26) = W5 at *
  clear a0 a1 a2 a3 c0 c1 c2 c3
  refine (eqItem_same q f l t W5).mono ?_
  rintro e w6 ⟨rfl, b6⟩
  have B6 : Below w.heap.size w w6 := C5.trans (b6.mono C5.size)
  have X6 : Hid (ItemsAt w6 ao ts) := hx.out.stays B6
  have Y6 : Hid (ItemsAt w6 (some ⟨W3.heap.size, 0, none⟩) ts) := Y5.out.stays b6
  clear b6 C5 Y5 I5 J5
  have hbo : decide (bo = bo) = true := by simp
  go_wp2_with fail
  refine (toItems_sl w6 ao cap ts X6 hl2).mono ?_
  rintro e w7 ⟨rfl, S7, Y7, b7⟩
  have Y7 : Hid (ItemsAt w7 (some ⟨w6.heap.size, 0, none⟩) ts) := Y7
  have Z7 : Hid (ItemsAt w7 (some ⟨W3.heap.size, 0, none⟩) ts) := Y6.out.stays b7
  have B7 : Below w.heap.size w w7 := B6.trans (b7.mono B6.size)
  clear S7 b7 X6 Y6
  go_wp2_with fail
  refine (eqItems_same (some ⟨W3.heap.size, 0, none⟩) (some ⟨w6.heap.size, 0, none⟩) ts.length ts.length ts w7 Z7 Y7 hl2).mono ?_
  rintro e w8 ⟨rfl, b8⟩
  go_wp2_with fail
  go_ret
  exact ⟨rfl, B7.trans (b8.mono B7.size)⟩
end Go.Proofs.Ytjijpcfdkmbgpaa
