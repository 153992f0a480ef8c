/- The walks over both ItemAt, over one item copied. -/
import Derived.Test.YtnhnpneedcjcfaaA1
namespace Go.Proofs.Ytnhnpneedcjcfaa
open Go.RowKit Pl
set_option linter.unusedVariables false
set_option maxRecDepth 100000 in
set_option maxHeartbeats 1000000 in
theorem copyItem_any (q f l : Int) (t : ByteArray) (w : World) (ht : t.size ≤ 1048576) :
    Calls Try.prog 88 #[.agg #[.int .i64 q, .int .i64 f, .int .i64 l, .string t]] w fun e w' => e = .returned (.agg #[.int .i64 q, .int .i64 f, .int .i64 l, .string t]) ∧ Below w.heap.size w w' := by
  obtain ⟨W, hW⟩ : ∃ W, W = (w.alloc (.cells #[.int .i64 q, .int .i64 f, .int .i64 l, .string t] 43)).alloc (.cells #[.int .i64 0, .int .i64 0, .int .i64 0, .string ⟨#[]⟩] 43) := ⟨_, rfl⟩
  have I0 : Hid (ItAt W w.heap.size q f l t) := by
    rw [hW]
    exact ItAt.stays (show ItAt (w.alloc (.cells #[.int .i64 q, .int .i64 f, .int .i64 l, .string t] 43)) w.heap.size q f l t from heap_alloc_new w _) ((Below.refl _ _).alloc (Nat.le_refl _) _) (by simp)
  have Z0 : Hid (ItAt W (w.heap.size + 1) 0 0 0 ⟨#[]⟩) := by
    rw [hW]
    have h := zt (w.alloc (.cells #[.int .i64 q, .int .i64 f, .int .i64 l, .string t] 43))
    rw [show (w.alloc (.cells #[.int .i64 q, .int .i64 f, .int .i64 l, .string t] 43)).heap.size = w.heap.size + 1 by simp] at h
    exact h
  have B0 : Hid (Below w.heap.size w W) := by
    rw [hW]
    exact ((Below.refl _ _).alloc (Nat.le_refl _) _).alloc (by simp) _
  have HW : Hid (W = (w.alloc (.cells #[.int .i64 q, .int .i64 f, .int .i64 l, .string t] 43)).alloc (.cells #[.int .i64 0, .int .i64 0, .int .i64 0, .string ⟨#[]⟩] 43)) := hW
  clear hW
  go_enter Try.func88, Try.ntmps88
  go_wp2_with fail
  rw [← HW.out]
  clear HW
  refine (clone_any t _ ht).mono ?_
  rintro e w1 ⟨rfl, hb1⟩
  have I1 : Hid (ItAt w1 w.heap.size q f l t) := I0.out.stays hb1 I0.out.lt
  have Z1 : Hid (ItAt w1 (w.heap.size + 1) 0 0 0 ⟨#[]⟩) := Z0.out.stays hb1 Z0.out.lt
  have B1 : Hid (Below w.heap.size w w1) := B0.out.trans (hb1.mono B0.out.size)
  clear I0 Z0 B0 hb1
  obtain ⟨c0, c1, c2, c3⟩ := I1.out.cells
  have g3 := I1.out.frozen 3
  have I2 : Hid (ItAt (w1.setCell ⟨w.heap.size, 3, none⟩ (.string t)) w.heap.size q f l t) := heap_setCell_same w1 w.heap.size 3 _ 43 (.string t) I1.out
  have Z2 : Hid (ItAt (w1.setCell ⟨w.heap.size, 3, none⟩ (.string t)) (w.heap.size + 1) 0 0 0 ⟨#[]⟩) := (Below.heap_setCell w1 ⟨w.heap.size, 3, none⟩ _ (w.heap.size + 1) (by simp)).trans Z1.out
  have B2 : Hid (Below w.heap.size w (w1.setCell ⟨w.heap.size, 3, none⟩ (.string t))) := B1.out.setCell (Nat.le_refl _) _
  obtain ⟨e0, e1, e2, e3⟩ := I2.out.cells
  obtain ⟨d0, d1, d2, d3⟩ := Z2.out.cells
  have f0 := Z2.out.frozen 0
  have f1 := Z2.out.frozen 1
  have f2 := Z2.out.frozen 2
  have f3 := Z2.out.frozen 3
  obtain ⟨r0, r1, r2, r3⟩ := (Z2.out.put4 (q' := q) (f' := f) (l' := l) (t' := t)).cells
  go_wp2_with fail
  refine bodyPost_ret (v := .agg #[.int .i64 q, .int .i64 f, .int .i64 l, .string t]) (by simp [results, Try.results88, go_sem, r0, r1, r2, r3]) rfl ⟨rfl, ?_⟩
  exact (((B2.out.setCell (by simp) _).setCell (by simp) _).setCell (by simp) _).setCell (by simp) _

end Go.Proofs.Ytnhnpneedcjcfaa
