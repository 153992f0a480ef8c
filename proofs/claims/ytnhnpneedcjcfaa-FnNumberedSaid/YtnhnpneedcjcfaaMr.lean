/- The rules that change a token: lower, raise. -/
import Derived.Test.YtnhnpneedcjcfaaCa
import Derived.BigQuiet
import Derived.RegionTactic
namespace Go.Proofs.Ytnhnpneedcjcfaa
open Go.RowKit Pl
set_option linter.unusedVariables false

/-- the block g is what a daemon tells. -/
def MkAt (w : World) (g : Nat) (d u : Int) : Prop := w.heap[g]? = some (.cells #[.int .i64 d, .int .i64 u] 85 (0, 0))
theorem MkAt.cells {w : World} {g : Nat} {d u : Int} (h : MkAt w g d u) : w.cell? ⟨g, 0, none⟩ = some (.int .i64 d) ∧ w.cell? ⟨g, 1, none⟩ = some (.int .i64 u) :=
  ⟨by rw [cell_of_row w g 0 _ 85 (0, 0) h]; rfl, by rw [cell_of_row w g 1 _ 85 (0, 0) h]; rfl⟩
theorem TokAt.set3 {w : World} {g : Nat} {c r q a b : Int} {v : Value} (h : TokAt w g c r q a b v) (x : Int) : TokAt (w.setCell ⟨g, 3, none⟩ (.int .i64 x)) g c r q x b v := by
  have := heap_setCell_same w g 3 _ 30 (.int .i64 x) h
  unfold TokAt; rw [this]; rfl
theorem TokAt.set4 {w : World} {g : Nat} {c r q a b : Int} {v : Value} (h : TokAt w g c r q a b v) (x : Int) : TokAt (w.setCell ⟨g, 4, none⟩ (.int .i64 x)) g c r q a x v := by
  have := heap_setCell_same w g 4 _ 30 (.int .i64 x) h
  unfold TokAt; rw [this]; rfl
theorem TokAt.drewN {w : World} {g : Nat} {c r q a b : Int} {v : Value} (h : TokAt w g c r q a b v) (n : Nat) : TokAt (w.drewN n) g c r q a b v := by
  unfold TokAt; rw [World.heap_drewN]; exact h
theorem keep_drewN {g : Nat} {w w' : World} (h : KeepBut g w w') (n : Nat) : KeepBut g w (w'.drewN n) := h.trans ((TurnAt.refl g w').drewN n).keep

set_option maxRecDepth 100000 in
set_option maxHeartbeats 1000000 in
theorem lower_no (d u c r q a b : Int) (v : Value) (g : Nat) (w : World) (h : Hid (TokAt w g c r q a b v)) (hu : a ≤ u) :
    Calls Try.prog 71 #[.agg #[.int .i64 d, .int .i64 u], .pointer (some ⟨g, 0, none⟩)] w fun e w' => e = .returned (.bool false) ∧ Below w.heap.size w w' := by
  have HM : Hid (MkAt (w.alloc (.cells #[.int .i64 d, .int .i64 u] 85)) w.heap.size d u) := heap_alloc_new w _
  have HB : Hid (Below w.heap.size w (w.alloc (.cells #[.int .i64 d, .int .i64 u] 85))) := (Below.refl _ _).alloc (Nat.le_refl _) _
  have HT : Hid (TokAt (w.alloc (.cells #[.int .i64 d, .int .i64 u] 85)) g c r q a b v) := h.out.stays HB.out h.out.lt
  obtain ⟨m0, m1⟩ := HM.out.cells
  obtain ⟨t0, t1, t2, t3, t4, t5⟩ := HT.out.cells
  clear h HM t0 t1 t2 t4 t5
  go_enter Try.func71, Try.ntmps71
  go_wp2_with fail
  generalize w.alloc (.cells #[.int .i64 d, .int .i64 u] 85) = W at *
  go_quiet (fail)
  go_wp2_with fail
  go_ret
  exact ⟨rfl, below_drewK HB.out _⟩

set_option maxRecDepth 100000 in
set_option maxHeartbeats 1000000 in
theorem lower_yes (d u c r q a b : Int) (v : Value) (g : Nat) (w : World) (h : Hid (TokAt w g c r q a b v)) (hu : u < a) :
    Calls Try.prog 71 #[.agg #[.int .i64 d, .int .i64 u], .pointer (some ⟨g, 0, none⟩)] w fun e w' => e = .returned (.bool true) ∧ TokAt w' g c r q u d v ∧ KeepBut g w w' := by
  have HM : Hid (MkAt (w.alloc (.cells #[.int .i64 d, .int .i64 u] 85)) w.heap.size d u) := heap_alloc_new w _
  have HB : Hid (Below w.heap.size w (w.alloc (.cells #[.int .i64 d, .int .i64 u] 85))) := (Below.refl _ _).alloc (Nat.le_refl _) _
  have HT : Hid (TokAt (w.alloc (.cells #[.int .i64 d, .int .i64 u] 85)) g c r q a b v) := h.out.stays HB.out h.out.lt
  obtain ⟨m0, m1⟩ := HM.out.cells
  obtain ⟨t0, t1, t2, t3, t4, t5⟩ := HT.out.cells
  have hu' : ¬ a ≤ u := by omega
  have z3 := HT.out.frozen 3
  have z4 := HT.out.frozen 4
  have hg := h.out.lt
  have hne : ¬ w.heap.size = g := by omega
  clear h HM t0 t1 t2 t5
  go_enter Try.func71, Try.ntmps71
  go_wp2_with fail
  generalize w.alloc (.cells #[.int .i64 d, .int .i64 u] 85) = W at *
  go_quiet (fail)
  go_wp2_with fail
  go_region
  go_wp2_with fail
  go_ret
  exact ⟨rfl, ((HT.out.drewN _).set3 u).set4 d, (keep_of_below HB.out).trans ((((TurnAt.refl g W).drewN _).setCell 3 _).setCell 4 _).keep⟩

set_option maxRecDepth 100000 in
set_option maxHeartbeats 1000000 in
theorem raise_no (d u c r q a b : Int) (v : Value) (g : Nat) (w : World) (h : Hid (TokAt w g c r q a b v)) (hu : ¬ b = d) :
    Calls Try.prog 72 #[.agg #[.int .i64 d, .int .i64 u], .pointer (some ⟨g, 0, none⟩)] w fun e w' => e = .returned (.bool false) ∧ Below w.heap.size w w' := by
  have HM : Hid (MkAt (w.alloc (.cells #[.int .i64 d, .int .i64 u] 85)) w.heap.size d u) := heap_alloc_new w _
  have HB : Hid (Below w.heap.size w (w.alloc (.cells #[.int .i64 d, .int .i64 u] 85))) := (Below.refl _ _).alloc (Nat.le_refl _) _
  have HT : Hid (TokAt (w.alloc (.cells #[.int .i64 d, .int .i64 u] 85)) g c r q a b v) := h.out.stays HB.out h.out.lt
  obtain ⟨m0, m1⟩ := HM.out.cells
  obtain ⟨t0, t1, t2, t3, t4, t5⟩ := HT.out.cells
  clear h HM t0 t1 t2 t3 t5
  go_enter Try.func72, Try.ntmps72
  go_wp2_with fail
  generalize w.alloc (.cells #[.int .i64 d, .int .i64 u] 85) = W at *
  go_quiet (fail)
  go_wp2_with fail
  go_ret
  exact ⟨rfl, below_drewK HB.out _⟩

set_option maxRecDepth 100000 in
set_option maxHeartbeats 1000000 in
theorem raise_up (u c r q a b : Int) (v : Value) (g : Nat) (w : World) (h : Hid (TokAt w g c r q a b v)) (hu : q < u) :
    Calls Try.prog 72 #[.agg #[.int .i64 b, .int .i64 u], .pointer (some ⟨g, 0, none⟩)] w fun e w' => e = .returned (.bool true) ∧ TokAt w' g c r q q 0 v ∧ KeepBut g w w' := by
  have HM : Hid (MkAt (w.alloc (.cells #[.int .i64 b, .int .i64 u] 85)) w.heap.size b u) := heap_alloc_new w _
  have HB : Hid (Below w.heap.size w (w.alloc (.cells #[.int .i64 b, .int .i64 u] 85))) := (Below.refl _ _).alloc (Nat.le_refl _) _
  have HT : Hid (TokAt (w.alloc (.cells #[.int .i64 b, .int .i64 u] 85)) g c r q a b v) := h.out.stays HB.out h.out.lt
  obtain ⟨m0, m1⟩ := HM.out.cells
  obtain ⟨t0, t1, t2, t3, t4, t5⟩ := HT.out.cells
  have z3 := HT.out.frozen 3
  have z4 := HT.out.frozen 4
  have hg := h.out.lt
  have hne : ¬ w.heap.size = g := by omega
  have hu2 : ¬ u ≤ q := by omega
  clear h HM t0 t1 t5
  go_enter Try.func72, Try.ntmps72
  go_wp2_with fail
  generalize w.alloc (.cells #[.int .i64 b, .int .i64 u] 85) = W at *
  go_quiet (fail)
  go_wp2_with fail
  go_region
  go_wp2_with fail
  have T1 : Hid (TokAt ((W.drewN (nq + 1)).setCell ⟨g, 3, none⟩ (.int .i64 q)) g c r q q b v) := (HT.out.drewN _).set3 q
  have K1 : Hid (KeepBut g w ((W.drewN (nq + 1)).setCell ⟨g, 3, none⟩ (.int .i64 q))) := (keep_of_below HB.out).trans (((TurnAt.refl g W).drewN _).setCell 3 _).keep
  clear HT HB m0 m1 t2 t3 t4 z3 z4
  have y4 := T1.out.frozen 4
  obtain ⟨s0, s1, s2, s3, s4, s5⟩ := T1.out.cells
  clear s0 s1 s5
  generalize (W.drewN (nq + 1)).setCell ⟨g, 3, none⟩ (.int .i64 q) = W1 at *
  go_quiet (fail)
  go_wp2_with fail
  go_ret
  exact ⟨rfl, (T1.out.drewN _).set4 0, K1.out.trans (((TurnAt.refl g W1).drewN _).setCell 4 _).keep⟩
set_option maxRecDepth 100000 in
set_option maxHeartbeats 1000000 in
theorem raise_at (u c r a b : Int) (v : Value) (g : Nat) (w : World) (h : Hid (TokAt w g c r u a b v)) :
    Calls Try.prog 72 #[.agg #[.int .i64 b, .int .i64 u], .pointer (some ⟨g, 0, none⟩)] w fun e w' => e = .returned (.bool true) ∧ TokAt w' g c r u u 0 v ∧ KeepBut g w w' := by
  have HM : Hid (MkAt (w.alloc (.cells #[.int .i64 b, .int .i64 u] 85)) w.heap.size b u) := heap_alloc_new w _
  have HB : Hid (Below w.heap.size w (w.alloc (.cells #[.int .i64 b, .int .i64 u] 85))) := (Below.refl _ _).alloc (Nat.le_refl _) _
  have HT : Hid (TokAt (w.alloc (.cells #[.int .i64 b, .int .i64 u] 85)) g c r u a b v) := h.out.stays HB.out h.out.lt
  obtain ⟨m0, m1⟩ := HM.out.cells
  obtain ⟨t0, t1, t2, t3, t4, t5⟩ := HT.out.cells
  have z3 := HT.out.frozen 3
  have z4 := HT.out.frozen 4
  have hg := h.out.lt
  have hne : ¬ w.heap.size = g := by omega
  clear h HM t0 t1 t5
  go_enter Try.func72, Try.ntmps72
  go_wp2_with fail
  generalize w.alloc (.cells #[.int .i64 b, .int .i64 u] 85) = W at *
  go_quiet (fail)
  go_wp2_with fail
  go_region
  go_wp2_with fail
  have T1 : Hid (TokAt ((W.drewN (nq + 1)).setCell ⟨g, 3, none⟩ (.int .i64 u)) g c r u u b v) := (HT.out.drewN _).set3 u
  have K1 : Hid (KeepBut g w ((W.drewN (nq + 1)).setCell ⟨g, 3, none⟩ (.int .i64 u))) := (keep_of_below HB.out).trans (((TurnAt.refl g W).drewN _).setCell 3 _).keep
  clear HT HB m0 m1 t2 t3 t4 z3 z4
  have y4 := T1.out.frozen 4
  obtain ⟨s0, s1, s2, s3, s4, s5⟩ := T1.out.cells
  clear s0 s1 s5
  generalize (W.drewN (nq + 1)).setCell ⟨g, 3, none⟩ (.int .i64 u) = W1 at *
  go_quiet (fail)
  go_wp2_with fail
  go_ret
  exact ⟨rfl, (T1.out.drewN _).set4 0, K1.out.trans (((TurnAt.refl g W1).drewN _).setCell 4 _).keep⟩
set_option maxRecDepth 100000 in
set_option maxHeartbeats 1000000 in
theorem raise_in (u c r q a b : Int) (v : Value) (g : Nat) (w : World) (h : Hid (TokAt w g c r q a b v)) (hu : u < q) :
    Calls Try.prog 72 #[.agg #[.int .i64 b, .int .i64 u], .pointer (some ⟨g, 0, none⟩)] w fun e w' => e = .returned (.bool true) ∧ TokAt w' g c r q u b v ∧ KeepBut g w w' := by
  have HM : Hid (MkAt (w.alloc (.cells #[.int .i64 b, .int .i64 u] 85)) w.heap.size b u) := heap_alloc_new w _
  have HB : Hid (Below w.heap.size w (w.alloc (.cells #[.int .i64 b, .int .i64 u] 85))) := (Below.refl _ _).alloc (Nat.le_refl _) _
  have HT : Hid (TokAt (w.alloc (.cells #[.int .i64 b, .int .i64 u] 85)) g c r q a b v) := h.out.stays HB.out h.out.lt
  obtain ⟨m0, m1⟩ := HM.out.cells
  obtain ⟨t0, t1, t2, t3, t4, t5⟩ := HT.out.cells
  have z3 := HT.out.frozen 3
  have z4 := HT.out.frozen 4
  have hg := h.out.lt
  have hne : ¬ w.heap.size = g := by omega
  have hu2 : ¬ q < u := by omega
  have hu3 : ¬ u = q := by omega
  clear h HM t0 t1 t5
  go_enter Try.func72, Try.ntmps72
  go_wp2_with fail
  generalize w.alloc (.cells #[.int .i64 b, .int .i64 u] 85) = W at *
  go_quiet (fail)
  go_wp2_with fail
  go_region
  go_wp2_with fail
  have T1 : Hid (TokAt ((W.drewN (nq + 1)).setCell ⟨g, 3, none⟩ (.int .i64 u)) g c r q u b v) := (HT.out.drewN _).set3 u
  have K1 : Hid (KeepBut g w ((W.drewN (nq + 1)).setCell ⟨g, 3, none⟩ (.int .i64 u))) := (keep_of_below HB.out).trans (((TurnAt.refl g W).drewN _).setCell 3 _).keep
  clear HT HB m0 m1 t2 t3 t4 z3 z4
  have y4 := T1.out.frozen 4
  obtain ⟨s0, s1, s2, s3, s4, s5⟩ := T1.out.cells
  clear s0 s1 s5
  generalize (W.drewN (nq + 1)).setCell ⟨g, 3, none⟩ (.int .i64 u) = W1 at *
  go_quiet (fail)
  go_wp2_with fail
  go_ret
  exact ⟨rfl, T1.out.drewN _, keep_drewN K1.out _⟩

theorem raise_yes (d u c r q a b : Int) (v : Value) (g : Nat) (w : World) (h : Hid (TokAt w g c r q a b v)) (hu : b = d) :
    Calls Try.prog 72 #[.agg #[.int .i64 d, .int .i64 u], .pointer (some ⟨g, 0, none⟩)] w fun e w' => e = .returned (.bool true) ∧ TokAt w' g c r q (min u q) (if min u q = q then 0 else b) v ∧ KeepBut g w w' := by
  subst hu
  by_cases h1 : q < u
  · rw [show min u q = q by omega, if_pos rfl]
    exact raise_up u c r q a b v g w h h1
  · by_cases h2 : u = q
    · subst h2
      rw [show min u u = u by omega, if_pos rfl]
      exact raise_at u c r a b v g w h
    · rw [show min u q = u by omega, if_neg h2]
      exact raise_in u c r q a b v g w h (by omega)
end Go.Proofs.Ytnhnpneedcjcfaa
