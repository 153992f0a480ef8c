/- The walks over both FirstToken. -/
import Derived.Test.YtnhnpneedcjcfaaRh
import Derived.Test.YtnhnpneedcjcfaaBt
namespace Go.Proofs.Ytnhnpneedcjcfaa
open Go.RowKit Pl
set_option linter.unusedVariables false

set_option maxRecDepth 100000 in
set_option maxHeartbeats 400000 in
theorem first_yes (i : Int) (ao : Option Addr) (cap : Nat) (ws : List Int) (w : World) (hx : Hid (IntsAt w ao ws)) (hl : ws.length ≤ 1048576) (hr : Hid (ringB i ws = true)) :
    Calls Try.prog 15 #[.agg #[.int .i64 i, .slice ao ws.length cap]] w fun e w' => e = .returned (.agg #[.int .i64 i, .int .i64 1, .int .i64 0, .int .i64 0, .int .i64 0, .slice none 0 0]) ∧ Below w.heap.size w w' := by
  have hn1 : (w.alloc (.cells #[.int .i64 i, .slice ao ws.length cap] 26)).heap.size = w.heap.size + 1 := by simp
  have HT : Hid (RgAt ((w.alloc (.cells #[.int .i64 i, .slice ao ws.length cap] 26)).alloc (.cells #[.int .i64 0, .int .i64 0, .int .i64 0, .int .i64 0, .int .i64 0, .slice none 0 0] 30)) w.heap.size i (.slice ao ws.length cap)) := by
    have h := heap_alloc_new w (.cells #[.int .i64 i, .slice ao ws.length cap] 26)
    exact RgAt.stays (B := w.heap.size + 1) h ((Below.refl _ _).alloc (by rw [hn1]; exact Nat.le_refl _) _) (by omega)
  have HR : Hid (TokAt ((w.alloc (.cells #[.int .i64 i, .slice ao ws.length cap] 26)).alloc (.cells #[.int .i64 0, .int .i64 0, .int .i64 0, .int .i64 0, .int .i64 0, .slice none 0 0] 30)) (w.heap.size + 1) 0 0 0 0 0 (.slice none 0 0)) := by
    have h := heap_alloc_new (w.alloc (.cells #[.int .i64 i, .slice ao ws.length cap] 26)) (.cells #[.int .i64 0, .int .i64 0, .int .i64 0, .int .i64 0, .int .i64 0, .slice none 0 0] 30)
    rw [hn1] at h
    exact h
  have HB : Hid (Below w.heap.size w ((w.alloc (.cells #[.int .i64 i, .slice ao ws.length cap] 26)).alloc (.cells #[.int .i64 0, .int .i64 0, .int .i64 0, .int .i64 0, .int .i64 0, .slice none 0 0] 30))) := ((Below.refl _ _).alloc (Nat.le_refl _) _).alloc (by simp) _
  have HX : Hid (IntsAt ((w.alloc (.cells #[.int .i64 i, .slice ao ws.length cap] 26)).alloc (.cells #[.int .i64 0, .int .i64 0, .int .i64 0, .int .i64 0, .int .i64 0, .slice none 0 0] 30)) ao ws) := hx.out.stays HB.out
  clear hn1 hx
  go_enter Try.func15, Try.ntmps15
  go_wp2_with fail
  generalize (w.alloc (.cells #[.int .i64 i, .slice ao ws.length cap] 26)).alloc (.cells #[.int .i64 0, .int .i64 0, .int .i64 0, .int .i64 0, .int .i64 0, .slice none 0 0] 30) = W at *
  refine (ringOk_any i ao cap ws _ HX hl).mono ?_
  rintro e w2 ⟨rfl, hb2⟩
  rw [hr.out]
  have R2 : Hid (TokAt w2 (w.heap.size + 1) 0 0 0 0 0 (.slice none 0 0)) := HR.out.stays hb2 HR.out.lt
  have B2 : Hid (Below w.heap.size w w2) := HB.out.trans (hb2.mono HB.out.size)
  obtain ⟨k0, k1⟩ := (HT.out.stays hb2 HT.out.lt).cells
  clear k1
  obtain ⟨r0, r1, r2, r3, r4, r5⟩ := R2.out.cells
  have z0 := R2.out.frozen 0
  have z1 := R2.out.frozen 1
  have z2 := R2.out.frozen 2
  have z3 := R2.out.frozen 3
  have z4 := R2.out.frozen 4
  have z5 := R2.out.frozen 5
  clear hb2 HX HB HR HT hr
  go_wp2_with fail
  have R3 : TokAt _ (w.heap.size + 1) i 1 0 0 0 (.slice none 0 0) := R2.out.agg i 1 0 0 0 (.slice none 0 0)
  have T3 := ((((((TurnAt.refl (w.heap.size + 1) w2).setCell 0 (.int .i64 i)).setCell 1 (.int .i64 1)).setCell 2 (.int .i64 0)).setCell 3 (.int .i64 0)).setCell 4 (.int .i64 0)).setCell 5 (.slice none 0 0)
  have B3 := B2.out.trans (T3.below (by omega))
  clear T3 R2 B2
  generalize ((((((w2.setCell ⟨w.heap.size + 1, 0, none⟩ (.int .i64 i)).setCell ⟨w.heap.size + 1, 1, none⟩ (.int .i64 1)).setCell ⟨w.heap.size + 1, 2, none⟩ (.int .i64 0)).setCell ⟨w.heap.size + 1, 3, none⟩ (.int .i64 0)).setCell ⟨w.heap.size + 1, 4, none⟩ (.int .i64 0)).setCell ⟨w.heap.size + 1, 5, none⟩ (.slice none 0 0)) = W3 at *
  obtain ⟨q0, q1, q2, q3, q4, q5⟩ := R3.cells
  refine bodyPost_ret (v := .agg #[.int .i64 i, .int .i64 1, .int .i64 0, .int .i64 0, .int .i64 0, .slice none 0 0]) (by simp [results, Try.results15, go_sem, q0, q1, q2, q3, q4, q5]) rfl ?_
  exact ⟨rfl, B3⟩

set_option maxRecDepth 100000 in
set_option maxHeartbeats 400000 in
theorem first_no (i : Int) (ao : Option Addr) (cap : Nat) (ws : List Int) (w : World) (hx : Hid (IntsAt w ao ws)) (hl : ws.length ≤ 1048576) (hr : Hid (ringB i ws = false)) :
    Calls Try.prog 15 #[.agg #[.int .i64 i, .slice ao ws.length cap]] w fun e w' => e = .returned (.agg #[.int .i64 0, .int .i64 0, .int .i64 0, .int .i64 0, .int .i64 0, .slice none 0 0]) ∧ Below w.heap.size w w' := by
  have hn1 : (w.alloc (.cells #[.int .i64 i, .slice ao ws.length cap] 26)).heap.size = w.heap.size + 1 := by simp
  have HT : Hid (RgAt ((w.alloc (.cells #[.int .i64 i, .slice ao ws.length cap] 26)).alloc (.cells #[.int .i64 0, .int .i64 0, .int .i64 0, .int .i64 0, .int .i64 0, .slice none 0 0] 30)) w.heap.size i (.slice ao ws.length cap)) := by
    have h := heap_alloc_new w (.cells #[.int .i64 i, .slice ao ws.length cap] 26)
    exact RgAt.stays (B := w.heap.size + 1) h ((Below.refl _ _).alloc (by rw [hn1]; exact Nat.le_refl _) _) (by omega)
  have HR : Hid (TokAt ((w.alloc (.cells #[.int .i64 i, .slice ao ws.length cap] 26)).alloc (.cells #[.int .i64 0, .int .i64 0, .int .i64 0, .int .i64 0, .int .i64 0, .slice none 0 0] 30)) (w.heap.size + 1) 0 0 0 0 0 (.slice none 0 0)) := by
    have h := heap_alloc_new (w.alloc (.cells #[.int .i64 i, .slice ao ws.length cap] 26)) (.cells #[.int .i64 0, .int .i64 0, .int .i64 0, .int .i64 0, .int .i64 0, .slice none 0 0] 30)
    rw [hn1] at h
    exact h
  have HB : Hid (Below w.heap.size w ((w.alloc (.cells #[.int .i64 i, .slice ao ws.length cap] 26)).alloc (.cells #[.int .i64 0, .int .i64 0, .int .i64 0, .int .i64 0, .int .i64 0, .slice none 0 0] 30))) := ((Below.refl _ _).alloc (Nat.le_refl _) _).alloc (by simp) _
  have HX : Hid (IntsAt ((w.alloc (.cells #[.int .i64 i, .slice ao ws.length cap] 26)).alloc (.cells #[.int .i64 0, .int .i64 0, .int .i64 0, .int .i64 0, .int .i64 0, .slice none 0 0] 30)) ao ws) := hx.out.stays HB.out
  clear hn1 hx
  go_enter Try.func15, Try.ntmps15
  go_wp2_with fail
  generalize (w.alloc (.cells #[.int .i64 i, .slice ao ws.length cap] 26)).alloc (.cells #[.int .i64 0, .int .i64 0, .int .i64 0, .int .i64 0, .int .i64 0, .slice none 0 0] 30) = W at *
  refine (ringOk_any i ao cap ws _ HX hl).mono ?_
  rintro e w2 ⟨rfl, hb2⟩
  rw [hr.out]
  have R2 : Hid (TokAt w2 (w.heap.size + 1) 0 0 0 0 0 (.slice none 0 0)) := HR.out.stays hb2 HR.out.lt
  have B2 : Hid (Below w.heap.size w w2) := HB.out.trans (hb2.mono HB.out.size)
  obtain ⟨k0, k1⟩ := (HT.out.stays hb2 HT.out.lt).cells
  clear k1
  obtain ⟨r0, r1, r2, r3, r4, r5⟩ := R2.out.cells
  have z0 := R2.out.frozen 0
  have z1 := R2.out.frozen 1
  have z2 := R2.out.frozen 2
  have z3 := R2.out.frozen 3
  have z4 := R2.out.frozen 4
  have z5 := R2.out.frozen 5
  clear hb2 HX HB HR HT hr
  go_wp2_with fail
  have R3 : TokAt _ (w.heap.size + 1) 0 0 0 0 0 (.slice none 0 0) := R2.out.agg 0 0 0 0 0 (.slice none 0 0)
  have T3 := ((((((TurnAt.refl (w.heap.size + 1) w2).setCell 0 (.int .i64 0)).setCell 1 (.int .i64 0)).setCell 2 (.int .i64 0)).setCell 3 (.int .i64 0)).setCell 4 (.int .i64 0)).setCell 5 (.slice none 0 0)
  have B3 := B2.out.trans (T3.below (by omega))
  clear T3 R2 B2
  generalize ((((((w2.setCell ⟨w.heap.size + 1, 0, none⟩ (.int .i64 0)).setCell ⟨w.heap.size + 1, 1, none⟩ (.int .i64 0)).setCell ⟨w.heap.size + 1, 2, none⟩ (.int .i64 0)).setCell ⟨w.heap.size + 1, 3, none⟩ (.int .i64 0)).setCell ⟨w.heap.size + 1, 4, none⟩ (.int .i64 0)).setCell ⟨w.heap.size + 1, 5, none⟩ (.slice none 0 0)) = W3 at *
  obtain ⟨q0, q1, q2, q3, q4, q5⟩ := R3.cells
  refine bodyPost_ret (v := .agg #[.int .i64 0, .int .i64 0, .int .i64 0, .int .i64 0, .int .i64 0, .slice none 0 0]) (by simp [results, Try.results15, go_sem, q0, q1, q2, q3, q4, q5]) rfl ?_
  exact ⟨rfl, B3⟩

theorem first_any (i : Int) (ao : Option Addr) (cap : Nat) (ws : List Int) (w : World) (hx : Hid (IntsAt w ao ws)) (hl : ws.length ≤ 1048576) :
    Calls Try.prog 15 #[.agg #[.int .i64 i, .slice ao ws.length cap]] w fun e w' => e = .returned (.agg #[.int .i64 (if ringB i ws then i else 0), .int .i64 (if ringB i ws then 1 else 0), .int .i64 0, .int .i64 0, .int .i64 0, .slice none 0 0]) ∧ Below w.heap.size w w' := by
  cases hr : ringB i ws with
  | true => exact first_yes i ao cap ws w hx hl hr
  | false => exact first_no i ao cap ws w hx hl hr

set_option maxRecDepth 100000 in
set_option maxHeartbeats 400000 in
theorem spFirst_yes (i : Int) (ao : Option Addr) (cap : Nat) (ws : List Int) (w : World) (hx : Hid (IntsAt w ao ws)) (hl : ws.length ≤ 1048576) (hr : Hid (ringB i ws = true)) :
    Calls Try.prog 32 #[.agg #[.int .i64 i, .slice ao ws.length cap]] w fun e w' => e = .returned (.agg #[.int .i64 i, .int .i64 1, .int .i64 0, .int .i64 0, .int .i64 0, .slice none 0 0]) ∧ Below w.heap.size w w' := by
  have hn1 : (w.alloc (.cells #[.int .i64 i, .slice ao ws.length cap] 26)).heap.size = w.heap.size + 1 := by simp
  have HT : Hid (RgAt ((w.alloc (.cells #[.int .i64 i, .slice ao ws.length cap] 26)).alloc (.cells #[.int .i64 0, .int .i64 0, .int .i64 0, .int .i64 0, .int .i64 0, .slice none 0 0] 30)) w.heap.size i (.slice ao ws.length cap)) := by
    have h := heap_alloc_new w (.cells #[.int .i64 i, .slice ao ws.length cap] 26)
    exact RgAt.stays (B := w.heap.size + 1) h ((Below.refl _ _).alloc (by rw [hn1]; exact Nat.le_refl _) _) (by omega)
  have HR : Hid (TokAt ((w.alloc (.cells #[.int .i64 i, .slice ao ws.length cap] 26)).alloc (.cells #[.int .i64 0, .int .i64 0, .int .i64 0, .int .i64 0, .int .i64 0, .slice none 0 0] 30)) (w.heap.size + 1) 0 0 0 0 0 (.slice none 0 0)) := by
    have h := heap_alloc_new (w.alloc (.cells #[.int .i64 i, .slice ao ws.length cap] 26)) (.cells #[.int .i64 0, .int .i64 0, .int .i64 0, .int .i64 0, .int .i64 0, .slice none 0 0] 30)
    rw [hn1] at h
    exact h
  have HB : Hid (Below w.heap.size w ((w.alloc (.cells #[.int .i64 i, .slice ao ws.length cap] 26)).alloc (.cells #[.int .i64 0, .int .i64 0, .int .i64 0, .int .i64 0, .int .i64 0, .slice none 0 0] 30))) := ((Below.refl _ _).alloc (Nat.le_refl _) _).alloc (by simp) _
  have HX : Hid (IntsAt ((w.alloc (.cells #[.int .i64 i, .slice ao ws.length cap] 26)).alloc (.cells #[.int .i64 0, .int .i64 0, .int .i64 0, .int .i64 0, .int .i64 0, .slice none 0 0] 30)) ao ws) := hx.out.stays HB.out
  clear hn1 hx
  go_enter Try.func32, Try.ntmps32
  go_wp2_with fail
  generalize (w.alloc (.cells #[.int .i64 i, .slice ao ws.length cap] 26)).alloc (.cells #[.int .i64 0, .int .i64 0, .int .i64 0, .int .i64 0, .int .i64 0, .slice none 0 0] 30) = W at *
  refine (spRingOk_any i ao cap ws _ HX hl).mono ?_
  rintro e w2 ⟨rfl, hb2⟩
  rw [hr.out]
  have R2 : Hid (TokAt w2 (w.heap.size + 1) 0 0 0 0 0 (.slice none 0 0)) := HR.out.stays hb2 HR.out.lt
  have B2 : Hid (Below w.heap.size w w2) := HB.out.trans (hb2.mono HB.out.size)
  obtain ⟨k0, k1⟩ := (HT.out.stays hb2 HT.out.lt).cells
  clear k1
  obtain ⟨r0, r1, r2, r3, r4, r5⟩ := R2.out.cells
  have z0 := R2.out.frozen 0
  have z1 := R2.out.frozen 1
  have z2 := R2.out.frozen 2
  have z3 := R2.out.frozen 3
  have z4 := R2.out.frozen 4
  have z5 := R2.out.frozen 5
  clear hb2 HX HB HR HT hr
  go_wp2_with fail
  have R3 : TokAt _ (w.heap.size + 1) i 1 0 0 0 (.slice none 0 0) := R2.out.agg i 1 0 0 0 (.slice none 0 0)
  have T3 := ((((((TurnAt.refl (w.heap.size + 1) w2).setCell 0 (.int .i64 i)).setCell 1 (.int .i64 1)).setCell 2 (.int .i64 0)).setCell 3 (.int .i64 0)).setCell 4 (.int .i64 0)).setCell 5 (.slice none 0 0)
  have B3 := B2.out.trans (T3.below (by omega))
  clear T3 R2 B2
  generalize ((((((w2.setCell ⟨w.heap.size + 1, 0, none⟩ (.int .i64 i)).setCell ⟨w.heap.size + 1, 1, none⟩ (.int .i64 1)).setCell ⟨w.heap.size + 1, 2, none⟩ (.int .i64 0)).setCell ⟨w.heap.size + 1, 3, none⟩ (.int .i64 0)).setCell ⟨w.heap.size + 1, 4, none⟩ (.int .i64 0)).setCell ⟨w.heap.size + 1, 5, none⟩ (.slice none 0 0)) = W3 at *
  obtain ⟨q0, q1, q2, q3, q4, q5⟩ := R3.cells
  refine bodyPost_ret (v := .agg #[.int .i64 i, .int .i64 1, .int .i64 0, .int .i64 0, .int .i64 0, .slice none 0 0]) (by simp [results, Try.results32, go_sem, q0, q1, q2, q3, q4, q5]) rfl ?_
  exact ⟨rfl, B3⟩

set_option maxRecDepth 100000 in
set_option maxHeartbeats 400000 in
theorem spFirst_no (i : Int) (ao : Option Addr) (cap : Nat) (ws : List Int) (w : World) (hx : Hid (IntsAt w ao ws)) (hl : ws.length ≤ 1048576) (hr : Hid (ringB i ws = false)) :
    Calls Try.prog 32 #[.agg #[.int .i64 i, .slice ao ws.length cap]] w fun e w' => e = .returned (.agg #[.int .i64 0, .int .i64 0, .int .i64 0, .int .i64 0, .int .i64 0, .slice none 0 0]) ∧ Below w.heap.size w w' := by
  have hn1 : (w.alloc (.cells #[.int .i64 i, .slice ao ws.length cap] 26)).heap.size = w.heap.size + 1 := by simp
  have HT : Hid (RgAt ((w.alloc (.cells #[.int .i64 i, .slice ao ws.length cap] 26)).alloc (.cells #[.int .i64 0, .int .i64 0, .int .i64 0, .int .i64 0, .int .i64 0, .slice none 0 0] 30)) w.heap.size i (.slice ao ws.length cap)) := by
    have h := heap_alloc_new w (.cells #[.int .i64 i, .slice ao ws.length cap] 26)
    exact RgAt.stays (B := w.heap.size + 1) h ((Below.refl _ _).alloc (by rw [hn1]; exact Nat.le_refl _) _) (by omega)
  have HR : Hid (TokAt ((w.alloc (.cells #[.int .i64 i, .slice ao ws.length cap] 26)).alloc (.cells #[.int .i64 0, .int .i64 0, .int .i64 0, .int .i64 0, .int .i64 0, .slice none 0 0] 30)) (w.heap.size + 1) 0 0 0 0 0 (.slice none 0 0)) := by
    have h := heap_alloc_new (w.alloc (.cells #[.int .i64 i, .slice ao ws.length cap] 26)) (.cells #[.int .i64 0, .int .i64 0, .int .i64 0, .int .i64 0, .int .i64 0, .slice none 0 0] 30)
    rw [hn1] at h
    exact h
  have HB : Hid (Below w.heap.size w ((w.alloc (.cells #[.int .i64 i, .slice ao ws.length cap] 26)).alloc (.cells #[.int .i64 0, .int .i64 0, .int .i64 0, .int .i64 0, .int .i64 0, .slice none 0 0] 30))) := ((Below.refl _ _).alloc (Nat.le_refl _) _).alloc (by simp) _
  have HX : Hid (IntsAt ((w.alloc (.cells #[.int .i64 i, .slice ao ws.length cap] 26)).alloc (.cells #[.int .i64 0, .int .i64 0, .int .i64 0, .int .i64 0, .int .i64 0, .slice none 0 0] 30)) ao ws) := hx.out.stays HB.out
  clear hn1 hx
  go_enter Try.func32, Try.ntmps32
  go_wp2_with fail
  generalize (w.alloc (.cells #[.int .i64 i, .slice ao ws.length cap] 26)).alloc (.cells #[.int .i64 0, .int .i64 0, .int .i64 0, .int .i64 0, .int .i64 0, .slice none 0 0] 30) = W at *
  refine (spRingOk_any i ao cap ws _ HX hl).mono ?_
  rintro e w2 ⟨rfl, hb2⟩
  rw [hr.out]
  have R2 : Hid (TokAt w2 (w.heap.size + 1) 0 0 0 0 0 (.slice none 0 0)) := HR.out.stays hb2 HR.out.lt
  have B2 : Hid (Below w.heap.size w w2) := HB.out.trans (hb2.mono HB.out.size)
  obtain ⟨k0, k1⟩ := (HT.out.stays hb2 HT.out.lt).cells
  clear k1
  obtain ⟨r0, r1, r2, r3, r4, r5⟩ := R2.out.cells
  have z0 := R2.out.frozen 0
  have z1 := R2.out.frozen 1
  have z2 := R2.out.frozen 2
  have z3 := R2.out.frozen 3
  have z4 := R2.out.frozen 4
  have z5 := R2.out.frozen 5
  clear hb2 HX HB HR HT hr
  go_wp2_with fail
  have R3 : TokAt _ (w.heap.size + 1) 0 0 0 0 0 (.slice none 0 0) := R2.out.agg 0 0 0 0 0 (.slice none 0 0)
  have T3 := ((((((TurnAt.refl (w.heap.size + 1) w2).setCell 0 (.int .i64 0)).setCell 1 (.int .i64 0)).setCell 2 (.int .i64 0)).setCell 3 (.int .i64 0)).setCell 4 (.int .i64 0)).setCell 5 (.slice none 0 0)
  have B3 := B2.out.trans (T3.below (by omega))
  clear T3 R2 B2
  generalize ((((((w2.setCell ⟨w.heap.size + 1, 0, none⟩ (.int .i64 0)).setCell ⟨w.heap.size + 1, 1, none⟩ (.int .i64 0)).setCell ⟨w.heap.size + 1, 2, none⟩ (.int .i64 0)).setCell ⟨w.heap.size + 1, 3, none⟩ (.int .i64 0)).setCell ⟨w.heap.size + 1, 4, none⟩ (.int .i64 0)).setCell ⟨w.heap.size + 1, 5, none⟩ (.slice none 0 0)) = W3 at *
  obtain ⟨q0, q1, q2, q3, q4, q5⟩ := R3.cells
  refine bodyPost_ret (v := .agg #[.int .i64 0, .int .i64 0, .int .i64 0, .int .i64 0, .int .i64 0, .slice none 0 0]) (by simp [results, Try.results32, go_sem, q0, q1, q2, q3, q4, q5]) rfl ?_
  exact ⟨rfl, B3⟩

theorem spFirst_any (i : Int) (ao : Option Addr) (cap : Nat) (ws : List Int) (w : World) (hx : Hid (IntsAt w ao ws)) (hl : ws.length ≤ 1048576) :
    Calls Try.prog 32 #[.agg #[.int .i64 i, .slice ao ws.length cap]] w fun e w' => e = .returned (.agg #[.int .i64 (if ringB i ws then i else 0), .int .i64 (if ringB i ws then 1 else 0), .int .i64 0, .int .i64 0, .int .i64 0, .slice none 0 0]) ∧ Below w.heap.size w w' := by
  cases hr : ringB i ws with
  | true => exact spFirst_yes i ao cap ws w hx hl hr
  | false => exact spFirst_no i ao cap ws w hx hl hr
end Go.Proofs.Ytnhnpneedcjcfaa
