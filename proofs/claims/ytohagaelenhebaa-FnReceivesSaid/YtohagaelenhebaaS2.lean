/- The walks over the specification's Offer. -/
import Derived.Test.YtohagaelenhebaaS1
import Derived.Test.YtohagaelenhebaaPs
namespace Go.Proofs.Ytohagaelenhebaa
open Go.RowKit Pl
set_option linter.unusedVariables false

set_option maxRecDepth 100000 in
set_option maxHeartbeats 2000000 in
theorem spOffer_bad0 (nx ak gt : Int) (qa oa : Option Addr) (qc oc : Nat) (q o : List ByteArray) (s : ByteArray) (w : World) (HQ : Hid (TextsAt w qa q)) (HO : Hid (TextsAt w oa o)) (lq : q.length ≤ 1048576) (lo : o.length ≤ 1048576) (ls : s.size ≤ 1048576) (hok : okB ⟨nx, ak, q, gt, o⟩ = false)  :
    Calls Try.prog 28 #[.agg #[.int .i64 nx, .int .i64 ak, .slice qa q.length qc, .int .i64 gt, .slice oa o.length oc], .string s] w fun r w' => r = .returned (.tuple #[.agg #[.int .i64 0, .int .i64 0, .slice none 0 0, .int .i64 0, .slice none 0 0], .bool false]) ∧ Below w.heap.size w w' := by
  go_enter Try.func28, Try.ntmps28
  go_wp2_with fail
  have E0 : EndC ((w.alloc (Obj.cells #[Value.int IntKind.i64 nx, Value.int IntKind.i64 ak, Value.slice qa q.length qc, Value.int IntKind.i64 gt, Value.slice oa o.length oc] 32)).alloc (Obj.cells #[Value.int IntKind.i64 0, Value.int IntKind.i64 0, Value.slice none 0 0, Value.int IntKind.i64 0, Value.slice none 0 0] 32)) 32 w.heap.size nx ak (.slice qa q.length qc) gt (.slice oa o.length oc) := (EndC.new w 32 nx ak gt _ _).below ((Below.refl _ _).alloc (Nat.le_refl _) _)
  have R0 : EndC ((w.alloc (Obj.cells #[Value.int IntKind.i64 nx, Value.int IntKind.i64 ak, Value.slice qa q.length qc, Value.int IntKind.i64 gt, Value.slice oa o.length oc] 32)).alloc (Obj.cells #[Value.int IntKind.i64 0, Value.int IntKind.i64 0, Value.slice none 0 0, Value.int IntKind.i64 0, Value.slice none 0 0] 32)) 32 (w.heap.size + 1) 0 0 (.slice none 0 0) 0 (.slice none 0 0) := by
    have := EndC.new (w.alloc (Obj.cells #[Value.int IntKind.i64 nx, Value.int IntKind.i64 ak, Value.slice qa q.length qc, Value.int IntKind.i64 gt, Value.slice oa o.length oc] 32)) 32 0 0 0 (.slice none 0 0) (.slice none 0 0)
    simpa using this
  have B0 : Below w.heap.size w ((w.alloc (Obj.cells #[Value.int IntKind.i64 nx, Value.int IntKind.i64 ak, Value.slice qa q.length qc, Value.int IntKind.i64 gt, Value.slice oa o.length oc] 32)).alloc (Obj.cells #[Value.int IntKind.i64 0, Value.int IntKind.i64 0, Value.slice none 0 0, Value.int IntKind.i64 0, Value.slice none 0 0] 32)) := ((Below.refl _ _).alloc (Nat.le_refl _) _).alloc (by simp) _
  have Z0 : ((w.alloc (Obj.cells #[Value.int IntKind.i64 nx, Value.int IntKind.i64 ak, Value.slice qa q.length qc, Value.int IntKind.i64 gt, Value.slice oa o.length oc] 32)).alloc (Obj.cells #[Value.int IntKind.i64 0, Value.int IntKind.i64 0, Value.slice none 0 0, Value.int IntKind.i64 0, Value.slice none 0 0] 32)).heap.size = w.heap.size + 2 := by simp
  generalize ((w.alloc (Obj.cells #[Value.int IntKind.i64 nx, Value.int IntKind.i64 ak, Value.slice qa q.length qc, Value.int IntKind.i64 gt, Value.slice oa o.length oc] 32)).alloc (Obj.cells #[Value.int IntKind.i64 0, Value.int IntKind.i64 0, Value.slice none 0 0, Value.int IntKind.i64 0, Value.slice none 0 0] 32)) = W0 at *
  refine (spEndOk_is (e := ⟨nx, ak, q, gt, o⟩) W0 (show EndR _ _ _ from ⟨qa, qc, oa, oc, rfl, HQ.out.stays B0, HO.out.stays B0⟩) lq lo hok).mono ?_
  rintro r w1 ⟨rfl, hb1⟩
  have E1 := E0.below hb1
  have R1 := R0.below hb1
  have B1 := B0.trans (hb1.mono B0.size)
  have Z1 : w.heap.size + 2 ≤ w1.heap.size := by have := hb1.size; omega
  obtain ⟨a0, a1, a2, a3, a4⟩ := E1.cells
  obtain ⟨r0, r1, r2, r3, r4⟩ := R1.cells
  have k0 := R1.frozen 0
  have k1 := R1.frozen 1
  have k2 := R1.frozen 2
  have k3 := R1.frozen 3
  have k4 := R1.frozen 4
  have HR1 : Hid (EndC w1 32 (w.heap.size + 1) 0 0 (.slice none 0 0) 0 (.slice none 0 0)) := R1
  have HB1 : Hid (Below w.heap.size w w1) := B1
  clear E0 R0 B0 E1 R1 B1 hb1
  go_wp2_with fail
  show bodyPost _ _ _ _ _ (fillE w1 (w.heap.size + 1) 0 0 (.slice none 0 0) 0 (.slice none 0 0))
  have K1 := fill_end HR1.out 0 0 0 (.slice none 0 0) (.slice none 0 0)
  have K2 := fill_grown w1 (w.heap.size + 1) 0 0 0 (.slice none 0 0) (.slice none 0 0)
  have HBF := HB1.out.trans (grown_to_below K2 (by omega) HB1.out.size)
  generalize fillE w1 (w.heap.size + 1) 0 0 (.slice none 0 0) 0 (.slice none 0 0) = W4 at *
  obtain ⟨q0, q1, q2, q3, q4⟩ := K1.cells
  refine bodyPost_ret (v := .tuple #[.agg #[.int .i64 0, .int .i64 0, .slice none 0 0, .int .i64 0, .slice none 0 0], .bool false]) (by simp [results, Try.results28, go_sem, q0, q1, q2, q3, q4]) rfl ?_
  exact ⟨rfl, HBF⟩

set_option maxRecDepth 100000 in
set_option maxHeartbeats 2000000 in
theorem spOffer_bad1 (nx ak gt : Int) (qa oa : Option Addr) (qc oc : Nat) (q o : List ByteArray) (s : ByteArray) (w : World) (HQ : Hid (TextsAt w qa q)) (HO : Hid (TextsAt w oa o)) (lq : q.length ≤ 1048576) (lo : o.length ≤ 1048576) (ls : s.size ≤ 1048576) (hok : okB ⟨nx, ak, q, gt, o⟩ = true) (h1 : 60 < s.size) :
    Calls Try.prog 28 #[.agg #[.int .i64 nx, .int .i64 ak, .slice qa q.length qc, .int .i64 gt, .slice oa o.length oc], .string s] w fun r w' => r = .returned (.tuple #[.agg #[.int .i64 0, .int .i64 0, .slice none 0 0, .int .i64 0, .slice none 0 0], .bool false]) ∧ Below w.heap.size w w' := by
  have hp := okB_true.1 hok
  have pa : 0 ≤ ak := hp.a0
  have pb : ak ≤ 1000 := hp.a1
  have pc : q.length ≤ 30 := hp.q1
  have hd1 : decide (60 < (s.size : Int)) = true := by simp; omega
  go_enter Try.func28, Try.ntmps28
  go_wp2_with fail
  have E0 : EndC ((w.alloc (Obj.cells #[Value.int IntKind.i64 nx, Value.int IntKind.i64 ak, Value.slice qa q.length qc, Value.int IntKind.i64 gt, Value.slice oa o.length oc] 32)).alloc (Obj.cells #[Value.int IntKind.i64 0, Value.int IntKind.i64 0, Value.slice none 0 0, Value.int IntKind.i64 0, Value.slice none 0 0] 32)) 32 w.heap.size nx ak (.slice qa q.length qc) gt (.slice oa o.length oc) := (EndC.new w 32 nx ak gt _ _).below ((Below.refl _ _).alloc (Nat.le_refl _) _)
  have R0 : EndC ((w.alloc (Obj.cells #[Value.int IntKind.i64 nx, Value.int IntKind.i64 ak, Value.slice qa q.length qc, Value.int IntKind.i64 gt, Value.slice oa o.length oc] 32)).alloc (Obj.cells #[Value.int IntKind.i64 0, Value.int IntKind.i64 0, Value.slice none 0 0, Value.int IntKind.i64 0, Value.slice none 0 0] 32)) 32 (w.heap.size + 1) 0 0 (.slice none 0 0) 0 (.slice none 0 0) := by
    have := EndC.new (w.alloc (Obj.cells #[Value.int IntKind.i64 nx, Value.int IntKind.i64 ak, Value.slice qa q.length qc, Value.int IntKind.i64 gt, Value.slice oa o.length oc] 32)) 32 0 0 0 (.slice none 0 0) (.slice none 0 0)
    simpa using this
  have B0 : Below w.heap.size w ((w.alloc (Obj.cells #[Value.int IntKind.i64 nx, Value.int IntKind.i64 ak, Value.slice qa q.length qc, Value.int IntKind.i64 gt, Value.slice oa o.length oc] 32)).alloc (Obj.cells #[Value.int IntKind.i64 0, Value.int IntKind.i64 0, Value.slice none 0 0, Value.int IntKind.i64 0, Value.slice none 0 0] 32)) := ((Below.refl _ _).alloc (Nat.le_refl _) _).alloc (by simp) _
  have Z0 : ((w.alloc (Obj.cells #[Value.int IntKind.i64 nx, Value.int IntKind.i64 ak, Value.slice qa q.length qc, Value.int IntKind.i64 gt, Value.slice oa o.length oc] 32)).alloc (Obj.cells #[Value.int IntKind.i64 0, Value.int IntKind.i64 0, Value.slice none 0 0, Value.int IntKind.i64 0, Value.slice none 0 0] 32)).heap.size = w.heap.size + 2 := by simp
  generalize ((w.alloc (Obj.cells #[Value.int IntKind.i64 nx, Value.int IntKind.i64 ak, Value.slice qa q.length qc, Value.int IntKind.i64 gt, Value.slice oa o.length oc] 32)).alloc (Obj.cells #[Value.int IntKind.i64 0, Value.int IntKind.i64 0, Value.slice none 0 0, Value.int IntKind.i64 0, Value.slice none 0 0] 32)) = W0 at *
  refine (spEndOk_is (e := ⟨nx, ak, q, gt, o⟩) W0 (show EndR _ _ _ from ⟨qa, qc, oa, oc, rfl, HQ.out.stays B0, HO.out.stays B0⟩) lq lo hok).mono ?_
  rintro r w1 ⟨rfl, hb1⟩
  have E1 := E0.below hb1
  have R1 := R0.below hb1
  have B1 := B0.trans (hb1.mono B0.size)
  have Z1 : w.heap.size + 2 ≤ w1.heap.size := by have := hb1.size; omega
  obtain ⟨a0, a1, a2, a3, a4⟩ := E1.cells
  obtain ⟨r0, r1, r2, r3, r4⟩ := R1.cells
  have k0 := R1.frozen 0
  have k1 := R1.frozen 1
  have k2 := R1.frozen 2
  have k3 := R1.frozen 3
  have k4 := R1.frozen 4
  have HR1 : Hid (EndC w1 32 (w.heap.size + 1) 0 0 (.slice none 0 0) 0 (.slice none 0 0)) := R1
  have HB1 : Hid (Below w.heap.size w w1) := B1
  clear E0 R0 B0 E1 R1 B1 hb1
  go_wp2_with fail
  show bodyPost _ _ _ _ _ (fillE w1 (w.heap.size + 1) 0 0 (.slice none 0 0) 0 (.slice none 0 0))
  have K1 := fill_end HR1.out 0 0 0 (.slice none 0 0) (.slice none 0 0)
  have K2 := fill_grown w1 (w.heap.size + 1) 0 0 0 (.slice none 0 0) (.slice none 0 0)
  have HBF := HB1.out.trans (grown_to_below K2 (by omega) HB1.out.size)
  generalize fillE w1 (w.heap.size + 1) 0 0 (.slice none 0 0) 0 (.slice none 0 0) = W4 at *
  obtain ⟨q0, q1, q2, q3, q4⟩ := K1.cells
  refine bodyPost_ret (v := .tuple #[.agg #[.int .i64 0, .int .i64 0, .slice none 0 0, .int .i64 0, .slice none 0 0], .bool false]) (by simp [results, Try.results28, go_sem, q0, q1, q2, q3, q4]) rfl ?_
  exact ⟨rfl, HBF⟩

set_option maxRecDepth 100000 in
set_option maxHeartbeats 2000000 in
theorem spOffer_bad2 (nx ak gt : Int) (qa oa : Option Addr) (qc oc : Nat) (q o : List ByteArray) (s : ByteArray) (w : World) (HQ : Hid (TextsAt w qa q)) (HO : Hid (TextsAt w oa o)) (lq : q.length ≤ 1048576) (lo : o.length ≤ 1048576) (ls : s.size ≤ 1048576) (hok : okB ⟨nx, ak, q, gt, o⟩ = true) (h1 : ¬ 60 < s.size) (h2 : ¬ q.length < 30) :
    Calls Try.prog 28 #[.agg #[.int .i64 nx, .int .i64 ak, .slice qa q.length qc, .int .i64 gt, .slice oa o.length oc], .string s] w fun r w' => r = .returned (.tuple #[.agg #[.int .i64 0, .int .i64 0, .slice none 0 0, .int .i64 0, .slice none 0 0], .bool false]) ∧ Below w.heap.size w w' := by
  have hp := okB_true.1 hok
  have pa : 0 ≤ ak := hp.a0
  have pb : ak ≤ 1000 := hp.a1
  have pc : q.length ≤ 30 := hp.q1
  have hd1 : decide (60 < (s.size : Int)) = false := by simp; omega
  have hd2 : decide (30 ≤ (q.length : Int)) = true := by simp; omega
  have hd2b : (q.length : Int) = 30 := by omega
  go_enter Try.func28, Try.ntmps28
  go_wp2_with fail
  have E0 : EndC ((w.alloc (Obj.cells #[Value.int IntKind.i64 nx, Value.int IntKind.i64 ak, Value.slice qa q.length qc, Value.int IntKind.i64 gt, Value.slice oa o.length oc] 32)).alloc (Obj.cells #[Value.int IntKind.i64 0, Value.int IntKind.i64 0, Value.slice none 0 0, Value.int IntKind.i64 0, Value.slice none 0 0] 32)) 32 w.heap.size nx ak (.slice qa q.length qc) gt (.slice oa o.length oc) := (EndC.new w 32 nx ak gt _ _).below ((Below.refl _ _).alloc (Nat.le_refl _) _)
  have R0 : EndC ((w.alloc (Obj.cells #[Value.int IntKind.i64 nx, Value.int IntKind.i64 ak, Value.slice qa q.length qc, Value.int IntKind.i64 gt, Value.slice oa o.length oc] 32)).alloc (Obj.cells #[Value.int IntKind.i64 0, Value.int IntKind.i64 0, Value.slice none 0 0, Value.int IntKind.i64 0, Value.slice none 0 0] 32)) 32 (w.heap.size + 1) 0 0 (.slice none 0 0) 0 (.slice none 0 0) := by
    have := EndC.new (w.alloc (Obj.cells #[Value.int IntKind.i64 nx, Value.int IntKind.i64 ak, Value.slice qa q.length qc, Value.int IntKind.i64 gt, Value.slice oa o.length oc] 32)) 32 0 0 0 (.slice none 0 0) (.slice none 0 0)
    simpa using this
  have B0 : Below w.heap.size w ((w.alloc (Obj.cells #[Value.int IntKind.i64 nx, Value.int IntKind.i64 ak, Value.slice qa q.length qc, Value.int IntKind.i64 gt, Value.slice oa o.length oc] 32)).alloc (Obj.cells #[Value.int IntKind.i64 0, Value.int IntKind.i64 0, Value.slice none 0 0, Value.int IntKind.i64 0, Value.slice none 0 0] 32)) := ((Below.refl _ _).alloc (Nat.le_refl _) _).alloc (by simp) _
  have Z0 : ((w.alloc (Obj.cells #[Value.int IntKind.i64 nx, Value.int IntKind.i64 ak, Value.slice qa q.length qc, Value.int IntKind.i64 gt, Value.slice oa o.length oc] 32)).alloc (Obj.cells #[Value.int IntKind.i64 0, Value.int IntKind.i64 0, Value.slice none 0 0, Value.int IntKind.i64 0, Value.slice none 0 0] 32)).heap.size = w.heap.size + 2 := by simp
  generalize ((w.alloc (Obj.cells #[Value.int IntKind.i64 nx, Value.int IntKind.i64 ak, Value.slice qa q.length qc, Value.int IntKind.i64 gt, Value.slice oa o.length oc] 32)).alloc (Obj.cells #[Value.int IntKind.i64 0, Value.int IntKind.i64 0, Value.slice none 0 0, Value.int IntKind.i64 0, Value.slice none 0 0] 32)) = W0 at *
  refine (spEndOk_is (e := ⟨nx, ak, q, gt, o⟩) W0 (show EndR _ _ _ from ⟨qa, qc, oa, oc, rfl, HQ.out.stays B0, HO.out.stays B0⟩) lq lo hok).mono ?_
  rintro r w1 ⟨rfl, hb1⟩
  have E1 := E0.below hb1
  have R1 := R0.below hb1
  have B1 := B0.trans (hb1.mono B0.size)
  have Z1 : w.heap.size + 2 ≤ w1.heap.size := by have := hb1.size; omega
  obtain ⟨a0, a1, a2, a3, a4⟩ := E1.cells
  obtain ⟨r0, r1, r2, r3, r4⟩ := R1.cells
  have k0 := R1.frozen 0
  have k1 := R1.frozen 1
  have k2 := R1.frozen 2
  have k3 := R1.frozen 3
  have k4 := R1.frozen 4
  have HR1 : Hid (EndC w1 32 (w.heap.size + 1) 0 0 (.slice none 0 0) 0 (.slice none 0 0)) := R1
  have HB1 : Hid (Below w.heap.size w w1) := B1
  clear E0 R0 B0 E1 R1 B1 hb1
  go_wp2_with fail
  show bodyPost _ _ _ _ _ (fillE w1 (w.heap.size + 1) 0 0 (.slice none 0 0) 0 (.slice none 0 0))
  have K1 := fill_end HR1.out 0 0 0 (.slice none 0 0) (.slice none 0 0)
  have K2 := fill_grown w1 (w.heap.size + 1) 0 0 0 (.slice none 0 0) (.slice none 0 0)
  have HBF := HB1.out.trans (grown_to_below K2 (by omega) HB1.out.size)
  generalize fillE w1 (w.heap.size + 1) 0 0 (.slice none 0 0) 0 (.slice none 0 0) = W4 at *
  obtain ⟨q0, q1, q2, q3, q4⟩ := K1.cells
  refine bodyPost_ret (v := .tuple #[.agg #[.int .i64 0, .int .i64 0, .slice none 0 0, .int .i64 0, .slice none 0 0], .bool false]) (by simp [results, Try.results28, go_sem, q0, q1, q2, q3, q4]) rfl ?_
  exact ⟨rfl, HBF⟩

set_option maxRecDepth 100000 in
set_option maxHeartbeats 2000000 in
theorem spOffer_bad3 (nx ak gt : Int) (qa oa : Option Addr) (qc oc : Nat) (q o : List ByteArray) (s : ByteArray) (w : World) (HQ : Hid (TextsAt w qa q)) (HO : Hid (TextsAt w oa o)) (lq : q.length ≤ 1048576) (lo : o.length ≤ 1048576) (ls : s.size ≤ 1048576) (hok : okB ⟨nx, ak, q, gt, o⟩ = true) (h1 : ¬ 60 < s.size) (h2 : q.length < 30) (h3 : ¬ ak + (q.length : Int) < 1000) :
    Calls Try.prog 28 #[.agg #[.int .i64 nx, .int .i64 ak, .slice qa q.length qc, .int .i64 gt, .slice oa o.length oc], .string s] w fun r w' => r = .returned (.tuple #[.agg #[.int .i64 0, .int .i64 0, .slice none 0 0, .int .i64 0, .slice none 0 0], .bool false]) ∧ Below w.heap.size w w' := by
  have hp := okB_true.1 hok
  have pa : 0 ≤ ak := hp.a0
  have pb : ak ≤ 1000 := hp.a1
  have pc : q.length ≤ 30 := hp.q1
  have hd1 : decide (60 < (s.size : Int)) = false := by simp; omega
  have hd2 : decide (30 ≤ (q.length : Int)) = false := by simp; omega
  have hd2b : ¬ (q.length : Int) = 30 := by omega
  have hd2c : ¬ q.length = 30 := by omega
  have hw : IntKind.i64.wrap (ak + (q.length : Int)) = ak + (q.length : Int) := by rw [IntKind.wrap_i64]; omega
  have hd3 : decide (1000 ≤ ak + (q.length : Int)) = true := by simp; omega
  go_enter Try.func28, Try.ntmps28
  go_wp2_with fail
  have E0 : EndC ((w.alloc (Obj.cells #[Value.int IntKind.i64 nx, Value.int IntKind.i64 ak, Value.slice qa q.length qc, Value.int IntKind.i64 gt, Value.slice oa o.length oc] 32)).alloc (Obj.cells #[Value.int IntKind.i64 0, Value.int IntKind.i64 0, Value.slice none 0 0, Value.int IntKind.i64 0, Value.slice none 0 0] 32)) 32 w.heap.size nx ak (.slice qa q.length qc) gt (.slice oa o.length oc) := (EndC.new w 32 nx ak gt _ _).below ((Below.refl _ _).alloc (Nat.le_refl _) _)
  have R0 : EndC ((w.alloc (Obj.cells #[Value.int IntKind.i64 nx, Value.int IntKind.i64 ak, Value.slice qa q.length qc, Value.int IntKind.i64 gt, Value.slice oa o.length oc] 32)).alloc (Obj.cells #[Value.int IntKind.i64 0, Value.int IntKind.i64 0, Value.slice none 0 0, Value.int IntKind.i64 0, Value.slice none 0 0] 32)) 32 (w.heap.size + 1) 0 0 (.slice none 0 0) 0 (.slice none 0 0) := by
    have := EndC.new (w.alloc (Obj.cells #[Value.int IntKind.i64 nx, Value.int IntKind.i64 ak, Value.slice qa q.length qc, Value.int IntKind.i64 gt, Value.slice oa o.length oc] 32)) 32 0 0 0 (.slice none 0 0) (.slice none 0 0)
    simpa using this
  have B0 : Below w.heap.size w ((w.alloc (Obj.cells #[Value.int IntKind.i64 nx, Value.int IntKind.i64 ak, Value.slice qa q.length qc, Value.int IntKind.i64 gt, Value.slice oa o.length oc] 32)).alloc (Obj.cells #[Value.int IntKind.i64 0, Value.int IntKind.i64 0, Value.slice none 0 0, Value.int IntKind.i64 0, Value.slice none 0 0] 32)) := ((Below.refl _ _).alloc (Nat.le_refl _) _).alloc (by simp) _
  have Z0 : ((w.alloc (Obj.cells #[Value.int IntKind.i64 nx, Value.int IntKind.i64 ak, Value.slice qa q.length qc, Value.int IntKind.i64 gt, Value.slice oa o.length oc] 32)).alloc (Obj.cells #[Value.int IntKind.i64 0, Value.int IntKind.i64 0, Value.slice none 0 0, Value.int IntKind.i64 0, Value.slice none 0 0] 32)).heap.size = w.heap.size + 2 := by simp
  generalize ((w.alloc (Obj.cells #[Value.int IntKind.i64 nx, Value.int IntKind.i64 ak, Value.slice qa q.length qc, Value.int IntKind.i64 gt, Value.slice oa o.length oc] 32)).alloc (Obj.cells #[Value.int IntKind.i64 0, Value.int IntKind.i64 0, Value.slice none 0 0, Value.int IntKind.i64 0, Value.slice none 0 0] 32)) = W0 at *
  refine (spEndOk_is (e := ⟨nx, ak, q, gt, o⟩) W0 (show EndR _ _ _ from ⟨qa, qc, oa, oc, rfl, HQ.out.stays B0, HO.out.stays B0⟩) lq lo hok).mono ?_
  rintro r w1 ⟨rfl, hb1⟩
  have E1 := E0.below hb1
  have R1 := R0.below hb1
  have B1 := B0.trans (hb1.mono B0.size)
  have Z1 : w.heap.size + 2 ≤ w1.heap.size := by have := hb1.size; omega
  obtain ⟨a0, a1, a2, a3, a4⟩ := E1.cells
  obtain ⟨r0, r1, r2, r3, r4⟩ := R1.cells
  have k0 := R1.frozen 0
  have k1 := R1.frozen 1
  have k2 := R1.frozen 2
  have k3 := R1.frozen 3
  have k4 := R1.frozen 4
  have HR1 : Hid (EndC w1 32 (w.heap.size + 1) 0 0 (.slice none 0 0) 0 (.slice none 0 0)) := R1
  have HB1 : Hid (Below w.heap.size w w1) := B1
  clear E0 R0 B0 E1 R1 B1 hb1
  go_wp2_with fail
  show bodyPost _ _ _ _ _ (fillE w1 (w.heap.size + 1) 0 0 (.slice none 0 0) 0 (.slice none 0 0))
  have K1 := fill_end HR1.out 0 0 0 (.slice none 0 0) (.slice none 0 0)
  have K2 := fill_grown w1 (w.heap.size + 1) 0 0 0 (.slice none 0 0) (.slice none 0 0)
  have HBF := HB1.out.trans (grown_to_below K2 (by omega) HB1.out.size)
  generalize fillE w1 (w.heap.size + 1) 0 0 (.slice none 0 0) 0 (.slice none 0 0) = W4 at *
  obtain ⟨q0, q1, q2, q3, q4⟩ := K1.cells
  refine bodyPost_ret (v := .tuple #[.agg #[.int .i64 0, .int .i64 0, .slice none 0 0, .int .i64 0, .slice none 0 0], .bool false]) (by simp [results, Try.results28, go_sem, q0, q1, q2, q3, q4]) rfl ?_
  exact ⟨rfl, HBF⟩

set_option maxRecDepth 100000 in
set_option maxHeartbeats 4000000 in
theorem spOffer_good (nx ak gt : Int) (qa oa : Option Addr) (qc oc : Nat) (q o : List ByteArray) (s : ByteArray) (w : World) (HQ : Hid (TextsAt w qa q)) (HO : Hid (TextsAt w oa o)) (lq : q.length ≤ 1048576) (lo : o.length ≤ 1048576) (ls : s.size ≤ 1048576) (hok : okB ⟨nx, ak, q, gt, o⟩ = true) (h1 : ¬ 60 < s.size) (h2 : q.length < 30) (h3 : ak + (q.length : Int) < 1000) :
    Calls Try.prog 28 #[.agg #[.int .i64 nx, .int .i64 ak, .slice qa q.length qc, .int .i64 gt, .slice oa o.length oc], .string s] w fun r w' => ∃ v', r = .returned (.tuple #[v', .bool true]) ∧ EndM w' w.heap.size v' ⟨nx, ak, q ++ [s], gt, o⟩ ∧ Below w.heap.size w w' := by
  have hp := okB_true.1 hok
  have pa : 0 ≤ ak := hp.a0
  have pb : ak ≤ 1000 := hp.a1
  have pc : q.length ≤ 30 := hp.q1
  have hd1 : decide (60 < (s.size : Int)) = false := by simp; omega
  have hd2 : decide (30 ≤ (q.length : Int)) = false := by simp; omega
  have hd2b : ¬ (q.length : Int) = 30 := by omega
  have hd2c : ¬ q.length = 30 := by omega
  have hw : IntKind.i64.wrap (ak + (q.length : Int)) = ak + (q.length : Int) := by rw [IntKind.wrap_i64]; omega
  have hd3 : decide (1000 ≤ ak + (q.length : Int)) = false := by simp; omega
  go_enter Try.func28, Try.ntmps28
  go_wp2_with fail
  have E0 : EndC ((w.alloc (Obj.cells #[Value.int IntKind.i64 nx, Value.int IntKind.i64 ak, Value.slice qa q.length qc, Value.int IntKind.i64 gt, Value.slice oa o.length oc] 32)).alloc (Obj.cells #[Value.int IntKind.i64 0, Value.int IntKind.i64 0, Value.slice none 0 0, Value.int IntKind.i64 0, Value.slice none 0 0] 32)) 32 w.heap.size nx ak (.slice qa q.length qc) gt (.slice oa o.length oc) := (EndC.new w 32 nx ak gt _ _).below ((Below.refl _ _).alloc (Nat.le_refl _) _)
  have R0 : EndC ((w.alloc (Obj.cells #[Value.int IntKind.i64 nx, Value.int IntKind.i64 ak, Value.slice qa q.length qc, Value.int IntKind.i64 gt, Value.slice oa o.length oc] 32)).alloc (Obj.cells #[Value.int IntKind.i64 0, Value.int IntKind.i64 0, Value.slice none 0 0, Value.int IntKind.i64 0, Value.slice none 0 0] 32)) 32 (w.heap.size + 1) 0 0 (.slice none 0 0) 0 (.slice none 0 0) := by
    have := EndC.new (w.alloc (Obj.cells #[Value.int IntKind.i64 nx, Value.int IntKind.i64 ak, Value.slice qa q.length qc, Value.int IntKind.i64 gt, Value.slice oa o.length oc] 32)) 32 0 0 0 (.slice none 0 0) (.slice none 0 0)
    simpa using this
  have B0 : Below w.heap.size w ((w.alloc (Obj.cells #[Value.int IntKind.i64 nx, Value.int IntKind.i64 ak, Value.slice qa q.length qc, Value.int IntKind.i64 gt, Value.slice oa o.length oc] 32)).alloc (Obj.cells #[Value.int IntKind.i64 0, Value.int IntKind.i64 0, Value.slice none 0 0, Value.int IntKind.i64 0, Value.slice none 0 0] 32)) := ((Below.refl _ _).alloc (Nat.le_refl _) _).alloc (by simp) _
  have Z0 : ((w.alloc (Obj.cells #[Value.int IntKind.i64 nx, Value.int IntKind.i64 ak, Value.slice qa q.length qc, Value.int IntKind.i64 gt, Value.slice oa o.length oc] 32)).alloc (Obj.cells #[Value.int IntKind.i64 0, Value.int IntKind.i64 0, Value.slice none 0 0, Value.int IntKind.i64 0, Value.slice none 0 0] 32)).heap.size = w.heap.size + 2 := by simp
  generalize ((w.alloc (Obj.cells #[Value.int IntKind.i64 nx, Value.int IntKind.i64 ak, Value.slice qa q.length qc, Value.int IntKind.i64 gt, Value.slice oa o.length oc] 32)).alloc (Obj.cells #[Value.int IntKind.i64 0, Value.int IntKind.i64 0, Value.slice none 0 0, Value.int IntKind.i64 0, Value.slice none 0 0] 32)) = W0 at *
  refine (spEndOk_is (e := ⟨nx, ak, q, gt, o⟩) W0 (show EndR _ _ _ from ⟨qa, qc, oa, oc, rfl, HQ.out.stays B0, HO.out.stays B0⟩) lq lo hok).mono ?_
  rintro r w1 ⟨rfl, hb1⟩
  have E1 := E0.below hb1
  have R1 := R0.below hb1
  have B1 := B0.trans (hb1.mono B0.size)
  have Z1 : w.heap.size + 2 ≤ w1.heap.size := by have := hb1.size; omega
  obtain ⟨a0, a1, a2, a3, a4⟩ := E1.cells
  have HE1 : Hid (EndC w1 32 w.heap.size nx ak (.slice qa q.length qc) gt (.slice oa o.length oc)) := E1
  have HR1 : Hid (EndC w1 32 (w.heap.size + 1) 0 0 (.slice none 0 0) 0 (.slice none 0 0)) := R1
  have HB1 : Hid (Below w.heap.size w w1) := B1
  clear E0 R0 B0 E1 R1 B1 hb1
  go_wp2_with fail
  clear hd1 hd2 hd2b hd2c hw hd3 hok h1 h3
  refine (spCopy_any (e := ⟨nx, ak, q, gt, o⟩) w1 (show EndR _ _ _ from ⟨qa, qc, oa, oc, rfl, HQ.out.stays HB1.out, HO.out.stays HB1.out⟩) lq lo).mono ?_
  rintro r w2 ⟨v2, rfl, M2, hb2⟩
  obtain ⟨qv, ov, rfl, s1, s2, dj⟩ := M2
  dsimp only at *
  obtain ⟨va, vc, rfl⟩ := Sl.form s1
  obtain ⟨ua, uc, rfl⟩ := Sl.form s2
  have R2 : EndC w2 32 (w.heap.size + 1) 0 0 (.slice none 0 0) 0 (.slice none 0 0) := HR1.out.below hb2
  have HB2 : Below w.heap.size w w2 := HB1.out.trans (hb2.mono HB1.out.size)
  have hz2 : w1.heap.size ≤ w2.heap.size := hb2.size
  clear a0 a1 a2 a3 a4 HE1 HR1 HB1 hb2
  have hb3 : Below w2.heap.size w2 (w2.alloc (Obj.cells #[Value.int IntKind.i64 nx, Value.int IntKind.i64 ak, Value.slice va q.length vc, Value.int IntKind.i64 gt, Value.slice ua o.length uc] 32)) := (Below.refl _ _).alloc (Nat.le_refl _) _
  have X3 : Hid (EndC (w2.alloc (Obj.cells #[Value.int IntKind.i64 nx, Value.int IntKind.i64 ak, Value.slice va q.length vc, Value.int IntKind.i64 gt, Value.slice ua o.length uc] 32)) 32 w2.heap.size nx ak (.slice va q.length vc) gt (.slice ua o.length uc)) := EndC.new w2 32 nx ak gt _ _
  have R3 : Hid (EndC (w2.alloc (Obj.cells #[Value.int IntKind.i64 nx, Value.int IntKind.i64 ak, Value.slice va q.length vc, Value.int IntKind.i64 gt, Value.slice ua o.length uc] 32)) 32 (w.heap.size + 1) 0 0 (.slice none 0 0) 0 (.slice none 0 0)) := R2.below hb3
  have S3 : Hid (SlT (w2.alloc (Obj.cells #[Value.int IntKind.i64 nx, Value.int IntKind.i64 ak, Value.slice va q.length vc, Value.int IntKind.i64 gt, Value.slice ua o.length uc] 32)) w1.heap.size (.slice va q.length vc) q) := Sl.below s1 hb3
  have U3 : Hid (SlT (w2.alloc (Obj.cells #[Value.int IntKind.i64 nx, Value.int IntKind.i64 ak, Value.slice va q.length vc, Value.int IntKind.i64 gt, Value.slice ua o.length uc] 32)) w1.heap.size (.slice ua o.length uc) o) := Sl.below s2 hb3
  have B3 : Hid (Below w.heap.size w (w2.alloc (Obj.cells #[Value.int IntKind.i64 nx, Value.int IntKind.i64 ak, Value.slice va q.length vc, Value.int IntKind.i64 gt, Value.slice ua o.length uc] 32))) := HB2.trans (hb3.mono HB2.size)
  have LS : Hid (∀ k, (Value.slice va q.length vc).ownBlock = some k → w1.heap.size ≤ k ∧ k < w2.heap.size) := fun k hk => Sl.lt s1 k hk
  have LU : Hid (∀ k, (Value.slice ua o.length uc).ownBlock = some k → w1.heap.size ≤ k ∧ k < w2.heap.size) := fun k hk => Sl.lt s2 k hk
  have DJ : Hid (Dj (.slice va q.length vc) (.slice ua o.length uc)) := dj
  clear s1 s2 hb3 R2 HB2 dj
  go_wp2_with (at_builtin; refine Stop.mk ?_)
  refine Stop.go ?_
  have Z3 : (w2.alloc (Obj.cells #[Value.int IntKind.i64 nx, Value.int IntKind.i64 ak, Value.slice va q.length vc, Value.int IntKind.i64 gt, Value.slice ua o.length uc] 32)).heap.size = w2.heap.size + 1 := by simp
  generalize (w2.alloc (Obj.cells #[Value.int IntKind.i64 nx, Value.int IntKind.i64 ak, Value.slice va q.length vc, Value.int IntKind.i64 gt, Value.slice ua o.length uc] 32)) = W3 at *
  refine wpList_pushT rfl _ _ 24 rfl Try.underlying24 Try.info9 (by rfl) S3.out s Z3 (by rfl) (by omega) (by omega) ?_
  intro v4 w4 S4 G4 Z4 L4
  obtain ⟨xa, xc, rfl⟩ := Sl.form S4
  generalize (q ++ [s]).length = N at *
  have X4 := EndC.kept X3.out G4 (fun he => by have := (LS.out _ he.symm).2; omega)
  have R4 := EndC.kept R3.out G4 (fun he => by have := (LS.out _ he.symm).1; omega)
  have U4 : SlT w4 w1.heap.size (.slice ua o.length uc) o := Sl.kept U3.out G4 (fun k hk he => DJ.out k he.symm hk)
  have D4 : Hid (Dj (.slice xa N xc) (.slice ua o.length uc)) := fun k h1 h2 => by
    rcases L4 with hl | hl
    · rw [hl] at h1; exact DJ.out k h1 h2
    · rw [hl] at h1; have := (LU.out k h2).2; simp at h1; omega
  have hN1 : (Value.slice xa N xc).ownBlock ≠ some w2.heap.size := fun he => by
    rcases L4 with hl | hl
    · rw [hl] at he; have := (LS.out _ he).2; omega
    · rw [hl] at he; simp at he; omega
  have hN2 : (Value.slice ua o.length uc).ownBlock ≠ some w2.heap.size := fun he => by have := (LU.out _ he).2; omega
  have B4 : Below w.heap.size w w4 := by
    refine B3.out.trans ⟨G4.os, G4.tape, G4.output, G4.size, fun k hk => G4.block k (by have := B3.out.size; omega) (fun he => ?_)⟩
    have := (LS.out _ he.symm).1
    omega
  have c2 := X4.cells.2.2.1
  have f2 := X4.frozen 2
  have X5 : EndC (w4.setCell ⟨w2.heap.size, 2, none⟩ (.slice xa N xc)) 32 w2.heap.size nx ak (.slice xa N xc) gt (.slice ua o.length uc) := X4.set2 _
  have R5 : EndC (w4.setCell ⟨w2.heap.size, 2, none⟩ (.slice xa N xc)) 32 (w.heap.size + 1) 0 0 (.slice none 0 0) 0 (.slice none 0 0) := R4.other (by omega)
  have S5 : Hid (SlT (w4.setCell ⟨w2.heap.size, 2, none⟩ (.slice xa N xc)) w1.heap.size (.slice xa N xc) (q ++ [s])) := slt_other S4 hN1
  have U5 : Hid (SlT (w4.setCell ⟨w2.heap.size, 2, none⟩ (.slice xa N xc)) w1.heap.size (.slice ua o.length uc) o) := slt_other U4 hN2
  have B5 : Hid (Below w.heap.size w (w4.setCell ⟨w2.heap.size, 2, none⟩ (.slice xa N xc))) := B4.setCell (by simp; omega) _
  obtain ⟨h0, h1, h2, h3, h4⟩ := X5.cells
  obtain ⟨r0, r1, r2, r3, r4⟩ := R5.cells
  have k0 := R5.frozen 0
  have k1 := R5.frozen 1
  have k2 := R5.frozen 2
  have k3 := R5.frozen 3
  have k4 := R5.frozen 4
  have HR5 : Hid (EndC (w4.setCell ⟨w2.heap.size, 2, none⟩ (.slice xa N xc)) 32 (w.heap.size + 1) 0 0 (.slice none 0 0) 0 (.slice none 0 0)) := R5
  clear X3 R3 S3 U3 B3 G4 X4 R4 U4 B4 S4 X5 R5 L4 DJ
  go_wp2_with fail
  show bodyPost _ _ _ _ _ (fillE (w4.setCell ⟨w2.heap.size, 2, none⟩ (.slice xa N xc)) (w.heap.size + 1) nx ak (.slice xa N xc) gt (.slice ua o.length uc))
  have K1 := fill_end HR5.out nx ak gt (.slice xa N xc) (.slice ua o.length uc)
  have K2 := fill_grown (w4.setCell ⟨w2.heap.size, 2, none⟩ (.slice xa N xc)) (w.heap.size + 1) nx ak gt (.slice xa N xc) (.slice ua o.length uc)
  have T1 := slt_grown S5.out K2 (ne_low S5.out (by omega))
  have T2 := slt_grown U5.out K2 (ne_low U5.out (by omega))
  have HBF := B5.out.trans (grown_to_below K2 (by omega) B5.out.size)
  generalize fillE (w4.setCell ⟨w2.heap.size, 2, none⟩ (.slice xa N xc)) (w.heap.size + 1) nx ak (.slice xa N xc) gt (.slice ua o.length uc) = W6 at *
  obtain ⟨q0, q1, q2, q3, q4⟩ := K1.cells
  refine bodyPost_ret (v := .tuple #[.agg #[.int .i64 nx, .int .i64 ak, .slice xa N xc, .int .i64 gt, .slice ua o.length uc], .bool true]) (by simp [results, Try.results28, go_sem, q0, q1, q2, q3, q4]) rfl ?_
  exact ⟨_, rfl, ⟨_, _, rfl, Sl.down T1 (by omega), Sl.down T2 (by omega), D4.out⟩, HBF⟩

theorem spOffer_any {v : Value} {e : En} (s : ByteArray) (w : World) (h : EndR w v e) (lq : e.q.length ≤ 1048576) (lo : e.o.length ≤ 1048576) (ls : s.size ≤ 1048576) :
    Calls Try.prog 28 #[v, .string s] w fun r w' => ∃ v', r = .returned (.tuple #[v', .bool (offB e s)]) ∧ EndM w' w.heap.size v' (if offB e s then offE e s else noE) ∧ Below w.heap.size w w' := by
  obtain ⟨nx, ak, q, gt, o⟩ := e
  obtain ⟨qa, qc, oa, oc, rfl, hq, ho⟩ := h
  dsimp only at *
  have key : ∀ b, offB ⟨nx, ak, q, gt, o⟩ s = false → (Calls Try.prog 28 #[.agg #[.int .i64 nx, .int .i64 ak, .slice qa q.length qc, .int .i64 gt, .slice oa o.length oc], .string s] w fun r w' => r = .returned (.tuple #[.agg #[.int .i64 0, .int .i64 0, .slice none 0 0, .int .i64 0, .slice none 0 0], .bool false]) ∧ Below w.heap.size w w') → b = () →
      Calls Try.prog 28 #[.agg #[.int .i64 nx, .int .i64 ak, .slice qa q.length qc, .int .i64 gt, .slice oa o.length oc], .string s] w fun r w' => ∃ v', r = .returned (.tuple #[v', .bool (offB ⟨nx, ak, q, gt, o⟩ s)]) ∧ EndM w' w.heap.size v' (if offB ⟨nx, ak, q, gt, o⟩ s then offE ⟨nx, ak, q, gt, o⟩ s else noE) ∧ Below w.heap.size w w' := by
    intro _ hb hc _
    rw [hb]
    exact hc.mono fun r w' ⟨h1, h2⟩ => ⟨_, h1, ⟨_, _, rfl, Sl.zero _ _ _ _, Sl.zero _ _ _ _, fun k hk => by simp [Value.ownBlock] at hk⟩, h2⟩
  cases hok : okB ⟨nx, ak, q, gt, o⟩ with
  | false => exact key () (by simp [offB, hok]) (spOffer_bad0 nx ak gt qa oa qc oc q o s w hq ho lq lo ls hok) rfl
  | true =>
    by_cases h1 : 60 < s.size
    · exact key () (by simp [offB, hok]; omega) (spOffer_bad1 nx ak gt qa oa qc oc q o s w hq ho lq lo ls hok h1) rfl
    by_cases h2 : q.length < 30
    · by_cases h3 : ak + (q.length : Int) < 1000
      · have hb : offB ⟨nx, ak, q, gt, o⟩ s = true := by simp [offB, hok]; omega
        rw [hb]
        exact spOffer_good nx ak gt qa oa qc oc q o s w hq ho lq lo ls hok h1 h2 h3
      · exact key () (by simp [offB, hok]; omega) (spOffer_bad3 nx ak gt qa oa qc oc q o s w hq ho lq lo ls hok h1 h2 h3) rfl
    · exact key () (by simp [offB, hok]; omega) (spOffer_bad2 nx ak gt qa oa qc oc q o s w hq ho lq lo ls hok h1 h2) rfl
end Go.Proofs.Ytohagaelenhebaa
