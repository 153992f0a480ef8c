/- The walks over the program's Offer. -/
import Derived.Test.YtohagaelenhebaaP2
namespace Go.Proofs.Ytohagaelenhebaa
open Go.RowKit Pl
set_option linter.unusedVariables false

set_option maxRecDepth 100000 in
set_option maxHeartbeats 2000000 in
theorem offer_bad0 (nx ak gt : Int) (qa oa : Option Addr) (qc oc : Nat) (q o : List ByteArray) (s : ByteArray) (w : World) (HQ : Hid (TextsAt w qa q)) (HO : Hid (TextsAt w oa o)) (lq : q.length ≤ 1048576) (lo : o.length ≤ 1048576) (ls : s.size ≤ 1048576) (hok : okB ⟨nx, ak, q, gt, o⟩ = false)  :
    Calls Try.prog 17 #[.agg #[.int .i64 nx, .int .i64 ak, .slice qa q.length qc, .int .i64 gt, .slice oa o.length oc], .string s] w fun r w' => r = .returned (.tuple #[.agg #[.int .i64 0, .int .i64 0, .slice none 0 0, .int .i64 0, .slice none 0 0], .bool false]) ∧ Below w.heap.size w w' := by
  go_enter Try.func17, Try.ntmps17
  go_wp2_with fail
  have E0 : EndC ((w.alloc (Obj.cells #[Value.int IntKind.i64 nx, Value.int IntKind.i64 ak, Value.slice qa q.length qc, Value.int IntKind.i64 gt, Value.slice oa o.length oc] 32)).alloc (Obj.cells #[Value.int IntKind.i64 0, Value.int IntKind.i64 0, Value.slice none 0 0, Value.int IntKind.i64 0, Value.slice none 0 0] 32)) 32 w.heap.size nx ak (.slice qa q.length qc) gt (.slice oa o.length oc) := (EndC.new w 32 nx ak gt _ _).below ((Below.refl _ _).alloc (Nat.le_refl _) _)
  have R0 : EndC ((w.alloc (Obj.cells #[Value.int IntKind.i64 nx, Value.int IntKind.i64 ak, Value.slice qa q.length qc, Value.int IntKind.i64 gt, Value.slice oa o.length oc] 32)).alloc (Obj.cells #[Value.int IntKind.i64 0, Value.int IntKind.i64 0, Value.slice none 0 0, Value.int IntKind.i64 0, Value.slice none 0 0] 32)) 32 (w.heap.size + 1) 0 0 (.slice none 0 0) 0 (.slice none 0 0) := by
    have := EndC.new (w.alloc (Obj.cells #[Value.int IntKind.i64 nx, Value.int IntKind.i64 ak, Value.slice qa q.length qc, Value.int IntKind.i64 gt, Value.slice oa o.length oc] 32)) 32 0 0 0 (.slice none 0 0) (.slice none 0 0)
    simpa using this
  have B0 : Below w.heap.size w ((w.alloc (Obj.cells #[Value.int IntKind.i64 nx, Value.int IntKind.i64 ak, Value.slice qa q.length qc, Value.int IntKind.i64 gt, Value.slice oa o.length oc] 32)).alloc (Obj.cells #[Value.int IntKind.i64 0, Value.int IntKind.i64 0, Value.slice none 0 0, Value.int IntKind.i64 0, Value.slice none 0 0] 32)) := ((Below.refl _ _).alloc (Nat.le_refl _) _).alloc (by simp) _
  have Z0 : ((w.alloc (Obj.cells #[Value.int IntKind.i64 nx, Value.int IntKind.i64 ak, Value.slice qa q.length qc, Value.int IntKind.i64 gt, Value.slice oa o.length oc] 32)).alloc (Obj.cells #[Value.int IntKind.i64 0, Value.int IntKind.i64 0, Value.slice none 0 0, Value.int IntKind.i64 0, Value.slice none 0 0] 32)).heap.size = w.heap.size + 2 := by simp
  generalize ((w.alloc (Obj.cells #[Value.int IntKind.i64 nx, Value.int IntKind.i64 ak, Value.slice qa q.length qc, Value.int IntKind.i64 gt, Value.slice oa o.length oc] 32)).alloc (Obj.cells #[Value.int IntKind.i64 0, Value.int IntKind.i64 0, Value.slice none 0 0, Value.int IntKind.i64 0, Value.slice none 0 0] 32)) = W0 at *
  refine (endOk_is (e := ⟨nx, ak, q, gt, o⟩) W0 (show EndR _ _ _ from ⟨qa, qc, oa, oc, rfl, HQ.out.stays B0, HO.out.stays B0⟩) lq lo hok).mono ?_
  rintro r w1 ⟨rfl, hb1⟩
  have E1 := E0.below hb1
  have R1 := R0.below hb1
  have B1 := B0.trans (hb1.mono B0.size)
  have Z1 : w.heap.size + 2 ≤ w1.heap.size := by have := hb1.size; omega
  obtain ⟨a0, a1, a2, a3, a4⟩ := E1.cells
  obtain ⟨r0, r1, r2, r3, r4⟩ := R1.cells
  have k0 := R1.frozen 0
  have k1 := R1.frozen 1
  have k2 := R1.frozen 2
  have k3 := R1.frozen 3
  have k4 := R1.frozen 4
  have HR1 : Hid (EndC w1 32 (w.heap.size + 1) 0 0 (.slice none 0 0) 0 (.slice none 0 0)) := R1
  have HB1 : Hid (Below w.heap.size w w1) := B1
  clear E0 R0 B0 E1 R1 B1 hb1
  go_wp2_with fail
  show bodyPost _ _ _ _ _ (fillE w1 (w.heap.size + 1) 0 0 (.slice none 0 0) 0 (.slice none 0 0))
  have K1 := fill_end HR1.out 0 0 0 (.slice none 0 0) (.slice none 0 0)
  have K2 := fill_grown w1 (w.heap.size + 1) 0 0 0 (.slice none 0 0) (.slice none 0 0)
  have HBF := HB1.out.trans (grown_to_below K2 (by omega) HB1.out.size)
  generalize fillE w1 (w.heap.size + 1) 0 0 (.slice none 0 0) 0 (.slice none 0 0) = W4 at *
  obtain ⟨q0, q1, q2, q3, q4⟩ := K1.cells
  refine bodyPost_ret (v := .tuple #[.agg #[.int .i64 0, .int .i64 0, .slice none 0 0, .int .i64 0, .slice none 0 0], .bool false]) (by simp [results, Try.results17, go_sem, q0, q1, q2, q3, q4]) rfl ?_
  exact ⟨rfl, HBF⟩

set_option maxRecDepth 100000 in
set_option maxHeartbeats 2000000 in
theorem offer_bad1 (nx ak gt : Int) (qa oa : Option Addr) (qc oc : Nat) (q o : List ByteArray) (s : ByteArray) (w : World) (HQ : Hid (TextsAt w qa q)) (HO : Hid (TextsAt w oa o)) (lq : q.length ≤ 1048576) (lo : o.length ≤ 1048576) (ls : s.size ≤ 1048576) (hok : okB ⟨nx, ak, q, gt, o⟩ = true) (h1 : 60 < s.size) :
    Calls Try.prog 17 #[.agg #[.int .i64 nx, .int .i64 ak, .slice qa q.length qc, .int .i64 gt, .slice oa o.length oc], .string s] w fun r w' => r = .returned (.tuple #[.agg #[.int .i64 0, .int .i64 0, .slice none 0 0, .int .i64 0, .slice none 0 0], .bool false]) ∧ Below w.heap.size w w' := by
  have hp := okB_true.1 hok
  have pa : 0 ≤ ak := hp.a0
  have pb : ak ≤ 1000 := hp.a1
  have pc : q.length ≤ 30 := hp.q1
  have hd1 : decide (60 < (s.size : Int)) = true := by simp; omega
  go_enter Try.func17, Try.ntmps17
  go_wp2_with fail
  have E0 : EndC ((w.alloc (Obj.cells #[Value.int IntKind.i64 nx, Value.int IntKind.i64 ak, Value.slice qa q.length qc, Value.int IntKind.i64 gt, Value.slice oa o.length oc] 32)).alloc (Obj.cells #[Value.int IntKind.i64 0, Value.int IntKind.i64 0, Value.slice none 0 0, Value.int IntKind.i64 0, Value.slice none 0 0] 32)) 32 w.heap.size nx ak (.slice qa q.length qc) gt (.slice oa o.length oc) := (EndC.new w 32 nx ak gt _ _).below ((Below.refl _ _).alloc (Nat.le_refl _) _)
  have R0 : EndC ((w.alloc (Obj.cells #[Value.int IntKind.i64 nx, Value.int IntKind.i64 ak, Value.slice qa q.length qc, Value.int IntKind.i64 gt, Value.slice oa o.length oc] 32)).alloc (Obj.cells #[Value.int IntKind.i64 0, Value.int IntKind.i64 0, Value.slice none 0 0, Value.int IntKind.i64 0, Value.slice none 0 0] 32)) 32 (w.heap.size + 1) 0 0 (.slice none 0 0) 0 (.slice none 0 0) := by
    have := EndC.new (w.alloc (Obj.cells #[Value.int IntKind.i64 nx, Value.int IntKind.i64 ak, Value.slice qa q.length qc, Value.int IntKind.i64 gt, Value.slice oa o.length oc] 32)) 32 0 0 0 (.slice none 0 0) (.slice none 0 0)
    simpa using this
  have B0 : Below w.heap.size w ((w.alloc (Obj.cells #[Value.int IntKind.i64 nx, Value.int IntKind.i64 ak, Value.slice qa q.length qc, Value.int IntKind.i64 gt, Value.slice oa o.length oc] 32)).alloc (Obj.cells #[Value.int IntKind.i64 0, Value.int IntKind.i64 0, Value.slice none 0 0, Value.int IntKind.i64 0, Value.slice none 0 0] 32)) := ((Below.refl _ _).alloc (Nat.le_refl _) _).alloc (by simp) _
  have Z0 : ((w.alloc (Obj.cells #[Value.int IntKind.i64 nx, Value.int IntKind.i64 ak, Value.slice qa q.length qc, Value.int IntKind.i64 gt, Value.slice oa o.length oc] 32)).alloc (Obj.cells #[Value.int IntKind.i64 0, Value.int IntKind.i64 0, Value.slice none 0 0, Value.int IntKind.i64 0, Value.slice none 0 0] 32)).heap.size = w.heap.size + 2 := by simp
  generalize ((w.alloc (Obj.cells #[Value.int IntKind.i64 nx, Value.int IntKind.i64 ak, Value.slice qa q.length qc, Value.int IntKind.i64 gt, Value.slice oa o.length oc] 32)).alloc (Obj.cells #[Value.int IntKind.i64 0, Value.int IntKind.i64 0, Value.slice none 0 0, Value.int IntKind.i64 0, Value.slice none 0 0] 32)) = W0 at *
  refine (endOk_is (e := ⟨nx, ak, q, gt, o⟩) W0 (show EndR _ _ _ from ⟨qa, qc, oa, oc, rfl, HQ.out.stays B0, HO.out.stays B0⟩) lq lo hok).mono ?_
  rintro r w1 ⟨rfl, hb1⟩
  have E1 := E0.below hb1
  have R1 := R0.below hb1
  have B1 := B0.trans (hb1.mono B0.size)
  have Z1 : w.heap.size + 2 ≤ w1.heap.size := by have := hb1.size; omega
  obtain ⟨a0, a1, a2, a3, a4⟩ := E1.cells
  obtain ⟨r0, r1, r2, r3, r4⟩ := R1.cells
  have k0 := R1.frozen 0
  have k1 := R1.frozen 1
  have k2 := R1.frozen 2
  have k3 := R1.frozen 3
  have k4 := R1.frozen 4
  have HR1 : Hid (EndC w1 32 (w.heap.size + 1) 0 0 (.slice none 0 0) 0 (.slice none 0 0)) := R1
  have HB1 : Hid (Below w.heap.size w w1) := B1
  clear E0 R0 B0 E1 R1 B1 hb1
  go_wp2_with fail
  show bodyPost _ _ _ _ _ (fillE w1 (w.heap.size + 1) 0 0 (.slice none 0 0) 0 (.slice none 0 0))
  have K1 := fill_end HR1.out 0 0 0 (.slice none 0 0) (.slice none 0 0)
  have K2 := fill_grown w1 (w.heap.size + 1) 0 0 0 (.slice none 0 0) (.slice none 0 0)
  have HBF := HB1.out.trans (grown_to_below K2 (by omega) HB1.out.size)
  generalize fillE w1 (w.heap.size + 1) 0 0 (.slice none 0 0) 0 (.slice none 0 0) = W4 at *
  obtain ⟨q0, q1, q2, q3, q4⟩ := K1.cells
  refine bodyPost_ret (v := .tuple #[.agg #[.int .i64 0, .int .i64 0, .slice none 0 0, .int .i64 0, .slice none 0 0], .bool false]) (by simp [results, Try.results17, go_sem, q0, q1, q2, q3, q4]) rfl ?_
  exact ⟨rfl, HBF⟩

set_option maxRecDepth 100000 in
set_option maxHeartbeats 2000000 in
theorem offer_bad2 (nx ak gt : Int) (qa oa : Option Addr) (qc oc : Nat) (q o : List ByteArray) (s : ByteArray) (w : World) (HQ : Hid (TextsAt w qa q)) (HO : Hid (TextsAt w oa o)) (lq : q.length ≤ 1048576) (lo : o.length ≤ 1048576) (ls : s.size ≤ 1048576) (hok : okB ⟨nx, ak, q, gt, o⟩ = true) (h1 : ¬ 60 < s.size) (h2 : ¬ q.length < 30) :
    Calls Try.prog 17 #[.agg #[.int .i64 nx, .int .i64 ak, .slice qa q.length qc, .int .i64 gt, .slice oa o.length oc], .string s] w fun r w' => r = .returned (.tuple #[.agg #[.int .i64 0, .int .i64 0, .slice none 0 0, .int .i64 0, .slice none 0 0], .bool false]) ∧ Below w.heap.size w w' := by
  have hp := okB_true.1 hok
  have pa : 0 ≤ ak := hp.a0
  have pb : ak ≤ 1000 := hp.a1
  have pc : q.length ≤ 30 := hp.q1
  have hd1 : decide (60 < (s.size : Int)) = false := by simp; omega
  have hd2 : decide (30 ≤ (q.length : Int)) = true := by simp; omega
  have hd2b : (q.length : Int) = 30 := by omega
  go_enter Try.func17, Try.ntmps17
  go_wp2_with fail
  have E0 : EndC ((w.alloc (Obj.cells #[Value.int IntKind.i64 nx, Value.int IntKind.i64 ak, Value.slice qa q.length qc, Value.int IntKind.i64 gt, Value.slice oa o.length oc] 32)).alloc (Obj.cells #[Value.int IntKind.i64 0, Value.int IntKind.i64 0, Value.slice none 0 0, Value.int IntKind.i64 0, Value.slice none 0 0] 32)) 32 w.heap.size nx ak (.slice qa q.length qc) gt (.slice oa o.length oc) := (EndC.new w 32 nx ak gt _ _).below ((Below.refl _ _).alloc (Nat.le_refl _) _)
  have R0 : EndC ((w.alloc (Obj.cells #[Value.int IntKind.i64 nx, Value.int IntKind.i64 ak, Value.slice qa q.length qc, Value.int IntKind.i64 gt, Value.slice oa o.length oc] 32)).alloc (Obj.cells #[Value.int IntKind.i64 0, Value.int IntKind.i64 0, Value.slice none 0 0, Value.int IntKind.i64 0, Value.slice none 0 0] 32)) 32 (w.heap.size + 1) 0 0 (.slice none 0 0) 0 (.slice none 0 0) := by
    have := EndC.new (w.alloc (Obj.cells #[Value.int IntKind.i64 nx, Value.int IntKind.i64 ak, Value.slice qa q.length qc, Value.int IntKind.i64 gt, Value.slice oa o.length oc] 32)) 32 0 0 0 (.slice none 0 0) (.slice none 0 0)
    simpa using this
  have B0 : Below w.heap.size w ((w.alloc (Obj.cells #[Value.int IntKind.i64 nx, Value.int IntKind.i64 ak, Value.slice qa q.length qc, Value.int IntKind.i64 gt, Value.slice oa o.length oc] 32)).alloc (Obj.cells #[Value.int IntKind.i64 0, Value.int IntKind.i64 0, Value.slice none 0 0, Value.int IntKind.i64 0, Value.slice none 0 0] 32)) := ((Below.refl _ _).alloc (Nat.le_refl _) _).alloc (by simp) _
  have Z0 : ((w.alloc (Obj.cells #[Value.int IntKind.i64 nx, Value.int IntKind.i64 ak, Value.slice qa q.length qc, Value.int IntKind.i64 gt, Value.slice oa o.length oc] 32)).alloc (Obj.cells #[Value.int IntKind.i64 0, Value.int IntKind.i64 0, Value.slice none 0 0, Value.int IntKind.i64 0, Value.slice none 0 0] 32)).heap.size = w.heap.size + 2 := by simp
  generalize ((w.alloc (Obj.cells #[Value.int IntKind.i64 nx, Value.int IntKind.i64 ak, Value.slice qa q.length qc, Value.int IntKind.i64 gt, Value.slice oa o.length oc] 32)).alloc (Obj.cells #[Value.int IntKind.i64 0, Value.int IntKind.i64 0, Value.slice none 0 0, Value.int IntKind.i64 0, Value.slice none 0 0] 32)) = W0 at *
  refine (endOk_is (e := ⟨nx, ak, q, gt, o⟩) W0 (show EndR _ _ _ from ⟨qa, qc, oa, oc, rfl, HQ.out.stays B0, HO.out.stays B0⟩) lq lo hok).mono ?_
  rintro r w1 ⟨rfl, hb1⟩
  have E1 := E0.below hb1
  have R1 := R0.below hb1
  have B1 := B0.trans (hb1.mono B0.size)
  have Z1 : w.heap.size + 2 ≤ w1.heap.size := by have := hb1.size; omega
  obtain ⟨a0, a1, a2, a3, a4⟩ := E1.cells
  obtain ⟨r0, r1, r2, r3, r4⟩ := R1.cells
  have k0 := R1.frozen 0
  have k1 := R1.frozen 1
  have k2 := R1.frozen 2
  have k3 := R1.frozen 3
  have k4 := R1.frozen 4
  have HR1 : Hid (EndC w1 32 (w.heap.size + 1) 0 0 (.slice none 0 0) 0 (.slice none 0 0)) := R1
  have HB1 : Hid (Below w.heap.size w w1) := B1
  clear E0 R0 B0 E1 R1 B1 hb1
  go_wp2_with fail
  show bodyPost _ _ _ _ _ (fillE w1 (w.heap.size + 1) 0 0 (.slice none 0 0) 0 (.slice none 0 0))
  have K1 := fill_end HR1.out 0 0 0 (.slice none 0 0) (.slice none 0 0)
  have K2 := fill_grown w1 (w.heap.size + 1) 0 0 0 (.slice none 0 0) (.slice none 0 0)
  have HBF := HB1.out.trans (grown_to_below K2 (by omega) HB1.out.size)
  generalize fillE w1 (w.heap.size + 1) 0 0 (.slice none 0 0) 0 (.slice none 0 0) = W4 at *
  obtain ⟨q0, q1, q2, q3, q4⟩ := K1.cells
  refine bodyPost_ret (v := .tuple #[.agg #[.int .i64 0, .int .i64 0, .slice none 0 0, .int .i64 0, .slice none 0 0], .bool false]) (by simp [results, Try.results17, go_sem, q0, q1, q2, q3, q4]) rfl ?_
  exact ⟨rfl, HBF⟩

set_option maxRecDepth 100000 in
set_option maxHeartbeats 2000000 in
theorem offer_bad3 (nx ak gt : Int) (qa oa : Option Addr) (qc oc : Nat) (q o : List ByteArray) (s : ByteArray) (w : World) (HQ : Hid (TextsAt w qa q)) (HO : Hid (TextsAt w oa o)) (lq : q.length ≤ 1048576) (lo : o.length ≤ 1048576) (ls : s.size ≤ 1048576) (hok : okB ⟨nx, ak, q, gt, o⟩ = true) (h1 : ¬ 60 < s.size) (h2 : q.length < 30) (h3 : ¬ ak + (q.length : Int) < 1000) :
    Calls Try.prog 17 #[.agg #[.int .i64 nx, .int .i64 ak, .slice qa q.length qc, .int .i64 gt, .slice oa o.length oc], .string s] w fun r w' => r = .returned (.tuple #[.agg #[.int .i64 0, .int .i64 0, .slice none 0 0, .int .i64 0, .slice none 0 0], .bool false]) ∧ Below w.heap.size w w' := by
  have hp := okB_true.1 hok
  have pa : 0 ≤ ak := hp.a0
  have pb : ak ≤ 1000 := hp.a1
  have pc : q.length ≤ 30 := hp.q1
  have hd1 : decide (60 < (s.size : Int)) = false := by simp; omega
  have hd2 : decide (30 ≤ (q.length : Int)) = false := by simp; omega
  have hd2b : ¬ (q.length : Int) = 30 := by omega
  have hd2c : ¬ q.length = 30 := by omega
  have hw : IntKind.i64.wrap (ak + (q.length : Int)) = ak + (q.length : Int) := by rw [IntKind.wrap_i64]; omega
  have hd3 : decide (1000 ≤ ak + (q.length : Int)) = true := by simp; omega
  go_enter Try.func17, Try.ntmps17
  go_wp2_with fail
  have E0 : EndC ((w.alloc (Obj.cells #[Value.int IntKind.i64 nx, Value.int IntKind.i64 ak, Value.slice qa q.length qc, Value.int IntKind.i64 gt, Value.slice oa o.length oc] 32)).alloc (Obj.cells #[Value.int IntKind.i64 0, Value.int IntKind.i64 0, Value.slice none 0 0, Value.int IntKind.i64 0, Value.slice none 0 0] 32)) 32 w.heap.size nx ak (.slice qa q.length qc) gt (.slice oa o.length oc) := (EndC.new w 32 nx ak gt _ _).below ((Below.refl _ _).alloc (Nat.le_refl _) _)
  have R0 : EndC ((w.alloc (Obj.cells #[Value.int IntKind.i64 nx, Value.int IntKind.i64 ak, Value.slice qa q.length qc, Value.int IntKind.i64 gt, Value.slice oa o.length oc] 32)).alloc (Obj.cells #[Value.int IntKind.i64 0, Value.int IntKind.i64 0, Value.slice none 0 0, Value.int IntKind.i64 0, Value.slice none 0 0] 32)) 32 (w.heap.size + 1) 0 0 (.slice none 0 0) 0 (.slice none 0 0) := by
    have := EndC.new (w.alloc (Obj.cells #[Value.int IntKind.i64 nx, Value.int IntKind.i64 ak, Value.slice qa q.length qc, Value.int IntKind.i64 gt, Value.slice oa o.length oc] 32)) 32 0 0 0 (.slice none 0 0) (.slice none 0 0)
    simpa using this
  have B0 : Below w.heap.size w ((w.alloc (Obj.cells #[Value.int IntKind.i64 nx, Value.int IntKind.i64 ak, Value.slice qa q.length qc, Value.int IntKind.i64 gt, Value.slice oa o.length oc] 32)).alloc (Obj.cells #[Value.int IntKind.i64 0, Value.int IntKind.i64 0, Value.slice none 0 0, Value.int IntKind.i64 0, Value.slice none 0 0] 32)) := ((Below.refl _ _).alloc (Nat.le_refl _) _).alloc (by simp) _
  have Z0 : ((w.alloc (Obj.cells #[Value.int IntKind.i64 nx, Value.int IntKind.i64 ak, Value.slice qa q.length qc, Value.int IntKind.i64 gt, Value.slice oa o.length oc] 32)).alloc (Obj.cells #[Value.int IntKind.i64 0, Value.int IntKind.i64 0, Value.slice none 0 0, Value.int IntKind.i64 0, Value.slice none 0 0] 32)).heap.size = w.heap.size + 2 := by simp
  generalize ((w.alloc (Obj.cells #[Value.int IntKind.i64 nx, Value.int IntKind.i64 ak, Value.slice qa q.length qc, Value.int IntKind.i64 gt, Value.slice oa o.length oc] 32)).alloc (Obj.cells #[Value.int IntKind.i64 0, Value.int IntKind.i64 0, Value.slice none 0 0, Value.int IntKind.i64 0, Value.slice none 0 0] 32)) = W0 at *
  refine (endOk_is (e := ⟨nx, ak, q, gt, o⟩) W0 (show EndR _ _ _ from ⟨qa, qc, oa, oc, rfl, HQ.out.stays B0, HO.out.stays B0⟩) lq lo hok).mono ?_
  rintro r w1 ⟨rfl, hb1⟩
  have E1 := E0.below hb1
  have R1 := R0.below hb1
  have B1 := B0.trans (hb1.mono B0.size)
  have Z1 : w.heap.size + 2 ≤ w1.heap.size := by have := hb1.size; omega
  obtain ⟨a0, a1, a2, a3, a4⟩ := E1.cells
  obtain ⟨r0, r1, r2, r3, r4⟩ := R1.cells
  have k0 := R1.frozen 0
  have k1 := R1.frozen 1
  have k2 := R1.frozen 2
  have k3 := R1.frozen 3
  have k4 := R1.frozen 4
  have HR1 : Hid (EndC w1 32 (w.heap.size + 1) 0 0 (.slice none 0 0) 0 (.slice none 0 0)) := R1
  have HB1 : Hid (Below w.heap.size w w1) := B1
  clear E0 R0 B0 E1 R1 B1 hb1
  go_wp2_with fail
  show bodyPost _ _ _ _ _ (fillE w1 (w.heap.size + 1) 0 0 (.slice none 0 0) 0 (.slice none 0 0))
  have K1 := fill_end HR1.out 0 0 0 (.slice none 0 0) (.slice none 0 0)
  have K2 := fill_grown w1 (w.heap.size + 1) 0 0 0 (.slice none 0 0) (.slice none 0 0)
  have HBF := HB1.out.trans (grown_to_below K2 (by omega) HB1.out.size)
  generalize fillE w1 (w.heap.size + 1) 0 0 (.slice none 0 0) 0 (.slice none 0 0) = W4 at *
  obtain ⟨q0, q1, q2, q3, q4⟩ := K1.cells
  refine bodyPost_ret (v := .tuple #[.agg #[.int .i64 0, .int .i64 0, .slice none 0 0, .int .i64 0, .slice none 0 0], .bool false]) (by simp [results, Try.results17, go_sem, q0, q1, q2, q3, q4]) rfl ?_
  exact ⟨rfl, HBF⟩

set_option maxRecDepth 100000 in
set_option maxHeartbeats 4000000 in
theorem offer_good (nx ak gt : Int) (qa oa : Option Addr) (qc oc : Nat) (q o : List ByteArray) (s : ByteArray) (w : World) (HQ : Hid (TextsAt w qa q)) (HO : Hid (TextsAt w oa o)) (lq : q.length ≤ 1048576) (lo : o.length ≤ 1048576) (ls : s.size ≤ 1048576) (hok : okB ⟨nx, ak, q, gt, o⟩ = true) (h1 : ¬ 60 < s.size) (h2 : q.length < 30) (h3 : ak + (q.length : Int) < 1000) :
    Calls Try.prog 17 #[.agg #[.int .i64 nx, .int .i64 ak, .slice qa q.length qc, .int .i64 gt, .slice oa o.length oc], .string s] w fun r w' => ∃ v', r = .returned (.tuple #[v', .bool true]) ∧ EndM w' w.heap.size v' ⟨nx, ak, q ++ [s], gt, o⟩ ∧ Below w.heap.size w w' := by
  have hp := okB_true.1 hok
  have pa : 0 ≤ ak := hp.a0
  have pb : ak ≤ 1000 := hp.a1
  have pc : q.length ≤ 30 := hp.q1
  have hd1 : decide (60 < (s.size : Int)) = false := by simp; omega
  have hd2 : decide (30 ≤ (q.length : Int)) = false := by simp; omega
  have hd2b : ¬ (q.length : Int) = 30 := by omega
  have hd2c : ¬ q.length = 30 := by omega
  have hw : IntKind.i64.wrap (ak + (q.length : Int)) = ak + (q.length : Int) := by rw [IntKind.wrap_i64]; omega
  have hd3 : decide (1000 ≤ ak + (q.length : Int)) = false := by simp; omega
  go_enter Try.func17, Try.ntmps17
  go_wp2_with fail
  have E0 : EndC ((w.alloc (Obj.cells #[Value.int IntKind.i64 nx, Value.int IntKind.i64 ak, Value.slice qa q.length qc, Value.int IntKind.i64 gt, Value.slice oa o.length oc] 32)).alloc (Obj.cells #[Value.int IntKind.i64 0, Value.int IntKind.i64 0, Value.slice none 0 0, Value.int IntKind.i64 0, Value.slice none 0 0] 32)) 32 w.heap.size nx ak (.slice qa q.length qc) gt (.slice oa o.length oc) := (EndC.new w 32 nx ak gt _ _).below ((Below.refl _ _).alloc (Nat.le_refl _) _)
  have R0 : EndC ((w.alloc (Obj.cells #[Value.int IntKind.i64 nx, Value.int IntKind.i64 ak, Value.slice qa q.length qc, Value.int IntKind.i64 gt, Value.slice oa o.length oc] 32)).alloc (Obj.cells #[Value.int IntKind.i64 0, Value.int IntKind.i64 0, Value.slice none 0 0, Value.int IntKind.i64 0, Value.slice none 0 0] 32)) 32 (w.heap.size + 1) 0 0 (.slice none 0 0) 0 (.slice none 0 0) := by
    have := EndC.new (w.alloc (Obj.cells #[Value.int IntKind.i64 nx, Value.int IntKind.i64 ak, Value.slice qa q.length qc, Value.int IntKind.i64 gt, Value.slice oa o.length oc] 32)) 32 0 0 0 (.slice none 0 0) (.slice none 0 0)
    simpa using this
  have B0 : Below w.heap.size w ((w.alloc (Obj.cells #[Value.int IntKind.i64 nx, Value.int IntKind.i64 ak, Value.slice qa q.length qc, Value.int IntKind.i64 gt, Value.slice oa o.length oc] 32)).alloc (Obj.cells #[Value.int IntKind.i64 0, Value.int IntKind.i64 0, Value.slice none 0 0, Value.int IntKind.i64 0, Value.slice none 0 0] 32)) := ((Below.refl _ _).alloc (Nat.le_refl _) _).alloc (by simp) _
  have Z0 : ((w.alloc (Obj.cells #[Value.int IntKind.i64 nx, Value.int IntKind.i64 ak, Value.slice qa q.length qc, Value.int IntKind.i64 gt, Value.slice oa o.length oc] 32)).alloc (Obj.cells #[Value.int IntKind.i64 0, Value.int IntKind.i64 0, Value.slice none 0 0, Value.int IntKind.i64 0, Value.slice none 0 0] 32)).heap.size = w.heap.size + 2 := by simp
  generalize ((w.alloc (Obj.cells #[Value.int IntKind.i64 nx, Value.int IntKind.i64 ak, Value.slice qa q.length qc, Value.int IntKind.i64 gt, Value.slice oa o.length oc] 32)).alloc (Obj.cells #[Value.int IntKind.i64 0, Value.int IntKind.i64 0, Value.slice none 0 0, Value.int IntKind.i64 0, Value.slice none 0 0] 32)) = W0 at *
  refine (endOk_is (e := ⟨nx, ak, q, gt, o⟩) W0 (show EndR _ _ _ from ⟨qa, qc, oa, oc, rfl, HQ.out.stays B0, HO.out.stays B0⟩) lq lo hok).mono ?_
  rintro r w1 ⟨rfl, hb1⟩
  have E1 := E0.below hb1
  have R1 := R0.below hb1
  have B1 := B0.trans (hb1.mono B0.size)
  have Z1 : w.heap.size + 2 ≤ w1.heap.size := by have := hb1.size; omega
  obtain ⟨a0, a1, a2, a3, a4⟩ := E1.cells
  have HE1 : Hid (EndC w1 32 w.heap.size nx ak (.slice qa q.length qc) gt (.slice oa o.length oc)) := E1
  have HR1 : Hid (EndC w1 32 (w.heap.size + 1) 0 0 (.slice none 0 0) 0 (.slice none 0 0)) := R1
  have HB1 : Hid (Below w.heap.size w w1) := B1
  clear E0 R0 B0 E1 R1 B1 hb1
  go_wp2_with fail
  clear hd1 hd2 hd2b hd2c hw hd3 hok h1 h3
  refine (copyEnd_any (e := ⟨nx, ak, q, gt, o⟩) w1 (show EndR _ _ _ from ⟨qa, qc, oa, oc, rfl, HQ.out.stays HB1.out, HO.out.stays HB1.out⟩) lq lo (fun t ht => by have := hp.fq t ht; omega) (fun t ht => by have := hp.fo t ht; omega)).mono ?_
  rintro r w2 ⟨p, rfl, X2, hb2⟩
  have R2 : Hid (EndC w2 32 (w.heap.size + 1) 0 0 (.slice none 0 0) 0 (.slice none 0 0)) := HR1.out.below hb2
  have B2 : Hid (Below w.heap.size w w2) := HB1.out.trans (hb2.mono HB1.out.size)
  have hz2 : w1.heap.size ≤ w2.heap.size := hb2.size
  clear a0 a1 a2 a3 a4 HE1 HR1 HB1 hb2
  go_wp2_with fail
  refine (poffer_any s w2 X2 ls (by dsimp only; omega)).mono ?_
  rintro r w3 ⟨⟨x, rfl⟩, X3, hb3⟩
  have R3 : Hid (EndC w3 32 (w.heap.size + 1) 0 0 (.slice none 0 0) 0 (.slice none 0 0)) := R2.out.stays hb3 (by omega)
  have B3 : Hid (Below w.heap.size w w3) := B2.out.trans (hb3.mono (by omega))
  obtain ⟨qv, ov, e1, s1, s2, dj, hp1, n1, n2⟩ := X3
  obtain ⟨xa, xc, rfl⟩ := Sl.form s1
  obtain ⟨ua, uc, rfl⟩ := Sl.form s2
  obtain ⟨c0, c1, c2, c3, c4⟩ := e1.cells
  obtain ⟨r0, r1, r2, r3, r4⟩ := R3.out.cells
  have k0 := R3.out.frozen 0
  have k1 := R3.out.frozen 1
  have k2 := R3.out.frozen 2
  have k3 := R3.out.frozen 3
  have k4 := R3.out.frozen 4
  have S1 : Hid (SlT w3 w1.heap.size (.slice xa (offE ⟨nx, ak, q, gt, o⟩ s).q.length xc) (q ++ [s])) := s1
  have S2 : Hid (SlT w3 w1.heap.size (.slice ua (offE ⟨nx, ak, q, gt, o⟩ s).o.length uc) o) := s2
  have D : Hid (Dj (.slice xa (offE ⟨nx, ak, q, gt, o⟩ s).q.length xc) (.slice ua (offE ⟨nx, ak, q, gt, o⟩ s).o.length uc)) := dj
  generalize (offE ⟨nx, ak, q, gt, o⟩ s).q.length = N at *
  generalize (offE ⟨nx, ak, q, gt, o⟩ s).o.length = M at *
  have hnp : p ≠ w.heap.size + 1 := by omega
  dsimp only [offE] at *
  clear X2 hb3 e1 s1 s2 dj n1 n2 R2 B2
  go_wp2_with fail
  show bodyPost _ _ _ _ _ (fillE w3 (w.heap.size + 1) nx ak (.slice xa N xc) gt (.slice ua M uc))
  have K1 := fill_end R3.out nx ak gt (.slice xa N xc) (.slice ua M uc)
  have K2 := fill_grown w3 (w.heap.size + 1) nx ak gt (.slice xa N xc) (.slice ua M uc)
  have T1 := slt_grown S1.out K2 (ne_low S1.out (by omega))
  have T2 := slt_grown S2.out K2 (ne_low S2.out (by omega))
  have HBF := B3.out.trans (grown_to_below K2 (by omega) B3.out.size)
  generalize fillE w3 (w.heap.size + 1) nx ak (.slice xa N xc) gt (.slice ua M uc) = W6 at *
  obtain ⟨q0, q1, q2, q3, q4⟩ := K1.cells
  refine bodyPost_ret (v := .tuple #[.agg #[.int .i64 nx, .int .i64 ak, .slice xa N xc, .int .i64 gt, .slice ua M uc], .bool true]) (by simp [results, Try.results17, go_sem, q0, q1, q2, q3, q4]) rfl ?_
  exact ⟨_, rfl, ⟨_, _, rfl, Sl.down T1 (by omega), Sl.down T2 (by omega), D.out⟩, HBF⟩

theorem offer_any {v : Value} {e : En} (s : ByteArray) (w : World) (h : EndR w v e) (lq : e.q.length ≤ 1048576) (lo : e.o.length ≤ 1048576) (ls : s.size ≤ 1048576) :
    Calls Try.prog 17 #[v, .string s] w fun r w' => ∃ v', r = .returned (.tuple #[v', .bool (offB e s)]) ∧ EndM w' w.heap.size v' (if offB e s then offE e s else noE) ∧ Below w.heap.size w w' := by
  obtain ⟨nx, ak, q, gt, o⟩ := e
  obtain ⟨qa, qc, oa, oc, rfl, hq, ho⟩ := h
  dsimp only at *
  have key : ∀ b, offB ⟨nx, ak, q, gt, o⟩ s = false → (Calls Try.prog 17 #[.agg #[.int .i64 nx, .int .i64 ak, .slice qa q.length qc, .int .i64 gt, .slice oa o.length oc], .string s] w fun r w' => r = .returned (.tuple #[.agg #[.int .i64 0, .int .i64 0, .slice none 0 0, .int .i64 0, .slice none 0 0], .bool false]) ∧ Below w.heap.size w w') → b = () →
      Calls Try.prog 17 #[.agg #[.int .i64 nx, .int .i64 ak, .slice qa q.length qc, .int .i64 gt, .slice oa o.length oc], .string s] w fun r w' => ∃ v', r = .returned (.tuple #[v', .bool (offB ⟨nx, ak, q, gt, o⟩ s)]) ∧ EndM w' w.heap.size v' (if offB ⟨nx, ak, q, gt, o⟩ s then offE ⟨nx, ak, q, gt, o⟩ s else noE) ∧ Below w.heap.size w w' := by
    intro _ hb hc _
    rw [hb]
    exact hc.mono fun r w' ⟨h1, h2⟩ => ⟨_, h1, ⟨_, _, rfl, Sl.zero _ _ _ _, Sl.zero _ _ _ _, fun k hk => by simp [Value.ownBlock] at hk⟩, h2⟩
  cases hok : okB ⟨nx, ak, q, gt, o⟩ with
  | false => exact key () (by simp [offB, hok]) (offer_bad0 nx ak gt qa oa qc oc q o s w hq ho lq lo ls hok) rfl
  | true =>
    by_cases h1 : 60 < s.size
    · exact key () (by simp [offB, hok]; omega) (offer_bad1 nx ak gt qa oa qc oc q o s w hq ho lq lo ls hok h1) rfl
    by_cases h2 : q.length < 30
    · by_cases h3 : ak + (q.length : Int) < 1000
      · have hb : offB ⟨nx, ak, q, gt, o⟩ s = true := by simp [offB, hok]; omega
        rw [hb]
        exact offer_good nx ak gt qa oa qc oc q o s w hq ho lq lo ls hok h1 h2 h3
      · exact key () (by simp [offB, hok]; omega) (offer_bad3 nx ak gt qa oa qc oc q o s w hq ho lq lo ls hok h1 h2 h3) rfl
    · exact key () (by simp [offB, hok]; omega) (offer_bad2 nx ak gt qa oa qc oc q o s w hq ho lq lo ls hok h1 h2) rfl
end Go.Proofs.Ytohagaelenhebaa
