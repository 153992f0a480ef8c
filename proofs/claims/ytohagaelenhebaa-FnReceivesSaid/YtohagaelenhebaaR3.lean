/- The walk over the program's Receive. -/
import Derived.Test.YtohagaelenhebaaR2
namespace Go.Proofs.Ytohagaelenhebaa
open Go.RowKit Pl
set_option linter.unusedVariables false

/-- what Receive answers. -/
def rcvB (e : En) (p : Pc) : Bool := mayB e p && recvB e p
def rcvF (e : En) (p : Pc) : En := if mayB e p then recvE e p else e
theorem rcv_no {e : En} {p : Pc} (h : mayB e p = false) : rcvB e p = false ∧ rcvF e p = e := by unfold rcvB rcvF; rw [h]; exact ⟨rfl, rfl⟩
theorem rcv_yes {e : En} {p : Pc} (h : mayB e p = true) : rcvB e p = recvB e p ∧ rcvF e p = recvE e p := by unfold rcvB rcvF; rw [h]; exact ⟨rfl, rfl⟩

set_option maxRecDepth 100000 in
set_option maxHeartbeats 4000000 in
theorem receive_any {v : Value} {e : En} (num ack : Int) (s : ByteArray) (w : World) (h : EndR w v e) (lq : e.q.length ≤ 1048576) (lo : e.o.length ≤ 1048576) (sq : Hid (∀ t ∈ e.q, t.size ≤ 1048576)) (so : Hid (∀ t ∈ e.o, t.size ≤ 1048576)) (hs : s.size ≤ 1048576) :
    Calls Try.prog 20 #[v, .agg #[.int .i64 num, .int .i64 ack, .string s]] w fun r w' => ∃ v', r = .returned (.tuple #[v', .bool (rcvB e (num, ack, s))]) ∧ EndM w' w.heap.size v' (rcvF e (num, ack, s)) ∧ Below w.heap.size w w' := by
  have HR : Hid (EndR w v e) := h
  obtain ⟨qa, qc, oa, oc, rfl, hq, ho⟩ := h
  clear hq ho
  go_enter Try.func20, Try.ntmps20
  go_wp2_with fail
  have be : Below (w.alloc (Obj.cells #[Value.int IntKind.i64 e.nx, Value.int IntKind.i64 e.ak, Value.slice qa e.q.length qc, Value.int IntKind.i64 e.gt, Value.slice oa e.o.length oc] 32)).heap.size (w.alloc (Obj.cells #[Value.int IntKind.i64 e.nx, Value.int IntKind.i64 e.ak, Value.slice qa e.q.length qc, Value.int IntKind.i64 e.gt, Value.slice oa e.o.length oc] 32)) ((w.alloc (Obj.cells #[Value.int IntKind.i64 e.nx, Value.int IntKind.i64 e.ak, Value.slice qa e.q.length qc, Value.int IntKind.i64 e.gt, Value.slice oa e.o.length oc] 32)).alloc (Obj.cells #[Value.int IntKind.i64 num, Value.int IntKind.i64 ack, Value.string s] 41)) := (Below.refl _ _).alloc (Nat.le_refl _) _
  have bp : Below ((w.alloc (Obj.cells #[Value.int IntKind.i64 e.nx, Value.int IntKind.i64 e.ak, Value.slice qa e.q.length qc, Value.int IntKind.i64 e.gt, Value.slice oa e.o.length oc] 32)).alloc (Obj.cells #[Value.int IntKind.i64 num, Value.int IntKind.i64 ack, Value.string s] 41)).heap.size ((w.alloc (Obj.cells #[Value.int IntKind.i64 e.nx, Value.int IntKind.i64 e.ak, Value.slice qa e.q.length qc, Value.int IntKind.i64 e.gt, Value.slice oa e.o.length oc] 32)).alloc (Obj.cells #[Value.int IntKind.i64 num, Value.int IntKind.i64 ack, Value.string s] 41)) (((w.alloc (Obj.cells #[Value.int IntKind.i64 e.nx, Value.int IntKind.i64 e.ak, Value.slice qa e.q.length qc, Value.int IntKind.i64 e.gt, Value.slice oa e.o.length oc] 32)).alloc (Obj.cells #[Value.int IntKind.i64 num, Value.int IntKind.i64 ack, Value.string s] 41)).alloc (Obj.cells #[Value.int IntKind.i64 0, Value.int IntKind.i64 0, Value.slice none 0 0, Value.int IntKind.i64 0, Value.slice none 0 0] 32)) := (Below.refl _ _).alloc (Nat.le_refl _) _
  have E0 : EndC (((w.alloc (Obj.cells #[Value.int IntKind.i64 e.nx, Value.int IntKind.i64 e.ak, Value.slice qa e.q.length qc, Value.int IntKind.i64 e.gt, Value.slice oa e.o.length oc] 32)).alloc (Obj.cells #[Value.int IntKind.i64 num, Value.int IntKind.i64 ack, Value.string s] 41)).alloc (Obj.cells #[Value.int IntKind.i64 0, Value.int IntKind.i64 0, Value.slice none 0 0, Value.int IntKind.i64 0, Value.slice none 0 0] 32)) 32 w.heap.size e.nx e.ak (.slice qa e.q.length qc) e.gt (.slice oa e.o.length oc) := ((EndC.new w 32 e.nx e.ak e.gt _ _).below be).below bp
  have P0 : PcC (((w.alloc (Obj.cells #[Value.int IntKind.i64 e.nx, Value.int IntKind.i64 e.ak, Value.slice qa e.q.length qc, Value.int IntKind.i64 e.gt, Value.slice oa e.o.length oc] 32)).alloc (Obj.cells #[Value.int IntKind.i64 num, Value.int IntKind.i64 ack, Value.string s] 41)).alloc (Obj.cells #[Value.int IntKind.i64 0, Value.int IntKind.i64 0, Value.slice none 0 0, Value.int IntKind.i64 0, Value.slice none 0 0] 32)) 41 (w.heap.size + 1) num ack s := by
    have := (PcC.new (w.alloc (Obj.cells #[Value.int IntKind.i64 e.nx, Value.int IntKind.i64 e.ak, Value.slice qa e.q.length qc, Value.int IntKind.i64 e.gt, Value.slice oa e.o.length oc] 32)) 41 num ack s).below bp
    simpa using this
  have R0 : EndC (((w.alloc (Obj.cells #[Value.int IntKind.i64 e.nx, Value.int IntKind.i64 e.ak, Value.slice qa e.q.length qc, Value.int IntKind.i64 e.gt, Value.slice oa e.o.length oc] 32)).alloc (Obj.cells #[Value.int IntKind.i64 num, Value.int IntKind.i64 ack, Value.string s] 41)).alloc (Obj.cells #[Value.int IntKind.i64 0, Value.int IntKind.i64 0, Value.slice none 0 0, Value.int IntKind.i64 0, Value.slice none 0 0] 32)) 32 (w.heap.size + 2) 0 0 (.slice none 0 0) 0 (.slice none 0 0) := by
    have := EndC.new ((w.alloc (Obj.cells #[Value.int IntKind.i64 e.nx, Value.int IntKind.i64 e.ak, Value.slice qa e.q.length qc, Value.int IntKind.i64 e.gt, Value.slice oa e.o.length oc] 32)).alloc (Obj.cells #[Value.int IntKind.i64 num, Value.int IntKind.i64 ack, Value.string s] 41)) 32 0 0 0 (.slice none 0 0) (.slice none 0 0)
    simpa using this
  have B0 : Below w.heap.size w (((w.alloc (Obj.cells #[Value.int IntKind.i64 e.nx, Value.int IntKind.i64 e.ak, Value.slice qa e.q.length qc, Value.int IntKind.i64 e.gt, Value.slice oa e.o.length oc] 32)).alloc (Obj.cells #[Value.int IntKind.i64 num, Value.int IntKind.i64 ack, Value.string s] 41)).alloc (Obj.cells #[Value.int IntKind.i64 0, Value.int IntKind.i64 0, Value.slice none 0 0, Value.int IntKind.i64 0, Value.slice none 0 0] 32)) := (((Below.refl _ _).alloc (Nat.le_refl _) _).alloc (by simp) _).alloc (by simp; omega) _
  have Z0 : (((w.alloc (Obj.cells #[Value.int IntKind.i64 e.nx, Value.int IntKind.i64 e.ak, Value.slice qa e.q.length qc, Value.int IntKind.i64 e.gt, Value.slice oa e.o.length oc] 32)).alloc (Obj.cells #[Value.int IntKind.i64 num, Value.int IntKind.i64 ack, Value.string s] 41)).alloc (Obj.cells #[Value.int IntKind.i64 0, Value.int IntKind.i64 0, Value.slice none 0 0, Value.int IntKind.i64 0, Value.slice none 0 0] 32)).heap.size = w.heap.size + 3 := by simp
  clear be bp
  generalize (((w.alloc (Obj.cells #[Value.int IntKind.i64 e.nx, Value.int IntKind.i64 e.ak, Value.slice qa e.q.length qc, Value.int IntKind.i64 e.gt, Value.slice oa e.o.length oc] 32)).alloc (Obj.cells #[Value.int IntKind.i64 num, Value.int IntKind.i64 ack, Value.string s] 41)).alloc (Obj.cells #[Value.int IntKind.i64 0, Value.int IntKind.i64 0, Value.slice none 0 0, Value.int IntKind.i64 0, Value.slice none 0 0] 32)) = W0 at *
  refine (copyEnd_any W0 (EndR.stays HR.out B0) lq lo sq so).mono ?_
  rintro r w1 ⟨p, rfl, hP, hb1⟩
  obtain ⟨qv, ov, hQ⟩ := hP
  obtain ⟨va, vc, rfl⟩ := Sl.form hQ.2.1
  obtain ⟨vb, vd, rfl⟩ := Sl.form hQ.2.2.1
  have hpl : p < w1.heap.size := hQ.1.lt
  have hpB : W0.heap.size ≤ p := hQ.2.2.2.2.1
  have E1 := E0.below hb1
  have P1 : Hid (PcC w1 41 (w.heap.size + 1) num ack s) := P0.below hb1
  have R1 : Hid (EndC w1 32 (w.heap.size + 2) 0 0 (.slice none 0 0) 0 (.slice none 0 0)) := R0.below hb1
  have B1 : Hid (Below w.heap.size w w1) := B0.trans (hb1.mono B0.size)
  have z1 : W0.heap.size ≤ w1.heap.size := hb1.size
  obtain ⟨a0, a1, a2, a3, a4⟩ := E1.cells
  clear E0 P0 R0 B0 E1 hb1
  go_wp2_with fail
  refine (endOk_any w1 (EndR.stays HR.out B1.out) lq lo).mono ?_
  rintro r w2 ⟨rfl, hb2⟩
  have hQ2 : Hid (EndQ w2 W0.heap.size p e (.slice va e.q.length vc) (.slice vb e.o.length vd)) := EndQ.below hQ hb2
  have P2 : Hid (PcC w2 41 (w.heap.size + 1) num ack s) := P1.out.below hb2
  have R2 : Hid (EndC w2 32 (w.heap.size + 2) 0 0 (.slice none 0 0) 0 (.slice none 0 0)) := R1.out.below hb2
  have B2 : Hid (Below w.heap.size w w2) := B1.out.trans (hb2.mono B1.out.size)
  have z2 : w1.heap.size ≤ w2.heap.size := hb2.size
  obtain ⟨p0, p1, p2⟩ := P2.out.cells
  clear a0 a1 a2 a3 a4 hQ hb2 R1 B1 P1 HR
  cases hok : okB e with
  | false =>
    have F : Hid (rcvB e (num, ack, s) = false ∧ rcvF e (num, ack, s) = e) := rcv_no (by unfold mayB; rw [hok]; rfl)
    obtain ⟨c0, c1, c2, c3, c4⟩ := hQ2.out.1.cells
    obtain ⟨r0, r1, r2, r3, r4⟩ := R2.out.cells
    have k0 := R2.out.frozen 0
    have k1 := R2.out.frozen 1
    have k2 := R2.out.frozen 2
    have k3 := R2.out.frozen 3
    have k4 := R2.out.frozen 4
    go_wp2_with fail
    show bodyPost _ _ _ _ _ (fillE w2 (w.heap.size + 2) e.nx e.ak (.slice va e.q.length vc) e.gt (.slice vb e.o.length vd))
    have K1 := fill_end R2.out e.nx e.ak e.gt (.slice va e.q.length vc) (.slice vb e.o.length vd)
    have K2 := fill_grown w2 (w.heap.size + 2) e.nx e.ak e.gt (.slice va e.q.length vc) (.slice vb e.o.length vd)
    have T1 := slt_grown hQ2.out.2.1 K2 (ne_low hQ2.out.2.1 (by omega))
    have T2 := slt_grown hQ2.out.2.2.1 K2 (ne_low hQ2.out.2.2.1 (by omega))
    have HBF := B2.out.trans (grown_to_below K2 (by omega) B2.out.size)
    generalize fillE w2 (w.heap.size + 2) e.nx e.ak (.slice va e.q.length vc) e.gt (.slice vb e.o.length vd) = W6 at *
    obtain ⟨q0, q1, q2, q3, q4⟩ := K1.cells
    refine bodyPost_ret (v := .tuple #[.agg #[.int .i64 e.nx, .int .i64 e.ak, (.slice va e.q.length vc), .int .i64 e.gt, (.slice vb e.o.length vd)], .bool false]) (by simp [results, Try.results20, go_sem, q0, q1, q2, q3, q4]) rfl ?_
    refine ⟨_, by rw [F.out.1], ?_, HBF⟩
    rw [F.out.2]
    exact ⟨_, _, rfl, Sl.down T1 (by omega), Sl.down T2 (by omega), hQ2.out.2.2.2.1⟩
  | true =>
    have hp := okB_true.1 hok
    by_cases hn : num < 0
    · have dn : decide (num < 0) = true := by simp; omega
      have F : Hid (rcvB e (num, ack, s) = false ∧ rcvF e (num, ack, s) = e) := rcv_no (by unfold mayB; rw [hok]; simp; omega)
      obtain ⟨c0, c1, c2, c3, c4⟩ := hQ2.out.1.cells
      obtain ⟨r0, r1, r2, r3, r4⟩ := R2.out.cells
      have k0 := R2.out.frozen 0
      have k1 := R2.out.frozen 1
      have k2 := R2.out.frozen 2
      have k3 := R2.out.frozen 3
      have k4 := R2.out.frozen 4
      go_wp2_with fail
      show bodyPost _ _ _ _ _ (fillE w2 (w.heap.size + 2) e.nx e.ak (.slice va e.q.length vc) e.gt (.slice vb e.o.length vd))
      have K1 := fill_end R2.out e.nx e.ak e.gt (.slice va e.q.length vc) (.slice vb e.o.length vd)
      have K2 := fill_grown w2 (w.heap.size + 2) e.nx e.ak e.gt (.slice va e.q.length vc) (.slice vb e.o.length vd)
      have T1 := slt_grown hQ2.out.2.1 K2 (ne_low hQ2.out.2.1 (by omega))
      have T2 := slt_grown hQ2.out.2.2.1 K2 (ne_low hQ2.out.2.2.1 (by omega))
      have HBF := B2.out.trans (grown_to_below K2 (by omega) B2.out.size)
      generalize fillE w2 (w.heap.size + 2) e.nx e.ak (.slice va e.q.length vc) e.gt (.slice vb e.o.length vd) = W6 at *
      obtain ⟨q0, q1, q2, q3, q4⟩ := K1.cells
      refine bodyPost_ret (v := .tuple #[.agg #[.int .i64 e.nx, .int .i64 e.ak, (.slice va e.q.length vc), .int .i64 e.gt, (.slice vb e.o.length vd)], .bool false]) (by simp [results, Try.results20, go_sem, q0, q1, q2, q3, q4]) rfl ?_
      refine ⟨_, by rw [F.out.1], ?_, HBF⟩
      rw [F.out.2]
      exact ⟨_, _, rfl, Sl.down T1 (by omega), Sl.down T2 (by omega), hQ2.out.2.2.2.1⟩
    have dn : decide (num < 0) = false := by simp; omega
    by_cases hl : 60 < s.size
    · have dl : decide (60 < (s.size : Int)) = true := by simp; omega
      have F : Hid (rcvB e (num, ack, s) = false ∧ rcvF e (num, ack, s) = e) := rcv_no (by unfold mayB; rw [hok]; simp; omega)
      obtain ⟨c0, c1, c2, c3, c4⟩ := hQ2.out.1.cells
      obtain ⟨r0, r1, r2, r3, r4⟩ := R2.out.cells
      have k0 := R2.out.frozen 0
      have k1 := R2.out.frozen 1
      have k2 := R2.out.frozen 2
      have k3 := R2.out.frozen 3
      have k4 := R2.out.frozen 4
      go_wp2_with fail
      show bodyPost _ _ _ _ _ (fillE w2 (w.heap.size + 2) e.nx e.ak (.slice va e.q.length vc) e.gt (.slice vb e.o.length vd))
      have K1 := fill_end R2.out e.nx e.ak e.gt (.slice va e.q.length vc) (.slice vb e.o.length vd)
      have K2 := fill_grown w2 (w.heap.size + 2) e.nx e.ak e.gt (.slice va e.q.length vc) (.slice vb e.o.length vd)
      have T1 := slt_grown hQ2.out.2.1 K2 (ne_low hQ2.out.2.1 (by omega))
      have T2 := slt_grown hQ2.out.2.2.1 K2 (ne_low hQ2.out.2.2.1 (by omega))
      have HBF := B2.out.trans (grown_to_below K2 (by omega) B2.out.size)
      generalize fillE w2 (w.heap.size + 2) e.nx e.ak (.slice va e.q.length vc) e.gt (.slice vb e.o.length vd) = W6 at *
      obtain ⟨q0, q1, q2, q3, q4⟩ := K1.cells
      refine bodyPost_ret (v := .tuple #[.agg #[.int .i64 e.nx, .int .i64 e.ak, (.slice va e.q.length vc), .int .i64 e.gt, (.slice vb e.o.length vd)], .bool false]) (by simp [results, Try.results20, go_sem, q0, q1, q2, q3, q4]) rfl ?_
      refine ⟨_, by rw [F.out.1], ?_, HBF⟩
      rw [F.out.2]
      exact ⟨_, _, rfl, Sl.down T1 (by omega), Sl.down T2 (by omega), hQ2.out.2.2.2.1⟩
    have dl : decide (60 < (s.size : Int)) = false := by simp; omega
    have F0 : Hid (rcvB e (num, ack, s) = recvB e (num, ack, s) ∧ rcvF e (num, ack, s) = recvE e (num, ack, s)) := rcv_yes (by unfold mayB; rw [hok]; simp; omega)
    go_wp2_with fail
    refine (preceive_any num ack s w2 hQ2.out hp (by omega)).mono ?_
    rintro r w3 ⟨rfl, qv', ov', hQ3, hu1, hu2, hb3, hg3⟩
    obtain ⟨f, hf⟩ : ∃ f, f = recvE e (num, ack, s) := ⟨_, rfl⟩
    rw [← hf] at hQ3
    obtain ⟨b, hbe⟩ : ∃ b, b = recvB e (num, ack, s) := ⟨_, rfl⟩
    rw [← hbe]
    have F : Hid (rcvB e (num, ack, s) = b ∧ rcvF e (num, ack, s) = f) := ⟨F0.out.1.trans hbe.symm, F0.out.2.trans hf.symm⟩
    clear hf hbe F0
    obtain ⟨ua, uc, rfl⟩ := Sl.form hQ3.2.1
    obtain ⟨ub, ud, rfl⟩ := Sl.form hQ3.2.2.1
    have Q3 : Hid (EndQ w3 W0.heap.size p f (.slice ua f.q.length uc) (.slice ub f.o.length ud)) := hQ3
    have R3 : Hid (EndC w3 32 (w.heap.size + 2) 0 0 (.slice none 0 0) 0 (.slice none 0 0)) := R2.out.stays hb3 (by omega)
    have B3 : Hid (Below w.heap.size w w3) := B2.out.trans (hb3.mono (by omega))
    have z3 : w2.heap.size ≤ w3.heap.size := hb3.size
    clear hQ3 hu1 hu2 hb3 hg3 p0 p1 p2 P2 hQ2 R2 B2
    obtain ⟨c0, c1, c2, c3, c4⟩ := Q3.out.1.cells
    obtain ⟨r0, r1, r2, r3, r4⟩ := R3.out.cells
    have k0 := R3.out.frozen 0
    have k1 := R3.out.frozen 1
    have k2 := R3.out.frozen 2
    have k3 := R3.out.frozen 3
    have k4 := R3.out.frozen 4
    go_wp2_with fail
    show bodyPost _ _ _ _ _ (fillE w3 (w.heap.size + 2) f.nx f.ak (.slice ua f.q.length uc) f.gt (.slice ub f.o.length ud))
    have K1 := fill_end R3.out f.nx f.ak f.gt (.slice ua f.q.length uc) (.slice ub f.o.length ud)
    have K2 := fill_grown w3 (w.heap.size + 2) f.nx f.ak f.gt (.slice ua f.q.length uc) (.slice ub f.o.length ud)
    have T1 := slt_grown Q3.out.2.1 K2 (ne_low Q3.out.2.1 (by omega))
    have T2 := slt_grown Q3.out.2.2.1 K2 (ne_low Q3.out.2.2.1 (by omega))
    have HBF := B3.out.trans (grown_to_below K2 (by omega) B3.out.size)
    generalize fillE w3 (w.heap.size + 2) f.nx f.ak (.slice ua f.q.length uc) f.gt (.slice ub f.o.length ud) = W6 at *
    obtain ⟨q0, q1, q2, q3, q4⟩ := K1.cells
    refine bodyPost_ret (v := .tuple #[.agg #[.int .i64 f.nx, .int .i64 f.ak, (.slice ua f.q.length uc), .int .i64 f.gt, (.slice ub f.o.length ud)], .bool b]) (by simp [results, Try.results20, go_sem, q0, q1, q2, q3, q4]) rfl ?_
    refine ⟨_, by rw [F.out.1], ?_, HBF⟩
    rw [F.out.2]
    exact ⟨_, _, rfl, Sl.down T1 (by omega), Sl.down T2 (by omega), Q3.out.2.2.2.1⟩
end Go.Proofs.Ytohagaelenhebaa
