/- The walk over the specification's Receive. -/
import Derived.Test.YtohagaelenhebaaR3
import Derived.Test.YtohagaelenhebaaS1
namespace Go.Proofs.Ytohagaelenhebaa
open Go.RowKit Pl
set_option linter.unusedVariables false

theorem endQ_new {w : World} {B : Nat} {e : En} {qv ov : Value} (h1 : SlT w B qv e.q) (h2 : SlT w B ov e.o) (h3 : Dj qv ov) (hB : B ≤ w.heap.size) : EndQ (w.alloc (.cells #[.int .i64 e.nx, .int .i64 e.ak, qv, .int .i64 e.gt, ov] 32)) B w.heap.size e qv ov :=
  ⟨EndC.new w 32 e.nx e.ak e.gt qv ov, Sl.alloc h1 _, Sl.alloc h2 _, h3, hB, fun he => by have := (Sl.lt h1 _ he).2; omega, fun he => by have := (Sl.lt h2 _ he).2; omega⟩
theorem requeued {W : World} {B p : Nat} {e : En} {qv ov v : Value} {q : List ByteArray} (h : EndQ W B p e qv ov) (ack : Int) (hv : SlT W B v q) (hp : v.ownBlock ≠ some p) (hd : Dj v ov) :
    EndQ ((W.setCell ⟨p, 2, none⟩ v).setCell ⟨p, 1, none⟩ (.int .i64 ack)) B p ⟨e.nx, ack, q, e.gt, e.o⟩ v ov := by
  obtain ⟨x1, x2, x3, x4, x5, x6, x7⟩ := h
  exact ⟨(x1.set2 _).set1 _, slt_other (slt_other hv hp) hp, slt_other (slt_other x3 x7) x7, hd, x5, hp, x7⟩
theorem EndQ.kept {w w' : World} {row : Option Nat} {B p : Nat} {e : En} {qv ov : Value} (h : EndQ w B p e qv ov) (hg : w.grownBy w' row) (h1 : some p ≠ row) (h2 : ∀ k, qv.ownBlock = some k → some k ≠ row) (h3 : ∀ k, ov.ownBlock = some k → some k ≠ row) : EndQ w' B p e qv ov := by
  obtain ⟨x1, x2, x3, x4⟩ := h
  exact ⟨x1.kept hg h1, Sl.kept x2 hg h2, Sl.kept x3 hg h3, x4⟩
theorem pushed {w w4 : World} {B p H : Nat} {f : En} {qv ov v4 : Value} {s : ByteArray} (h : EndQ w B p f qv ov) (g : Int) (S4 : SlT w4 B v4 (f.o ++ [s])) (G4 : w.grownBy w4 ov.ownBlock) (hH : w.heap.size ≤ H) (L4 : v4.ownBlock = ov.ownBlock ∨ v4.ownBlock = some (H + 1)) :
    EndQ ((w4.setCell ⟨p, 4, none⟩ v4).setCell ⟨p, 3, none⟩ (.int .i64 g)) B p ⟨f.nx, f.ak, f.q, g, f.o ++ [s]⟩ qv v4 ∧ Below B w ((w4.setCell ⟨p, 4, none⟩ v4).setCell ⟨p, 3, none⟩ (.int .i64 g)) := by
  obtain ⟨x1, x2, x3, x4, x5, x6, x7⟩ := h
  have hp := x1.lt
  have n4 : v4.ownBlock ≠ some p := fun he => by
    rcases L4 with hl | hl
    · rw [hl] at he; exact x7 he
    · rw [hl] at he; simp at he; omega
  have d4 : Dj qv v4 := fun k k1 k2 => by
    rcases L4 with hl | hl
    · rw [hl] at k2; exact x4 k k1 k2
    · rw [hl] at k2; have := (Sl.lt x2 k k1).2; simp at k2; omega
  have X4 := EndC.kept x1 G4 (fun he => x7 he.symm)
  have Q4 : SlT w4 B qv f.q := Sl.kept x2 G4 (fun k hk he => x4 k hk he.symm)
  have B4 : Below B w w4 := ⟨G4.os, G4.tape, G4.output, G4.size, fun k hk => G4.block k (by omega) (fun he => by have := (Sl.lt x3 _ he.symm).1; omega)⟩
  exact ⟨⟨((X4.set4 v4).set3 _), slt_other (slt_other Q4 x6) x6, slt_other (slt_other S4 n4) n4, d4, x5, x6, n4⟩, (B4.setCell (p := ⟨p, 4, none⟩) x5 _).setCell (p := ⟨p, 3, none⟩) x5 _⟩

set_option maxRecDepth 100000 in
set_option maxHeartbeats 4000000 in
theorem spReceive_any {v : Value} {e : En} (num ack : Int) (s : ByteArray) (w : World) (h : EndR w v e) (lq : e.q.length ≤ 1048576) (lo : e.o.length ≤ 1048576) :
    Calls Try.prog 23 #[v, .agg #[.int .i64 num, .int .i64 ack, .string s]] w fun r w' => ∃ v', r = .returned (.tuple #[v', .bool (rcvB e (num, ack, s))]) ∧ EndM w' w.heap.size v' (rcvF e (num, ack, s)) ∧ Below w.heap.size w w' := by
  have HR : Hid (EndR w v e) := h
  obtain ⟨qa, qc, oa, oc, rfl, hq, ho⟩ := h
  clear hq ho
  go_enter Try.func23, Try.ntmps23
  go_wp2_with fail
  have be : Below (w.alloc (Obj.cells #[Value.int IntKind.i64 e.nx, Value.int IntKind.i64 e.ak, Value.slice qa e.q.length qc, Value.int IntKind.i64 e.gt, Value.slice oa e.o.length oc] 32)).heap.size (w.alloc (Obj.cells #[Value.int IntKind.i64 e.nx, Value.int IntKind.i64 e.ak, Value.slice qa e.q.length qc, Value.int IntKind.i64 e.gt, Value.slice oa e.o.length oc] 32)) ((w.alloc (Obj.cells #[Value.int IntKind.i64 e.nx, Value.int IntKind.i64 e.ak, Value.slice qa e.q.length qc, Value.int IntKind.i64 e.gt, Value.slice oa e.o.length oc] 32)).alloc (Obj.cells #[Value.int IntKind.i64 num, Value.int IntKind.i64 ack, Value.string s] 41)) := (Below.refl _ _).alloc (Nat.le_refl _) _
  have bp : Below ((w.alloc (Obj.cells #[Value.int IntKind.i64 e.nx, Value.int IntKind.i64 e.ak, Value.slice qa e.q.length qc, Value.int IntKind.i64 e.gt, Value.slice oa e.o.length oc] 32)).alloc (Obj.cells #[Value.int IntKind.i64 num, Value.int IntKind.i64 ack, Value.string s] 41)).heap.size ((w.alloc (Obj.cells #[Value.int IntKind.i64 e.nx, Value.int IntKind.i64 e.ak, Value.slice qa e.q.length qc, Value.int IntKind.i64 e.gt, Value.slice oa e.o.length oc] 32)).alloc (Obj.cells #[Value.int IntKind.i64 num, Value.int IntKind.i64 ack, Value.string s] 41)) (((w.alloc (Obj.cells #[Value.int IntKind.i64 e.nx, Value.int IntKind.i64 e.ak, Value.slice qa e.q.length qc, Value.int IntKind.i64 e.gt, Value.slice oa e.o.length oc] 32)).alloc (Obj.cells #[Value.int IntKind.i64 num, Value.int IntKind.i64 ack, Value.string s] 41)).alloc (Obj.cells #[Value.int IntKind.i64 0, Value.int IntKind.i64 0, Value.slice none 0 0, Value.int IntKind.i64 0, Value.slice none 0 0] 32)) := (Below.refl _ _).alloc (Nat.le_refl _) _
  have E0 : EndC (((w.alloc (Obj.cells #[Value.int IntKind.i64 e.nx, Value.int IntKind.i64 e.ak, Value.slice qa e.q.length qc, Value.int IntKind.i64 e.gt, Value.slice oa e.o.length oc] 32)).alloc (Obj.cells #[Value.int IntKind.i64 num, Value.int IntKind.i64 ack, Value.string s] 41)).alloc (Obj.cells #[Value.int IntKind.i64 0, Value.int IntKind.i64 0, Value.slice none 0 0, Value.int IntKind.i64 0, Value.slice none 0 0] 32)) 32 w.heap.size e.nx e.ak (.slice qa e.q.length qc) e.gt (.slice oa e.o.length oc) := ((EndC.new w 32 e.nx e.ak e.gt _ _).below be).below bp
  have P0 : PcC (((w.alloc (Obj.cells #[Value.int IntKind.i64 e.nx, Value.int IntKind.i64 e.ak, Value.slice qa e.q.length qc, Value.int IntKind.i64 e.gt, Value.slice oa e.o.length oc] 32)).alloc (Obj.cells #[Value.int IntKind.i64 num, Value.int IntKind.i64 ack, Value.string s] 41)).alloc (Obj.cells #[Value.int IntKind.i64 0, Value.int IntKind.i64 0, Value.slice none 0 0, Value.int IntKind.i64 0, Value.slice none 0 0] 32)) 41 (w.heap.size + 1) num ack s := by
    have := (PcC.new (w.alloc (Obj.cells #[Value.int IntKind.i64 e.nx, Value.int IntKind.i64 e.ak, Value.slice qa e.q.length qc, Value.int IntKind.i64 e.gt, Value.slice oa e.o.length oc] 32)) 41 num ack s).below bp
    simpa using this
  have R0 : EndC (((w.alloc (Obj.cells #[Value.int IntKind.i64 e.nx, Value.int IntKind.i64 e.ak, Value.slice qa e.q.length qc, Value.int IntKind.i64 e.gt, Value.slice oa e.o.length oc] 32)).alloc (Obj.cells #[Value.int IntKind.i64 num, Value.int IntKind.i64 ack, Value.string s] 41)).alloc (Obj.cells #[Value.int IntKind.i64 0, Value.int IntKind.i64 0, Value.slice none 0 0, Value.int IntKind.i64 0, Value.slice none 0 0] 32)) 32 (w.heap.size + 2) 0 0 (.slice none 0 0) 0 (.slice none 0 0) := by
    have := EndC.new ((w.alloc (Obj.cells #[Value.int IntKind.i64 e.nx, Value.int IntKind.i64 e.ak, Value.slice qa e.q.length qc, Value.int IntKind.i64 e.gt, Value.slice oa e.o.length oc] 32)).alloc (Obj.cells #[Value.int IntKind.i64 num, Value.int IntKind.i64 ack, Value.string s] 41)) 32 0 0 0 (.slice none 0 0) (.slice none 0 0)
    simpa using this
  have B0 : Below w.heap.size w (((w.alloc (Obj.cells #[Value.int IntKind.i64 e.nx, Value.int IntKind.i64 e.ak, Value.slice qa e.q.length qc, Value.int IntKind.i64 e.gt, Value.slice oa e.o.length oc] 32)).alloc (Obj.cells #[Value.int IntKind.i64 num, Value.int IntKind.i64 ack, Value.string s] 41)).alloc (Obj.cells #[Value.int IntKind.i64 0, Value.int IntKind.i64 0, Value.slice none 0 0, Value.int IntKind.i64 0, Value.slice none 0 0] 32)) := (((Below.refl _ _).alloc (Nat.le_refl _) _).alloc (by simp) _).alloc (by simp; omega) _
  have Z0 : (((w.alloc (Obj.cells #[Value.int IntKind.i64 e.nx, Value.int IntKind.i64 e.ak, Value.slice qa e.q.length qc, Value.int IntKind.i64 e.gt, Value.slice oa e.o.length oc] 32)).alloc (Obj.cells #[Value.int IntKind.i64 num, Value.int IntKind.i64 ack, Value.string s] 41)).alloc (Obj.cells #[Value.int IntKind.i64 0, Value.int IntKind.i64 0, Value.slice none 0 0, Value.int IntKind.i64 0, Value.slice none 0 0] 32)).heap.size = w.heap.size + 3 := by simp
  clear be bp
  generalize (((w.alloc (Obj.cells #[Value.int IntKind.i64 e.nx, Value.int IntKind.i64 e.ak, Value.slice qa e.q.length qc, Value.int IntKind.i64 e.gt, Value.slice oa e.o.length oc] 32)).alloc (Obj.cells #[Value.int IntKind.i64 num, Value.int IntKind.i64 ack, Value.string s] 41)).alloc (Obj.cells #[Value.int IntKind.i64 0, Value.int IntKind.i64 0, Value.slice none 0 0, Value.int IntKind.i64 0, Value.slice none 0 0] 32)) = W0 at *
  refine (spCopy_any W0 (EndR.stays HR.out B0) lq lo).mono ?_
  rintro r w1 ⟨v1, rfl, hM, hb1⟩
  obtain ⟨qv, ov, rfl, s1, s2, dj⟩ := hM
  obtain ⟨va, vc, rfl⟩ := Sl.form s1
  obtain ⟨vb, vd, rfl⟩ := Sl.form s2
  have z1 : W0.heap.size ≤ w1.heap.size := hb1.size
  have hbx : Below w1.heap.size w1 (w1.alloc (Obj.cells #[Value.int IntKind.i64 e.nx, Value.int IntKind.i64 e.ak, Value.slice va e.q.length vc, Value.int IntKind.i64 e.gt, Value.slice vb e.o.length vd] 32)) := (Below.refl _ _).alloc (Nat.le_refl _) _
  have E1 := (E0.below hb1).below hbx
  have P1 : Hid (PcC (w1.alloc (Obj.cells #[Value.int IntKind.i64 e.nx, Value.int IntKind.i64 e.ak, Value.slice va e.q.length vc, Value.int IntKind.i64 e.gt, Value.slice vb e.o.length vd] 32)) 41 (w.heap.size + 1) num ack s) := (P0.below hb1).below hbx
  have R1 : Hid (EndC (w1.alloc (Obj.cells #[Value.int IntKind.i64 e.nx, Value.int IntKind.i64 e.ak, Value.slice va e.q.length vc, Value.int IntKind.i64 e.gt, Value.slice vb e.o.length vd] 32)) 32 (w.heap.size + 2) 0 0 (.slice none 0 0) 0 (.slice none 0 0)) := (R0.below hb1).below hbx
  have B1 : Hid (Below w.heap.size w (w1.alloc (Obj.cells #[Value.int IntKind.i64 e.nx, Value.int IntKind.i64 e.ak, Value.slice va e.q.length vc, Value.int IntKind.i64 e.gt, Value.slice vb e.o.length vd] 32))) := (B0.trans (hb1.mono B0.size)).trans (hbx.mono (by have := B0.size; omega))
  have hQ1 : Hid (EndQ (w1.alloc (Obj.cells #[Value.int IntKind.i64 e.nx, Value.int IntKind.i64 e.ak, Value.slice va e.q.length vc, Value.int IntKind.i64 e.gt, Value.slice vb e.o.length vd] 32)) W0.heap.size w1.heap.size e (.slice va e.q.length vc) (.slice vb e.o.length vd)) := endQ_new s1 s2 dj z1
  have zx : (w1.alloc (Obj.cells #[Value.int IntKind.i64 e.nx, Value.int IntKind.i64 e.ak, Value.slice va e.q.length vc, Value.int IntKind.i64 e.gt, Value.slice vb e.o.length vd] 32)).heap.size = w1.heap.size + 1 := by simp
  obtain ⟨a0, a1, a2, a3, a4⟩ := E1.cells
  clear E0 P0 R0 B0 E1 hb1 hbx s1 s2 dj
  go_wp2_with fail
  generalize (w1.alloc (Obj.cells #[Value.int IntKind.i64 e.nx, Value.int IntKind.i64 e.ak, Value.slice va e.q.length vc, Value.int IntKind.i64 e.gt, Value.slice vb e.o.length vd] 32)) = W1 at *
  refine (spEndOk_any W1 (EndR.stays HR.out B1.out) lq lo).mono ?_
  rintro r w2 ⟨rfl, hb2⟩
  have hQ2 : Hid (EndQ w2 W0.heap.size w1.heap.size e (.slice va e.q.length vc) (.slice vb e.o.length vd)) := EndQ.below hQ1.out hb2
  have P2 : Hid (PcC w2 41 (w.heap.size + 1) num ack s) := P1.out.below hb2
  have R2 : Hid (EndC w2 32 (w.heap.size + 2) 0 0 (.slice none 0 0) 0 (.slice none 0 0)) := R1.out.below hb2
  have B2 : Hid (Below w.heap.size w w2) := B1.out.trans (hb2.mono B1.out.size)
  have z2 : W1.heap.size ≤ w2.heap.size := hb2.size
  obtain ⟨p0, p1, p2⟩ := P2.out.cells
  clear a0 a1 a2 a3 a4 hQ1 hb2 R1 B1 P1 HR
  cases hok : okB e with
  | false =>
    have F : Hid (rcvB e (num, ack, s) = false ∧ rcvF e (num, ack, s) = e) := rcv_no (by unfold mayB; rw [hok]; rfl)
    obtain ⟨c0, c1, c2, c3, c4⟩ := hQ2.out.1.cells
    obtain ⟨r0, r1, r2, r3, r4⟩ := R2.out.cells
    have k0 := R2.out.frozen 0
    have k1 := R2.out.frozen 1
    have k2 := R2.out.frozen 2
    have k3 := R2.out.frozen 3
    have k4 := R2.out.frozen 4
    go_wp2_with fail
    show bodyPost _ _ _ _ _ (fillE w2 (w.heap.size + 2) e.nx e.ak (.slice va e.q.length vc) e.gt (.slice vb e.o.length vd))
    have K1 := fill_end R2.out e.nx e.ak e.gt (.slice va e.q.length vc) (.slice vb e.o.length vd)
    have K2 := fill_grown w2 (w.heap.size + 2) e.nx e.ak e.gt (.slice va e.q.length vc) (.slice vb e.o.length vd)
    have T1 := slt_grown hQ2.out.2.1 K2 (ne_low hQ2.out.2.1 (by omega))
    have T2 := slt_grown hQ2.out.2.2.1 K2 (ne_low hQ2.out.2.2.1 (by omega))
    have HBF := B2.out.trans (grown_to_below K2 (by omega) B2.out.size)
    generalize fillE w2 (w.heap.size + 2) e.nx e.ak (.slice va e.q.length vc) e.gt (.slice vb e.o.length vd) = W6 at *
    obtain ⟨q0, q1, q2, q3, q4⟩ := K1.cells
    refine bodyPost_ret (v := .tuple #[.agg #[.int .i64 e.nx, .int .i64 e.ak, (.slice va e.q.length vc), .int .i64 e.gt, (.slice vb e.o.length vd)], .bool false]) (by simp [results, Try.results23, go_sem, q0, q1, q2, q3, q4]) rfl ?_
    refine ⟨_, by rw [F.out.1], ?_, HBF⟩
    rw [F.out.2]
    exact ⟨_, _, rfl, Sl.down T1 (by omega), Sl.down T2 (by omega), hQ2.out.2.2.2.1⟩
  | true =>
    have hp := okB_true.1 hok
    by_cases hn : num < 0
    · have dn : decide (num < 0) = true := by simp; omega
      have F : Hid (rcvB e (num, ack, s) = false ∧ rcvF e (num, ack, s) = e) := rcv_no (by unfold mayB; rw [hok]; simp; omega)
      obtain ⟨c0, c1, c2, c3, c4⟩ := hQ2.out.1.cells
      obtain ⟨r0, r1, r2, r3, r4⟩ := R2.out.cells
      have k0 := R2.out.frozen 0
      have k1 := R2.out.frozen 1
      have k2 := R2.out.frozen 2
      have k3 := R2.out.frozen 3
      have k4 := R2.out.frozen 4
      go_wp2_with fail
      show bodyPost _ _ _ _ _ (fillE w2 (w.heap.size + 2) e.nx e.ak (.slice va e.q.length vc) e.gt (.slice vb e.o.length vd))
      have K1 := fill_end R2.out e.nx e.ak e.gt (.slice va e.q.length vc) (.slice vb e.o.length vd)
      have K2 := fill_grown w2 (w.heap.size + 2) e.nx e.ak e.gt (.slice va e.q.length vc) (.slice vb e.o.length vd)
      have T1 := slt_grown hQ2.out.2.1 K2 (ne_low hQ2.out.2.1 (by omega))
      have T2 := slt_grown hQ2.out.2.2.1 K2 (ne_low hQ2.out.2.2.1 (by omega))
      have HBF := B2.out.trans (grown_to_below K2 (by omega) B2.out.size)
      generalize fillE w2 (w.heap.size + 2) e.nx e.ak (.slice va e.q.length vc) e.gt (.slice vb e.o.length vd) = W6 at *
      obtain ⟨q0, q1, q2, q3, q4⟩ := K1.cells
      refine bodyPost_ret (v := .tuple #[.agg #[.int .i64 e.nx, .int .i64 e.ak, (.slice va e.q.length vc), .int .i64 e.gt, (.slice vb e.o.length vd)], .bool false]) (by simp [results, Try.results23, go_sem, q0, q1, q2, q3, q4]) rfl ?_
      refine ⟨_, by rw [F.out.1], ?_, HBF⟩
      rw [F.out.2]
      exact ⟨_, _, rfl, Sl.down T1 (by omega), Sl.down T2 (by omega), hQ2.out.2.2.2.1⟩
    have dn : decide (num < 0) = false := by simp; omega
    by_cases hl : 60 < s.size
    · have dl : decide (60 < (s.size : Int)) = true := by simp; omega
      have F : Hid (rcvB e (num, ack, s) = false ∧ rcvF e (num, ack, s) = e) := rcv_no (by unfold mayB; rw [hok]; simp; omega)
      obtain ⟨c0, c1, c2, c3, c4⟩ := hQ2.out.1.cells
      obtain ⟨r0, r1, r2, r3, r4⟩ := R2.out.cells
      have k0 := R2.out.frozen 0
      have k1 := R2.out.frozen 1
      have k2 := R2.out.frozen 2
      have k3 := R2.out.frozen 3
      have k4 := R2.out.frozen 4
      go_wp2_with fail
      show bodyPost _ _ _ _ _ (fillE w2 (w.heap.size + 2) e.nx e.ak (.slice va e.q.length vc) e.gt (.slice vb e.o.length vd))
      have K1 := fill_end R2.out e.nx e.ak e.gt (.slice va e.q.length vc) (.slice vb e.o.length vd)
      have K2 := fill_grown w2 (w.heap.size + 2) e.nx e.ak e.gt (.slice va e.q.length vc) (.slice vb e.o.length vd)
      have T1 := slt_grown hQ2.out.2.1 K2 (ne_low hQ2.out.2.1 (by omega))
      have T2 := slt_grown hQ2.out.2.2.1 K2 (ne_low hQ2.out.2.2.1 (by omega))
      have HBF := B2.out.trans (grown_to_below K2 (by omega) B2.out.size)
      generalize fillE w2 (w.heap.size + 2) e.nx e.ak (.slice va e.q.length vc) e.gt (.slice vb e.o.length vd) = W6 at *
      obtain ⟨q0, q1, q2, q3, q4⟩ := K1.cells
      refine bodyPost_ret (v := .tuple #[.agg #[.int .i64 e.nx, .int .i64 e.ak, (.slice va e.q.length vc), .int .i64 e.gt, (.slice vb e.o.length vd)], .bool false]) (by simp [results, Try.results23, go_sem, q0, q1, q2, q3, q4]) rfl ?_
      refine ⟨_, by rw [F.out.1], ?_, HBF⟩
      rw [F.out.2]
      exact ⟨_, _, rfl, Sl.down T1 (by omega), Sl.down T2 (by omega), hQ2.out.2.2.2.1⟩
    have dl : decide (60 < (s.size : Int)) = false := by simp; omega
    have F0 : Hid (rcvB e (num, ack, s) = takeB (ackE e ack) num ∧ rcvF e (num, ack, s) = takeE (ackE e ack) (num, ack, s)) := by
      have h := rcv_yes (e := e) (p := (num, ack, s)) (by unfold mayB; rw [hok]; simp; omega)
      have hg : (ackE e ack).gt = e.gt := by unfold ackE; split <;> rfl
      exact ⟨h.1.trans (by unfold recvB takeB; rw [hg]), h.2⟩
    have ha0 := hp.a0
    have ha1 := hp.a1
    have hn0 := hp.n0
    have hn1 := hp.n1
    have hq0 := hp.q0
    have hq1 := hp.q1
    have hg0 := hp.g0
    have hg1 := hp.g1
    obtain ⟨c0, c1, c2, c3, c4⟩ := hQ2.out.1.cells
    by_cases hA : e.ak < ack ∧ ack ≤ e.nx
    · have d1 : decide (e.ak < ack) = true := by simp; omega
      have d2 : decide (ack ≤ e.nx) = true := by simp; omega
      obtain ⟨k, hk⟩ : ∃ k : Nat, k = (ack - e.ak).toNat := ⟨_, rfl⟩
      have ww : IntKind.i64.wrap (ack - e.ak) = (k : Int) := by rw [IntKind.wrap_i64]; omega
      have hkq : k ≤ e.q.length := by omega
      have hqc : e.q.length ≤ vc := slice_cap hQ2.out.2.1
      have hqc2 : k ≤ vc := by omega
      have hq1' : (0 : Int) ≤ (k : Int) := by omega
      have hq2 : (k : Int) ≤ (e.q.length : Int) := by omega
      have HK : Hid (k = (ack - e.ak).toNat) := hk
      clear hk
      by_cases hvk : vc = k
      · subst hvk
        have h00 : e.q.length - vc = 0 := by omega
        have hbo : Below w2.heap.size w2 (w2.alloc (.cells #[] 9)) := (Below.refl _ _).alloc (Nat.le_refl _) _
        have QQ := EndQ.below hQ2.out hbo
        have PP := P2.out.below hbo
        obtain ⟨e0, e1, e2, e3, e4⟩ := QQ.1.cells
        obtain ⟨o0, o1, o2⟩ := PP.cells
        have hcut : SlT (w2.alloc (.cells #[] 9)) W0.heap.size (.slice va 0 0) (e.q.drop vc) := by
          have h := Sl.sliced QQ.2.1 hkq
          unfold SlT
          rw [List.length_drop, List.map_drop]
          simpa [h00] using h
        have hm : Sl (w2.alloc (.cells #[] 9)) 9 1 w2.heap.size (.slice (some ⟨w2.heap.size, 0, none⟩) 0 0) 0 [] := Sl.made w2 9 1 w2.heap.size (Nat.le_refl _)
        have HQQ : Hid _ := QQ
        have HPP : Hid _ := PP
        have Hcut : Hid _ := hcut
        clear QQ PP hcut
        go_wp2_with (at_builtin; refine Stop.mk ?_)
        refine Stop.go ?_
        have hzo : (w2.alloc (.cells #[] 9)).heap.size = w2.heap.size + 1 := by simp
        refine wpList_appendS rfl _ _ 24 rfl (.string ⟨#[]⟩) 16 Try.underlying24 Try.info9 rfl (by rfl) hm _ (e.q.drop vc).length ((e.q.drop vc).map Value.string) (by rfl) (SlT.src (show SlT (w2.alloc (.cells #[] 9)) W0.heap.size (.slice va 0 0) (e.q.drop vc) from Hcut.out) Try.underlying24) (by unfold maxLen; simp; omega) (by simp; omega) (by omega) ?_
        intro v3 w3 s3 g3 l3
        rw [Nat.zero_add, List.nil_append] at s3
        replace g3 : World.grownBy _ w3 (some w2.heap.size) := g3
        have hdk : ackE e ack = ⟨e.nx, ack, e.q.drop vc, e.gt, e.o⟩ := by unfold ackE; rw [if_pos hA, HK.out]
        have qlt : ∀ j, (Value.slice va e.q.length vc).ownBlock = some j → j < w2.heap.size := fun j hj => (Sl.lt hQ2.out.2.1 j hj).2
        have olt : ∀ j, (Value.slice vb e.o.length vd).ownBlock = some j → j < w2.heap.size := fun j hj => (Sl.lt hQ2.out.2.2.1 j hj).2
        have Q3 : EndQ w3 W0.heap.size w1.heap.size e (.slice va e.q.length vc) (.slice vb e.o.length vd) := EndQ.kept (show EndQ (w2.alloc (.cells #[] 9)) W0.heap.size w1.heap.size e (.slice va e.q.length vc) (.slice vb e.o.length vd) from HQQ.out) g3 (by simp; omega) (fun j hj => by have := qlt j hj; simp; omega) (fun j hj => by have := olt j hj; simp; omega)
        have P3 : PcC w3 41 (w.heap.size + 1) num ack s := PcC.kept (show PcC (w2.alloc (.cells #[] 9)) 41 (w.heap.size + 1) num ack s from HPP.out) g3 (by simp; omega)
        have R3 : EndC w3 32 (w.heap.size + 2) 0 0 (.slice none 0 0) 0 (.slice none 0 0) := EndC.kept (R2.out.below hbo) g3 (by simp; omega)
        have B3 : Below w.heap.size w w3 := (B2.out.trans (hbo.mono (by omega))).trans (grown_to_below g3 (by omega) (by omega))
        have s3' : SlT w3 W0.heap.size v3 (e.q.drop vc) := Sl.down (show SlT w3 w2.heap.size v3 (e.q.drop vc) from s3) (by omega)
        have n3 : v3.ownBlock ≠ some w1.heap.size := fun he => by have := (Sl.lt s3 _ he).1; omega
        have dj3 : Dj v3 (.slice vb e.o.length vd) := fun j h1 h2 => by have := (Sl.lt s3 _ h1).1; have := olt j h2; omega
        have Q5 : Hid (EndQ ((w3.setCell ⟨w1.heap.size, 2, none⟩ v3).setCell ⟨w1.heap.size, 1, none⟩ (.int .i64 ack)) W0.heap.size w1.heap.size (ackE e ack) v3 (.slice vb e.o.length vd)) := by
          show EndQ _ _ _ _ _ _
          rw [hdk]
          exact requeued Q3 ack s3' n3 dj3
        have P5 : Hid (PcC ((w3.setCell ⟨w1.heap.size, 2, none⟩ v3).setCell ⟨w1.heap.size, 1, none⟩ (.int .i64 ack)) 41 (w.heap.size + 1) num ack s) := (P3.kept (grown_cell _ _ _ _) (by simp; omega)).kept (grown_cell _ _ _ _) (by simp; omega)
        have R5 : Hid (EndC ((w3.setCell ⟨w1.heap.size, 2, none⟩ v3).setCell ⟨w1.heap.size, 1, none⟩ (.int .i64 ack)) 32 (w.heap.size + 2) 0 0 (.slice none 0 0) 0 (.slice none 0 0)) := (R3.other (by omega)).other (by omega)
        have B5 : Hid (Below w.heap.size w ((w3.setCell ⟨w1.heap.size, 2, none⟩ v3).setCell ⟨w1.heap.size, 1, none⟩ (.int .i64 ack))) := (B3.setCell (show w.heap.size ≤ w1.heap.size by omega) _).setCell (show w.heap.size ≤ w1.heap.size by omega) _
        have z5 : w2.heap.size + 1 ≤ ((w3.setCell ⟨w1.heap.size, 2, none⟩ v3).setCell ⟨w1.heap.size, 1, none⟩ (.int .i64 ack)).heap.size := by have := g3.size; simp [World.setCell]; omega
        have f2 := Q3.1.frozen 2
        have g2 := Q3.1.cells.2.2.1
        have E4 := Q3.1.set2 v3
        have f1 := E4.frozen 1
        have g1 := E4.cells.2.1
        have o4 := (P3.kept (grown_cell w3 w1.heap.size 2 v3) (by simp; omega)).cells.2.1
        clear Q3 P3 R3 B3 s3' s3 g3 l3 n3 dj3 E4 hdk HQQ HPP Hcut hm hbo e0 e1 e2 e3 e4 o0 o1 o2 c0 c1 c2 c3 c4 p0 p1 p2 hQ2 P2 R2 B2
        obtain ⟨f, hf⟩ : ∃ f, f = ackE e ack := ⟨_, rfl⟩
        have fg : f.gt = e.gt := by rw [hf]; unfold ackE; split <;> rfl
        have fo : f.o = e.o := by rw [hf]; unfold ackE; split <;> rfl
        have fol : f.o.length ≤ 1048576 := by rw [fo]; exact lo
        have fg0 : 0 ≤ f.gt ∧ f.gt ≤ 1000 := by omega
        have F1 : Hid (rcvB e (num, ack, s) = takeB f num ∧ rcvF e (num, ack, s) = takeE f (num, ack, s)) := by rw [hf]; exact F0.out
        rw [← hf] at Q5
        rw [← show f.o.length = e.o.length by rw [fo]] at Q5
        clear hf fo fg F0
        have wg : IntKind.i64.wrap (f.gt + 1) = f.gt + 1 := by rw [IntKind.wrap_i64]; omega
        obtain ⟨ua, uc, rfl⟩ := Sl.form Q5.out.2.1
        by_cases hN : num = f.gt + 1
        · subst hN
          by_cases hG : f.gt < 1000
          · have dG : decide (1000 ≤ f.gt) = false := by simp; omega
            have F : Hid (rcvB e (f.gt + 1, ack, s) = true ∧ rcvF e (f.gt + 1, ack, s) = ⟨f.nx, f.ak, f.q, f.gt + 1, f.o ++ [s]⟩) := ⟨F1.out.1.trans (by unfold takeB; simp; omega), F1.out.2.trans (by unfold takeE takeB; simp; omega)⟩
            obtain ⟨c0, c1, c2, c3, c4⟩ := Q5.out.1.cells
            obtain ⟨p0, p1, p2⟩ := P5.out.cells
            have hbo : ∀ o : Obj, Below ((w3.setCell ⟨w1.heap.size, 2, none⟩ (.slice ua f.q.length uc)).setCell ⟨w1.heap.size, 1, none⟩ (.int .i64 ack)).heap.size ((w3.setCell ⟨w1.heap.size, 2, none⟩ (.slice ua f.q.length uc)).setCell ⟨w1.heap.size, 1, none⟩ (.int .i64 ack)) (((w3.setCell ⟨w1.heap.size, 2, none⟩ (.slice ua f.q.length uc)).setCell ⟨w1.heap.size, 1, none⟩ (.int .i64 ack)).alloc o) := fun o => (Below.refl _ _).alloc (Nat.le_refl _) o
            have hsz : ((w3.setCell ⟨w1.heap.size, 2, none⟩ (.slice ua f.q.length uc)).setCell ⟨w1.heap.size, 1, none⟩ (.int .i64 ack)).heap.size = w3.heap.size := by simp [World.setCell]
            go_wp2_with (at_builtin; refine Stop.mk ?_)
            refine Stop.go ?_
            refine wpList_pushT rfl _ _ 24 rfl Try.underlying24 Try.info9 (by rfl) Q5.out.2.2.1 s hsz (by rfl) (by omega) (by omega) ?_
            intro v4 w4 S4 G4 Z4 L4
            have PU := pushed Q5.out (f.gt + 1) S4 G4 (Nat.le_of_eq hsz) L4
            have hne : ∀ j, (Value.slice vb f.o.length vd).ownBlock = some j → W0.heap.size ≤ j := fun j hj => (Sl.lt Q5.out.2.2.1 j hj).1
            have X4 := EndC.kept Q5.out.1 G4 (fun he => Q5.out.2.2.2.2.2.2 he.symm)
            have R4 := EndC.kept R5.out G4 (fun he => by have := hne _ he.symm; omega)
            obtain ⟨xa, xc, rfl⟩ := Sl.form S4
            generalize (f.o ++ [s]).length = N at *
            have c44 := X4.cells.2.2.2.2
            have f44 := X4.frozen 4
            have E5 := X4.set4 (Value.slice xa N xc)
            have c53 := E5.cells.2.2.2.1
            have f53 := E5.frozen 3
            have Q6 : Hid (EndQ ((w4.setCell ⟨w1.heap.size, 4, none⟩ (.slice xa N xc)).setCell ⟨w1.heap.size, 3, none⟩ (.int .i64 (f.gt + 1))) W0.heap.size w1.heap.size ⟨f.nx, f.ak, f.q, f.gt + 1, f.o ++ [s]⟩ (.slice ua f.q.length uc) (.slice xa N xc)) := PU.1
            have R6 : Hid (EndC ((w4.setCell ⟨w1.heap.size, 4, none⟩ (.slice xa N xc)).setCell ⟨w1.heap.size, 3, none⟩ (.int .i64 (f.gt + 1))) 32 (w.heap.size + 2) 0 0 (.slice none 0 0) 0 (.slice none 0 0)) := (R4.other (by omega)).other (by omega)
            have B6 : Hid (Below w.heap.size w ((w4.setCell ⟨w1.heap.size, 4, none⟩ (.slice xa N xc)).setCell ⟨w1.heap.size, 3, none⟩ (.int .i64 (f.gt + 1)))) := B5.out.trans (PU.2.mono (by omega))
            obtain ⟨d0, d1, d2, d3, d4⟩ := PU.1.1.cells
            dsimp only at d0 d1 d2 d3 d4
            clear PU X4 R4 S4 G4 L4 E5 Q5 R5 B5 c0 c1 c2 c3 c4 p0 p1 p2 hbo hne
            obtain ⟨r0, r1, r2, r3, r4⟩ := R6.out.cells
            have k0 := R6.out.frozen 0
            have k1 := R6.out.frozen 1
            have k2 := R6.out.frozen 2
            have k3 := R6.out.frozen 3
            have k4 := R6.out.frozen 4
            go_wp2_with fail
            show bodyPost _ _ _ _ _ (fillE ((w4.setCell ⟨w1.heap.size, 4, none⟩ (.slice xa N xc)).setCell ⟨w1.heap.size, 3, none⟩ (.int .i64 (f.gt + 1))) (w.heap.size + 2) f.nx f.ak (.slice ua f.q.length uc) (f.gt + 1) (.slice xa N xc))
            have K1 := fill_end R6.out f.nx f.ak (f.gt + 1) (.slice ua f.q.length uc) (.slice xa N xc)
            have K2 := fill_grown ((w4.setCell ⟨w1.heap.size, 4, none⟩ (.slice xa N xc)).setCell ⟨w1.heap.size, 3, none⟩ (.int .i64 (f.gt + 1))) (w.heap.size + 2) f.nx f.ak (f.gt + 1) (.slice ua f.q.length uc) (.slice xa N xc)
            have T1 := slt_grown Q6.out.2.1 K2 (ne_low Q6.out.2.1 (by omega))
            have T2 := slt_grown Q6.out.2.2.1 K2 (ne_low Q6.out.2.2.1 (by omega))
            have HBF := B6.out.trans (grown_to_below K2 (by omega) B6.out.size)
            generalize fillE ((w4.setCell ⟨w1.heap.size, 4, none⟩ (.slice xa N xc)).setCell ⟨w1.heap.size, 3, none⟩ (.int .i64 (f.gt + 1))) (w.heap.size + 2) f.nx f.ak (.slice ua f.q.length uc) (f.gt + 1) (.slice xa N xc) = W6 at *
            obtain ⟨q0, q1, q2, q3, q4⟩ := K1.cells
            refine bodyPost_ret (v := .tuple #[.agg #[.int .i64 f.nx, .int .i64 f.ak, (.slice ua f.q.length uc), .int .i64 (f.gt + 1), (.slice xa N xc)], .bool true]) (by simp [results, Try.results23, go_sem, q0, q1, q2, q3, q4]) rfl ?_
            refine ⟨_, by rw [F.out.1], ?_, HBF⟩
            rw [F.out.2]
            exact ⟨_, _, rfl, Sl.down T1 (by omega), Sl.down T2 (by omega), Q6.out.2.2.2.1⟩
          · have dG : decide (1000 ≤ f.gt) = true := by simp; omega
            have F : Hid (rcvB e (f.gt + 1, ack, s) = false ∧ rcvF e (f.gt + 1, ack, s) = f) := ⟨F1.out.1.trans (by unfold takeB; simp; omega), F1.out.2.trans (by unfold takeE takeB; simp; omega)⟩
            obtain ⟨p0, p1, p2⟩ := P5.out.cells
            obtain ⟨c0, c1, c2, c3, c4⟩ := Q5.out.1.cells
            obtain ⟨r0, r1, r2, r3, r4⟩ := R5.out.cells
            have k0 := R5.out.frozen 0
            have k1 := R5.out.frozen 1
            have k2 := R5.out.frozen 2
            have k3 := R5.out.frozen 3
            have k4 := R5.out.frozen 4
            go_wp2_with fail
            show bodyPost _ _ _ _ _ (fillE ((w3.setCell ⟨w1.heap.size, 2, none⟩ (.slice ua f.q.length uc)).setCell ⟨w1.heap.size, 1, none⟩ (.int .i64 ack)) (w.heap.size + 2) f.nx f.ak (.slice ua f.q.length uc) f.gt (.slice vb f.o.length vd))
            have K1 := fill_end R5.out f.nx f.ak f.gt (.slice ua f.q.length uc) (.slice vb f.o.length vd)
            have K2 := fill_grown ((w3.setCell ⟨w1.heap.size, 2, none⟩ (.slice ua f.q.length uc)).setCell ⟨w1.heap.size, 1, none⟩ (.int .i64 ack)) (w.heap.size + 2) f.nx f.ak f.gt (.slice ua f.q.length uc) (.slice vb f.o.length vd)
            have T1 := slt_grown Q5.out.2.1 K2 (ne_low Q5.out.2.1 (by omega))
            have T2 := slt_grown Q5.out.2.2.1 K2 (ne_low Q5.out.2.2.1 (by omega))
            have HBF := B5.out.trans (grown_to_below K2 (by omega) B5.out.size)
            generalize fillE ((w3.setCell ⟨w1.heap.size, 2, none⟩ (.slice ua f.q.length uc)).setCell ⟨w1.heap.size, 1, none⟩ (.int .i64 ack)) (w.heap.size + 2) f.nx f.ak (.slice ua f.q.length uc) f.gt (.slice vb f.o.length vd) = W6 at *
            obtain ⟨q0, q1, q2, q3, q4⟩ := K1.cells
            refine bodyPost_ret (v := .tuple #[.agg #[.int .i64 f.nx, .int .i64 f.ak, (.slice ua f.q.length uc), .int .i64 f.gt, (.slice vb f.o.length vd)], .bool false]) (by simp [results, Try.results23, go_sem, q0, q1, q2, q3, q4]) rfl ?_
            refine ⟨_, by rw [F.out.1], ?_, HBF⟩
            rw [F.out.2]
            exact ⟨_, _, rfl, Sl.down T1 (by omega), Sl.down T2 (by omega), Q5.out.2.2.2.1⟩
        · have dN : decide (num = f.gt + 1) = false := by simp; omega
          have F : Hid (rcvB e (num, ack, s) = false ∧ rcvF e (num, ack, s) = f) := ⟨F1.out.1.trans (by unfold takeB; simp; omega), F1.out.2.trans (by unfold takeE takeB; simp; omega)⟩
          obtain ⟨p0, p1, p2⟩ := P5.out.cells
          obtain ⟨c0, c1, c2, c3, c4⟩ := Q5.out.1.cells
          obtain ⟨r0, r1, r2, r3, r4⟩ := R5.out.cells
          have k0 := R5.out.frozen 0
          have k1 := R5.out.frozen 1
          have k2 := R5.out.frozen 2
          have k3 := R5.out.frozen 3
          have k4 := R5.out.frozen 4
          go_wp2_with fail
          show bodyPost _ _ _ _ _ (fillE ((w3.setCell ⟨w1.heap.size, 2, none⟩ (.slice ua f.q.length uc)).setCell ⟨w1.heap.size, 1, none⟩ (.int .i64 ack)) (w.heap.size + 2) f.nx f.ak (.slice ua f.q.length uc) f.gt (.slice vb f.o.length vd))
          have K1 := fill_end R5.out f.nx f.ak f.gt (.slice ua f.q.length uc) (.slice vb f.o.length vd)
          have K2 := fill_grown ((w3.setCell ⟨w1.heap.size, 2, none⟩ (.slice ua f.q.length uc)).setCell ⟨w1.heap.size, 1, none⟩ (.int .i64 ack)) (w.heap.size + 2) f.nx f.ak f.gt (.slice ua f.q.length uc) (.slice vb f.o.length vd)
          have T1 := slt_grown Q5.out.2.1 K2 (ne_low Q5.out.2.1 (by omega))
          have T2 := slt_grown Q5.out.2.2.1 K2 (ne_low Q5.out.2.2.1 (by omega))
          have HBF := B5.out.trans (grown_to_below K2 (by omega) B5.out.size)
          generalize fillE ((w3.setCell ⟨w1.heap.size, 2, none⟩ (.slice ua f.q.length uc)).setCell ⟨w1.heap.size, 1, none⟩ (.int .i64 ack)) (w.heap.size + 2) f.nx f.ak (.slice ua f.q.length uc) f.gt (.slice vb f.o.length vd) = W6 at *
          obtain ⟨q0, q1, q2, q3, q4⟩ := K1.cells
          refine bodyPost_ret (v := .tuple #[.agg #[.int .i64 f.nx, .int .i64 f.ak, (.slice ua f.q.length uc), .int .i64 f.gt, (.slice vb f.o.length vd)], .bool false]) (by simp [results, Try.results23, go_sem, q0, q1, q2, q3, q4]) rfl ?_
          refine ⟨_, by rw [F.out.1], ?_, HBF⟩
          rw [F.out.2]
          exact ⟨_, _, rfl, Sl.down T1 (by omega), Sl.down T2 (by omega), Q5.out.2.2.2.1⟩
      · have hbo : Below w2.heap.size w2 (w2.alloc (.cells #[] 9)) := (Below.refl _ _).alloc (Nat.le_refl _) _
        have QQ := EndQ.below hQ2.out hbo
        have PP := P2.out.below hbo
        obtain ⟨e0, e1, e2, e3, e4⟩ := QQ.1.cells
        obtain ⟨o0, o1, o2⟩ := PP.cells
        have hcut : SlT (w2.alloc (.cells #[] 9)) W0.heap.size (.slice (va.map (·.add k)) (e.q.length - k) (vc - k)) (e.q.drop k) := by
          have h := Sl.sliced QQ.2.1 hkq
          unfold SlT
          rw [List.length_drop, List.map_drop]
          simpa [hvk] using h
        have hm : Sl (w2.alloc (.cells #[] 9)) 9 1 w2.heap.size (.slice (some ⟨w2.heap.size, 0, none⟩) 0 0) 0 [] := Sl.made w2 9 1 w2.heap.size (Nat.le_refl _)
        have HQQ : Hid _ := QQ
        have HPP : Hid _ := PP
        have Hcut : Hid _ := hcut
        clear QQ PP hcut
        go_wp2_with (at_builtin; refine Stop.mk ?_)
        refine Stop.go ?_
        have hzo : (w2.alloc (.cells #[] 9)).heap.size = w2.heap.size + 1 := by simp
        refine wpList_appendS rfl _ _ 24 rfl (.string ⟨#[]⟩) 16 Try.underlying24 Try.info9 rfl (by rfl) hm _ (e.q.drop k).length ((e.q.drop k).map Value.string) (by rfl) (SlT.src (show SlT (w2.alloc (.cells #[] 9)) W0.heap.size (.slice (va.map (·.add k)) (e.q.length - k) (vc - k)) (e.q.drop k) from Hcut.out) Try.underlying24) (by unfold maxLen; simp; omega) (by simp; omega) (by omega) ?_
        intro v3 w3 s3 g3 l3
        rw [Nat.zero_add, List.nil_append] at s3
        replace g3 : World.grownBy _ w3 (some w2.heap.size) := g3
        have hdk : ackE e ack = ⟨e.nx, ack, e.q.drop k, e.gt, e.o⟩ := by unfold ackE; rw [if_pos hA, HK.out]
        have qlt : ∀ j, (Value.slice va e.q.length vc).ownBlock = some j → j < w2.heap.size := fun j hj => (Sl.lt hQ2.out.2.1 j hj).2
        have olt : ∀ j, (Value.slice vb e.o.length vd).ownBlock = some j → j < w2.heap.size := fun j hj => (Sl.lt hQ2.out.2.2.1 j hj).2
        have Q3 : EndQ w3 W0.heap.size w1.heap.size e (.slice va e.q.length vc) (.slice vb e.o.length vd) := EndQ.kept (show EndQ (w2.alloc (.cells #[] 9)) W0.heap.size w1.heap.size e (.slice va e.q.length vc) (.slice vb e.o.length vd) from HQQ.out) g3 (by simp; omega) (fun j hj => by have := qlt j hj; simp; omega) (fun j hj => by have := olt j hj; simp; omega)
        have P3 : PcC w3 41 (w.heap.size + 1) num ack s := PcC.kept (show PcC (w2.alloc (.cells #[] 9)) 41 (w.heap.size + 1) num ack s from HPP.out) g3 (by simp; omega)
        have R3 : EndC w3 32 (w.heap.size + 2) 0 0 (.slice none 0 0) 0 (.slice none 0 0) := EndC.kept (R2.out.below hbo) g3 (by simp; omega)
        have B3 : Below w.heap.size w w3 := (B2.out.trans (hbo.mono (by omega))).trans (grown_to_below g3 (by omega) (by omega))
        have s3' : SlT w3 W0.heap.size v3 (e.q.drop k) := Sl.down (show SlT w3 w2.heap.size v3 (e.q.drop k) from s3) (by omega)
        have n3 : v3.ownBlock ≠ some w1.heap.size := fun he => by have := (Sl.lt s3 _ he).1; omega
        have dj3 : Dj v3 (.slice vb e.o.length vd) := fun j h1 h2 => by have := (Sl.lt s3 _ h1).1; have := olt j h2; omega
        have Q5 : Hid (EndQ ((w3.setCell ⟨w1.heap.size, 2, none⟩ v3).setCell ⟨w1.heap.size, 1, none⟩ (.int .i64 ack)) W0.heap.size w1.heap.size (ackE e ack) v3 (.slice vb e.o.length vd)) := by
          show EndQ _ _ _ _ _ _
          rw [hdk]
          exact requeued Q3 ack s3' n3 dj3
        have P5 : Hid (PcC ((w3.setCell ⟨w1.heap.size, 2, none⟩ v3).setCell ⟨w1.heap.size, 1, none⟩ (.int .i64 ack)) 41 (w.heap.size + 1) num ack s) := (P3.kept (grown_cell _ _ _ _) (by simp; omega)).kept (grown_cell _ _ _ _) (by simp; omega)
        have R5 : Hid (EndC ((w3.setCell ⟨w1.heap.size, 2, none⟩ v3).setCell ⟨w1.heap.size, 1, none⟩ (.int .i64 ack)) 32 (w.heap.size + 2) 0 0 (.slice none 0 0) 0 (.slice none 0 0)) := (R3.other (by omega)).other (by omega)
        have B5 : Hid (Below w.heap.size w ((w3.setCell ⟨w1.heap.size, 2, none⟩ v3).setCell ⟨w1.heap.size, 1, none⟩ (.int .i64 ack))) := (B3.setCell (show w.heap.size ≤ w1.heap.size by omega) _).setCell (show w.heap.size ≤ w1.heap.size by omega) _
        have z5 : w2.heap.size + 1 ≤ ((w3.setCell ⟨w1.heap.size, 2, none⟩ v3).setCell ⟨w1.heap.size, 1, none⟩ (.int .i64 ack)).heap.size := by have := g3.size; simp [World.setCell]; omega
        have f2 := Q3.1.frozen 2
        have g2 := Q3.1.cells.2.2.1
        have E4 := Q3.1.set2 v3
        have f1 := E4.frozen 1
        have g1 := E4.cells.2.1
        have o4 := (P3.kept (grown_cell w3 w1.heap.size 2 v3) (by simp; omega)).cells.2.1
        clear Q3 P3 R3 B3 s3' s3 g3 l3 n3 dj3 E4 hdk HQQ HPP Hcut hm hbo e0 e1 e2 e3 e4 o0 o1 o2 c0 c1 c2 c3 c4 p0 p1 p2 hQ2 P2 R2 B2
        obtain ⟨f, hf⟩ : ∃ f, f = ackE e ack := ⟨_, rfl⟩
        have fg : f.gt = e.gt := by rw [hf]; unfold ackE; split <;> rfl
        have fo : f.o = e.o := by rw [hf]; unfold ackE; split <;> rfl
        have fol : f.o.length ≤ 1048576 := by rw [fo]; exact lo
        have fg0 : 0 ≤ f.gt ∧ f.gt ≤ 1000 := by omega
        have F1 : Hid (rcvB e (num, ack, s) = takeB f num ∧ rcvF e (num, ack, s) = takeE f (num, ack, s)) := by rw [hf]; exact F0.out
        rw [← hf] at Q5
        rw [← show f.o.length = e.o.length by rw [fo]] at Q5
        clear hf fo fg F0
        have wg : IntKind.i64.wrap (f.gt + 1) = f.gt + 1 := by rw [IntKind.wrap_i64]; omega
        obtain ⟨ua, uc, rfl⟩ := Sl.form Q5.out.2.1
        by_cases hN : num = f.gt + 1
        · subst hN
          by_cases hG : f.gt < 1000
          · have dG : decide (1000 ≤ f.gt) = false := by simp; omega
            have F : Hid (rcvB e (f.gt + 1, ack, s) = true ∧ rcvF e (f.gt + 1, ack, s) = ⟨f.nx, f.ak, f.q, f.gt + 1, f.o ++ [s]⟩) := ⟨F1.out.1.trans (by unfold takeB; simp; omega), F1.out.2.trans (by unfold takeE takeB; simp; omega)⟩
            obtain ⟨c0, c1, c2, c3, c4⟩ := Q5.out.1.cells
            obtain ⟨p0, p1, p2⟩ := P5.out.cells
            have hbo : ∀ o : Obj, Below ((w3.setCell ⟨w1.heap.size, 2, none⟩ (.slice ua f.q.length uc)).setCell ⟨w1.heap.size, 1, none⟩ (.int .i64 ack)).heap.size ((w3.setCell ⟨w1.heap.size, 2, none⟩ (.slice ua f.q.length uc)).setCell ⟨w1.heap.size, 1, none⟩ (.int .i64 ack)) (((w3.setCell ⟨w1.heap.size, 2, none⟩ (.slice ua f.q.length uc)).setCell ⟨w1.heap.size, 1, none⟩ (.int .i64 ack)).alloc o) := fun o => (Below.refl _ _).alloc (Nat.le_refl _) o
            have hsz : ((w3.setCell ⟨w1.heap.size, 2, none⟩ (.slice ua f.q.length uc)).setCell ⟨w1.heap.size, 1, none⟩ (.int .i64 ack)).heap.size = w3.heap.size := by simp [World.setCell]
            go_wp2_with (at_builtin; refine Stop.mk ?_)
            refine Stop.go ?_
            refine wpList_pushT rfl _ _ 24 rfl Try.underlying24 Try.info9 (by rfl) Q5.out.2.2.1 s hsz (by rfl) (by omega) (by omega) ?_
            intro v4 w4 S4 G4 Z4 L4
            have PU := pushed Q5.out (f.gt + 1) S4 G4 (Nat.le_of_eq hsz) L4
            have hne : ∀ j, (Value.slice vb f.o.length vd).ownBlock = some j → W0.heap.size ≤ j := fun j hj => (Sl.lt Q5.out.2.2.1 j hj).1
            have X4 := EndC.kept Q5.out.1 G4 (fun he => Q5.out.2.2.2.2.2.2 he.symm)
            have R4 := EndC.kept R5.out G4 (fun he => by have := hne _ he.symm; omega)
            obtain ⟨xa, xc, rfl⟩ := Sl.form S4
            generalize (f.o ++ [s]).length = N at *
            have c44 := X4.cells.2.2.2.2
            have f44 := X4.frozen 4
            have E5 := X4.set4 (Value.slice xa N xc)
            have c53 := E5.cells.2.2.2.1
            have f53 := E5.frozen 3
            have Q6 : Hid (EndQ ((w4.setCell ⟨w1.heap.size, 4, none⟩ (.slice xa N xc)).setCell ⟨w1.heap.size, 3, none⟩ (.int .i64 (f.gt + 1))) W0.heap.size w1.heap.size ⟨f.nx, f.ak, f.q, f.gt + 1, f.o ++ [s]⟩ (.slice ua f.q.length uc) (.slice xa N xc)) := PU.1
            have R6 : Hid (EndC ((w4.setCell ⟨w1.heap.size, 4, none⟩ (.slice xa N xc)).setCell ⟨w1.heap.size, 3, none⟩ (.int .i64 (f.gt + 1))) 32 (w.heap.size + 2) 0 0 (.slice none 0 0) 0 (.slice none 0 0)) := (R4.other (by omega)).other (by omega)
            have B6 : Hid (Below w.heap.size w ((w4.setCell ⟨w1.heap.size, 4, none⟩ (.slice xa N xc)).setCell ⟨w1.heap.size, 3, none⟩ (.int .i64 (f.gt + 1)))) := B5.out.trans (PU.2.mono (by omega))
            obtain ⟨d0, d1, d2, d3, d4⟩ := PU.1.1.cells
            dsimp only at d0 d1 d2 d3 d4
            clear PU X4 R4 S4 G4 L4 E5 Q5 R5 B5 c0 c1 c2 c3 c4 p0 p1 p2 hbo hne
            obtain ⟨r0, r1, r2, r3, r4⟩ := R6.out.cells
            have k0 := R6.out.frozen 0
            have k1 := R6.out.frozen 1
            have k2 := R6.out.frozen 2
            have k3 := R6.out.frozen 3
            have k4 := R6.out.frozen 4
            go_wp2_with fail
            show bodyPost _ _ _ _ _ (fillE ((w4.setCell ⟨w1.heap.size, 4, none⟩ (.slice xa N xc)).setCell ⟨w1.heap.size, 3, none⟩ (.int .i64 (f.gt + 1))) (w.heap.size + 2) f.nx f.ak (.slice ua f.q.length uc) (f.gt + 1) (.slice xa N xc))
            have K1 := fill_end R6.out f.nx f.ak (f.gt + 1) (.slice ua f.q.length uc) (.slice xa N xc)
            have K2 := fill_grown ((w4.setCell ⟨w1.heap.size, 4, none⟩ (.slice xa N xc)).setCell ⟨w1.heap.size, 3, none⟩ (.int .i64 (f.gt + 1))) (w.heap.size + 2) f.nx f.ak (f.gt + 1) (.slice ua f.q.length uc) (.slice xa N xc)
            have T1 := slt_grown Q6.out.2.1 K2 (ne_low Q6.out.2.1 (by omega))
            have T2 := slt_grown Q6.out.2.2.1 K2 (ne_low Q6.out.2.2.1 (by omega))
            have HBF := B6.out.trans (grown_to_below K2 (by omega) B6.out.size)
            generalize fillE ((w4.setCell ⟨w1.heap.size, 4, none⟩ (.slice xa N xc)).setCell ⟨w1.heap.size, 3, none⟩ (.int .i64 (f.gt + 1))) (w.heap.size + 2) f.nx f.ak (.slice ua f.q.length uc) (f.gt + 1) (.slice xa N xc) = W6 at *
            obtain ⟨q0, q1, q2, q3, q4⟩ := K1.cells
            refine bodyPost_ret (v := .tuple #[.agg #[.int .i64 f.nx, .int .i64 f.ak, (.slice ua f.q.length uc), .int .i64 (f.gt + 1), (.slice xa N xc)], .bool true]) (by simp [results, Try.results23, go_sem, q0, q1, q2, q3, q4]) rfl ?_
            refine ⟨_, by rw [F.out.1], ?_, HBF⟩
            rw [F.out.2]
            exact ⟨_, _, rfl, Sl.down T1 (by omega), Sl.down T2 (by omega), Q6.out.2.2.2.1⟩
          · have dG : decide (1000 ≤ f.gt) = true := by simp; omega
            have F : Hid (rcvB e (f.gt + 1, ack, s) = false ∧ rcvF e (f.gt + 1, ack, s) = f) := ⟨F1.out.1.trans (by unfold takeB; simp; omega), F1.out.2.trans (by unfold takeE takeB; simp; omega)⟩
            obtain ⟨p0, p1, p2⟩ := P5.out.cells
            obtain ⟨c0, c1, c2, c3, c4⟩ := Q5.out.1.cells
            obtain ⟨r0, r1, r2, r3, r4⟩ := R5.out.cells
            have k0 := R5.out.frozen 0
            have k1 := R5.out.frozen 1
            have k2 := R5.out.frozen 2
            have k3 := R5.out.frozen 3
            have k4 := R5.out.frozen 4
            go_wp2_with fail
            show bodyPost _ _ _ _ _ (fillE ((w3.setCell ⟨w1.heap.size, 2, none⟩ (.slice ua f.q.length uc)).setCell ⟨w1.heap.size, 1, none⟩ (.int .i64 ack)) (w.heap.size + 2) f.nx f.ak (.slice ua f.q.length uc) f.gt (.slice vb f.o.length vd))
            have K1 := fill_end R5.out f.nx f.ak f.gt (.slice ua f.q.length uc) (.slice vb f.o.length vd)
            have K2 := fill_grown ((w3.setCell ⟨w1.heap.size, 2, none⟩ (.slice ua f.q.length uc)).setCell ⟨w1.heap.size, 1, none⟩ (.int .i64 ack)) (w.heap.size + 2) f.nx f.ak f.gt (.slice ua f.q.length uc) (.slice vb f.o.length vd)
            have T1 := slt_grown Q5.out.2.1 K2 (ne_low Q5.out.2.1 (by omega))
            have T2 := slt_grown Q5.out.2.2.1 K2 (ne_low Q5.out.2.2.1 (by omega))
            have HBF := B5.out.trans (grown_to_below K2 (by omega) B5.out.size)
            generalize fillE ((w3.setCell ⟨w1.heap.size, 2, none⟩ (.slice ua f.q.length uc)).setCell ⟨w1.heap.size, 1, none⟩ (.int .i64 ack)) (w.heap.size + 2) f.nx f.ak (.slice ua f.q.length uc) f.gt (.slice vb f.o.length vd) = W6 at *
            obtain ⟨q0, q1, q2, q3, q4⟩ := K1.cells
            refine bodyPost_ret (v := .tuple #[.agg #[.int .i64 f.nx, .int .i64 f.ak, (.slice ua f.q.length uc), .int .i64 f.gt, (.slice vb f.o.length vd)], .bool false]) (by simp [results, Try.results23, go_sem, q0, q1, q2, q3, q4]) rfl ?_
            refine ⟨_, by rw [F.out.1], ?_, HBF⟩
            rw [F.out.2]
            exact ⟨_, _, rfl, Sl.down T1 (by omega), Sl.down T2 (by omega), Q5.out.2.2.2.1⟩
        · have dN : decide (num = f.gt + 1) = false := by simp; omega
          have F : Hid (rcvB e (num, ack, s) = false ∧ rcvF e (num, ack, s) = f) := ⟨F1.out.1.trans (by unfold takeB; simp; omega), F1.out.2.trans (by unfold takeE takeB; simp; omega)⟩
          obtain ⟨p0, p1, p2⟩ := P5.out.cells
          obtain ⟨c0, c1, c2, c3, c4⟩ := Q5.out.1.cells
          obtain ⟨r0, r1, r2, r3, r4⟩ := R5.out.cells
          have k0 := R5.out.frozen 0
          have k1 := R5.out.frozen 1
          have k2 := R5.out.frozen 2
          have k3 := R5.out.frozen 3
          have k4 := R5.out.frozen 4
          go_wp2_with fail
          show bodyPost _ _ _ _ _ (fillE ((w3.setCell ⟨w1.heap.size, 2, none⟩ (.slice ua f.q.length uc)).setCell ⟨w1.heap.size, 1, none⟩ (.int .i64 ack)) (w.heap.size + 2) f.nx f.ak (.slice ua f.q.length uc) f.gt (.slice vb f.o.length vd))
          have K1 := fill_end R5.out f.nx f.ak f.gt (.slice ua f.q.length uc) (.slice vb f.o.length vd)
          have K2 := fill_grown ((w3.setCell ⟨w1.heap.size, 2, none⟩ (.slice ua f.q.length uc)).setCell ⟨w1.heap.size, 1, none⟩ (.int .i64 ack)) (w.heap.size + 2) f.nx f.ak f.gt (.slice ua f.q.length uc) (.slice vb f.o.length vd)
          have T1 := slt_grown Q5.out.2.1 K2 (ne_low Q5.out.2.1 (by omega))
          have T2 := slt_grown Q5.out.2.2.1 K2 (ne_low Q5.out.2.2.1 (by omega))
          have HBF := B5.out.trans (grown_to_below K2 (by omega) B5.out.size)
          generalize fillE ((w3.setCell ⟨w1.heap.size, 2, none⟩ (.slice ua f.q.length uc)).setCell ⟨w1.heap.size, 1, none⟩ (.int .i64 ack)) (w.heap.size + 2) f.nx f.ak (.slice ua f.q.length uc) f.gt (.slice vb f.o.length vd) = W6 at *
          obtain ⟨q0, q1, q2, q3, q4⟩ := K1.cells
          refine bodyPost_ret (v := .tuple #[.agg #[.int .i64 f.nx, .int .i64 f.ak, (.slice ua f.q.length uc), .int .i64 f.gt, (.slice vb f.o.length vd)], .bool false]) (by simp [results, Try.results23, go_sem, q0, q1, q2, q3, q4]) rfl ?_
          refine ⟨_, by rw [F.out.1], ?_, HBF⟩
          rw [F.out.2]
          exact ⟨_, _, rfl, Sl.down T1 (by omega), Sl.down T2 (by omega), Q5.out.2.2.2.1⟩
    · have d1 : (decide (e.ak < ack) && decide (ack ≤ e.nx)) = false := by simp; omega
      have hae : ackE e ack = e := by unfold ackE; rw [if_neg hA]
      have F1 : Hid (rcvB e (num, ack, s) = takeB e num ∧ rcvF e (num, ack, s) = takeE e (num, ack, s)) := by have h := F0.out; rw [hae] at h; exact h
      have Q5 : Hid (EndQ w2 W0.heap.size w1.heap.size e (.slice va e.q.length vc) (.slice vb e.o.length vd)) := hQ2.out
      have R5 : Hid (EndC w2 32 (w.heap.size + 2) 0 0 (.slice none 0 0) 0 (.slice none 0 0)) := R2.out
      have B5 : Hid (Below w.heap.size w w2) := B2.out
      have P5 : Hid (PcC w2 41 (w.heap.size + 1) num ack s) := P2.out
      clear hQ2 R2 B2 P2 p0 p1 p2 c0 c1 c2 c3 c4 F0
      by_cases hA1 : e.ak < ack
      · have da : decide (e.ak < ack) = true := by simp; omega
        have db : decide (ack ≤ e.nx) = false := by simp; omega
        have wg : IntKind.i64.wrap (e.gt + 1) = e.gt + 1 := by rw [IntKind.wrap_i64]; omega
        by_cases hN : num = e.gt + 1
        · subst hN
          by_cases hG : e.gt < 1000
          · have dG : decide (1000 ≤ e.gt) = false := by simp; omega
            have F : Hid (rcvB e (e.gt + 1, ack, s) = true ∧ rcvF e (e.gt + 1, ack, s) = ⟨e.nx, e.ak, e.q, e.gt + 1, e.o ++ [s]⟩) := ⟨F1.out.1.trans (by unfold takeB; simp; omega), F1.out.2.trans (by unfold takeE takeB; simp; omega)⟩
            obtain ⟨c0, c1, c2, c3, c4⟩ := Q5.out.1.cells
            obtain ⟨p0, p1, p2⟩ := P5.out.cells
            have hbo : ∀ o : Obj, Below w2.heap.size w2 (w2.alloc o) := fun o => (Below.refl _ _).alloc (Nat.le_refl _) o
            go_wp2_with (at_builtin; refine Stop.mk ?_)
            refine Stop.go ?_
            refine wpList_pushT rfl _ _ 24 rfl Try.underlying24 Try.info9 (by rfl) Q5.out.2.2.1 s rfl (by rfl) (by omega) (by omega) ?_
            intro v4 w4 S4 G4 Z4 L4
            have PU := pushed Q5.out (e.gt + 1) S4 G4 (Nat.le_refl _) L4
            have hne : ∀ j, (Value.slice vb e.o.length vd).ownBlock = some j → W0.heap.size ≤ j := fun j hj => (Sl.lt Q5.out.2.2.1 j hj).1
            have X4 := EndC.kept Q5.out.1 G4 (fun he => Q5.out.2.2.2.2.2.2 he.symm)
            have R4 := EndC.kept R5.out G4 (fun he => by have := hne _ he.symm; omega)
            obtain ⟨xa, xc, rfl⟩ := Sl.form S4
            generalize (e.o ++ [s]).length = N at *
            have c44 := X4.cells.2.2.2.2
            have f44 := X4.frozen 4
            have E5 := X4.set4 (Value.slice xa N xc)
            have c53 := E5.cells.2.2.2.1
            have f53 := E5.frozen 3
            have Q6 : Hid (EndQ ((w4.setCell ⟨w1.heap.size, 4, none⟩ (.slice xa N xc)).setCell ⟨w1.heap.size, 3, none⟩ (.int .i64 (e.gt + 1))) W0.heap.size w1.heap.size ⟨e.nx, e.ak, e.q, e.gt + 1, e.o ++ [s]⟩ (.slice va e.q.length vc) (.slice xa N xc)) := PU.1
            have R6 : Hid (EndC ((w4.setCell ⟨w1.heap.size, 4, none⟩ (.slice xa N xc)).setCell ⟨w1.heap.size, 3, none⟩ (.int .i64 (e.gt + 1))) 32 (w.heap.size + 2) 0 0 (.slice none 0 0) 0 (.slice none 0 0)) := (R4.other (by omega)).other (by omega)
            have B6 : Hid (Below w.heap.size w ((w4.setCell ⟨w1.heap.size, 4, none⟩ (.slice xa N xc)).setCell ⟨w1.heap.size, 3, none⟩ (.int .i64 (e.gt + 1)))) := B5.out.trans (PU.2.mono (by omega))
            obtain ⟨d0, d1, d2, d3, d4⟩ := PU.1.1.cells
            dsimp only at d0 d1 d2 d3 d4
            clear PU X4 R4 S4 G4 L4 E5 Q5 R5 B5 c0 c1 c2 c3 c4 p0 p1 p2 hbo hne
            obtain ⟨r0, r1, r2, r3, r4⟩ := R6.out.cells
            have k0 := R6.out.frozen 0
            have k1 := R6.out.frozen 1
            have k2 := R6.out.frozen 2
            have k3 := R6.out.frozen 3
            have k4 := R6.out.frozen 4
            go_wp2_with fail
            show bodyPost _ _ _ _ _ (fillE ((w4.setCell ⟨w1.heap.size, 4, none⟩ (.slice xa N xc)).setCell ⟨w1.heap.size, 3, none⟩ (.int .i64 (e.gt + 1))) (w.heap.size + 2) e.nx e.ak (.slice va e.q.length vc) (e.gt + 1) (.slice xa N xc))
            have K1 := fill_end R6.out e.nx e.ak (e.gt + 1) (.slice va e.q.length vc) (.slice xa N xc)
            have K2 := fill_grown ((w4.setCell ⟨w1.heap.size, 4, none⟩ (.slice xa N xc)).setCell ⟨w1.heap.size, 3, none⟩ (.int .i64 (e.gt + 1))) (w.heap.size + 2) e.nx e.ak (e.gt + 1) (.slice va e.q.length vc) (.slice xa N xc)
            have T1 := slt_grown Q6.out.2.1 K2 (ne_low Q6.out.2.1 (by omega))
            have T2 := slt_grown Q6.out.2.2.1 K2 (ne_low Q6.out.2.2.1 (by omega))
            have HBF := B6.out.trans (grown_to_below K2 (by omega) B6.out.size)
            generalize fillE ((w4.setCell ⟨w1.heap.size, 4, none⟩ (.slice xa N xc)).setCell ⟨w1.heap.size, 3, none⟩ (.int .i64 (e.gt + 1))) (w.heap.size + 2) e.nx e.ak (.slice va e.q.length vc) (e.gt + 1) (.slice xa N xc) = W6 at *
            obtain ⟨q0, q1, q2, q3, q4⟩ := K1.cells
            refine bodyPost_ret (v := .tuple #[.agg #[.int .i64 e.nx, .int .i64 e.ak, (.slice va e.q.length vc), .int .i64 (e.gt + 1), (.slice xa N xc)], .bool true]) (by simp [results, Try.results23, go_sem, q0, q1, q2, q3, q4]) rfl ?_
            refine ⟨_, by rw [F.out.1], ?_, HBF⟩
            rw [F.out.2]
            exact ⟨_, _, rfl, Sl.down T1 (by omega), Sl.down T2 (by omega), Q6.out.2.2.2.1⟩
          · have dG : decide (1000 ≤ e.gt) = true := by simp; omega
            have F : Hid (rcvB e (e.gt + 1, ack, s) = false ∧ rcvF e (e.gt + 1, ack, s) = e) := ⟨F1.out.1.trans (by unfold takeB; simp; omega), F1.out.2.trans (by unfold takeE takeB; simp; omega)⟩
            obtain ⟨p0, p1, p2⟩ := P5.out.cells
            obtain ⟨c0, c1, c2, c3, c4⟩ := Q5.out.1.cells
            obtain ⟨r0, r1, r2, r3, r4⟩ := R5.out.cells
            have k0 := R5.out.frozen 0
            have k1 := R5.out.frozen 1
            have k2 := R5.out.frozen 2
            have k3 := R5.out.frozen 3
            have k4 := R5.out.frozen 4
            go_wp2_with fail
            show bodyPost _ _ _ _ _ (fillE w2 (w.heap.size + 2) e.nx e.ak (.slice va e.q.length vc) e.gt (.slice vb e.o.length vd))
            have K1 := fill_end R5.out e.nx e.ak e.gt (.slice va e.q.length vc) (.slice vb e.o.length vd)
            have K2 := fill_grown w2 (w.heap.size + 2) e.nx e.ak e.gt (.slice va e.q.length vc) (.slice vb e.o.length vd)
            have T1 := slt_grown Q5.out.2.1 K2 (ne_low Q5.out.2.1 (by omega))
            have T2 := slt_grown Q5.out.2.2.1 K2 (ne_low Q5.out.2.2.1 (by omega))
            have HBF := B5.out.trans (grown_to_below K2 (by omega) B5.out.size)
            generalize fillE w2 (w.heap.size + 2) e.nx e.ak (.slice va e.q.length vc) e.gt (.slice vb e.o.length vd) = W6 at *
            obtain ⟨q0, q1, q2, q3, q4⟩ := K1.cells
            refine bodyPost_ret (v := .tuple #[.agg #[.int .i64 e.nx, .int .i64 e.ak, (.slice va e.q.length vc), .int .i64 e.gt, (.slice vb e.o.length vd)], .bool false]) (by simp [results, Try.results23, go_sem, q0, q1, q2, q3, q4]) rfl ?_
            refine ⟨_, by rw [F.out.1], ?_, HBF⟩
            rw [F.out.2]
            exact ⟨_, _, rfl, Sl.down T1 (by omega), Sl.down T2 (by omega), Q5.out.2.2.2.1⟩
        · have dN : decide (num = e.gt + 1) = false := by simp; omega
          have F : Hid (rcvB e (num, ack, s) = false ∧ rcvF e (num, ack, s) = e) := ⟨F1.out.1.trans (by unfold takeB; simp; omega), F1.out.2.trans (by unfold takeE takeB; simp; omega)⟩
          obtain ⟨p0, p1, p2⟩ := P5.out.cells
          obtain ⟨c0, c1, c2, c3, c4⟩ := Q5.out.1.cells
          obtain ⟨r0, r1, r2, r3, r4⟩ := R5.out.cells
          have k0 := R5.out.frozen 0
          have k1 := R5.out.frozen 1
          have k2 := R5.out.frozen 2
          have k3 := R5.out.frozen 3
          have k4 := R5.out.frozen 4
          go_wp2_with fail
          show bodyPost _ _ _ _ _ (fillE w2 (w.heap.size + 2) e.nx e.ak (.slice va e.q.length vc) e.gt (.slice vb e.o.length vd))
          have K1 := fill_end R5.out e.nx e.ak e.gt (.slice va e.q.length vc) (.slice vb e.o.length vd)
          have K2 := fill_grown w2 (w.heap.size + 2) e.nx e.ak e.gt (.slice va e.q.length vc) (.slice vb e.o.length vd)
          have T1 := slt_grown Q5.out.2.1 K2 (ne_low Q5.out.2.1 (by omega))
          have T2 := slt_grown Q5.out.2.2.1 K2 (ne_low Q5.out.2.2.1 (by omega))
          have HBF := B5.out.trans (grown_to_below K2 (by omega) B5.out.size)
          generalize fillE w2 (w.heap.size + 2) e.nx e.ak (.slice va e.q.length vc) e.gt (.slice vb e.o.length vd) = W6 at *
          obtain ⟨q0, q1, q2, q3, q4⟩ := K1.cells
          refine bodyPost_ret (v := .tuple #[.agg #[.int .i64 e.nx, .int .i64 e.ak, (.slice va e.q.length vc), .int .i64 e.gt, (.slice vb e.o.length vd)], .bool false]) (by simp [results, Try.results23, go_sem, q0, q1, q2, q3, q4]) rfl ?_
          refine ⟨_, by rw [F.out.1], ?_, HBF⟩
          rw [F.out.2]
          exact ⟨_, _, rfl, Sl.down T1 (by omega), Sl.down T2 (by omega), Q5.out.2.2.2.1⟩
      · have da : decide (e.ak < ack) = false := by simp; omega
        have wg : IntKind.i64.wrap (e.gt + 1) = e.gt + 1 := by rw [IntKind.wrap_i64]; omega
        by_cases hN : num = e.gt + 1
        · subst hN
          by_cases hG : e.gt < 1000
          · have dG : decide (1000 ≤ e.gt) = false := by simp; omega
            have F : Hid (rcvB e (e.gt + 1, ack, s) = true ∧ rcvF e (e.gt + 1, ack, s) = ⟨e.nx, e.ak, e.q, e.gt + 1, e.o ++ [s]⟩) := ⟨F1.out.1.trans (by unfold takeB; simp; omega), F1.out.2.trans (by unfold takeE takeB; simp; omega)⟩
            obtain ⟨c0, c1, c2, c3, c4⟩ := Q5.out.1.cells
            obtain ⟨p0, p1, p2⟩ := P5.out.cells
            have hbo : ∀ o : Obj, Below w2.heap.size w2 (w2.alloc o) := fun o => (Below.refl _ _).alloc (Nat.le_refl _) o
            go_wp2_with (at_builtin; refine Stop.mk ?_)
            refine Stop.go ?_
            refine wpList_pushT rfl _ _ 24 rfl Try.underlying24 Try.info9 (by rfl) Q5.out.2.2.1 s rfl (by rfl) (by omega) (by omega) ?_
            intro v4 w4 S4 G4 Z4 L4
            have PU := pushed Q5.out (e.gt + 1) S4 G4 (Nat.le_refl _) L4
            have hne : ∀ j, (Value.slice vb e.o.length vd).ownBlock = some j → W0.heap.size ≤ j := fun j hj => (Sl.lt Q5.out.2.2.1 j hj).1
            have X4 := EndC.kept Q5.out.1 G4 (fun he => Q5.out.2.2.2.2.2.2 he.symm)
            have R4 := EndC.kept R5.out G4 (fun he => by have := hne _ he.symm; omega)
            obtain ⟨xa, xc, rfl⟩ := Sl.form S4
            generalize (e.o ++ [s]).length = N at *
            have c44 := X4.cells.2.2.2.2
            have f44 := X4.frozen 4
            have E5 := X4.set4 (Value.slice xa N xc)
            have c53 := E5.cells.2.2.2.1
            have f53 := E5.frozen 3
            have Q6 : Hid (EndQ ((w4.setCell ⟨w1.heap.size, 4, none⟩ (.slice xa N xc)).setCell ⟨w1.heap.size, 3, none⟩ (.int .i64 (e.gt + 1))) W0.heap.size w1.heap.size ⟨e.nx, e.ak, e.q, e.gt + 1, e.o ++ [s]⟩ (.slice va e.q.length vc) (.slice xa N xc)) := PU.1
            have R6 : Hid (EndC ((w4.setCell ⟨w1.heap.size, 4, none⟩ (.slice xa N xc)).setCell ⟨w1.heap.size, 3, none⟩ (.int .i64 (e.gt + 1))) 32 (w.heap.size + 2) 0 0 (.slice none 0 0) 0 (.slice none 0 0)) := (R4.other (by omega)).other (by omega)
            have B6 : Hid (Below w.heap.size w ((w4.setCell ⟨w1.heap.size, 4, none⟩ (.slice xa N xc)).setCell ⟨w1.heap.size, 3, none⟩ (.int .i64 (e.gt + 1)))) := B5.out.trans (PU.2.mono (by omega))
            obtain ⟨d0, d1, d2, d3, d4⟩ := PU.1.1.cells
            dsimp only at d0 d1 d2 d3 d4
            clear PU X4 R4 S4 G4 L4 E5 Q5 R5 B5 c0 c1 c2 c3 c4 p0 p1 p2 hbo hne
            obtain ⟨r0, r1, r2, r3, r4⟩ := R6.out.cells
            have k0 := R6.out.frozen 0
            have k1 := R6.out.frozen 1
            have k2 := R6.out.frozen 2
            have k3 := R6.out.frozen 3
            have k4 := R6.out.frozen 4
            go_wp2_with fail
            show bodyPost _ _ _ _ _ (fillE ((w4.setCell ⟨w1.heap.size, 4, none⟩ (.slice xa N xc)).setCell ⟨w1.heap.size, 3, none⟩ (.int .i64 (e.gt + 1))) (w.heap.size + 2) e.nx e.ak (.slice va e.q.length vc) (e.gt + 1) (.slice xa N xc))
            have K1 := fill_end R6.out e.nx e.ak (e.gt + 1) (.slice va e.q.length vc) (.slice xa N xc)
            have K2 := fill_grown ((w4.setCell ⟨w1.heap.size, 4, none⟩ (.slice xa N xc)).setCell ⟨w1.heap.size, 3, none⟩ (.int .i64 (e.gt + 1))) (w.heap.size + 2) e.nx e.ak (e.gt + 1) (.slice va e.q.length vc) (.slice xa N xc)
            have T1 := slt_grown Q6.out.2.1 K2 (ne_low Q6.out.2.1 (by omega))
            have T2 := slt_grown Q6.out.2.2.1 K2 (ne_low Q6.out.2.2.1 (by omega))
            have HBF := B6.out.trans (grown_to_below K2 (by omega) B6.out.size)
            generalize fillE ((w4.setCell ⟨w1.heap.size, 4, none⟩ (.slice xa N xc)).setCell ⟨w1.heap.size, 3, none⟩ (.int .i64 (e.gt + 1))) (w.heap.size + 2) e.nx e.ak (.slice va e.q.length vc) (e.gt + 1) (.slice xa N xc) = W6 at *
            obtain ⟨q0, q1, q2, q3, q4⟩ := K1.cells
            refine bodyPost_ret (v := .tuple #[.agg #[.int .i64 e.nx, .int .i64 e.ak, (.slice va e.q.length vc), .int .i64 (e.gt + 1), (.slice xa N xc)], .bool true]) (by simp [results, Try.results23, go_sem, q0, q1, q2, q3, q4]) rfl ?_
            refine ⟨_, by rw [F.out.1], ?_, HBF⟩
            rw [F.out.2]
            exact ⟨_, _, rfl, Sl.down T1 (by omega), Sl.down T2 (by omega), Q6.out.2.2.2.1⟩
          · have dG : decide (1000 ≤ e.gt) = true := by simp; omega
            have F : Hid (rcvB e (e.gt + 1, ack, s) = false ∧ rcvF e (e.gt + 1, ack, s) = e) := ⟨F1.out.1.trans (by unfold takeB; simp; omega), F1.out.2.trans (by unfold takeE takeB; simp; omega)⟩
            obtain ⟨p0, p1, p2⟩ := P5.out.cells
            obtain ⟨c0, c1, c2, c3, c4⟩ := Q5.out.1.cells
            obtain ⟨r0, r1, r2, r3, r4⟩ := R5.out.cells
            have k0 := R5.out.frozen 0
            have k1 := R5.out.frozen 1
            have k2 := R5.out.frozen 2
            have k3 := R5.out.frozen 3
            have k4 := R5.out.frozen 4
            go_wp2_with fail
            show bodyPost _ _ _ _ _ (fillE w2 (w.heap.size + 2) e.nx e.ak (.slice va e.q.length vc) e.gt (.slice vb e.o.length vd))
            have K1 := fill_end R5.out e.nx e.ak e.gt (.slice va e.q.length vc) (.slice vb e.o.length vd)
            have K2 := fill_grown w2 (w.heap.size + 2) e.nx e.ak e.gt (.slice va e.q.length vc) (.slice vb e.o.length vd)
            have T1 := slt_grown Q5.out.2.1 K2 (ne_low Q5.out.2.1 (by omega))
            have T2 := slt_grown Q5.out.2.2.1 K2 (ne_low Q5.out.2.2.1 (by omega))
            have HBF := B5.out.trans (grown_to_below K2 (by omega) B5.out.size)
            generalize fillE w2 (w.heap.size + 2) e.nx e.ak (.slice va e.q.length vc) e.gt (.slice vb e.o.length vd) = W6 at *
            obtain ⟨q0, q1, q2, q3, q4⟩ := K1.cells
            refine bodyPost_ret (v := .tuple #[.agg #[.int .i64 e.nx, .int .i64 e.ak, (.slice va e.q.length vc), .int .i64 e.gt, (.slice vb e.o.length vd)], .bool false]) (by simp [results, Try.results23, go_sem, q0, q1, q2, q3, q4]) rfl ?_
            refine ⟨_, by rw [F.out.1], ?_, HBF⟩
            rw [F.out.2]
            exact ⟨_, _, rfl, Sl.down T1 (by omega), Sl.down T2 (by omega), Q5.out.2.2.2.1⟩
        · have dN : decide (num = e.gt + 1) = false := by simp; omega
          have F : Hid (rcvB e (num, ack, s) = false ∧ rcvF e (num, ack, s) = e) := ⟨F1.out.1.trans (by unfold takeB; simp; omega), F1.out.2.trans (by unfold takeE takeB; simp; omega)⟩
          obtain ⟨p0, p1, p2⟩ := P5.out.cells
          obtain ⟨c0, c1, c2, c3, c4⟩ := Q5.out.1.cells
          obtain ⟨r0, r1, r2, r3, r4⟩ := R5.out.cells
          have k0 := R5.out.frozen 0
          have k1 := R5.out.frozen 1
          have k2 := R5.out.frozen 2
          have k3 := R5.out.frozen 3
          have k4 := R5.out.frozen 4
          go_wp2_with fail
          show bodyPost _ _ _ _ _ (fillE w2 (w.heap.size + 2) e.nx e.ak (.slice va e.q.length vc) e.gt (.slice vb e.o.length vd))
          have K1 := fill_end R5.out e.nx e.ak e.gt (.slice va e.q.length vc) (.slice vb e.o.length vd)
          have K2 := fill_grown w2 (w.heap.size + 2) e.nx e.ak e.gt (.slice va e.q.length vc) (.slice vb e.o.length vd)
          have T1 := slt_grown Q5.out.2.1 K2 (ne_low Q5.out.2.1 (by omega))
          have T2 := slt_grown Q5.out.2.2.1 K2 (ne_low Q5.out.2.2.1 (by omega))
          have HBF := B5.out.trans (grown_to_below K2 (by omega) B5.out.size)
          generalize fillE w2 (w.heap.size + 2) e.nx e.ak (.slice va e.q.length vc) e.gt (.slice vb e.o.length vd) = W6 at *
          obtain ⟨q0, q1, q2, q3, q4⟩ := K1.cells
          refine bodyPost_ret (v := .tuple #[.agg #[.int .i64 e.nx, .int .i64 e.ak, (.slice va e.q.length vc), .int .i64 e.gt, (.slice vb e.o.length vd)], .bool false]) (by simp [results, Try.results23, go_sem, q0, q1, q2, q3, q4]) rfl ?_
          refine ⟨_, by rw [F.out.1], ?_, HBF⟩
          rw [F.out.2]
          exact ⟨_, _, rfl, Sl.down T1 (by omega), Sl.down T2 (by omega), Q5.out.2.2.2.1⟩
end Go.Proofs.Ytohagaelenhebaa
