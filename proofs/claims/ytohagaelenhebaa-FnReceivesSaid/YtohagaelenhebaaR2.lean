/- The walk over the program's receive. -/
import Derived.Test.YtohagaelenhebaaR1
namespace Go.Proofs.Ytohagaelenhebaa
open Go.RowKit Pl
set_option linter.unusedVariables false

set_option maxRecDepth 100000 in
set_option maxHeartbeats 4000000 in
theorem preceive_any {e : En} {B p : Nat} {qv ov : Value} (num ack : Int) (s : ByteArray) (w : World) (h : EndQ w B p e qv ov) (hok : OkP e) (hs : s.size ≤ 1048576) :
    Calls Try.prog 60 #[.pointer (some ⟨p, 0, none⟩), .agg #[.int .i64 num, .int .i64 ack, .string s]] w fun r w' => r = .returned (.bool (recvB e (num, ack, s))) ∧ RecvQ w w' B p e qv ov (num, ack, s) := by
  obtain ⟨qa, qc, rfl⟩ := Sl.form h.2.1
  obtain ⟨oa, oc, rfl⟩ := Sl.form h.2.2.1
  have hpl := h.1.lt
  have hBp := h.2.2.2.2.1
  have hb0 : Below w.heap.size w (w.alloc (.cells #[.int .i64 num, .int .i64 ack, .string s] 41)) := (Below.refl _ _).alloc (Nat.le_refl _) _
  have HQL : Hid (∀ k, (Value.slice qa e.q.length qc).ownBlock = some k → k < w.heap.size) := fun k hk => (Sl.lt h.2.1 k hk).2
  have H0 : Hid (EndQ (w.alloc (.cells #[.int .i64 num, .int .i64 ack, .string s] 41)) B p e (.slice qa e.q.length qc) (.slice oa e.o.length oc)) := h.below hb0
  have P0 : Hid (PcC (w.alloc (.cells #[.int .i64 num, .int .i64 ack, .string s] 41)) 41 w.heap.size num ack s) := PcC.new w 41 num ack s
  have B0 : Hid (Below B w (w.alloc (.cells #[.int .i64 num, .int .i64 ack, .string s] 41))) := hb0.mono (by omega)
  have G0 : Hid (Gr (fun k => k = p ∨ (Value.slice oa e.o.length oc).ownBlock = some k) w (w.alloc (.cells #[.int .i64 num, .int .i64 ack, .string s] 41))) := Gr.ofBelow hb0
  have z0 : (w.alloc (.cells #[.int .i64 num, .int .i64 ack, .string s] 41)).heap.size = w.heap.size + 1 := by simp
  have ha0 := hok.a0
  have ha1 := hok.a1
  have hn0 := hok.n0
  have hn1 := hok.n1
  have hq0 := hok.q0
  have hq1 := hok.q1
  have hg0 := hok.g0
  have hg1 := hok.g1
  have lo : e.o.length ≤ 1000 := by have := hok.o0; omega
  clear hb0 h
  go_enter Try.func60, Try.ntmps60
  obtain ⟨c0, c1, c2, c3, c4⟩ := H0.out.1.cells
  obtain ⟨p0, p1, p2⟩ := P0.out.cells
  by_cases hA : e.ak < ack
  · have d1 : decide (e.ak < ack) = true := by simp; omega
    by_cases hB : ack ≤ e.nx
    · have d2 : decide (ack ≤ e.nx) = true := by simp; omega
      go_wp2_with fail
      generalize (w.alloc (.cells #[.int .i64 num, .int .i64 ack, .string s] 41)) = W at *
      go_quiet (fail)
      obtain ⟨k, hk⟩ : ∃ k : Nat, k = (ack - e.ak).toNat := ⟨_, rfl⟩
      have ww : IntKind.i64.wrap (ack - e.ak) = (k : Int) := by rw [IntKind.wrap_i64]; omega
      have hkq : k ≤ e.q.length := by omega
      have hqc : e.q.length ≤ qc := slice_cap H0.out.2.1
      have hqc2 : k ≤ qc := by omega
      have hq1' : (0 : Int) ≤ (k : Int) := by omega
      have hq2 : (k : Int) ≤ (e.q.length : Int) := by omega
      have f2 := H0.out.1.frozen 2
      have HK : Hid (k = (ack - e.ak).toNat) := hk
      clear hk
      go_wp2_with fail
      go_region
      have A1 := acked (w := w) (W := W.drewN (nq + 1)) (num := num) (s := s) (below_drewN B0.out _) (Gr.drewN G0.out _) (show PcC (W.drewN (nq + 1)) _ _ _ _ _ from P0.out) (show EndQ (W.drewN (nq + 1)) _ _ _ _ _ from H0.out) k ⟨hA, hB⟩ HK.out.symm hkq hpl
      have E1 := EndC.set2 (show EndC (W.drewN (nq + 1)) _ _ _ _ _ _ _ from H0.out.1) (Value.slice (if qc = k then qa else Option.map (fun x => x.add k) qa) (e.q.length - k) (qc - k))
      have P1 := PcC.kept (show PcC (W.drewN (nq + 1)) _ _ _ _ _ from P0.out) (grown_cell (W.drewN (nq + 1)) p 2 (Value.slice (if qc = k then qa else Option.map (fun x => x.add k) qa) (e.q.length - k) (qc - k))) (by simp; omega)
      generalize (Value.slice (if qc = k then qa else Option.map (fun x => x.add k) qa) (e.q.length - k) (qc - k)) = V at *
      generalize ((W.drewN (nq + 1)).setCell ⟨p, 2, none⟩ V) = W1 at *
      have A2 : Hid (Ackd w (W1.setCell ⟨p, 1, none⟩ (.int .i64 ack)) B p e (.slice qa e.q.length qc) (.slice oa e.o.length oc) num ack s V) := A1
      have f1 := E1.frozen 1
      have p1' := P1.cells.2.1
      have c1' := E1.cells.2.1
      clear A1 E1 P1 f2 c0 c1 c2 c3 c4 p0 p1 p2 H0 P0 B0 G0
      go_wp2_with fail
      generalize W1.setCell ⟨p, 1, none⟩ (.int .i64 ack) = W2 at *
      clear f1 p1' c1' ww hqc hqc2 hq1' hq2 HK hkq
      have X2 : Hid (EndC W2 32 p (ackE e ack).nx (ackE e ack).ak V e.gt (.slice oa e.o.length oc)) := by
        have h := A2.out.eq.1
        have hg : (ackE e ack).gt = e.gt := by unfold ackE; split <;> rfl
        rw [hg] at h
        exact h
      obtain ⟨c0, c1, c2, c3, c4⟩ := X2.out.cells
      obtain ⟨p0, p1, p2⟩ := A2.out.pc.cells
      have wg : IntKind.i64.wrap (e.gt + 1) = e.gt + 1 := by rw [IntKind.wrap_i64]; omega
      by_cases hN : num = e.gt + 1
      · subst hN
        by_cases hG : e.gt < 1000
        · have dG : decide (1000 ≤ e.gt) = false := by simp; omega
          have hr : Hid (recvB e (e.gt + 1, ack, s) = true) := by show recvB e (e.gt + 1, ack, s) = true; unfold recvB takeB; simp; omega
          go_quiet (fail)
          go_wp2_with fail
          have HO2 : Hid (SlT W2 B (.slice oa e.o.length oc) e.o) := by
            have h := A2.out.eq.2.2.1
            have hg : (ackE e ack).o = e.o := by unfold ackE; split <;> rfl
            rw [hg] at h
            exact h
          have z2 : w.heap.size + 1 ≤ W2.heap.size := by have := A2.out.pc.lt; omega
          go_region_law (first
            | (refine step_pushT (by rfl) _ _ 24 (by rfl) Try.underlying24 Try.info9 (by rfl) S3 s rfl (by rfl) (by omega) (by omega) ?_; intro v4 w4 S4 G4 Z4 L4; obtain ⟨xa, xc, rfl⟩ := Sl.form S4; generalize (e.o ++ [s]).length = N at *; have X4 := EndC.kept X3 G4 (fun he => A2.out.eq.2.2.2.2.2.2 he.symm); have c4 := X4.cells.2.2.2.2; have f4 := X4.frozen 4)
            | (go_simp; refine (clone_any s _ hs).mono ?_; rintro e1 w3 ⟨rfl, hb3⟩; have X3 := EndC.below (show EndC (W2.drewN (nq + 1)) _ _ _ _ _ _ _ from X2.out) hb3; have c3 := X3.cells.2.2.2.2; have c3a := fun o => (EndC.below X3 ((Below.refl _ _).alloc (Nat.le_refl _) o)).cells.2.2.2.2; have S3 : SlT w3 B (.slice oa e.o.length oc) e.o := Sl.below (show SlT (W2.drewN (nq + 1)) _ _ _ from HO2.out) hb3; have z3 : W2.heap.size ≤ w3.heap.size := hb3.size; go_simp))
          all_goals
            have FH : Hid _ := taken (A2.out.drewN (nq + 1)) hb3 HQL.out S4 G4 (Nat.le_refl _) L4 rfl hG
            have E5 := X4.set4 (Value.slice xa N xc)
            have f5 := E5.frozen 3
            have c5 := E5.cells.2.2.2.1
            clear E5 X4 X3 S3 S4 G4 L4 Z4 hb3 c3 c3a c4 f4 c0 c1 c2 p0 p1 p2 HO2 X2 A2
            generalize (w4.setCell ⟨p, 4, none⟩ (Value.slice xa N xc)) = W5 at *
            go_wp2_with fail
            go_ret
            exact ⟨congrArg (fun b => Ending.returned (.bool b)) hr.out.symm, FH.out⟩
        · have dG : decide (1000 ≤ e.gt) = true := by simp; omega
          have hr : Hid (recvB e (e.gt + 1, ack, s) = false) := by show recvB e (e.gt + 1, ack, s) = false; unfold recvB takeB; simp; omega
          go_quiet (fail)
          go_wp2_with fail
          go_ret
          exact ⟨congrArg (fun b => Ending.returned (.bool b)) hr.out.symm, nottaken (A2.out.drewN _) (by omega)⟩
      · have dN : decide (num = e.gt + 1) = false := by simp; omega
        have hr : Hid (recvB e (num, ack, s) = false) := by show recvB e (num, ack, s) = false; unfold recvB takeB; simp; omega
        go_quiet (fail)
        go_wp2_with fail
        go_ret
        exact ⟨congrArg (fun b => Ending.returned (.bool b)) hr.out.symm, nottaken (A2.out.drewN _) (by omega)⟩
    · have d2 : decide (ack ≤ e.nx) = false := by simp; omega
      go_wp2_with fail
      generalize (w.alloc (.cells #[.int .i64 num, .int .i64 ack, .string s] 41)) = W at *
      go_quiet (fail)
      have A2 : Hid (Ackd w (W.drewN nq) B p e (.slice qa e.q.length qc) (.slice oa e.o.length oc) num ack s (.slice qa e.q.length qc)) := ackd_none (show EndQ (W.drewN nq) _ _ _ _ _ from H0.out) (show PcC (W.drewN nq) _ _ _ _ _ from P0.out) (below_drewN B0.out _) (Gr.drewN G0.out _) (by omega)
      clear c0 c1 c2 c3 c4 p0 p1 p2 H0 P0 B0 G0
      go_wp2_with fail
      generalize W.drewN nq = W2 at *
      have X2 : Hid (EndC W2 32 p (ackE e ack).nx (ackE e ack).ak (.slice qa e.q.length qc) e.gt (.slice oa e.o.length oc)) := by
        have h := A2.out.eq.1
        have hg : (ackE e ack).gt = e.gt := by unfold ackE; split <;> rfl
        rw [hg] at h
        exact h
      obtain ⟨c0, c1, c2, c3, c4⟩ := X2.out.cells
      obtain ⟨p0, p1, p2⟩ := A2.out.pc.cells
      have wg : IntKind.i64.wrap (e.gt + 1) = e.gt + 1 := by rw [IntKind.wrap_i64]; omega
      by_cases hN : num = e.gt + 1
      · subst hN
        by_cases hG : e.gt < 1000
        · have dG : decide (1000 ≤ e.gt) = false := by simp; omega
          have hr : Hid (recvB e (e.gt + 1, ack, s) = true) := by show recvB e (e.gt + 1, ack, s) = true; unfold recvB takeB; simp; omega
          go_quiet (fail)
          go_wp2_with fail
          have HO2 : Hid (SlT W2 B (.slice oa e.o.length oc) e.o) := by
            have h := A2.out.eq.2.2.1
            have hg : (ackE e ack).o = e.o := by unfold ackE; split <;> rfl
            rw [hg] at h
            exact h
          have z2 : w.heap.size + 1 ≤ W2.heap.size := by have := A2.out.pc.lt; omega
          go_region_law (first
            | (refine step_pushT (by rfl) _ _ 24 (by rfl) Try.underlying24 Try.info9 (by rfl) S3 s rfl (by rfl) (by omega) (by omega) ?_; intro v4 w4 S4 G4 Z4 L4; obtain ⟨xa, xc, rfl⟩ := Sl.form S4; generalize (e.o ++ [s]).length = N at *; have X4 := EndC.kept X3 G4 (fun he => A2.out.eq.2.2.2.2.2.2 he.symm); have c4 := X4.cells.2.2.2.2; have f4 := X4.frozen 4)
            | (go_simp; refine (clone_any s _ hs).mono ?_; rintro e1 w3 ⟨rfl, hb3⟩; have X3 := EndC.below (show EndC (W2.drewN (nq + 1)) _ _ _ _ _ _ _ from X2.out) hb3; have c3 := X3.cells.2.2.2.2; have c3a := fun o => (EndC.below X3 ((Below.refl _ _).alloc (Nat.le_refl _) o)).cells.2.2.2.2; have S3 : SlT w3 B (.slice oa e.o.length oc) e.o := Sl.below (show SlT (W2.drewN (nq + 1)) _ _ _ from HO2.out) hb3; have z3 : W2.heap.size ≤ w3.heap.size := hb3.size; go_simp))
          all_goals
            have FH : Hid _ := taken (A2.out.drewN (nq + 1)) hb3 HQL.out S4 G4 (Nat.le_refl _) L4 rfl hG
            have E5 := X4.set4 (Value.slice xa N xc)
            have f5 := E5.frozen 3
            have c5 := E5.cells.2.2.2.1
            clear E5 X4 X3 S3 S4 G4 L4 Z4 hb3 c3 c3a c4 f4 c0 c1 c2 p0 p1 p2 HO2 X2 A2
            generalize (w4.setCell ⟨p, 4, none⟩ (Value.slice xa N xc)) = W5 at *
            go_wp2_with fail
            go_ret
            exact ⟨congrArg (fun b => Ending.returned (.bool b)) hr.out.symm, FH.out⟩
        · have dG : decide (1000 ≤ e.gt) = true := by simp; omega
          have hr : Hid (recvB e (e.gt + 1, ack, s) = false) := by show recvB e (e.gt + 1, ack, s) = false; unfold recvB takeB; simp; omega
          go_quiet (fail)
          go_wp2_with fail
          go_ret
          exact ⟨congrArg (fun b => Ending.returned (.bool b)) hr.out.symm, nottaken (A2.out.drewN _) (by omega)⟩
      · have dN : decide (num = e.gt + 1) = false := by simp; omega
        have hr : Hid (recvB e (num, ack, s) = false) := by show recvB e (num, ack, s) = false; unfold recvB takeB; simp; omega
        go_quiet (fail)
        go_wp2_with fail
        go_ret
        exact ⟨congrArg (fun b => Ending.returned (.bool b)) hr.out.symm, nottaken (A2.out.drewN _) (by omega)⟩
  · have d1 : decide (e.ak < ack) = false := by simp; omega
    go_wp2_with fail
    generalize (w.alloc (.cells #[.int .i64 num, .int .i64 ack, .string s] 41)) = W at *
    go_quiet (fail)
    have A2 : Hid (Ackd w (W.drewN nq) B p e (.slice qa e.q.length qc) (.slice oa e.o.length oc) num ack s (.slice qa e.q.length qc)) := ackd_none (show EndQ (W.drewN nq) _ _ _ _ _ from H0.out) (show PcC (W.drewN nq) _ _ _ _ _ from P0.out) (below_drewN B0.out _) (Gr.drewN G0.out _) (by omega)
    clear c0 c1 c2 c3 c4 p0 p1 p2 H0 P0 B0 G0
    go_wp2_with fail
    generalize W.drewN nq = W2 at *
    have X2 : Hid (EndC W2 32 p (ackE e ack).nx (ackE e ack).ak (.slice qa e.q.length qc) e.gt (.slice oa e.o.length oc)) := by
      have h := A2.out.eq.1
      have hg : (ackE e ack).gt = e.gt := by unfold ackE; split <;> rfl
      rw [hg] at h
      exact h
    obtain ⟨c0, c1, c2, c3, c4⟩ := X2.out.cells
    obtain ⟨p0, p1, p2⟩ := A2.out.pc.cells
    have wg : IntKind.i64.wrap (e.gt + 1) = e.gt + 1 := by rw [IntKind.wrap_i64]; omega
    by_cases hN : num = e.gt + 1
    · subst hN
      by_cases hG : e.gt < 1000
      · have dG : decide (1000 ≤ e.gt) = false := by simp; omega
        have hr : Hid (recvB e (e.gt + 1, ack, s) = true) := by show recvB e (e.gt + 1, ack, s) = true; unfold recvB takeB; simp; omega
        go_quiet (fail)
        go_wp2_with fail
        have HO2 : Hid (SlT W2 B (.slice oa e.o.length oc) e.o) := by
          have h := A2.out.eq.2.2.1
          have hg : (ackE e ack).o = e.o := by unfold ackE; split <;> rfl
          rw [hg] at h
          exact h
        have z2 : w.heap.size + 1 ≤ W2.heap.size := by have := A2.out.pc.lt; omega
        go_region_law (first
          | (refine step_pushT (by rfl) _ _ 24 (by rfl) Try.underlying24 Try.info9 (by rfl) S3 s rfl (by rfl) (by omega) (by omega) ?_; intro v4 w4 S4 G4 Z4 L4; obtain ⟨xa, xc, rfl⟩ := Sl.form S4; generalize (e.o ++ [s]).length = N at *; have X4 := EndC.kept X3 G4 (fun he => A2.out.eq.2.2.2.2.2.2 he.symm); have c4 := X4.cells.2.2.2.2; have f4 := X4.frozen 4)
          | (go_simp; refine (clone_any s _ hs).mono ?_; rintro e1 w3 ⟨rfl, hb3⟩; have X3 := EndC.below (show EndC (W2.drewN (nq + 1)) _ _ _ _ _ _ _ from X2.out) hb3; have c3 := X3.cells.2.2.2.2; have c3a := fun o => (EndC.below X3 ((Below.refl _ _).alloc (Nat.le_refl _) o)).cells.2.2.2.2; have S3 : SlT w3 B (.slice oa e.o.length oc) e.o := Sl.below (show SlT (W2.drewN (nq + 1)) _ _ _ from HO2.out) hb3; have z3 : W2.heap.size ≤ w3.heap.size := hb3.size; go_simp))
        all_goals
          have FH : Hid _ := taken (A2.out.drewN (nq + 1)) hb3 HQL.out S4 G4 (Nat.le_refl _) L4 rfl hG
          have E5 := X4.set4 (Value.slice xa N xc)
          have f5 := E5.frozen 3
          have c5 := E5.cells.2.2.2.1
          clear E5 X4 X3 S3 S4 G4 L4 Z4 hb3 c3 c3a c4 f4 c0 c1 c2 p0 p1 p2 HO2 X2 A2
          generalize (w4.setCell ⟨p, 4, none⟩ (Value.slice xa N xc)) = W5 at *
          go_wp2_with fail
          go_ret
          exact ⟨congrArg (fun b => Ending.returned (.bool b)) hr.out.symm, FH.out⟩
      · have dG : decide (1000 ≤ e.gt) = true := by simp; omega
        have hr : Hid (recvB e (e.gt + 1, ack, s) = false) := by show recvB e (e.gt + 1, ack, s) = false; unfold recvB takeB; simp; omega
        go_quiet (fail)
        go_wp2_with fail
        go_ret
        exact ⟨congrArg (fun b => Ending.returned (.bool b)) hr.out.symm, nottaken (A2.out.drewN _) (by omega)⟩
    · have dN : decide (num = e.gt + 1) = false := by simp; omega
      have hr : Hid (recvB e (num, ack, s) = false) := by show recvB e (num, ack, s) = false; unfold recvB takeB; simp; omega
      go_quiet (fail)
      go_wp2_with fail
      go_ret
      exact ⟨congrArg (fun b => Ending.returned (.bool b)) hr.out.symm, nottaken (A2.out.drewN _) (by omega)⟩
end Go.Proofs.Ytohagaelenhebaa
