/- The walk over the specification's SendNew. -/
import Derived.Test.YtohagaelenhebaaS1
import Derived.Test.YtohagaelenhebaaQ5
import Derived.Deep.RegionHeld3
namespace Go.Proofs.Ytohagaelenhebaa
open Go.RowKit Pl Go.Conc
set_option linter.unusedVariables false

set_option maxRecDepth 100000 in
set_option maxHeartbeats 8000000 in
theorem spSendNew_any {v : Value} {e : En} (w : World) (h : EndR w v e) (lq : e.q.length ≤ 1048576) (lo : e.o.length ≤ 1048576) :
    Calls Try.prog 31 #[v] w fun r w' => NewOut w w' e r ∧ Below w.heap.size w w' := by
  have HR : Hid (EndR w v e) := h
  obtain ⟨qa, qc, oa, oc, rfl, hq, ho⟩ := h
  clear hq ho
  go_enter Try.func31, Try.ntmps31
  go_wp2_with fail
  have E0 : EndC ((w.alloc (Obj.cells #[Value.int IntKind.i64 e.nx, Value.int IntKind.i64 e.ak, Value.slice qa e.q.length qc, Value.int IntKind.i64 e.gt, Value.slice oa e.o.length oc] 32)).alloc (Obj.cells #[Value.int IntKind.i64 0, Value.int IntKind.i64 0, Value.slice none 0 0, Value.int IntKind.i64 0, Value.slice none 0 0] 32)) 32 w.heap.size e.nx e.ak (.slice qa e.q.length qc) e.gt (.slice oa e.o.length oc) := (EndC.new w 32 e.nx e.ak e.gt _ _).below ((Below.refl _ _).alloc (Nat.le_refl _) _)
  have R0 : EndC ((w.alloc (Obj.cells #[Value.int IntKind.i64 e.nx, Value.int IntKind.i64 e.ak, Value.slice qa e.q.length qc, Value.int IntKind.i64 e.gt, Value.slice oa e.o.length oc] 32)).alloc (Obj.cells #[Value.int IntKind.i64 0, Value.int IntKind.i64 0, Value.slice none 0 0, Value.int IntKind.i64 0, Value.slice none 0 0] 32)) 32 (w.heap.size + 1) 0 0 (.slice none 0 0) 0 (.slice none 0 0) := by
    have := EndC.new (w.alloc (Obj.cells #[Value.int IntKind.i64 e.nx, Value.int IntKind.i64 e.ak, Value.slice qa e.q.length qc, Value.int IntKind.i64 e.gt, Value.slice oa e.o.length oc] 32)) 32 0 0 0 (.slice none 0 0) (.slice none 0 0)
    simpa using this
  have B0 : Below w.heap.size w ((w.alloc (Obj.cells #[Value.int IntKind.i64 e.nx, Value.int IntKind.i64 e.ak, Value.slice qa e.q.length qc, Value.int IntKind.i64 e.gt, Value.slice oa e.o.length oc] 32)).alloc (Obj.cells #[Value.int IntKind.i64 0, Value.int IntKind.i64 0, Value.slice none 0 0, Value.int IntKind.i64 0, Value.slice none 0 0] 32)) := ((Below.refl _ _).alloc (Nat.le_refl _) _).alloc (by simp) _
  have Z0 : ((w.alloc (Obj.cells #[Value.int IntKind.i64 e.nx, Value.int IntKind.i64 e.ak, Value.slice qa e.q.length qc, Value.int IntKind.i64 e.gt, Value.slice oa e.o.length oc] 32)).alloc (Obj.cells #[Value.int IntKind.i64 0, Value.int IntKind.i64 0, Value.slice none 0 0, Value.int IntKind.i64 0, Value.slice none 0 0] 32)).heap.size = w.heap.size + 2 := by simp
  generalize ((w.alloc (Obj.cells #[Value.int IntKind.i64 e.nx, Value.int IntKind.i64 e.ak, Value.slice qa e.q.length qc, Value.int IntKind.i64 e.gt, Value.slice oa e.o.length oc] 32)).alloc (Obj.cells #[Value.int IntKind.i64 0, Value.int IntKind.i64 0, Value.slice none 0 0, Value.int IntKind.i64 0, Value.slice none 0 0] 32)) = W0 at *
  refine (spCopy_any W0 (EndR.stays HR.out B0) lq lo).mono ?_
  rintro r w1 ⟨v1, rfl, hM, hb1⟩
  obtain ⟨qv, ov, rfl, s1, s2, dj⟩ := hM
  obtain ⟨va, vc, rfl⟩ := Sl.form s1
  obtain ⟨ua, uc, rfl⟩ := Sl.form s2
  have HL : Hid (∀ k, (Value.slice va e.q.length vc).ownBlock = some k ∨ (Value.slice ua e.o.length uc).ownBlock = some k → k < w1.heap.size) := fun k hk => by
    rcases hk with hk | hk
    · exact (Sl.lt s1 k hk).2
    · exact (Sl.lt s2 k hk).2
  have z1 : W0.heap.size ≤ w1.heap.size := hb1.size
  have hb2 : Below w1.heap.size w1 ((w1.alloc (Obj.cells #[Value.int IntKind.i64 e.nx, Value.int IntKind.i64 e.ak, Value.slice va e.q.length vc, Value.int IntKind.i64 e.gt, Value.slice ua e.o.length uc] 32)).alloc (Obj.cells #[] 41)) := ((Below.refl _ _).alloc (Nat.le_refl _) _).alloc (by simp) _
  have E2 : Hid (EndC ((w1.alloc (Obj.cells #[Value.int IntKind.i64 e.nx, Value.int IntKind.i64 e.ak, Value.slice va e.q.length vc, Value.int IntKind.i64 e.gt, Value.slice ua e.o.length uc] 32)).alloc (Obj.cells #[] 41)) 32 w.heap.size e.nx e.ak (.slice qa e.q.length qc) e.gt (.slice oa e.o.length oc)) := (E0.below hb1).below hb2
  have R2 : Hid (EndC ((w1.alloc (Obj.cells #[Value.int IntKind.i64 e.nx, Value.int IntKind.i64 e.ak, Value.slice va e.q.length vc, Value.int IntKind.i64 e.gt, Value.slice ua e.o.length uc] 32)).alloc (Obj.cells #[] 41)) 32 (w.heap.size + 1) 0 0 (.slice none 0 0) 0 (.slice none 0 0)) := (R0.below hb1).below hb2
  have B2 : Hid (Below w.heap.size w ((w1.alloc (Obj.cells #[Value.int IntKind.i64 e.nx, Value.int IntKind.i64 e.ak, Value.slice va e.q.length vc, Value.int IntKind.i64 e.gt, Value.slice ua e.o.length uc] 32)).alloc (Obj.cells #[] 41))) := (B0.trans (hb1.mono B0.size)).trans (hb2.mono (by have := B0.size; omega))
  have X2 : Hid (EndC ((w1.alloc (Obj.cells #[Value.int IntKind.i64 e.nx, Value.int IntKind.i64 e.ak, Value.slice va e.q.length vc, Value.int IntKind.i64 e.gt, Value.slice ua e.o.length uc] 32)).alloc (Obj.cells #[] 41)) 32 w1.heap.size e.nx e.ak (.slice va e.q.length vc) e.gt (.slice ua e.o.length uc)) := (EndC.new w1 32 e.nx e.ak e.gt _ _).below ((Below.refl _ _).alloc (Nat.le_refl _) _)
  have Q2 : Hid (SlT ((w1.alloc (Obj.cells #[Value.int IntKind.i64 e.nx, Value.int IntKind.i64 e.ak, Value.slice va e.q.length vc, Value.int IntKind.i64 e.gt, Value.slice ua e.o.length uc] 32)).alloc (Obj.cells #[] 41)) W0.heap.size (.slice va e.q.length vc) e.q) := Sl.below s1 hb2
  have O2 : Hid (SlT ((w1.alloc (Obj.cells #[Value.int IntKind.i64 e.nx, Value.int IntKind.i64 e.ak, Value.slice va e.q.length vc, Value.int IntKind.i64 e.gt, Value.slice ua e.o.length uc] 32)).alloc (Obj.cells #[] 41)) W0.heap.size (.slice ua e.o.length uc) e.o) := Sl.below s2 hb2
  have D : Hid (Dj (.slice va e.q.length vc) (.slice ua e.o.length uc)) := dj
  have S2 : Hid (SlP ((w1.alloc (Obj.cells #[Value.int IntKind.i64 e.nx, Value.int IntKind.i64 e.ak, Value.slice va e.q.length vc, Value.int IntKind.i64 e.gt, Value.slice ua e.o.length uc] 32)).alloc (Obj.cells #[] 41)) (w1.heap.size + 1) (.slice (some ⟨w1.heap.size + 1, 0, none⟩) 0 0) []) := by
    have := Sl.made (w1.alloc (Obj.cells #[Value.int IntKind.i64 e.nx, Value.int IntKind.i64 e.ak, Value.slice va e.q.length vc, Value.int IntKind.i64 e.gt, Value.slice ua e.o.length uc] 32)) 41 3 (w1.heap.size + 1) (by simp)
    show SlP _ _ _ _
    simpa [SlP, cellsP] using this
  have z2 : ((w1.alloc (Obj.cells #[Value.int IntKind.i64 e.nx, Value.int IntKind.i64 e.ak, Value.slice va e.q.length vc, Value.int IntKind.i64 e.gt, Value.slice ua e.o.length uc] 32)).alloc (Obj.cells #[] 41)).heap.size = w1.heap.size + 2 := by simp
  clear E0 R0 B0 hb1 hb2 s1 s2 dj
  go_wp2_with fail
  generalize ((w1.alloc (Obj.cells #[Value.int IntKind.i64 e.nx, Value.int IntKind.i64 e.ak, Value.slice va e.q.length vc, Value.int IntKind.i64 e.gt, Value.slice ua e.o.length uc] 32)).alloc (Obj.cells #[] 41)) = w2 at *
  cases hok : okB e with
  | false =>
    refine wp_loop_rounds 1 ?_
    rw [rounds_succ]
    obtain ⟨a0, a1, a2, a3, a4⟩ := E2.out.cells
    go_wp2_with fail
    refine (spEndOk_is w2 (EndR.stays HR.out B2.out) lq lo hok).mono ?_
    rintro r w3 ⟨rfl, hb3⟩
    have R3 : Hid (EndC w3 32 (w.heap.size + 1) 0 0 (.slice none 0 0) 0 (.slice none 0 0)) := R2.out.below hb3
    have B3 : Hid (Below w.heap.size w w3) := B2.out.trans (hb3.mono B2.out.size)
    have X3 := X2.out.below hb3
    have Q3 : Hid (SlT w3 W0.heap.size (.slice va e.q.length vc) e.q) := Sl.below Q2.out hb3
    have O3 : Hid (SlT w3 W0.heap.size (.slice ua e.o.length uc) e.o) := Sl.below O2.out hb3
    have S3 : Hid (SlP w3 w1.heap.size (.slice (some ⟨w1.heap.size + 1, 0, none⟩) 0 0) []) := Sl.down (Sl.below S2.out hb3) (by omega)
    have z3 : w2.heap.size ≤ w3.heap.size := hb3.size
    obtain ⟨c0, c1, c2, c3, c4⟩ := X3.cells
    obtain ⟨r0, r1, r2, r3, r4⟩ := R3.out.cells
    have k0 := R3.out.frozen 0
    have k1 := R3.out.frozen 1
    have k2 := R3.out.frozen 2
    have k3 := R3.out.frozen 3
    have k4 := R3.out.frozen 4
    clear a0 a1 a2 a3 a4 E2 R2 B2 X2 Q2 O2 S2 hb3 X3
    go_wp2_with fail
    show bodyPost _ _ _ _ _ (fillE w3 (w.heap.size + 1) e.nx e.ak (.slice va e.q.length vc) e.gt (.slice ua e.o.length uc))
    have K1 := fill_end R3.out e.nx e.ak e.gt (.slice va e.q.length vc) (.slice ua e.o.length uc)
    have K2 := fill_grown w3 (w.heap.size + 1) e.nx e.ak e.gt (.slice va e.q.length vc) (.slice ua e.o.length uc)
    have T1 := slt_grown Q3.out K2 (ne_low Q3.out (by omega))
    have T2 := slt_grown O3.out K2 (ne_low O3.out (by omega))
    have T3 : SlP (fillE w3 (w.heap.size + 1) e.nx e.ak (.slice va e.q.length vc) e.gt (.slice ua e.o.length uc)) w1.heap.size (.slice (some ⟨w1.heap.size + 1, 0, none⟩) 0 0) ([]) := Sl.kept S3.out K2 (fun k hk he => by have := (Sl.lt S3.out k hk).1; simp at he; omega)
    have HBF := B3.out.trans (grown_to_below K2 (by omega) B3.out.size)
    have hzz := K2.size
    generalize fillE w3 (w.heap.size + 1) e.nx e.ak (.slice va e.q.length vc) e.gt (.slice ua e.o.length uc) = W6 at *
    obtain ⟨q0, q1, q2, q3, q4⟩ := K1.cells
    refine bodyPost_ret (v := .tuple #[.agg #[.int .i64 (e.nx), .int .i64 e.ak, .slice va e.q.length vc, .int .i64 e.gt, .slice ua e.o.length uc], .slice (some ⟨w1.heap.size + 1, 0, none⟩) 0 0]) (by simp [results, Try.results31, go_sem, q0, q1, q2, q3, q4]) rfl ?_
    refine ⟨⟨_, _, w1.heap.size, rfl, (by omega), ?_, ?_⟩, HBF⟩
    · rw [show newF e = ⟨e.nx, e.ak, e.q, e.gt, e.o⟩ by unfold newF; rw [hok]; rfl]
      exact endI_of (e := ⟨e.nx, e.ak, e.q, e.gt, e.o⟩) T1 T2 D.out HL.out (by omega) (by omega)
    · rw [show newL e = [] by unfold newL; rw [hok]; rfl]
      exact ⟨T3, fun k hk => Sl.lt T3 k hk, Nat.le_refl _⟩
  | true =>
    have hp := okB_true.1 hok
    have ha0 := hp.a0
    have ha1 := hp.a1
    have hn0 := hp.n0
    have hn1 := hp.n1
    have hq0 := hp.q0
    have hq1 := hp.q1
    have Hse : Hid (e.nx = e.ak + (sent e : Int)) := by show e.nx = e.ak + (sent e : Int); unfold sent; omega
    have hsw : sent e ≤ wide e := by unfold sent wide; omega
    have hw4 : wide e ≤ 4 := by unfold wide; omega
    have hwq : wide e ≤ e.q.length := by unfold wide; omega
    have hwx : wide e = 4 ∨ wide e = e.q.length := by unfold wide; omega
    go_loopw [5] (fun u wr => ∃ k : Nat, sent e + k ≤ wide e ∧ Hid (SlP wr (w1.heap.size + 1) u (parcs e (sent e) k)) ∧ Hid (EndC wr 32 w.heap.size e.nx e.ak (.slice qa e.q.length qc) e.gt (.slice oa e.o.length oc)) ∧ Hid (EndC wr 32 (w.heap.size + 1) 0 0 (.slice none 0 0) 0 (.slice none 0 0)) ∧ Hid (EndC wr 32 w1.heap.size (e.nx + (k : Int)) e.ak (.slice va e.q.length vc) e.gt (.slice ua e.o.length uc)) ∧ Hid (SlT wr W0.heap.size (.slice va e.q.length vc) e.q) ∧ Hid (SlT wr W0.heap.size (.slice ua e.o.length uc) e.o) ∧ Hid (Below w.heap.size w wr) ∧ w1.heap.size + 2 ≤ wr.heap.size) (fun u _ => wide e - sent e - lenV u)
    case atStart => exact ⟨0, by omega, S2.out, E2.out, R2.out, (by show EndC _ _ _ _ _ _ _ _; simpa using X2.out), Q2.out, O2.out, B2.out, by omega⟩
    case round =>
      obtain ⟨k, hk, hS, hE, hR, hX, hQ, hO, hB, hz⟩ := hrel
      clear E2 R2 B2 X2 Q2 O2 S2
      obtain ⟨N, hN⟩ : ∃ N : Int, N = e.nx + (k : Int) := ⟨_, rfl⟩
      rw [← hN] at hX
      have HN : Hid (N = e.nx + (k : Int)) := hN
      obtain ⟨m, hm⟩ : ∃ m : Nat, m = sent e + k := ⟨_, rfl⟩
      have Hm : Hid (m = sent e + k) := hm
      have HNk : Hid (N - e.ak = (m : Int)) := by have := Hse.out; show N - e.ak = (m : Int); omega
      have hNb : 0 ≤ N ∧ N ≤ 1004 := by have := HNk.out; omega
      have hmw : m ≤ wide e := by omega
      clear hm
      clear hN
      obtain ⟨a0, a1, a2, a3, a4⟩ := hE.out.cells
      go_wp2_with fail
      refine (spEndOk_is wr (EndR.stays HR.out hB.out) lq lo hok).mono ?_
      rintro r w3 ⟨rfl, hb3⟩
      have S3 : Hid (SlP w3 (w1.heap.size + 1) _ (parcs e (sent e) k)) := Sl.below hS.out hb3
      have E3 : Hid (EndC w3 32 w.heap.size e.nx e.ak (.slice qa e.q.length qc) e.gt (.slice oa e.o.length oc)) := hE.out.below hb3
      have R3 : Hid (EndC w3 32 (w.heap.size + 1) 0 0 (.slice none 0 0) 0 (.slice none 0 0)) := hR.out.below hb3
      have X3 : Hid (EndC w3 32 w1.heap.size N e.ak (.slice va e.q.length vc) e.gt (.slice ua e.o.length uc)) := hX.out.below hb3
      have Q3 : Hid (SlT w3 W0.heap.size (.slice va e.q.length vc) e.q) := Sl.below hQ.out hb3
      have O3 : Hid (SlT w3 W0.heap.size (.slice ua e.o.length uc) e.o) := Sl.below hO.out hb3
      have B3 : Hid (Below w.heap.size w w3) := hB.out.trans (hb3.mono hB.out.size)
      have z3 : w1.heap.size + 2 ≤ w3.heap.size := by have := hb3.size; omega
      clear a0 a1 a2 a3 a4 hS hE hR hX hQ hO hB hb3
      obtain ⟨c0, c1, c2, c3, c4⟩ := X3.out.cells
      have wa : IntKind.i64.wrap (e.ak + 4) = e.ak + 4 := by rw [IntKind.wrap_i64]; omega
      have wb : IntKind.i64.wrap (N - e.ak) = (m : Int) := by have := HNk.out; rw [IntKind.wrap_i64]; omega
      by_cases hlt : m < wide e
      · have d1 : decide (N < e.ak + 4) = true := by have := HNk.out; simp; omega
        have d2 : decide ((m : Int) < (e.q.length : Int)) = true := by simp; omega
        obtain ⟨ao, cap, heq, hT⟩ := Q3.out.texts
        obtain ⟨g, off, hao, hgl, hgc⟩ := hT m (by omega)
        have hva : va = some ⟨g, off, none⟩ := by injection heq with h1 _ _; rw [h1, hao]
        subst hva
        clear heq hao hT
        obtain ⟨x, hx⟩ : ∃ x, x = e.q[m]'(by omega) := ⟨_, rfl⟩
        rw [← hx] at hgc
        have HX : Hid (parc e m = (N + 1, e.gt, x)) := by
          show parc e m = _
          unfold parc
          rw [hx, List.getD_eq_getElem?_getD, List.getElem?_eq_getElem (show m < e.q.length by omega), show e.ak + (m : Int) = N by have := HNk.out; omega]
          rfl
        clear hx
        have hq1' : (0 : Int) ≤ (m : Int) := by omega
        have hq2 : (m : Int) < (e.q.length : Int) := by omega
        have w1' : IntKind.i64.wrap (N + 1) = N + 1 := by rw [IntKind.wrap_i64]; omega
        obtain ⟨ya, yc, rfl⟩ := Sl.form S3.out
        have hpl : (parcs e (sent e) k).length = k := parcs_length _ _ _
        rw [hpl] at S3 ⊢
        have keepA : ∀ o : Obj, (w3.drew.alloc o).cell? ⟨w1.heap.size, 0, none⟩ = some (.int .i64 N) ∧ (w3.drew.alloc o).cell? ⟨w1.heap.size, 1, none⟩ = some (.int .i64 e.ak) ∧ (w3.drew.alloc o).cell? ⟨w1.heap.size, 2, none⟩ = some (.slice (some ⟨g, off, none⟩) e.q.length vc) ∧ (w3.drew.alloc o).cell? ⟨w1.heap.size, 3, none⟩ = some (.int .i64 e.gt) ∧ (w3.drew.alloc o).cell? ⟨g, off + m, none⟩ = some (.string x) := fun o => by
          have hbo : Below w3.heap.size w3 (w3.drew.alloc o) := (Below.refl _ _).drew.alloc (Nat.le_refl _) o
          have hE2 := X3.out.below hbo
          exact ⟨hE2.cells.1, hE2.cells.2.1, hE2.cells.2.2.1, hE2.cells.2.2.2.1, (hbo.cell (p := ⟨g, off + m, none⟩) (show g < w3.heap.size by omega)).trans hgc⟩
        have hgw : g < w1.heap.size := HL.out g (.inl rfl)
        go_wp2_with fail
        have hne : ∀ j, (Value.slice ya k yc).ownBlock = some j → w1.heap.size + 1 ≤ j := fun j hj => (Sl.lt S3.out j hj).1
        go_region_held3 (fun w' => w'.cell? ⟨w1.heap.size, 0, none⟩ = some (.int .i64 N) ∧ w'.cell? ⟨w1.heap.size, 1, none⟩ = some (.int .i64 e.ak) ∧ w'.cell? ⟨w1.heap.size, 2, none⟩ = some (.slice (some ⟨g, off, none⟩) e.q.length vc) ∧ w'.cell? ⟨w1.heap.size, 3, none⟩ = some (.int .i64 e.gt) ∧ w'.cell? ⟨g, off + m, none⟩ = some (.string x))
          (first | exact ⟨E4.cells.1, E4.cells.2.1, E4.cells.2.2.1, E4.cells.2.2.2.1, t4⟩ | exact ⟨c0, c1, c2, c3, hgc⟩ | exact keepA _)
          (first | (refine step_pushP (by rfl) _ _ 35 (by rfl) Try.underlying35 Try.infoP (by rfl) (show SlP w3.drew _ _ _ from S3.out) (N + 1, e.gt, x) (by rfl) (by rfl) (by rw [parcs_length]; omega) (by show w1.heap.size + 1 ≤ w3.heap.size; omega) ?_; intro v4 w4 S4 G4 Z4 L4; have E4 := EndC.kept (show EndC w3.drew _ _ _ _ _ _ _ from X3.out) G4 (fun he => by have := hne _ he.symm; omega); have t4 : w4.cell? ⟨g, off + m, none⟩ = some (.string x) := by (rw [← hgc]; simp only [World.cell?]; rw [G4.block g (show g < w3.heap.size by omega) (fun he => by have := hne _ he.symm; omega)]; rfl)))
        have hrow : ∀ j, j < w1.heap.size + 1 → some j ≠ (Value.slice ya k yc).ownBlock := fun j hj he => by have := hne _ he.symm; omega
        have z4 : w1.heap.size + 2 ≤ w4.heap.size := by have : w3.heap.size + 1 ≤ w4.heap.size := Z4; omega
        have f0 := E4.frozen 0
        have c04 := E4.cells.1
        have HSS : Hid (SlP (w4.setCell ⟨w1.heap.size, 0, none⟩ (.int .i64 (N + 1))) (w1.heap.size + 1) v4 (parcs e (sent e) (k + 1))) := by
          have S4' : SlP w4 (w1.heap.size + 1) v4 (parcs e (sent e) (k + 1)) := by
            rw [parcs_succ, ← Hm.out, HX.out]
            exact S4
          exact Sl.kept S4' (grown_cell _ _ _ _) (fun j hj he => by have := (Sl.lt S4' j hj).1; simp at he; omega)
        have HXX : Hid (EndC (w4.setCell ⟨w1.heap.size, 0, none⟩ (.int .i64 (N + 1))) 32 w1.heap.size (N + 1) e.ak (.slice (some ⟨g, off, none⟩) e.q.length vc) e.gt (.slice ua e.o.length uc)) := E4.set0 _
        have HEE : Hid (EndC (w4.setCell ⟨w1.heap.size, 0, none⟩ (.int .i64 (N + 1))) 32 w.heap.size e.nx e.ak (.slice qa e.q.length qc) e.gt (.slice oa e.o.length oc)) := (EndC.kept (show EndC w3.drew _ _ _ _ _ _ _ from E3.out) G4 (hrow _ (by omega))).other (by omega)
        have HRR : Hid (EndC (w4.setCell ⟨w1.heap.size, 0, none⟩ (.int .i64 (N + 1))) 32 (w.heap.size + 1) 0 0 (.slice none 0 0) 0 (.slice none 0 0)) := (EndC.kept (show EndC w3.drew _ _ _ _ _ _ _ from R3.out) G4 (hrow _ (by omega))).other (by omega)
        have HQQ : Hid (SlT (w4.setCell ⟨w1.heap.size, 0, none⟩ (.int .i64 (N + 1))) W0.heap.size (.slice (some ⟨g, off, none⟩) e.q.length vc) e.q) := slt_other (Sl.kept (show Sl w3.drew _ _ _ _ _ _ from Q3.out) G4 (fun j hj => hrow j (by have := HL.out j (.inl hj); omega))) (fun he => by have := HL.out _ (.inl he); omega)
        have HOO : Hid (SlT (w4.setCell ⟨w1.heap.size, 0, none⟩ (.int .i64 (N + 1))) W0.heap.size (.slice ua e.o.length uc) e.o) := slt_other (Sl.kept (show Sl w3.drew _ _ _ _ _ _ from O3.out) G4 (fun j hj => hrow j (by have := HL.out j (.inr hj); omega))) (fun he => by have := HL.out _ (.inr he); omega)
        have HBB : Hid (Below w.heap.size w (w4.setCell ⟨w1.heap.size, 0, none⟩ (.int .i64 (N + 1)))) := by
          have : Below w.heap.size w w4 := B3.out.drew.trans ⟨G4.os, G4.tape, G4.output, G4.size, fun j hj => G4.block j (show j < w3.heap.size by omega) (hrow j (by omega))⟩
          exact this.setCell (show w.heap.size ≤ w1.heap.size by omega) _
        have zz : w1.heap.size + 2 ≤ (w4.setCell ⟨w1.heap.size, 0, none⟩ (.int .i64 (N + 1))).heap.size := by simpa [World.setCell] using z4
        have HLL : Hid (lenV v4 = k + 1) := by
          obtain ⟨xa, xc, rfl⟩ := Sl.form S4
          show (parcs e (sent e) k ++ [(N + 1, e.gt, x)]).length = k + 1
          rw [List.length_append, parcs_length]
          rfl
        clear S4 G4 Z4 L4 E4 t4 S3 E3 R3 X3 Q3 O3 B3 c0 c1 c2 c3 c4 hgc hne hrow keepA
        go_wp2_with fail
        generalize w4.setCell ⟨w1.heap.size, 0, none⟩ (.int .i64 (N + 1)) = W9 at *
        go_roundw
        case rel => exact ⟨k + 1, by have := Hm.out; omega, HSS.out, HEE.out, HRR.out, (by rw [show e.nx + ((k + 1 : Nat) : Int) = N + 1 by rw [HN.out]; omega]; exact HXX.out), HQQ.out, HOO.out, HBB.out, zz⟩
        case measure =>
          have := Hm.out
          have := HLL.out
          simp [lenV] at *
          omega
      · have hkk : Hid (m = wide e) := by show m = wide e; omega
        have HNF : Hid (newF e = ⟨N, e.ak, e.q, e.gt, e.o⟩) := by
          show newF e = _
          unfold newF newE
          rw [hok, if_pos rfl, HN.out]
          have := Hse.out
          have := Hm.out
          have := hkk.out
          congr 1
          omega
        have HNL : Hid (newL e = parcs e (sent e) k) := by
          show newL e = _
          unfold newL newP
          rw [hok, if_pos rfl]
          have := Hm.out
          have := hkk.out
          congr 1
          omega
        obtain ⟨ya, yc, rfl⟩ := Sl.form S3.out
        generalize (parcs e (sent e) k).length = K at *
        obtain ⟨r0, r1, r2, r3, r4⟩ := R3.out.cells
        have k0 := R3.out.frozen 0
        have k1 := R3.out.frozen 1
        have k2 := R3.out.frozen 2
        have k3 := R3.out.frozen 3
        have k4 := R3.out.frozen 4
        have S3 : Hid (SlP w3 w1.heap.size (.slice ya K yc) (parcs e (sent e) k)) := Sl.down S3.out (by omega)
        by_cases h4 : wide e = 4
        · have d1 : decide (N < e.ak + 4) = false := by have := HNk.out; simp; omega
          go_wp2_with fail
          show bodyPost _ _ _ _ _ (fillE w3 (w.heap.size + 1) N e.ak (.slice va e.q.length vc) e.gt (.slice ua e.o.length uc))
          have K1 := fill_end R3.out N e.ak e.gt (.slice va e.q.length vc) (.slice ua e.o.length uc)
          have K2 := fill_grown w3 (w.heap.size + 1) N e.ak e.gt (.slice va e.q.length vc) (.slice ua e.o.length uc)
          have T1 := slt_grown Q3.out K2 (ne_low Q3.out (by omega))
          have T2 := slt_grown O3.out K2 (ne_low O3.out (by omega))
          have T3 : SlP (fillE w3 (w.heap.size + 1) N e.ak (.slice va e.q.length vc) e.gt (.slice ua e.o.length uc)) w1.heap.size (.slice ya K yc) (parcs e (sent e) k) := Sl.kept S3.out K2 (fun k hk he => by have := (Sl.lt S3.out k hk).1; simp at he; omega)
          have HBF := B3.out.trans (grown_to_below K2 (by omega) B3.out.size)
          have hzz := K2.size
          generalize fillE w3 (w.heap.size + 1) N e.ak (.slice va e.q.length vc) e.gt (.slice ua e.o.length uc) = W6 at *
          obtain ⟨q0, q1, q2, q3, q4⟩ := K1.cells
          refine bodyPost_ret (v := .tuple #[.agg #[.int .i64 N, .int .i64 e.ak, .slice va e.q.length vc, .int .i64 e.gt, .slice ua e.o.length uc], .slice ya K yc]) (by simp [results, Try.results31, go_sem, q0, q1, q2, q3, q4]) rfl ?_
          refine ⟨⟨_, _, w1.heap.size, rfl, (by omega), ?_, ?_⟩, HBF⟩
          · rw [show newF e = ⟨N, e.ak, e.q, e.gt, e.o⟩ by exact HNF.out]
            exact endI_of (e := ⟨N, e.ak, e.q, e.gt, e.o⟩) T1 T2 D.out HL.out (by omega) (by omega)
          · rw [show newL e = parcs e (sent e) k by exact HNL.out]
            exact ⟨T3, fun k hk => Sl.lt T3 k hk, Nat.le_refl _⟩
        · have d1 : decide (N < e.ak + 4) = true := by have := HNk.out; simp; omega
          have d2 : decide ((m : Int) < (e.q.length : Int)) = false := by simp; omega
          go_wp2_with fail
          show bodyPost _ _ _ _ _ (fillE w3 (w.heap.size + 1) N e.ak (.slice va e.q.length vc) e.gt (.slice ua e.o.length uc))
          have K1 := fill_end R3.out N e.ak e.gt (.slice va e.q.length vc) (.slice ua e.o.length uc)
          have K2 := fill_grown w3 (w.heap.size + 1) N e.ak e.gt (.slice va e.q.length vc) (.slice ua e.o.length uc)
          have T1 := slt_grown Q3.out K2 (ne_low Q3.out (by omega))
          have T2 := slt_grown O3.out K2 (ne_low O3.out (by omega))
          have T3 : SlP (fillE w3 (w.heap.size + 1) N e.ak (.slice va e.q.length vc) e.gt (.slice ua e.o.length uc)) w1.heap.size (.slice ya K yc) (parcs e (sent e) k) := Sl.kept S3.out K2 (fun k hk he => by have := (Sl.lt S3.out k hk).1; simp at he; omega)
          have HBF := B3.out.trans (grown_to_below K2 (by omega) B3.out.size)
          have hzz := K2.size
          generalize fillE w3 (w.heap.size + 1) N e.ak (.slice va e.q.length vc) e.gt (.slice ua e.o.length uc) = W6 at *
          obtain ⟨q0, q1, q2, q3, q4⟩ := K1.cells
          refine bodyPost_ret (v := .tuple #[.agg #[.int .i64 N, .int .i64 e.ak, .slice va e.q.length vc, .int .i64 e.gt, .slice ua e.o.length uc], .slice ya K yc]) (by simp [results, Try.results31, go_sem, q0, q1, q2, q3, q4]) rfl ?_
          refine ⟨⟨_, _, w1.heap.size, rfl, (by omega), ?_, ?_⟩, HBF⟩
          · rw [show newF e = ⟨N, e.ak, e.q, e.gt, e.o⟩ by exact HNF.out]
            exact endI_of (e := ⟨N, e.ak, e.q, e.gt, e.o⟩) T1 T2 D.out HL.out (by omega) (by omega)
          · rw [show newL e = parcs e (sent e) k by exact HNL.out]
            exact ⟨T3, fun k hk => Sl.lt T3 k hk, Nat.le_refl _⟩
end Go.Proofs.Ytohagaelenhebaa
