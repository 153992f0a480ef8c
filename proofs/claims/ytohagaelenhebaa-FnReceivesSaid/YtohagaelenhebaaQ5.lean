/- The walk over the program's SendNew. -/
import Derived.Test.YtohagaelenhebaaQ3
import Derived.Test.YtohagaelenhebaaBy
namespace Go.Proofs.Ytohagaelenhebaa
open Go.RowKit Pl Go.Conc
set_option linter.unusedVariables false

/-- .. and its lists are these. -/
def EndQ (w : World) (B p : Nat) (e : En) (qv ov : Value) : Prop := EndC w 32 p e.nx e.ak qv e.gt ov ∧ SlT w B qv e.q ∧ SlT w B ov e.o ∧ Dj qv ov ∧ B ≤ p ∧ qv.ownBlock ≠ some p ∧ ov.ownBlock ≠ some p
theorem EndQ.below {w w' : World} {B p : Nat} {e : En} {qv ov : Value} (h : EndQ w B p e qv ov) (hb : Below w.heap.size w w') : EndQ w' B p e qv ov := by
  obtain ⟨h1, h2, h3, h4⟩ := h
  exact ⟨h1.below hb, Sl.below h2 hb, Sl.below h3 hb, h4⟩
set_option maxRecDepth 100000 in
set_option maxHeartbeats 4000000 in
theorem psendNewQ {e : En} {B p : Nat} {qv ov : Value} (w : World) (h : EndQ w B p e qv ov) (hok : OkP e) :
    Calls Try.prog 58 #[.pointer (some ⟨p, 0, none⟩)] w fun r w' => ∃ c cap, r = .returned (.chan (some c)) ∧ ChAt w' c cap true (newP e) ∧ EndQ w' B p (newE e) qv ov ∧ w.heap.size ≤ c ∧ Below B w w' ∧ Gr (fun k => k = p) w w' := by
  obtain ⟨X0, S0, O0, D0, hBp, n1, n2⟩ := h
  obtain ⟨qa, qc, rfl⟩ := Sl.form S0
  obtain ⟨c0, c1, c2, c3, c4⟩ := X0.cells
  have f0 := X0.frozen 0
  have hpl := X0.lt
  have ha0 := hok.a0
  have ha1 := hok.a1
  have hn0 := hok.n0
  have hn1 := hok.n1
  have hq0 := hok.q0
  have hq1 := hok.q1
  have ww : (e.ak + if (e.q.length : Int) < 4 then (e.q.length : Int) else 4) = e.ak + ((min 4 e.q.length : Nat) : Int) := by
    split <;> omega
  have HP : Hid (EndQ (w.setCell ⟨p, 0, none⟩ (.int .i64 (e.ak + ((min 4 e.q.length : Nat) : Int)))).drew B p (newE e) (.slice qa e.q.length qc) ov) :=
    ⟨X0.set0 _, slt_other S0 n1, slt_other O0 n2, D0, hBp, n1, n2⟩
  have HB : Hid (Below B w (w.setCell ⟨p, 0, none⟩ (.int .i64 (e.ak + ((min 4 e.q.length : Nat) : Int)))).drew) := ((Below.refl B w).setCell hBp _).drew
  have HG : Hid (Gr (fun k => k = p) w (w.setCell ⟨p, 0, none⟩ (.int .i64 (e.ak + ((min 4 e.q.length : Nat) : Int)))).drew) := by
    have h1 : Gr (fun k => k = p) w (w.setCell ⟨p, 0, none⟩ (.int .i64 (e.ak + ((min 4 e.q.length : Nat) : Int)))) := Gr.ofGrown (grown_cell w p 0 _) (fun k hk => (Option.some.inj hk).symm)
    exact ⟨h1.os, h1.tape, h1.output, h1.size, h1.block⟩
  have hz : (w.setCell ⟨p, 0, none⟩ (.int .i64 (e.ak + ((min 4 e.q.length : Nat) : Int)))).drew.heap.size = w.heap.size := by simp [World.setCell]
  have d0 : (w.setCell ⟨p, 0, none⟩ (.int .i64 (e.ak + ((min 4 e.q.length : Nat) : Int)))).drew.cell? ⟨p, 0, none⟩ = some (.int .i64 (e.ak + ((min 4 e.q.length : Nat) : Int))) := by
    have := (X0.set0 (e.ak + ((min 4 e.q.length : Nat) : Int))).cells.1
    exact this
  have HFQ : Hid (∀ t ∈ e.q, t.size ≤ 1048576) := fun t ht => by have := hok.fq t ht; omega
  clear X0 S0 O0 D0 n1 n2
  go_enter Try.func58, Try.ntmps58
  go_wp2_with fail
  go_region
  generalize (w.setCell ⟨p, 0, none⟩ (.int .i64 (e.ak + ((min 4 e.q.length : Nat) : Int)))).drew = W at *
  clear c0 c1 c2 c3 c4 f0 ww
  go_wp2_with fail
  all_goals
    have e1 : e.nx = (newE e).ak + (sent e : Int) := by show e.nx = e.ak + (sent e : Int); unfold sent; omega
    have e2 : e.ak + ((min 4 e.q.length : Nat) : Int) = (newE e).ak + (sent e : Int) + ((wide e - sent e : Nat) : Int) := by
      show e.ak + ((min 4 e.q.length : Nat) : Int) = e.ak + (sent e : Int) + ((wide e - sent e : Nat) : Int)
      unfold sent wide
      omega
    rw [e1, e2]
    refine (pparcels_any (e := newE e) W ⟨_, _, HP.out⟩ (by show sent e + (wide e - sent e) ≤ e.q.length; unfold sent wide; omega) (by unfold sent wide; omega) ha0 ha1 (by unfold sent; omega) HFQ).mono ?_
    rintro r w2 ⟨c, rfl, hC, hc, hb⟩
    have HP2 : Hid (EndQ w2 B p (newE e) (.slice qa e.q.length qc) ov) := HP.out.below hb
    have HB2 : Hid (Below B w w2) := HB.out.trans (hb.mono (by omega))
    have HC2 : Hid (ChAt w2 c (wide e - sent e) true (newP e)) := hC
    have HG2 : Hid (Gr (fun k => k = p) w w2) := HG.out.trans (Gr.ofBelow hb)
    clear hC hb HP HB HG d0 e1 e2
    go_wp2_with fail
    go_ret
    exact ⟨c, _, rfl, HC2.out, HP2.out, by omega, HB2.out, HG2.out⟩

def newL (e : En) : List Pc := if okB e then newP e else []
def newF (e : En) : En := if okB e then newE e else e
theorem newP_len (e : En) : (newP e).length ≤ 4 := by
  unfold newP wide
  rw [parcs_length]
  omega
theorem newL_len (e : En) : (newL e).length ≤ 4 := by
  unfold newL
  split
  · exact newP_len e
  · simp

/-- what SendNew gives. -/
def NewOut (w w' : World) (e : En) (r : Ending) : Prop := ∃ v u mid, r = .returned (.tuple #[v, u]) ∧ w.heap.size ≤ mid ∧ EndI w' w.heap.size mid v (newF e) ∧ SlI w' mid w'.heap.size u (newL e)

theorem endI_of {w w' : World} {B mid : Nat} {e : En} {qa oa : Option Addr} {N qc M oc : Nat} (hq : SlT w' B (.slice qa N qc) e.q) (ho : SlT w' B (.slice oa M oc) e.o) (hd : Dj (.slice qa N qc) (.slice oa M oc)) (hm : ∀ k, (Value.slice qa N qc).ownBlock = some k ∨ (Value.slice oa M oc).ownBlock = some k → k < mid) (hz : mid ≤ w'.heap.size) (hB : w.heap.size ≤ B) :
    EndI w' w.heap.size mid (.agg #[.int .i64 e.nx, .int .i64 e.ak, .slice qa N qc, .int .i64 e.gt, .slice oa M oc]) e :=
  ⟨⟨_, _, rfl, Sl.down hq hB, Sl.down ho hB, hd⟩, fun k hk => by
    rcases endBlk_is.1 hk with h | h
    · exact ⟨Nat.le_trans hB (Sl.lt hq k h).1, hm k (.inl h)⟩
    · exact ⟨Nat.le_trans hB (Sl.lt ho k h).1, hm k (.inr h)⟩, hz⟩

set_option maxRecDepth 100000 in
set_option maxHeartbeats 4000000 in
theorem sendNew_any {v : Value} {e : En} (w : World) (h : EndR w v e) (lq : e.q.length ≤ 1048576) (lo : e.o.length ≤ 1048576) (sq : Hid (∀ t ∈ e.q, t.size ≤ 1048576)) (so : Hid (∀ t ∈ e.o, t.size ≤ 1048576)) :
    Calls Try.prog 18 #[v] w fun r w' => NewOut w w' e r ∧ Below w.heap.size w w' := by
  have HR : Hid (EndR w v e) := h
  obtain ⟨qa, qc, oa, oc, rfl, hq, ho⟩ := h
  clear hq ho
  go_enter Try.func18, Try.ntmps18
  go_wp2_with fail
  have E0 : EndC ((w.alloc (Obj.cells #[Value.int IntKind.i64 e.nx, Value.int IntKind.i64 e.ak, Value.slice qa e.q.length qc, Value.int IntKind.i64 e.gt, Value.slice oa e.o.length oc] 32)).alloc (Obj.cells #[Value.int IntKind.i64 0, Value.int IntKind.i64 0, Value.slice none 0 0, Value.int IntKind.i64 0, Value.slice none 0 0] 32)) 32 w.heap.size e.nx e.ak (.slice qa e.q.length qc) e.gt (.slice oa e.o.length oc) := (EndC.new w 32 e.nx e.ak e.gt _ _).below ((Below.refl _ _).alloc (Nat.le_refl _) _)
  have R0 : EndC ((w.alloc (Obj.cells #[Value.int IntKind.i64 e.nx, Value.int IntKind.i64 e.ak, Value.slice qa e.q.length qc, Value.int IntKind.i64 e.gt, Value.slice oa e.o.length oc] 32)).alloc (Obj.cells #[Value.int IntKind.i64 0, Value.int IntKind.i64 0, Value.slice none 0 0, Value.int IntKind.i64 0, Value.slice none 0 0] 32)) 32 (w.heap.size + 1) 0 0 (.slice none 0 0) 0 (.slice none 0 0) := by
    have := EndC.new (w.alloc (Obj.cells #[Value.int IntKind.i64 e.nx, Value.int IntKind.i64 e.ak, Value.slice qa e.q.length qc, Value.int IntKind.i64 e.gt, Value.slice oa e.o.length oc] 32)) 32 0 0 0 (.slice none 0 0) (.slice none 0 0)
    simpa using this
  have B0 : Below w.heap.size w ((w.alloc (Obj.cells #[Value.int IntKind.i64 e.nx, Value.int IntKind.i64 e.ak, Value.slice qa e.q.length qc, Value.int IntKind.i64 e.gt, Value.slice oa e.o.length oc] 32)).alloc (Obj.cells #[Value.int IntKind.i64 0, Value.int IntKind.i64 0, Value.slice none 0 0, Value.int IntKind.i64 0, Value.slice none 0 0] 32)) := ((Below.refl _ _).alloc (Nat.le_refl _) _).alloc (by simp) _
  have Z0 : ((w.alloc (Obj.cells #[Value.int IntKind.i64 e.nx, Value.int IntKind.i64 e.ak, Value.slice qa e.q.length qc, Value.int IntKind.i64 e.gt, Value.slice oa e.o.length oc] 32)).alloc (Obj.cells #[Value.int IntKind.i64 0, Value.int IntKind.i64 0, Value.slice none 0 0, Value.int IntKind.i64 0, Value.slice none 0 0] 32)).heap.size = w.heap.size + 2 := by simp
  generalize ((w.alloc (Obj.cells #[Value.int IntKind.i64 e.nx, Value.int IntKind.i64 e.ak, Value.slice qa e.q.length qc, Value.int IntKind.i64 e.gt, Value.slice oa e.o.length oc] 32)).alloc (Obj.cells #[Value.int IntKind.i64 0, Value.int IntKind.i64 0, Value.slice none 0 0, Value.int IntKind.i64 0, Value.slice none 0 0] 32)) = W0 at *
  refine (copyEnd_any W0 (EndR.stays HR.out B0) lq lo sq so).mono ?_
  rintro r w1 ⟨p, rfl, hP, hb1⟩
  obtain ⟨qv, ov, hQ⟩ := hP
  obtain ⟨va, vc, rfl⟩ := Sl.form hQ.2.1
  obtain ⟨ua, uc, rfl⟩ := Sl.form hQ.2.2.1
  have HL : Hid (∀ k, (Value.slice va e.q.length vc).ownBlock = some k ∨ (Value.slice ua e.o.length uc).ownBlock = some k → k < w1.heap.size) := fun k hk => by
    rcases hk with hk | hk
    · exact (Sl.lt hQ.2.1 k hk).2
    · exact (Sl.lt hQ.2.2.1 k hk).2
  have hpl : p < w1.heap.size := hQ.1.lt
  have hpB : W0.heap.size ≤ p := hQ.2.2.2.2.1
  have E1 := E0.below hb1
  have R1 : Hid (EndC w1 32 (w.heap.size + 1) 0 0 (.slice none 0 0) 0 (.slice none 0 0)) := R0.below hb1
  have B1 : Hid (Below w.heap.size w w1) := B0.trans (hb1.mono B0.size)
  have z1 : W0.heap.size ≤ w1.heap.size := hb1.size
  obtain ⟨a0, a1, a2, a3, a4⟩ := E1.cells
  clear E0 R0 B0 E1 hb1
  go_wp2_with fail
  refine (endOk_any w1 (EndR.stays HR.out B1.out) lq lo).mono ?_
  rintro r w2 ⟨rfl, hb2⟩
  have hQ2 : EndQ w2 W0.heap.size p e (.slice va e.q.length vc) (.slice ua e.o.length uc) := EndQ.below hQ hb2
  have R2 : Hid (EndC w2 32 (w.heap.size + 1) 0 0 (.slice none 0 0) 0 (.slice none 0 0)) := R1.out.below hb2
  have B2 : Hid (Below w.heap.size w w2) := B1.out.trans (hb2.mono B1.out.size)
  have z2 : w1.heap.size ≤ w2.heap.size := hb2.size
  clear a0 a1 a2 a3 a4 hQ hb2 R1 B1 HR
  cases hok : okB e with
  | false =>
    have hb3 : Below w2.heap.size w2 (w2.alloc (.cells #[] 41)) := (Below.refl _ _).alloc (Nat.le_refl _) _
    have hQ3 : Hid (EndQ (w2.alloc (.cells #[] 41)) W0.heap.size p e (.slice va e.q.length vc) (.slice ua e.o.length uc)) := hQ2.below hb3
    have R3 : Hid (EndC (w2.alloc (.cells #[] 41)) 32 (w.heap.size + 1) 0 0 (.slice none 0 0) 0 (.slice none 0 0)) := R2.out.below hb3
    have B3 : Hid (Below w.heap.size w (w2.alloc (.cells #[] 41))) := B2.out.alloc (by omega) _
    have S3 : Hid (SlP (w2.alloc (.cells #[] 41)) w1.heap.size (.slice (some ⟨w2.heap.size, 0, none⟩) 0 0) []) := Sl.made w2 41 3 w1.heap.size z2
    have z3 : (w2.alloc (.cells #[] 41)).heap.size = w2.heap.size + 1 := by simp
    obtain ⟨c0, c1, c2, c3, c4⟩ := hQ2.1.cells
    obtain ⟨r0, r1, r2, r3, r4⟩ := R3.out.cells
    have k0 := R3.out.frozen 0
    have k1 := R3.out.frozen 1
    have k2 := R3.out.frozen 2
    have k3 := R3.out.frozen 3
    have k4 := R3.out.frozen 4
    clear hQ2 R2 hb3
    go_wp2_with fail
    show bodyPost _ _ _ _ _ (fillE (w2.alloc (.cells #[] 41)) (w.heap.size + 1) e.nx e.ak (.slice va e.q.length vc) e.gt (.slice ua e.o.length uc))
    have K1 := fill_end R3.out e.nx e.ak e.gt (.slice va e.q.length vc) (.slice ua e.o.length uc)
    have K2 := fill_grown (w2.alloc (.cells #[] 41)) (w.heap.size + 1) e.nx e.ak e.gt (.slice va e.q.length vc) (.slice ua e.o.length uc)
    have T1 := slt_grown hQ3.out.2.1 K2 (ne_low hQ3.out.2.1 (by omega))
    have T2 := slt_grown hQ3.out.2.2.1 K2 (ne_low hQ3.out.2.2.1 (by omega))
    have T3 : SlP (fillE (w2.alloc (.cells #[] 41)) (w.heap.size + 1) e.nx e.ak (.slice va e.q.length vc) e.gt (.slice ua e.o.length uc)) w1.heap.size (.slice (some ⟨w2.heap.size, 0, none⟩) 0 0) ([]) := Sl.kept S3.out K2 (fun k hk he => by have := (Sl.lt S3.out k hk).1; simp at he; omega)
    have HBF := B3.out.trans (grown_to_below K2 (by omega) B3.out.size)
    have hzz := K2.size
    generalize fillE (w2.alloc (.cells #[] 41)) (w.heap.size + 1) e.nx e.ak (.slice va e.q.length vc) e.gt (.slice ua e.o.length uc) = W6 at *
    obtain ⟨q0, q1, q2, q3, q4⟩ := K1.cells
    refine bodyPost_ret (v := .tuple #[.agg #[.int .i64 e.nx, .int .i64 e.ak, .slice va e.q.length vc, .int .i64 e.gt, .slice ua e.o.length uc], .slice (some ⟨w2.heap.size, 0, none⟩) 0 0]) (by simp [results, Try.results18, go_sem, q0, q1, q2, q3, q4]) rfl ?_
    refine ⟨⟨_, _, w1.heap.size, rfl, (by omega), ?_, ?_⟩, HBF⟩
    · rw [show newF e = e by unfold newF; rw [hok]; rfl]
      exact endI_of (e := e) T1 T2 hQ3.out.2.2.2.1 HL.out (by omega) (by omega)
    · rw [show newL e = [] by unfold newL; rw [hok]; rfl]
      exact ⟨T3, fun k hk => Sl.lt T3 k hk, Nat.le_refl _⟩
  | true =>
    have hp := okB_true.1 hok
    have hb3 : Below w2.heap.size w2 (w2.alloc (.cells #[] 41)) := (Below.refl _ _).alloc (Nat.le_refl _) _
    have hQ3 : EndQ (w2.alloc (.cells #[] 41)) W0.heap.size p e (.slice va e.q.length vc) (.slice ua e.o.length uc) := hQ2.below hb3
    have R3 := R2.out.below hb3
    have B3 : Below w.heap.size w (w2.alloc (.cells #[] 41)) := B2.out.alloc (by omega) _
    have S3 : SlP (w2.alloc (.cells #[] 41)) w1.heap.size (.slice (some ⟨w2.heap.size, 0, none⟩) 0 0) [] := Sl.made w2 41 3 w1.heap.size z2
    have z3 : (w2.alloc (.cells #[] 41)).heap.size = w2.heap.size + 1 := by simp
    clear hQ2 R2 B2 hb3
    go_wp2_with fail
    generalize (w2.alloc (.cells #[] 41)) = W3 at *
    refine (psendNewQ W3 hQ3 hp).mono ?_
    rintro r w4 ⟨c, cap, rfl, hC, hQ4, hc, hb4, hg4⟩
    have R4 : EndC w4 32 (w.heap.size + 1) 0 0 (.slice none 0 0) 0 (.slice none 0 0) := R3.stays hb4 (by omega)
    have B4 : Below w.heap.size w w4 := B3.trans (hb4.mono (by omega))
    have S4 : SlP w4 w1.heap.size (.slice (some ⟨w2.heap.size, 0, none⟩) 0 0) [] := Sl.gr S3 hg4 (fun k hk hkp => by simp [Value.ownBlock] at hk; omega)
    have z4 : W3.heap.size ≤ w4.heap.size := hg4.size
    clear hQ3 R3 B3 S3 hb4 hg4
    go_wp2_with fail
    refine (withP_any w4 S4 hC (by omega) (by have := newP_len e; simp; omega)).mono ?_
    rintro r w5 ⟨v5, rfl, s5, g5, l5⟩
    obtain ⟨ya, yc, rfl⟩ := Sl.form s5
    rw [List.nil_append] at s5 ⊢
    have hSk : ∀ k, (k = c ∨ (Value.slice (some ⟨w2.heap.size, 0, none⟩) 0 0).ownBlock = some k) → w2.heap.size ≤ k := fun k hk => by
      rcases hk with rfl | hk
      · omega
      · simp [Value.ownBlock] at hk; omega
    have hQ5 : Hid (EndQ w5 W0.heap.size p (newE e) (.slice va e.q.length vc) (.slice ua e.o.length uc)) := by
      obtain ⟨x1, x2, x3, x4, x5, x6, x7⟩ := hQ4
      exact ⟨(g5.block p x1.lt (fun hk => by have := hSk _ hk; omega)).trans x1, Sl.gr x2 g5 (fun k hk hs => by have := hSk _ hs; have := HL.out k (.inl hk); omega), Sl.gr x3 g5 (fun k hk hs => by have := hSk _ hs; have := HL.out k (.inr hk); omega), x4, x5, x6, x7⟩
    have R5 : Hid (EndC w5 32 (w.heap.size + 1) 0 0 (.slice none 0 0) 0 (.slice none 0 0)) := (g5.block (w.heap.size + 1) R4.lt (fun hk => by have := hSk _ hk; omega)).trans R4
    have B5 : Hid (Below w.heap.size w w5) := B4.trans (g5.below (fun k hk => by have := hSk _ hk; omega) (by omega))
    have S5 : Hid (SlP w5 w1.heap.size (.slice ya (newP e).length yc) (newP e)) := s5
    have z5 : w4.heap.size ≤ w5.heap.size := g5.size
    generalize (newP e).length = N at *
    obtain ⟨c0, c1, c2, c3, c4⟩ := hQ5.out.1.cells
    obtain ⟨r0, r1, r2, r3, r4⟩ := R5.out.cells
    have k0 := R5.out.frozen 0
    have k1 := R5.out.frozen 1
    have k2 := R5.out.frozen 2
    have k3 := R5.out.frozen 3
    have k4 := R5.out.frozen 4
    clear hQ4 R4 B4 S4 hC s5 g5 l5 hSk
    go_wp2_with fail
    show bodyPost _ _ _ _ _ (fillE w5 (w.heap.size + 1) (newE e).nx (newE e).ak (.slice va e.q.length vc) (newE e).gt (.slice ua e.o.length uc))
    have K1 := fill_end R5.out (newE e).nx (newE e).ak (newE e).gt (.slice va e.q.length vc) (.slice ua e.o.length uc)
    have K2 := fill_grown w5 (w.heap.size + 1) (newE e).nx (newE e).ak (newE e).gt (.slice va e.q.length vc) (.slice ua e.o.length uc)
    have T1 := slt_grown hQ5.out.2.1 K2 (ne_low hQ5.out.2.1 (by omega))
    have T2 := slt_grown hQ5.out.2.2.1 K2 (ne_low hQ5.out.2.2.1 (by omega))
    have T3 : SlP (fillE w5 (w.heap.size + 1) (newE e).nx (newE e).ak (.slice va e.q.length vc) (newE e).gt (.slice ua e.o.length uc)) w1.heap.size (.slice ya N yc) (newP e) := Sl.kept S5.out K2 (fun k hk he => by have := (Sl.lt S5.out k hk).1; simp at he; omega)
    have HBF := B5.out.trans (grown_to_below K2 (by omega) B5.out.size)
    have hzz := K2.size
    generalize fillE w5 (w.heap.size + 1) (newE e).nx (newE e).ak (.slice va e.q.length vc) (newE e).gt (.slice ua e.o.length uc) = W6 at *
    obtain ⟨q0, q1, q2, q3, q4⟩ := K1.cells
    refine bodyPost_ret (v := .tuple #[.agg #[.int .i64 (newE e).nx, .int .i64 (newE e).ak, .slice va e.q.length vc, .int .i64 (newE e).gt, .slice ua e.o.length uc], .slice ya N yc]) (by simp [results, Try.results18, go_sem, q0, q1, q2, q3, q4]) rfl ?_
    refine ⟨⟨_, _, w1.heap.size, rfl, (by omega), ?_, ?_⟩, HBF⟩
    · rw [show newF e = (newE e) by unfold newF; rw [hok]; rfl]
      exact endI_of (e := (newE e)) T1 T2 hQ5.out.2.2.2.1 HL.out (by omega) (by omega)
    · rw [show newL e = newP e by unfold newL; rw [hok]; rfl]
      exact ⟨T3, fun k hk => Sl.lt T3 k hk, Nat.le_refl _⟩
end Go.Proofs.Ytohagaelenhebaa
