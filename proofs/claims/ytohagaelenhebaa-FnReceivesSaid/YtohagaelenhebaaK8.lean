/- What the specification's Talk holds: two ends in boxes, two lists on the way. -/
import Derived.Test.YtohagaelenhebaaK1
import Derived.Test.YtohagaelenhebaaS4
import Derived.Test.YtohagaelenhebaaS3
import Derived.Test.YtohagaelenhebaaS2
namespace Go.Proofs.Ytohagaelenhebaa
open Go.RowKit Pl
set_option linter.unusedVariables false

structure SpS (w : World) (B : Nat) (t : Tk) (z : Nat → Nat) (pa pb : Nat) (qa oa qb ob tv bv : Value) : Prop where
  a : EndQ w B pa t.a qa oa
  b : EndQ w B pb t.b qb ob
  th : SlP w B tv t.th
  bk : SlP w B bv t.bk
  za : Lab z 1 pa qa oa
  zb : Lab z 2 pb qb ob
  zt : ∀ k, tv.ownBlock = some k → z k = 3
  zk : ∀ k, bv.ownBlock = some k → z k = 4
def SpQ (w : World) (B pa pb : Nat) (t : Tk) (tv bv : Value) : Prop := ∃ z qa oa qb ob, SpS w B t z pa pb qa oa qb ob tv bv

section
variable {w w1 w2 : World} {B : Nat} {t : Tk} {z : Nat → Nat} {pa pb : Nat} {qa oa qb ob tv bv : Value}
theorem SpS.below (h : SpS w B t z pa pb qa oa qb ob tv bv) (hb : Below w.heap.size w w1) : SpS w1 B t z pa pb qa oa qb ob tv bv :=
  ⟨h.a.below hb, h.b.below hb, Sl.below h.th hb, Sl.below h.bk hb, h.za, h.zb, h.zt, h.zk⟩
theorem SpS.mark (h : SpS w B t z pa pb qa oa qb ob tv bv) (m : Nat) : SpS w B t (relab z w.heap.size m) pa pb qa oa qb ob tv bv :=
  ⟨h.a, h.b, h.th, h.bk, h.za.old h.a.1.lt (fun k hk => (Sl.lt h.a.2.1 k hk).2) (fun k hk => (Sl.lt h.a.2.2.1 k hk).2), h.zb.old h.b.1.lt (fun k hk => (Sl.lt h.b.2.1 k hk).2) (fun k hk => (Sl.lt h.b.2.2.1 k hk).2), fun k hk => (relab_old (Sl.lt h.th k hk).2).trans (h.zt k hk), fun k hk => (relab_old (Sl.lt h.bk k hk).2).trans (h.zk k hk)⟩
/-- a new end in the first box; its lists are new. -/
theorem SpS.set_a (h : SpS w B t z pa pb qa oa qb ob tv bv) {e : En} {xa xb : Option Addr} {xc xd : Nat} {N : Nat} (hN : w.heap.size ≤ N) (hb : Below w.heap.size w w1) (m : EndM w1 N (.agg #[.int .i64 e.nx, .int .i64 e.ak, .slice xa e.q.length xc, .int .i64 e.gt, .slice xb e.o.length xd]) e) :
    SpS (fillE w1 pa e.nx e.ak (.slice xa e.q.length xc) e.gt (.slice xb e.o.length xd)) B { t with a := e } (relab z w.heap.size 1) pa pb (.slice xa e.q.length xc) (.slice xb e.o.length xd) qb ob tv bv ∧ Below B w (fillE w1 pa e.nx e.ak (.slice xa e.q.length xc) e.gt (.slice xb e.o.length xd)) := by
  have h1 := (h.mark 1).below hb
  have hpl := h.a.1.lt
  have hBp := h.a.2.2.2.2.1
  have K1 := fill_end h1.a.1 e.nx e.ak e.gt (.slice xa e.q.length xc) (.slice xb e.o.length xd)
  have K2 := fill_grown w1 pa e.nx e.ak e.gt (.slice xa e.q.length xc) (.slice xb e.o.length xd)
  obtain ⟨qv, ov, hv, m1, m2, m3⟩ := m
  simp at hv
  obtain ⟨rfl, rfl⟩ := hv
  have n1 := ne_low m1 (show pa < N by omega)
  have n2 := ne_low m2 (show pa < N by omega)
  have T1 := slt_grown m1 K2 n1
  have T2 := slt_grown m2 K2 n2
  have z1 : (relab z w.heap.size 1) pa = 1 := h1.za.p
  have hBw : B ≤ w.heap.size := by omega
  refine ⟨⟨⟨K1, Sl.down T1 (by omega), Sl.down T2 (by omega), m3, hBp, n1, n2⟩, EndQ.kept h1.b K2 (fun he => by have := h1.zb.p; simp at he; subst he; omega) (fun k hk he => by have := h1.zb.q k hk; simp at he; subst he; omega) (fun k hk he => by have := h1.zb.o k hk; simp at he; subst he; omega), Sl.kept h1.th K2 (fun k hk he => by have := h1.zt k hk; simp at he; subst he; omega), Sl.kept h1.bk K2 (fun k hk he => by have := h1.zk k hk; simp at he; subst he; omega), ⟨z1, fun k hk => relab_new (by have := (Sl.lt m1 k hk).1; omega), fun k hk => relab_new (by have := (Sl.lt m2 k hk).1; omega)⟩, h1.zb, h1.zt, h1.zk⟩, ?_⟩
  exact (hb.mono hBw).trans (grown_to_below K2 hBp (by have := hb.size; omega))
theorem SpS.set_b (h : SpS w B t z pa pb qa oa qb ob tv bv) {e : En} {xa xb : Option Addr} {xc xd : Nat} {N : Nat} (hN : w.heap.size ≤ N) (hb : Below w.heap.size w w1) (m : EndM w1 N (.agg #[.int .i64 e.nx, .int .i64 e.ak, .slice xa e.q.length xc, .int .i64 e.gt, .slice xb e.o.length xd]) e) :
    SpS (fillE w1 pb e.nx e.ak (.slice xa e.q.length xc) e.gt (.slice xb e.o.length xd)) B { t with b := e } (relab z w.heap.size 2) pa pb qa oa (.slice xa e.q.length xc) (.slice xb e.o.length xd) tv bv ∧ Below B w (fillE w1 pb e.nx e.ak (.slice xa e.q.length xc) e.gt (.slice xb e.o.length xd)) := by
  have h1 := (h.mark 2).below hb
  have hpl := h.b.1.lt
  have hBp := h.b.2.2.2.2.1
  have K1 := fill_end h1.b.1 e.nx e.ak e.gt (.slice xa e.q.length xc) (.slice xb e.o.length xd)
  have K2 := fill_grown w1 pb e.nx e.ak e.gt (.slice xa e.q.length xc) (.slice xb e.o.length xd)
  obtain ⟨qv, ov, hv, m1, m2, m3⟩ := m
  simp at hv
  obtain ⟨rfl, rfl⟩ := hv
  have n1 := ne_low m1 (show pb < N by omega)
  have n2 := ne_low m2 (show pb < N by omega)
  have T1 := slt_grown m1 K2 n1
  have T2 := slt_grown m2 K2 n2
  have z1 : (relab z w.heap.size 2) pb = 2 := h1.zb.p
  have hBw : B ≤ w.heap.size := by omega
  refine ⟨⟨EndQ.kept h1.a K2 (fun he => by have := h1.za.p; simp at he; subst he; omega) (fun k hk he => by have := h1.za.q k hk; simp at he; subst he; omega) (fun k hk he => by have := h1.za.o k hk; simp at he; subst he; omega), ⟨K1, Sl.down T1 (by omega), Sl.down T2 (by omega), m3, hBp, n1, n2⟩, Sl.kept h1.th K2 (fun k hk he => by have := h1.zt k hk; simp at he; subst he; omega), Sl.kept h1.bk K2 (fun k hk he => by have := h1.zk k hk; simp at he; subst he; omega), h1.za, ⟨z1, fun k hk => relab_new (by have := (Sl.lt m1 k hk).1; omega), fun k hk => relab_new (by have := (Sl.lt m2 k hk).1; omega)⟩, h1.zt, h1.zk⟩, ?_⟩
  exact (hb.mono hBw).trans (grown_to_below K2 hBp (by have := hb.size; omega))
/-- more parcels on the way there. -/
theorem SpS.app_t (h : SpS w B t z pa pb qa oa qb ob tv bv) {ps : List Pc} {v : Value} (hv : SlP w1 B v ps) (hg : w.grownBy w1 tv.ownBlock) (hl : v.ownBlock = tv.ownBlock ∨ v.ownBlock = some w.heap.size) :
    SpS w1 B { t with th := ps } (relab z w.heap.size 3) pa pb qa oa qb ob v bv ∧ Below B w w1 := by
  have h1 := h.mark 3
  have hS : ∀ k, some k = tv.ownBlock → (relab z w.heap.size 3) k = 3 := fun k hk => h1.zt k hk.symm
  refine ⟨⟨EndQ.kept h1.a hg (fun he => by have := h1.za.p; have := hS _ he; omega) (fun k hk he => by have := h1.za.q k hk; have := hS _ he; omega) (fun k hk he => by have := h1.za.o k hk; have := hS _ he; omega), EndQ.kept h1.b hg (fun he => by have := h1.zb.p; have := hS _ he; omega) (fun k hk he => by have := h1.zb.q k hk; have := hS _ he; omega) (fun k hk he => by have := h1.zb.o k hk; have := hS _ he; omega), hv, Sl.kept h1.bk hg (fun k hk he => by have := h1.zk k hk; have := hS _ he; omega), h1.za, h1.zb, fun k hk => ?_, h1.zk⟩, ⟨hg.os, hg.tape, hg.output, hg.size, fun k hk => hg.block k (by have := h.a.1.lt; have := h.a.2.2.2.2.1; omega) (fun he => by have := (Sl.lt h.th k he.symm).1; omega)⟩⟩
  rcases hl with hl | hl
  · rw [hl] at hk; exact h1.zt k hk
  · rw [hl] at hk; simp at hk; subst hk; exact relab_new (Nat.le_refl _)
theorem SpS.app_k (h : SpS w B t z pa pb qa oa qb ob tv bv) {ps : List Pc} {v : Value} (hv : SlP w1 B v ps) (hg : w.grownBy w1 bv.ownBlock) (hl : v.ownBlock = bv.ownBlock ∨ v.ownBlock = some w.heap.size) :
    SpS w1 B { t with bk := ps } (relab z w.heap.size 4) pa pb qa oa qb ob tv v ∧ Below B w w1 := by
  have h1 := h.mark 4
  have hS : ∀ k, some k = bv.ownBlock → (relab z w.heap.size 4) k = 4 := fun k hk => h1.zk k hk.symm
  refine ⟨⟨EndQ.kept h1.a hg (fun he => by have := h1.za.p; have := hS _ he; omega) (fun k hk he => by have := h1.za.q k hk; have := hS _ he; omega) (fun k hk he => by have := h1.za.o k hk; have := hS _ he; omega), EndQ.kept h1.b hg (fun he => by have := h1.zb.p; have := hS _ he; omega) (fun k hk he => by have := h1.zb.q k hk; have := hS _ he; omega) (fun k hk he => by have := h1.zb.o k hk; have := hS _ he; omega), Sl.kept h1.th hg (fun k hk he => by have := h1.zt k hk; have := hS _ he; omega), hv, h1.za, h1.zb, h1.zt, fun k hk => ?_⟩, ⟨hg.os, hg.tape, hg.output, hg.size, fun k hk => hg.block k (by have := h.a.1.lt; have := h.a.2.2.2.2.1; omega) (fun he => by have := (Sl.lt h.bk k he.symm).1; omega)⟩⟩
  rcases hl with hl | hl
  · rw [hl] at hk; exact h1.zk k hk
  · rw [hl] at hk; simp at hk; subst hk; exact relab_new (Nat.le_refl _)
/-- a new list on the way there. -/
theorem SpS.new_t (h : SpS w B t z pa pb qa oa qb ob tv bv) {ps : List Pc} {v : Value} {N : Nat} (hN : w.heap.size ≤ N) (hv : SlP w1 N v ps) (hb : Below w.heap.size w w1) :
    SpS w1 B { t with th := ps } (relab z w.heap.size 3) pa pb qa oa qb ob v bv := by
  have h1 := (h.mark 3).below hb
  exact ⟨h1.a, h1.b, Sl.down hv (by have := h.a.1.lt; have := h.a.2.2.2.2.1; omega), h1.bk, h1.za, h1.zb, fun k hk => relab_new (by have := (Sl.lt hv k hk).1; omega), h1.zk⟩
theorem SpS.new_k (h : SpS w B t z pa pb qa oa qb ob tv bv) {ps : List Pc} {v : Value} {N : Nat} (hN : w.heap.size ≤ N) (hv : SlP w1 N v ps) (hb : Below w.heap.size w w1) :
    SpS w1 B { t with bk := ps } (relab z w.heap.size 4) pa pb qa oa qb ob tv v := by
  have h1 := (h.mark 4).below hb
  exact ⟨h1.a, h1.b, h1.th, Sl.down hv (by have := h.a.1.lt; have := h.a.2.2.2.2.1; omega), h1.za, h1.zb, h1.zt, fun k hk => relab_new (by have := (Sl.lt hv k hk).1; omega)⟩
end

theorem wpList_appP {w : World} {B B' : Nat} {v u : Value} {ps qs : List Pc} {ops : Array Oper} {rest : List Oper} {o : Oper} {a : Act} {Q : Exit → Act → World → Prop} (hgd : o.guard = none) (s x : Operand)
    (ho : o.op = .call { callee := .builtin .append, args := #[s, x], argTypes := #[35, 35] }) (hs : a.eval s = v) (h : SlP w B v ps) (hx : a.eval x = u) (hu : SlP w B' u qs) (hl : ps.length + qs.length ≤ 1000000) (hB : B ≤ w.heap.size)
    (hh : ∀ v' w', SlP w' B v' (ps ++ qs) → w.grownBy w' v.ownBlock → (v'.ownBlock = v.ownBlock ∨ v'.ownBlock = some w.heap.size) → wpList Try.prog ops Q rest (a.put o.dst v') w') : wpList Try.prog ops Q (o :: rest) a w := by
  refine wpList_appendS hgd s x 35 ho (.agg #[.int .i64 0, .int .i64 0, .string ⟨#[]⟩]) 32 Try.underlying35 Try.infoP rfl hs h u qs.length (cellsP qs) hx (SlP.src hu Try.underlying35) (by unfold maxLen; omega) (by omega) hB fun v' w' h2 h3 h4 => hh v' w' ?_ h3 h4
  unfold SlP
  rw [cellsP_append, List.length_append]
  exact h2
theorem newF_ok {e : En} (h : OkP e) : newF e = newE e ∧ newL e = newP e := by
  unfold newF newL
  rw [okB_true.2 h]
  exact ⟨rfl, rfl⟩
theorem againL_ok {e : En} (h : OkP e) : againL e = againP e := by
  unfold againL
  rw [okB_true.2 h]
  rfl
theorem may_ok {e : En} {p : Pc} (h : OkP e) (hp : PcOk p) : mayB e p = true := by
  unfold mayB
  rw [okB_true.2 h]
  simp [hp.1, hp.2]
theorem EndQ.r {w : World} {B p : Nat} {e : En} {qa oa : Option Addr} {qc oc : Nat} (h : EndQ w B p e (.slice qa e.q.length qc) (.slice oa e.o.length oc)) : EndR w (.agg #[.int .i64 e.nx, .int .i64 e.ak, .slice qa e.q.length qc, .int .i64 e.gt, .slice oa e.o.length oc]) e := by
  obtain ⟨a1, c1, e1, t1⟩ := SlT.texts h.2.1
  obtain ⟨a2, c2, e2, t2⟩ := SlT.texts h.2.2.1
  injection e1 with x1 _ x2
  injection e2 with y1 _ y2
  exact ⟨qa, qc, oa, oc, rfl, by rw [x1]; exact t1, by rw [y1]; exact t2⟩
theorem SpQ.form {w : World} {B pa pb : Nat} {t : Tk} {tv bv : Value} (h : SpQ w B pa pb t tv bv) : ∃ z qa qc oa oc xa xc ya yc ta tc ka kc, tv = .slice ta t.th.length tc ∧ bv = .slice ka t.bk.length kc ∧ SpS w B t z pa pb (.slice qa t.a.q.length qc) (.slice oa t.a.o.length oc) (.slice xa t.b.q.length xc) (.slice ya t.b.o.length yc) (.slice ta t.th.length tc) (.slice ka t.bk.length kc) := by
  obtain ⟨z, qa, oa, qb, ob, h⟩ := h
  obtain ⟨a1, b1, rfl⟩ := Sl.form h.a.2.1
  obtain ⟨a2, b2, rfl⟩ := Sl.form h.a.2.2.1
  obtain ⟨a3, b3, rfl⟩ := Sl.form h.b.2.1
  obtain ⟨a4, b4, rfl⟩ := Sl.form h.b.2.2.1
  obtain ⟨a5, b5, rfl⟩ := Sl.form h.th
  obtain ⟨a6, b6, rfl⟩ := Sl.form h.bk
  exact ⟨_, _, _, _, _, _, _, _, _, _, _, _, _, rfl, rfl, h⟩
end Go.Proofs.Ytohagaelenhebaa
