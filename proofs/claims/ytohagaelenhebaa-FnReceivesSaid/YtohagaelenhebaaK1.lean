/- A talk in memory: two ends behind pointers, and what is on the way. -/
import Derived.Test.YtohagaelenhebaaTk
import Derived.Test.YtohagaelenhebaaR4
import Derived.Deep.RegionLaw
namespace Go.Proofs.Ytohagaelenhebaa
open Go.RowKit Pl
set_option linter.unusedVariables false

theorem EndC.grS {S : Nat → Prop} {w w' : World} {T g : Nat} {n a gt : Int} {qv ov : Value} (h : EndC w T g n a qv gt ov) (hg : Gr S w w') (hn : ¬ S g) : EndC w' T g n a qv gt ov := (hg.block g h.lt hn).trans h
theorem EndQ.gr {S : Nat → Prop} {w w' : World} {B p : Nat} {e : En} {qv ov : Value} (h : EndQ w B p e qv ov) (hg : Gr S w w') (h1 : ¬ S p) (h2 : ∀ k, qv.ownBlock = some k → ¬ S k) (h3 : ∀ k, ov.ownBlock = some k → ¬ S k) : EndQ w' B p e qv ov := by
  obtain ⟨x1, x2, x3, x4⟩ := h
  exact ⟨x1.grS hg h1, Sl.gr x2 hg h2, Sl.gr x3 hg h3, x4⟩
theorem EndQ.p {w : World} {B p : Nat} {e : En} {qv ov : Value} (h : EndQ w B p e qv ov) : EndP w B p e := ⟨qv, ov, h⟩

/-- the block p is a talk. -/
def TalkC (w : World) (p pa pb : Nat) (tv bv : Value) : Prop := w.heap[p]? = some (.cells #[.pointer (some ⟨pa, 0, none⟩), .pointer (some ⟨pb, 0, none⟩), tv, bv] 74 (0, 0))
theorem TalkC.lt {w : World} {p pa pb : Nat} {tv bv : Value} (h : TalkC w p pa pb tv bv) : p < w.heap.size := (Array.getElem?_eq_some_iff.1 h).1
theorem TalkC.cells {w : World} {p pa pb : Nat} {tv bv : Value} (h : TalkC w p pa pb tv bv) : w.cell? ⟨p, 0, none⟩ = some (.pointer (some ⟨pa, 0, none⟩)) ∧ w.cell? ⟨p, 1, none⟩ = some (.pointer (some ⟨pb, 0, none⟩)) ∧ w.cell? ⟨p, 2, none⟩ = some tv ∧ w.cell? ⟨p, 3, none⟩ = some bv := by
  refine ⟨?_, ?_, ?_, ?_⟩ <;> rw [cell_of_row w p _ _ 74 (0, 0) h] <;> rfl
theorem TalkC.frozen {w : World} {p pa pb : Nat} {tv bv : Value} (h : TalkC w p pa pb tv bv) (j : Nat) : w.frozen? ⟨p, j, none⟩ = false := frozen_of_row w p j _ 74 h
theorem TalkC.grS {S : Nat → Prop} {w w' : World} {p pa pb : Nat} {tv bv : Value} (h : TalkC w p pa pb tv bv) (hg : Gr S w w') (hn : ¬ S p) : TalkC w' p pa pb tv bv := (hg.block p h.lt hn).trans h
theorem TalkC.set2 {w : World} {p pa pb : Nat} {tv bv : Value} (h : TalkC w p pa pb tv bv) (v : Value) : TalkC (w.setCell ⟨p, 2, none⟩ v) p pa pb v bv := (heap_setCell_same w p 2 _ 74 _ h).trans rfl
theorem TalkC.set3 {w : World} {p pa pb : Nat} {tv bv : Value} (h : TalkC w p pa pb tv bv) (v : Value) : TalkC (w.setCell ⟨p, 3, none⟩ v) p pa pb tv v := (heap_setCell_same w p 3 _ 74 _ h).trans rfl
theorem TalkC.new (w : World) (pa pb : Nat) (tv bv : Value) : TalkC (w.alloc (.cells #[.pointer (some ⟨pa, 0, none⟩), .pointer (some ⟨pb, 0, none⟩), tv, bv] 74)) w.heap.size pa pb tv bv := heap_alloc_new w _

/-- whose a block is. -/
structure Lab (z : Nat → Nat) (n p : Nat) (q o : Value) : Prop where
  p : z p = n
  q : ∀ k, q.ownBlock = some k → z k = n
  o : ∀ k, o.ownBlock = some k → z k = n
structure TalkS (w : World) (B p : Nat) (t : Tk) (z : Nat → Nat) (pa pb : Nat) (qa oa qb ob tv bv : Value) : Prop where
  c : TalkC w p pa pb tv bv
  a : EndQ w B pa t.a qa oa
  b : EndQ w B pb t.b qb ob
  th : SlP w B tv t.th
  bk : SlP w B bv t.bk
  le : B ≤ p
  zp : z p = 5
  za : Lab z 1 pa qa oa
  zb : Lab z 2 pb qb ob
  zt : ∀ k, tv.ownBlock = some k → z k = 3
  zk : ∀ k, bv.ownBlock = some k → z k = 4
def TalkQ (w : World) (B p : Nat) (t : Tk) : Prop := ∃ z pa pb qa oa qb ob tv bv, TalkS w B p t z pa pb qa oa qb ob tv bv

/-- new blocks are n's. -/
def relab (z : Nat → Nat) (N n : Nat) : Nat → Nat := fun k => if k < N then z k else n
theorem relab_old {z : Nat → Nat} {N n k : Nat} (h : k < N) : relab z N n k = z k := if_pos h
theorem relab_new {z : Nat → Nat} {N n k : Nat} (h : N ≤ k) : relab z N n k = n := if_neg (by omega)
theorem Lab.old {z : Nat → Nat} {n p N m : Nat} {q o : Value} (h : Lab z n p q o) (hp : p < N) (hq : ∀ k, q.ownBlock = some k → k < N) (ho : ∀ k, o.ownBlock = some k → k < N) : Lab (relab z N m) n p q o :=
  ⟨(relab_old hp).trans h.p, fun k hk => (relab_old (hq k hk)).trans (h.q k hk), fun k hk => (relab_old (ho k hk)).trans (h.o k hk)⟩

section
variable {w w1 w2 : World} {B p : Nat} {t : Tk} {z : Nat → Nat} {pa pb : Nat} {qa oa qb ob tv bv : Value}

/-- what does not touch it. -/
theorem TalkS.below (h : TalkS w B p t z pa pb qa oa qb ob tv bv) (hb : Below w.heap.size w w1) : TalkS w1 B p t z pa pb qa oa qb ob tv bv :=
  ⟨h.c.grS (Gr.ofBelow (S := fun _ => False) hb) (fun x => x), h.a.below hb, h.b.below hb, Sl.below h.th hb, Sl.below h.bk hb, h.le, h.zp, h.za, h.zb, h.zt, h.zk⟩
theorem TalkS.drewN (h : TalkS w B p t z pa pb qa oa qb ob tv bv) (n : Nat) : TalkS (w.drewN n) B p t z pa pb qa oa qb ob tv bv := ⟨h.c, h.a, h.b, h.th, h.bk, h.le, h.zp, h.za, h.zb, h.zt, h.zk⟩
theorem TalkS.drew (h : TalkS w B p t z pa pb qa oa qb ob tv bv) : TalkS w.drew B p t z pa pb qa oa qb ob tv bv := ⟨h.c, h.a, h.b, h.th, h.bk, h.le, h.zp, h.za, h.zb, h.zt, h.zk⟩
theorem TalkS.with_a (h : TalkS w B p t z pa pb qa oa qb ob tv bv) {e : En} {qa' oa' : Value} (hg : Gr (fun k => k = pa ∨ oa.ownBlock = some k) w w1) (ha : EndQ w1 B pa e qa' oa') (hq : ∀ k, qa'.ownBlock = some k → qa.ownBlock = some k) (ho : ∀ k, oa'.ownBlock = some k → oa.ownBlock = some k ∨ w.heap.size ≤ k) :
    TalkS w1 B p { t with a := e } (relab z w.heap.size 1) pa pb qa' oa' qb ob tv bv := by
  have hS : ∀ k, (k = pa ∨ oa.ownBlock = some k) → z k = 1 := fun k hk => by
    rcases hk with rfl | hk
    · exact h.za.p
    · exact h.za.o k hk
  refine ⟨h.c.grS hg (fun hk => by have := hS _ hk; have := h.zp; omega), ha, h.b.gr hg (fun hk => by have := hS _ hk; have := h.zb.p; omega) (fun k h1 h2 => by have := hS _ h2; have := h.zb.q k h1; omega) (fun k h1 h2 => by have := hS _ h2; have := h.zb.o k h1; omega), Sl.gr h.th hg (fun k h1 h2 => by have := hS _ h2; have := h.zt k h1; omega), Sl.gr h.bk hg (fun k h1 h2 => by have := hS _ h2; have := h.zk k h1; omega), h.le, (relab_old h.c.lt).trans h.zp, ?_, h.zb.old h.b.1.lt (fun k hk => (Sl.lt h.b.2.1 k hk).2) (fun k hk => (Sl.lt h.b.2.2.1 k hk).2), fun k hk => (relab_old (Sl.lt h.th k hk).2).trans (h.zt k hk), fun k hk => (relab_old (Sl.lt h.bk k hk).2).trans (h.zk k hk)⟩
  refine ⟨(relab_old h.a.1.lt).trans h.za.p, fun k hk => (relab_old (Sl.lt h.a.2.1 k (hq k hk)).2).trans (h.za.q k (hq k hk)), fun k hk => ?_⟩
  rcases ho k hk with h1 | h1
  · exact (relab_old (Sl.lt h.a.2.2.1 k h1).2).trans (h.za.o k h1)
  · exact relab_new h1
theorem TalkS.with_b (h : TalkS w B p t z pa pb qa oa qb ob tv bv) {e : En} {qb' ob' : Value} (hg : Gr (fun k => k = pb ∨ ob.ownBlock = some k) w w1) (hb : EndQ w1 B pb e qb' ob') (hq : ∀ k, qb'.ownBlock = some k → qb.ownBlock = some k) (ho : ∀ k, ob'.ownBlock = some k → ob.ownBlock = some k ∨ w.heap.size ≤ k) :
    TalkS w1 B p { t with b := e } (relab z w.heap.size 2) pa pb qa oa qb' ob' tv bv := by
  have hS : ∀ k, (k = pb ∨ ob.ownBlock = some k) → z k = 2 := fun k hk => by
    rcases hk with rfl | hk
    · exact h.zb.p
    · exact h.zb.o k hk
  refine ⟨h.c.grS hg (fun hk => by have := hS _ hk; have := h.zp; omega), h.a.gr hg (fun hk => by have := hS _ hk; have := h.za.p; omega) (fun k h1 h2 => by have := hS _ h2; have := h.za.q k h1; omega) (fun k h1 h2 => by have := hS _ h2; have := h.za.o k h1; omega), hb, Sl.gr h.th hg (fun k h1 h2 => by have := hS _ h2; have := h.zt k h1; omega), Sl.gr h.bk hg (fun k h1 h2 => by have := hS _ h2; have := h.zk k h1; omega), h.le, (relab_old h.c.lt).trans h.zp, h.za.old h.a.1.lt (fun k hk => (Sl.lt h.a.2.1 k hk).2) (fun k hk => (Sl.lt h.a.2.2.1 k hk).2), ?_, fun k hk => (relab_old (Sl.lt h.th k hk).2).trans (h.zt k hk), fun k hk => (relab_old (Sl.lt h.bk k hk).2).trans (h.zk k hk)⟩
  refine ⟨(relab_old h.b.1.lt).trans h.zb.p, fun k hk => (relab_old (Sl.lt h.b.2.1 k (hq k hk)).2).trans (h.zb.q k (hq k hk)), fun k hk => ?_⟩
  rcases ho k hk with h1 | h1
  · exact (relab_old (Sl.lt h.b.2.2.1 k h1).2).trans (h.zb.o k h1)
  · exact relab_new h1
/-- the parcels of a channel put behind those on the way there, before they are stored .. -/
theorem TalkS.got_t (h : TalkS w B p t z pa pb qa oa qb ob tv bv) {c : Nat} (hc : B ≤ c) (hz : z c ≠ 5 ∧ z c ≠ 1 ∧ z c ≠ 2 ∧ z c ≠ 4) (hg : Gr (fun k => k = c ∨ tv.ownBlock = some k) w w1) :
    TalkC w1 p pa pb tv bv ∧ EndQ w1 B pa t.a qa oa ∧ EndQ w1 B pb t.b qb ob ∧ SlP w1 B bv t.bk := by
  have hS : ∀ k, (k = c ∨ tv.ownBlock = some k) → z k ≠ 5 ∧ z k ≠ 1 ∧ z k ≠ 2 ∧ z k ≠ 4 := fun k hk => by
    rcases hk with rfl | hk
    · exact hz
    · have := h.zt k hk; omega
  exact ⟨h.c.grS hg (fun hk => (hS _ hk).1 h.zp), h.a.gr hg (fun hk => (hS _ hk).2.1 h.za.p) (fun k h1 h2 => (hS _ h2).2.1 (h.za.q k h1)) (fun k h1 h2 => (hS _ h2).2.1 (h.za.o k h1)), h.b.gr hg (fun hk => (hS _ hk).2.2.1 h.zb.p) (fun k h1 h2 => (hS _ h2).2.2.1 (h.zb.q k h1)) (fun k h1 h2 => (hS _ h2).2.2.1 (h.zb.o k h1)), Sl.gr h.bk hg (fun k h1 h2 => (hS _ h2).2.2.2 (h.zk k h1))⟩
theorem TalkS.got_k (h : TalkS w B p t z pa pb qa oa qb ob tv bv) {c : Nat} (hc : B ≤ c) (hz : z c ≠ 5 ∧ z c ≠ 1 ∧ z c ≠ 2 ∧ z c ≠ 3) (hg : Gr (fun k => k = c ∨ bv.ownBlock = some k) w w1) :
    TalkC w1 p pa pb tv bv ∧ EndQ w1 B pa t.a qa oa ∧ EndQ w1 B pb t.b qb ob ∧ SlP w1 B tv t.th := by
  have hS : ∀ k, (k = c ∨ bv.ownBlock = some k) → z k ≠ 5 ∧ z k ≠ 1 ∧ z k ≠ 2 ∧ z k ≠ 3 := fun k hk => by
    rcases hk with rfl | hk
    · exact hz
    · have := h.zk k hk; omega
  exact ⟨h.c.grS hg (fun hk => (hS _ hk).1 h.zp), h.a.gr hg (fun hk => (hS _ hk).2.1 h.za.p) (fun k h1 h2 => (hS _ h2).2.1 (h.za.q k h1)) (fun k h1 h2 => (hS _ h2).2.1 (h.za.o k h1)), h.b.gr hg (fun hk => (hS _ hk).2.2.1 h.zb.p) (fun k h1 h2 => (hS _ h2).2.2.1 (h.zb.q k h1)) (fun k h1 h2 => (hS _ h2).2.2.1 (h.zb.o k h1)), Sl.gr h.th hg (fun k h1 h2 => (hS _ h2).2.2.2 (h.zt k h1))⟩
theorem slp_other {w : World} {B p j : Nat} {v x : Value} {ps : List Pc} (h : SlP w B v ps) (hne : v.ownBlock ≠ some p) : SlP (w.setCell ⟨p, j, none⟩ x) B v ps := Sl.kept h (grown_cell w p j x) (fun k hk he => by rw [← hk] at he; exact hne he)
theorem EndQ.other {w : World} {B p g j : Nat} {e : En} {qv ov x : Value} (h : EndQ w B p e qv ov) (h1 : p ≠ g) (h2 : qv.ownBlock ≠ some g) (h3 : ov.ownBlock ≠ some g) : EndQ (w.setCell ⟨g, j, none⟩ x) B p e qv ov := by
  obtain ⟨x1, x2, x3, x4⟩ := h
  exact ⟨x1.other h1, slt_other x2 h2, slt_other x3 h3, x4⟩
/-- .. and when they are stored. -/
theorem TalkS.put_t (h : TalkS w B p t z pa pb qa oa qb ob tv bv) {ps : List Pc} {v : Value} {N : Nat} (hN : w.heap.size ≤ N) (hc : TalkC w1 p pa pb tv bv) (ha : EndQ w1 B pa t.a qa oa) (hb : EndQ w1 B pb t.b qb ob) (hk : SlP w1 B bv t.bk) (hv : SlP w1 B v ps) (hl : ∀ k, v.ownBlock = some k → tv.ownBlock = some k ∨ N ≤ k) :
    TalkS (w1.setCell ⟨p, 2, none⟩ v) B p { t with th := ps } (relab z w.heap.size 3) pa pb qa oa qb ob v bv := by
  have hzp := h.zp
  have hvp : v.ownBlock ≠ some p := fun he => by
    rcases hl p he with h1 | h1
    · have := h.zt p h1; omega
    · have := h.c.lt; omega
  refine ⟨hc.set2 v, ha.other (fun he => by have := h.za.p; rw [he] at this; omega) (fun he => by have := h.za.q _ he; omega) (fun he => by have := h.za.o _ he; omega), hb.other (fun he => by have := h.zb.p; rw [he] at this; omega) (fun he => by have := h.zb.q _ he; omega) (fun he => by have := h.zb.o _ he; omega), slp_other hv hvp, slp_other hk (fun he => by have := h.zk _ he; omega), h.le, (relab_old h.c.lt).trans h.zp, h.za.old h.a.1.lt (fun k hk => (Sl.lt h.a.2.1 k hk).2) (fun k hk => (Sl.lt h.a.2.2.1 k hk).2), h.zb.old h.b.1.lt (fun k hk => (Sl.lt h.b.2.1 k hk).2) (fun k hk => (Sl.lt h.b.2.2.1 k hk).2), fun k hk => ?_, fun k hk => (relab_old (Sl.lt h.bk k hk).2).trans (h.zk k hk)⟩
  rcases hl k hk with h1 | h1
  · exact (relab_old (Sl.lt h.th k h1).2).trans (h.zt k h1)
  · exact relab_new (by omega)
theorem TalkS.put_k (h : TalkS w B p t z pa pb qa oa qb ob tv bv) {ps : List Pc} {v : Value} {N : Nat} (hN : w.heap.size ≤ N) (hc : TalkC w1 p pa pb tv bv) (ha : EndQ w1 B pa t.a qa oa) (hb : EndQ w1 B pb t.b qb ob) (ht : SlP w1 B tv t.th) (hv : SlP w1 B v ps) (hl : ∀ k, v.ownBlock = some k → bv.ownBlock = some k ∨ N ≤ k) :
    TalkS (w1.setCell ⟨p, 3, none⟩ v) B p { t with bk := ps } (relab z w.heap.size 4) pa pb qa oa qb ob tv v := by
  have hzp := h.zp
  have hvp : v.ownBlock ≠ some p := fun he => by
    rcases hl p he with h1 | h1
    · have := h.zk p h1; omega
    · have := h.c.lt; omega
  refine ⟨hc.set3 v, ha.other (fun he => by have := h.za.p; rw [he] at this; omega) (fun he => by have := h.za.q _ he; omega) (fun he => by have := h.za.o _ he; omega), hb.other (fun he => by have := h.zb.p; rw [he] at this; omega) (fun he => by have := h.zb.q _ he; omega) (fun he => by have := h.zb.o _ he; omega), slp_other ht (fun he => by have := h.zt _ he; omega), slp_other hv hvp, h.le, (relab_old h.c.lt).trans h.zp, h.za.old h.a.1.lt (fun k hk => (Sl.lt h.a.2.1 k hk).2) (fun k hk => (Sl.lt h.a.2.2.1 k hk).2), h.zb.old h.b.1.lt (fun k hk => (Sl.lt h.b.2.1 k hk).2) (fun k hk => (Sl.lt h.b.2.2.1 k hk).2), fun k hk => (relab_old (Sl.lt h.th k hk).2).trans (h.zt k hk), fun k hk => ?_⟩
  rcases hl k hk with h1 | h1
  · exact (relab_old (Sl.lt h.bk k h1).2).trans (h.zk k h1)
  · exact relab_new (by omega)
/-- labels may be given to blocks that are nobody's. -/
theorem TalkS.mark (h : TalkS w B p t z pa pb qa oa qb ob tv bv) (m : Nat) : TalkS w B p t (relab z w.heap.size m) pa pb qa oa qb ob tv bv :=
  ⟨h.c, h.a, h.b, h.th, h.bk, h.le, (relab_old h.c.lt).trans h.zp, h.za.old h.a.1.lt (fun k hk => (Sl.lt h.a.2.1 k hk).2) (fun k hk => (Sl.lt h.a.2.2.1 k hk).2), h.zb.old h.b.1.lt (fun k hk => (Sl.lt h.b.2.1 k hk).2) (fun k hk => (Sl.lt h.b.2.2.1 k hk).2), fun k hk => (relab_old (Sl.lt h.th k hk).2).trans (h.zt k hk), fun k hk => (relab_old (Sl.lt h.bk k hk).2).trans (h.zk k hk)⟩

/-- teller's parcels on the way: the whole of it. -/
theorem TalkS.sent_t (h : TalkS w B p t z pa pb qa oa qb ob tv bv) {e : En} {ps : List Pc} {c : Nat} {v : Value} (hz : w.heap.size ≤ w1.heap.size) (ha : EndQ w1 B pa e qa oa) (hg : Gr (fun k => k = pa) w w1) (hc : w.heap.size ≤ c) (hv : SlP w2 B v ps) (hg2 : Gr (fun k => k = c ∨ tv.ownBlock = some k) w1 w2) (hl : v.ownBlock = tv.ownBlock ∨ ∃ k, v.ownBlock = some k ∧ w1.heap.size ≤ k) :
    TalkQ (w2.setCell ⟨p, 2, none⟩ v) B p { t with a := e, th := ps } ∧ Below B w (w2.setCell ⟨p, 2, none⟩ v) ∧ TalkC w1 p pa pb tv bv ∧ TalkC w2 p pa pb tv bv := by
  have h1 := h.with_a (e := e) (qa' := qa) (oa' := oa) (hg.mono (fun k hk => .inl hk)) ha (fun k hk => hk) (fun k hk => .inl hk)
  have hcB : B ≤ c := by have := h.le; have := h.c.lt; omega
  have zc : (relab (relab z w.heap.size 1) w.heap.size 3) c = 3 := relab_new hc
  have h1' : TalkS w1 B p { t with a := e } (relab (relab z w.heap.size 1) w.heap.size 3) pa pb qa oa qb ob tv bv :=
    ⟨h1.c, h1.a, h1.b, h1.th, h1.bk, h1.le, (relab_old h.c.lt).trans h1.zp, h1.za.old h.a.1.lt (fun k hk => (Sl.lt h.a.2.1 k hk).2) (fun k hk => (Sl.lt h.a.2.2.1 k hk).2), h1.zb.old h.b.1.lt (fun k hk => (Sl.lt h.b.2.1 k hk).2) (fun k hk => (Sl.lt h.b.2.2.1 k hk).2), fun k hk => (relab_old (Sl.lt h.th k hk).2).trans (h1.zt k hk), fun k hk => (relab_old (Sl.lt h.bk k hk).2).trans (h1.zk k hk)⟩
  have h2 := h1'.got_t hcB (by rw [zc]; omega) hg2
  have h3 := h1'.put_t (N := w1.heap.size) (Nat.le_refl _) h2.1 h2.2.1 h2.2.2.1 h2.2.2.2 hv (fun k hk => by
    rcases hl with hl | ⟨j, hj, hk'⟩
    · exact .inl (by rw [← hl]; exact hk)
    · rw [hj] at hk; cases hk; exact .inr hk')
  have hBw : B ≤ w.heap.size := by have := h.le; have := h.c.lt; omega
  refine ⟨⟨_, _, _, _, _, _, _, _, _, h3⟩, ?_, h1.c, h2.1⟩
  have b1 : Below B w w1 := hg.below (fun k hk => by rw [hk]; exact h.a.2.2.2.2.1) hBw
  have b2 : Below B w1 w2 := hg2.below (fun k hk => by
    rcases hk with rfl | hk
    · exact hcB
    · exact (Sl.lt h.th k hk).1) (by omega)
  exact (b1.trans b2).setCell (p := ⟨p, 2, none⟩) h.le _
theorem TalkS.sent_k (h : TalkS w B p t z pa pb qa oa qb ob tv bv) {ps : List Pc} {c : Nat} {v : Value} (hb : Below w.heap.size w w1) (hc : w.heap.size ≤ c) (hv : SlP w2 B v ps) (hg2 : Gr (fun k => k = c ∨ bv.ownBlock = some k) w1 w2) (hl : v.ownBlock = bv.ownBlock ∨ ∃ k, v.ownBlock = some k ∧ w1.heap.size ≤ k) :
    TalkQ (w2.setCell ⟨p, 3, none⟩ v) B p { t with bk := ps } ∧ Below B w (w2.setCell ⟨p, 3, none⟩ v) ∧ TalkC w1 p pa pb tv bv ∧ TalkC w2 p pa pb tv bv := by
  have h1 := (h.mark 4).below hb
  have hcB : B ≤ c := by have := h.le; have := h.c.lt; omega
  have zc : (relab z w.heap.size 4) c = 4 := relab_new hc
  have h2 := h1.got_k hcB (by rw [zc]; omega) hg2
  have h3 := h1.put_k (N := w1.heap.size) (Nat.le_refl _) h2.1 h2.2.1 h2.2.2.1 h2.2.2.2 hv (fun k hk => by
    rcases hl with hl | ⟨j, hj, hk'⟩
    · exact .inl (by rw [← hl]; exact hk)
    · rw [hj] at hk; cases hk; exact .inr hk')
  have hBw : B ≤ w.heap.size := by have := h.le; have := h.c.lt; omega
  refine ⟨⟨_, _, _, _, _, _, _, _, _, h3⟩, ?_, h1.c, h2.1⟩
  have hz := hb.size
  have b2 : Below B w1 w2 := hg2.below (fun k hk => by
    rcases hk with rfl | hk
    · exact hcB
    · exact (Sl.lt h.bk k hk).1) (by omega)
  exact ((hb.mono hBw).trans b2).setCell (p := ⟨p, 3, none⟩) h.le _
end
end Go.Proofs.Ytohagaelenhebaa
