/- Ends and parcels in plain words, and how they lie in memory. -/
import Derived.Test.YtohagaelenhebaaSl
import Derived.Test.YtohagaelenhebaaOwS
namespace Go.Proofs.Ytohagaelenhebaa.Pl
open Go Go.RowKit
set_option linter.unusedVariables false

structure En where
  nx : Int
  ak : Int
  q : List ByteArray
  gt : Int
  o : List ByteArray
abbrev Pc := Int × Int × ByteArray

def fitB (ts : List ByteArray) : Bool := ts.all fun t => decide (t.size ≤ 60)
theorem fitB_true {ts : List ByteArray} : fitB ts = true ↔ ∀ t ∈ ts, t.size ≤ 60 := by
  unfold fitB
  simp [List.all_eq_true]
theorem fitB_step {ts : List ByteArray} {k : Nat} (h : ∀ t ∈ ts.take k, t.size ≤ 60) (hk : k < ts.length) (hs : ts[k].size ≤ 60) : ∀ t ∈ ts.take (k + 1), t.size ≤ 60 := by
  intro t ht
  rw [List.take_succ_eq_append_getElem hk] at ht
  rcases List.mem_append.1 ht with h1 | h1
  · exact h t h1
  · simp at h1; subst h1; exact hs
theorem fitB_bad {ts : List ByteArray} {k : Nat} (hk : k < ts.length) (hs : 60 < ts[k].size) : fitB ts = false := by
  cases h : fitB ts with
  | false => rfl
  | true => have := fitB_true.1 h _ (List.getElem_mem hk); omega
theorem fitB_all {ts : List ByteArray} {k : Nat} (h : ∀ t ∈ ts.take k, t.size ≤ 60) (hk : ts.length ≤ k) : fitB ts = true := by
  rw [List.take_of_length_le hk] at h
  exact fitB_true.2 h

/-- whether an end is right. -/
def okB (e : En) : Bool := decide (0 ≤ e.ak ∧ e.ak ≤ 1000) && (decide (e.ak ≤ e.nx ∧ e.nx ≤ e.ak + 4) && (decide (e.nx - e.ak ≤ (e.q.length : Int) ∧ (e.q.length : Int) ≤ 30) && (decide (0 ≤ e.gt ∧ e.gt ≤ 1000) && (decide ((e.o.length : Int) = e.gt) && (fitB e.q && fitB e.o)))))
structure OkP (e : En) : Prop where
  a0 : 0 ≤ e.ak
  a1 : e.ak ≤ 1000
  n0 : e.ak ≤ e.nx
  n1 : e.nx ≤ e.ak + 4
  q0 : e.nx - e.ak ≤ (e.q.length : Int)
  q1 : e.q.length ≤ 30
  g0 : 0 ≤ e.gt
  g1 : e.gt ≤ 1000
  o0 : (e.o.length : Int) = e.gt
  fq : ∀ t ∈ e.q, t.size ≤ 60
  fo : ∀ t ∈ e.o, t.size ≤ 60
theorem okB_true {e : En} : okB e = true ↔ OkP e := by
  unfold okB
  simp only [Bool.and_eq_true, decide_eq_true_eq, fitB_true]
  constructor
  · rintro ⟨⟨h1, h2⟩, ⟨h3, h4⟩, ⟨h5, h6⟩, ⟨h7, h8⟩, h9, h10, h11⟩
    exact ⟨h1, h2, h3, h4, h5, by omega, h7, h8, h9, h10, h11⟩
  · intro h
    exact ⟨⟨h.a0, h.a1⟩, ⟨h.n0, h.n1⟩, ⟨h.q0, by have := h.q1; omega⟩, ⟨h.g0, h.g1⟩, h.o0, h.fq, h.fo⟩

def offB (e : En) (s : ByteArray) : Bool := okB e && (decide (s.size ≤ 60) && (decide (e.q.length < 30) && decide (e.ak + (e.q.length : Int) < 1000)))
def offE (e : En) (s : ByteArray) : En := { e with q := e.q ++ [s] }
def noE : En := ⟨0, 0, [], 0, []⟩

/-- the parcel of the i-th text that waits. -/
def parc (e : En) (i : Nat) : Pc := (e.ak + (i : Int) + 1, e.gt, e.q.getD i ByteArray.empty)
def parcs (e : En) (i n : Nat) : List Pc := (List.range' i n).map (parc e)
theorem parcs_succ (e : En) (i n : Nat) : parcs e i (n + 1) = parcs e i n ++ [parc e (i + n)] := by
  unfold parcs
  rw [List.range'_concat]
  simp
theorem parcs_length (e : En) (i n : Nat) : (parcs e i n).length = n := by simp [parcs]
def sent (e : En) : Nat := (e.nx - e.ak).toNat
def wide (e : En) : Nat := min 4 e.q.length
def newE (e : En) : En := { e with nx := e.ak + (wide e : Int) }
def newP (e : En) : List Pc := parcs e (sent e) (wide e - sent e)
def againP (e : En) : List Pc := if e.ak < e.nx then parcs e 0 (sent e) else [(0, e.gt, ByteArray.empty)]
def ackE (e : En) (a : Int) : En := if e.ak < a ∧ a ≤ e.nx then { e with q := e.q.drop (a - e.ak).toNat, ak := a } else e
def takeB (e : En) (n : Int) : Bool := decide (n = e.gt + 1) && decide (e.gt < 1000)
def takeE (e : En) (p : Pc) : En := if takeB e p.1 then { e with o := e.o ++ [p.2.2], gt := e.gt + 1 } else e
def recvE (e : En) (p : Pc) : En := takeE (ackE e p.2.1) p
def recvB (e : En) (p : Pc) : Bool := takeB e p.1
def mayB (e : En) (p : Pc) : Bool := okB e && (decide (0 ≤ p.1) && decide (p.2.2.size ≤ 60))

/-! ### in memory -/
def SlT (w : World) (B : Nat) (v : Value) (ss : List ByteArray) : Prop := Sl w 9 1 B v ss.length (ss.map Value.string)
def cellsP (ps : List Pc) : List Value := ps.flatMap fun p => [.int .i64 p.1, .int .i64 p.2.1, .string p.2.2]
def SlP (w : World) (B : Nat) (v : Value) (ps : List Pc) : Prop := Sl w 41 3 B v ps.length (cellsP ps)
/-- two slices lie in two blocks. -/
def Dj (v u : Value) : Prop := ∀ k, v.ownBlock = some k → u.ownBlock ≠ some k
theorem Dj.symm {v u : Value} (h : Dj v u) : Dj u v := fun k h1 h2 => h k h2 h1

theorem cellsP_length (ps : List Pc) : (cellsP ps).length = ps.length * 3 := by
  induction ps with
  | nil => rfl
  | cons p ps ih => unfold cellsP at *; rw [List.flatMap_cons, List.length_append, ih, List.length_cons]; simp; omega
theorem cellsP_append (ps qs : List Pc) : cellsP (ps ++ qs) = cellsP ps ++ cellsP qs := by simp [cellsP]
theorem cellsP_one {ps : List Pc} : ∀ u ∈ cellsP ps, u.oneCell' = true := by
  intro u hu
  unfold cellsP at hu
  obtain ⟨p, _, hp⟩ := List.mem_flatMap.1 hu
  simp at hp
  rcases hp with rfl | rfl | rfl <;> rfl
theorem cellsP_at : ∀ (ps : List Pc) (i : Nat) (h : i < ps.length), (cellsP ps)[i * 3]? = some (.int .i64 ps[i].1) ∧ (cellsP ps)[i * 3 + 1]? = some (.int .i64 ps[i].2.1) ∧ (cellsP ps)[i * 3 + 2]? = some (.string ps[i].2.2) := by
  intro ps
  induction ps with
  | nil => intro i h; simp at h
  | cons p ps ih =>
    intro i h
    have e : cellsP (p :: ps) = [.int .i64 p.1, .int .i64 p.2.1, .string p.2.2] ++ cellsP ps := by simp [cellsP]
    rw [e]
    cases i with
    | zero => simp
    | succ i =>
      have := ih i (by simpa using h)
      refine ⟨?_, ?_, ?_⟩
      · rw [List.getElem?_append_right (by simp; omega)]
        simpa [show (i + 1) * 3 - 3 = i * 3 by omega] using this.1
      · rw [List.getElem?_append_right (by simp; omega)]
        simpa [show (i + 1) * 3 + 1 - 3 = i * 3 + 1 by omega] using this.2.1
      · rw [List.getElem?_append_right (by simp; omega)]
        simpa [show (i + 1) * 3 + 2 - 3 = i * 3 + 2 by omega] using this.2.2
theorem cellsP_drop (ps : List Pc) (k : Nat) : (cellsP ps).drop (k * 3) = cellsP (ps.drop k) := by
  induction k generalizing ps with
  | zero => simp
  | succ k ih =>
    cases ps with
    | nil => simp [cellsP]
    | cons p ps =>
      have e : cellsP (p :: ps) = [.int .i64 p.1, .int .i64 p.2.1, .string p.2.2] ++ cellsP ps := by simp [cellsP]
      rw [e, List.drop_succ_cons, ← ih ps, show (k + 1) * 3 = 3 + k * 3 by omega, ← List.drop_drop]
      rfl

/-- a slice of parcels, to be read. -/
def PcAt (w : World) (ao : Option Addr) (ps : List Pc) : Prop :=
  ∀ i (h : i < ps.length), ∃ b off, ao = some ⟨b, off, none⟩ ∧ b < w.heap.size ∧ w.cell? ⟨b, off + i * 3, none⟩ = some (.int .i64 ps[i].1) ∧ w.cell? ⟨b, off + i * 3 + 1, none⟩ = some (.int .i64 ps[i].2.1) ∧ w.cell? ⟨b, off + i * 3 + 2, none⟩ = some (.string ps[i].2.2)
theorem PcAt.stays {w w' : World} {ao : Option Addr} {ps : List Pc} (h : PcAt w ao ps) (hb : Below w.heap.size w w') : PcAt w' ao ps := by
  intro i hi
  obtain ⟨b, off, h1, h2, h3, h4, h5⟩ := h i hi
  exact ⟨b, off, h1, Nat.lt_of_lt_of_le h2 hb.size, (hb.cell (p := ⟨b, off + i * 3, none⟩) h2).trans h3, (hb.cell (p := ⟨b, off + i * 3 + 1, none⟩) h2).trans h4, (hb.cell (p := ⟨b, off + i * 3 + 2, none⟩) h2).trans h5⟩

theorem SlT.texts {w : World} {B : Nat} {v : Value} {ss : List ByteArray} (h : SlT w B v ss) : ∃ ao cap, v = .slice ao ss.length cap ∧ TextsAt w ao ss := by
  by_cases h0 : 0 < ss.length
  · obtain ⟨g, off, cap, rfl, h1, h2, h3, h4⟩ := Sl.read h h0
    refine ⟨_, cap, rfl, fun i hi => ⟨g, off, rfl, h2, h3 i _ ?_⟩⟩
    simp [hi]
  · obtain ⟨ao, cap, rfl⟩ := Sl.form h
    exact ⟨ao, cap, rfl, fun i hi => by omega⟩
theorem SlP.parcels {w : World} {B : Nat} {v : Value} {ps : List Pc} (h : SlP w B v ps) : ∃ ao cap, v = .slice ao ps.length cap ∧ PcAt w ao ps := by
  by_cases h0 : 0 < ps.length
  · obtain ⟨g, off, cap, rfl, h1, h2, h3, h4⟩ := Sl.read h h0
    refine ⟨_, cap, rfl, fun i hi => ?_⟩
    obtain ⟨c0, c1, c2⟩ := cellsP_at ps i hi
    exact ⟨g, off, rfl, h2, h3 _ _ c0, by rw [Nat.add_assoc]; exact h3 _ _ c1, by rw [Nat.add_assoc]; exact h3 _ _ c2⟩
  · obtain ⟨ao, cap, rfl⟩ := Sl.form h
    exact ⟨ao, cap, rfl, fun i hi => by omega⟩
theorem SlT.src {P : Program} {w : World} {B : Nat} {v : Value} {ss : List ByteArray} (h : SlT w B v ss) {tx : TypeId} (hk : P.underlying tx = some (.slice 9)) : Src P 1 tx v ss.length (ss.map Value.string) w :=
  Sl.src h hk (fun u hu => by obtain ⟨t, _, rfl⟩ := List.mem_map.1 hu; rfl)
theorem SlP.src {P : Program} {w : World} {B : Nat} {v : Value} {ps : List Pc} (h : SlP w B v ps) {tx : TypeId} (hk : P.underlying tx = some (.slice 41)) : Src P 3 tx v ps.length (cellsP ps) w :=
  Sl.src h hk cellsP_one

/-- an end by value, to be read. -/
def EndR (w : World) (v : Value) (e : En) : Prop := ∃ qa qc oa oc, v = .agg #[.int .i64 e.nx, .int .i64 e.ak, .slice qa e.q.length qc, .int .i64 e.gt, .slice oa e.o.length oc] ∧ TextsAt w qa e.q ∧ TextsAt w oa e.o
/-- .. of the call's own, in blocks from B on. -/
def EndM (w : World) (B : Nat) (v : Value) (e : En) : Prop := ∃ qv ov, v = .agg #[.int .i64 e.nx, .int .i64 e.ak, qv, .int .i64 e.gt, ov] ∧ SlT w B qv e.q ∧ SlT w B ov e.o ∧ Dj qv ov
theorem EndM.r {w : World} {B : Nat} {v : Value} {e : En} (h : EndM w B v e) : EndR w v e := by
  obtain ⟨qv, ov, rfl, h1, h2, _⟩ := h
  obtain ⟨qa, qc, rfl, h3⟩ := h1.texts
  obtain ⟨oa, oc, rfl, h4⟩ := h2.texts
  exact ⟨qa, qc, oa, oc, rfl, h3, h4⟩
theorem EndR.stays {w w' : World} {v : Value} {e : En} (h : EndR w v e) (hb : Below w.heap.size w w') : EndR w' v e := by
  obtain ⟨qa, qc, oa, oc, rfl, h1, h2⟩ := h
  exact ⟨qa, qc, oa, oc, rfl, h1.stays hb, h2.stays hb⟩
theorem EndM.stays {w w' : World} {B : Nat} {v : Value} {e : En} (h : EndM w B v e) (hb : Below w.heap.size w w') : EndM w' B v e := by
  obtain ⟨qv, ov, rfl, h1, h2, h3⟩ := h
  exact ⟨qv, ov, rfl, Sl.below h1 hb, Sl.below h2 hb, h3⟩
theorem EndM.down {w : World} {B B' : Nat} {v : Value} {e : En} (h : EndM w B v e) (hB : B' ≤ B) : EndM w B' v e := by
  obtain ⟨qv, ov, rfl, h1, h2, h3⟩ := h
  exact ⟨qv, ov, rfl, Sl.down h1 hB, Sl.down h2 hB, h3⟩
/-- an end that lies in the block p. -/
def EndAt (w : World) (p : Nat) (v : Value) : Prop := ∃ n a qv g ov, v = .agg #[.int .i64 n, .int .i64 a, qv, .int .i64 g, ov] ∧ w.heap[p]? = some (.cells #[.int .i64 n, .int .i64 a, qv, .int .i64 g, ov] 32 (0, 0))
end Go.Proofs.Ytohagaelenhebaa.Pl
