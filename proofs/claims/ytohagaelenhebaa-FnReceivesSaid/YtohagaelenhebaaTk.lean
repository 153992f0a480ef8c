/- Two ends that talk, in plain words. -/
import Derived.Test.YtohagaelenhebaaLk
namespace Go.Proofs.Ytohagaelenhebaa.Pl
open Go Go.RowKit
set_option linter.unusedVariables false

structure Tk where
  a : En
  b : En
  th : List Pc
  bk : List Pc
def comeT (t : Tk) (l : Bool) : Tk :=
  match t.th with
  | [] => t
  | p :: r => if l then { t with th := r } else { t with th := r, b := recvE t.b p, bk := t.bk ++ againP (recvE t.b p) }
def comeB (t : Tk) (l : Bool) : Tk :=
  match t.bk with
  | [] => t
  | p :: r => if l then { t with bk := r } else { t with bk := r, a := recvE t.a p }
def lostB (x : Nat) : Bool := decide (x / 4 % 2 = 1)
def stepT (t : Tk) (x : Nat) : Tk :=
  if x % 4 = 0 then { t with a := newE t.a, th := t.th ++ newP t.a }
  else if x % 4 = 1 then { t with th := t.th ++ againP t.a }
  else if x % 4 = 2 then comeT t (lostB x) else comeB t (lostB x)
def startT (list : List ByteArray) : Tk := ⟨⟨0, 0, list, 0, []⟩, noE, [], []⟩
def runT (list : List ByteArray) (picks : List Nat) : Tk := picks.foldl stepT (startT list)

/-- right, and no more than a link carries. -/
structure OkS (e : En) : Prop where
  ok : OkP e
  le : e.ak + (e.q.length : Int) ≤ 1000
def PcOk (p : Pc) : Prop := 0 ≤ p.1 ∧ p.2.2.size ≤ 60

theorem newE_ok {e : En} (h : OkS e) : OkS (newE e) := by
  obtain ⟨h, hl⟩ := h
  have h1 := h.a0
  have h2 := h.n0
  exact ⟨⟨h.a0, h.a1, by show e.ak ≤ e.ak + (wide e : Int); omega, by show e.ak + (wide e : Int) ≤ e.ak + 4; unfold wide; omega, by show e.ak + (wide e : Int) - e.ak ≤ (e.q.length : Int); unfold wide; omega, h.q1, h.g0, h.g1, h.o0, h.fq, h.fo⟩, hl⟩
theorem ackE_ok {e : En} (a : Int) (h : OkS e) : OkS (ackE e a) := by
  obtain ⟨h, hl⟩ := h
  have h1 := h.a0
  have h2 := h.n0
  have h3 := h.n1
  have h4 := h.q0
  have h5 := h.q1
  unfold ackE
  split
  · refine ⟨⟨?_, ?_, ?_, ?_, ?_, ?_, h.g0, h.g1, h.o0, fun t ht => h.fq t (List.mem_of_mem_drop ht), h.fo⟩, ?_⟩ <;> simp only [List.length_drop] <;> omega
  · exact ⟨h, hl⟩
theorem takeE_ok {e : En} {p : Pc} (h : OkS e) (hp : PcOk p) : OkS (takeE e p) := by
  obtain ⟨h, hl⟩ := h
  unfold takeE takeB
  split
  · rename_i hc
    simp at hc
    have h1 := h.g0
    have h2 := h.o0
    refine ⟨⟨h.a0, h.a1, h.n0, h.n1, h.q0, h.q1, by simp only; omega, by simp only; omega, by simp only [List.length_append, List.length_singleton]; omega, h.fq, fun t ht => ?_⟩, hl⟩
    rcases List.mem_append.1 ht with ht | ht
    · exact h.fo t ht
    · simp at ht; subst ht; exact hp.2
  · exact ⟨h, hl⟩
theorem recvE_ok {e : En} {p : Pc} (h : OkS e) (hp : PcOk p) : OkS (recvE e p) := takeE_ok (ackE_ok _ h) hp
theorem parcs_ok {e : En} {i n : Nat} (h : OkP e) : ∀ p ∈ parcs e i n, PcOk p := by
  intro p hp
  unfold parcs at hp
  obtain ⟨j, _, rfl⟩ := List.mem_map.1 hp
  have h1 := h.a0
  refine ⟨by unfold parc; simp only; omega, ?_⟩
  unfold parc
  simp only
  rw [List.getD_eq_getElem?_getD]
  cases hj : e.q[j]? with
  | none => simp
  | some t => exact h.fq t (List.mem_of_getElem? hj)
theorem newP_ok {e : En} (h : OkP e) : ∀ p ∈ newP e, PcOk p := parcs_ok h
theorem againP_ok {e : En} (h : OkP e) : ∀ p ∈ againP e, PcOk p := by
  unfold againP
  split
  · exact parcs_ok h
  · intro p hp
    simp at hp
    subst hp
    exact ⟨by simp, by simp⟩
theorem newP_len4 (e : En) : (newP e).length ≤ 4 := by
  unfold newP wide
  rw [parcs_length]
  omega
theorem againP_len4 {e : En} (h : OkP e) : (againP e).length ≤ 4 := by
  have h1 := h.n0
  have h2 := h.n1
  unfold againP
  split
  · rw [parcs_length]; unfold sent; omega
  · simp
/-- what stays so. -/
structure Inv (t : Tk) : Prop where
  a : OkS t.a
  b : OkS t.b
  th : ∀ p ∈ t.th, PcOk p
  bk : ∀ p ∈ t.bk, PcOk p
theorem comeT_inv {t : Tk} {l : Bool} (h : Inv t) : Inv (comeT t l) ∧ (comeT t l).th.length ≤ t.th.length ∧ (comeT t l).bk.length ≤ t.bk.length + 4 := by
  unfold comeT
  split
  · exact ⟨h, Nat.le_refl _, by omega⟩
  · rename_i p r hth
    have hp := h.th p (by rw [hth]; simp)
    have hr : ∀ q ∈ r, PcOk q := fun q hq => h.th q (by rw [hth]; simp [hq])
    split
    · exact ⟨⟨h.a, h.b, hr, h.bk⟩, by simp [hth], by simp only; omega⟩
    · have hb := recvE_ok h.b hp
      refine ⟨⟨h.a, hb, hr, fun q hq => ?_⟩, by simp [hth], ?_⟩
      · rcases List.mem_append.1 hq with hq | hq
        · exact h.bk q hq
        · exact againP_ok hb.ok q hq
      · have := againP_len4 hb.ok
        simp only [List.length_append]
        omega
theorem comeB_inv {t : Tk} {l : Bool} (h : Inv t) : Inv (comeB t l) ∧ (comeB t l).th.length ≤ t.th.length ∧ (comeB t l).bk.length ≤ t.bk.length := by
  unfold comeB
  split
  · exact ⟨h, Nat.le_refl _, Nat.le_refl _⟩
  · rename_i p r hbk
    have hp := h.bk p (by rw [hbk]; simp)
    have hr : ∀ q ∈ r, PcOk q := fun q hq => h.bk q (by rw [hbk]; simp [hq])
    split
    · exact ⟨⟨h.a, h.b, h.th, hr⟩, Nat.le_refl _, by simp [hbk]⟩
    · exact ⟨⟨recvE_ok h.a hp, h.b, h.th, hr⟩, Nat.le_refl _, by simp [hbk]⟩
theorem stepT_inv {t : Tk} (x : Nat) (h : Inv t) : Inv (stepT t x) ∧ (stepT t x).th.length ≤ t.th.length + 4 ∧ (stepT t x).bk.length ≤ t.bk.length + 4 := by
  unfold stepT
  split
  · refine ⟨⟨newE_ok h.a, h.b, fun q hq => ?_, h.bk⟩, ?_, by simp only; omega⟩
    · rcases List.mem_append.1 hq with hq | hq
      · exact h.th q hq
      · exact newP_ok h.a.ok q hq
    · have := newP_len4 t.a
      simp only [List.length_append]
      omega
  · split
    · refine ⟨⟨h.a, h.b, fun q hq => ?_, h.bk⟩, ?_, by simp only; omega⟩
      · rcases List.mem_append.1 hq with hq | hq
        · exact h.th q hq
        · exact againP_ok h.a.ok q hq
      · have := againP_len4 h.a.ok
        simp only [List.length_append]
        omega
    · split
      · have := comeT_inv (l := lostB x) h
        exact ⟨this.1, by omega, by omega⟩
      · have := comeB_inv (l := lostB x) h
        exact ⟨this.1, by omega, by omega⟩
theorem noE_ok : OkS noE := ⟨⟨by decide, by decide, by decide, by decide, by decide, by decide, by decide, by decide, by decide, fun t ht => by simp [noE] at ht, fun t ht => by simp [noE] at ht⟩, by decide⟩
theorem startE_ok {list : List ByteArray} (h1 : list.length ≤ 30) (h2 : ∀ t ∈ list, t.size ≤ 60) : OkS ⟨0, 0, list, 0, []⟩ :=
  ⟨⟨by simp, by simp, by simp, by simp, by simp, h1, by simp, by simp, by simp, h2, fun t ht => by simp at ht⟩, by simp only; omega⟩
theorem startT_inv {list : List ByteArray} (h1 : list.length ≤ 30) (h2 : ∀ t ∈ list, t.size ≤ 60) : Inv (startT list) :=
  ⟨startE_ok h1 h2, noE_ok, fun p hp => by simp [startT] at hp, fun p hp => by simp [startT] at hp⟩
theorem run_inv {list : List ByteArray} (h1 : list.length ≤ 30) (h2 : ∀ t ∈ list, t.size ≤ 60) (picks : List Nat) : Inv (runT list picks) ∧ (runT list picks).th.length ≤ 4 * picks.length ∧ (runT list picks).bk.length ≤ 4 * picks.length := by
  suffices h : ∀ (ps : List Nat) (t : Tk), Inv t → Inv (ps.foldl stepT t) ∧ (ps.foldl stepT t).th.length ≤ t.th.length + 4 * ps.length ∧ (ps.foldl stepT t).bk.length ≤ t.bk.length + 4 * ps.length by
    have := h picks (startT list) (startT_inv h1 h2)
    simp only [startT, List.length_nil, Nat.zero_add] at this
    exact this
  intro ps
  induction ps with
  | nil => intro t ht; exact ⟨ht, by simp, by simp⟩
  | cons x ps ih =>
    intro t ht
    obtain ⟨k1, k2, k3⟩ := stepT_inv x ht
    obtain ⟨j1, j2, j3⟩ := ih _ k1
    refine ⟨j1, ?_, ?_⟩ <;> simp only [List.foldl_cons, List.length_cons] <;> omega
theorem runT_succ (list : List ByteArray) (ps : List Nat) (x : Nat) : runT list (ps ++ [x]) = stepT (runT list ps) x := by
  unfold runT
  rw [List.foldl_append]
  rfl

/-- whether a talk may be held. -/
def talkB (list : List ByteArray) (picks : List Int) : Bool := decide (list.length ≤ 20) && (decide (picks.length ≤ 200) && (fitB list && picks.all fun x => decide (0 ≤ x)))
/-- what comes out is a beginning of what was put in. -/
def begB (list o : List ByteArray) : Bool := decide (o.length ≤ list.length) && decide (o = list.take o.length)
def natsOf (picks : List Int) : List Nat := picks.map Int.toNat
def talkO (list : List ByteArray) (picks : List Int) : List ByteArray := if talkB list picks then (runT list (natsOf picks)).b.o else []
def talkR (list : List ByteArray) (picks : List Int) : Bool := talkB list picks && begB list (runT list (natsOf picks)).b.o
end Go.Proofs.Ytohagaelenhebaa.Pl
