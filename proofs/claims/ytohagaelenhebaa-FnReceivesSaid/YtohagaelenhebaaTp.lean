/- What comes out of a link is a beginning of what was put in, and never less for more steps. -/
import Derived.Test.YtohagaelenhebaaTk
namespace Go.Proofs.Ytohagaelenhebaa.Pl
open Go Go.RowKit
set_option linter.unusedVariables false

/-- a parcel tells a text of the list, or none. -/
def True1 (L : List ByteArray) (p : Pc) : Prop := p.1 = 0 ∨ ∃ i : Nat, p.1 = (i : Int) + 1 ∧ L[i]? = some p.2.2
structure Beg (L : List ByteArray) (t : Tk) : Prop where
  a : ∃ n : Nat, t.a.ak = (n : Int) ∧ t.a.q = L.drop n
  th : ∀ p ∈ t.th, True1 L p
  b : ∃ n : Nat, t.b.gt = (n : Int) ∧ n ≤ L.length ∧ t.b.o = L.take n
theorem parcs_true {L : List ByteArray} {e : En} {i n : Nat} (h : ∃ n : Nat, e.ak = (n : Int) ∧ e.q = L.drop n) (hn : i + n ≤ e.q.length) : ∀ p ∈ parcs e i n, True1 L p := by
  obtain ⟨m, h1, h2⟩ := h
  intro p hp
  unfold parcs at hp
  obtain ⟨j, hj, rfl⟩ := List.mem_map.1 hp
  have hj' := List.mem_range'_1.1 hj
  have hjl : j < e.q.length := by omega
  refine .inr ⟨m + j, ?_, ?_⟩
  · show e.ak + (j : Int) + 1 = ((m + j : Nat) : Int) + 1
    rw [h1]; omega
  · show L[m + j]? = some (e.q.getD j ByteArray.empty)
    rw [List.getD_eq_getElem?_getD, List.getElem?_eq_getElem hjl]
    have h3 : (L.drop m)[j]? = some e.q[j] := by rw [← h2]; exact List.getElem?_eq_getElem hjl
    rw [List.getElem?_drop] at h3
    rw [h3]
    rfl
theorem ackE_a {L : List ByteArray} {e : En} {a : Int} (h : ∃ n : Nat, e.ak = (n : Int) ∧ e.q = L.drop n) : ∃ n : Nat, (ackE e a).ak = (n : Int) ∧ (ackE e a).q = L.drop n := by
  obtain ⟨m, h1, h2⟩ := h
  unfold ackE
  split
  · rename_i hc
    refine ⟨a.toNat, ?_, ?_⟩
    · show a = _
      omega
    · show e.q.drop (a - e.ak).toNat = _
      rw [h2, List.drop_drop]
      congr 1
      omega
  · exact ⟨m, h1, h2⟩
theorem takeE_q (e : En) (p : Pc) : (takeE e p).ak = e.ak ∧ (takeE e p).q = e.q := by unfold takeE; split <;> exact ⟨rfl, rfl⟩
theorem ackE_o (e : En) (a : Int) : (ackE e a).o = e.o ∧ (ackE e a).gt = e.gt := by unfold ackE; split <;> exact ⟨rfl, rfl⟩
theorem recvE_b {L : List ByteArray} {e : En} {p : Pc} (h : ∃ n : Nat, e.gt = (n : Int) ∧ n ≤ L.length ∧ e.o = L.take n) (hp : True1 L p) : (∃ n : Nat, (recvE e p).gt = (n : Int) ∧ n ≤ L.length ∧ (recvE e p).o = L.take n) ∧ e.o.length ≤ (recvE e p).o.length := by
  obtain ⟨m, h1, h2, h3⟩ := h
  have ho := ackE_o e p.2.1
  unfold recvE takeE takeB
  rw [ho.2, ho.1]
  split
  · rename_i hc
    simp at hc
    rcases hp with hp | ⟨i, hi, hL⟩
    · omega
    · have him : i = m := by omega
      subst him
      have hlt : i < L.length := by
        rcases Nat.lt_or_ge i L.length with h | h
        · exact h
        · rw [List.getElem?_eq_none h] at hL; cases hL
      refine ⟨⟨i + 1, ?_, hlt, ?_⟩, by simp⟩
      · show e.gt + 1 = _
        omega
      · show e.o ++ [p.2.2] = _
        rw [h3, List.take_succ_eq_append_getElem hlt]
        rw [List.getElem?_eq_getElem hlt] at hL
        rw [← Option.some.inj hL]
  · exact ⟨⟨m, ho.2.trans h1, h2, ho.1.trans h3⟩, by rw [ho.1]; exact Nat.le_refl _⟩
theorem step_beg {L : List ByteArray} {t : Tk} (x : Nat) (hi : Inv t) (h : Beg L t) : Beg L (stepT t x) ∧ t.b.o.length ≤ (stepT t x).b.o.length := by
  unfold stepT
  split
  · refine ⟨⟨h.a, fun p hp => ?_, h.b⟩, Nat.le_refl _⟩
    rcases List.mem_append.1 hp with hp | hp
    · exact h.th p hp
    · have h1 := hi.a.ok.q0
      exact parcs_true h.a (by unfold sent wide; omega) p hp
  · split
    · refine ⟨⟨h.a, fun p hp => ?_, h.b⟩, Nat.le_refl _⟩
      rcases List.mem_append.1 hp with hp | hp
      · exact h.th p hp
      · unfold againP at hp
        split at hp
        · have h1 := hi.a.ok.q0
          have h2 := hi.a.ok.n0
          exact parcs_true h.a (by unfold sent; omega) p hp
        · simp at hp
          subst hp
          exact .inl rfl
    · split
      · unfold comeT
        split
        · exact ⟨h, Nat.le_refl _⟩
        · rename_i p r hth
          have hr : ∀ q ∈ r, True1 L q := fun q hq => h.th q (by rw [hth]; simp [hq])
          split
          · exact ⟨⟨h.a, hr, h.b⟩, Nat.le_refl _⟩
          · have hb := recvE_b (p := p) h.b (h.th p (by rw [hth]; simp))
            exact ⟨⟨h.a, hr, hb.1⟩, hb.2⟩
      · unfold comeB
        split
        · exact ⟨h, Nat.le_refl _⟩
        · rename_i p r hbk
          split
          · exact ⟨⟨h.a, h.th, h.b⟩, Nat.le_refl _⟩
          · refine ⟨⟨?_, h.th, h.b⟩, Nat.le_refl _⟩
            have hq := takeE_q (ackE t.a p.2.1) p
            have := ackE_a (a := p.2.1) h.a
            unfold recvE
            rw [hq.1, hq.2]
            exact this
theorem fold_beg {L : List ByteArray} : ∀ (ps : List Nat) (t : Tk), Inv t → Beg L t → Beg L (ps.foldl stepT t) ∧ t.b.o.length ≤ (ps.foldl stepT t).b.o.length := by
  intro ps
  induction ps with
  | nil => intro t _ h; exact ⟨h, Nat.le_refl _⟩
  | cons x ps ih =>
    intro t hi h
    obtain ⟨h1, h2⟩ := step_beg x hi h
    obtain ⟨h3, h4⟩ := ih (stepT t x) (stepT_inv x hi).1 h1
    exact ⟨h3, Nat.le_trans h2 h4⟩
theorem start_beg (L : List ByteArray) : Beg L (startT L) := ⟨⟨0, rfl, rfl⟩, fun p hp => by simp [startT] at hp, ⟨0, rfl, Nat.zero_le _, rfl⟩⟩
theorem run_beg {L : List ByteArray} (h1 : L.length ≤ 30) (h2 : ∀ t ∈ L, t.size ≤ 60) (ps : List Nat) : begB L (runT L ps).b.o = true := by
  obtain ⟨h, _⟩ := fold_beg ps (startT L) (startT_inv h1 h2) (start_beg L)
  obtain ⟨n, _, hn, ho⟩ := h.b
  unfold begB runT
  rw [ho]
  simp
  omega
theorem run_more {L : List ByteArray} (h1 : L.length ≤ 30) (h2 : ∀ t ∈ L, t.size ≤ 60) (ps qs : List Nat) : (runT L ps).b.o.length ≤ (runT L (ps ++ qs)).b.o.length := by
  obtain ⟨h, _⟩ := fold_beg ps (startT L) (startT_inv h1 h2) (start_beg L)
  have := (fold_beg qs (ps.foldl stepT (startT L)) (run_inv h1 h2 ps).1 h).2
  unfold runT
  rw [List.foldl_append]
  exact this
/-- more picks that may be: what came out stands at the front. -/
theorem talk_more {L : List ByteArray} {ps qs : List Int} (h : talkB L (ps ++ qs) = true) (h0 : talkB L ps = true) : (talkO L ps).length ≤ (talkO L (ps ++ qs)).length := by
  have hh := h0
  unfold talkB at hh
  simp only [Bool.and_eq_true, decide_eq_true_eq, fitB_true] at hh
  unfold talkO
  rw [h, h0, if_pos rfl, if_pos rfl]
  unfold natsOf
  rw [List.map_append]
  exact run_more (by omega) hh.2.2.1 _ _
theorem talk_right {L : List ByteArray} {ps : List Int} : talkR L ps = talkB L ps := by
  unfold talkR
  cases h : talkB L ps with
  | false => rfl
  | true =>
    have hh := h
    unfold talkB at hh
    simp only [Bool.and_eq_true, decide_eq_true_eq, fitB_true] at hh
    rw [run_beg (by omega) hh.2.2.1]
    rfl
end Go.Proofs.Ytohagaelenhebaa.Pl
