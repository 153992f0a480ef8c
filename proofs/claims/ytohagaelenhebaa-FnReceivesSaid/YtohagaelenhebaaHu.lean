/- A statement that leaves its order open: a condition on the worlds up to one operation that waits for all ahead of it and for which all behind it wait; from there on none. -/
import Derived.Test.YtohagaelenhebaaHl
namespace Go.Proofs.Ytohagaelenhebaa.Pl
open Go Go.RowKit
set_option linter.unusedVariables false

section
variable {P : Program} {Q : Exit → Act → World → Prop} {S : World → Prop}
/-- Q, but behind the first c: the rest. -/
def UntilQ (P : Program) (ops : Array Oper) (Q : Exit → Act → World → Prop) (K : Nat) (L : Array Bool) : Exit → Act → World → Prop
  | .normal, a, w => wpAny P .any ops Q K L a w
  | e, a, w => Q e a w
theorem upon_until {ops : Array Oper} {K : Nat} {L : Array Bool} {o : Oper} {a : Act} {N : Act → World → Prop} (r : Result Next) : o.upon P a N (UntilQ P ops Q K L) r = o.upon P a N Q r := by
  cases r with
  | ok n w' => cases n <;> rfl
  | _ => rfl
theorem wpOp_until {ops ops' : Array Oper} {K i : Nat} {L : Array Bool} {N : Act → World → Prop} {a : Act} {w : World} {o : Oper} (ho : ops[i]? = some o) (ho' : ops'[i]? = some o) (hg : o.guard = none) (h : wpOp P ops' (UntilQ P ops Q K L) i N a w) : wpOp P ops Q i N a w := by
  unfold wpOp at h ⊢
  simp only [ho', ho] at h ⊢
  rw [if_pos (by simp [Region.wanted, hg])] at h ⊢
  unfold Oper.wp at h ⊢
  rw [upon_until] at h
  exact h
/-- nothing but moves of nothing. -/
def Idle (o : Oper) : Prop := o.op = .move (.const undef) ∧ o.dst = none ∧ o.guard = none
theorem idle_step {ops : Array Oper} {Q : Exit → Act → World → Prop} {i : Nat} {N : Act → World → Prop} {a : Act} {w : World} {o : Oper} (ho : ops[i]? = some o) (hi : Idle o) (h : wpOp P ops Q i N a w) : N a w := by
  obtain ⟨hop, hdst, hgd⟩ := hi
  unfold wpOp at h
  simp only [ho] at h
  rw [if_pos (by simp [Region.wanted, hgd])] at h
  rcases h with h | ⟨h, _⟩
  · have : (execOp a.eval o).run P w = .ok (.value undef) w := by simp [execOp, hop, Act.eval]
    unfold Oper.wp at h
    rw [this] at h
    simpa [Oper.upon, hdst, Act.put] using h
  · exfalso
    simp [Oper.asks, execOp, hop] at h
theorem idle_run {ops : Array Oper} {Q : Exit → Act → World → Prop} : ∀ (fuel : Nat) (listed : Array Bool) (a : Act) (w : World), (∀ i o, ops[i]? = some o → listed.getD i true = false → Idle o) → wpAnyH P .any ops Q S fuel listed a w → Q .normal a w := by
  intro fuel
  induction fuel with
  | zero => intro listed a w _ h; exact h.2
  | succ fuel ih =>
    intro listed a w hi h
    cases hr : Region.ready .any ops listed with
    | nil => exact h.1 hr
    | cons i is =>
      have hir : i ∈ Region.ready .any ops listed := by rw [hr]; exact List.mem_cons_self ..
      obtain ⟨hl, o, ho, _⟩ := mem_ready.1 hir
      have hk := idle_step ho (hi i o ho hl) (h.2 i hir)
      refine ih _ a w (fun j oj hoj hlj => hi j oj hoj ?_) hk.2
      by_cases hji : j = i
      · subst hji; exact hl
      · rw [getD_set_ne true (Ne.symm hji)] at hlj
        exact hlj

/-- how many are still to come. -/
def un (n : Nat) (L : Array Bool) : Nat := (List.range n).countP fun j => !L.getD j true
theorem countP_flip (f f' : Nat → Bool) (i : Nat) (hi : f i = true) (hi' : f' i = false) (he : ∀ j, j ≠ i → f' j = f j) : ∀ n, (List.range n).countP f' + (if i < n then 1 else 0) = (List.range n).countP f := by
  intro n
  induction n with
  | zero => simp
  | succ n ih =>
    rw [List.range_succ, List.countP_append, List.countP_append]
    by_cases hn : n = i
    · subst hn
      simp only [Nat.lt_irrefl, if_false] at ih
      simp [hi, hi']
      omega
    · have h1 : (i < n + 1) = (i < n) := by simp; omega
      simp only [h1]
      have h2 : List.countP f' [n] = List.countP f [n] := by simp [List.countP_cons, he n hn]
      omega
theorem un_set {n : Nat} {L : Array Bool} {i : Nat} (hs : L.size = n) (hi : L.getD i true = false) : un n (L.setIfInBounds i true) + 1 = un n L := by
  have hlt : i < L.size := by
    rcases Nat.lt_or_ge i L.size with h | h
    · exact h
    · simp [h] at hi
  have := countP_flip (fun j => !L.getD j true) (fun j => !(L.setIfInBounds i true).getD j true) i (by simp [hi]) (by simp [hlt]) (fun j hj => by show (!(L.setIfInBounds i true).getD j true) = _; rw [getD_set_ne true (Ne.symm hj)]) n
  rw [if_pos (by omega)] at this
  exact this
theorem getD_in {L : Array Bool} {j : Nat} (d : Bool) (h : j < L.size) : L[j] = L.getD j d := by
  unfold Array.getD
  rw [dif_pos h]
  rfl
theorem any_until {ops ops' : Array Oper} {c : Nat} {L0 : Array Bool} (hc : c < ops.size) (hsz : ops'.size = ops.size) (hL : L0.size = ops.size) (hL1 : ∀ j, j ≤ c → L0.getD j false = true) (hL2 : ∀ j, c < j → j < ops.size → L0.getD j true = false)
    (hpre : ∀ i, i ≤ c → ∃ o, ops[i]? = some o ∧ ops'[i]? = some o ∧ o.guard = none) (hpost : ∀ i o, c < i → ops'[i]? = some o → Idle o) (ha : ∀ i : Nat, (ops'[i]?).map Oper.after = (ops[i]?).map Oper.after)
    (hback : backB ops = true) (hreach : ∀ i, i < c → reachB ops (ops.size + 1) c i = true) (hwait : ∀ j, c < j → j < ops.size → reachB ops (ops.size + 1) j c = true) :
    ∀ (fuel : Nat) (listed : Array Bool) (a : Act) (w : World), listed.size = ops.size → DownL ops listed → listed.getD c false = false → fuel = un ops.size listed → wpAnyH P .any ops' (UntilQ P ops Q (un ops.size L0) L0) S fuel listed a w → wpAny P .any ops Q fuel listed a w := by
  intro fuel
  induction fuel with
  | zero =>
    intro listed a w hs hd hu hf h
    have h0 := h.1
    rw [ready_like hsz ha] at h0
    exact absurd h0 (ready_some hs hback hc hu)
  | succ fuel ih =>
    intro listed a w hs hd hu hf h
    obtain ⟨_, h1⟩ := h
    rw [ready_like hsz ha] at h1
    have hne := ready_some hs hback (j := c) hc hu
    refine ⟨fun h0 => absurd h0 hne, fun i hir => ?_⟩
    have hq := h1 i hir
    obtain ⟨hli, oi, hoi, hall⟩ := mem_ready.1 hir
    have hisz : i < ops.size := (Array.getElem?_eq_some_iff.1 hoi).1
    have hun := un_set (n := ops.size) hs hli
    have hic : i ≤ c := by
      rcases Nat.lt_or_ge c i with h | h
      · exfalso
        have hw := hwait i h hisz
        have := reach_listed hd _ i c hw (fun o ho e he hb => by rw [hoi] at ho; cases ho; exact hall e he hb)
        rw [this] at hu
        cases hu
      · exact h
    obtain ⟨o, ho, ho', hg⟩ := hpre i hic
    by_cases hi2 : i = c
    · subst hi2
      have hlL : listed.setIfInBounds i true = L0 := by
        refine Array.ext (by simpa using hs.trans hL.symm) (fun j h1 h2 => ?_)
        have hj : j < ops.size := by simpa [hs] using h1
        have e1 : (listed.setIfInBounds i true)[j] = (listed.setIfInBounds i true).getD j false := getD_in _ h1
        have e2 : L0[j] = L0.getD j false := getD_in _ h2
        rw [e1, e2]
        rcases Nat.lt_trichotomy j i with hji | hji | hji
        · rw [hL1 j (by omega)]
          exact getD_set_true (reach_listed hd _ i j (hreach j hji) (fun o ho e he hb => by rw [hoi] at ho; cases ho; exact hall e he hb))
        · subst hji
          rw [hL1 j (Nat.le_refl _)]
          have : j < listed.size := by omega
          simp [this]
        · have h3 := hL2 j hji hj
          have e3 : L0.getD j false = false := by rw [← getD_in false h2, getD_in true h2]; exact h3
          rw [e3, getD_set_ne false (by omega)]
          cases hb : listed.getD j false with
          | false => rfl
          | true =>
            exfalso
            cases hoj : ops[j]? with
            | none => rw [Array.getElem?_eq_none_iff] at hoj; omega
            | some oj =>
              have := reach_listed hd _ j i (hwait j hji hj) (fun o ho e he hbb => by rw [hoj] at ho; cases ho; exact hd j oj hoj hb e he hbb)
              rw [this] at hu
              cases hu
      refine wpOp_mono (fun a' w' hh => ?_) (wpOp_until ho ho' hg hq)
      have hk : wpAny P .any ops Q (un ops.size L0) L0 a' w' := by
        refine idle_run (Q := UntilQ P ops Q (un ops.size L0) L0) fuel (listed.setIfInBounds i true) a' w' (fun j oj hoj hlj => ?_) hh.2
        refine hpost j oj ?_ hoj
        rcases Nat.lt_or_ge i j with h | h
        · exact h
        · exfalso
          have := hL1 j h
          rw [hlL] at hlj
          have hj2 : j < L0.size := by
            have := (Array.getElem?_eq_some_iff.1 hoj).1
            omega
          rw [← getD_in false hj2, getD_in true hj2, hlj] at this
          cases this
      have hfu : fuel = un ops.size L0 := by rw [← hlL]; omega
      rw [hlL, hfu]
      exact hk
    · refine wpOp_mono (fun a' w' hh => ih _ a' w' (by simpa using hs) (down_set hd hir) (by rw [getD_set_ne false hi2]; exact hu) (by omega) hh.2) (wpOp_until ho ho' hg hq)
/-- the operations, those behind c made idle. -/
def idled (c : Nat) (l : List Oper) : List Oper := l.mapIdx fun i o => if i ≤ c then o else { o with op := .move (.const undef), dst := none, guard := none }
def upto (c n : Nat) : Array Bool := ((List.range n).map fun j => decide (j ≤ c)).toArray
theorem upto_getD {c n j : Nat} {d : Bool} (h : j < n) : (upto c n).getD j d = decide (j ≤ c) := by
  have hs : j < (upto c n).size := by simp [upto, h]
  rw [← getD_in d hs]
  simp [upto]
theorem un_all (n : Nat) : un n (Array.replicate n false) = n := by
  unfold un
  rw [List.countP_eq_length.2]
  · simp
  · intro j hj
    have : j < n := List.mem_range.1 hj
    simp [Array.getD, this]
theorem wp_region_until {id : Nat} {a : Act} {w : World} (l : List Oper) (c : Nat) (hc : decide (c < l.length) = true) (hmx : P.follows .mixedOrders = true) (hgd : (List.range (c + 1)).all (fun i => ((l[i]?).map fun o => o.guard.isNone).getD false) = true) (hback : backB l.toArray = true)
    (hreach : (List.range c).all (fun i => reachB l.toArray (l.toArray.size + 1) c i) = true) (hwait : (List.range l.length).all (fun j => decide (j ≤ c) || reachB l.toArray (l.toArray.size + 1) j c) = true)
    (hS : S w.drew) (h : S w.drew → wpAnyH P .any (idled c l).toArray (UntilQ P l.toArray Q (un l.toArray.size (upto c l.length)) (upto c l.length)) S l.toArray.size (Array.replicate l.toArray.size false) a w.drew) : (Code.region id l.toArray true).wp P Q a w := by
  have hc' : c < l.length := of_decide_eq_true hc
  refine wp_region_any hmx ?_
  refine any_until (c := c) (ops := l.toArray) (ops' := (idled c l).toArray) (by simpa using hc') (by simp [idled]) (by simp [upto]) (fun j hj => by rw [upto_getD (by omega)]; simpa using hj) (fun j hj hjl => by rw [upto_getD (by simpa using hjl)]; simpa using hj) ?_ ?_ ?_ hback ?_ ?_ _ _ a w.drew (by simp) ?_ ?_ ?_ (h hS)
  · intro i hi
    have hil : i < l.length := by omega
    have hg := List.all_eq_true.1 hgd i (List.mem_range.2 (by omega))
    rw [List.getElem?_eq_getElem hil] at hg
    refine ⟨l[i], by simp [hil], by simp [idled, hil, hi], ?_⟩
    simpa using hg
  · intro i o hi ho
    have hil : i < l.length := by
      have := (Array.getElem?_eq_some_iff.1 ho).1
      simpa [idled] using this
    simp [idled, hil, show ¬ i ≤ c by omega] at ho
    subst ho
    exact ⟨rfl, rfl, rfl⟩
  · intro i
    by_cases hil : i < l.length
    · by_cases hi : i ≤ c <;> simp [idled, hil, hi]
    · simp [idled, Nat.le_of_not_lt hil]
  · exact fun i hi => List.all_eq_true.1 hreach i (List.mem_range.2 hi)
  · intro j hj hjl
    have := List.all_eq_true.1 hwait j (List.mem_range.2 (by simpa using hjl))
    simpa [show ¬ j ≤ c by omega] using this
  · exact fun i o ho hli => by simp [Array.getElem?_replicate] at hli; split at hli <;> simp at hli
  · simp [Array.getD]
  · exact (un_all _).symm
end
end Go.Proofs.Ytohagaelenhebaa.Pl
