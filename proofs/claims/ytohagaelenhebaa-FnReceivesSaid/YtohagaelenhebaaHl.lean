/- A statement that leaves its order open, walked with a condition on the worlds that it passes through, its last operation apart: that one waits for all others, and the condition need not hold behind it. -/
import Derived.Test.YtohagaelenhebaaCh
import Derived.Deep.RegionHeld3
namespace Go.Proofs.Ytohagaelenhebaa.Pl
open Go Go.RowKit
set_option linter.unusedVariables false

section
variable {P : Program} {Q : Exit → Act → World → Prop} {S : World → Prop}
/-- Q, but behind all the others: the last operation. -/
def LastQ (P : Program) (ops : Array Oper) (Q : Exit → Act → World → Prop) (m : Nat) : Exit → Act → World → Prop
  | .normal, a, w => wpOp P ops Q m (fun a' w' => Q .normal a' w') a w
  | e, a, w => Q e a w

theorem letsOut_last {ops : Array Oper} {m : Nat} : LetsOut (LastQ P ops Q m) = LetsOut Q := rfl
theorem upon_last {ops : Array Oper} {m : Nat} {o : Oper} {a : Act} {K : Act → World → Prop} (r : Result Next) : o.upon P a K (LastQ P ops Q m) r = o.upon P a K Q r := by
  cases r with
  | ok n w' => cases n <;> rfl
  | _ => rfl
theorem wpOp_last {ops ops' : Array Oper} {m i : Nat} {K : Act → World → Prop} {a : Act} {w : World} (hs : ops'[i]? = ops[i]?) (hy : ∀ tmps, yielded ops' tmps = yielded ops tmps) (h : wpOp P ops' (LastQ P ops Q m) i K a w) : wpOp P ops Q i K a w := by
  unfold wpOp at h ⊢
  rw [hs] at h
  cases ho : ops[i]? with
  | none => simpa [ho] using h
  | some o =>
    simp only [ho, hy] at h ⊢
    unfold Oper.wp at h ⊢
    rw [upon_last, letsOut_last] at h
    exact h

theorem any_last {ops ops' : Array Oper} {m : Nat} (hm : ops.size = m + 1) (hsz : ops'.size = ops.size) (hsame : ∀ i : Nat, i ≠ m → ops'[i]? = ops[i]?) {o' : Oper} (ho' : ops'[m]? = some o') (ha : ∀ i : Nat, (ops'[i]?).map Oper.after = (ops[i]?).map Oper.after)
    (hop : o'.op = .move (.const undef)) (hdst : o'.dst = none) (hgd : o'.guard = none) (hy : ∀ tmps, yielded ops' tmps = yielded ops tmps) (hback : backB ops = true) (hreach : (List.range m).all (fun i => reachB ops (m + 1) m i) = true) :
    ∀ (fuel : Nat) (listed : Array Bool) (a : Act) (w : World), listed.size = ops.size → DownL ops listed → listed.getD m false = false → wpAnyH P .any ops' (LastQ P ops Q m) S fuel listed a w → wpAny P .any ops Q fuel listed a w := by
  intro fuel
  induction fuel with
  | zero =>
    intro listed a w hs hd hu h
    have h0 := h.1
    rw [ready_like hsz ha] at h0
    exact absurd h0 (ready_some hs hback (by omega) hu)
  | succ fuel ih =>
    intro listed a w hs hd hu h
    obtain ⟨_, h1⟩ := h
    rw [ready_like hsz ha] at h1
    have hne := ready_some hs hback (j := m) (by omega) hu
    refine ⟨fun h0 => absurd h0 hne, fun i hir => ?_⟩
    have hq := h1 i hir
    by_cases him : i = m
    · subst him
      obtain ⟨_, oi, hoi, hall⟩ := mem_ready.1 hir
      have hl : ∀ j, j < ops.size → (listed.setIfInBounds i true).getD j false = true := by
        intro j hj
        by_cases hji : j = i
        · subst hji
          have : j < listed.size := by omega
          simp [this]
        · refine getD_set_true (reach_listed hd (i + 1) i j (List.all_eq_true.1 hreach j (List.mem_range.2 (by omega))) (fun o ho e he hb => ?_))
          rw [hoi] at ho
          cases ho
          exact hall e he hb
      have hr0 := all_listed (ops := ops) (listed := listed.setIfInBounds i true) (by simpa using hs) hl
      have hr0' : Region.ready .any ops' (listed.setIfInBounds i true) = [] := by rw [ready_like hsz ha]; exact hr0
      have hk : LastQ P ops Q i .normal a w := by
        unfold wpOp at hq
        simp only [ho'] at hq
        rw [if_pos (by simp [Region.wanted, hgd])] at hq
        have hk' : wpAnyH P .any ops' (LastQ P ops Q i) S fuel (listed.setIfInBounds i true) a w := by
          rcases hq with hq | ⟨hq, _⟩
          · have : (execOp a.eval o').run P w = .ok (.value undef) w := by simp [execOp, hop, Act.eval]
            unfold Oper.wp at hq
            rw [this] at hq
            simpa [Oper.upon, hdst, Act.put] using hq.2
          · exfalso
            simp [Oper.asks, execOp, hop] at hq
        cases fuel with
        | zero => exact hk'.2
        | succ f => exact hk'.1 hr0'
      refine wpOp_mono (fun a' w' hq' => ?_) (show wpOp P ops Q i (fun a' w' => Q .normal a' w') a w from hk)
      cases fuel with
      | zero => exact ⟨hr0, hq'⟩
      | succ f => exact ⟨fun _ => hq', by rw [hr0]; intro j hj; cases hj⟩
    · exact wpOp_mono (fun a' w' hh => ih _ a' w' (by simpa using hs) (down_set hd hir) (by rw [getD_set_ne false him]; exact hu) hh.2) (wpOp_last (hsame i him) hy hq)

/-- the beginning. -/
theorem wp_region_heldL {id : Nat} {a : Act} {w : World} (pre : List Oper) (o : Oper) (hmx : P.follows .mixedOrders = true) (hdst : o.dst = none) (hgd : o.guard = none) (hback : backB (pre ++ [o]).toArray = true) (hreach : (List.range pre.length).all (fun i => reachB (pre ++ [o]).toArray (pre.length + 1) pre.length i) = true)
    (h : wpAnyH P .any (pre ++ [{ o with op := .move (.const undef) }]).toArray (LastQ P (pre ++ [o]).toArray Q pre.length) S (pre.length + 1) (Array.replicate (pre.length + 1) false) a w.drew) : (Code.region id (pre ++ [o]).toArray true).wp P Q a w := by
  generalize ho' : ({ o with op := .move (.const undef) } : Oper) = o' at h
  have hgl : (pre ++ [o]).toArray[pre.length]? = some o := by simp
  have hgl' : (pre ++ [o']).toArray[pre.length]? = some o' := by simp
  have hget : ∀ i : Nat, i ≠ pre.length → (pre ++ [o']).toArray[i]? = (pre ++ [o]).toArray[i]? := by
    intro i hi
    by_cases h1 : i < pre.length
    · simp [List.getElem?_append_left h1]
    · have : pre.length + 1 ≤ i := by omega
      simp [this]
  have ha : ∀ i : Nat, ((pre ++ [o']).toArray[i]?).map Oper.after = ((pre ++ [o]).toArray[i]?).map Oper.after := by
    intro i
    by_cases hi : i = pre.length
    · subst hi; rw [hgl, hgl', ← ho']; rfl
    · rw [hget i hi]
  have hy : ∀ tmps, yielded (pre ++ [o']).toArray tmps = yielded (pre ++ [o]).toArray tmps := by
    intro tmps
    funext g
    have : ((pre ++ [o']).toArray[g]?).bind Oper.dst = ((pre ++ [o]).toArray[g]?).bind Oper.dst := by
      by_cases hi : g = pre.length
      · subst hi; rw [hgl, hgl', ← ho']; rfl
      · rw [hget g hi]
    unfold yielded
    rw [this]
  refine wp_region_any hmx ?_
  have := any_last (P := P) (Q := Q) (S := S) (ops := (pre ++ [o]).toArray) (ops' := (pre ++ [o']).toArray) (m := pre.length) (by simp) (by simp) hget hgl' ha (by rw [← ho']) (by rw [← ho']; exact hdst) (by rw [← ho']; exact hgd) hy hback hreach (pre.length + 1) (Array.replicate (pre.length + 1) false) a w.drew (by simp)
    (fun i o ho hli => by simp [Array.getElem?_replicate] at hli; split at hli <;> simp at hli) (by simp) h
  simpa using this
/-- the same, the list given whole. -/
theorem wp_region_heldLast {id : Nat} {a : Act} {w : World} (l : List Oper) (hne : l ≠ []) (hmx : P.follows .mixedOrders = true) (hdst : (l.getLast hne).dst = none) (hgd : (l.getLast hne).guard = none) (hback : backB l.toArray = true) (hreach : (List.range l.dropLast.length).all (fun i => reachB l.toArray (l.dropLast.length + 1) l.dropLast.length i) = true)
    (hS : S w.drew) (h : S w.drew → wpAnyH P .any (l.dropLast ++ [{ l.getLast hne with op := .move (.const undef) }]).toArray (LastQ P l.toArray Q l.dropLast.length) S (l.dropLast.length + 1) (Array.replicate (l.dropLast.length + 1) false) a w.drew) : (Code.region id l.toArray true).wp P Q a w := by
  have e := List.dropLast_concat_getLast hne
  have := wp_region_heldL (P := P) (Q := Q) (S := S) (id := id) (a := a) (w := w) l.dropLast (l.getLast hne) hmx hdst hgd (by rw [e]; exact hback) (by rw [e]; exact hreach) (by rw [e]; exact h hS)
  rw [e] at this
  exact this
end
end Go.Proofs.Ytohagaelenhebaa.Pl
