/- Channels in one goroutine, for the walks by 'Code.wp': a send into a buffer with room as the last of a statement's operations, a receive as the first. No program is named here. -/
import Derived.Test.YtohagaelenhebaaSl
import Derived.Conc.LoneCalls
import Derived.Deep.Quiet
namespace Go.Proofs.Ytohagaelenhebaa.Pl
open Go Go.RowKit Go.Conc
set_option linter.unusedVariables false

/-- from inside a statement, the operations l still to come. -/
def RunR (P : Program) (ops : Array Oper) (Q : Exit → Act → World → Prop) (l : List Nat) (a : Act) (w : World) : Prop :=
  ∀ (b : Frame) (k : List Item) (cs : List Frame), ∃ e a' w', Q e a' w' ∧ Arrives P (lone (b.at a (.inRegion ops l :: k)) cs w) b k cs e a' w'

section
variable {P : Program} {ops : Array Oper} {Q Q' : Exit → Act → World → Prop} {a : Act} {w : World} {i : Nat} {rest l : List Nat} {o : Oper}

theorem runR_of_ops (h : wpOps P ops Q l a w) : RunR P ops Q l a w := wp_ops l a w h
theorem wp_region_run {id : Nat} (h : RunR P ops Q (List.range ops.size) a w) : (Code.region id ops false).wp P Q a w :=
  fun b k cs => let ⟨e, a', w', q, r⟩ := h b k cs; ⟨e, a', w', q, .of_steps (.one step_region) r⟩

/-- one step that carries an operation out. -/
theorem runR_one {a₁ : Act} {w₁ : World} (hs : ∀ (b : Frame) (k : List Item) (cs : List Frame), Steps P (lone (b.at a (.inRegion ops (i :: rest) :: k)) cs w) (lone (b.at a₁ (.inRegion ops rest :: k)) cs w₁)) (h : RunR P ops Q rest a₁ w₁) : RunR P ops Q (i :: rest) a w :=
  fun b k cs => let ⟨e, a', w', q, r⟩ := h b k cs; ⟨e, a', w', q, .of_steps (hs b k cs) r⟩

theorem stepG_commE {cases : Array CommCase} {blocking : Bool} {shape : CommShape} {w' : World} (ho : ops[i]? = some o) (hw : Region.wanted o (yielded ops a.tmps) = true)
    (hr : (execOp a.eval o).run P w = .ok (.comm cases blocking shape) w') (b : Frame) (k : List Item) (cs : List Frame) :
    ∃ es, stepG P true (G (b.at a (.inRegion ops (i :: rest) :: k)) cs) w = .comm (G (b.at a (.inRegion ops (i :: rest) :: k)) cs) cases blocking shape w' es := by
  rw [stepG_oper ho hw]
  simp [stepG.apply, hr, G, Frame.at, GStep.after]

theorem runR_send {x y : Operand} {c cap s r : Nat} {buf : Array Value} {tm : Bool} {v : Value} (ho : ops[i]? = some o) (hg : o.guard = none) (hop : o.op = .send x y)
    (hx : a.eval x = .chan (some c)) (hy : a.eval y = v) (hc : w.heap[c]? = some (.chan cap buf false s r tm)) (hroom : buf.size < cap)
    (h : RunR P ops Q rest (a.put o.dst undef) (w.setChan c cap (buf.push v) false (s + 1) r tm)) : RunR P ops Q (i :: rest) a w := by
  refine runR_one (fun b k cs => ?_) h
  have hr : ∃ z', (execOp a.eval o).run P w = .ok (.comm #[scase c v z'] true .send) w := by
    simp [execOp, hop, hx, hy, scase]
  obtain ⟨z', hr⟩ := hr
  obtain ⟨es, he⟩ := stepG_commE (rest := rest) ho (by simp [Region.wanted, hg]) hr b k cs
  have := step_lone_send_room he hc hroom
  rw [Frame.finish_at, ho] at this
  exact .one this

theorem runR_recv_buf {x : Operand} {t e : TypeId} {d : ChanDir} {ti : TypeInfo} {z : Value} {c cap s r : Nat} {buf : Array Value} {tm closed ok : Bool} (ho : ops[i]? = some o) (hg : o.guard = none) (hop : o.op = .recv t x ok)
    (ht : P.underlying t = some (.chan d e)) (hi : P.info? e = some ti) (hz : ti.zero = some z) (hx : a.eval x = .chan (some c)) (hc : w.heap[c]? = some (.chan cap buf closed s r tm)) (hsome : 0 < buf.size)
    (h : RunR P ops Q rest (a.put o.dst (got ok (buf.getD 0 undef) true)) (w.setChan c cap (buf.extract 1 buf.size) closed s (r + 1) tm)) : RunR P ops Q (i :: rest) a w := by
  refine runR_one (fun b k cs => ?_) h
  have hr : (execOp a.eval o).run P w = .ok (.comm #[rcase c z] true (.recv ok)) w := by
    simp [execOp, hop, hx, rcase, run_underlying ht, zeroValue, typeInfo, hi, hz]
  obtain ⟨es, he⟩ := stepG_commE (rest := rest) ho (by simp [Region.wanted, hg]) hr b k cs
  have := step_lone_recv_buf ok he hc hsome
  rw [Frame.finish_at, ho] at this
  exact .one this

theorem runR_recv_shut {x : Operand} {t e : TypeId} {d : ChanDir} {ti : TypeInfo} {z : Value} {c cap s r : Nat} {tm ok : Bool} (ho : ops[i]? = some o) (hg : o.guard = none) (hop : o.op = .recv t x ok)
    (ht : P.underlying t = some (.chan d e)) (hi : P.info? e = some ti) (hz : ti.zero = some z) (hx : a.eval x = .chan (some c)) (hc : w.heap[c]? = some (.chan cap #[] true s r tm))
    (h : RunR P ops Q rest (a.put o.dst (got ok z false)) w) : RunR P ops Q (i :: rest) a w := by
  refine runR_one (fun b k cs => ?_) h
  have hr : (execOp a.eval o).run P w = .ok (.comm #[rcase c z] true (.recv ok)) w := by
    simp [execOp, hop, hx, rcase, run_underlying ht, zeroValue, typeInfo, hi, hz]
  obtain ⟨es, he⟩ := stepG_commE (rest := rest) ho (by simp [Region.wanted, hg]) hr b k cs
  have := step_lone_recv_shut ok he hc
  rw [Frame.finish_at, ho] at this
  exact .one this

/-- an operation that is known by its 'wp', no way out but the plain one. -/
theorem steps_op {K : Act → World → Prop} (hQ : ∀ e a w, Q e a w → e = .normal) (hw : wpOp P ops Q i K a w) (b : Frame) (k : List Item) (cs : List Frame) (rest : List Nat) :
    ∃ a' w', K a' w' ∧ Steps P (lone (b.at a (.inRegion ops (i :: rest) :: k)) cs w) (lone (b.at a' (.inRegion ops rest :: k)) cs w') := by
  unfold wpOp at hw
  cases ho : ops[i]? with
  | none =>
    simp only [ho] at hw
    have hs := step_op_skip (P := P) (b := b) (a := a) (k := k) (cs := cs) (w := w) (ops := ops) (i := i) (rest := rest) (by simp [ho])
    simp only [ho, Option.bind_none, Act.put] at hs
    exact ⟨a, w, hw, .one hs⟩
  | some o =>
    simp only [ho] at hw
    have hfin : ∀ v, (b.at a (.inRegion ops (i :: rest) :: k)).finish v = b.at (a.put o.dst v) (.inRegion ops rest :: k) := by
      intro v; rw [Frame.finish_at, ho]; rfl
    by_cases hwt : Region.wanted o (yielded ops a.tmps) = true
    · simp only [hwt, if_true] at hw
      rcases hw with hw | ⟨_, a0, w0, h0⟩
      case inr => cases hQ _ _ _ h0
      have hg := stepG_op (P := P) (b := b) (k := k) (cs := cs) (w := w) (rest := rest) ho hwt
      unfold Oper.wp at hw
      generalize hrr : (execOp a.eval o).run P w = res at hw
      cases res with
      | halt x w1 => cases x <;> simp only [Oper.upon] at hw; cases hQ _ _ _ hw
      | ok n w1 =>
        cases n <;> simp only [Oper.upon] at hw
        case value v =>
          refine ⟨_, _, hw, .one (step_lone_go ?_)⟩
          rw [hg, ← hfin]; simp [stepG.apply, hrr]
        case skip =>
          refine ⟨_, _, hw, .one (step_lone_go ?_)⟩
          rw [hg, ← hfin]; simp [stepG.apply, hrr]
        case defer d =>
          refine ⟨_, _, hw, .one (step_lone_go ?_)⟩
          have : ({ b.at a (.inRegion ops (i :: rest) :: k) with defers := d :: a.defers } : Frame).finish undef = b.at ({ a with defers := d :: a.defers }.put o.dst undef) (.inRegion ops rest :: k) := by
            have := Frame.finish_at b { a with defers := d :: a.defers } ops i rest k undef
            rw [ho] at this; exact this
          rw [hg]; simp only [stepG.apply, Sem.runT_eq, hrr, GStep.bare_after]
          exact congrArg (fun fr => GStep.go { frame := fr, callers := cs, status := .running, dying := none } w1) this
        case enter f args =>
          obtain ⟨e, w2, fr, hR, hsteps, _, hleave⟩ := hw (b.at a (.inRegion ops (i :: rest) :: k) :: cs)
          have henter : step P (lone (b.at a (.inRegion ops (i :: rest) :: k)) cs w) = .next (lone (Frame.enter P f args .normal) (b.at a (.inRegion ops (i :: rest) :: k) :: cs) w1) :=
            step_lone_go (by rw [hg]; simp [stepG.apply, hrr, Frame.at])
          cases e with
          | returned v => exact ⟨_, _, hR, .head henter (Steps.trans hsteps (.one (by rw [← hfin]; exact step_leave_returned hleave)))⟩
          | panicked chain => cases hQ _ _ _ hR
          | outgrown => obtain ⟨a0, w0, h0⟩ := hR; cases hQ _ _ _ h0
        case row row args =>
          obtain ⟨v, w2, hR, hsteps⟩ := hw (b.at a (.inRegion ops (i :: rest) :: k)) cs
          have henter : step P (lone (b.at a (.inRegion ops (i :: rest) :: k)) cs w) = .next (lone (Frame.ofRow P row args .normal) (b.at a (.inRegion ops (i :: rest) :: k) :: cs) w1) :=
            step_lone_go (by rw [hg]; simp [stepG.apply, hrr, Frame.at])
          exact ⟨_, _, hR, .head henter (by rw [← hfin]; exact hsteps)⟩
    · simp only [hwt, if_false, Bool.false_eq_true] at hw
      have hs := step_op_skip (P := P) (b := b) (a := a) (k := k) (cs := cs) (w := w) (ops := ops) (i := i) (rest := rest) (by simp [ho]; simpa using hwt)
      rw [ho] at hs
      exact ⟨_, _, hw, .one hs⟩

/-- the operations l by their 'wpOps', the rest as it is known. -/
theorem runR_append : ∀ (l : List Nat) (a : Act) (w : World) (l2 : List Nat) {Q1 : Act → World → Prop}, wpOps P ops (fun e a' w' => e = .normal ∧ Q1 a' w') l a w → (∀ a' w', Q1 a' w' → RunR P ops Q l2 a' w') → RunR P ops Q (l ++ l2) a w
  | [], a, w, l2, Q1, h, hq => hq a w h.2
  | i :: l, a, w, l2, Q1, h, hq => by
    intro b k cs
    rw [wpOps_cons] at h
    obtain ⟨a1, w1, h1, hs⟩ := steps_op (fun e a w h => h.1) h b k cs (l ++ l2)
    obtain ⟨e, a2, w2, q, r⟩ := runR_append l a1 w1 l2 h1 hq b k cs
    exact ⟨e, a2, w2, q, .of_steps hs r⟩

theorem wpOps_pre : ∀ (l : List Oper) (k : Nat), (∀ j, j < l.length → l[j]? = ops[k + j]?) → wpOps P ops Q (List.range' k l.length) = wpList P ops Q l
  | [], k, _ => by funext a w; simp [wpOps, wpList]
  | o :: l, k, h => by
    have h0 : ops[k]? = some o := by simpa using (h 0 (by simp)).symm
    have ih := wpOps_pre l (k + 1) (fun j hj => by have := h (j + 1) (by simp; omega); simpa [Nat.add_assoc, Nat.add_comm 1 j] using this)
    funext a w
    simp only [List.length_cons, List.range'_succ, wpOps, h0, wpList, ih]

/-- a statement in the text's order: its last operation apart. -/
theorem wp_region_then {id : Nat} {l : List Oper} {Q1 : Act → World → Prop} (pre : List Oper) (o : Oper) (hl : l = pre ++ [o]) (h : wpList P l.toArray (fun e a' w' => e = .normal ∧ Q1 a' w') pre a w) (hq : ∀ a' w', Q1 a' w' → RunR P l.toArray Q [pre.length] a' w') :
    (Code.region id l.toArray false).wp P Q a w := by
  refine wp_region_run ?_
  have e1 : List.range l.toArray.size = List.range' 0 pre.length ++ [pre.length] := by
    rw [hl]
    simp only [List.size_toArray, List.length_append, List.length_cons, List.length_nil, Nat.zero_add, List.range_succ, List.range_eq_range']
  rw [e1]
  refine runR_append _ a w _ ?_ hq
  rw [wpOps_pre pre 0 (fun j hj => ?_)]
  · exact h
  · rw [hl]
    simp [List.getElem?_append_left hj]

/-! ### a statement that leaves its order open, its last operation apart -/
/-- i comes, by edges, ahead of j. -/
def reachB (ops : Array Oper) : Nat → Nat → Nat → Bool
  | 0, _, _ => false
  | f + 1, j, i => ((ops[j]?).map (fun o => o.after.any fun e => Region.binds .any e && (e.on == i || reachB ops f e.on i))).getD false
/-- every edge goes back. -/
def backB (ops : Array Oper) : Bool := (List.range ops.size).all fun i => ((ops[i]?).map (fun o => o.after.all fun e => !Region.binds .any e || decide (e.on < i))).getD true

def DownL (ops : Array Oper) (listed : Array Bool) : Prop := ∀ i o, ops[i]? = some o → listed.getD i false = true → ∀ e ∈ o.after, Region.binds .any e = true → listed.getD e.on false = true

theorem reach_listed {listed : Array Bool} (hd : DownL ops listed) : ∀ (f j i : Nat), reachB ops f j i = true → (∀ o, ops[j]? = some o → ∀ e ∈ o.after, Region.binds .any e = true → listed.getD e.on false = true) → listed.getD i false = true
  | 0, j, i, h, _ => by simp [reachB] at h
  | f + 1, j, i, h, hj => by
    unfold reachB at h
    cases ho : ops[j]? with
    | none => simp [ho] at h
    | some o =>
      simp only [ho, Option.map_some, Option.getD_some] at h
      obtain ⟨e, he, hb⟩ := Array.any_eq_true'.1 h
      simp only [Bool.and_eq_true, Bool.or_eq_true, beq_iff_eq] at hb
      have hl := hj o ho e he hb.1
      rcases hb.2 with rfl | hr
      · exact hl
      · exact reach_listed hd f e.on i hr (fun o' ho' e' he' hb' => hd e.on o' ho' hl e' he' hb')

theorem ready_some {listed : Array Bool} (hs : listed.size = ops.size) (hb : backB ops = true) {j : Nat} (hj : j < ops.size) (hu : listed.getD j false = false) : Region.ready .any ops listed ≠ [] := by
  have key : ∀ n j, j ≤ n → j < ops.size → listed.getD j false = false → ∃ i, i ∈ Region.ready .any ops listed := by
    intro n
    induction n with
    | zero =>
      intro j hj0 hj hu
      obtain rfl : j = 0 := by omega
      refine ⟨0, mem_ready.2 ⟨?_, ops[0], Array.getElem?_eq_getElem hj, fun e he hbe => ?_⟩⟩
      · have : 0 < listed.size := by omega
        simpa [this] using hu
      · have := List.all_eq_true.1 hb 0 (List.mem_range.2 hj)
        rw [Array.getElem?_eq_getElem hj] at this
        simp only [Option.map_some, Option.getD_some] at this
        have := Array.all_eq_true_iff_forall_mem.1 this e he
        simp [hbe] at this
    | succ n ih =>
      intro j hjn hj hu
      by_cases hall : ∀ e ∈ ops[j].after, Region.binds .any e = true → listed.getD e.on false = true
      · refine ⟨j, mem_ready.2 ⟨?_, ops[j], Array.getElem?_eq_getElem hj, hall⟩⟩
        have : j < listed.size := by omega
        simpa [this] using hu
      · simp only [Classical.not_forall] at hall
        obtain ⟨e, he, hbe, hne⟩ := hall
        have h1 := List.all_eq_true.1 hb j (List.mem_range.2 hj)
        rw [Array.getElem?_eq_getElem hj] at h1
        simp only [Option.map_some, Option.getD_some] at h1
        have h2 := Array.all_eq_true_iff_forall_mem.1 h1 e he
        simp [hbe] at h2
        exact ih e.on (by omega) (by omega) (by simpa using hne)
  obtain ⟨i, hi⟩ := key j j (Nat.le_refl _) hj hu
  intro h0
  rw [h0] at hi
  cases hi

theorem down_set {listed : Array Bool} (hd : DownL ops listed) {i : Nat} (hi : i ∈ Region.ready .any ops listed) : DownL ops (listed.setIfInBounds i true) := by
  obtain ⟨_, oi, hoi, hall⟩ := mem_ready.1 hi
  intro k o ho hk e he hb
  by_cases hki : k = i
  · subst hki
    rw [hoi] at ho
    cases ho
    exact getD_set_true (hall e he hb)
  · rw [getD_set_ne false (Ne.symm hki)] at hk
    exact getD_set_true (hd k o ho hk e he hb)

theorem ready_like {ops' : Array Oper} (hsz : ops'.size = ops.size) (ha : ∀ i : Nat, (ops'[i]?).map Oper.after = (ops[i]?).map Oper.after) (listed : Array Bool) : Region.ready .any ops' listed = Region.ready .any ops listed := by
  unfold Region.ready
  rw [hsz]
  refine congrArg (fun f => List.filter f (List.range ops.size)) (funext fun i => ?_)
  have h := ha i
  have e1 : ∀ x : Option Oper, (x.map (fun o => o.after.all fun e => !Region.binds .any e || listed.getD e.on false)) = (x.map Oper.after).map (fun s => s.all fun e => !Region.binds .any e || listed.getD e.on false) := fun x => by cases x <;> rfl
  rw [e1, e1, h]

theorem all_listed {listed : Array Bool} (hs : listed.size = ops.size) (h : ∀ j, j < ops.size → listed.getD j false = true) : Region.ready .any ops listed = [] := by
  cases hr : Region.ready .any ops listed with
  | nil => rfl
  | cons x xs =>
    have hx : x ∈ Region.ready .any ops listed := by rw [hr]; exact List.mem_cons_self ..
    obtain ⟨h0, o, ho, _⟩ := mem_ready.1 hx
    have hlt : x < ops.size := (Array.getElem?_eq_some_iff.1 ho).1
    have h1 := h x hlt
    have : x < listed.size := by omega
    simp [this] at h0 h1
    rw [h0] at h1
    cases h1

theorem runR_any {ops' : Array Oper} {m : Nat} (hm : ops.size = m + 1) (hsz : ops'.size = ops.size) (hsame : ∀ i : Nat, i ≠ m → ops'[i]? = ops[i]?) {o' : Oper} (ho' : ops'[m]? = some o') (ha : ∀ i : Nat, (ops'[i]?).map Oper.after = (ops[i]?).map Oper.after)
    (hdst : o'.dst = none) (hgd : o'.guard = none) (hy : ∀ tmps, yielded ops' tmps = yielded ops tmps) (hback : backB ops = true) (hreach : (List.range m).all (fun i => reachB ops (m + 1) m i) = true) {C : World → Prop} {Q1 : Act → Prop}
    (hlast : ∀ a w, Q1 a → C w → RunR P ops Q [m] a w) :
    ∀ (fuel t : Nat) (listed : Array Bool) (a : Act) (w : World), listed.size = ops.size → DownL ops listed → listed.getD m false = false → C w → wpAnyQ P .any ops' C Q1 fuel listed a → RunR P ops Q (Region.linearise.go .any ops fuel t listed []) a w := by
  intro fuel
  induction fuel with
  | zero =>
    intro t listed a w hs hd hu hc h
    have h0 := h.1
    rw [ready_like hsz ha] at h0
    exact absurd h0 (ready_some hs hback (by omega) hu)
  | succ fuel ih =>
    intro t listed a w hs hd hu hc h
    obtain ⟨_, h1⟩ := h
    rw [ready_like hsz ha] at h1
    have hne := ready_some hs hback (j := m) (by omega) hu
    simp only [Region.linearise.go]
    change RunR P ops Q (match (Region.ready .any ops listed)[t % (Region.ready .any ops listed).length]? with
      | some i => Region.linearise.go .any ops fuel (t / (Region.ready .any ops listed).length) (listed.setIfInBounds i true) [i]
      | none => [].reverse) a w
    cases hi : (Region.ready .any ops listed)[t % (Region.ready .any ops listed).length]? with
    | none =>
      have hpos : 0 < (Region.ready .any ops listed).length := List.length_pos_iff.2 hne
      have := Nat.mod_lt t hpos
      rw [List.getElem?_eq_getElem this] at hi
      cases hi
    | some i =>
      simp only []
      rw [linearise_go_acc, List.reverse_singleton, List.singleton_append]
      have hir : i ∈ Region.ready .any ops listed := List.mem_of_getElem? hi
      have hq := h1 i hir
      by_cases him : i = m
      · subst him
        obtain ⟨_, oi, hoi, hall⟩ := mem_ready.1 hir
        have hl : ∀ j, j < ops.size → (listed.setIfInBounds i true).getD j false = true := by
          intro j hj
          by_cases hji : j = i
          · subst hji
            have : j < listed.size := by omega
            simp [this]
          · refine getD_set_true (reach_listed hd (i + 1) i j (List.all_eq_true.1 hreach j (List.mem_range.2 (by omega))) (fun o ho e he hb => ?_))
            rw [hoi] at ho
            cases ho
            exact hall e he hb
        have hr0 := all_listed (ops := ops) (listed := listed.setIfInBounds i true) (by simpa using hs) hl
        have hgo : ∀ f t, Region.linearise.go .any ops f t (listed.setIfInBounds i true) [] = [] := by
          intro f t
          cases f with
          | zero => rfl
          | succ f =>
            simp only [Region.linearise.go]
            change (match (Region.ready .any ops (listed.setIfInBounds i true))[t % (Region.ready .any ops (listed.setIfInBounds i true)).length]? with
              | some k => Region.linearise.go .any ops f (t / (Region.ready .any ops (listed.setIfInBounds i true)).length) ((listed.setIfInBounds i true).setIfInBounds k true) [k]
              | none => [].reverse) = []
            rw [hr0]
            rfl
        rw [hgo]
        refine hlast a w ?_ hc
        unfold qOp at hq
        simp only [ho'] at hq
        rw [if_pos (by simp [Region.wanted, hgd])] at hq
        obtain ⟨v, _, hk⟩ := hq
        have hk' : wpAnyQ P .any ops' C Q1 fuel (listed.setIfInBounds i true) a := by simpa [hdst, Act.put] using hk
        have hr0' : Region.ready .any ops' (listed.setIfInBounds i true) = [] := by rw [ready_like hsz ha]; exact hr0
        cases fuel with
        | zero => exact hk'.2
        | succ f => exact hk'.1 hr0'
      · have hq2 : qOp P ops C i (wpAnyQ P .any ops' C Q1 fuel (listed.setIfInBounds i true)) a := by
          unfold qOp at hq ⊢
          rw [hsame i him, hy] at hq
          exact hq
        intro b k cs
        have hw : wpOp P ops (fun e _ _ => e = .normal) i (fun a' w' => C w' ∧ wpAnyQ P .any ops' C Q1 fuel (listed.setIfInBounds i true) a') a w :=
          wpOp_of_qOp hc (fun a' w' hc' hk => ⟨hc', hk⟩) hq2
        obtain ⟨a1, w1, ⟨hc1, hk1⟩, hsteps⟩ := steps_op (fun _ _ _ h => h) hw b k cs (Region.linearise.go .any ops fuel (t / (Region.ready .any ops listed).length) (listed.setIfInBounds i true) [])
        obtain ⟨e, a2, w2, q, r⟩ := ih (t / (Region.ready .any ops listed).length) (listed.setIfInBounds i true) a1 w1 (by simpa using hs) (down_set hd hir) (by rw [getD_set_ne false him]; exact hu) hc1 hk1 b k cs
        exact ⟨e, a2, w2, q, .of_steps hsteps r⟩

theorem wpQuiet_more {C : World → Prop} {Q1 : Act → Prop} {ops' : Array Oper} (hy : ∀ tmps, yielded ops' tmps = yielded ops tmps) (o' : Oper) (hop : o'.op = .move (.const undef)) (hdst : o'.dst = none) (hgd : o'.guard = none) :
    ∀ (l : List Oper) (a : Act), wpQuiet P ops C Q1 l a → wpQuiet P ops' C Q1 (l ++ [o']) a
  | [], a, h => by
    show if _ then _ else _
    rw [if_pos (by simp [Region.wanted, hgd])]
    refine ⟨undef, fun w hw => ?_, ?_⟩
    · unfold Oper.quietAt
      simp [execOp, hop, Act.eval, Oper.quietUpon]
    · simpa [hdst, Act.put, wpQuiet] using h
  | o :: l, a, h => by
    show if _ then _ else _
    rw [hy]
    have h' : if Region.wanted o (yielded ops a.tmps) then o.quiet P a C (wpQuiet P ops C Q1 l) else wpQuiet P ops C Q1 l (a.put o.dst undef) := h
    split
    · rename_i hw
      rw [if_pos hw] at h'
      exact Oper.quiet_mono (fun a h => wpQuiet_more hy o' hop hdst hgd l a h) h'
    · rename_i hw
      rw [if_neg hw] at h'
      exact wpQuiet_more hy o' hop hdst hgd l _ h'

/-- all but the last operation are quiet, in whatever order; the last one waits for all. -/
theorem wp_region_quiet_then {C : World → Prop} {id : Nat} {l : List Oper} (pre : List Oper) (o : Oper) (hl : l = pre ++ [o]) (hmx : P.follows .mixedOrders = true) (hdst : o.dst = none) (hgd : o.guard = none)
    (hB : Region.lexB .any (pre ++ [{ o with op := .move (.const undef) }]).toArray = true) (hback : backB l.toArray = true) (hreach : (List.range pre.length).all (fun i => reachB l.toArray (pre.length + 1) pre.length i) = true)
    (hC : C { w with drawn := w.drawn + 1 }) (h : wpQuiet P l.toArray C (fun a' => ∀ w', C w' → RunR P l.toArray Q [pre.length] a' w') pre a) : (Code.region id l.toArray true).wp P Q a w := by
  intro b k cs
  generalize ho' : ({ o with op := .move (.const undef) } : Oper) = o' at hB
  have hsz : (pre ++ [o']).toArray.size = l.toArray.size := by rw [hl]; simp
  have hget : ∀ i : Nat, i ≠ pre.length → (pre ++ [o']).toArray[i]? = l.toArray[i]? := by
    intro i hi
    rw [hl]
    by_cases h1 : i < pre.length
    · simp [List.getElem?_append_left h1]
    · have : pre.length + 1 ≤ i := by omega
      simp [this]
  have hgl : l.toArray[pre.length]? = some o := by rw [hl]; simp
  have hgl' : (pre ++ [o']).toArray[pre.length]? = some o' := by simp
  have ha : ∀ i : Nat, ((pre ++ [o']).toArray[i]?).map Oper.after = (l.toArray[i]?).map Oper.after := by
    intro i
    by_cases hi : i = pre.length
    · subst hi; rw [hgl, hgl', ← ho']; rfl
    · rw [hget i hi]
  have hy : ∀ tmps, yielded (pre ++ [o']).toArray tmps = yielded l.toArray tmps := by
    intro tmps
    funext g
    have : ((pre ++ [o']).toArray[g]?).bind Oper.dst = (l.toArray[g]?).bind Oper.dst := by
      by_cases hi : g = pre.length
      · subst hi; rw [hgl, hgl', ← ho']; rfl
      · rw [hget g hi]
    unfold yielded
    rw [this]
  have hq := wpQuiet_more (C := C) (Q1 := fun a' => ∀ w', C w' → RunR P l.toArray Q [pre.length] a' w') hy o' (by rw [← ho']) (by rw [← ho']; exact hdst) (by rw [← ho']; exact hgd) pre a h
  simp only [Region.lexB, Bool.and_eq_true] at hB
  have hany := wpAnyQ_lex (C := C) (md := .any) hB.1 (pre ++ [o']) 0 (Array.replicate (pre ++ [o']).toArray.size false) a (by simp) (by simpa using hB.2) hq
  have hrun := runR_any (P := P) (Q := Q) (ops := l.toArray) (ops' := (pre ++ [o']).toArray) (m := pre.length) (by rw [hl]; simp) hsz hget hgl' ha (by rw [← ho']; exact hdst) (by rw [← ho']; exact hgd) hy hback hreach (C := C) (Q1 := fun a' => ∀ w', C w' → RunR P l.toArray Q [pre.length] a' w') (fun a w h hc => h w hc)
    (pre ++ [o']).length (w.tape w.drawn (.order b.fn id)) (Array.replicate (pre ++ [o']).toArray.size false) a { w with drawn := w.drawn + 1 } (by rw [Array.size_replicate]; exact hsz)
    (fun i o ho hli => by simp [Array.getElem?_replicate] at hli; split at hli <;> simp at hli) (by simp) hC hany
  obtain ⟨e, a', w', q, r⟩ := hrun b k cs
  refine ⟨e, a', w', q, .of_steps (.one step_region_draw) ?_⟩
  have e2 : Region.schedule (P.follows .mixedOrders) l.toArray (w.tape w.drawn (.order b.fn id)) = Region.linearise.go .any l.toArray (pre ++ [o']).length (w.tape w.drawn (.order b.fn id)) (Array.replicate (pre ++ [o']).toArray.size false) [] := by
    rw [Region.schedule, hmx, Bool.true_or, if_pos rfl, Region.linearise, hl]
    simp
  rw [e2]
  exact r

/-- the same, the list given whole. -/
theorem wp_region_quiet_last {C : World → Prop} {id : Nat} (l : List Oper) (hne : l ≠ []) (hmx : P.follows .mixedOrders = true) (hdst : (l.getLast hne).dst = none) (hgd : (l.getLast hne).guard = none)
    (hB : Region.lexB .any (l.dropLast ++ [{ l.getLast hne with op := .move (.const undef) }]).toArray = true) (hback : backB l.toArray = true) (hreach : (List.range l.dropLast.length).all (fun i => reachB l.toArray (l.dropLast.length + 1) l.dropLast.length i) = true)
    (hC : C { w with drawn := w.drawn + 1 }) (h : wpQuiet P l.toArray C (fun a' => ∀ w', C w' → RunR P l.toArray Q [l.dropLast.length] a' w') l.dropLast a) : (Code.region id l.toArray true).wp P Q a w :=
  wp_region_quiet_then l.dropLast (l.getLast hne) (List.dropLast_concat_getLast hne).symm hmx hdst hgd hB hback hreach hC h
end
end Go.Proofs.Ytohagaelenhebaa.Pl
