/- Joined texts: CWr CWt CPb CWl CSm CCp CWk CKt CCt1 CMn CMb CMo CMp CMq1 CTm CEm CMw CMs1 CLmn. -/
import Derived.Test.YtoahljkifikbaaaGreatQn11
import Derived.Test.YtoahljkifikbaaaGreatQn8
import Derived.Test.YtoahljkifikbaaaGreatQn5
import Derived.Test.YtoahljkifikbaaaGreatQn12
import Derived.Test.YtoahljkifikbaaaGreatQn7
import Derived.Laws.MakeOwn
import Derived.BigQuiet
import Derived.Deep.QuietTactic
/- Contracts over lists that are read; what is appended is read. -/
namespace Go.Proofs.YtoahljkifikbaaaGreat
open Go.RowKit Pl
set_option linter.unusedVariables false

theorem same_below {w w' : World} (h : w' = w) : Below w.heap.size w w' := by subst h; exact Below.refl _ _
section
variable {w : World} {v : Value}
theorem ringOk_r (i : Int) (ms : List Int) (h : Hid (RI w v ms)) (hl : ms.length ≤ 1048576) : Calls Tryz.prog 52 #[.agg #[.int .i64 i, v]] w fun e w' => e = .returned (.bool (ringB i ms)) ∧ Below w.heap.size w w' := by
  obtain ⟨ao, cap, rfl, hx⟩ := h.out; exact ringOk_any i ao cap ms w hx hl
theorem spRingOk_r (i : Int) (ms : List Int) (h : Hid (RI w v ms)) (hl : ms.length ≤ 1048576) : Calls Tryz.prog 99 #[.agg #[.int .i64 i, v]] w fun e w' => e = .returned (.bool (ringB i ms)) ∧ Below w.heap.size w w' := by
  obtain ⟨ao, cap, rfl, hx⟩ := h.out; exact spRingOk_any i ao cap ms w hx hl
theorem within_b (n a b : Int) (w : World) : Calls Tryz.prog 39 #[.int .i64 n, .int .i64 a, .int .i64 b] w fun e w' => e = .returned (.bool (decide (a ≤ n ∧ n ≤ b))) ∧ Below w.heap.size w w' := (within_any n a b w).mono fun e w' ⟨x, y⟩ => ⟨x, same_below y⟩
theorem in_b (n a b : Int) (w : World) : Calls Tryz.prog 100 #[.int .i64 n, .int .i64 a, .int .i64 b] w fun e w' => e = .returned (.bool (decide (a ≤ n ∧ n ≤ b))) ∧ Below w.heap.size w w' := (in_any n a b w).mono fun e w' ⟨x, y⟩ => ⟨x, same_below y⟩
end

theorem wp_catR {P : Program} {w : World} {o : Oper} {a : Act} {K : Act → World → Prop} {Q : Exit → Act → World → Prop}
    (s x : Operand) (t : TypeId) (ho : o.op = .call { callee := .builtin .append, args := #[s, x], argTypes := #[t, t] })
    (ht : P.underlying t = some (.slice 3)) (hinfo : (P.info? 3).map (fun i => (i.zero, i.size, i.bytes)) = some (some (.int .i64 0), 1, 8))
    (B : Nat) (v : Value) (xs : List Int) (hs : a.eval s = v) (hown : OwnI w B v xs)
    (u : Value) (ys : List Int) (hx : a.eval x = u) (hu : RI w u ys) (hn : xs.length + ys.length < 4000000) (hB : B ≤ w.heap.size) (hv : v ≠ .slice none 0 0)
    (h : ∀ v' w', OwnI w' B v' (xs ++ ys) → w.grownBy w' v.ownBlock → K (a.put o.dst v') w') : o.wp P a w K Q := by
  obtain ⟨i0, hi, hz0, hz1, hz2⟩ := info_parts hinfo
  obtain ⟨ao, cap, rfl, hr⟩ := hu
  have hcat : ∀ (ad : Addr), ao = some ad → (∀ j u, (ys.map (Value.int .i64))[j]? = some u → w.cell? (ad.add j) = some u) → o.wp P a w K Q := by
    intro ad had hcell
    subst had
    refine wp_append_own w s x t ho B 3 i0 (.int .i64 0) 1 8 ht hi hz0 hz1 hz2 rfl (by decide) v xs.length (xs.map (Value.int .i64)) hs hown ad ys.length cap (ys.map (Value.int .i64)) hx (by simp) hcell ?_ (by unfold maxLen; omega) (by omega) hB ?_
    · intro u hu'
      obtain ⟨y, _, rfl⟩ := List.mem_map.1 hu'
      rfl
    · intro v' w' hown' hg _
      exact h v' w' (by simpa [OwnI] using hown') hg
  by_cases h0 : 0 < ys.length
  · obtain ⟨b, off, rfl, _, _⟩ := hr 0 h0
    refine hcat ⟨b, off, none⟩ rfl fun j u hj => ?_
    have hjl : j < ys.length := by have := (List.getElem?_eq_some_iff.1 hj).1; simpa using this
    obtain ⟨b', off', e, _, hc⟩ := hr j hjl
    simp at e
    obtain ⟨rfl, rfl⟩ := e
    rw [Addr.add_lit, hc]
    simp [hjl] at hj
    rw [hj]
  · have e : ys = [] := List.eq_nil_of_length_eq_zero (by omega)
    subst e
    cases ao with
    | some ad => exact hcat ad rfl fun j u hj => by simp at hj
    | none =>
      have hc0 := h v w (by rw [List.append_nil]; exact hown) (World.grownBy.refl _ _)
      rcases hown.2 with ⟨hv0, _⟩ | ⟨g, cp, cur, hvv, _⟩
      · exact absurd hv0 hv
      · have hs' : Sl w 3 1 B v xs.length (xs.map (Value.int .i64)) := Sl.ofOwn hown
        have hsrc : Src P i0.size t (.slice none 0 cap) 0 [] w := Src.ofNil _ ht cap
        subst hvv
        have hroom : xs.length + 0 ≤ cp := by
          rcases hs'.2 with ⟨h1, _⟩ | ⟨g', off', cap', cur', h1, _, _, hle, _⟩
          · cases h1
          · simp at h1; omega
        unfold Oper.wp execOp
        have hr := run_append_room_src (P := P) w t t o.type 3 i0 ht hi g 0 xs.length cp (.slice none 0 cap) 0 [] hsrc hroom (fun j hj => by simp at hj) (fun j hj => by simp at hj)
        simp only [ho, resolve, invoke, builtin, Sem.run_bind, Sem.run_pure, Result.andThen_ok, List.map_toArray, List.map_cons, List.map_nil, hs, hx, List.length_nil, hr]
        exact hc0
theorem wpList_catR {P : Program} {w : World} {ops : Array Oper} {rest : List Oper} {o : Oper} {a : Act} {Q : Exit → Act → World → Prop}
    (hgd : o.guard = none) (s x : Operand) (t : TypeId) (ho : o.op = .call { callee := .builtin .append, args := #[s, x], argTypes := #[t, t] })
    (ht : P.underlying t = some (.slice 3)) (hinfo : (P.info? 3).map (fun i => (i.zero, i.size, i.bytes)) = some (some (.int .i64 0), 1, 8))
    (B : Nat) (v : Value) (xs : List Int) (hs : a.eval s = v) (hown : OwnI w B v xs)
    (u : Value) (ys : List Int) (hx : a.eval x = u) (hu : RI w u ys) (hn : xs.length + ys.length < 4000000) (hB : B ≤ w.heap.size) (hv : v ≠ .slice none 0 0)
    (h : ∀ v' w', OwnI w' B v' (xs ++ ys) → w.grownBy w' v.ownBlock → wpList P ops Q rest (a.put o.dst v') w') :
    wpList P ops Q (o :: rest) a w :=
  wpList_plain hgd fun _ hK => wp_catR s x t ho ht hinfo B v xs hs hown u ys hx hu hn hB hv fun v' w' h1 h2 => hK _ _ (h v' w' h1 h2)
end Go.Proofs.YtoahljkifikbaaaGreat


/- What is appended is read: texts and items. -/
namespace Go.Proofs.YtoahljkifikbaaaGreat
open Go.RowKit Pl
set_option linter.unusedVariables false

/-- a walk stops where a slice is built, a struct is stored, a call is made. -/
theorem wpList_haltB {P : Program} {w : World} {ops : Array Oper} {rest : List Oper} {o : Oper} {a : Act} {Q : Exit → Act → World → Prop} (t n : Nat) (ps : Array (Nat × Operand)) (ho : o.op = .buildSlice t n ps) (h : Stp (wpList P ops Q (o :: rest) a w)) : wpList P ops Q (o :: rest) a w := h.out
end Go.Proofs.YtoahljkifikbaaaGreat


/- One element put behind a slice of the call's own, and which block it lies in then. No function of the program is named here. -/
namespace Go.Proofs.YtoahljkifikbaaaGreat
open Go.RowKit Pl
set_option linter.unusedVariables false

section
variable {P : Program} {w : World}
end

section
variable {P : Program} {w : World} {ops : Array Oper} {rest : List Oper} {o : Oper} {a : Act} {Q : Exit → Act → World → Prop} {K : Act → World → Prop}
end
end Go.Proofs.YtoahljkifikbaaaGreat


/- Lists of structs of any size, their cells row by row: read, put behind, joined, set. No function of the program is named here. -/
namespace Go.Proofs.YtoahljkifikbaaaGreat
open Go.RowKit Pl
set_option linter.unusedVariables false

/-- the slice v holds these rows, each of so many cells. -/
def SlN (w : World) (T size B : Nat) (v : Value) (rs : List (List Value)) : Prop := Sl w T size B v rs.length rs.flatten ∧ ∀ r ∈ rs, r.length = size ∧ ∀ u ∈ r, u.oneCell' = true

theorem flat_len {s : Nat} : ∀ {rs : List (List Value)}, (∀ r ∈ rs, r.length = s) → rs.flatten.length = rs.length * s := by
  intro rs
  induction rs with
  | nil => intro _; simp
  | cons r rs ih =>
    intro h
    rw [List.flatten_cons, List.length_append, List.length_cons, ih fun r hr => h r (List.mem_cons_of_mem _ hr), h r (List.mem_cons_self ..), Nat.add_mul]
    omega
theorem flat_drop {s : Nat} : ∀ {rs : List (List Value)} (k : Nat), (∀ r ∈ rs, r.length = s) → rs.flatten.drop (k * s) = (rs.drop k).flatten := by
  intro rs
  induction rs with
  | nil => intro k _; simp
  | cons r rs ih =>
    intro k h
    cases k with
    | zero => simp
    | succ k =>
      have hr := h r (List.mem_cons_self ..)
      rw [List.flatten_cons, List.drop_succ_cons, ← ih k fun r hr => h r (List.mem_cons_of_mem _ hr), Nat.add_mul, List.drop_append, List.drop_eq_nil_of_le (by omega), List.nil_append]
      congr 1; omega
theorem flat_take {s : Nat} : ∀ {rs : List (List Value)} (k : Nat), (∀ r ∈ rs, r.length = s) → rs.flatten.take (k * s) = (rs.take k).flatten := by
  intro rs
  induction rs with
  | nil => intro k _; simp
  | cons r rs ih =>
    intro k h
    cases k with
    | zero => simp
    | succ k =>
      have hr := h r (List.mem_cons_self ..)
      rw [List.flatten_cons, List.take_succ_cons, List.flatten_cons, ← ih k fun r hr => h r (List.mem_cons_of_mem _ hr), Nat.add_mul, List.take_append, List.take_of_length_le (by omega)]
      congr 2; omega
theorem flat_row {s : Nat} {rs : List (List Value)} (h : ∀ r ∈ rs, r.length = s) {i : Nat} (hi : i < rs.length) : (rs.flatten.drop (i * s)).take s = rs[i] := by
  rw [flat_drop i h, List.drop_eq_getElem_cons hi, List.flatten_cons, List.take_append, List.take_of_length_le (by rw [h _ (List.getElem_mem hi)]; exact Nat.le_refl _), h _ (List.getElem_mem hi)]
  simp
theorem flat_set {s : Nat} {rs : List (List Value)} (h : ∀ r ∈ rs, r.length = s) {i : Nat} (hi : i < rs.length) (r : List Value) (hr : r.length = s) : rs.flatten.take (i * s) ++ r ++ rs.flatten.drop (i * s + r.length) = (rs.set i r).flatten := by
  rw [hr, show i * s + s = (i + 1) * s by rw [Nat.add_mul]; omega, flat_take i h, flat_drop (i + 1) h, List.set_eq_take_append_cons_drop, if_pos hi, List.flatten_append, List.flatten_cons]
  simp

section
variable {w w' : World} {T size B : Nat} {v : Value} {rs : List (List Value)}
theorem SlN.lens (h : SlN w T size B v rs) : ∀ r ∈ rs, r.length = size := fun r hr => (h.2 r hr).1
theorem SlN.ones (h : SlN w T size B v rs) : ∀ u ∈ rs.flatten, u.oneCell' = true := fun u hu => by
  obtain ⟨r, hr, hu⟩ := List.mem_flatten.1 hu
  exact (h.2 r hr).2 u hu
theorem SlN.form (h : SlN w T size B v rs) : ∃ s : Sv, v = .slice s.a s.n s.c ∧ s.n = rs.length := by
  obtain ⟨a, c, e⟩ := h.1.form
  exact ⟨⟨a, rs.length, c⟩, e, rfl⟩
theorem SlN.lt (h : SlN w T size B v rs) : ∀ k, v.ownBlock = some k → B ≤ k ∧ k < w.heap.size := h.1.lt
theorem SlN.keep (h : SlN w T size B v rs) (hk : ∀ k, v.ownBlock = some k → k < w.heap.size → w'.heap[k]? = w.heap[k]?) : SlN w' T size B v rs := ⟨h.1.keep hk, h.2⟩
theorem SlN.below (h : SlN w T size B v rs) (hb : Below w.heap.size w w') : SlN w' T size B v rs := ⟨h.1.below hb, h.2⟩
theorem SlN.down {B' : Nat} (h : SlN w T size B v rs) (hB : B' ≤ B) : SlN w T size B' v rs := ⟨h.1.down hB, h.2⟩
theorem SlN.kept {row : Option Nat} (h : SlN w T size B v rs) (hg : w.grownBy w' row) (hne : ∀ k, v.ownBlock = some k → some k ≠ row) : SlN w' T size B v rs := ⟨h.1.kept hg hne, h.2⟩
theorem SlN.nil (w : World) (T size B : Nat) : SlN w T size B (.slice none 0 0) [] := ⟨Sl.zero w T size B, fun r hr => by cases hr⟩
theorem SlN.made (w : World) (T size B : Nat) (hb : B ≤ w.heap.size) : SlN (w.alloc (.cells #[] T)) T size B (.slice (some ⟨w.heap.size, 0, none⟩) 0 0) [] := ⟨Sl.made w T size B hb, fun r hr => by cases hr⟩
theorem SlN.one (w : World) (T size B : Nat) (r : List Value) (hr : r.length = size) (h1 : r.all (·.oneCell') = true) (hb : B ≤ w.heap.size) : SlN (w.alloc (.cells r.toArray T)) T size B (.slice (some ⟨w.heap.size, 0, none⟩) 1 1) [r] :=
  ⟨⟨by simp [hr], .inr ⟨w.heap.size, 0, 1, r.toArray, rfl, hb, heap_alloc_new w _, Nat.le_refl _, by unfold maxLen; omega, by simp [hr], fun j hj => by simp⟩⟩, fun x hx => by simp at hx; subst hx; exact ⟨hr, List.all_eq_true.1 h1⟩⟩
/-- the block that it lies in has elements of this type. -/
theorem SlN.blk (h : SlN w T size B v rs) {k : Nat} (hk : v.ownBlock = some k) : ∃ cs, w.heap[k]? = some (.cells cs T (0, 0)) := by
  rcases h.1.2 with ⟨rfl, _⟩ | ⟨g, off, cap, cur, rfl, _, hg, _⟩
  · cases hk
  · cases hk; exact ⟨_, hg⟩
theorem SlN.box_ne {g T' : Nat} {cs : List Value} (h : SlN w T size B v rs) (hB : Bx w g T' cs) (hT : T' ≠ T) : ∀ k, v.ownBlock = some k → k ≠ g := fun k hk he => by
  subst he
  obtain ⟨c, hc⟩ := h.blk hk
  unfold Bx at hB
  rw [hc] at hB
  simp at hB
  exact hT hB.2.symm
theorem SlN.keepb {g T' : Nat} {cs : List Value} (h : SlN w T size B v rs) (hB : Bx w g T' cs) (hk : KeepBut g w w') (hT : T' ≠ T) : SlN w' T size B v rs :=
  h.keep fun k hb hlt => hk.block k hlt (h.box_ne hB hT k hb)
/-- a row, as it lies there. -/
theorem SlN.read (h : SlN w T size B v rs) {i : Nat} (hi : i < rs.length) :
    ∃ g off cap, v = .slice (some ⟨g, off, none⟩) rs.length cap ∧ B ≤ g ∧ g < w.heap.size ∧ w.rangeAt g (off + i * size) rs[i] := by
  obtain ⟨g, off, cap, hv, hb, hlt, hc, _⟩ := h.1.read (by omega)
  refine ⟨g, off, cap, hv, hb, hlt, fun j u hu => ?_⟩
  have hj : j < size := by rw [← h.lens _ (List.getElem_mem hi)]; exact (List.getElem?_eq_some_iff.1 hu).1
  have h2 := flat_row h.lens hi
  rw [← h2, List.getElem?_take, if_pos hj, List.getElem?_drop] at hu
  have := hc _ u hu
  rw [← Nat.add_assoc] at this
  exact this
/-- as a source of what is appended. -/
theorem SlN.src {P : Program} {tx e' : TypeId} (h : SlN w T size B v rs) (hk : P.underlying tx = some (.slice e')) : Src P size tx v rs.length rs.flatten w := h.1.src hk h.ones
theorem src_row {P : Program} (w : World) (t : TypeId) (ht : P.underlying t = some (.slice T)) (r : List Value) (hr : r.length = size) (h1 : ∀ u ∈ r, u.oneCell' = true) : Src P size t (.slice (some ⟨w.heap.size, 0, none⟩) 1 1) 1 r (w.alloc (.cells r.toArray T)) := by
  refine Src.ofSlice _ ht ⟨w.heap.size, 0, none⟩ 1 1 r (by omega) (fun j u hu => ?_) h1
  rw [Addr.add_lit, Nat.zero_add, cell_of_row _ _ _ _ T (0, 0) (heap_alloc_new w _)]
  simpa using hu
theorem SlN.snoc {P : Program} {w1 : World} {v' : Value} {r : List Value} (h : SlN w T size B v rs) (hs : Sl w1 T size B v' (rs.length + 1) (rs.flatten ++ r)) (hr : r.length = size) (h1 : ∀ u ∈ r, u.oneCell' = true) : SlN w1 T size B v' (rs ++ [r]) := by
  refine ⟨?_, fun x hx => ?_⟩
  · rw [List.length_append, List.flatten_append]
    simpa using hs
  · rcases List.mem_append.1 hx with hx | hx
    · exact h.2 x hx
    · simp at hx; subst hx; exact ⟨hr, h1⟩
end

section
variable {P : Program} {w : World} {ops : Array Oper} {rest : List Oper} {o : Oper} {a : Act} {Q : Exit → Act → World → Prop} {K : Act → World → Prop}
/-- one element put behind. -/
theorem wpList_pushN {T size : Nat} (hgd : o.guard = none) (s x : Operand) (t : TypeId) (ho : o.op = .call { callee := .builtin .append, args := #[s, x], argTypes := #[t, t] })
    (z : Value) (bytes : Nat) (ht : P.underlying t = some (.slice T)) (hinfo : (P.info? T).map (fun i => (i.zero, i.size, i.bytes)) = some (some z, size, bytes)) (hzs : z.cells.size = size) (hby : bytes ≤ 400)
    (B : Nat) (v : Value) (rs : List (List Value)) (hs : a.eval s = v) (hown : SlN w T size B v rs) (r : List Value) (hr : r.length = size) (h1 : r.all (·.oneCell') = true)
    (hx : a.eval x = .slice (some ⟨w.heap.size, 0, none⟩) 1 1) (hn : rs.length ≤ 1048576) (hB : B ≤ w.heap.size)
    (h : ∀ v' w', SlN w' T size B v' (rs ++ [r]) → w.grownBy w' v.ownBlock → Below B w w' → (v'.ownBlock = v.ownBlock ∨ v'.ownBlock = some (w.heap.size + 1)) → wpList P ops Q rest (a.put o.dst v') w') :
    wpList P ops Q (o :: rest) a (w.alloc (.cells r.toArray T)) := by
  have h1' : ∀ u ∈ r, u.oneCell' = true := List.all_eq_true.1 h1
  refine wpList_appendS hgd s x t ho z bytes ht hinfo hzs hs (Sl.alloc hown.1 _) _ 1 r hx (src_row w t ht r hr h1') (by unfold maxLen; omega) (Nat.le_trans (Nat.mul_le_mul (by omega : rs.length + 1 ≤ 1048577) hby) (by decide)) (by simp; omega) ?_
  intro v' w' h3 h2 h4
  have hg : w.grownBy w' v.ownBlock := ⟨h2.os, h2.tape, h2.output, Nat.le_trans (by simp) h2.size, fun k hk hne => (h2.block k (by simp; omega) hne).trans (heap_alloc_old w _ hk)⟩
  refine h v' w' (hown.snoc (P := P) h3 hr h1') hg ?_ ?_
  · exact ((Below.refl B w).alloc hB _).grown h2 (by simp; omega) (fun k hk => (Sl.lt hown.1 k hk).1)
  · simpa using h4
/-- a row is loaded. -/
theorem wpList_ldN (hw : Region.wanted o (yielded ops a.tmps) = true) (ty : TypeId) (x : Operand) (ho : o.op = .load ty x) (g off : Nat) (hx : a.eval x = .pointer (some ⟨g, off, none⟩)) (cs : List Value) (hr : w.rangeAt g off cs)
    (d : TypeDesc) (hu : P.underlying ty = some d) (hd : d.isRow = true) (hi : (P.info? ty).map (·.size) = some cs.length)
    (h : wpList P ops Q rest (a.put o.dst (.agg cs.toArray)) w) : wpList P ops Q (o :: rest) a w :=
  wpList_step fun K hK => by
    rw [if_pos hw]
    exact wp_load_mid ty x ho g off hx cs d hr hu hd hi (hK _ _ h)
/-- a row is set. -/
theorem SlN.stored {T size B : Nat} {g off cap i : Nat} {rs : List (List Value)} (h : SlN w T size B (.slice (some ⟨g, off, none⟩) rs.length cap) rs) (hi : i < rs.length) (r : List Value) (hr : r.length = size) (h1 : ∀ u ∈ r, u.oneCell' = true) :
    w.there g (off + i * size) r.length ∧ SlN (w.setCells g (off + i * size) r) T size B (.slice (some ⟨g, off, none⟩) rs.length cap) (rs.set i r) ∧ TurnAt g w (w.setCells g (off + i * size) r) := by
  rcases h.1.2 with ⟨hv, _⟩ | ⟨g', off', cap', cur, hv, hb, hg, hc, hm, hs, ht⟩
  · simp at hv
  simp at hv
  obtain ⟨⟨rfl, rfl⟩, rfl⟩ := hv
  have hle : i * size + size ≤ rs.length * size := by
    have : (i + 1) * size ≤ rs.length * size := Nat.mul_le_mul_right _ hi
    rw [Nat.add_mul] at this; omega
  have hcs : rs.length * size ≤ cap * size := Nat.mul_le_mul_right _ hc
  have hin : off + i * size + r.length ≤ cur.size := by omega
  refine ⟨fun j hj => ⟨?_, frozen_of_row w g _ _ T hg⟩, ⟨?_, fun x hx => ?_⟩, setCells_turn r w g _⟩
  · rw [cell_of_row w g _ _ T (0, 0) hg, Array.getElem?_eq_getElem (by omega)]; rfl
  · obtain ⟨cur', q1, q2, q3, q4⟩ := setCells_heap r w g (off + i * size) cur T hg hin
    have hbx : Bx w g T cur.toList := by unfold Bx; simpa using hg
    have hbx2 := setCells_list r w g (off + i * size) T cur.toList hbx (by simpa using hin)
    have he : cur' = (cur.toList.take (off + i * size) ++ r ++ cur.toList.drop (off + i * size + r.length)).toArray := by
      unfold Bx at hbx2
      rw [q1] at hbx2
      simpa using hbx2
    have hfl : (rs.set i r).flatten = rs.flatten.take (i * size) ++ r ++ rs.flatten.drop (i * size + r.length) := (flat_set h.lens hi r hr).symm
    refine ⟨by rw [flat_len (s := size)]; intro x hx; rcases List.mem_or_eq_of_mem_set hx with hx | rfl; exact h.lens x hx; exact hr, .inr ⟨g, off, cap, cur', by simp, hb, q1, by simpa using hc, hm, by omega, fun j hj => ?_⟩⟩
    rw [List.length_set] at hj
    have hfr : rs.flatten.length = rs.length * size := flat_len h.lens
    by_cases hj1 : j < i * size
    · rw [q3 _ (by omega), ht j hj, hfl, List.append_assoc, List.getElem?_append_left (by rw [List.length_take]; omega), List.getElem?_take, if_pos hj1]
    · by_cases hj2 : j < i * size + r.length
      · have h5 := q4 (j - i * size) (by omega)
        rw [show off + i * size + (j - i * size) = off + j by omega] at h5
        rw [h5, hfl, List.append_assoc, List.getElem?_append_right (by rw [List.length_take]; omega), List.getElem?_append_left (by rw [List.length_take]; omega), List.length_take]
        congr 1; omega
      · have h6 : cur'[off + j]? = cur[off + j]? := by
          rw [he]
          simp only [List.getElem?_toArray]
          rw [List.getElem?_append_right (by simp [List.length_take]; omega), List.getElem?_drop, ← Array.getElem?_toList]
          congr 1
          simp [List.length_take]; omega
        rw [h6, ht j hj, hfl, List.append_assoc, List.getElem?_append_right (by rw [List.length_take]; omega), List.getElem?_append_right (by rw [List.length_take]; omega), List.getElem?_drop, List.length_take]
        congr 1; omega
  · rcases List.mem_or_eq_of_mem_set hx with hx | rfl
    · exact h.2 x hx
    · exact ⟨hr, h1⟩
end
end Go.Proofs.YtoahljkifikbaaaGreat


/- Members measured. -/
namespace Go.Proofs.YtoahljkifikbaaaGreat
open Go.RowKit Pl
set_option linter.unusedVariables false
set_option linter.unusedSimpArgs false

/-- what is left of a budget, or nothing. -/
def Left (L n : Nat) (e : Ending) : Prop := e = .returned (.int .i64 (-1)) ∨ ∃ z : Nat, e = .returned (.int .i64 z) ∧ z + n = L

theorem RI.len {w : World} {s : Sv} {xs : List Int} (h : RI w s.v xs) : s.n = xs.length := by
  obtain ⟨ao, cap, h1, _⟩ := h; unfold Sv.v at h1; simp at h1; exact h1.2.1
theorem RT.len {w : World} {s : Sv} {xs : List ByteArray} (h : RT w s.v xs) : s.n = xs.length := by
  obtain ⟨ao, cap, h1, _⟩ := h; unfold Sv.v at h1; simp at h1; exact h1.2.1
theorem RIt.len {w : World} {s : Sv} {xs : List It} (h : RIt w s.v xs) : s.n = xs.length := by
  obtain ⟨ao, cap, h1, _⟩ := h; unfold Sv.v at h1; simp at h1; exact h1.2.1
/-- a member's lists are no longer than can be. -/
structure MtL (m : Mt) : Prop where
  ms : m.ms.length ≤ 9223372036854775807
  its : m.its.length ≤ 9223372036854775807
  lv : m.lv.length ≤ 9223372036854775807
  tx : m.tx.length ≤ 9223372036854775807
  ws : m.la.ws.length ≤ 9223372036854775807
  it : ∀ x ∈ m.its, x.2.2.2.size ≤ 9223372036854775807
  te : ∀ x ∈ m.tx, x.size ≤ 9223372036854775807
/-- what is left when a member has been measured. -/
def LeftM (m : Mt) (e : Ending) : Prop := e = .returned (.int .i64 (-1)) ∨ ∃ z : Nat, e = .returned (.int .i64 z) ∧ MtS m ∧ z ≤ 1048576

end Go.Proofs.YtoahljkifikbaaaGreat


/- Members copied: the walk over the specification's l10Copy. Written by gen_cp.py. -/
namespace Go.Proofs.YtoahljkifikbaaaGreat
open Go.RowKit Pl
set_option linter.unusedVariables false
set_option linter.unusedSimpArgs false

/-- a member's lists lie there, whoever made them. -/
structure MtP (w : World) (m : Mt) (v : Mv) : Prop where
  ms : OwnI w 0 v.ms.v m.ms
  its : SlI w 0 v.its.v m.its
  lv : OwnI w 0 v.lv.v m.lv
  tx : OwnS w 0 v.tx.v m.tx
  ws : OwnI w 0 v.ws.v m.la.ws
theorem MtO.p {w : World} {B : Nat} {m : Mt} {v : Mv} (h : MtO w B m v) : MtP w m v := ⟨h.ms.down (Nat.zero_le _), h.its.down (Nat.zero_le _), h.lv.down (Nat.zero_le _), h.tx.down (Nat.zero_le _), h.ws.down (Nat.zero_le _)⟩
theorem MtP.r {w : World} {m : Mt} {v : Mv} (h : MtP w m v) : MtR w m v := ⟨h.ms.ri, h.its.rit, h.lv.ri, h.tx.rt, h.ws.ri⟩
theorem MtP.keep {w w' : World} {m : Mt} {v : Mv} (h : MtP w m v) (hk : ∀ k, v.own k → k < w.heap.size → w'.heap[k]? = w.heap[k]?) : MtP w' m v :=
  ⟨h.ms.keep fun k a b => hk k (.inl a) b, h.its.keep fun k a b => hk k (.inr (.inl a)) b, h.lv.keep fun k a b => hk k (.inr (.inr (.inl a))) b, h.tx.keep' fun k a b => hk k (.inr (.inr (.inr (.inl a)))) b, h.ws.keep fun k a b => hk k (.inr (.inr (.inr (.inr a)))) b⟩
theorem MtP.later {w w' : World} {m : Mt} {v : Mv} (h : MtP w m v) (hb : Below w.heap.size w w') : MtP w' m v := h.keep fun k _ hk => hb.block k hk
theorem Pl.OwnI.sv {w : World} {B : Nat} {v : Value} {xs : List Int} (h : OwnI w B v xs) : ∃ s : Sv, v = .slice s.a s.n s.c := by obtain ⟨a, c, h1⟩ := h.form; exact ⟨⟨a, xs.length, c⟩, h1⟩
theorem Pl.OwnS.sv {w : World} {B : Nat} {v : Value} {xs : List ByteArray} (h : OwnS w B v xs) : ∃ s : Sv, v = .slice s.a s.n s.c := by obtain ⟨a, c, h1⟩ := h.form; exact ⟨⟨a, xs.length, c⟩, h1⟩
theorem SlI.sv {w : World} {B : Nat} {v : Value} {xs : List It} (h : SlI w B v xs) : ∃ s : Sv, v = .slice s.a s.n s.c := by obtain ⟨a, c, h1⟩ := Sl.form h; exact ⟨⟨a, xs.length, c⟩, h1⟩
theorem copyTok_s (c r q a b : Int) (s : Sv) (ws : List Int) (w : World) (h : Hid (OwnI w 0 s.v ws)) (hl : ws.length ≤ 1048576) :
    Calls Tryz.prog 87 #[.agg #[.int .i64 c, .int .i64 r, .int .i64 q, .int .i64 a, .int .i64 b, .slice s.a s.n s.c]] w fun e w' => ∃ u : Sv, e = .returned (.agg #[.int .i64 c, .int .i64 r, .int .i64 q, .int .i64 a, .int .i64 b, .slice u.a u.n u.c]) ∧ OwnI w' w.heap.size u.v ws ∧ Below w.heap.size w w' :=
  (copyTok c r q a b s.v ws 0 w h hl).mono fun e w' ⟨v, x, y, z⟩ => by obtain ⟨u, rfl⟩ := y.sv; exact ⟨u, x, y, z⟩

end Go.Proofs.YtoahljkifikbaaaGreat


/- A ring at work, in plain words, and where it lies. -/
namespace Go.Proofs.YtoahljkifikbaaaGreat
open Go.RowKit Pl
set_option linter.unusedVariables false

/-- what is on the way. -/
structure Fl where
  to : Int
  tk : Bool
  t : Tok
  x : It
/-- cells of a member, of what is on the way, of a list of lists. -/
def mcel (e : Mt × Mv) : List Value := [.int .i64 e.1.id, .int .i64 e.1.rid, .slice e.2.ms.a e.2.ms.n e.2.ms.c, .slice e.2.its.a e.2.its.n e.2.its.c, .slice e.2.lv.a e.2.lv.n e.2.lv.c, .slice e.2.tx.a e.2.tx.n e.2.tx.c, .int .i64 e.1.rd, .int .i64 e.1.se, .int .i64 e.1.li, .int .i64 e.1.he, .int .i64 e.1.la.c, .int .i64 e.1.la.r, .int .i64 e.1.la.q, .int .i64 e.1.la.a, .int .i64 e.1.la.b, .slice e.2.ws.a e.2.ws.n e.2.ws.c]
def fcel (e : Fl × Sv) : List Value := [.int .i64 e.1.to, .bool e.1.tk, .int .i64 e.1.t.c, .int .i64 e.1.t.r, .int .i64 e.1.t.q, .int .i64 e.1.t.a, .int .i64 e.1.t.b, .slice e.2.a e.2.n e.2.c, .int .i64 e.1.x.1, .int .i64 e.1.x.2.1, .int .i64 e.1.x.2.2.1, .string e.1.x.2.2.2]
def hcel (e : List It × Sv) : List Value := [.slice e.2.a e.2.n e.2.c]
/-- lists of members, of what is on the way, of lists of items, that lie there. -/
def MsP (w : World) (B : Nat) (v : Value) (es : List (Mt × Mv)) : Prop := SlN w 51 16 B v (es.map mcel) ∧ ∀ e ∈ es, MtP w e.1 e.2
def HsP (w : World) (B : Nat) (v : Value) (es : List (List It × Sv)) : Prop := SlN w 46 1 B v (es.map hcel) ∧ ∀ e ∈ es, SlI w 0 e.2.v e.1
/-- a ring at work: its ring, its members, what is on the way, what was heard and said, and the slices. -/
structure Wv where
  rid : Int
  ms : List Int
  mv : Sv
  ma : List (Mt × Mv)
  mav : Sv
  fl : List (Fl × Sv)
  flv : Sv
  he : List (List It × Sv)
  hev : Sv
  sa : List It
  sav : Sv
def Wv.cells (k : Wv) : List Value := [.int .i64 k.rid, .slice k.mv.a k.mv.n k.mv.c, .slice k.mav.a k.mav.n k.mav.c, .slice k.flv.a k.flv.n k.flv.c, .slice k.hev.a k.hev.n k.hev.c, .slice k.sav.a k.sav.n k.sav.c]
section
variable {w w' : World} {B : Nat} {v : Value}
/-- lists stay where a box of another type alone may have turned. -/
theorem MtP.keepb {m : Mt} {u : Mv} {g T : Nat} {cs : List Value} (h : MtP w m u) (hB : Bx w g T cs) (hk : KeepBut g w w') (h3 : T ≠ 3) (h9 : T ≠ 9) (hi : T ≠ 39) : MtP w' m u :=
  ⟨h.ms.keepb hB hk h3, h.its.keepb hB hk hi, h.lv.keepb hB hk h3, h.tx.keepb hB hk h9, h.ws.keepb hB hk h3⟩
theorem MsP.below {es : List (Mt × Mv)} (h : MsP w B v es) (hb : Below w.heap.size w w') : MsP w' B v es := ⟨h.1.below hb, fun e he => (h.2 e he).later hb⟩
theorem HsP.below {es : List (List It × Sv)} (h : HsP w B v es) (hb : Below w.heap.size w w') : HsP w' B v es := ⟨h.1.below hb, fun e he => (h.2 e he).below hb⟩
theorem MsP.down {B' : Nat} {es : List (Mt × Mv)} (h : MsP w B v es) (hB : B' ≤ B) : MsP w B' v es := ⟨h.1.down hB, h.2⟩
theorem HsP.down {B' : Nat} {es : List (List It × Sv)} (h : HsP w B v es) (hB : B' ≤ B) : HsP w B' v es := ⟨h.1.down hB, h.2⟩
end
end Go.Proofs.YtoahljkifikbaaaGreat


/- Blocks of other types stay. -/
namespace Go.Proofs.YtoahljkifikbaaaGreat
open Go.RowKit Pl
set_option linter.unusedVariables false

/-- blocks whose elements are of none of these types stay as they are. -/
structure KeepTy (S : Nat → Prop) (w w' : World) : Prop where
  os : w'.os = w.os
  tape : w'.tape = w.tape
  output : w'.output = w.output
  size : w.heap.size ≤ w'.heap.size
  block : ∀ k, k < w.heap.size → (∀ cs T z, w.heap[k]? = some (.cells cs T z) → ¬ S T) → w'.heap[k]? = w.heap[k]?
section
variable {S : Nat → Prop} {w w' w'' : World}
theorem KeepTy.refl (S : Nat → Prop) (w : World) : KeepTy S w w := ⟨rfl, rfl, rfl, Nat.le_refl _, fun _ _ _ => rfl⟩
theorem KeepTy.trans (h : KeepTy S w w') (k : KeepTy S w' w'') : KeepTy S w w'' :=
  ⟨k.os.trans h.os, k.tape.trans h.tape, k.output.trans h.output, Nat.le_trans h.size k.size, fun b hb ht => by
    have h1 := h.block b hb ht
    exact (k.block b (Nat.lt_of_lt_of_le hb h.size) (fun cs T z hc => ht cs T z (h1 ▸ hc))).trans h1⟩
end
end Go.Proofs.YtoahljkifikbaaaGreat


/- Texts copied: the walk over copyOfTexts. -/
namespace Go.Proofs.YtoahljkifikbaaaGreat
open Go.RowKit Pl
set_option linter.unusedVariables false

set_option maxRecDepth 100000 in
set_option maxHeartbeats 1000000 in
theorem copyTexts_any (ao : Option Addr) (cap : Nat) (ts : List ByteArray) (w : World) (hx : Hid (TextsAt w ao ts)) (hl : ts.length ≤ 1048576) (hs : Hid (∀ x ∈ ts, x.size ≤ 1048576)) :
    Calls Tryz.prog 193 #[.slice ao ts.length cap] w fun e w' => ∃ v, e = .returned v ∧ OwnS w' w.heap.size v ts ∧ Below w.heap.size w w' := by
  obtain ⟨i0, hi, hz0, hz1, hz2⟩ := info_parts Tryz.info9
  obtain ⟨W, hmk, own, hgr⟩ := run_make_own (P := Tryz.prog) w w.heap.size 47 9 i0 _ 1 Tryz.underlying47 hi hz0 hz1 .i64 .i64 ts.length (by rw [hz2]; omega) (by unfold maxLen; omega) (Nat.le_refl _)
  have S0 : Hid (OwnS W w.heap.size (.slice (some ⟨w.heap.size, 0, none⟩) 0 ts.length) []) := own
  have B0 : Hid (Below w.heap.size w W) := grown_below hgr
  clear own hgr hi hz0 hz1 hz2
  go_enter Tryz.func193, Tryz.ntmps193
  go_wp2
  go_loopw [3, 11] (fun v i wr => ∃ (k : Nat), k ≤ ts.length ∧ i = .int .i64 k ∧ Hid (OwnS wr w.heap.size v (ts.take k)) ∧ Hid (Below w.heap.size w wr)) (fun _ i _ => ts.length - (intOf i).toNat)
  case atStart => exact ⟨0, Nat.zero_le _, rfl, S0, B0⟩
  case round =>
    clear S0 B0 hmk
    obtain ⟨k, hk, rfl, hS, hb⟩ := hrel
    by_cases hlt : k < ts.length
    · obtain ⟨b, off, rfl, hbb, h0⟩ := hx.out.stays hb.out k hlt
      have hsz := hs.out _ (List.getElem_mem hlt)
      have HP : Hid (∃ x : ByteArray, x = ts[k]) := ⟨_, rfl⟩
      obtain ⟨tx, hp⟩ := HP.out
      rw [← hp] at h0 hsz
      have HQ : Hid (tx = ts[k]) := hp
      clear hp HP
      go_wp2_with fail
      clear h0
      refine (clone_any tx _ hsz).mono ?_
      rintro e w1 ⟨rfl, hb1⟩
      have S1 : OwnS w1 w.heap.size u3 (ts.take k) := ownS_later hS.out hb1
      have B1 : Below w.heap.size w w1 := hb.out.trans (hb1.mono hb.out.size)
      have z1 : w.heap.size ≤ w1.heap.size := B1.size
      have hlk : (ts.take k).length < 4000000 := by rw [List.length_take]; omega
      clear hb1 hS
      go_wp2_with (at_builtin; refine wpList_pushS rfl _ _ 47 rfl Tryz.underlying47 Tryz.info9 w.heap.size u3 (ts.take k) rfl S1 tx rfl hlk z1 ?_; intro v2 w2 S2 b2)
      have S2 : Hid (OwnS w2 w.heap.size v2 (ts.take (k + 1))) := by
        rw [List.take_succ_eq_append_getElem hlt, ← HQ.out]
        exact S2
      have B2 : Hid (Below w.heap.size w w2) := B1.trans b2
      go_roundw
      case rel => exact ⟨k + 1, by omega, by go_num, S2, B2⟩
      case measure => simp [intOf]; omega
    · obtain rfl : k = ts.length := by omega
      go_wp2_with fail
      go_ret
      exact ⟨_, rfl, by have := hS.out; rwa [List.take_length] at this, hb.out⟩
end Go.Proofs.YtoahljkifikbaaaGreat


/- A new member: the walks over isMember, copyOfRing and both MateNew. -/
namespace Go.Proofs.YtoahljkifikbaaaGreat
open Go.RowKit Pl
set_option linter.unusedVariables false

set_option maxRecDepth 100000 in
set_option maxHeartbeats 1000000 in
theorem copyRing_any (i : Int) (v : Value) (ms : List Int) (w : World) (h : Hid (RI w v ms)) (hl : ms.length ≤ 1048576) :
    Calls Tryz.prog 47 #[.agg #[.int .i64 i, v]] w fun e w' => ∃ v', e = .returned (.agg #[.int .i64 i, v']) ∧ OwnI w' w.heap.size v' ms ∧ Below w.heap.size w w' := by
  have hn1 : (w.alloc (.cells #[.int .i64 i, v] 37)).heap.size = w.heap.size + 1 := by simp
  have hn2 : ((w.alloc (.cells #[.int .i64 i, v] 37)).alloc (.cells #[.int .i64 0, .slice none 0 0] 37)).heap.size = w.heap.size + 2 := by simp
  have HA : Hid (Bx (((w.alloc (.cells #[.int .i64 i, v] 37)).alloc (.cells #[.int .i64 0, .slice none 0 0] 37)).alloc (.cells #[] 3)) w.heap.size 37 [.int .i64 i, v]) := by
    have h := Bx.new w 37 [.int .i64 i, v]
    exact h.stays (B := w.heap.size + 1) (((Below.refl _ _).alloc (by rw [hn1]; exact Nat.le_refl _) _).alloc (by rw [hn2]; omega) _) (by omega)
  have HR : Hid (Bx (((w.alloc (.cells #[.int .i64 i, v] 37)).alloc (.cells #[.int .i64 0, .slice none 0 0] 37)).alloc (.cells #[] 3)) (w.heap.size + 1) 37 [.int .i64 0, .slice none 0 0]) := by
    have h := Bx.new (w.alloc (.cells #[.int .i64 i, v] 37)) 37 [.int .i64 0, .slice none 0 0]
    rw [hn1] at h
    exact h.stays (B := w.heap.size + 2) ((Below.refl _ _).alloc (by rw [hn2]; exact Nat.le_refl _) _) (by omega)
  have HO : Hid (OwnI (((w.alloc (.cells #[.int .i64 i, v] 37)).alloc (.cells #[.int .i64 0, .slice none 0 0] 37)).alloc (.cells #[] 3)) w.heap.size (.slice (some ⟨w.heap.size + 2, 0, none⟩) 0 0) []) := by
    have h := OwnI.made ((w.alloc (.cells #[.int .i64 i, v] 37)).alloc (.cells #[.int .i64 0, .slice none 0 0] 37)) w.heap.size (by rw [hn2]; omega)
    rw [hn2] at h
    exact h
  have HB : Hid (Below w.heap.size w (((w.alloc (.cells #[.int .i64 i, v] 37)).alloc (.cells #[.int .i64 0, .slice none 0 0] 37)).alloc (.cells #[] 3))) := (((Below.refl _ _).alloc (Nat.le_refl _) _).alloc (by simp) _).alloc (by simp; omega) _
  have HU : Hid (RI (((w.alloc (.cells #[.int .i64 i, v] 37)).alloc (.cells #[.int .i64 0, .slice none 0 0] 37)).alloc (.cells #[] 3)) v ms) := h.out.stays HB.out
  have hsz : w.heap.size ≤ (((w.alloc (.cells #[.int .i64 i, v] 37)).alloc (.cells #[.int .i64 0, .slice none 0 0] 37)).alloc (.cells #[] 3)).heap.size := HB.out.size
  have a1 := HA.out.cell 1
  clear h hn1 hn2
  go_enter Tryz.func47, Tryz.ntmps47
  go_wp2_with (first | (at_builtin; refine wpList_catR rfl _ _ 33 rfl Tryz.underlying33 Tryz.info3' w.heap.size (.slice (some ⟨w.heap.size + 2, 0, none⟩) 0 0) [] rfl HO.out _ ms rfl HU.out (by simp; omega) hsz (fun h => by cases h) ?_; intro v1 w1 hv1 hg1; have hs1 : Hid (World.grownBy _ w1 (some (w.heap.size + 2))) := hg1; have ht1 : Hid (OwnI w1 w.heap.size v1 ms) := hv1; clear hv1 hg1; refine Stp.here ?_))
  refine Stp.go ?_
  have hv1 := ht1.out
  have hg1 := hs1.out
  obtain ⟨ao1, cap1, hf1⟩ := hv1.form
  subst hf1
  generalize (((w.alloc (.cells #[.int .i64 i, v] 37)).alloc (.cells #[.int .i64 0, .slice none 0 0] 37)).alloc (.cells #[] 3)) = W at *
  have A1 : Hid (Bx w1 w.heap.size 37 [.int .i64 i, v]) := HA.out.grown hg1 (by simp)
  have R1 : Hid (Bx w1 (w.heap.size + 1) 37 [.int .i64 0, .slice none 0 0]) := HR.out.grown hg1 (by simp)
  have B1 : Hid (Below w.heap.size w w1) := HB.out.grown hg1 hsz (fun k hk => by simp at hk; omega)
  have V1 : Hid (OwnI w1 w.heap.size (.slice ao1 ms.length cap1) ms) := hv1
  clear hs1 ht1 hv1 hg1 HA HR HB HO HU hsz a1
  have c1 := A1.out.cell 1
  have f1 := A1.out.frozen 1
  have T2 := (TurnAt.refl w.heap.size w1).setCell 1 (.slice ao1 ms.length cap1)
  have O2 : Hid (Bx (w1.setCell ⟨w.heap.size, 1, none⟩ (.slice ao1 ms.length cap1)) w.heap.size 37 [.int .i64 i, .slice ao1 ms.length cap1]) := A1.out.set 1 (.slice ao1 ms.length cap1)
  have R2 : Hid (Bx (w1.setCell ⟨w.heap.size, 1, none⟩ (.slice ao1 ms.length cap1)) (w.heap.size + 1) 37 [.int .i64 0, .slice none 0 0]) := R1.out.turn T2 (by omega)
  have B2 : Hid (Below w.heap.size w (w1.setCell ⟨w.heap.size, 1, none⟩ (.slice ao1 ms.length cap1))) := B1.out.trans (T2.below (by omega))
  have V2 : Hid (OwnI (w1.setCell ⟨w.heap.size, 1, none⟩ (.slice ao1 ms.length cap1)) w.heap.size (.slice ao1 ms.length cap1) ms) := V1.out.keep fun k hk _ => T2.block k (fun e => bx_i_ne V1.out A1.out (by decide) (e ▸ hk))
  have o0 := O2.out.cell 0
  have o1 := O2.out.cell 1
  have r0 := R2.out.cell 0
  have r1 := R2.out.cell 1
  have z0 := R2.out.frozen 0
  have z1 := R2.out.frozen 1
  have R3 : Bx _ (w.heap.size + 1) 37 [.int .i64 i, .slice ao1 ms.length cap1] := (R2.out.set 0 (.int .i64 i)).set 1 (.slice ao1 ms.length cap1)
  have T3 := ((TurnAt.refl (w.heap.size + 1) (w1.setCell ⟨w.heap.size, 1, none⟩ (.slice ao1 ms.length cap1))).setCell 0 (.int .i64 i)).setCell 1 (.slice ao1 ms.length cap1)
  have B3 := B2.out.trans (T3.below (by omega))
  have V3 := V2.out.keep fun k hk _ => T3.block k (fun e => bx_i_ne V2.out R2.out (by decide) (e ▸ hk))
  clear T2 T3 R1 A1 B1 V1 V2 R2 O2 B2
  go_wp2_with fail
  generalize ((w1.setCell ⟨w.heap.size, 1, none⟩ (.slice ao1 ms.length cap1)).setCell ⟨w.heap.size + 1, 0, none⟩ (.int .i64 i)).setCell ⟨w.heap.size + 1, 1, none⟩ (.slice ao1 ms.length cap1) = W3 at *
  have q0 := R3.cell 0
  have q1 := R3.cell 1
  refine bodyPost_ret (v := .agg #[.int .i64 i, .slice ao1 ms.length cap1]) (by simp [results, Tryz.results47, go_sem, q0, q1]) rfl ?_
  exact ⟨_, rfl, V3, B3⟩
end Go.Proofs.YtoahljkifikbaaaGreat


/- A member at work: the walks over memberOf and mate. Written by gen_mb.py. -/
namespace Go.Proofs.YtoahljkifikbaaaGreat
open Go.RowKit Pl
set_option linter.unusedVariables false
set_option linter.unusedSimpArgs false

theorem copyItems_s (s : Sv) (ts : List It) (w : World) (h : Hid (RIt w s.v ts)) (hl : ts.length ≤ 1048576) (hs : Hid (∀ x ∈ ts, x.2.2.2.size ≤ 1048576)) :
    Calls Tryz.prog 149 #[.slice s.a s.n s.c] w fun e w' => ∃ u : Sv, e = .returned (.slice u.a u.n u.c) ∧ SlI w' w.heap.size u.v ts ∧ Below w.heap.size w w' := by
  obtain ⟨ao, cap, h1, h2⟩ := h.out; unfold Sv.v at h1; rw [h1]
  exact (copyItems_any ao cap ts w h2 hl hs).mono fun e w' ⟨v, a, b, c⟩ => by obtain ⟨u, rfl⟩ := b.sv; exact ⟨u, a, b, c⟩
theorem copyTexts_s (s : Sv) (ts : List ByteArray) (w : World) (h : Hid (RT w s.v ts)) (hl : ts.length ≤ 1048576) (hs : Hid (∀ x ∈ ts, x.size ≤ 1048576)) :
    Calls Tryz.prog 193 #[.slice s.a s.n s.c] w fun e w' => ∃ u : Sv, e = .returned (.slice u.a u.n u.c) ∧ OwnS w' w.heap.size u.v ts ∧ Below w.heap.size w w' := by
  obtain ⟨ao, cap, h1, h2⟩ := h.out; unfold Sv.v at h1; rw [h1]
  exact (copyTexts_any ao cap ts w h2 hl hs).mono fun e w' ⟨v, a, b, c⟩ => by obtain ⟨u, rfl⟩ := b.sv; exact ⟨u, a, b, c⟩
theorem copyRing_s (i : Int) (s : Sv) (ms : List Int) (w : World) (h : Hid (RI w s.v ms)) (hl : ms.length ≤ 1048576) :
    Calls Tryz.prog 47 #[.agg #[.int .i64 i, .slice s.a s.n s.c]] w fun e w' => ∃ u : Sv, e = .returned (.agg #[.int .i64 i, .slice u.a u.n u.c]) ∧ OwnI w' w.heap.size u.v ms ∧ Below w.heap.size w w' :=
  (copyRing_any i s.v ms w h hl).mono fun e w' ⟨v, a, b, c⟩ => by obtain ⟨u, rfl⟩ := b.sv; exact ⟨u, a, b, c⟩

/-- a member at work: what its box holds; its items stand in its store alone, 'it' is what its Mate has in their place. -/
def MbB (w : World) (g : Nat) (m : Mt) (u : Mv) (it : Sv) : Prop := Bx w g 203 [.slice u.its.a u.its.n u.its.c, .int .i64 m.id, .int .i64 m.rid, .slice u.ms.a u.ms.n u.ms.c, .slice it.a it.n it.c, .slice u.lv.a u.lv.n u.lv.c, .slice u.tx.a u.tx.n u.tx.c, .int .i64 m.rd, .int .i64 m.se, .int .i64 m.li, .int .i64 m.he, .int .i64 m.la.c, .int .i64 m.la.r, .int .i64 m.la.q, .int .i64 m.la.a, .int .i64 m.la.b, .slice u.ws.a u.ws.n u.ws.c]

set_option maxRecDepth 100000 in
set_option maxHeartbeats 4000000 in
theorem memberOf_any (m : Mt) (v : Mv) (w : World) (h : Hid (MtP w m v)) (hs : Hid (MtS m)) :
    Calls Tryz.prog 146 #[.agg #[.int .i64 m.id, .int .i64 m.rid, .slice v.ms.a v.ms.n v.ms.c, .slice v.its.a v.its.n v.its.c, .slice v.lv.a v.lv.n v.lv.c, .slice v.tx.a v.tx.n v.tx.c, .int .i64 m.rd, .int .i64 m.se, .int .i64 m.li, .int .i64 m.he, .int .i64 m.la.c, .int .i64 m.la.r, .int .i64 m.la.q, .int .i64 m.la.a, .int .i64 m.la.b, .slice v.ws.a v.ws.n v.ws.c]] w fun e w' => ∃ (g : Nat) (u : Mv), e = .returned (.pointer (some ⟨g, 0, none⟩)) ∧ MbB w' g m u zSv ∧ MtO w' w.heap.size m u ∧ w.heap.size ≤ g ∧ Below w.heap.size w w' := by
  have HA : Hid (MtB (w.alloc (.cells #[.int .i64 m.id, .int .i64 m.rid, .slice v.ms.a v.ms.n v.ms.c, .slice v.its.a v.its.n v.its.c, .slice v.lv.a v.lv.n v.lv.c, .slice v.tx.a v.tx.n v.tx.c, .int .i64 m.rd, .int .i64 m.se, .int .i64 m.li, .int .i64 m.he, .int .i64 m.la.c, .int .i64 m.la.r, .int .i64 m.la.q, .int .i64 m.la.a, .int .i64 m.la.b, .slice v.ws.a v.ws.n v.ws.c] 51)) w.heap.size 51 m v) := Bx.new w 51 _
  have HB : Hid (Below w.heap.size w (w.alloc (.cells #[.int .i64 m.id, .int .i64 m.rid, .slice v.ms.a v.ms.n v.ms.c, .slice v.its.a v.its.n v.its.c, .slice v.lv.a v.lv.n v.lv.c, .slice v.tx.a v.tx.n v.tx.c, .int .i64 m.rd, .int .i64 m.se, .int .i64 m.li, .int .i64 m.he, .int .i64 m.la.c, .int .i64 m.la.r, .int .i64 m.la.q, .int .i64 m.la.a, .int .i64 m.la.b, .slice v.ws.a v.ws.n v.ws.c] 51))) := (Below.refl _ _).alloc (Nat.le_refl _) _
  go_enter Tryz.func146, Tryz.ntmps146
  go_wp2_with fail
  generalize w.alloc (.cells #[.int .i64 m.id, .int .i64 m.rid, .slice v.ms.a v.ms.n v.ms.c, .slice v.its.a v.its.n v.its.c, .slice v.lv.a v.lv.n v.lv.c, .slice v.tx.a v.tx.n v.tx.c, .int .i64 m.rd, .int .i64 m.se, .int .i64 m.li, .int .i64 m.he, .int .i64 m.la.c, .int .i64 m.la.r, .int .i64 m.la.q, .int .i64 m.la.a, .int .i64 m.la.b, .slice v.ws.a v.ws.n v.ws.c] 51) = W at *
  have HA0 : Hid (MtB W w.heap.size 51 m v) := HA.out
  have zW : Hid (W.heap.size ≥ w.heap.size) := HB.out.size
  have SI : Hid (RIt W.drew v.its.v m.its) := h.out.its.rit.stays HB.out.drew
  refine wp_region_held_drew (S := fun w' => Below W.heap.size W w') (by kernel_rfl) (Below.refl _ _).drew (fun hHeld => ?_)
  refine wpAnyH_take (i := 0) (v := ?v0) rfl (by kernel_rfl) (by kernel_rfl) (by kernel_rfl) (fun _ _ _ h => h) (Or.inl ⟨by rfl, ?hy0⟩) (by assumption) ?_
  case hy0 => (intro w hSw; (try dsimp only at hSw); simp only [List.getElem_toArray, List.getElem_cons_zero, List.getElem_cons_succ]; go_simp; try with_reducible rfl)
  try simp only [Act.put, List.getElem_toArray, List.getElem_cons_zero, List.getElem_cons_succ, List.setIfInBounds_toArray, List.set_cons_zero, List.set_cons_succ]
  refine wpAnyH_take (i := 1) (v := _) rfl (by kernel_rfl) (by kernel_rfl) (by kernel_rfl) (fun _ _ _ h => h) (ld1_yield (by rfl) 46 _ rfl w.heap.size 3 rfl 51 _ (fun w hS => Bx.later HA.out hS) (.slice v.its.a v.its.n v.its.c) rfl _ Tryz.underlying46 rfl) (by assumption) ?_
  try simp only [Act.put, List.getElem_toArray, List.getElem_cons_zero, List.getElem_cons_succ, List.setIfInBounds_toArray, List.set_cons_zero, List.set_cons_succ]
  refine wpAnyH_take (i := 3) (v := _) rfl (by kernel_rfl) (by kernel_rfl) (by kernel_rfl) (fun _ _ _ h => h) (ld_yield (by rfl) 51 _ rfl w.heap.size 0 rfl 51 _ (fun w hS => Bx.later HA.out hS) [.int .i64 m.id, .int .i64 m.rid, .slice v.ms.a v.ms.n v.ms.c, .slice v.its.a v.its.n v.its.c, .slice v.lv.a v.lv.n v.lv.c, .slice v.tx.a v.tx.n v.tx.c, .int .i64 m.rd, .int .i64 m.se, .int .i64 m.li, .int .i64 m.he, .int .i64 m.la.c, .int .i64 m.la.r, .int .i64 m.la.q, .int .i64 m.la.a, .int .i64 m.la.b, .slice v.ws.a v.ws.n v.ws.c] rfl _ Tryz.underlying51 rfl Tryz.sizeM) (by assumption) ?_
  try simp only [Act.put, List.getElem_toArray, List.getElem_cons_zero, List.getElem_cons_succ, List.setIfInBounds_toArray, List.set_cons_zero, List.set_cons_succ]
  refine wpAnyH_ready (rs := [2]) (by kernel_rfl) (by simp) ?_
  refine AllReadyH.cons (i := 2) rfl (fun K hK => ?_) AllReadyH.nil
  rw [if_pos (by rfl)]
  simp only [List.getElem_toArray, List.getElem_cons_zero, List.getElem_cons_succ]
  go_simp
  refine (copyItems_s v.its m.its _ SI hs.out.its hs.out.it).mono ?_
  rintro e w1 ⟨uits, rfl, o1, b1⟩
  have c1 : Below W.heap.size W w1 := (Below.refl W.heap.size W).drew.trans b1
  have Xits : Hid (SlI w1 W.heap.size uits.v m.its) := o1
  refine hK.out _ _ (c1) (fun hHeld => ?_)
  clear hK K
  try simp only [Act.put, List.getElem_toArray, List.getElem_cons_zero, List.getElem_cons_succ, List.setIfInBounds_toArray, List.set_cons_zero, List.set_cons_succ]
  refine wpAnyH_take (i := 4) (v := ?v4) rfl (by kernel_rfl) (by kernel_rfl) (by kernel_rfl) (fun _ _ _ h => h) (Or.inl ⟨by rfl, ?hy4⟩) (by assumption) ?_
  case hy4 => (intro w hSw; (try dsimp only at hSw); simp only [List.getElem_toArray, List.getElem_cons_zero, List.getElem_cons_succ]; go_simp; try with_reducible rfl)
  try simp only [Act.put, List.getElem_toArray, List.getElem_cons_zero, List.getElem_cons_succ, List.setIfInBounds_toArray, List.set_cons_zero, List.set_cons_succ]
  refine wpAnyH_ready (rs := [5]) (by kernel_rfl) (by simp) ?_
  refine AllReadyH.cons (i := 5) rfl (fun K hK => ?_) AllReadyH.nil
  rw [if_pos (by rfl)]
  simp only [List.getElem_toArray, List.getElem_cons_zero, List.getElem_cons_succ]
  go_simp
  refine hK.out _ _ (c1.alloc c1.size _) (fun hHeld => ?_)
  clear hK K
  try simp only [Act.put, List.getElem_toArray, List.getElem_cons_zero, List.getElem_cons_succ, List.setIfInBounds_toArray, List.set_cons_zero, List.set_cons_succ]
  refine wpAnyH_take (i := 6) (v := ?v6) rfl (by kernel_rfl) (by kernel_rfl) (by kernel_rfl) (fun _ _ _ h => h) (Or.inl ⟨by rfl, ?hy6⟩) (by assumption) ?_
  case hy6 => (intro w hSw; (try dsimp only at hSw); simp only [List.getElem_toArray, List.getElem_cons_zero, List.getElem_cons_succ]; go_simp; try with_reducible rfl)
  try simp only [Act.put, List.getElem_toArray, List.getElem_cons_zero, List.getElem_cons_succ, List.setIfInBounds_toArray, List.set_cons_zero, List.set_cons_succ]
  refine wpAnyH_done (by kernel_rfl) ?_ _
  have HG : Hid (Bx (w1.alloc (.cells #[.slice uits.a uits.n uits.c, .int .i64 m.id, .int .i64 m.rid, .slice v.ms.a v.ms.n v.ms.c, .slice v.its.a v.its.n v.its.c, .slice v.lv.a v.lv.n v.lv.c, .slice v.tx.a v.tx.n v.tx.c, .int .i64 m.rd, .int .i64 m.se, .int .i64 m.li, .int .i64 m.he, .int .i64 m.la.c, .int .i64 m.la.r, .int .i64 m.la.q, .int .i64 m.la.a, .int .i64 m.la.b, .slice v.ws.a v.ws.n v.ws.c] 203)) w1.heap.size 203 [.slice uits.a uits.n uits.c, .int .i64 m.id, .int .i64 m.rid, .slice v.ms.a v.ms.n v.ms.c, .slice v.its.a v.its.n v.its.c, .slice v.lv.a v.lv.n v.lv.c, .slice v.tx.a v.tx.n v.tx.c, .int .i64 m.rd, .int .i64 m.se, .int .i64 m.li, .int .i64 m.he, .int .i64 m.la.c, .int .i64 m.la.r, .int .i64 m.la.q, .int .i64 m.la.a, .int .i64 m.la.b, .slice v.ws.a v.ws.n v.ws.c]) := Bx.new w1 203 _
  have bb : Below w1.heap.size w1 (w1.alloc (.cells #[.slice uits.a uits.n uits.c, .int .i64 m.id, .int .i64 m.rid, .slice v.ms.a v.ms.n v.ms.c, .slice v.its.a v.its.n v.its.c, .slice v.lv.a v.lv.n v.lv.c, .slice v.tx.a v.tx.n v.tx.c, .int .i64 m.rd, .int .i64 m.se, .int .i64 m.li, .int .i64 m.he, .int .i64 m.la.c, .int .i64 m.la.r, .int .i64 m.la.q, .int .i64 m.la.a, .int .i64 m.la.b, .slice v.ws.a v.ws.n v.ws.c] 203)) := (Below.refl _ _).alloc (Nat.le_refl _) _
  have Xits : Hid (SlI (w1.alloc (.cells #[.slice uits.a uits.n uits.c, .int .i64 m.id, .int .i64 m.rid, .slice v.ms.a v.ms.n v.ms.c, .slice v.its.a v.its.n v.its.c, .slice v.lv.a v.lv.n v.lv.c, .slice v.tx.a v.tx.n v.tx.c, .int .i64 m.rd, .int .i64 m.se, .int .i64 m.li, .int .i64 m.he, .int .i64 m.la.c, .int .i64 m.la.r, .int .i64 m.la.q, .int .i64 m.la.a, .int .i64 m.la.b, .slice v.ws.a v.ws.n v.ws.c] 203)) W.heap.size uits.v m.its) := Xits.out.below bb
  have HA : Hid (MtB (w1.alloc (.cells #[.slice uits.a uits.n uits.c, .int .i64 m.id, .int .i64 m.rid, .slice v.ms.a v.ms.n v.ms.c, .slice v.its.a v.its.n v.its.c, .slice v.lv.a v.lv.n v.lv.c, .slice v.tx.a v.tx.n v.tx.c, .int .i64 m.rd, .int .i64 m.se, .int .i64 m.li, .int .i64 m.he, .int .i64 m.la.c, .int .i64 m.la.r, .int .i64 m.la.q, .int .i64 m.la.a, .int .i64 m.la.b, .slice v.ws.a v.ws.n v.ws.c] 203)) w.heap.size 51 m v) := Bx.later (Bx.later HA.out c1) bb
  have HB : Hid (Below w.heap.size w (w1.alloc (.cells #[.slice uits.a uits.n uits.c, .int .i64 m.id, .int .i64 m.rid, .slice v.ms.a v.ms.n v.ms.c, .slice v.its.a v.its.n v.its.c, .slice v.lv.a v.lv.n v.lv.c, .slice v.tx.a v.tx.n v.tx.c, .int .i64 m.rd, .int .i64 m.se, .int .i64 m.li, .int .i64 m.he, .int .i64 m.la.c, .int .i64 m.la.r, .int .i64 m.la.q, .int .i64 m.la.a, .int .i64 m.la.b, .slice v.ws.a v.ws.n v.ws.c] 203))) := bl_next (bl_next HB.out c1) bb
  have zg : Hid (w.heap.size < w1.heap.size) := Nat.lt_of_lt_of_le (Bx.lt HA0.out) c1.size
  clear o1 b1 c1 bb hHeld SI
  generalize w1.alloc (.cells #[.slice uits.a uits.n uits.c, .int .i64 m.id, .int .i64 m.rid, .slice v.ms.a v.ms.n v.ms.c, .slice v.its.a v.its.n v.its.c, .slice v.lv.a v.lv.n v.lv.c, .slice v.tx.a v.tx.n v.tx.c, .int .i64 m.rd, .int .i64 m.se, .int .i64 m.li, .int .i64 m.he, .int .i64 m.la.c, .int .i64 m.la.r, .int .i64 m.la.q, .int .i64 m.la.a, .int .i64 m.la.b, .slice v.ws.a v.ws.n v.ws.c] 203) = W1 at *
  generalize w1.heap.size = g at *
  have zg := zg.out
  have HG0 : Hid (Bx W1 g 203 [.slice uits.a uits.n uits.c, .int .i64 m.id, .int .i64 m.rid, .slice v.ms.a v.ms.n v.ms.c, .slice v.its.a v.its.n v.its.c, .slice v.lv.a v.lv.n v.lv.c, .slice v.tx.a v.tx.n v.tx.c, .int .i64 m.rd, .int .i64 m.se, .int .i64 m.li, .int .i64 m.he, .int .i64 m.la.c, .int .i64 m.la.r, .int .i64 m.la.q, .int .i64 m.la.a, .int .i64 m.la.b, .slice v.ws.a v.ws.n v.ws.c]) := HG.out
  have zW1 : Hid (w.heap.size ≤ W1.heap.size) := HB.out.size
  go_wp2_with (first | (refine wpList_ldG rfl 37 _ rfl w.heap.size 1 rfl 51 _ HA.out [.int .i64 m.rid, .slice v.ms.a v.ms.n v.ms.c] rfl _ Tryz.underlying37 rfl Tryz.sizeR ?_))
  refine (copyRing_s m.rid v.ms m.ms _ (h.out.ms.ri.stays HB.out) hs.out.ms).mono ?_
  rintro e w2 ⟨ums, rfl, ho, b⟩
  have Xms : Hid (OwnI w2 W1.heap.size ums.v m.ms) := ho
  have LOms : Hid (W1.heap.size ≤ w2.heap.size) := b.size
  have HA : Hid (Bx w2 w.heap.size 51 [.int .i64 m.id, .int .i64 m.rid, .slice v.ms.a v.ms.n v.ms.c, .slice v.its.a v.its.n v.its.c, .slice v.lv.a v.lv.n v.lv.c, .slice v.tx.a v.tx.n v.tx.c, .int .i64 m.rd, .int .i64 m.se, .int .i64 m.li, .int .i64 m.he, .int .i64 m.la.c, .int .i64 m.la.r, .int .i64 m.la.q, .int .i64 m.la.a, .int .i64 m.la.b, .slice v.ws.a v.ws.n v.ws.c]) := Bx.later HA.out b
  have HG : Hid (Bx w2 g 203 [.slice uits.a uits.n uits.c, .int .i64 m.id, .int .i64 m.rid, .slice v.ms.a v.ms.n v.ms.c, .slice v.its.a v.its.n v.its.c, .slice v.lv.a v.lv.n v.lv.c, .slice v.tx.a v.tx.n v.tx.c, .int .i64 m.rd, .int .i64 m.se, .int .i64 m.li, .int .i64 m.he, .int .i64 m.la.c, .int .i64 m.la.r, .int .i64 m.la.q, .int .i64 m.la.a, .int .i64 m.la.b, .slice v.ws.a v.ws.n v.ws.c]) := HG.out.later b
  have HB : Hid (Below w.heap.size w w2) := bl_next HB.out b
  have K1 : Hid (KeepBut g W1 w2) := keep_of_below b
  have BXms : Hid (Bx w2 g 203 [.slice uits.a uits.n uits.c, .int .i64 m.id, .int .i64 m.rid, .slice v.ms.a v.ms.n v.ms.c, .slice v.its.a v.its.n v.its.c, .slice v.lv.a v.lv.n v.lv.c, .slice v.tx.a v.tx.n v.tx.c, .int .i64 m.rd, .int .i64 m.se, .int .i64 m.li, .int .i64 m.he, .int .i64 m.la.c, .int .i64 m.la.r, .int .i64 m.la.q, .int .i64 m.la.a, .int .i64 m.la.b, .slice v.ws.a v.ws.n v.ws.c]) := HG.out
  clear ho b
  go_wp2_with (first | (refine wpList_stB rfl 37 _ _ rfl g 2 rfl 203 _ HG.out [.int .i64 m.rid, .slice ums.a ums.n ums.c] rfl (by simp) Tryz.sizeR rfl [.slice uits.a uits.n uits.c, .int .i64 m.id, .int .i64 m.rid, .slice ums.a ums.n ums.c, .slice v.its.a v.its.n v.its.c, .slice v.lv.a v.lv.n v.lv.c, .slice v.tx.a v.tx.n v.tx.c, .int .i64 m.rd, .int .i64 m.se, .int .i64 m.li, .int .i64 m.he, .int .i64 m.la.c, .int .i64 m.la.r, .int .i64 m.la.q, .int .i64 m.la.a, .int .i64 m.la.b, .slice v.ws.a v.ws.n v.ws.c] rfl ?_; intro w3 OB TB; have K2 : Hid (KeepBut g w2 w3) := TB.keep; have HA : Hid (Bx w3 w.heap.size 51 [.int .i64 m.id, .int .i64 m.rid, .slice v.ms.a v.ms.n v.ms.c, .slice v.its.a v.its.n v.its.c, .slice v.lv.a v.lv.n v.lv.c, .slice v.tx.a v.tx.n v.tx.c, .int .i64 m.rd, .int .i64 m.se, .int .i64 m.li, .int .i64 m.he, .int .i64 m.la.c, .int .i64 m.la.r, .int .i64 m.la.q, .int .i64 m.la.a, .int .i64 m.la.b, .slice v.ws.a v.ws.n v.ws.c]) := Bx.turn HA.out TB (by omega); have HB : Hid (Below w.heap.size w w3) := HB.out.trans (TB.below (by omega)); have HG : Hid (Bx w3 g 203 [.slice uits.a uits.n uits.c, .int .i64 m.id, .int .i64 m.rid, .slice ums.a ums.n ums.c, .slice v.its.a v.its.n v.its.c, .slice v.lv.a v.lv.n v.lv.c, .slice v.tx.a v.tx.n v.tx.c, .int .i64 m.rd, .int .i64 m.se, .int .i64 m.li, .int .i64 m.he, .int .i64 m.la.c, .int .i64 m.la.r, .int .i64 m.la.q, .int .i64 m.la.a, .int .i64 m.la.b, .slice v.ws.a v.ws.n v.ws.c]) := OB; clear OB TB) | (refine wpList_st1 rfl 46 _ _ rfl g 4 rfl 203 _ HG.out (.slice none 0 0) rfl (by simp) rfl Tryz.sizeIs [.slice uits.a uits.n uits.c, .int .i64 m.id, .int .i64 m.rid, .slice ums.a ums.n ums.c, .slice none 0 0, .slice v.lv.a v.lv.n v.lv.c, .slice v.tx.a v.tx.n v.tx.c, .int .i64 m.rd, .int .i64 m.se, .int .i64 m.li, .int .i64 m.he, .int .i64 m.la.c, .int .i64 m.la.r, .int .i64 m.la.q, .int .i64 m.la.a, .int .i64 m.la.b, .slice v.ws.a v.ws.n v.ws.c] rfl ?_; intro w4 OB TB; have K3 : Hid (KeepBut g w3 w4) := TB.keep; have HA : Hid (Bx w4 w.heap.size 51 [.int .i64 m.id, .int .i64 m.rid, .slice v.ms.a v.ms.n v.ms.c, .slice v.its.a v.its.n v.its.c, .slice v.lv.a v.lv.n v.lv.c, .slice v.tx.a v.tx.n v.tx.c, .int .i64 m.rd, .int .i64 m.se, .int .i64 m.li, .int .i64 m.he, .int .i64 m.la.c, .int .i64 m.la.r, .int .i64 m.la.q, .int .i64 m.la.a, .int .i64 m.la.b, .slice v.ws.a v.ws.n v.ws.c]) := Bx.turn HA.out TB (by omega); have HB : Hid (Below w.heap.size w w4) := HB.out.trans (TB.below (by omega)); have HG : Hid (Bx w4 g 203 [.slice uits.a uits.n uits.c, .int .i64 m.id, .int .i64 m.rid, .slice ums.a ums.n ums.c, .slice none 0 0, .slice v.lv.a v.lv.n v.lv.c, .slice v.tx.a v.tx.n v.tx.c, .int .i64 m.rd, .int .i64 m.se, .int .i64 m.li, .int .i64 m.he, .int .i64 m.la.c, .int .i64 m.la.r, .int .i64 m.la.q, .int .i64 m.la.a, .int .i64 m.la.b, .slice v.ws.a v.ws.n v.ws.c]) := OB; clear OB TB) | (refine wpList_haltB _ _ _ rfl ?_))
  refine Stp.go ?_
  have zB4 : w.heap.size ≤ w4.heap.size := HB.out.size
  have HA2 : Hid (Bx (w4.alloc (.cells #[] 3)) w.heap.size 51 [.int .i64 m.id, .int .i64 m.rid, .slice v.ms.a v.ms.n v.ms.c, .slice v.its.a v.its.n v.its.c, .slice v.lv.a v.lv.n v.lv.c, .slice v.tx.a v.tx.n v.tx.c, .int .i64 m.rd, .int .i64 m.se, .int .i64 m.li, .int .i64 m.he, .int .i64 m.la.c, .int .i64 m.la.r, .int .i64 m.la.q, .int .i64 m.la.a, .int .i64 m.la.b, .slice v.ws.a v.ws.n v.ws.c]) := HA.out.later ((Below.refl _ _).alloc (Nat.le_refl _) _)
  have SR : Hid (RI (w4.alloc (.cells #[] 3)) (.slice v.lv.a v.lv.n v.lv.c) m.lv) := (h.out.lv.ri).stays (HB.out.trans (((Below.refl _ _).alloc (Nat.le_refl _) _).mono zB4))
  have OW : Hid (OwnI (w4.alloc (.cells #[] 3)) w4.heap.size (.slice (some ⟨w4.heap.size, 0, none⟩) 0 0) []) := OwnI.made w4 w4.heap.size (Nat.le_refl _)
  go_wp2_with (first | (refine wpList_ld1 rfl 33 _ rfl w.heap.size 4 rfl 51 _ HA2.out (.slice v.lv.a v.lv.n v.lv.c) rfl _ Tryz.underlying33 rfl ?_) | (at_builtin; refine wpList_catR rfl _ _ 33 rfl Tryz.underlying33 Tryz.info3' w4.heap.size (.slice (some ⟨w4.heap.size, 0, none⟩) 0 0) [] rfl OW.out (.slice v.lv.a v.lv.n v.lv.c) m.lv rfl SR.out (by have := hs.out.lv; simp; omega) (Nat.le_of_lt (by simp)) (fun h => by cases h) ?_; intro v5 w5 ho hg; have Xlv : Hid (OwnI w5 w4.heap.size v5 m.lv) := ho; have G5 : Hid ((w4.alloc (.cells #[] 3)).grownBy w5 (some w4.heap.size)) := hg; clear ho hg; refine Stp.here ?_))
  refine Stp.go ?_
  obtain ⟨ulv, hf⟩ := Xlv.out.sv
  subst hf
  have LOlv : Hid (w4.heap.size ≤ w5.heap.size) := (keepBut_grown (g := g) G5.out).size
  have HA : Hid (Bx w5 w.heap.size 51 [.int .i64 m.id, .int .i64 m.rid, .slice v.ms.a v.ms.n v.ms.c, .slice v.its.a v.its.n v.its.c, .slice v.lv.a v.lv.n v.lv.c, .slice v.tx.a v.tx.n v.tx.c, .int .i64 m.rd, .int .i64 m.se, .int .i64 m.li, .int .i64 m.he, .int .i64 m.la.c, .int .i64 m.la.r, .int .i64 m.la.q, .int .i64 m.la.a, .int .i64 m.la.b, .slice v.ws.a v.ws.n v.ws.c]) := HA.out.afterGrown G5.out
  have HG : Hid (Bx w5 g 203 [.slice uits.a uits.n uits.c, .int .i64 m.id, .int .i64 m.rid, .slice ums.a ums.n ums.c, .slice none 0 0, .slice v.lv.a v.lv.n v.lv.c, .slice v.tx.a v.tx.n v.tx.c, .int .i64 m.rd, .int .i64 m.se, .int .i64 m.li, .int .i64 m.he, .int .i64 m.la.c, .int .i64 m.la.r, .int .i64 m.la.q, .int .i64 m.la.a, .int .i64 m.la.b, .slice v.ws.a v.ws.n v.ws.c]) := HG.out.afterGrown G5.out
  have HB : Hid (Below w.heap.size w w5) := below_grown HB.out HB.out.size G5.out
  have K4 : Hid (KeepBut g w4 w5) := keepBut_grown G5.out
  have BXlv : Hid (Bx w5 g 203 [.slice uits.a uits.n uits.c, .int .i64 m.id, .int .i64 m.rid, .slice ums.a ums.n ums.c, .slice none 0 0, .slice v.lv.a v.lv.n v.lv.c, .slice v.tx.a v.tx.n v.tx.c, .int .i64 m.rd, .int .i64 m.se, .int .i64 m.li, .int .i64 m.he, .int .i64 m.la.c, .int .i64 m.la.r, .int .i64 m.la.q, .int .i64 m.la.a, .int .i64 m.la.b, .slice v.ws.a v.ws.n v.ws.c]) := HG.out
  clear HA2 SR OW G5
  go_wp2_with (first | (refine wpList_st1 rfl 33 _ _ rfl g 5 rfl 203 _ HG.out (.slice ulv.a ulv.n ulv.c) rfl (by simp) rfl Tryz.sizeNs [.slice uits.a uits.n uits.c, .int .i64 m.id, .int .i64 m.rid, .slice ums.a ums.n ums.c, .slice none 0 0, .slice ulv.a ulv.n ulv.c, .slice v.tx.a v.tx.n v.tx.c, .int .i64 m.rd, .int .i64 m.se, .int .i64 m.li, .int .i64 m.he, .int .i64 m.la.c, .int .i64 m.la.r, .int .i64 m.la.q, .int .i64 m.la.a, .int .i64 m.la.b, .slice v.ws.a v.ws.n v.ws.c] rfl ?_; intro w6 OB TB; have K5 : Hid (KeepBut g w5 w6) := TB.keep; have HA : Hid (Bx w6 w.heap.size 51 [.int .i64 m.id, .int .i64 m.rid, .slice v.ms.a v.ms.n v.ms.c, .slice v.its.a v.its.n v.its.c, .slice v.lv.a v.lv.n v.lv.c, .slice v.tx.a v.tx.n v.tx.c, .int .i64 m.rd, .int .i64 m.se, .int .i64 m.li, .int .i64 m.he, .int .i64 m.la.c, .int .i64 m.la.r, .int .i64 m.la.q, .int .i64 m.la.a, .int .i64 m.la.b, .slice v.ws.a v.ws.n v.ws.c]) := Bx.turn HA.out TB (by omega); have HB : Hid (Below w.heap.size w w6) := HB.out.trans (TB.below (by omega)); have HG : Hid (Bx w6 g 203 [.slice uits.a uits.n uits.c, .int .i64 m.id, .int .i64 m.rid, .slice ums.a ums.n ums.c, .slice none 0 0, .slice ulv.a ulv.n ulv.c, .slice v.tx.a v.tx.n v.tx.c, .int .i64 m.rd, .int .i64 m.se, .int .i64 m.li, .int .i64 m.he, .int .i64 m.la.c, .int .i64 m.la.r, .int .i64 m.la.q, .int .i64 m.la.a, .int .i64 m.la.b, .slice v.ws.a v.ws.n v.ws.c]) := OB; clear OB TB) | (refine wpList_ld1 rfl 47 _ rfl w.heap.size 5 rfl 51 _ HA.out (.slice v.tx.a v.tx.n v.tx.c) rfl _ Tryz.underlying47 rfl ?_))
  refine (copyTexts_s v.tx m.tx _ (h.out.tx.rt.stays HB.out) hs.out.tx hs.out.te).mono ?_
  rintro e w7 ⟨utx, rfl, ho, b⟩
  have Xtx : Hid (OwnS w7 w6.heap.size utx.v m.tx) := ho
  have LOtx : Hid (w6.heap.size ≤ w7.heap.size) := b.size
  have HA : Hid (Bx w7 w.heap.size 51 [.int .i64 m.id, .int .i64 m.rid, .slice v.ms.a v.ms.n v.ms.c, .slice v.its.a v.its.n v.its.c, .slice v.lv.a v.lv.n v.lv.c, .slice v.tx.a v.tx.n v.tx.c, .int .i64 m.rd, .int .i64 m.se, .int .i64 m.li, .int .i64 m.he, .int .i64 m.la.c, .int .i64 m.la.r, .int .i64 m.la.q, .int .i64 m.la.a, .int .i64 m.la.b, .slice v.ws.a v.ws.n v.ws.c]) := Bx.later HA.out b
  have HG : Hid (Bx w7 g 203 [.slice uits.a uits.n uits.c, .int .i64 m.id, .int .i64 m.rid, .slice ums.a ums.n ums.c, .slice none 0 0, .slice ulv.a ulv.n ulv.c, .slice v.tx.a v.tx.n v.tx.c, .int .i64 m.rd, .int .i64 m.se, .int .i64 m.li, .int .i64 m.he, .int .i64 m.la.c, .int .i64 m.la.r, .int .i64 m.la.q, .int .i64 m.la.a, .int .i64 m.la.b, .slice v.ws.a v.ws.n v.ws.c]) := HG.out.later b
  have HB : Hid (Below w.heap.size w w7) := bl_next HB.out b
  have K6 : Hid (KeepBut g w6 w7) := keep_of_below b
  have BXtx : Hid (Bx w7 g 203 [.slice uits.a uits.n uits.c, .int .i64 m.id, .int .i64 m.rid, .slice ums.a ums.n ums.c, .slice none 0 0, .slice ulv.a ulv.n ulv.c, .slice v.tx.a v.tx.n v.tx.c, .int .i64 m.rd, .int .i64 m.se, .int .i64 m.li, .int .i64 m.he, .int .i64 m.la.c, .int .i64 m.la.r, .int .i64 m.la.q, .int .i64 m.la.a, .int .i64 m.la.b, .slice v.ws.a v.ws.n v.ws.c]) := HG.out
  clear ho b
  go_wp2_with (first | (refine wpList_st1 rfl 47 _ _ rfl g 6 rfl 203 _ HG.out (.slice utx.a utx.n utx.c) rfl (by simp) rfl Tryz.sizeTs [.slice uits.a uits.n uits.c, .int .i64 m.id, .int .i64 m.rid, .slice ums.a ums.n ums.c, .slice none 0 0, .slice ulv.a ulv.n ulv.c, .slice utx.a utx.n utx.c, .int .i64 m.rd, .int .i64 m.se, .int .i64 m.li, .int .i64 m.he, .int .i64 m.la.c, .int .i64 m.la.r, .int .i64 m.la.q, .int .i64 m.la.a, .int .i64 m.la.b, .slice v.ws.a v.ws.n v.ws.c] rfl ?_; intro w8 OB TB; have K7 : Hid (KeepBut g w7 w8) := TB.keep; have HA : Hid (Bx w8 w.heap.size 51 [.int .i64 m.id, .int .i64 m.rid, .slice v.ms.a v.ms.n v.ms.c, .slice v.its.a v.its.n v.its.c, .slice v.lv.a v.lv.n v.lv.c, .slice v.tx.a v.tx.n v.tx.c, .int .i64 m.rd, .int .i64 m.se, .int .i64 m.li, .int .i64 m.he, .int .i64 m.la.c, .int .i64 m.la.r, .int .i64 m.la.q, .int .i64 m.la.a, .int .i64 m.la.b, .slice v.ws.a v.ws.n v.ws.c]) := Bx.turn HA.out TB (by omega); have HB : Hid (Below w.heap.size w w8) := HB.out.trans (TB.below (by omega)); have HG : Hid (Bx w8 g 203 [.slice uits.a uits.n uits.c, .int .i64 m.id, .int .i64 m.rid, .slice ums.a ums.n ums.c, .slice none 0 0, .slice ulv.a ulv.n ulv.c, .slice utx.a utx.n utx.c, .int .i64 m.rd, .int .i64 m.se, .int .i64 m.li, .int .i64 m.he, .int .i64 m.la.c, .int .i64 m.la.r, .int .i64 m.la.q, .int .i64 m.la.a, .int .i64 m.la.b, .slice v.ws.a v.ws.n v.ws.c]) := OB; clear OB TB) | (refine wpList_ldG rfl 49 _ rfl w.heap.size 10 rfl 51 _ HA.out [.int .i64 m.la.c, .int .i64 m.la.r, .int .i64 m.la.q, .int .i64 m.la.a, .int .i64 m.la.b, .slice v.ws.a v.ws.n v.ws.c] rfl _ Tryz.underlying49 rfl Tryz.sizeT ?_))
  refine (copyTok_s m.la.c m.la.r m.la.q m.la.a m.la.b v.ws m.la.ws _ (h.out.ws.stays HB.out (fun k hk => (h.out.ws.lt k hk).2)) hs.out.ws).mono ?_
  rintro e w9 ⟨uws, rfl, ho, b⟩
  have Xws : Hid (OwnI w9 w8.heap.size uws.v m.la.ws) := ho
  have LOws : Hid (w8.heap.size ≤ w9.heap.size) := b.size
  have HA : Hid (Bx w9 w.heap.size 51 [.int .i64 m.id, .int .i64 m.rid, .slice v.ms.a v.ms.n v.ms.c, .slice v.its.a v.its.n v.its.c, .slice v.lv.a v.lv.n v.lv.c, .slice v.tx.a v.tx.n v.tx.c, .int .i64 m.rd, .int .i64 m.se, .int .i64 m.li, .int .i64 m.he, .int .i64 m.la.c, .int .i64 m.la.r, .int .i64 m.la.q, .int .i64 m.la.a, .int .i64 m.la.b, .slice v.ws.a v.ws.n v.ws.c]) := Bx.later HA.out b
  have HG : Hid (Bx w9 g 203 [.slice uits.a uits.n uits.c, .int .i64 m.id, .int .i64 m.rid, .slice ums.a ums.n ums.c, .slice none 0 0, .slice ulv.a ulv.n ulv.c, .slice utx.a utx.n utx.c, .int .i64 m.rd, .int .i64 m.se, .int .i64 m.li, .int .i64 m.he, .int .i64 m.la.c, .int .i64 m.la.r, .int .i64 m.la.q, .int .i64 m.la.a, .int .i64 m.la.b, .slice v.ws.a v.ws.n v.ws.c]) := HG.out.later b
  have HB : Hid (Below w.heap.size w w9) := bl_next HB.out b
  have K8 : Hid (KeepBut g w8 w9) := keep_of_below b
  have BXws : Hid (Bx w9 g 203 [.slice uits.a uits.n uits.c, .int .i64 m.id, .int .i64 m.rid, .slice ums.a ums.n ums.c, .slice none 0 0, .slice ulv.a ulv.n ulv.c, .slice utx.a utx.n utx.c, .int .i64 m.rd, .int .i64 m.se, .int .i64 m.li, .int .i64 m.he, .int .i64 m.la.c, .int .i64 m.la.r, .int .i64 m.la.q, .int .i64 m.la.a, .int .i64 m.la.b, .slice v.ws.a v.ws.n v.ws.c]) := HG.out
  clear ho b
  go_wp2_with (first | (refine wpList_stB rfl 49 _ _ rfl g 11 rfl 203 _ HG.out [.int .i64 m.la.c, .int .i64 m.la.r, .int .i64 m.la.q, .int .i64 m.la.a, .int .i64 m.la.b, .slice uws.a uws.n uws.c] rfl (by simp) Tryz.sizeT rfl [.slice uits.a uits.n uits.c, .int .i64 m.id, .int .i64 m.rid, .slice ums.a ums.n ums.c, .slice none 0 0, .slice ulv.a ulv.n ulv.c, .slice utx.a utx.n utx.c, .int .i64 m.rd, .int .i64 m.se, .int .i64 m.li, .int .i64 m.he, .int .i64 m.la.c, .int .i64 m.la.r, .int .i64 m.la.q, .int .i64 m.la.a, .int .i64 m.la.b, .slice uws.a uws.n uws.c] rfl ?_; intro wz OB TB; have K9 : Hid (KeepBut g w9 wz) := TB.keep; have HA : Hid (Bx wz w.heap.size 51 [.int .i64 m.id, .int .i64 m.rid, .slice v.ms.a v.ms.n v.ms.c, .slice v.its.a v.its.n v.its.c, .slice v.lv.a v.lv.n v.lv.c, .slice v.tx.a v.tx.n v.tx.c, .int .i64 m.rd, .int .i64 m.se, .int .i64 m.li, .int .i64 m.he, .int .i64 m.la.c, .int .i64 m.la.r, .int .i64 m.la.q, .int .i64 m.la.a, .int .i64 m.la.b, .slice v.ws.a v.ws.n v.ws.c]) := Bx.turn HA.out TB (by omega); have HB : Hid (Below w.heap.size w wz) := HB.out.trans (TB.below (by omega)); have HG : Hid (Bx wz g 203 [.slice uits.a uits.n uits.c, .int .i64 m.id, .int .i64 m.rid, .slice ums.a ums.n ums.c, .slice none 0 0, .slice ulv.a ulv.n ulv.c, .slice utx.a utx.n utx.c, .int .i64 m.rd, .int .i64 m.se, .int .i64 m.li, .int .i64 m.he, .int .i64 m.la.c, .int .i64 m.la.r, .int .i64 m.la.q, .int .i64 m.la.a, .int .i64 m.la.b, .slice uws.a uws.n uws.c]) := OB; clear OB TB))
  go_ret
  have Yits := Xits.out.keepb HG0.out ((((((((K1.out.trans K2.out).trans K3.out).trans K4.out).trans K5.out).trans K6.out).trans K7.out).trans K8.out).trans K9.out) (by decide)
  have Yms := Xms.out.keepb BXms.out (((((((K2.out.trans K3.out).trans K4.out).trans K5.out).trans K6.out).trans K7.out).trans K8.out).trans K9.out) (by decide)
  have Ylv := Xlv.out.keepb BXlv.out ((((K5.out.trans K6.out).trans K7.out).trans K8.out).trans K9.out) (by decide)
  have Ytx := Xtx.out.keepb BXtx.out ((K7.out.trans K8.out).trans K9.out) (by decide)
  have Yws := Xws.out.keepb BXws.out K9.out (by decide)
  have gK1 := K1.out.size
  have gK2 := K2.out.size
  have gK3 := K3.out.size
  have gK4 := K4.out.size
  have gK5 := K5.out.size
  have gK6 := K6.out.size
  have gK7 := K7.out.size
  have gK8 := K8.out.size
  have gK9 := K9.out.size
  have e1 := LOms.out
  have e2 := LOlv.out
  have e3 := LOtx.out
  have e4 := LOws.out
  have e5 := zW.out
  have e6 := zW1.out
  refine ⟨g, ⟨ums, uits, ulv, utx, uws⟩, rfl, HG.out, ⟨Yms.down (by omega), Yits.down (by omega), Ylv.down (by omega), Ytx.down (by omega), Yws.down (by omega), ?_, ?_, ?_⟩, by omega, HB.out⟩
  · exact fun k h1 h2 => by have := (Xms.out.lt k h1).2; have := (Xlv.out.lt k h2).1; omega
  · exact fun k h1 h2 => by have := (Xms.out.lt k h1).2; have := (Xws.out.lt k h2).1; omega
  · exact fun k h1 h2 => by have := (Xlv.out.lt k h1).2; have := (Xws.out.lt k h2).1; omega

set_option maxRecDepth 100000 in
set_option maxHeartbeats 2000000 in
theorem mate_any (m : Mt) (u : Mv) (it : Sv) (g : Nat) (w : World) (h : Hid (MbB w g m u it)) :
    Calls Tryz.prog 147 #[.pointer (some ⟨g, 0, none⟩)] w fun e w' => e = .returned (.agg #[.int .i64 m.id, .int .i64 m.rid, .slice u.ms.a u.ms.n u.ms.c, .slice u.its.a u.its.n u.its.c, .slice u.lv.a u.lv.n u.lv.c, .slice u.tx.a u.tx.n u.tx.c, .int .i64 m.rd, .int .i64 m.se, .int .i64 m.li, .int .i64 m.he, .int .i64 m.la.c, .int .i64 m.la.r, .int .i64 m.la.q, .int .i64 m.la.a, .int .i64 m.la.b, .slice u.ws.a u.ws.n u.ws.c]) ∧ MbB w' g m u u.its ∧ KeepBut g w w' := by
  have HG : Hid (Bx (w.alloc (.cells #[.int .i64 0, .int .i64 0, .slice none 0 0, .slice none 0 0, .slice none 0 0, .slice none 0 0, .int .i64 0, .int .i64 0, .int .i64 0, .int .i64 0, .int .i64 0, .int .i64 0, .int .i64 0, .int .i64 0, .int .i64 0, .slice none 0 0] 51)) g 203 [.slice u.its.a u.its.n u.its.c, .int .i64 m.id, .int .i64 m.rid, .slice u.ms.a u.ms.n u.ms.c, .slice it.a it.n it.c, .slice u.lv.a u.lv.n u.lv.c, .slice u.tx.a u.tx.n u.tx.c, .int .i64 m.rd, .int .i64 m.se, .int .i64 m.li, .int .i64 m.he, .int .i64 m.la.c, .int .i64 m.la.r, .int .i64 m.la.q, .int .i64 m.la.a, .int .i64 m.la.b, .slice u.ws.a u.ws.n u.ws.c]) := h.out.later ((Below.refl _ _).alloc (Nat.le_refl _) _)
  have HR : Hid (Bx (w.alloc (.cells #[.int .i64 0, .int .i64 0, .slice none 0 0, .slice none 0 0, .slice none 0 0, .slice none 0 0, .int .i64 0, .int .i64 0, .int .i64 0, .int .i64 0, .int .i64 0, .int .i64 0, .int .i64 0, .int .i64 0, .int .i64 0, .slice none 0 0] 51)) w.heap.size 51 [.int .i64 0, .int .i64 0, .slice none 0 0, .slice none 0 0, .slice none 0 0, .slice none 0 0, .int .i64 0, .int .i64 0, .int .i64 0, .int .i64 0, .int .i64 0, .int .i64 0, .int .i64 0, .int .i64 0, .int .i64 0, .slice none 0 0]) := Bx.new w 51 _
  have HK : Hid (KeepBut g w (w.alloc (.cells #[.int .i64 0, .int .i64 0, .slice none 0 0, .slice none 0 0, .slice none 0 0, .slice none 0 0, .int .i64 0, .int .i64 0, .int .i64 0, .int .i64 0, .int .i64 0, .int .i64 0, .int .i64 0, .int .i64 0, .int .i64 0, .slice none 0 0] 51))) := keep_of_below ((Below.refl _ _).alloc (Nat.le_refl _) _)
  have zg : g < w.heap.size := Bx.lt h.out
  go_enter Tryz.func147, Tryz.ntmps147
  go_wp2_with (first | (refine wpList_ld1 rfl 170 _ rfl g 0 rfl 203 _ HG.out (.slice u.its.a u.its.n u.its.c) rfl _ Tryz.underlying170 rfl ?_) | (refine wpList_st1 rfl 46 _ _ rfl g 4 rfl 203 _ HG.out (.slice u.its.a u.its.n u.its.c) rfl (by simp) rfl Tryz.sizeIs [.slice u.its.a u.its.n u.its.c, .int .i64 m.id, .int .i64 m.rid, .slice u.ms.a u.ms.n u.ms.c, .slice u.its.a u.its.n u.its.c, .slice u.lv.a u.lv.n u.lv.c, .slice u.tx.a u.tx.n u.tx.c, .int .i64 m.rd, .int .i64 m.se, .int .i64 m.li, .int .i64 m.he, .int .i64 m.la.c, .int .i64 m.la.r, .int .i64 m.la.q, .int .i64 m.la.a, .int .i64 m.la.b, .slice u.ws.a u.ws.n u.ws.c] rfl ?_; intro w1 OB TB; have HR : Hid (Bx w1 w.heap.size 51 [.int .i64 0, .int .i64 0, .slice none 0 0, .slice none 0 0, .slice none 0 0, .slice none 0 0, .int .i64 0, .int .i64 0, .int .i64 0, .int .i64 0, .int .i64 0, .int .i64 0, .int .i64 0, .int .i64 0, .int .i64 0, .slice none 0 0]) := HR.out.turn TB (by omega); have HK : Hid (KeepBut g w w1) := HK.out.trans TB.keep; have HG1 : Hid (Bx w1 g 203 [.slice u.its.a u.its.n u.its.c, .int .i64 m.id, .int .i64 m.rid, .slice u.ms.a u.ms.n u.ms.c, .slice u.its.a u.its.n u.its.c, .slice u.lv.a u.lv.n u.lv.c, .slice u.tx.a u.tx.n u.tx.c, .int .i64 m.rd, .int .i64 m.se, .int .i64 m.li, .int .i64 m.he, .int .i64 m.la.c, .int .i64 m.la.r, .int .i64 m.la.q, .int .i64 m.la.a, .int .i64 m.la.b, .slice u.ws.a u.ws.n u.ws.c]) := OB; clear OB TB) | (refine wpList_ldG rfl 51 _ rfl g 1 rfl 203 _ HG1.out [.int .i64 m.id, .int .i64 m.rid, .slice u.ms.a u.ms.n u.ms.c, .slice u.its.a u.its.n u.its.c, .slice u.lv.a u.lv.n u.lv.c, .slice u.tx.a u.tx.n u.tx.c, .int .i64 m.rd, .int .i64 m.se, .int .i64 m.li, .int .i64 m.he, .int .i64 m.la.c, .int .i64 m.la.r, .int .i64 m.la.q, .int .i64 m.la.a, .int .i64 m.la.b, .slice u.ws.a u.ws.n u.ws.c] rfl _ Tryz.underlying51 rfl Tryz.sizeM ?_) | (refine wpList_stB rfl 51 _ _ rfl w.heap.size 0 rfl 51 _ HR.out [.int .i64 m.id, .int .i64 m.rid, .slice u.ms.a u.ms.n u.ms.c, .slice u.its.a u.its.n u.its.c, .slice u.lv.a u.lv.n u.lv.c, .slice u.tx.a u.tx.n u.tx.c, .int .i64 m.rd, .int .i64 m.se, .int .i64 m.li, .int .i64 m.he, .int .i64 m.la.c, .int .i64 m.la.r, .int .i64 m.la.q, .int .i64 m.la.a, .int .i64 m.la.b, .slice u.ws.a u.ws.n u.ws.c] rfl (by simp) Tryz.sizeM rfl [.int .i64 m.id, .int .i64 m.rid, .slice u.ms.a u.ms.n u.ms.c, .slice u.its.a u.its.n u.its.c, .slice u.lv.a u.lv.n u.lv.c, .slice u.tx.a u.tx.n u.tx.c, .int .i64 m.rd, .int .i64 m.se, .int .i64 m.li, .int .i64 m.he, .int .i64 m.la.c, .int .i64 m.la.r, .int .i64 m.la.q, .int .i64 m.la.a, .int .i64 m.la.b, .slice u.ws.a u.ws.n u.ws.c] rfl ?_; intro wz RZ TZ))
  refine bodyPost_ret (results_b Tryz.results147 w.heap.size 51 [.int .i64 m.id, .int .i64 m.rid, .slice u.ms.a u.ms.n u.ms.c, .slice u.its.a u.its.n u.its.c, .slice u.lv.a u.lv.n u.lv.c, .slice u.tx.a u.tx.n u.tx.c, .int .i64 m.rd, .int .i64 m.se, .int .i64 m.li, .int .i64 m.he, .int .i64 m.la.c, .int .i64 m.la.r, .int .i64 m.la.q, .int .i64 m.la.a, .int .i64 m.la.b, .slice u.ws.a u.ws.n u.ws.c] _ rfl RZ Tryz.underlying51 rfl Tryz.sizeM) rfl ?_
  refine ⟨rfl, HG1.out.turn TZ (by omega), ?_⟩
  have k1 := HK.out
  exact ⟨TZ.os.trans k1.os, TZ.tape.trans k1.tape, TZ.output.trans k1.output, Nat.le_trans k1.size (Nat.le_of_eq TZ.size.symm), fun k hk hne => (TZ.block k (by omega)).trans (k1.block k hk hne)⟩
end Go.Proofs.YtoahljkifikbaaaGreat


/- What a member has to say, and whether it is right: small walks. -/
namespace Go.Proofs.YtoahljkifikbaaaGreat
open Go.RowKit Pl
set_option linter.unusedVariables false
set_option linter.unusedSimpArgs false

/-- whether texts are short. -/
def fitB (ts : List ByteArray) : Bool := ts.all fun t => decide (t.size ≤ 60)
/-- whether a number is a level. -/
def lvB (l : Int) : Bool := decide (1 ≤ l ∧ l ≤ 2)
def lvsB (lv : List Int) : Bool := lv.all lvB
/-- whether it may stand there to be said. -/
def sayB (lv : List Int) (tx : List ByteArray) : Bool := decide (tx.length ≤ 20) && (decide (lv.length = tx.length) && (lvsB lv && fitB tx))

end Go.Proofs.YtoahljkifikbaaaGreat


/- Tokens of which all is zero; what a member has to say, by the specification. Written by gen_mp.py. -/
namespace Go.Proofs.YtoahljkifikbaaaGreat
open Go.RowKit Pl
set_option linter.unusedVariables false
set_option linter.unusedSimpArgs false

/-- whether all of a token is zero. -/
def ntB (c r q a b : Int) (ws : List Int) : Bool := (c == 0) && ((r == 0) && ((q == 0) && ((a == 0) && ((b == 0) && ((ws.length : Int) == 0)))))

/-- the first k of them may be said. -/
def SaySt (lv : List Int) (tx : List ByteArray) (k : Nat) : Prop := (∀ t ∈ tx.take k, t.size ≤ 60) ∧ ∀ l ∈ lv.take k, lvB l = true
end Go.Proofs.YtoahljkifikbaaaGreat


/- Whether a member is right: the walks over both MateOk. Written by gen_mok.py. -/
namespace Go.Proofs.YtoahljkifikbaaaGreat
open Go.RowKit Pl
set_option linter.unusedVariables false
set_option linter.unusedSimpArgs false

/-- whether a member is right. -/
def Mt.ok (m : Mt) : Bool := ringB m.rid m.ms && (inB m.ms m.id && (iGo 0 m.its && (sayB m.lv m.tx && (decide (0 ≤ m.rd ∧ m.rd ≤ 1000000000) && (decide (0 ≤ m.se ∧ m.se ≤ 60) && (decide (0 ≤ m.li ∧ m.li ≤ ((aruP m.its : Nat) : Int)) && (decide (0 ≤ m.he ∧ m.he ≤ ((aruP m.its : Nat) : Int)) && (ntB m.la.c m.la.r m.la.q m.la.a m.la.b m.la.ws || tkB m.la.c m.la.r m.la.q m.la.a m.la.b m.la.ws))))))))

end Go.Proofs.YtoahljkifikbaaaGreat


/- Members copied by a law. Written by gen_tm.py. -/
namespace Go.Proofs.YtoahljkifikbaaaGreat
open Go.RowKit Pl
set_option linter.unusedVariables false
set_option linter.unusedSimpArgs false

end Go.Proofs.YtoahljkifikbaaaGreat


/- Members compared, marked and looked at again. Written by gen_em.py. -/
namespace Go.Proofs.YtoahljkifikbaaaGreat
open Go.RowKit Pl
set_option linter.unusedVariables false
set_option linter.unusedSimpArgs false

/-- a member whose lists are marks. -/
def markM (K : Nat) (m : Mt) : Mt :=
  ⟨m.id, m.rid, marks K m.ms.length, mkI (K + m.ms.length) m.its.length, marks (K + m.ms.length + 4 * m.its.length) m.lv.length, mkT (K + m.ms.length + 4 * m.its.length + m.lv.length) m.tx.length, m.rd, m.se, m.li, m.he,
    ⟨m.la.c, m.la.r, m.la.q, m.la.a, m.la.b, marks (K + m.ms.length + 4 * m.its.length + m.lv.length + m.tx.length) m.la.ws.length⟩⟩
def endM (K : Nat) (m : Mt) : Nat := K + m.ms.length + 4 * m.its.length + m.lv.length + m.tx.length + m.la.ws.length

end Go.Proofs.YtoahljkifikbaaaGreat


/- A new member: the walks over both MateNew. -/
namespace Go.Proofs.YtoahljkifikbaaaGreat
open Go.RowKit Pl
set_option linter.unusedVariables false

/-- a new member. -/
def newM (id i : Int) (ms : List Int) : Mt := ⟨id, i, ms, [], [], [], 0, 0, 0, 0, zTok⟩

end Go.Proofs.YtoahljkifikbaaaGreat


/- A new member: the walk over the specification's MateNew. -/
namespace Go.Proofs.YtoahljkifikbaaaGreat
open Go.RowKit Pl
set_option linter.unusedVariables false
set_option linter.unusedSimpArgs false

end Go.Proofs.YtoahljkifikbaaaGreat


/- The law on MateNew. Written by gen_lmn.py. -/
namespace Go.Proofs.YtoahljkifikbaaaGreat
open Go.RowKit Pl
set_option linter.unusedVariables false
set_option linter.unusedSimpArgs false

theorem own_nilS (w : World) (B : Nat) : OwnS w B (.slice none 0 0) [] := ⟨by simp, .inl ⟨rfl, rfl⟩⟩
theorem own_nilIt (w : World) (B : Nat) : SlI w B (.slice none 0 0) [] := Sl.zero w 39 4 B
theorem mto_zero (w : World) (B : Nat) : MtO w B zMt zMv := ⟨ownI_nil w B, own_nilIt w B, ownI_nil w B, own_nilS w B, ownI_nil w B, ap_none _ 0 0, ap_none _ 0 0, ap_none _ 0 0⟩
theorem mts_zero : MtS zMt := ⟨by decide, by decide, by decide, by decide, by decide, (fun x h => by cases h), (fun x h => by cases h), by decide⟩
/-- the plain answer. -/
def newP (id i : Int) (ms : List Int) : Mt := if (ringB i ms && inB ms id) = true then newM id i ms else zMt
end Go.Proofs.YtoahljkifikbaaaGreat


