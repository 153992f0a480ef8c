/- Joined texts: CWr CWt CPb CWl CSm CCp CWk CKt CCt1 CMn CMb CMw CMs1 CTm CEm CLmn CMo CMp CMq1. -/
import Derived.Test.YthdjkkiegecgnaaWq11
import Derived.Test.YthdjkkiegecgnaaWq8
import Derived.Test.YthdjkkiegecgnaaWq5
import Derived.Test.YthdjkkiegecgnaaWq12
import Derived.Test.YthdjkkiegecgnaaWq7
import Derived.Laws.MakeOwn
import Derived.BigQuiet
import Derived.Deep.QuietTactic
/- Contracts over lists that are read; what is appended is read. -/
namespace Go.Proofs.Ythdjkkiegecgnaa
open Go.RowKit Pl
set_option linter.unusedVariables false

theorem same_below {w w' : World} (h : w' = w) : Below w.heap.size w w' := by subst h; exact Below.refl _ _
section
variable {w : World} {v : Value}
theorem ringOk_r (i : Int) (ms : List Int) (h : Hid (RI w v ms)) (hl : ms.length ≤ 1048576) : Calls Try.prog 68 #[.agg #[.int .i64 i, v]] w fun e w' => e = .returned (.bool (ringB i ms)) ∧ Below w.heap.size w w' := by
  obtain ⟨ao, cap, rfl, hx⟩ := h.out; exact ringOk_any i ao cap ms w hx hl
theorem spRingOk_r (i : Int) (ms : List Int) (h : Hid (RI w v ms)) (hl : ms.length ≤ 1048576) : Calls Try.prog 78 #[.agg #[.int .i64 i, v]] w fun e w' => e = .returned (.bool (ringB i ms)) ∧ Below w.heap.size w w' := by
  obtain ⟨ao, cap, rfl, hx⟩ := h.out; exact spRingOk_any i ao cap ms w hx hl
theorem contains_r (ms : List Int) (d : Int) (h : Hid (RI w v ms)) (hl : ms.length ≤ 1048576) : Calls Try.prog 121 #[v, .int .i64 d] w fun e w' => e = .returned (.bool (inB ms d)) ∧ Below w.heap.size w w' := by
  obtain ⟨ao, cap, rfl, hx⟩ := h.out; exact (contains_any ao cap ms d w hx hl).mono fun e w' ⟨a, b⟩ => ⟨a, same_below b⟩
theorem lin_r (ms : List Int) (d : Int) (h : Hid (RI w v ms)) (hl : ms.length ≤ 1048576) : Calls Try.prog 80 #[v, .int .i64 d] w fun e w' => e = .returned (.bool (inB ms d)) ∧ Below w.heap.size w w' := by
  obtain ⟨ao, cap, rfl, hx⟩ := h.out; exact (lin_any ao cap ms d w hx hl).mono fun e w' ⟨a, b⟩ => ⟨a, same_below b⟩
end

theorem wp_catR {P : Program} {w : World} {o : Oper} {a : Act} {K : Act → World → Prop} {Q : Exit → Act → World → Prop}
    (s x : Operand) (t : TypeId) (ho : o.op = .call { callee := .builtin .append, args := #[s, x], argTypes := #[t, t] })
    (ht : P.underlying t = some (.slice 3)) (hinfo : (P.info? 3).map (fun i => (i.zero, i.size, i.bytes)) = some (some (.int .i64 0), 1, 8))
    (B : Nat) (v : Value) (xs : List Int) (hs : a.eval s = v) (hown : OwnI w B v xs)
    (u : Value) (ys : List Int) (hx : a.eval x = u) (hu : RI w u ys) (hn : xs.length + ys.length < 4000000) (hB : B ≤ w.heap.size) (hv : v ≠ .slice none 0 0)
    (h : ∀ v' w', OwnI w' B v' (xs ++ ys) → w.grownBy w' v.ownBlock → K (a.put o.dst v') w') : o.wp P a w K Q := by
  obtain ⟨i0, hi, hz0, hz1, hz2⟩ := info_parts hinfo
  obtain ⟨ao, cap, rfl, hr⟩ := hu
  have hcat : ∀ (ad : Addr), ao = some ad → (∀ j u, (ys.map (Value.int .i64))[j]? = some u → w.cell? (ad.add j) = some u) → o.wp P a w K Q := by
    intro ad had hcell
    subst had
    refine wp_append_own w s x t ho B 3 i0 (.int .i64 0) 1 8 ht hi hz0 hz1 hz2 rfl (by decide) v xs.length (xs.map (Value.int .i64)) hs hown ad ys.length cap (ys.map (Value.int .i64)) hx (by simp) hcell ?_ (by unfold maxLen; omega) (by omega) hB ?_
    · intro u hu'
      obtain ⟨y, _, rfl⟩ := List.mem_map.1 hu'
      rfl
    · intro v' w' hown' hg _
      exact h v' w' (by simpa [OwnI] using hown') hg
  by_cases h0 : 0 < ys.length
  · obtain ⟨b, off, rfl, _, _⟩ := hr 0 h0
    refine hcat ⟨b, off, none⟩ rfl fun j u hj => ?_
    have hjl : j < ys.length := by have := (List.getElem?_eq_some_iff.1 hj).1; simpa using this
    obtain ⟨b', off', e, _, hc⟩ := hr j hjl
    simp at e
    obtain ⟨rfl, rfl⟩ := e
    rw [Addr.add_lit, hc]
    simp [hjl] at hj
    rw [hj]
  · have e : ys = [] := List.eq_nil_of_length_eq_zero (by omega)
    subst e
    cases ao with
    | some ad => exact hcat ad rfl fun j u hj => by simp at hj
    | none =>
      have hc0 := h v w (by rw [List.append_nil]; exact hown) (World.grownBy.refl _ _)
      rcases hown.2 with ⟨hv0, _⟩ | ⟨g, cp, cur, hvv, _⟩
      · exact absurd hv0 hv
      · have hs' : Sl w 3 1 B v xs.length (xs.map (Value.int .i64)) := Sl.ofOwn hown
        have hsrc : Src P i0.size t (.slice none 0 cap) 0 [] w := Src.ofNil _ ht cap
        subst hvv
        have hroom : xs.length + 0 ≤ cp := by
          rcases hs'.2 with ⟨h1, _⟩ | ⟨g', off', cap', cur', h1, _, _, hle, _⟩
          · cases h1
          · simp at h1; omega
        unfold Oper.wp execOp
        have hr := run_append_room_src (P := P) w t t o.type 3 i0 ht hi g 0 xs.length cp (.slice none 0 cap) 0 [] hsrc hroom (fun j hj => by simp at hj) (fun j hj => by simp at hj)
        simp only [ho, resolve, invoke, builtin, Sem.run_bind, Sem.run_pure, Result.andThen_ok, List.map_toArray, List.map_cons, List.map_nil, hs, hx, List.length_nil, hr]
        exact hc0
theorem wpList_catR {P : Program} {w : World} {ops : Array Oper} {rest : List Oper} {o : Oper} {a : Act} {Q : Exit → Act → World → Prop}
    (hgd : o.guard = none) (s x : Operand) (t : TypeId) (ho : o.op = .call { callee := .builtin .append, args := #[s, x], argTypes := #[t, t] })
    (ht : P.underlying t = some (.slice 3)) (hinfo : (P.info? 3).map (fun i => (i.zero, i.size, i.bytes)) = some (some (.int .i64 0), 1, 8))
    (B : Nat) (v : Value) (xs : List Int) (hs : a.eval s = v) (hown : OwnI w B v xs)
    (u : Value) (ys : List Int) (hx : a.eval x = u) (hu : RI w u ys) (hn : xs.length + ys.length < 4000000) (hB : B ≤ w.heap.size) (hv : v ≠ .slice none 0 0)
    (h : ∀ v' w', OwnI w' B v' (xs ++ ys) → w.grownBy w' v.ownBlock → wpList P ops Q rest (a.put o.dst v') w') :
    wpList P ops Q (o :: rest) a w :=
  wpList_plain hgd fun _ hK => wp_catR s x t ho ht hinfo B v xs hs hown u ys hx hu hn hB hv fun v' w' h1 h2 => hK _ _ (h v' w' h1 h2)
end Go.Proofs.Ythdjkkiegecgnaa


/- What is appended is read: texts and items. -/
namespace Go.Proofs.Ythdjkkiegecgnaa
open Go.RowKit Pl
set_option linter.unusedVariables false

/-- a walk stops where a slice is built, a struct is stored, a call is made. -/
theorem wpList_haltB {P : Program} {w : World} {ops : Array Oper} {rest : List Oper} {o : Oper} {a : Act} {Q : Exit → Act → World → Prop} (t n : Nat) (ps : Array (Nat × Operand)) (ho : o.op = .buildSlice t n ps) (h : Stp (wpList P ops Q (o :: rest) a w)) : wpList P ops Q (o :: rest) a w := h.out
end Go.Proofs.Ythdjkkiegecgnaa


/- One element put behind a slice of the call's own, and which block it lies in then. No function of the program is named here. -/
namespace Go.Proofs.Ythdjkkiegecgnaa
open Go.RowKit Pl
set_option linter.unusedVariables false

section
variable {P : Program} {w : World}
end

section
variable {P : Program} {w : World} {ops : Array Oper} {rest : List Oper} {o : Oper} {a : Act} {Q : Exit → Act → World → Prop} {K : Act → World → Prop}
end
end Go.Proofs.Ythdjkkiegecgnaa


/- Lists of structs of any size, their cells row by row: read, put behind, joined, set. No function of the program is named here. -/
namespace Go.Proofs.Ythdjkkiegecgnaa
open Go.RowKit Pl
set_option linter.unusedVariables false

/-- the slice v holds these rows, each of so many cells. -/
def SlN (w : World) (T size B : Nat) (v : Value) (rs : List (List Value)) : Prop := Sl w T size B v rs.length rs.flatten ∧ ∀ r ∈ rs, r.length = size ∧ ∀ u ∈ r, u.oneCell' = true

theorem flat_len {s : Nat} : ∀ {rs : List (List Value)}, (∀ r ∈ rs, r.length = s) → rs.flatten.length = rs.length * s := by
  intro rs
  induction rs with
  | nil => intro _; simp
  | cons r rs ih =>
    intro h
    rw [List.flatten_cons, List.length_append, List.length_cons, ih fun r hr => h r (List.mem_cons_of_mem _ hr), h r (List.mem_cons_self ..), Nat.add_mul]
    omega
theorem flat_drop {s : Nat} : ∀ {rs : List (List Value)} (k : Nat), (∀ r ∈ rs, r.length = s) → rs.flatten.drop (k * s) = (rs.drop k).flatten := by
  intro rs
  induction rs with
  | nil => intro k _; simp
  | cons r rs ih =>
    intro k h
    cases k with
    | zero => simp
    | succ k =>
      have hr := h r (List.mem_cons_self ..)
      rw [List.flatten_cons, List.drop_succ_cons, ← ih k fun r hr => h r (List.mem_cons_of_mem _ hr), Nat.add_mul, List.drop_append, List.drop_eq_nil_of_le (by omega), List.nil_append]
      congr 1; omega
theorem flat_take {s : Nat} : ∀ {rs : List (List Value)} (k : Nat), (∀ r ∈ rs, r.length = s) → rs.flatten.take (k * s) = (rs.take k).flatten := by
  intro rs
  induction rs with
  | nil => intro k _; simp
  | cons r rs ih =>
    intro k h
    cases k with
    | zero => simp
    | succ k =>
      have hr := h r (List.mem_cons_self ..)
      rw [List.flatten_cons, List.take_succ_cons, List.flatten_cons, ← ih k fun r hr => h r (List.mem_cons_of_mem _ hr), Nat.add_mul, List.take_append, List.take_of_length_le (by omega)]
      congr 2; omega
theorem flat_row {s : Nat} {rs : List (List Value)} (h : ∀ r ∈ rs, r.length = s) {i : Nat} (hi : i < rs.length) : (rs.flatten.drop (i * s)).take s = rs[i] := by
  rw [flat_drop i h, List.drop_eq_getElem_cons hi, List.flatten_cons, List.take_append, List.take_of_length_le (by rw [h _ (List.getElem_mem hi)]; exact Nat.le_refl _), h _ (List.getElem_mem hi)]
  simp
theorem flat_set {s : Nat} {rs : List (List Value)} (h : ∀ r ∈ rs, r.length = s) {i : Nat} (hi : i < rs.length) (r : List Value) (hr : r.length = s) : rs.flatten.take (i * s) ++ r ++ rs.flatten.drop (i * s + r.length) = (rs.set i r).flatten := by
  rw [hr, show i * s + s = (i + 1) * s by rw [Nat.add_mul]; omega, flat_take i h, flat_drop (i + 1) h, List.set_eq_take_append_cons_drop, if_pos hi, List.flatten_append, List.flatten_cons]
  simp

section
variable {w w' : World} {T size B : Nat} {v : Value} {rs : List (List Value)}
theorem SlN.lens (h : SlN w T size B v rs) : ∀ r ∈ rs, r.length = size := fun r hr => (h.2 r hr).1
theorem SlN.form (h : SlN w T size B v rs) : ∃ s : Sv, v = .slice s.a s.n s.c ∧ s.n = rs.length := by
  obtain ⟨a, c, e⟩ := h.1.form
  exact ⟨⟨a, rs.length, c⟩, e, rfl⟩
theorem SlN.lt (h : SlN w T size B v rs) : ∀ k, v.ownBlock = some k → B ≤ k ∧ k < w.heap.size := h.1.lt
theorem SlN.keep (h : SlN w T size B v rs) (hk : ∀ k, v.ownBlock = some k → k < w.heap.size → w'.heap[k]? = w.heap[k]?) : SlN w' T size B v rs := ⟨h.1.keep hk, h.2⟩
theorem SlN.below (h : SlN w T size B v rs) (hb : Below w.heap.size w w') : SlN w' T size B v rs := ⟨h.1.below hb, h.2⟩
theorem SlN.down {B' : Nat} (h : SlN w T size B v rs) (hB : B' ≤ B) : SlN w T size B' v rs := ⟨h.1.down hB, h.2⟩
theorem SlN.nil (w : World) (T size B : Nat) : SlN w T size B (.slice none 0 0) [] := ⟨Sl.zero w T size B, fun r hr => by cases hr⟩
theorem SlN.made (w : World) (T size B : Nat) (hb : B ≤ w.heap.size) : SlN (w.alloc (.cells #[] T)) T size B (.slice (some ⟨w.heap.size, 0, none⟩) 0 0) [] := ⟨Sl.made w T size B hb, fun r hr => by cases hr⟩
theorem SlN.one (w : World) (T size B : Nat) (r : List Value) (hr : r.length = size) (h1 : r.all (·.oneCell') = true) (hb : B ≤ w.heap.size) : SlN (w.alloc (.cells r.toArray T)) T size B (.slice (some ⟨w.heap.size, 0, none⟩) 1 1) [r] :=
  ⟨⟨by simp [hr], .inr ⟨w.heap.size, 0, 1, r.toArray, rfl, hb, heap_alloc_new w _, Nat.le_refl _, by unfold maxLen; omega, by simp [hr], fun j hj => by simp⟩⟩, fun x hx => by simp at hx; subst hx; exact ⟨hr, List.all_eq_true.1 h1⟩⟩
/-- the block that it lies in has elements of this type. -/
theorem SlN.blk (h : SlN w T size B v rs) {k : Nat} (hk : v.ownBlock = some k) : ∃ cs, w.heap[k]? = some (.cells cs T (0, 0)) := by
  rcases h.1.2 with ⟨rfl, _⟩ | ⟨g, off, cap, cur, rfl, _, hg, _⟩
  · cases hk
  · cases hk; exact ⟨_, hg⟩
theorem SlN.box_ne {g T' : Nat} {cs : List Value} (h : SlN w T size B v rs) (hB : Bx w g T' cs) (hT : T' ≠ T) : ∀ k, v.ownBlock = some k → k ≠ g := fun k hk he => by
  subst he
  obtain ⟨c, hc⟩ := h.blk hk
  unfold Bx at hB
  rw [hc] at hB
  simp at hB
  exact hT hB.2.symm
theorem SlN.keepb {g T' : Nat} {cs : List Value} (h : SlN w T size B v rs) (hB : Bx w g T' cs) (hk : KeepBut g w w') (hT : T' ≠ T) : SlN w' T size B v rs :=
  h.keep fun k hb hlt => hk.block k hlt (h.box_ne hB hT k hb)
/-- a row, as it lies there. -/
theorem SlN.read (h : SlN w T size B v rs) {i : Nat} (hi : i < rs.length) :
    ∃ g off cap, v = .slice (some ⟨g, off, none⟩) rs.length cap ∧ B ≤ g ∧ g < w.heap.size ∧ w.rangeAt g (off + i * size) rs[i] := by
  obtain ⟨g, off, cap, hv, hb, hlt, hc, _⟩ := h.1.read (by omega)
  refine ⟨g, off, cap, hv, hb, hlt, fun j u hu => ?_⟩
  have hj : j < size := by rw [← h.lens _ (List.getElem_mem hi)]; exact (List.getElem?_eq_some_iff.1 hu).1
  have h2 := flat_row h.lens hi
  rw [← h2, List.getElem?_take, if_pos hj, List.getElem?_drop] at hu
  have := hc _ u hu
  rw [← Nat.add_assoc] at this
  exact this
theorem src_row {P : Program} (w : World) (t : TypeId) (ht : P.underlying t = some (.slice T)) (r : List Value) (hr : r.length = size) (h1 : ∀ u ∈ r, u.oneCell' = true) : Src P size t (.slice (some ⟨w.heap.size, 0, none⟩) 1 1) 1 r (w.alloc (.cells r.toArray T)) := by
  refine Src.ofSlice _ ht ⟨w.heap.size, 0, none⟩ 1 1 r (by omega) (fun j u hu => ?_) h1
  rw [Addr.add_lit, Nat.zero_add, cell_of_row _ _ _ _ T (0, 0) (heap_alloc_new w _)]
  simpa using hu
theorem SlN.snoc {P : Program} {w1 : World} {v' : Value} {r : List Value} (h : SlN w T size B v rs) (hs : Sl w1 T size B v' (rs.length + 1) (rs.flatten ++ r)) (hr : r.length = size) (h1 : ∀ u ∈ r, u.oneCell' = true) : SlN w1 T size B v' (rs ++ [r]) := by
  refine ⟨?_, fun x hx => ?_⟩
  · rw [List.length_append, List.flatten_append]
    simpa using hs
  · rcases List.mem_append.1 hx with hx | hx
    · exact h.2 x hx
    · simp at hx; subst hx; exact ⟨hr, h1⟩
end

section
variable {P : Program} {w : World} {ops : Array Oper} {rest : List Oper} {o : Oper} {a : Act} {Q : Exit → Act → World → Prop} {K : Act → World → Prop}
/-- one element put behind. -/
theorem wpList_pushN {T size : Nat} (hgd : o.guard = none) (s x : Operand) (t : TypeId) (ho : o.op = .call { callee := .builtin .append, args := #[s, x], argTypes := #[t, t] })
    (z : Value) (bytes : Nat) (ht : P.underlying t = some (.slice T)) (hinfo : (P.info? T).map (fun i => (i.zero, i.size, i.bytes)) = some (some z, size, bytes)) (hzs : z.cells.size = size) (hby : bytes ≤ 400)
    (B : Nat) (v : Value) (rs : List (List Value)) (hs : a.eval s = v) (hown : SlN w T size B v rs) (r : List Value) (hr : r.length = size) (h1 : r.all (·.oneCell') = true)
    (hx : a.eval x = .slice (some ⟨w.heap.size, 0, none⟩) 1 1) (hn : rs.length ≤ 1048576) (hB : B ≤ w.heap.size)
    (h : ∀ v' w', SlN w' T size B v' (rs ++ [r]) → w.grownBy w' v.ownBlock → Below B w w' → (v'.ownBlock = v.ownBlock ∨ v'.ownBlock = some (w.heap.size + 1)) → wpList P ops Q rest (a.put o.dst v') w') :
    wpList P ops Q (o :: rest) a (w.alloc (.cells r.toArray T)) := by
  have h1' : ∀ u ∈ r, u.oneCell' = true := List.all_eq_true.1 h1
  refine wpList_appendS hgd s x t ho z bytes ht hinfo hzs hs (Sl.alloc hown.1 _) _ 1 r hx (src_row w t ht r hr h1') (by unfold maxLen; omega) (Nat.le_trans (Nat.mul_le_mul (by omega : rs.length + 1 ≤ 1048577) hby) (by decide)) (by simp; omega) ?_
  intro v' w' h3 h2 h4
  have hg : w.grownBy w' v.ownBlock := ⟨h2.os, h2.tape, h2.output, Nat.le_trans (by simp) h2.size, fun k hk hne => (h2.block k (by simp; omega) hne).trans (heap_alloc_old w _ hk)⟩
  refine h v' w' (hown.snoc (P := P) h3 hr h1') hg ?_ ?_
  · exact ((Below.refl B w).alloc hB _).grown h2 (by simp; omega) (fun k hk => (Sl.lt hown.1 k hk).1)
  · simpa using h4
/-- a row is set. -/
theorem SlN.stored {T size B : Nat} {g off cap i : Nat} {rs : List (List Value)} (h : SlN w T size B (.slice (some ⟨g, off, none⟩) rs.length cap) rs) (hi : i < rs.length) (r : List Value) (hr : r.length = size) (h1 : ∀ u ∈ r, u.oneCell' = true) :
    w.there g (off + i * size) r.length ∧ SlN (w.setCells g (off + i * size) r) T size B (.slice (some ⟨g, off, none⟩) rs.length cap) (rs.set i r) ∧ TurnAt g w (w.setCells g (off + i * size) r) := by
  rcases h.1.2 with ⟨hv, _⟩ | ⟨g', off', cap', cur, hv, hb, hg, hc, hm, hs, ht⟩
  · simp at hv
  simp at hv
  obtain ⟨⟨rfl, rfl⟩, rfl⟩ := hv
  have hle : i * size + size ≤ rs.length * size := by
    have : (i + 1) * size ≤ rs.length * size := Nat.mul_le_mul_right _ hi
    rw [Nat.add_mul] at this; omega
  have hcs : rs.length * size ≤ cap * size := Nat.mul_le_mul_right _ hc
  have hin : off + i * size + r.length ≤ cur.size := by omega
  refine ⟨fun j hj => ⟨?_, frozen_of_row w g _ _ T hg⟩, ⟨?_, fun x hx => ?_⟩, setCells_turn r w g _⟩
  · rw [cell_of_row w g _ _ T (0, 0) hg, Array.getElem?_eq_getElem (by omega)]; rfl
  · obtain ⟨cur', q1, q2, q3, q4⟩ := setCells_heap r w g (off + i * size) cur T hg hin
    have hbx : Bx w g T cur.toList := by unfold Bx; simpa using hg
    have hbx2 := setCells_list r w g (off + i * size) T cur.toList hbx (by simpa using hin)
    have he : cur' = (cur.toList.take (off + i * size) ++ r ++ cur.toList.drop (off + i * size + r.length)).toArray := by
      unfold Bx at hbx2
      rw [q1] at hbx2
      simpa using hbx2
    have hfl : (rs.set i r).flatten = rs.flatten.take (i * size) ++ r ++ rs.flatten.drop (i * size + r.length) := (flat_set h.lens hi r hr).symm
    refine ⟨by rw [flat_len (s := size)]; intro x hx; rcases List.mem_or_eq_of_mem_set hx with hx | rfl; exact h.lens x hx; exact hr, .inr ⟨g, off, cap, cur', by simp, hb, q1, by simpa using hc, hm, by omega, fun j hj => ?_⟩⟩
    rw [List.length_set] at hj
    have hfr : rs.flatten.length = rs.length * size := flat_len h.lens
    by_cases hj1 : j < i * size
    · rw [q3 _ (by omega), ht j hj, hfl, List.append_assoc, List.getElem?_append_left (by rw [List.length_take]; omega), List.getElem?_take, if_pos hj1]
    · by_cases hj2 : j < i * size + r.length
      · have h5 := q4 (j - i * size) (by omega)
        rw [show off + i * size + (j - i * size) = off + j by omega] at h5
        rw [h5, hfl, List.append_assoc, List.getElem?_append_right (by rw [List.length_take]; omega), List.getElem?_append_left (by rw [List.length_take]; omega), List.length_take]
        congr 1; omega
      · have h6 : cur'[off + j]? = cur[off + j]? := by
          rw [he]
          simp only [List.getElem?_toArray]
          rw [List.getElem?_append_right (by simp [List.length_take]; omega), List.getElem?_drop, ← Array.getElem?_toList]
          congr 1
          simp [List.length_take]; omega
        rw [h6, ht j hj, hfl, List.append_assoc, List.getElem?_append_right (by rw [List.length_take]; omega), List.getElem?_append_right (by rw [List.length_take]; omega), List.getElem?_drop, List.length_take]
        congr 1; omega
  · rcases List.mem_or_eq_of_mem_set hx with hx | rfl
    · exact h.2 x hx
    · exact ⟨hr, h1⟩
end
end Go.Proofs.Ythdjkkiegecgnaa


/- Members measured. -/
namespace Go.Proofs.Ythdjkkiegecgnaa
open Go.RowKit Pl
set_option linter.unusedVariables false
set_option linter.unusedSimpArgs false

/-- what is left of a budget, or nothing. -/
def Left (L n : Nat) (e : Ending) : Prop := e = .returned (.int .i64 (-1)) ∨ ∃ z : Nat, e = .returned (.int .i64 z) ∧ z + n = L

theorem RI.len {w : World} {s : Sv} {xs : List Int} (h : RI w s.v xs) : s.n = xs.length := by
  obtain ⟨ao, cap, h1, _⟩ := h; unfold Sv.v at h1; simp at h1; exact h1.2.1
theorem RT.len {w : World} {s : Sv} {xs : List ByteArray} (h : RT w s.v xs) : s.n = xs.length := by
  obtain ⟨ao, cap, h1, _⟩ := h; unfold Sv.v at h1; simp at h1; exact h1.2.1
theorem RIt.len {w : World} {s : Sv} {xs : List It} (h : RIt w s.v xs) : s.n = xs.length := by
  obtain ⟨ao, cap, h1, _⟩ := h; unfold Sv.v at h1; simp at h1; exact h1.2.1
/-- a member's lists are no longer than can be. -/
structure MtL (m : Mt) : Prop where
  ms : m.ms.length ≤ 9223372036854775807
  its : m.its.length ≤ 9223372036854775807
  lv : m.lv.length ≤ 9223372036854775807
  tx : m.tx.length ≤ 9223372036854775807
  ws : m.la.ws.length ≤ 9223372036854775807
  it : ∀ x ∈ m.its, x.2.2.2.size ≤ 9223372036854775807
  te : ∀ x ∈ m.tx, x.size ≤ 9223372036854775807
/-- what is left when a member has been measured. -/
def LeftM (m : Mt) (e : Ending) : Prop := e = .returned (.int .i64 (-1)) ∨ ∃ z : Nat, e = .returned (.int .i64 z) ∧ MtS m ∧ z ≤ 1048576

end Go.Proofs.Ythdjkkiegecgnaa


/- Members copied: the walk over the specification's l10Copy. Written by gen_cp.py. -/
namespace Go.Proofs.Ythdjkkiegecgnaa
open Go.RowKit Pl
set_option linter.unusedVariables false
set_option linter.unusedSimpArgs false

/-- a member's lists lie there, whoever made them. -/
structure MtP (w : World) (m : Mt) (v : Mv) : Prop where
  ms : OwnI w 0 v.ms.v m.ms
  its : SlI w 0 v.its.v m.its
  lv : OwnI w 0 v.lv.v m.lv
  tx : OwnS w 0 v.tx.v m.tx
  ws : OwnI w 0 v.ws.v m.la.ws
theorem MtO.p {w : World} {B : Nat} {m : Mt} {v : Mv} (h : MtO w B m v) : MtP w m v := ⟨h.ms.down (Nat.zero_le _), h.its.down (Nat.zero_le _), h.lv.down (Nat.zero_le _), h.tx.down (Nat.zero_le _), h.ws.down (Nat.zero_le _)⟩
theorem MtP.r {w : World} {m : Mt} {v : Mv} (h : MtP w m v) : MtR w m v := ⟨h.ms.ri, h.its.rit, h.lv.ri, h.tx.rt, h.ws.ri⟩
theorem MtP.keep {w w' : World} {m : Mt} {v : Mv} (h : MtP w m v) (hk : ∀ k, v.own k → k < w.heap.size → w'.heap[k]? = w.heap[k]?) : MtP w' m v :=
  ⟨h.ms.keep fun k a b => hk k (.inl a) b, h.its.keep fun k a b => hk k (.inr (.inl a)) b, h.lv.keep fun k a b => hk k (.inr (.inr (.inl a))) b, h.tx.keep' fun k a b => hk k (.inr (.inr (.inr (.inl a)))) b, h.ws.keep fun k a b => hk k (.inr (.inr (.inr (.inr a)))) b⟩
theorem MtP.later {w w' : World} {m : Mt} {v : Mv} (h : MtP w m v) (hb : Below w.heap.size w w') : MtP w' m v := h.keep fun k _ hk => hb.block k hk
theorem Pl.OwnI.sv {w : World} {B : Nat} {v : Value} {xs : List Int} (h : OwnI w B v xs) : ∃ s : Sv, v = .slice s.a s.n s.c := by obtain ⟨a, c, h1⟩ := h.form; exact ⟨⟨a, xs.length, c⟩, h1⟩
theorem Pl.OwnS.sv {w : World} {B : Nat} {v : Value} {xs : List ByteArray} (h : OwnS w B v xs) : ∃ s : Sv, v = .slice s.a s.n s.c := by obtain ⟨a, c, h1⟩ := h.form; exact ⟨⟨a, xs.length, c⟩, h1⟩
theorem SlI.sv {w : World} {B : Nat} {v : Value} {xs : List It} (h : SlI w B v xs) : ∃ s : Sv, v = .slice s.a s.n s.c := by obtain ⟨a, c, h1⟩ := Sl.form h; exact ⟨⟨a, xs.length, c⟩, h1⟩
end Go.Proofs.Ythdjkkiegecgnaa


/- A ring at work, in plain words, and where it lies. -/
namespace Go.Proofs.Ythdjkkiegecgnaa
open Go.RowKit Pl
set_option linter.unusedVariables false

/-- what is on the way. -/
structure Fl where
  to : Int
  tk : Bool
  t : Tok
  x : It
/-- cells of a member, of what is on the way, of a list of lists. -/
def mcel (e : Mt × Mv) : List Value := [.int .i64 e.1.id, .int .i64 e.1.rid, .slice e.2.ms.a e.2.ms.n e.2.ms.c, .slice e.2.its.a e.2.its.n e.2.its.c, .slice e.2.lv.a e.2.lv.n e.2.lv.c, .slice e.2.tx.a e.2.tx.n e.2.tx.c, .int .i64 e.1.rd, .int .i64 e.1.se, .int .i64 e.1.li, .int .i64 e.1.he, .int .i64 e.1.la.c, .int .i64 e.1.la.r, .int .i64 e.1.la.q, .int .i64 e.1.la.a, .int .i64 e.1.la.b, .slice e.2.ws.a e.2.ws.n e.2.ws.c]
def fcel (e : Fl × Sv) : List Value := [.int .i64 e.1.to, .bool e.1.tk, .int .i64 e.1.t.c, .int .i64 e.1.t.r, .int .i64 e.1.t.q, .int .i64 e.1.t.a, .int .i64 e.1.t.b, .slice e.2.a e.2.n e.2.c, .int .i64 e.1.x.1, .int .i64 e.1.x.2.1, .int .i64 e.1.x.2.2.1, .string e.1.x.2.2.2]
def hcel (e : List It × Sv) : List Value := [.slice e.2.a e.2.n e.2.c]
/-- lists of members, of what is on the way, of lists of items, that lie there. -/
def MsP (w : World) (B : Nat) (v : Value) (es : List (Mt × Mv)) : Prop := SlN w 32 16 B v (es.map mcel) ∧ ∀ e ∈ es, MtP w e.1 e.2
def FsP (w : World) (B : Nat) (v : Value) (es : List (Fl × Sv)) : Prop := SlN w 91 12 B v (es.map fcel) ∧ ∀ e ∈ es, OwnI w 0 e.2.v e.1.t.ws
def HsP (w : World) (B : Nat) (v : Value) (es : List (List It × Sv)) : Prop := SlN w 27 1 B v (es.map hcel) ∧ ∀ e ∈ es, SlI w 0 e.2.v e.1
/-- a ring at work: its ring, its members, what is on the way, what was heard and said, and the slices. -/
structure Wv where
  rid : Int
  ms : List Int
  mv : Sv
  ma : List (Mt × Mv)
  mav : Sv
  fl : List (Fl × Sv)
  flv : Sv
  he : List (List It × Sv)
  hev : Sv
  sa : List It
  sav : Sv
def Wv.cells (k : Wv) : List Value := [.int .i64 k.rid, .slice k.mv.a k.mv.n k.mv.c, .slice k.mav.a k.mav.n k.mav.c, .slice k.flv.a k.flv.n k.flv.c, .slice k.hev.a k.hev.n k.hev.c, .slice k.sav.a k.sav.n k.sav.c]
structure WkP (w : World) (k : Wv) : Prop where
  ring : OwnI w 0 k.mv.v k.ms
  ma : MsP w 0 k.mav.v k.ma
  fl : FsP w 0 k.flv.v k.fl
  he : HsP w 0 k.hev.v k.he
  sa : SlI w 0 k.sav.v k.sa
section
variable {w w' : World} {B : Nat} {v : Value}
/-- lists stay where a box of another type alone may have turned. -/
theorem MtP.keepb {m : Mt} {u : Mv} {g T : Nat} {cs : List Value} (h : MtP w m u) (hB : Bx w g T cs) (hk : KeepBut g w w') (h3 : T ≠ 3) (h9 : T ≠ 9) (hi : T ≠ 38) : MtP w' m u :=
  ⟨h.ms.keepb hB hk h3, h.its.keepb hB hk hi, h.lv.keepb hB hk h3, h.tx.keepb hB hk h9, h.ws.keepb hB hk h3⟩
theorem MsP.below {es : List (Mt × Mv)} (h : MsP w B v es) (hb : Below w.heap.size w w') : MsP w' B v es := ⟨h.1.below hb, fun e he => (h.2 e he).later hb⟩
theorem FsP.below {es : List (Fl × Sv)} (h : FsP w B v es) (hb : Below w.heap.size w w') : FsP w' B v es := ⟨h.1.below hb, fun e he => (h.2 e he).keep fun k _ hk => hb.block k hk⟩
theorem HsP.below {es : List (List It × Sv)} (h : HsP w B v es) (hb : Below w.heap.size w w') : HsP w' B v es := ⟨h.1.below hb, fun e he => (h.2 e he).below hb⟩
theorem MsP.down {B' : Nat} {es : List (Mt × Mv)} (h : MsP w B v es) (hB : B' ≤ B) : MsP w B' v es := ⟨h.1.down hB, h.2⟩
theorem FsP.down {B' : Nat} {es : List (Fl × Sv)} (h : FsP w B v es) (hB : B' ≤ B) : FsP w B' v es := ⟨h.1.down hB, h.2⟩
theorem HsP.down {B' : Nat} {es : List (List It × Sv)} (h : HsP w B v es) (hB : B' ≤ B) : HsP w B' v es := ⟨h.1.down hB, h.2⟩
theorem MsP.keepb {es : List (Mt × Mv)} {g : Nat} {cs : List Value} (h : MsP w B v es) (hB : Bx w g 65 cs) (hk : KeepBut g w w') : MsP w' B v es := ⟨h.1.keepb hB hk (by decide), fun e he => (h.2 e he).keepb hB hk (by decide) (by decide) (by decide)⟩
theorem FsP.keepb {es : List (Fl × Sv)} {g : Nat} {cs : List Value} (h : FsP w B v es) (hB : Bx w g 65 cs) (hk : KeepBut g w w') : FsP w' B v es := ⟨h.1.keepb hB hk (by decide), fun e he => (h.2 e he).keepb hB hk (by decide)⟩
theorem HsP.keepb {es : List (List It × Sv)} {g : Nat} {cs : List Value} (h : HsP w B v es) (hB : Bx w g 65 cs) (hk : KeepBut g w w') : HsP w' B v es := ⟨h.1.keepb hB hk (by decide), fun e he => (h.2 e he).keepb hB hk (by decide)⟩
theorem WkP.below {k : Wv} (h : WkP w k) (hb : Below w.heap.size w w') : WkP w' k := ⟨h.ring.keep fun k _ hk => hb.block k hk, h.ma.below hb, h.fl.below hb, h.he.below hb, h.sa.below hb⟩
theorem WkP.keepb {k : Wv} {g : Nat} {cs : List Value} (h : WkP w k) (hB : Bx w g 65 cs) (hk : KeepBut g w w') : WkP w' k :=
  ⟨h.ring.keepb hB hk (by decide), h.ma.keepb hB hk, h.fl.keepb hB hk, h.he.keepb hB hk, h.sa.keepb hB hk (by decide)⟩
end
/-- what the types hold. -/
theorem Try.infoMt : (Try.prog.info? 32).map (fun i => (i.zero, i.size, i.bytes)) = some (some (.agg #[.int .i64 0, .int .i64 0, .slice none 0 0, .slice none 0 0, .slice none 0 0, .slice none 0 0, .int .i64 0, .int .i64 0, .int .i64 0, .int .i64 0, .int .i64 0, .int .i64 0, .int .i64 0, .int .i64 0, .int .i64 0, .slice none 0 0]), 16, 208) := by kernel_rfl
theorem Try.sizeWk : (Try.prog.info? 65).map (·.size) = some 6 := by kernel_rfl
theorem Try.sizeMts : (Try.prog.info? 61).map (·.size) = some 1 := by kernel_rfl
theorem Try.sizeFls : (Try.prog.info? 62).map (·.size) = some 1 := by kernel_rfl
theorem Try.sizeIss : (Try.prog.info? 63).map (·.size) = some 1 := by kernel_rfl
theorem Try.infoIt : (Try.prog.info? 27).map (fun i => (i.zero, i.size, i.bytes)) = some (some (.slice none 0 0), 1, 24) := by kernel_rfl
theorem Try.sizeFl : (Try.prog.info? 91).map (·.size) = some 12 := by kernel_rfl
end Go.Proofs.Ythdjkkiegecgnaa


/- Blocks of other types stay. -/
namespace Go.Proofs.Ythdjkkiegecgnaa
open Go.RowKit Pl
set_option linter.unusedVariables false

/-- blocks whose elements are of none of these types stay as they are. -/
structure KeepTy (S : Nat → Prop) (w w' : World) : Prop where
  os : w'.os = w.os
  tape : w'.tape = w.tape
  output : w'.output = w.output
  size : w.heap.size ≤ w'.heap.size
  block : ∀ k, k < w.heap.size → (∀ cs T z, w.heap[k]? = some (.cells cs T z) → ¬ S T) → w'.heap[k]? = w.heap[k]?
section
variable {S : Nat → Prop} {w w' w'' : World}
theorem KeepTy.refl (S : Nat → Prop) (w : World) : KeepTy S w w := ⟨rfl, rfl, rfl, Nat.le_refl _, fun _ _ _ => rfl⟩
theorem KeepTy.trans (h : KeepTy S w w') (k : KeepTy S w' w'') : KeepTy S w w'' :=
  ⟨k.os.trans h.os, k.tape.trans h.tape, k.output.trans h.output, Nat.le_trans h.size k.size, fun b hb ht => by
    have h1 := h.block b hb ht
    exact (k.block b (Nat.lt_of_lt_of_le hb h.size) (fun cs T z hc => ht cs T z (h1 ▸ hc))).trans h1⟩
theorem KeepTy.ofGrown {row : Option Nat} (h : w.grownBy w' row) (hT : ∀ k, row = some k → ∃ cs T z, w.heap[k]? = some (.cells cs T z) ∧ S T) : KeepTy S w w' :=
  ⟨h.os, h.tape, h.output, h.size, fun k hk ht => h.block k hk fun e => by
    obtain ⟨cs, T, z, h1, h2⟩ := hT k e.symm
    exact ht cs T z h1 h2⟩
theorem KeepTy.ofTurn {g T : Nat} {cs : List Value} (hB : Bx w g T cs) (h : TurnAt g w w') (hT : S T) : KeepTy S w w' :=
  ⟨h.os, h.tape, h.output, Nat.le_of_eq h.size.symm, fun k hk ht => h.block k fun e => by subst e; exact ht _ T _ hB hT⟩
theorem KeepTy.ofPush {T size B : Nat} {v : Value} {rs : List (List Value)} (hs : SlN w T size B v rs) (h : w.grownBy w' v.ownBlock) (hT : S T) : KeepTy S w w' :=
  .ofGrown h fun k hk => by obtain ⟨cs, hc⟩ := hs.blk hk; exact ⟨cs, T, _, hc, hT⟩
theorem Bx.kt {g T : Nat} {cs : List Value} (h : Bx w g T cs) (k : KeepTy S w w') (hS : ¬ S T) : Bx w' g T cs := (k.block g h.lt fun cs' T' z hc => by
  unfold Bx at h; rw [h] at hc; simp at hc; rw [← hc.2.1]; exact hS).trans h
theorem SlN.kt {T size B : Nat} {v : Value} {rs : List (List Value)} (h : SlN w T size B v rs) (k : KeepTy S w w') (hS : ¬ S T) : SlN w' T size B v rs :=
  h.keep fun b hb hlt => k.block b hlt fun cs T' z hc => by
    obtain ⟨cs', hc'⟩ := h.blk hb
    rw [hc'] at hc; simp at hc; rw [← hc.2.1]; exact hS
theorem SlI.kt {B : Nat} {v : Value} {ts : List It} (h : SlI w B v ts) (k : KeepTy S w w') (hS : ¬ S 38) : SlI w' B v ts :=
  h.keep fun b hb hlt => k.block b hlt fun cs T' z hc => by
    obtain ⟨cs', hc'⟩ := own_is_it h hb
    rw [hc'] at hc; simp at hc; rw [← hc.2.1]; exact hS
theorem Pl.OwnI.kt {B : Nat} {v : Value} {xs : List Int} (h : OwnI w B v xs) (k : KeepTy S w w') (hS : ¬ S 3) : OwnI w' B v xs :=
  h.keep fun b hb hlt => k.block b hlt fun cs T' z hc => by
    obtain ⟨cs', hc'⟩ := own_is_i h hb
    rw [hc'] at hc; simp at hc; rw [← hc.2.1]; exact hS
theorem Pl.OwnS.kt {B : Nat} {v : Value} {xs : List ByteArray} (h : OwnS w B v xs) (k : KeepTy S w w') (hS : ¬ S 9) : OwnS w' B v xs :=
  h.keep' fun b hb hlt => k.block b hlt fun cs T' z hc => by
    obtain ⟨cs', hc'⟩ := own_is_s h hb
    rw [hc'] at hc; simp at hc; rw [← hc.2.1]; exact hS
theorem MtP.kt {m : Mt} {u : Mv} (h : MtP w m u) (k : KeepTy S w w') (h3 : ¬ S 3) (h9 : ¬ S 9) (hi : ¬ S 38) : MtP w' m u :=
  ⟨h.ms.kt k h3, h.its.kt k hi, h.lv.kt k h3, h.tx.kt k h9, h.ws.kt k h3⟩
end
/-- the types of the parts of a ring at work that are written into. -/
def wkT (T : Nat) : Prop := T = 32 ∨ T = 27 ∨ T = 65 ∨ T = 91
end Go.Proofs.Ythdjkkiegecgnaa


/- Texts copied: the walk over copyOfTexts. -/
namespace Go.Proofs.Ythdjkkiegecgnaa
open Go.RowKit Pl
set_option linter.unusedVariables false

end Go.Proofs.Ythdjkkiegecgnaa


/- A new member: the walks over isMember, copyOfRing and both MateNew. -/
namespace Go.Proofs.Ythdjkkiegecgnaa
open Go.RowKit Pl
set_option linter.unusedVariables false

set_option maxRecDepth 100000 in
set_option maxHeartbeats 1000000 in
theorem isMember_any (id i : Int) (v : Value) (ms : List Int) (w : World) (h : Hid (RI w v ms)) (hl : ms.length ≤ 1048576) :
    Calls Try.prog 57 #[.int .i64 id, .agg #[.int .i64 i, v]] w fun e w' => e = .returned (.bool (ringB i ms && inB ms id)) ∧ Below w.heap.size w w' := by
  have HB : Hid (Bx (w.alloc (.cells #[.int .i64 i, v] 26)) w.heap.size 26 [.int .i64 i, v]) := Bx.new w 26 _
  have HL : Hid (Below w.heap.size w (w.alloc (.cells #[.int .i64 i, v] 26))) := (Below.refl _ _).alloc (Nat.le_refl _) _
  have HX : Hid (RI (w.alloc (.cells #[.int .i64 i, v] 26)) v ms) := h.out.stays HL.out
  clear h
  go_enter Try.func57, Try.ntmps57
  go_wp2_with fail
  generalize w.alloc (.cells #[.int .i64 i, v] 26) = W at *
  refine (ringOk_r i ms HX hl).mono ?_
  rintro e w1 ⟨rfl, b1⟩
  have B1 : Hid (Below w.heap.size w w1) := bl_next HL.out b1
  have X1 : Hid (RI w1 v ms) := HX.out.stays b1
  have c0 : w1.cell? ⟨w.heap.size, 0, none⟩ = some (.int .i64 i) := (HB.out.later b1).cell 0
  have c1 : w1.cell? ⟨w.heap.size, 1, none⟩ = some v := (HB.out.later b1).cell 1
  clear HB HL HX b1
  obtain ⟨R, hR⟩ : ∃ R, ringB i ms = R := ⟨_, rfl⟩
  rw [hR]
  have HR : Hid (ringB i ms = R) := hR
  clear hR
  cases R with
  | false =>
    go_wp2_with fail
    go_ret
    exact ⟨by rw [HR.out]; rfl, B1.out⟩
  | true =>
    go_wp2_with fail
    refine (contains_r ms id X1 hl).mono ?_
    rintro e w2 ⟨rfl, b2⟩
    have B2 : Hid (Below w.heap.size w w2) := bl_next B1.out b2
    clear b2
    go_wp2_with fail
    go_ret
    exact ⟨by rw [HR.out]; rfl, B2.out⟩

set_option maxRecDepth 100000 in
set_option maxHeartbeats 1000000 in
theorem copyRing_any (i : Int) (v : Value) (ms : List Int) (w : World) (h : Hid (RI w v ms)) (hl : ms.length ≤ 1048576) :
    Calls Try.prog 65 #[.agg #[.int .i64 i, v]] w fun e w' => ∃ v', e = .returned (.agg #[.int .i64 i, v']) ∧ OwnI w' w.heap.size v' ms ∧ Below w.heap.size w w' := by
  have hn1 : (w.alloc (.cells #[.int .i64 i, v] 26)).heap.size = w.heap.size + 1 := by simp
  have hn2 : ((w.alloc (.cells #[.int .i64 i, v] 26)).alloc (.cells #[.int .i64 0, .slice none 0 0] 26)).heap.size = w.heap.size + 2 := by simp
  have HA : Hid (Bx (((w.alloc (.cells #[.int .i64 i, v] 26)).alloc (.cells #[.int .i64 0, .slice none 0 0] 26)).alloc (.cells #[] 3)) w.heap.size 26 [.int .i64 i, v]) := by
    have h := Bx.new w 26 [.int .i64 i, v]
    exact h.stays (B := w.heap.size + 1) (((Below.refl _ _).alloc (by rw [hn1]; exact Nat.le_refl _) _).alloc (by rw [hn2]; omega) _) (by omega)
  have HR : Hid (Bx (((w.alloc (.cells #[.int .i64 i, v] 26)).alloc (.cells #[.int .i64 0, .slice none 0 0] 26)).alloc (.cells #[] 3)) (w.heap.size + 1) 26 [.int .i64 0, .slice none 0 0]) := by
    have h := Bx.new (w.alloc (.cells #[.int .i64 i, v] 26)) 26 [.int .i64 0, .slice none 0 0]
    rw [hn1] at h
    exact h.stays (B := w.heap.size + 2) ((Below.refl _ _).alloc (by rw [hn2]; exact Nat.le_refl _) _) (by omega)
  have HO : Hid (OwnI (((w.alloc (.cells #[.int .i64 i, v] 26)).alloc (.cells #[.int .i64 0, .slice none 0 0] 26)).alloc (.cells #[] 3)) w.heap.size (.slice (some ⟨w.heap.size + 2, 0, none⟩) 0 0) []) := by
    have h := OwnI.made ((w.alloc (.cells #[.int .i64 i, v] 26)).alloc (.cells #[.int .i64 0, .slice none 0 0] 26)) w.heap.size (by rw [hn2]; omega)
    rw [hn2] at h
    exact h
  have HB : Hid (Below w.heap.size w (((w.alloc (.cells #[.int .i64 i, v] 26)).alloc (.cells #[.int .i64 0, .slice none 0 0] 26)).alloc (.cells #[] 3))) := (((Below.refl _ _).alloc (Nat.le_refl _) _).alloc (by simp) _).alloc (by simp; omega) _
  have HU : Hid (RI (((w.alloc (.cells #[.int .i64 i, v] 26)).alloc (.cells #[.int .i64 0, .slice none 0 0] 26)).alloc (.cells #[] 3)) v ms) := h.out.stays HB.out
  have hsz : w.heap.size ≤ (((w.alloc (.cells #[.int .i64 i, v] 26)).alloc (.cells #[.int .i64 0, .slice none 0 0] 26)).alloc (.cells #[] 3)).heap.size := HB.out.size
  have a1 := HA.out.cell 1
  clear h hn1 hn2
  go_enter Try.func65, Try.ntmps65
  go_wp2_with (first | (at_builtin; refine wpList_catR rfl _ _ 24 rfl Try.underlying24 Try.info3' w.heap.size (.slice (some ⟨w.heap.size + 2, 0, none⟩) 0 0) [] rfl HO.out _ ms rfl HU.out (by simp; omega) hsz (fun h => by cases h) ?_; intro v1 w1 hv1 hg1; have hs1 : Hid (World.grownBy _ w1 (some (w.heap.size + 2))) := hg1; have ht1 : Hid (OwnI w1 w.heap.size v1 ms) := hv1; clear hv1 hg1; refine Stp.here ?_))
  refine Stp.go ?_
  have hv1 := ht1.out
  have hg1 := hs1.out
  obtain ⟨ao1, cap1, hf1⟩ := hv1.form
  subst hf1
  generalize (((w.alloc (.cells #[.int .i64 i, v] 26)).alloc (.cells #[.int .i64 0, .slice none 0 0] 26)).alloc (.cells #[] 3)) = W at *
  have A1 : Hid (Bx w1 w.heap.size 26 [.int .i64 i, v]) := HA.out.grown hg1 (by simp)
  have R1 : Hid (Bx w1 (w.heap.size + 1) 26 [.int .i64 0, .slice none 0 0]) := HR.out.grown hg1 (by simp)
  have B1 : Hid (Below w.heap.size w w1) := HB.out.grown hg1 hsz (fun k hk => by simp at hk; omega)
  have V1 : Hid (OwnI w1 w.heap.size (.slice ao1 ms.length cap1) ms) := hv1
  clear hs1 ht1 hv1 hg1 HA HR HB HO HU hsz a1
  have c1 := A1.out.cell 1
  have f1 := A1.out.frozen 1
  have T2 := (TurnAt.refl w.heap.size w1).setCell 1 (.slice ao1 ms.length cap1)
  have O2 : Hid (Bx (w1.setCell ⟨w.heap.size, 1, none⟩ (.slice ao1 ms.length cap1)) w.heap.size 26 [.int .i64 i, .slice ao1 ms.length cap1]) := A1.out.set 1 (.slice ao1 ms.length cap1)
  have R2 : Hid (Bx (w1.setCell ⟨w.heap.size, 1, none⟩ (.slice ao1 ms.length cap1)) (w.heap.size + 1) 26 [.int .i64 0, .slice none 0 0]) := R1.out.turn T2 (by omega)
  have B2 : Hid (Below w.heap.size w (w1.setCell ⟨w.heap.size, 1, none⟩ (.slice ao1 ms.length cap1))) := B1.out.trans (T2.below (by omega))
  have V2 : Hid (OwnI (w1.setCell ⟨w.heap.size, 1, none⟩ (.slice ao1 ms.length cap1)) w.heap.size (.slice ao1 ms.length cap1) ms) := V1.out.keep fun k hk _ => T2.block k (fun e => bx_i_ne V1.out A1.out (by decide) (e ▸ hk))
  have o0 := O2.out.cell 0
  have o1 := O2.out.cell 1
  have r0 := R2.out.cell 0
  have r1 := R2.out.cell 1
  have z0 := R2.out.frozen 0
  have z1 := R2.out.frozen 1
  have R3 : Bx _ (w.heap.size + 1) 26 [.int .i64 i, .slice ao1 ms.length cap1] := (R2.out.set 0 (.int .i64 i)).set 1 (.slice ao1 ms.length cap1)
  have T3 := ((TurnAt.refl (w.heap.size + 1) (w1.setCell ⟨w.heap.size, 1, none⟩ (.slice ao1 ms.length cap1))).setCell 0 (.int .i64 i)).setCell 1 (.slice ao1 ms.length cap1)
  have B3 := B2.out.trans (T3.below (by omega))
  have V3 := V2.out.keep fun k hk _ => T3.block k (fun e => bx_i_ne V2.out R2.out (by decide) (e ▸ hk))
  clear T2 T3 R1 A1 B1 V1 V2 R2 O2 B2
  go_wp2_with fail
  generalize ((w1.setCell ⟨w.heap.size, 1, none⟩ (.slice ao1 ms.length cap1)).setCell ⟨w.heap.size + 1, 0, none⟩ (.int .i64 i)).setCell ⟨w.heap.size + 1, 1, none⟩ (.slice ao1 ms.length cap1) = W3 at *
  have q0 := R3.cell 0
  have q1 := R3.cell 1
  refine bodyPost_ret (v := .agg #[.int .i64 i, .slice ao1 ms.length cap1]) (by simp [results, Try.results65, go_sem, q0, q1]) rfl ?_
  exact ⟨_, rfl, V3, B3⟩
end Go.Proofs.Ythdjkkiegecgnaa


/- A member at work: the walks over memberOf and mate. Written by gen_mb.py. -/
namespace Go.Proofs.Ythdjkkiegecgnaa
open Go.RowKit Pl
set_option linter.unusedVariables false
set_option linter.unusedSimpArgs false

theorem copyRing_s (i : Int) (s : Sv) (ms : List Int) (w : World) (h : Hid (RI w s.v ms)) (hl : ms.length ≤ 1048576) :
    Calls Try.prog 65 #[.agg #[.int .i64 i, .slice s.a s.n s.c]] w fun e w' => ∃ u : Sv, e = .returned (.agg #[.int .i64 i, .slice u.a u.n u.c]) ∧ OwnI w' w.heap.size u.v ms ∧ Below w.heap.size w w' :=
  (copyRing_any i s.v ms w h hl).mono fun e w' ⟨v, a, b, c⟩ => by obtain ⟨u, rfl⟩ := b.sv; exact ⟨u, a, b, c⟩

/-- a member at work: what its box holds; its items stand in its store alone, 'it' is what its Mate has in their place. -/
def MbB (w : World) (g : Nat) (m : Mt) (u : Mv) (it : Sv) : Prop := Bx w g 115 [.slice u.its.a u.its.n u.its.c, .int .i64 m.id, .int .i64 m.rid, .slice u.ms.a u.ms.n u.ms.c, .slice it.a it.n it.c, .slice u.lv.a u.lv.n u.lv.c, .slice u.tx.a u.tx.n u.tx.c, .int .i64 m.rd, .int .i64 m.se, .int .i64 m.li, .int .i64 m.he, .int .i64 m.la.c, .int .i64 m.la.r, .int .i64 m.la.q, .int .i64 m.la.a, .int .i64 m.la.b, .slice u.ws.a u.ws.n u.ws.c]

end Go.Proofs.Ythdjkkiegecgnaa


/- A new member: the walks over both MateNew. -/
namespace Go.Proofs.Ythdjkkiegecgnaa
open Go.RowKit Pl
set_option linter.unusedVariables false

/-- a new member. -/
def newM (id i : Int) (ms : List Int) : Mt := ⟨id, i, ms, [], [], [], 0, 0, 0, 0, zTok⟩

set_option maxRecDepth 100000 in
set_option maxHeartbeats 1000000 in
theorem mateNew_yes (id i : Int) (s : Sv) (ms : List Int) (w : World) (h : Hid (RI w s.v ms)) (hl : ms.length ≤ 1048576) (hr : Hid ((ringB i ms && inB ms id) = true)) :
    Calls Try.prog 17 #[.int .i64 id, .agg #[.int .i64 i, .slice s.a s.n s.c]] w fun e w' => ∃ u : Sv, e = .returned (.tuple #[.agg #[.int .i64 id, .int .i64 i, .slice u.a u.n u.c, .slice none 0 0, .slice none 0 0, .slice none 0 0, .int .i64 0, .int .i64 0, .int .i64 0, .int .i64 0, .int .i64 0, .int .i64 0, .int .i64 0, .int .i64 0, .int .i64 0, .slice none 0 0], .bool true]) ∧ OwnI w' w.heap.size u.v ms ∧ Below w.heap.size w w' := by
  have hn1 : (w.alloc (.cells #[.int .i64 i, .slice s.a s.n s.c] 26)).heap.size = w.heap.size + 1 := by simp
  have HA : Hid (Bx ((w.alloc (.cells #[.int .i64 i, .slice s.a s.n s.c] 26)).alloc (.cells #[.int .i64 0, .int .i64 0, .slice none 0 0, .slice none 0 0, .slice none 0 0, .slice none 0 0, .int .i64 0, .int .i64 0, .int .i64 0, .int .i64 0, .int .i64 0, .int .i64 0, .int .i64 0, .int .i64 0, .int .i64 0, .slice none 0 0] 32)) w.heap.size 26 [.int .i64 i, .slice s.a s.n s.c]) := by
    have h := Bx.new w 26 [.int .i64 i, .slice s.a s.n s.c]
    exact h.stays (B := w.heap.size + 1) ((Below.refl _ _).alloc (by rw [hn1]; exact Nat.le_refl _) _) (by omega)
  have HR : Hid (Bx ((w.alloc (.cells #[.int .i64 i, .slice s.a s.n s.c] 26)).alloc (.cells #[.int .i64 0, .int .i64 0, .slice none 0 0, .slice none 0 0, .slice none 0 0, .slice none 0 0, .int .i64 0, .int .i64 0, .int .i64 0, .int .i64 0, .int .i64 0, .int .i64 0, .int .i64 0, .int .i64 0, .int .i64 0, .slice none 0 0] 32)) (w.heap.size + 1) 32 [.int .i64 0, .int .i64 0, .slice none 0 0, .slice none 0 0, .slice none 0 0, .slice none 0 0, .int .i64 0, .int .i64 0, .int .i64 0, .int .i64 0, .int .i64 0, .int .i64 0, .int .i64 0, .int .i64 0, .int .i64 0, .slice none 0 0]) := by
    have h := Bx.new (w.alloc (.cells #[.int .i64 i, .slice s.a s.n s.c] 26)) 32 [.int .i64 0, .int .i64 0, .slice none 0 0, .slice none 0 0, .slice none 0 0, .slice none 0 0, .int .i64 0, .int .i64 0, .int .i64 0, .int .i64 0, .int .i64 0, .int .i64 0, .int .i64 0, .int .i64 0, .int .i64 0, .slice none 0 0]
    rw [hn1] at h
    exact h
  have HB : Hid (Below w.heap.size w ((w.alloc (.cells #[.int .i64 i, .slice s.a s.n s.c] 26)).alloc (.cells #[.int .i64 0, .int .i64 0, .slice none 0 0, .slice none 0 0, .slice none 0 0, .slice none 0 0, .int .i64 0, .int .i64 0, .int .i64 0, .int .i64 0, .int .i64 0, .int .i64 0, .int .i64 0, .int .i64 0, .int .i64 0, .slice none 0 0] 32))) := ((Below.refl _ _).alloc (Nat.le_refl _) _).alloc (by simp) _
  have HX : Hid (RI ((w.alloc (.cells #[.int .i64 i, .slice s.a s.n s.c] 26)).alloc (.cells #[.int .i64 0, .int .i64 0, .slice none 0 0, .slice none 0 0, .slice none 0 0, .slice none 0 0, .int .i64 0, .int .i64 0, .int .i64 0, .int .i64 0, .int .i64 0, .int .i64 0, .int .i64 0, .int .i64 0, .int .i64 0, .slice none 0 0] 32)) s.v ms) := h.out.stays HB.out
  clear h hn1
  go_enter Try.func17, Try.ntmps17
  go_wp2_with fail
  generalize ((w.alloc (.cells #[.int .i64 i, .slice s.a s.n s.c] 26)).alloc (.cells #[.int .i64 0, .int .i64 0, .slice none 0 0, .slice none 0 0, .slice none 0 0, .slice none 0 0, .int .i64 0, .int .i64 0, .int .i64 0, .int .i64 0, .int .i64 0, .int .i64 0, .int .i64 0, .int .i64 0, .int .i64 0, .slice none 0 0] 32)) = W at *
  refine (isMember_any id i s.v ms W HX hl).mono ?_
  rintro e w1 ⟨rfl, b1⟩
  rw [hr.out]
  have A1 : Hid (Bx w1 w.heap.size 26 [.int .i64 i, .slice s.a s.n s.c]) := HA.out.later b1
  have R1 : Hid (Bx w1 (w.heap.size + 1) 32 [.int .i64 0, .int .i64 0, .slice none 0 0, .slice none 0 0, .slice none 0 0, .slice none 0 0, .int .i64 0, .int .i64 0, .int .i64 0, .int .i64 0, .int .i64 0, .int .i64 0, .int .i64 0, .int .i64 0, .int .i64 0, .slice none 0 0]) := HR.out.later b1
  have B1 : Hid (Below w.heap.size w w1) := bl_next HB.out b1
  have X1 : Hid (RI w1 s.v ms) := HX.out.stays b1
  have a0 := A1.out.cell 0
  have a1 := A1.out.cell 1
  clear HA HR HB HX b1 hr
  go_wp2_with fail
  refine (copyRing_any i s.v ms w1 X1 hl).mono ?_
  rintro e w2 ⟨v2, rfl, hv2, b2⟩
  obtain ⟨ao2, cap2, hf2⟩ := hv2.form
  subst hf2
  have R2 : Hid (Bx w2 (w.heap.size + 1) 32 [.int .i64 0, .int .i64 0, .slice none 0 0, .slice none 0 0, .slice none 0 0, .slice none 0 0, .int .i64 0, .int .i64 0, .int .i64 0, .int .i64 0, .int .i64 0, .int .i64 0, .int .i64 0, .int .i64 0, .int .i64 0, .slice none 0 0]) := R1.out.later b2
  have B2 : Hid (Below w.heap.size w w2) := bl_next B1.out b2
  have V2 : Hid (OwnI w2 w.heap.size (.slice ao2 ms.length cap2) ms) := hv2.down B1.out.size
  clear A1 R1 B1 X1 a0 a1 b2 hv2
  go_wp2_with (first | (refine wpList_stB rfl 32 _ _ rfl (w.heap.size + 1) 0 rfl 32 _ R2.out [.int .i64 id, .int .i64 i, .slice ao2 ms.length cap2, .slice none 0 0, .slice none 0 0, .slice none 0 0, .int .i64 0, .int .i64 0, .int .i64 0, .int .i64 0, .int .i64 0, .int .i64 0, .int .i64 0, .int .i64 0, .int .i64 0, .slice none 0 0] rfl (by simp) Try.sizeM rfl [.int .i64 id, .int .i64 i, .slice ao2 ms.length cap2, .slice none 0 0, .slice none 0 0, .slice none 0 0, .int .i64 0, .int .i64 0, .int .i64 0, .int .i64 0, .int .i64 0, .int .i64 0, .int .i64 0, .int .i64 0, .int .i64 0, .slice none 0 0] rfl ?_; intro w3 R3 T3))
  have B3 := B2.out.trans (T3.below (by omega))
  have V3 := V2.out.keep fun k hk _ => T3.block k (fun e => bx_i_ne V2.out R2.out (by decide) (e ▸ hk))
  refine bodyPost_ret (results_bt Try.results17 (w.heap.size + 1) 32 [.int .i64 id, .int .i64 i, .slice ao2 ms.length cap2, .slice none 0 0, .slice none 0 0, .slice none 0 0, .int .i64 0, .int .i64 0, .int .i64 0, .int .i64 0, .int .i64 0, .int .i64 0, .int .i64 0, .int .i64 0, .int .i64 0, .slice none 0 0] _ rfl R3 Try.underlying32 rfl Try.sizeM) rfl ?_
  exact ⟨⟨ao2, ms.length, cap2⟩, rfl, V3, B3⟩
end Go.Proofs.Ythdjkkiegecgnaa


/- A new member: the walk over the specification's MateNew. -/
namespace Go.Proofs.Ythdjkkiegecgnaa
open Go.RowKit Pl
set_option linter.unusedVariables false
set_option linter.unusedSimpArgs false

set_option maxRecDepth 100000 in
set_option maxHeartbeats 1000000 in
theorem spMateNew_yes (id i : Int) (s : Sv) (ms : List Int) (w : World) (h : Hid (RI w s.v ms)) (hl : ms.length ≤ 1048576) (hr : Hid (ringB i ms = true)) (hi : Hid (inB ms id = true)) :
    Calls Try.prog 84 #[.int .i64 id, .agg #[.int .i64 i, .slice s.a s.n s.c]] w fun e w' => ∃ u : Sv, e = .returned (.tuple #[.agg #[.int .i64 id, .int .i64 i, .slice u.a u.n u.c, .slice none 0 0, .slice none 0 0, .slice none 0 0, .int .i64 0, .int .i64 0, .int .i64 0, .int .i64 0, .int .i64 0, .int .i64 0, .int .i64 0, .int .i64 0, .int .i64 0, .slice none 0 0], .bool true]) ∧ OwnI w' w.heap.size u.v ms ∧ Below w.heap.size w w' := by
  have hn1 : (w.alloc (.cells #[.int .i64 i, .slice s.a s.n s.c] 26)).heap.size = w.heap.size + 1 := by simp
  have HA : Hid (Bx ((w.alloc (.cells #[.int .i64 i, .slice s.a s.n s.c] 26)).alloc (.cells #[.int .i64 0, .int .i64 0, .slice none 0 0, .slice none 0 0, .slice none 0 0, .slice none 0 0, .int .i64 0, .int .i64 0, .int .i64 0, .int .i64 0, .int .i64 0, .int .i64 0, .int .i64 0, .int .i64 0, .int .i64 0, .slice none 0 0] 32)) w.heap.size 26 [.int .i64 i, .slice s.a s.n s.c]) := by
    have h := Bx.new w 26 [.int .i64 i, .slice s.a s.n s.c]
    exact h.stays (B := w.heap.size + 1) ((Below.refl _ _).alloc (by rw [hn1]; exact Nat.le_refl _) _) (by omega)
  have HR : Hid (Bx ((w.alloc (.cells #[.int .i64 i, .slice s.a s.n s.c] 26)).alloc (.cells #[.int .i64 0, .int .i64 0, .slice none 0 0, .slice none 0 0, .slice none 0 0, .slice none 0 0, .int .i64 0, .int .i64 0, .int .i64 0, .int .i64 0, .int .i64 0, .int .i64 0, .int .i64 0, .int .i64 0, .int .i64 0, .slice none 0 0] 32)) (w.heap.size + 1) 32 [.int .i64 0, .int .i64 0, .slice none 0 0, .slice none 0 0, .slice none 0 0, .slice none 0 0, .int .i64 0, .int .i64 0, .int .i64 0, .int .i64 0, .int .i64 0, .int .i64 0, .int .i64 0, .int .i64 0, .int .i64 0, .slice none 0 0]) := by
    have h := Bx.new (w.alloc (.cells #[.int .i64 i, .slice s.a s.n s.c] 26)) 32 [.int .i64 0, .int .i64 0, .slice none 0 0, .slice none 0 0, .slice none 0 0, .slice none 0 0, .int .i64 0, .int .i64 0, .int .i64 0, .int .i64 0, .int .i64 0, .int .i64 0, .int .i64 0, .int .i64 0, .int .i64 0, .slice none 0 0]
    rw [hn1] at h
    exact h
  have HB : Hid (Below w.heap.size w ((w.alloc (.cells #[.int .i64 i, .slice s.a s.n s.c] 26)).alloc (.cells #[.int .i64 0, .int .i64 0, .slice none 0 0, .slice none 0 0, .slice none 0 0, .slice none 0 0, .int .i64 0, .int .i64 0, .int .i64 0, .int .i64 0, .int .i64 0, .int .i64 0, .int .i64 0, .int .i64 0, .int .i64 0, .slice none 0 0] 32))) := ((Below.refl _ _).alloc (Nat.le_refl _) _).alloc (by simp) _
  have HX : Hid (RI ((w.alloc (.cells #[.int .i64 i, .slice s.a s.n s.c] 26)).alloc (.cells #[.int .i64 0, .int .i64 0, .slice none 0 0, .slice none 0 0, .slice none 0 0, .slice none 0 0, .int .i64 0, .int .i64 0, .int .i64 0, .int .i64 0, .int .i64 0, .int .i64 0, .int .i64 0, .int .i64 0, .int .i64 0, .slice none 0 0] 32)) s.v ms) := h.out.stays HB.out
  clear h hn1
  go_enter Try.func84, Try.ntmps84
  go_wp2_with fail
  generalize ((w.alloc (.cells #[.int .i64 i, .slice s.a s.n s.c] 26)).alloc (.cells #[.int .i64 0, .int .i64 0, .slice none 0 0, .slice none 0 0, .slice none 0 0, .slice none 0 0, .int .i64 0, .int .i64 0, .int .i64 0, .int .i64 0, .int .i64 0, .int .i64 0, .int .i64 0, .int .i64 0, .int .i64 0, .slice none 0 0] 32)) = W at *
  refine (spRingOk_r i ms HX hl).mono ?_
  rintro e w1 ⟨rfl, b1⟩
  rw [hr.out]
  have A1 : Hid (Bx w1 w.heap.size 26 [.int .i64 i, .slice s.a s.n s.c]) := HA.out.later b1
  have R1 : Hid (Bx w1 (w.heap.size + 1) 32 [.int .i64 0, .int .i64 0, .slice none 0 0, .slice none 0 0, .slice none 0 0, .slice none 0 0, .int .i64 0, .int .i64 0, .int .i64 0, .int .i64 0, .int .i64 0, .int .i64 0, .int .i64 0, .int .i64 0, .int .i64 0, .slice none 0 0]) := HR.out.later b1
  have B1 : Hid (Below w.heap.size w w1) := bl_next HB.out b1
  have X1 : Hid (RI w1 s.v ms) := HX.out.stays b1
  have a1 := A1.out.cell 1
  clear HA HR HB HX b1 hr
  go_wp2_with fail
  refine (lin_r ms id X1 hl).mono ?_
  rintro e w2 ⟨rfl, b2⟩
  rw [hi.out]
  have A2 : Hid (Bx w2 w.heap.size 26 [.int .i64 i, .slice s.a s.n s.c]) := A1.out.later b2
  have R2 : Hid (Bx w2 (w.heap.size + 1) 32 [.int .i64 0, .int .i64 0, .slice none 0 0, .slice none 0 0, .slice none 0 0, .slice none 0 0, .int .i64 0, .int .i64 0, .int .i64 0, .int .i64 0, .int .i64 0, .int .i64 0, .int .i64 0, .int .i64 0, .int .i64 0, .slice none 0 0]) := R1.out.later b2
  have B2 : Hid (Below w.heap.size w w2) := bl_next B1.out b2
  have X2 : Hid (RI w2 s.v ms) := X1.out.stays b2
  clear A1 R1 B1 X1 a1 b2 hi
  have HH : Hid (∀ w', Below w2.heap.size w2 w' → (w'.cell? ⟨w.heap.size, 0, none⟩ = some (.int .i64 i) ∧ w'.cell? ⟨w.heap.size, 1, none⟩ = some (.slice s.a s.n s.c)) ∧ Hid (Below w2.heap.size w2 w')) := fun w' hb => ⟨⟨(A2.out.later hb).cell 0, (A2.out.later hb).cell 1⟩, hb⟩
  have HI := HH.out w2.drew (Below.refl _ _).drew
  have HJ := HH.out (w2.alloc (.cells #[] 3)).drew ((Below.refl _ _).alloc (Nat.le_refl _) _).drew
  have OW : Hid (OwnI (w2.alloc (.cells #[] 3)).drew w2.heap.size (.slice (some ⟨w2.heap.size, 0, none⟩) 0 0) []) := OwnI.made w2 w2.heap.size (Nat.le_refl _)
  have XX : Hid (RI (w2.alloc (.cells #[] 3)).drew s.v ms) := X2.out.stays ((Below.refl _ _).alloc (Nat.le_refl _) _).drew
  have RR : Hid (Bx (w2.alloc (.cells #[] 3)).drew (w.heap.size + 1) 32 [.int .i64 0, .int .i64 0, .slice none 0 0, .slice none 0 0, .slice none 0 0, .slice none 0 0, .int .i64 0, .int .i64 0, .int .i64 0, .int .i64 0, .int .i64 0, .int .i64 0, .int .i64 0, .int .i64 0, .int .i64 0, .slice none 0 0]) := R2.out.later ((Below.refl _ _).alloc (Nat.le_refl _) _).drew
  have gne : Hid (w.heap.size + 1 < w2.heap.size) := R2.out.lt
  go_wp2_with fail
  refine wp_region_held_drew (S := fun w' => (w'.cell? ⟨w.heap.size, 0, none⟩ = some (.int .i64 i) ∧ w'.cell? ⟨w.heap.size, 1, none⟩ = some (.slice s.a s.n s.c))) (by kernel_rfl) HI.1 (fun hHeld => ?_)
  refine wpAnyH_take (i := 0) (v := ?v0) rfl (by kernel_rfl) (by kernel_rfl) (by kernel_rfl) (fun _ _ _ h => h) (Or.inl ⟨by rfl, ?hy0⟩) (by assumption) ?_
  case hy0 => (intro w hSw; (try dsimp only at hSw); simp only [List.getElem_toArray, List.getElem_cons_zero, List.getElem_cons_succ]; go_simp; try with_reducible rfl)
  try simp only [Act.put, List.getElem_toArray, List.getElem_cons_zero, List.getElem_cons_succ, List.setIfInBounds_toArray, List.set_cons_zero, List.set_cons_succ]
  refine wpAnyH_take (i := 1) (v := ?v1) rfl (by kernel_rfl) (by kernel_rfl) (by kernel_rfl) (fun _ _ _ h => h) (Or.inl ⟨by rfl, ?hy1⟩) (by assumption) ?_
  case hy1 => (intro w hSw; (try dsimp only at hSw); simp only [List.getElem_toArray, List.getElem_cons_zero, List.getElem_cons_succ]; go_simp; try with_reducible rfl)
  try simp only [Act.put, List.getElem_toArray, List.getElem_cons_zero, List.getElem_cons_succ, List.setIfInBounds_toArray, List.set_cons_zero, List.set_cons_succ]
  refine wpAnyH_take (i := 2) (v := ?v2) rfl (by kernel_rfl) (by kernel_rfl) (by kernel_rfl) (fun _ _ _ h => h) (Or.inl ⟨by rfl, ?hy2⟩) (by assumption) ?_
  case hy2 => (intro w hSw; (try dsimp only at hSw); simp only [List.getElem_toArray, List.getElem_cons_zero, List.getElem_cons_succ]; go_simp; try with_reducible rfl)
  try simp only [Act.put, List.getElem_toArray, List.getElem_cons_zero, List.getElem_cons_succ, List.setIfInBounds_toArray, List.set_cons_zero, List.set_cons_succ]
  refine wpAnyH_take (i := 4) (v := ?v4) rfl (by kernel_rfl) (by kernel_rfl) (by kernel_rfl) (fun _ _ _ h => h) (Or.inl ⟨by rfl, ?hy4⟩) (by assumption) ?_
  case hy4 => (intro w hSw; (try dsimp only at hSw); simp only [List.getElem_toArray, List.getElem_cons_zero, List.getElem_cons_succ]; go_simp; try with_reducible rfl)
  try simp only [Act.put, List.getElem_toArray, List.getElem_cons_zero, List.getElem_cons_succ, List.setIfInBounds_toArray, List.set_cons_zero, List.set_cons_succ]
  refine wpAnyH_take (i := 5) (v := ?v5) rfl (by kernel_rfl) (by kernel_rfl) (by kernel_rfl) (fun _ _ _ h => h) (Or.inl ⟨by rfl, ?hy5⟩) (by assumption) ?_
  case hy5 => (intro w hSw; (try dsimp only at hSw); simp only [List.getElem_toArray, List.getElem_cons_zero, List.getElem_cons_succ]; go_simp; try with_reducible rfl)
  try simp only [Act.put, List.getElem_toArray, List.getElem_cons_zero, List.getElem_cons_succ, List.setIfInBounds_toArray, List.set_cons_zero, List.set_cons_succ]
  refine wpAnyH_ready (rs := [3]) (by kernel_rfl) (by simp) ?_
  refine AllReadyH.cons (i := 3) rfl (fun K hK => ?_) AllReadyH.nil
  rw [if_pos (by rfl)]
  simp only [List.getElem_toArray, List.getElem_cons_zero, List.getElem_cons_succ]
  go_simp
  refine hK.out _ _ (HJ.1) (fun hHeld => ?_)
  clear hK K
  try simp only [Act.put, List.getElem_toArray, List.getElem_cons_zero, List.getElem_cons_succ, List.setIfInBounds_toArray, List.set_cons_zero, List.set_cons_succ]
  refine wpAnyH_ready (rs := [6]) (by kernel_rfl) (by simp) ?_
  refine AllReadyH.cons (i := 6) rfl (fun K hK => ?_) AllReadyH.nil
  rw [if_pos (by rfl)]
  simp only [List.getElem_toArray, List.getElem_cons_zero, List.getElem_cons_succ]
  refine wp_catR _ _ 24 rfl Try.underlying24 Try.info3' w2.heap.size (.slice (some ⟨w2.heap.size, 0, none⟩) 0 0) [] (by rfl) OW.out (.slice s.a s.n s.c) ms (by rfl) XX.out (by simp; omega) (Nat.le_of_lt (by simp)) (fun h => by cases h) ?_
  intro v3 w3 hv3 hg3
  obtain ⟨ao3, cap3, hf3⟩ := hv3.form
  subst hf3
  have V3 : Hid (OwnI w3 w2.heap.size (.slice ao3 ms.length cap3) ms) := hv3
  have L3 : Hid (Below w2.heap.size w2 w3) := (((Below.refl w2.heap.size w2).alloc (Nat.le_refl _) _).drew).grown hg3 (Nat.le_of_lt (by simp)) (fun k hk => by cases hk; exact Nat.le_refl _)
  have HK3 := HH.out w3 L3.out
  have R3 : Hid (Bx w3 (w.heap.size + 1) 32 [.int .i64 0, .int .i64 0, .slice none 0 0, .slice none 0 0, .slice none 0 0, .slice none 0 0, .int .i64 0, .int .i64 0, .int .i64 0, .int .i64 0, .int .i64 0, .int .i64 0, .int .i64 0, .int .i64 0, .int .i64 0, .slice none 0 0]) := R2.out.later L3.out
  refine hK.out _ _ (HK3.1) (fun hHeld => ?_)
  clear hK K
  try simp only [Act.put, List.getElem_toArray, List.getElem_cons_zero, List.getElem_cons_succ, List.setIfInBounds_toArray, List.set_cons_zero, List.set_cons_succ]
  clear hv3 hg3
  refine wpAnyH_take (i := 7) (v := ?v7) rfl (by kernel_rfl) (by kernel_rfl) (by kernel_rfl) (fun _ _ _ h => h) (Or.inl ⟨by rfl, ?hy7⟩) (by assumption) ?_
  case hy7 => (intro w hSw; (try dsimp only at hSw); simp only [List.getElem_toArray, List.getElem_cons_zero, List.getElem_cons_succ]; go_simp; try with_reducible rfl)
  try simp only [Act.put, List.getElem_toArray, List.getElem_cons_zero, List.getElem_cons_succ, List.setIfInBounds_toArray, List.set_cons_zero, List.set_cons_succ]
  refine wpAnyH_take (i := 8) (v := ?v8) rfl (by kernel_rfl) (by kernel_rfl) (by kernel_rfl) (fun _ _ _ h => h) (Or.inl ⟨by rfl, ?hy8⟩) (by assumption) ?_
  case hy8 => (intro w hSw; (try dsimp only at hSw); simp only [List.getElem_toArray, List.getElem_cons_zero, List.getElem_cons_succ]; go_simp; try with_reducible rfl)
  try simp only [Act.put, List.getElem_toArray, List.getElem_cons_zero, List.getElem_cons_succ, List.setIfInBounds_toArray, List.set_cons_zero, List.set_cons_succ]
  refine wpAnyH_ready (rs := [9]) (by kernel_rfl) (by simp) ?_
  refine AllReadyH.cons (i := 9) rfl (fun K hK => ?_) AllReadyH.nil
  rw [if_pos (by rfl)]
  simp only [List.getElem_toArray, List.getElem_cons_zero, List.getElem_cons_succ]
  refine wp_stB 32 _ _ rfl (w.heap.size + 1) 0 (by rfl) 32 _ R3.out [.int .i64 id, .int .i64 i, .slice ao3 ms.length cap3, .slice none 0 0, .slice none 0 0, .slice none 0 0, .int .i64 0, .int .i64 0, .int .i64 0, .int .i64 0, .int .i64 0, .int .i64 0, .int .i64 0, .int .i64 0, .int .i64 0, .slice none 0 0] (by rfl) (by simp) Try.sizeM rfl [.int .i64 id, .int .i64 i, .slice ao3 ms.length cap3, .slice none 0 0, .slice none 0 0, .slice none 0 0, .int .i64 0, .int .i64 0, .int .i64 0, .int .i64 0, .int .i64 0, .int .i64 0, .int .i64 0, .int .i64 0, .int .i64 0, .slice none 0 0] rfl ?_
  intro w4 R4 T4
  refine hK.out _ _ (⟨((A2.out.later L3.out).turn T4 (by omega)).cell 0, ((A2.out.later L3.out).turn T4 (by omega)).cell 1⟩) (fun hHeld => ?_)
  clear hK K
  try simp only [Act.put, List.getElem_toArray, List.getElem_cons_zero, List.getElem_cons_succ, List.setIfInBounds_toArray, List.set_cons_zero, List.set_cons_succ]
  refine wpAnyH_take (i := 10) (v := ?v10) rfl (by kernel_rfl) (by kernel_rfl) (by kernel_rfl) (fun _ _ _ h => h) (Or.inl ⟨by rfl, ?hy10⟩) (by assumption) ?_
  case hy10 => (intro w hSw; (try dsimp only at hSw); simp only [List.getElem_toArray, List.getElem_cons_zero, List.getElem_cons_succ]; go_simp; try with_reducible rfl)
  try simp only [Act.put, List.getElem_toArray, List.getElem_cons_zero, List.getElem_cons_succ, List.setIfInBounds_toArray, List.set_cons_zero, List.set_cons_succ]
  refine wpAnyH_done (by kernel_rfl) ?_ _
  have B4 := (bl_next B2.out L3.out).trans (T4.below (by omega))
  have V4 := (V3.out.down B2.out.size).keep fun k hk _ => T4.block k (fun e => bx_i_ne V3.out R3.out (by decide) (e ▸ hk))
  clear HI HJ HK3 T4 HH hHeld
  go_wp2_with fail
  refine bodyPost_ret (results_bt Try.results84 (w.heap.size + 1) 32 [.int .i64 id, .int .i64 i, .slice ao3 ms.length cap3, .slice none 0 0, .slice none 0 0, .slice none 0 0, .int .i64 0, .int .i64 0, .int .i64 0, .int .i64 0, .int .i64 0, .int .i64 0, .int .i64 0, .int .i64 0, .int .i64 0, .slice none 0 0] _ rfl R4 Try.underlying32 rfl Try.sizeM) rfl ?_
  exact ⟨⟨ao3, ms.length, cap3⟩, rfl, V4, B4⟩
end Go.Proofs.Ythdjkkiegecgnaa


/- Members copied by a law. Written by gen_tm.py. -/
namespace Go.Proofs.Ythdjkkiegecgnaa
open Go.RowKit Pl
set_option linter.unusedVariables false
set_option linter.unusedSimpArgs false

theorem toRing_r (i : Int) (s : Sv) (ms : List Int) (w : World) (h : Hid (RI w s.v ms)) (hl : ms.length ≤ 1048576) :
    Calls Try.prog 25 #[.agg #[.int .i64 i, .slice s.a s.n s.c]] w fun e w' => ∃ u : Sv, e = .returned (.agg #[.int .i64 i, .slice u.a u.n u.c]) ∧ OwnI w' w.heap.size u.v ms ∧ Below w.heap.size w w' := by
  obtain ⟨ao, cap, h1, h2⟩ := h.out; unfold Sv.v at h1; rw [h1]
  refine (toRing_any i ao cap ms w h2 hl).mono fun e w' ⟨v, a, b, c⟩ => ?_
  obtain ⟨ao', cap', rfl⟩ := b.form
  exact ⟨⟨ao', ms.length, cap'⟩, a, b, c⟩
end Go.Proofs.Ythdjkkiegecgnaa


/- Members compared, marked and looked at again. Written by gen_em.py. -/
namespace Go.Proofs.Ythdjkkiegecgnaa
open Go.RowKit Pl
set_option linter.unusedVariables false
set_option linter.unusedSimpArgs false

/-- a member whose lists are marks. -/
def markM (K : Nat) (m : Mt) : Mt :=
  ⟨m.id, m.rid, marks K m.ms.length, mkI (K + m.ms.length) m.its.length, marks (K + m.ms.length + 4 * m.its.length) m.lv.length, mkT (K + m.ms.length + 4 * m.its.length + m.lv.length) m.tx.length, m.rd, m.se, m.li, m.he,
    ⟨m.la.c, m.la.r, m.la.q, m.la.a, m.la.b, marks (K + m.ms.length + 4 * m.its.length + m.lv.length + m.tx.length) m.la.ws.length⟩⟩
def endM (K : Nat) (m : Mt) : Nat := K + m.ms.length + 4 * m.its.length + m.lv.length + m.tx.length + m.la.ws.length

end Go.Proofs.Ythdjkkiegecgnaa


/- The law on MateNew. Written by gen_lmn.py. -/
namespace Go.Proofs.Ythdjkkiegecgnaa
open Go.RowKit Pl
set_option linter.unusedVariables false
set_option linter.unusedSimpArgs false

theorem own_nilS (w : World) (B : Nat) : OwnS w B (.slice none 0 0) [] := ⟨by simp, .inl ⟨rfl, rfl⟩⟩
theorem own_nilIt (w : World) (B : Nat) : SlI w B (.slice none 0 0) [] := Sl.zero w 38 4 B
/-- a member that has nothing but a ring. -/
theorem mto_new {w : World} {B : Nat} (id i : Int) {ms : List Int} {u : Sv} (h : OwnI w B u.v ms) : MtO w B (newM id i ms) ⟨u, zSv, zSv, zSv, zSv⟩ :=
  ⟨h, own_nilIt w B, ownI_nil w B, own_nilS w B, ownI_nil w B, ap_none' _ 0 0, ap_none' _ 0 0, ap_none _ 0 0⟩
theorem mts_new (id i : Int) {ms : List Int} (h : ms.length ≤ 1048576) : MtS (newM id i ms) := ⟨h, by simp [newM], by simp [newM], by simp [newM], by simp [newM, zTok], (fun x h => by cases h), (fun x h => by cases h), (by simp [newM, zTok]; exact h)⟩
/-- the plain answer. -/
def newP (id i : Int) (ms : List Int) : Mt := if (ringB i ms && inB ms id) = true then newM id i ms else zMt
end Go.Proofs.Ythdjkkiegecgnaa


/- What a member has to say, and whether it is right: small walks. -/
namespace Go.Proofs.Ythdjkkiegecgnaa
open Go.RowKit Pl
set_option linter.unusedVariables false
set_option linter.unusedSimpArgs false

/-- whether texts are short. -/
def fitB (ts : List ByteArray) : Bool := ts.all fun t => decide (t.size ≤ 60)
/-- whether a number is a level. -/
def lvB (l : Int) : Bool := decide (1 ≤ l ∧ l ≤ 2)
def lvsB (lv : List Int) : Bool := lv.all lvB
/-- whether it may stand there to be said. -/
def sayB (lv : List Int) (tx : List ByteArray) : Bool := decide (tx.length ≤ 20) && (decide (lv.length = tx.length) && (lvsB lv && fitB tx))

end Go.Proofs.Ythdjkkiegecgnaa


/- Tokens of which all is zero; what a member has to say, by the specification. Written by gen_mp.py. -/
namespace Go.Proofs.Ythdjkkiegecgnaa
open Go.RowKit Pl
set_option linter.unusedVariables false
set_option linter.unusedSimpArgs false

/-- whether all of a token is zero. -/
def ntB (c r q a b : Int) (ws : List Int) : Bool := (c == 0) && ((r == 0) && ((q == 0) && ((a == 0) && ((b == 0) && ((ws.length : Int) == 0)))))

/-- the first k of them may be said. -/
def SaySt (lv : List Int) (tx : List ByteArray) (k : Nat) : Prop := (∀ t ∈ tx.take k, t.size ≤ 60) ∧ ∀ l ∈ lv.take k, lvB l = true
end Go.Proofs.Ythdjkkiegecgnaa


/- Whether a member is right: the walks over both MateOk. Written by gen_mok.py. -/
namespace Go.Proofs.Ythdjkkiegecgnaa
open Go.RowKit Pl
set_option linter.unusedVariables false
set_option linter.unusedSimpArgs false

/-- whether a member is right. -/
def Mt.ok (m : Mt) : Bool := ringB m.rid m.ms && (inB m.ms m.id && (iGo 0 m.its && (sayB m.lv m.tx && (decide (0 ≤ m.rd ∧ m.rd ≤ 1000000000) && (decide (0 ≤ m.se ∧ m.se ≤ 60) && (decide (0 ≤ m.li ∧ m.li ≤ ((aruP m.its : Nat) : Int)) && (decide (0 ≤ m.he ∧ m.he ≤ ((aruP m.its : Nat) : Int)) && (ntB m.la.c m.la.r m.la.q m.la.a m.la.b m.la.ws || tkB m.la.c m.la.r m.la.q m.la.a m.la.b m.la.ws))))))))

end Go.Proofs.Ythdjkkiegecgnaa


