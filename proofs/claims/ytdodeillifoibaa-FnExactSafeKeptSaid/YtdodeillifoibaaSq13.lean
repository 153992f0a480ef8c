/- Joined texts: CWr CWt CPb CWl CSm CCp CWk CKt CCt1 CMn CMb CMo CMp CMq1 CTm CEm. -/
import Derived.Test.YtdodeillifoibaaSq11
import Derived.Test.YtdodeillifoibaaSq8
import Derived.Test.YtdodeillifoibaaSq5
import Derived.Test.YtdodeillifoibaaSq12
import Derived.Test.YtdodeillifoibaaSq7
import Derived.Laws.MakeOwn
import Derived.BigQuiet
import Derived.Deep.QuietTactic
/- Contracts over lists that are read; what is appended is read. -/
namespace Go.Proofs.Ytdodeillifoibaa
open Go.RowKit Pl
set_option linter.unusedVariables false

theorem same_below {w w' : World} (h : w' = w) : Below w.heap.size w w' := by subst h; exact Below.refl _ _
section
variable {w : World} {v : Value}
end

theorem wp_catR {P : Program} {w : World} {o : Oper} {a : Act} {K : Act → World → Prop} {Q : Exit → Act → World → Prop}
    (s x : Operand) (t : TypeId) (ho : o.op = .call { callee := .builtin .append, args := #[s, x], argTypes := #[t, t] })
    (ht : P.underlying t = some (.slice 3)) (hinfo : (P.info? 3).map (fun i => (i.zero, i.size, i.bytes)) = some (some (.int .i64 0), 1, 8))
    (B : Nat) (v : Value) (xs : List Int) (hs : a.eval s = v) (hown : OwnI w B v xs)
    (u : Value) (ys : List Int) (hx : a.eval x = u) (hu : RI w u ys) (hn : xs.length + ys.length < 4000000) (hB : B ≤ w.heap.size) (hv : v ≠ .slice none 0 0)
    (h : ∀ v' w', OwnI w' B v' (xs ++ ys) → w.grownBy w' v.ownBlock → K (a.put o.dst v') w') : o.wp P a w K Q := by
  obtain ⟨i0, hi, hz0, hz1, hz2⟩ := info_parts hinfo
  obtain ⟨ao, cap, rfl, hr⟩ := hu
  have hcat : ∀ (ad : Addr), ao = some ad → (∀ j u, (ys.map (Value.int .i64))[j]? = some u → w.cell? (ad.add j) = some u) → o.wp P a w K Q := by
    intro ad had hcell
    subst had
    refine wp_append_own w s x t ho B 3 i0 (.int .i64 0) 1 8 ht hi hz0 hz1 hz2 rfl (by decide) v xs.length (xs.map (Value.int .i64)) hs hown ad ys.length cap (ys.map (Value.int .i64)) hx (by simp) hcell ?_ (by unfold maxLen; omega) (by omega) hB ?_
    · intro u hu'
      obtain ⟨y, _, rfl⟩ := List.mem_map.1 hu'
      rfl
    · intro v' w' hown' hg _
      exact h v' w' (by simpa [OwnI] using hown') hg
  by_cases h0 : 0 < ys.length
  · obtain ⟨b, off, rfl, _, _⟩ := hr 0 h0
    refine hcat ⟨b, off, none⟩ rfl fun j u hj => ?_
    have hjl : j < ys.length := by have := (List.getElem?_eq_some_iff.1 hj).1; simpa using this
    obtain ⟨b', off', e, _, hc⟩ := hr j hjl
    simp at e
    obtain ⟨rfl, rfl⟩ := e
    rw [Addr.add_lit, hc]
    simp [hjl] at hj
    rw [hj]
  · have e : ys = [] := List.eq_nil_of_length_eq_zero (by omega)
    subst e
    cases ao with
    | some ad => exact hcat ad rfl fun j u hj => by simp at hj
    | none =>
      have hc0 := h v w (by rw [List.append_nil]; exact hown) (World.grownBy.refl _ _)
      rcases hown.2 with ⟨hv0, _⟩ | ⟨g, cp, cur, hvv, _⟩
      · exact absurd hv0 hv
      · have hs' : Sl w 3 1 B v xs.length (xs.map (Value.int .i64)) := Sl.ofOwn hown
        have hsrc : Src P i0.size t (.slice none 0 cap) 0 [] w := Src.ofNil _ ht cap
        subst hvv
        have hroom : xs.length + 0 ≤ cp := by
          rcases hs'.2 with ⟨h1, _⟩ | ⟨g', off', cap', cur', h1, _, _, hle, _⟩
          · cases h1
          · simp at h1; omega
        unfold Oper.wp execOp
        have hr := run_append_room_src (P := P) w t t o.type 3 i0 ht hi g 0 xs.length cp (.slice none 0 cap) 0 [] hsrc hroom (fun j hj => by simp at hj) (fun j hj => by simp at hj)
        simp only [ho, resolve, invoke, builtin, Sem.run_bind, Sem.run_pure, Result.andThen_ok, List.map_toArray, List.map_cons, List.map_nil, hs, hx, List.length_nil, hr]
        exact hc0
theorem wpList_catR {P : Program} {w : World} {ops : Array Oper} {rest : List Oper} {o : Oper} {a : Act} {Q : Exit → Act → World → Prop}
    (hgd : o.guard = none) (s x : Operand) (t : TypeId) (ho : o.op = .call { callee := .builtin .append, args := #[s, x], argTypes := #[t, t] })
    (ht : P.underlying t = some (.slice 3)) (hinfo : (P.info? 3).map (fun i => (i.zero, i.size, i.bytes)) = some (some (.int .i64 0), 1, 8))
    (B : Nat) (v : Value) (xs : List Int) (hs : a.eval s = v) (hown : OwnI w B v xs)
    (u : Value) (ys : List Int) (hx : a.eval x = u) (hu : RI w u ys) (hn : xs.length + ys.length < 4000000) (hB : B ≤ w.heap.size) (hv : v ≠ .slice none 0 0)
    (h : ∀ v' w', OwnI w' B v' (xs ++ ys) → w.grownBy w' v.ownBlock → wpList P ops Q rest (a.put o.dst v') w') :
    wpList P ops Q (o :: rest) a w :=
  wpList_plain hgd fun _ hK => wp_catR s x t ho ht hinfo B v xs hs hown u ys hx hu hn hB hv fun v' w' h1 h2 => hK _ _ (h v' w' h1 h2)
end Go.Proofs.Ytdodeillifoibaa


/- What is appended is read: texts and items. -/
namespace Go.Proofs.Ytdodeillifoibaa
open Go.RowKit Pl
set_option linter.unusedVariables false

end Go.Proofs.Ytdodeillifoibaa


/- One element put behind a slice of the call's own, and which block it lies in then. No function of the program is named here. -/
namespace Go.Proofs.Ytdodeillifoibaa
open Go.RowKit Pl
set_option linter.unusedVariables false

section
variable {P : Program} {w : World}
end

section
variable {P : Program} {w : World} {ops : Array Oper} {rest : List Oper} {o : Oper} {a : Act} {Q : Exit → Act → World → Prop} {K : Act → World → Prop}
end
end Go.Proofs.Ytdodeillifoibaa


/- Lists of structs of any size, their cells row by row: read, put behind, joined, set. No function of the program is named here. -/
namespace Go.Proofs.Ytdodeillifoibaa
open Go.RowKit Pl
set_option linter.unusedVariables false

/-- the slice v holds these rows, each of so many cells. -/
def SlN (w : World) (T size B : Nat) (v : Value) (rs : List (List Value)) : Prop := Sl w T size B v rs.length rs.flatten ∧ ∀ r ∈ rs, r.length = size ∧ ∀ u ∈ r, u.oneCell' = true

theorem flat_len {s : Nat} : ∀ {rs : List (List Value)}, (∀ r ∈ rs, r.length = s) → rs.flatten.length = rs.length * s := by
  intro rs
  induction rs with
  | nil => intro _; simp
  | cons r rs ih =>
    intro h
    rw [List.flatten_cons, List.length_append, List.length_cons, ih fun r hr => h r (List.mem_cons_of_mem _ hr), h r (List.mem_cons_self ..), Nat.add_mul]
    omega
theorem flat_drop {s : Nat} : ∀ {rs : List (List Value)} (k : Nat), (∀ r ∈ rs, r.length = s) → rs.flatten.drop (k * s) = (rs.drop k).flatten := by
  intro rs
  induction rs with
  | nil => intro k _; simp
  | cons r rs ih =>
    intro k h
    cases k with
    | zero => simp
    | succ k =>
      have hr := h r (List.mem_cons_self ..)
      rw [List.flatten_cons, List.drop_succ_cons, ← ih k fun r hr => h r (List.mem_cons_of_mem _ hr), Nat.add_mul, List.drop_append, List.drop_eq_nil_of_le (by omega), List.nil_append]
      congr 1; omega
theorem flat_take {s : Nat} : ∀ {rs : List (List Value)} (k : Nat), (∀ r ∈ rs, r.length = s) → rs.flatten.take (k * s) = (rs.take k).flatten := by
  intro rs
  induction rs with
  | nil => intro k _; simp
  | cons r rs ih =>
    intro k h
    cases k with
    | zero => simp
    | succ k =>
      have hr := h r (List.mem_cons_self ..)
      rw [List.flatten_cons, List.take_succ_cons, List.flatten_cons, ← ih k fun r hr => h r (List.mem_cons_of_mem _ hr), Nat.add_mul, List.take_append, List.take_of_length_le (by omega)]
      congr 2; omega
theorem flat_row {s : Nat} {rs : List (List Value)} (h : ∀ r ∈ rs, r.length = s) {i : Nat} (hi : i < rs.length) : (rs.flatten.drop (i * s)).take s = rs[i] := by
  rw [flat_drop i h, List.drop_eq_getElem_cons hi, List.flatten_cons, List.take_append, List.take_of_length_le (by rw [h _ (List.getElem_mem hi)]; exact Nat.le_refl _), h _ (List.getElem_mem hi)]
  simp
theorem flat_set {s : Nat} {rs : List (List Value)} (h : ∀ r ∈ rs, r.length = s) {i : Nat} (hi : i < rs.length) (r : List Value) (hr : r.length = s) : rs.flatten.take (i * s) ++ r ++ rs.flatten.drop (i * s + r.length) = (rs.set i r).flatten := by
  rw [hr, show i * s + s = (i + 1) * s by rw [Nat.add_mul]; omega, flat_take i h, flat_drop (i + 1) h, List.set_eq_take_append_cons_drop, if_pos hi, List.flatten_append, List.flatten_cons]
  simp

section
variable {w w' : World} {T size B : Nat} {v : Value} {rs : List (List Value)}
theorem SlN.lens (h : SlN w T size B v rs) : ∀ r ∈ rs, r.length = size := fun r hr => (h.2 r hr).1
theorem SlN.form (h : SlN w T size B v rs) : ∃ s : Sv, v = .slice s.a s.n s.c ∧ s.n = rs.length := by
  obtain ⟨a, c, e⟩ := h.1.form
  exact ⟨⟨a, rs.length, c⟩, e, rfl⟩
theorem SlN.lt (h : SlN w T size B v rs) : ∀ k, v.ownBlock = some k → B ≤ k ∧ k < w.heap.size := h.1.lt
theorem SlN.keep (h : SlN w T size B v rs) (hk : ∀ k, v.ownBlock = some k → k < w.heap.size → w'.heap[k]? = w.heap[k]?) : SlN w' T size B v rs := ⟨h.1.keep hk, h.2⟩
theorem SlN.below (h : SlN w T size B v rs) (hb : Below w.heap.size w w') : SlN w' T size B v rs := ⟨h.1.below hb, h.2⟩
theorem SlN.down {B' : Nat} (h : SlN w T size B v rs) (hB : B' ≤ B) : SlN w T size B' v rs := ⟨h.1.down hB, h.2⟩
theorem SlN.nil (w : World) (T size B : Nat) : SlN w T size B (.slice none 0 0) [] := ⟨Sl.zero w T size B, fun r hr => by cases hr⟩
theorem SlN.made (w : World) (T size B : Nat) (hb : B ≤ w.heap.size) : SlN (w.alloc (.cells #[] T)) T size B (.slice (some ⟨w.heap.size, 0, none⟩) 0 0) [] := ⟨Sl.made w T size B hb, fun r hr => by cases hr⟩
/-- a row, as it lies there. -/
theorem SlN.read (h : SlN w T size B v rs) {i : Nat} (hi : i < rs.length) :
    ∃ g off cap, v = .slice (some ⟨g, off, none⟩) rs.length cap ∧ B ≤ g ∧ g < w.heap.size ∧ w.rangeAt g (off + i * size) rs[i] := by
  obtain ⟨g, off, cap, hv, hb, hlt, hc, _⟩ := h.1.read (by omega)
  refine ⟨g, off, cap, hv, hb, hlt, fun j u hu => ?_⟩
  have hj : j < size := by rw [← h.lens _ (List.getElem_mem hi)]; exact (List.getElem?_eq_some_iff.1 hu).1
  have h2 := flat_row h.lens hi
  rw [← h2, List.getElem?_take, if_pos hj, List.getElem?_drop] at hu
  have := hc _ u hu
  rw [← Nat.add_assoc] at this
  exact this
end

section
variable {P : Program} {w : World} {ops : Array Oper} {rest : List Oper} {o : Oper} {a : Act} {Q : Exit → Act → World → Prop} {K : Act → World → Prop}
/-- a row is loaded. -/
theorem wpList_ldN (hw : Region.wanted o (yielded ops a.tmps) = true) (ty : TypeId) (x : Operand) (ho : o.op = .load ty x) (g off : Nat) (hx : a.eval x = .pointer (some ⟨g, off, none⟩)) (cs : List Value) (hr : w.rangeAt g off cs)
    (d : TypeDesc) (hu : P.underlying ty = some d) (hd : d.isRow = true) (hi : (P.info? ty).map (·.size) = some cs.length)
    (h : wpList P ops Q rest (a.put o.dst (.agg cs.toArray)) w) : wpList P ops Q (o :: rest) a w :=
  wpList_step fun K hK => by
    rw [if_pos hw]
    exact wp_load_mid ty x ho g off hx cs d hr hu hd hi (hK _ _ h)
/-- a row is set. -/
theorem SlN.stored {T size B : Nat} {g off cap i : Nat} {rs : List (List Value)} (h : SlN w T size B (.slice (some ⟨g, off, none⟩) rs.length cap) rs) (hi : i < rs.length) (r : List Value) (hr : r.length = size) (h1 : ∀ u ∈ r, u.oneCell' = true) :
    w.there g (off + i * size) r.length ∧ SlN (w.setCells g (off + i * size) r) T size B (.slice (some ⟨g, off, none⟩) rs.length cap) (rs.set i r) ∧ TurnAt g w (w.setCells g (off + i * size) r) := by
  rcases h.1.2 with ⟨hv, _⟩ | ⟨g', off', cap', cur, hv, hb, hg, hc, hm, hs, ht⟩
  · simp at hv
  simp at hv
  obtain ⟨⟨rfl, rfl⟩, rfl⟩ := hv
  have hle : i * size + size ≤ rs.length * size := by
    have : (i + 1) * size ≤ rs.length * size := Nat.mul_le_mul_right _ hi
    rw [Nat.add_mul] at this; omega
  have hcs : rs.length * size ≤ cap * size := Nat.mul_le_mul_right _ hc
  have hin : off + i * size + r.length ≤ cur.size := by omega
  refine ⟨fun j hj => ⟨?_, frozen_of_row w g _ _ T hg⟩, ⟨?_, fun x hx => ?_⟩, setCells_turn r w g _⟩
  · rw [cell_of_row w g _ _ T (0, 0) hg, Array.getElem?_eq_getElem (by omega)]; rfl
  · obtain ⟨cur', q1, q2, q3, q4⟩ := setCells_heap r w g (off + i * size) cur T hg hin
    have hbx : Bx w g T cur.toList := by unfold Bx; simpa using hg
    have hbx2 := setCells_list r w g (off + i * size) T cur.toList hbx (by simpa using hin)
    have he : cur' = (cur.toList.take (off + i * size) ++ r ++ cur.toList.drop (off + i * size + r.length)).toArray := by
      unfold Bx at hbx2
      rw [q1] at hbx2
      simpa using hbx2
    have hfl : (rs.set i r).flatten = rs.flatten.take (i * size) ++ r ++ rs.flatten.drop (i * size + r.length) := (flat_set h.lens hi r hr).symm
    refine ⟨by rw [flat_len (s := size)]; intro x hx; rcases List.mem_or_eq_of_mem_set hx with hx | rfl; exact h.lens x hx; exact hr, .inr ⟨g, off, cap, cur', by simp, hb, q1, by simpa using hc, hm, by omega, fun j hj => ?_⟩⟩
    rw [List.length_set] at hj
    have hfr : rs.flatten.length = rs.length * size := flat_len h.lens
    by_cases hj1 : j < i * size
    · rw [q3 _ (by omega), ht j hj, hfl, List.append_assoc, List.getElem?_append_left (by rw [List.length_take]; omega), List.getElem?_take, if_pos hj1]
    · by_cases hj2 : j < i * size + r.length
      · have h5 := q4 (j - i * size) (by omega)
        rw [show off + i * size + (j - i * size) = off + j by omega] at h5
        rw [h5, hfl, List.append_assoc, List.getElem?_append_right (by rw [List.length_take]; omega), List.getElem?_append_left (by rw [List.length_take]; omega), List.length_take]
        congr 1; omega
      · have h6 : cur'[off + j]? = cur[off + j]? := by
          rw [he]
          simp only [List.getElem?_toArray]
          rw [List.getElem?_append_right (by simp [List.length_take]; omega), List.getElem?_drop, ← Array.getElem?_toList]
          congr 1
          simp [List.length_take]; omega
        rw [h6, ht j hj, hfl, List.append_assoc, List.getElem?_append_right (by rw [List.length_take]; omega), List.getElem?_append_right (by rw [List.length_take]; omega), List.getElem?_drop, List.length_take]
        congr 1; omega
  · rcases List.mem_or_eq_of_mem_set hx with hx | rfl
    · exact h.2 x hx
    · exact ⟨hr, h1⟩
theorem wpList_stN {T size B : Nat} (hgd : o.guard = none) (ty : TypeId) (x y : Operand) (ho : o.op = .store ty x y) {g off cap i : Nat} {rs : List (List Value)} (hown : SlN w T size B (.slice (some ⟨g, off, none⟩) rs.length cap) rs) (hi : i < rs.length)
    (hx : a.eval x = .pointer (some ⟨g, off + i * size, none⟩)) (r : List Value) (hy : a.eval y = .agg r.toArray) (hr : r.length = size) (h1 : r.all (·.oneCell') = true) (hinf : (P.info? ty).map (·.size) = some r.length)
    (h : ∀ w', SlN w' T size B (.slice (some ⟨g, off, none⟩) rs.length cap) (rs.set i r) → TurnAt g w w' → wpList P ops Q rest (a.put o.dst undef) w') : wpList P ops Q (o :: rest) a w := by
  obtain ⟨h2, h3, h4⟩ := hown.stored hi r hr (List.all_eq_true.1 h1)
  refine wpList_store_mid hgd ty x y ho g (off + i * size) r.toArray hx hy (by simpa using h2) (by simpa using hinf) (all_oneCell_toArray (List.all_eq_true.1 h1)) ?_
  exact h _ (by simpa using h3) (by simpa using h4)
end
end Go.Proofs.Ytdodeillifoibaa


/- Members measured. -/
namespace Go.Proofs.Ytdodeillifoibaa
open Go.RowKit Pl
set_option linter.unusedVariables false
set_option linter.unusedSimpArgs false

/-- what is left of a budget, or nothing. -/
def Left (L n : Nat) (e : Ending) : Prop := e = .returned (.int .i64 (-1)) ∨ ∃ z : Nat, e = .returned (.int .i64 z) ∧ z + n = L

set_option maxRecDepth 100000 in
set_option maxHeartbeats 1000000 in
theorem szI_left (ao : Option Addr) (n cap L : Nat) (w : World) (hL : L ≤ 1048576) (hn : n ≤ 9223372036854775807) :
    Calls Try.prog 52 #[.slice ao n cap, .int .i64 L] w fun e w' => Left L n e ∧ w' = w := by
  by_cases h : L < n
  · have hd : decide ((L : Int) - (n : Int) < 0) = true := by simp; omega
    go_enter Try.func52, Try.ntmps52
    go_wp2
    go_ret
    exact ⟨.inl rfl, rfl⟩
  · have hd : decide ((L : Int) - (n : Int) < 0) = false := by simp; omega
    go_enter Try.func52, Try.ntmps52
    go_wp2
    go_ret
    exact ⟨.inr ⟨L - n, by rw [show ((L - n : Nat) : Int) = (L : Int) - (n : Int) by omega]; rfl, by omega⟩, rfl⟩

set_option maxRecDepth 100000 in
set_option maxHeartbeats 1000000 in
theorem szRing_left (i : Int) (ao : Option Addr) (n cap L : Nat) (w : World) (hL : L ≤ 1048576) (hn : n ≤ 9223372036854775807) :
    Calls Try.prog 50 #[.agg #[.int .i64 i, .slice ao n cap], .int .i64 L] w fun e w' => Left L n e ∧ Below w.heap.size w w' := by
  go_enter Try.func50, Try.ntmps50
  go_wp2_with fail
  refine (szI_left ao n cap L _ hL hn).mono ?_
  rintro e w1 ⟨hl, rfl⟩
  rcases hl with rfl | ⟨z, rfl, hz⟩
  · go_wp2_with fail
    go_ret
    exact ⟨.inl rfl, (Below.refl _ _).alloc (Nat.le_refl _) _⟩
  · have HZ : Hid (z + n = L) := hz
    have hd : decide ((z : Int) < 0) = false := by simp
    clear hz
    go_wp2_with fail
    go_ret
    exact ⟨.inr ⟨z, rfl, HZ.out⟩, (Below.refl _ _).alloc (Nat.le_refl _) _⟩

set_option maxRecDepth 100000 in
set_option maxHeartbeats 1000000 in
theorem szTok_left (c r q a b : Int) (ao : Option Addr) (n cap L : Nat) (w : World) (hL : L ≤ 1048576) (hn : n ≤ 9223372036854775807) :
    Calls Try.prog 83 #[.agg #[.int .i64 c, .int .i64 r, .int .i64 q, .int .i64 a, .int .i64 b, .slice ao n cap], .int .i64 L] w fun e w' => Left L n e ∧ Below w.heap.size w w' := by
  go_enter Try.func83, Try.ntmps83
  go_wp2_with fail
  refine (szI_left ao n cap L _ hL hn).mono ?_
  rintro e w1 ⟨hl, rfl⟩
  rcases hl with rfl | ⟨z, rfl, hz⟩
  · go_wp2_with fail
    go_ret
    exact ⟨.inl rfl, (Below.refl _ _).alloc (Nat.le_refl _) _⟩
  · have HZ : Hid (z + n = L) := hz
    have hd : decide ((z : Int) < 0) = false := by simp
    clear hz
    go_wp2_with fail
    go_ret
    exact ⟨.inr ⟨z, rfl, HZ.out⟩, (Below.refl _ _).alloc (Nat.le_refl _) _⟩
theorem RI.len {w : World} {s : Sv} {xs : List Int} (h : RI w s.v xs) : s.n = xs.length := by
  obtain ⟨ao, cap, h1, _⟩ := h; unfold Sv.v at h1; simp at h1; exact h1.2.1
theorem RT.len {w : World} {s : Sv} {xs : List ByteArray} (h : RT w s.v xs) : s.n = xs.length := by
  obtain ⟨ao, cap, h1, _⟩ := h; unfold Sv.v at h1; simp at h1; exact h1.2.1
theorem RIt.len {w : World} {s : Sv} {xs : List It} (h : RIt w s.v xs) : s.n = xs.length := by
  obtain ⟨ao, cap, h1, _⟩ := h; unfold Sv.v at h1; simp at h1; exact h1.2.1
theorem szIt_r (s : Sv) (ts : List It) (L : Nat) (w : World) (h : Hid (RIt w s.v ts)) (hL : L ≤ 1048576) (hl : ts.length ≤ 9223372036854775807) (hs : Hid (∀ x ∈ ts, x.2.2.2.size ≤ 9223372036854775807)) :
    Calls Try.prog 98 #[.slice s.a s.n s.c, .int .i64 L] w fun e w' => (e = .returned (.int .i64 (-1)) ∨ (∃ z : Nat, e = .returned (.int .i64 z) ∧ z + ts.length ≤ L ∧ ∀ x ∈ ts, x.2.2.2.size ≤ 1048576)) ∧ Below w.heap.size w w' := by
  obtain ⟨ao, cap, h1, h2⟩ := h.out; unfold Sv.v at h1; rw [h1]; exact szItems_left L hL ao cap ts w h2 hl hs
theorem szT_r (s : Sv) (ts : List ByteArray) (L : Nat) (w : World) (h : Hid (RT w s.v ts)) (hL : L ≤ 1048576) (hl : ts.length ≤ 9223372036854775807) (hs : Hid (∀ x ∈ ts, x.size ≤ 9223372036854775807)) :
    Calls Try.prog 99 #[.slice s.a s.n s.c, .int .i64 L] w fun e w' => (e = .returned (.int .i64 (-1)) ∨ ∃ r : Nat, e = .returned (.int .i64 r) ∧ Hid (r + ts.length ≤ L ∧ ∀ t ∈ ts, t.size ≤ 1048576)) ∧ w' = w := by
  obtain ⟨ao, cap, h1, h2⟩ := h.out; unfold Sv.v at h1; rw [h1]; exact szS_any w ao cap L ts h2 (by unfold maxLen; omega) (fun t ht => by have := hs.out t ht; unfold maxLen; omega) hL

/-- a member's lists are no longer than can be. -/
structure MtL (m : Mt) : Prop where
  ms : m.ms.length ≤ 9223372036854775807
  its : m.its.length ≤ 9223372036854775807
  lv : m.lv.length ≤ 9223372036854775807
  tx : m.tx.length ≤ 9223372036854775807
  ws : m.la.ws.length ≤ 9223372036854775807
  it : ∀ x ∈ m.its, x.2.2.2.size ≤ 9223372036854775807
  te : ∀ x ∈ m.tx, x.size ≤ 9223372036854775807
/-- what is left when a member has been measured. -/
def LeftM (m : Mt) (e : Ending) : Prop := e = .returned (.int .i64 (-1)) ∨ ∃ z : Nat, e = .returned (.int .i64 z) ∧ MtS m ∧ z ≤ 1048576

end Go.Proofs.Ytdodeillifoibaa


/- Members copied: the walk over the specification's l10Copy. Written by gen_cp.py. -/
namespace Go.Proofs.Ytdodeillifoibaa
open Go.RowKit Pl
set_option linter.unusedVariables false
set_option linter.unusedSimpArgs false

/-- a member's lists lie there, whoever made them. -/
structure MtP (w : World) (m : Mt) (v : Mv) : Prop where
  ms : OwnI w 0 v.ms.v m.ms
  its : SlI w 0 v.its.v m.its
  lv : OwnI w 0 v.lv.v m.lv
  tx : OwnS w 0 v.tx.v m.tx
  ws : OwnI w 0 v.ws.v m.la.ws
theorem MtP.r {w : World} {m : Mt} {v : Mv} (h : MtP w m v) : MtR w m v := ⟨h.ms.ri, h.its.rit, h.lv.ri, h.tx.rt, h.ws.ri⟩
theorem MtP.keep {w w' : World} {m : Mt} {v : Mv} (h : MtP w m v) (hk : ∀ k, v.own k → k < w.heap.size → w'.heap[k]? = w.heap[k]?) : MtP w' m v :=
  ⟨h.ms.keep fun k a b => hk k (.inl a) b, h.its.keep fun k a b => hk k (.inr (.inl a)) b, h.lv.keep fun k a b => hk k (.inr (.inr (.inl a))) b, h.tx.keep' fun k a b => hk k (.inr (.inr (.inr (.inl a)))) b, h.ws.keep fun k a b => hk k (.inr (.inr (.inr (.inr a)))) b⟩
theorem MtP.later {w w' : World} {m : Mt} {v : Mv} (h : MtP w m v) (hb : Below w.heap.size w w') : MtP w' m v := h.keep fun k _ hk => hb.block k hk
theorem Pl.OwnI.sv {w : World} {B : Nat} {v : Value} {xs : List Int} (h : OwnI w B v xs) : ∃ s : Sv, v = .slice s.a s.n s.c := by obtain ⟨a, c, h1⟩ := h.form; exact ⟨⟨a, xs.length, c⟩, h1⟩
theorem Pl.OwnS.sv {w : World} {B : Nat} {v : Value} {xs : List ByteArray} (h : OwnS w B v xs) : ∃ s : Sv, v = .slice s.a s.n s.c := by obtain ⟨a, c, h1⟩ := h.form; exact ⟨⟨a, xs.length, c⟩, h1⟩
theorem SlI.sv {w : World} {B : Nat} {v : Value} {xs : List It} (h : SlI w B v xs) : ∃ s : Sv, v = .slice s.a s.n s.c := by obtain ⟨a, c, h1⟩ := Sl.form h; exact ⟨⟨a, xs.length, c⟩, h1⟩
end Go.Proofs.Ytdodeillifoibaa


/- A ring at work, in plain words, and where it lies. -/
namespace Go.Proofs.Ytdodeillifoibaa
open Go.RowKit Pl
set_option linter.unusedVariables false

/-- what is on the way. -/
structure Fl where
  to : Int
  tk : Bool
  t : Tok
  x : It
/-- cells of a member, of what is on the way, of a list of lists. -/
def mcel (e : Mt × Mv) : List Value := [.int .i64 e.1.id, .int .i64 e.1.rid, .slice e.2.ms.a e.2.ms.n e.2.ms.c, .slice e.2.its.a e.2.its.n e.2.its.c, .slice e.2.lv.a e.2.lv.n e.2.lv.c, .slice e.2.tx.a e.2.tx.n e.2.tx.c, .int .i64 e.1.rd, .int .i64 e.1.se, .int .i64 e.1.li, .int .i64 e.1.he, .int .i64 e.1.la.c, .int .i64 e.1.la.r, .int .i64 e.1.la.q, .int .i64 e.1.la.a, .int .i64 e.1.la.b, .slice e.2.ws.a e.2.ws.n e.2.ws.c]
def fcel (e : Fl × Sv) : List Value := [.int .i64 e.1.to, .bool e.1.tk, .int .i64 e.1.t.c, .int .i64 e.1.t.r, .int .i64 e.1.t.q, .int .i64 e.1.t.a, .int .i64 e.1.t.b, .slice e.2.a e.2.n e.2.c, .int .i64 e.1.x.1, .int .i64 e.1.x.2.1, .int .i64 e.1.x.2.2.1, .string e.1.x.2.2.2]
def hcel (e : List It × Sv) : List Value := [.slice e.2.a e.2.n e.2.c]
/-- lists of members, of what is on the way, of lists of items, that lie there. -/
def MsP (w : World) (B : Nat) (v : Value) (es : List (Mt × Mv)) : Prop := SlN w 74 16 B v (es.map mcel) ∧ ∀ e ∈ es, MtP w e.1 e.2
def HsP (w : World) (B : Nat) (v : Value) (es : List (List It × Sv)) : Prop := SlN w 24 1 B v (es.map hcel) ∧ ∀ e ∈ es, SlI w 0 e.2.v e.1
/-- a ring at work: its ring, its members, what is on the way, what was heard and said, and the slices. -/
structure Wv where
  rid : Int
  ms : List Int
  mv : Sv
  ma : List (Mt × Mv)
  mav : Sv
  fl : List (Fl × Sv)
  flv : Sv
  he : List (List It × Sv)
  hev : Sv
  sa : List It
  sav : Sv
def Wv.cells (k : Wv) : List Value := [.int .i64 k.rid, .slice k.mv.a k.mv.n k.mv.c, .slice k.mav.a k.mav.n k.mav.c, .slice k.flv.a k.flv.n k.flv.c, .slice k.hev.a k.hev.n k.hev.c, .slice k.sav.a k.sav.n k.sav.c]
section
variable {w w' : World} {B : Nat} {v : Value}
theorem MsP.below {es : List (Mt × Mv)} (h : MsP w B v es) (hb : Below w.heap.size w w') : MsP w' B v es := ⟨h.1.below hb, fun e he => (h.2 e he).later hb⟩
theorem HsP.below {es : List (List It × Sv)} (h : HsP w B v es) (hb : Below w.heap.size w w') : HsP w' B v es := ⟨h.1.below hb, fun e he => (h.2 e he).below hb⟩
theorem MsP.down {B' : Nat} {es : List (Mt × Mv)} (h : MsP w B v es) (hB : B' ≤ B) : MsP w B' v es := ⟨h.1.down hB, h.2⟩
theorem HsP.down {B' : Nat} {es : List (List It × Sv)} (h : HsP w B v es) (hB : B' ≤ B) : HsP w B' v es := ⟨h.1.down hB, h.2⟩
end
end Go.Proofs.Ytdodeillifoibaa


/- Blocks of other types stay. -/
namespace Go.Proofs.Ytdodeillifoibaa
open Go.RowKit Pl
set_option linter.unusedVariables false

/-- blocks whose elements are of none of these types stay as they are. -/
structure KeepTy (S : Nat → Prop) (w w' : World) : Prop where
  os : w'.os = w.os
  tape : w'.tape = w.tape
  output : w'.output = w.output
  size : w.heap.size ≤ w'.heap.size
  block : ∀ k, k < w.heap.size → (∀ cs T z, w.heap[k]? = some (.cells cs T z) → ¬ S T) → w'.heap[k]? = w.heap[k]?
section
variable {S : Nat → Prop} {w w' w'' : World}
theorem KeepTy.refl (S : Nat → Prop) (w : World) : KeepTy S w w := ⟨rfl, rfl, rfl, Nat.le_refl _, fun _ _ _ => rfl⟩
theorem KeepTy.trans (h : KeepTy S w w') (k : KeepTy S w' w'') : KeepTy S w w'' :=
  ⟨k.os.trans h.os, k.tape.trans h.tape, k.output.trans h.output, Nat.le_trans h.size k.size, fun b hb ht => by
    have h1 := h.block b hb ht
    exact (k.block b (Nat.lt_of_lt_of_le hb h.size) (fun cs T z hc => ht cs T z (h1 ▸ hc))).trans h1⟩
end
end Go.Proofs.Ytdodeillifoibaa


/- Texts copied: the walk over copyOfTexts. -/
namespace Go.Proofs.Ytdodeillifoibaa
open Go.RowKit Pl
set_option linter.unusedVariables false
end Go.Proofs.Ytdodeillifoibaa


/- A new member: the walks over isMember, copyOfRing and both MateNew. -/
namespace Go.Proofs.Ytdodeillifoibaa
open Go.RowKit Pl
set_option linter.unusedVariables false
end Go.Proofs.Ytdodeillifoibaa


/- A member at work: the walks over memberOf and mate. Written by gen_mb.py. -/
namespace Go.Proofs.Ytdodeillifoibaa
open Go.RowKit Pl
set_option linter.unusedVariables false
set_option linter.unusedSimpArgs false
end Go.Proofs.Ytdodeillifoibaa


/- What a member has to say, and whether it is right: small walks. -/
namespace Go.Proofs.Ytdodeillifoibaa
open Go.RowKit Pl
set_option linter.unusedVariables false
set_option linter.unusedSimpArgs false

/-- whether texts are short. -/
def fitB (ts : List ByteArray) : Bool := ts.all fun t => decide (t.size ≤ 60)
/-- whether a number is a level. -/
def lvB (l : Int) : Bool := decide (1 ≤ l ∧ l ≤ 2)
def lvsB (lv : List Int) : Bool := lv.all lvB
/-- whether it may stand there to be said. -/
def sayB (lv : List Int) (tx : List ByteArray) : Bool := decide (tx.length ≤ 20) && (decide (lv.length = tx.length) && (lvsB lv && fitB tx))

end Go.Proofs.Ytdodeillifoibaa


/- Tokens of which all is zero; what a member has to say, by the specification. Written by gen_mp.py. -/
namespace Go.Proofs.Ytdodeillifoibaa
open Go.RowKit Pl
set_option linter.unusedVariables false
set_option linter.unusedSimpArgs false

/-- whether all of a token is zero. -/
def ntB (c r q a b : Int) (ws : List Int) : Bool := (c == 0) && ((r == 0) && ((q == 0) && ((a == 0) && ((b == 0) && ((ws.length : Int) == 0)))))

/-- the first k of them may be said. -/
def SaySt (lv : List Int) (tx : List ByteArray) (k : Nat) : Prop := (∀ t ∈ tx.take k, t.size ≤ 60) ∧ ∀ l ∈ lv.take k, lvB l = true
end Go.Proofs.Ytdodeillifoibaa


/- Whether a member is right: the walks over both MateOk. Written by gen_mok.py. -/
namespace Go.Proofs.Ytdodeillifoibaa
open Go.RowKit Pl
set_option linter.unusedVariables false
set_option linter.unusedSimpArgs false

/-- whether a member is right. -/
def Mt.ok (m : Mt) : Bool := ringB m.rid m.ms && (inB m.ms m.id && (iGo 0 m.its && (sayB m.lv m.tx && (decide (0 ≤ m.rd ∧ m.rd ≤ 1000000000) && (decide (0 ≤ m.se ∧ m.se ≤ 60) && (decide (0 ≤ m.li ∧ m.li ≤ ((aruP m.its : Nat) : Int)) && (decide (0 ≤ m.he ∧ m.he ≤ ((aruP m.its : Nat) : Int)) && (ntB m.la.c m.la.r m.la.q m.la.a m.la.b m.la.ws || tkB m.la.c m.la.r m.la.q m.la.a m.la.b m.la.ws))))))))

end Go.Proofs.Ytdodeillifoibaa


/- Members copied by a law. Written by gen_tm.py. -/
namespace Go.Proofs.Ytdodeillifoibaa
open Go.RowKit Pl
set_option linter.unusedVariables false
set_option linter.unusedSimpArgs false

theorem toRing_r (i : Int) (s : Sv) (ms : List Int) (w : World) (h : Hid (RI w s.v ms)) (hl : ms.length ≤ 1048576) :
    Calls Try.prog 53 #[.agg #[.int .i64 i, .slice s.a s.n s.c]] w fun e w' => ∃ u : Sv, e = .returned (.agg #[.int .i64 i, .slice u.a u.n u.c]) ∧ OwnI w' w.heap.size u.v ms ∧ Below w.heap.size w w' := by
  obtain ⟨ao, cap, h1, h2⟩ := h.out; unfold Sv.v at h1; rw [h1]
  refine (toRing_any i ao cap ms w h2 hl).mono fun e w' ⟨v, a, b, c⟩ => ?_
  obtain ⟨ao', cap', rfl⟩ := b.form
  exact ⟨⟨ao', ms.length, cap'⟩, a, b, c⟩
theorem toI_r (s : Sv) (ms : List Int) (w : World) (h : Hid (RI w s.v ms)) (hl : ms.length ≤ 1048576) :
    Calls Try.prog 55 #[.slice s.a s.n s.c] w fun e w' => ∃ u : Sv, e = .returned (.slice u.a u.n u.c) ∧ OwnI w' w.heap.size u.v ms ∧ Below w.heap.size w w' := by
  obtain ⟨ao, cap, h1, h2⟩ := h.out; unfold Sv.v at h1; rw [h1]
  refine (toI_any w ao cap ms h2 hl).mono fun e w' ⟨v, a, b, c⟩ => ?_
  obtain ⟨ao', cap', rfl⟩ := b.form
  exact ⟨⟨ao', ms.length, cap'⟩, a, b, c⟩
theorem toT_r (s : Sv) (ms : List ByteArray) (w : World) (h : Hid (RT w s.v ms)) (hl : ms.length ≤ 1048576) :
    Calls Try.prog 101 #[.slice s.a s.n s.c] w fun e w' => ∃ u : Sv, e = .returned (.slice u.a u.n u.c) ∧ OwnS w' w.heap.size u.v ms ∧ Below w.heap.size w w' := by
  obtain ⟨ao, cap, h1, h2⟩ := h.out; unfold Sv.v at h1; rw [h1]
  refine (toS_any w ao cap ms h2 hl).mono fun e w' ⟨v, a, b, c⟩ => ?_
  obtain ⟨ao', cap', rfl⟩ := b.form
  exact ⟨⟨ao', ms.length, cap'⟩, a, b, c⟩
theorem toIt_r (s : Sv) (ms : List It) (w : World) (h : Hid (RIt w s.v ms)) (hl : ms.length ≤ 1048576) :
    Calls Try.prog 100 #[.slice s.a s.n s.c] w fun e w' => ∃ u : Sv, e = .returned (.slice u.a u.n u.c) ∧ SlI w' w.heap.size u.v ms ∧ Below w.heap.size w w' := by
  obtain ⟨ao, cap, h1, h2⟩ := h.out; unfold Sv.v at h1; rw [h1]
  refine (toItems_sl w ao cap ms h2 hl).mono fun e w' ⟨a, b, _, c⟩ => ?_
  exact ⟨⟨_, ms.length, ms.length⟩, a, b, c⟩
theorem toTok_r (c r q a b : Int) (s : Sv) (ms : List Int) (w : World) (h : Hid (RI w s.v ms)) (hl : ms.length ≤ 1048576) :
    Calls Try.prog 87 #[.agg #[.int .i64 c, .int .i64 r, .int .i64 q, .int .i64 a, .int .i64 b, .slice s.a s.n s.c]] w fun e w' => ∃ u : Sv, e = .returned (.agg #[.int .i64 c, .int .i64 r, .int .i64 q, .int .i64 a, .int .i64 b, .slice u.a u.n u.c]) ∧ OwnI w' w.heap.size u.v ms ∧ Below w.heap.size w w' := by
  obtain ⟨ao, cap, h1, h2⟩ := h.out; unfold Sv.v at h1; rw [h1]
  refine (toTok_any c r q a b ao cap ms w h2 hl).mono fun e w' ⟨v, x, y, z⟩ => ?_
  obtain ⟨ao', cap', rfl⟩ := y.form
  exact ⟨⟨ao', ms.length, cap'⟩, x, y, z⟩

set_option maxRecDepth 100000 in
set_option maxHeartbeats 4000000 in
theorem toMate_any (m : Mt) (v : Mv) (w : World) (h : Hid (MtR w m v)) (hs : Hid (MtS m)) :
    Calls Try.prog 85 #[.agg #[.int .i64 m.id, .int .i64 m.rid, .slice v.ms.a v.ms.n v.ms.c, .slice v.its.a v.its.n v.its.c, .slice v.lv.a v.lv.n v.lv.c, .slice v.tx.a v.tx.n v.tx.c, .int .i64 m.rd, .int .i64 m.se, .int .i64 m.li, .int .i64 m.he, .int .i64 m.la.c, .int .i64 m.la.r, .int .i64 m.la.q, .int .i64 m.la.a, .int .i64 m.la.b, .slice v.ws.a v.ws.n v.ws.c]] w fun e w' => ∃ u : Mv, e = .returned (.agg #[.int .i64 m.id, .int .i64 m.rid, .slice u.ms.a u.ms.n u.ms.c, .slice u.its.a u.its.n u.its.c, .slice u.lv.a u.lv.n u.lv.c, .slice u.tx.a u.tx.n u.tx.c, .int .i64 m.rd, .int .i64 m.se, .int .i64 m.li, .int .i64 m.he, .int .i64 m.la.c, .int .i64 m.la.r, .int .i64 m.la.q, .int .i64 m.la.a, .int .i64 m.la.b, .slice u.ws.a u.ws.n u.ws.c]) ∧ MtO w' w.heap.size m u ∧ Below w.heap.size w w' := by
  have hn1 : (w.alloc (.cells #[.int .i64 m.id, .int .i64 m.rid, .slice v.ms.a v.ms.n v.ms.c, .slice v.its.a v.its.n v.its.c, .slice v.lv.a v.lv.n v.lv.c, .slice v.tx.a v.tx.n v.tx.c, .int .i64 m.rd, .int .i64 m.se, .int .i64 m.li, .int .i64 m.he, .int .i64 m.la.c, .int .i64 m.la.r, .int .i64 m.la.q, .int .i64 m.la.a, .int .i64 m.la.b, .slice v.ws.a v.ws.n v.ws.c] 104)).heap.size = w.heap.size + 1 := by simp
  have hn2 : ((w.alloc (.cells #[.int .i64 m.id, .int .i64 m.rid, .slice v.ms.a v.ms.n v.ms.c, .slice v.its.a v.its.n v.its.c, .slice v.lv.a v.lv.n v.lv.c, .slice v.tx.a v.tx.n v.tx.c, .int .i64 m.rd, .int .i64 m.se, .int .i64 m.li, .int .i64 m.he, .int .i64 m.la.c, .int .i64 m.la.r, .int .i64 m.la.q, .int .i64 m.la.a, .int .i64 m.la.b, .slice v.ws.a v.ws.n v.ws.c] 104)).alloc (.cells #[.int .i64 0, .int .i64 0, .slice none 0 0, .slice none 0 0, .slice none 0 0, .slice none 0 0, .int .i64 0, .int .i64 0, .int .i64 0, .int .i64 0, .int .i64 0, .int .i64 0, .int .i64 0, .int .i64 0, .int .i64 0, .slice none 0 0] 74)).heap.size = w.heap.size + 2 := by simp
  have HA : Hid (MtB (((w.alloc (.cells #[.int .i64 m.id, .int .i64 m.rid, .slice v.ms.a v.ms.n v.ms.c, .slice v.its.a v.its.n v.its.c, .slice v.lv.a v.lv.n v.lv.c, .slice v.tx.a v.tx.n v.tx.c, .int .i64 m.rd, .int .i64 m.se, .int .i64 m.li, .int .i64 m.he, .int .i64 m.la.c, .int .i64 m.la.r, .int .i64 m.la.q, .int .i64 m.la.a, .int .i64 m.la.b, .slice v.ws.a v.ws.n v.ws.c] 104)).alloc (.cells #[.int .i64 0, .int .i64 0, .slice none 0 0, .slice none 0 0, .slice none 0 0, .slice none 0 0, .int .i64 0, .int .i64 0, .int .i64 0, .int .i64 0, .int .i64 0, .int .i64 0, .int .i64 0, .int .i64 0, .int .i64 0, .slice none 0 0] 74)).alloc (.cells #[.int .i64 m.id, .int .i64 0, .slice none 0 0, .slice none 0 0, .slice none 0 0, .slice none 0 0, .int .i64 0, .int .i64 0, .int .i64 0, .int .i64 0, .int .i64 0, .int .i64 0, .int .i64 0, .int .i64 0, .int .i64 0, .slice none 0 0] 74)) w.heap.size 104 m v) := by
    have h := Bx.new w 104 [.int .i64 m.id, .int .i64 m.rid, .slice v.ms.a v.ms.n v.ms.c, .slice v.its.a v.its.n v.its.c, .slice v.lv.a v.lv.n v.lv.c, .slice v.tx.a v.tx.n v.tx.c, .int .i64 m.rd, .int .i64 m.se, .int .i64 m.li, .int .i64 m.he, .int .i64 m.la.c, .int .i64 m.la.r, .int .i64 m.la.q, .int .i64 m.la.a, .int .i64 m.la.b, .slice v.ws.a v.ws.n v.ws.c]
    exact h.stays (B := w.heap.size + 1) (((Below.refl _ _).alloc (by rw [hn1]; exact Nat.le_refl _) _).alloc (by rw [hn2]; omega) _) (by omega)
  have HR : Hid (Bx (((w.alloc (.cells #[.int .i64 m.id, .int .i64 m.rid, .slice v.ms.a v.ms.n v.ms.c, .slice v.its.a v.its.n v.its.c, .slice v.lv.a v.lv.n v.lv.c, .slice v.tx.a v.tx.n v.tx.c, .int .i64 m.rd, .int .i64 m.se, .int .i64 m.li, .int .i64 m.he, .int .i64 m.la.c, .int .i64 m.la.r, .int .i64 m.la.q, .int .i64 m.la.a, .int .i64 m.la.b, .slice v.ws.a v.ws.n v.ws.c] 104)).alloc (.cells #[.int .i64 0, .int .i64 0, .slice none 0 0, .slice none 0 0, .slice none 0 0, .slice none 0 0, .int .i64 0, .int .i64 0, .int .i64 0, .int .i64 0, .int .i64 0, .int .i64 0, .int .i64 0, .int .i64 0, .int .i64 0, .slice none 0 0] 74)).alloc (.cells #[.int .i64 m.id, .int .i64 0, .slice none 0 0, .slice none 0 0, .slice none 0 0, .slice none 0 0, .int .i64 0, .int .i64 0, .int .i64 0, .int .i64 0, .int .i64 0, .int .i64 0, .int .i64 0, .int .i64 0, .int .i64 0, .slice none 0 0] 74)) (w.heap.size + 1) 74 [.int .i64 0, .int .i64 0, .slice none 0 0, .slice none 0 0, .slice none 0 0, .slice none 0 0, .int .i64 0, .int .i64 0, .int .i64 0, .int .i64 0, .int .i64 0, .int .i64 0, .int .i64 0, .int .i64 0, .int .i64 0, .slice none 0 0]) := by
    have h := Bx.new (w.alloc (.cells #[.int .i64 m.id, .int .i64 m.rid, .slice v.ms.a v.ms.n v.ms.c, .slice v.its.a v.its.n v.its.c, .slice v.lv.a v.lv.n v.lv.c, .slice v.tx.a v.tx.n v.tx.c, .int .i64 m.rd, .int .i64 m.se, .int .i64 m.li, .int .i64 m.he, .int .i64 m.la.c, .int .i64 m.la.r, .int .i64 m.la.q, .int .i64 m.la.a, .int .i64 m.la.b, .slice v.ws.a v.ws.n v.ws.c] 104)) 74 [.int .i64 0, .int .i64 0, .slice none 0 0, .slice none 0 0, .slice none 0 0, .slice none 0 0, .int .i64 0, .int .i64 0, .int .i64 0, .int .i64 0, .int .i64 0, .int .i64 0, .int .i64 0, .int .i64 0, .int .i64 0, .slice none 0 0]
    rw [hn1] at h
    exact h.stays (B := w.heap.size + 2) ((Below.refl _ _).alloc (by rw [hn2]; exact Nat.le_refl _) _) (by omega)
  have HO : Hid (Bx (((w.alloc (.cells #[.int .i64 m.id, .int .i64 m.rid, .slice v.ms.a v.ms.n v.ms.c, .slice v.its.a v.its.n v.its.c, .slice v.lv.a v.lv.n v.lv.c, .slice v.tx.a v.tx.n v.tx.c, .int .i64 m.rd, .int .i64 m.se, .int .i64 m.li, .int .i64 m.he, .int .i64 m.la.c, .int .i64 m.la.r, .int .i64 m.la.q, .int .i64 m.la.a, .int .i64 m.la.b, .slice v.ws.a v.ws.n v.ws.c] 104)).alloc (.cells #[.int .i64 0, .int .i64 0, .slice none 0 0, .slice none 0 0, .slice none 0 0, .slice none 0 0, .int .i64 0, .int .i64 0, .int .i64 0, .int .i64 0, .int .i64 0, .int .i64 0, .int .i64 0, .int .i64 0, .int .i64 0, .slice none 0 0] 74)).alloc (.cells #[.int .i64 m.id, .int .i64 0, .slice none 0 0, .slice none 0 0, .slice none 0 0, .slice none 0 0, .int .i64 0, .int .i64 0, .int .i64 0, .int .i64 0, .int .i64 0, .int .i64 0, .int .i64 0, .int .i64 0, .int .i64 0, .slice none 0 0] 74)) (w.heap.size + 1 + 1) 74 [.int .i64 m.id, .int .i64 0, .slice none 0 0, .slice none 0 0, .slice none 0 0, .slice none 0 0, .int .i64 0, .int .i64 0, .int .i64 0, .int .i64 0, .int .i64 0, .int .i64 0, .int .i64 0, .int .i64 0, .int .i64 0, .slice none 0 0]) := by
    have h := Bx.new ((w.alloc (.cells #[.int .i64 m.id, .int .i64 m.rid, .slice v.ms.a v.ms.n v.ms.c, .slice v.its.a v.its.n v.its.c, .slice v.lv.a v.lv.n v.lv.c, .slice v.tx.a v.tx.n v.tx.c, .int .i64 m.rd, .int .i64 m.se, .int .i64 m.li, .int .i64 m.he, .int .i64 m.la.c, .int .i64 m.la.r, .int .i64 m.la.q, .int .i64 m.la.a, .int .i64 m.la.b, .slice v.ws.a v.ws.n v.ws.c] 104)).alloc (.cells #[.int .i64 0, .int .i64 0, .slice none 0 0, .slice none 0 0, .slice none 0 0, .slice none 0 0, .int .i64 0, .int .i64 0, .int .i64 0, .int .i64 0, .int .i64 0, .int .i64 0, .int .i64 0, .int .i64 0, .int .i64 0, .slice none 0 0] 74)) 74 [.int .i64 m.id, .int .i64 0, .slice none 0 0, .slice none 0 0, .slice none 0 0, .slice none 0 0, .int .i64 0, .int .i64 0, .int .i64 0, .int .i64 0, .int .i64 0, .int .i64 0, .int .i64 0, .int .i64 0, .int .i64 0, .slice none 0 0]
    rw [hn2] at h
    exact h
  have HB : Hid (Below w.heap.size w (((w.alloc (.cells #[.int .i64 m.id, .int .i64 m.rid, .slice v.ms.a v.ms.n v.ms.c, .slice v.its.a v.its.n v.its.c, .slice v.lv.a v.lv.n v.lv.c, .slice v.tx.a v.tx.n v.tx.c, .int .i64 m.rd, .int .i64 m.se, .int .i64 m.li, .int .i64 m.he, .int .i64 m.la.c, .int .i64 m.la.r, .int .i64 m.la.q, .int .i64 m.la.a, .int .i64 m.la.b, .slice v.ws.a v.ws.n v.ws.c] 104)).alloc (.cells #[.int .i64 0, .int .i64 0, .slice none 0 0, .slice none 0 0, .slice none 0 0, .slice none 0 0, .int .i64 0, .int .i64 0, .int .i64 0, .int .i64 0, .int .i64 0, .int .i64 0, .int .i64 0, .int .i64 0, .int .i64 0, .slice none 0 0] 74)).alloc (.cells #[.int .i64 m.id, .int .i64 0, .slice none 0 0, .slice none 0 0, .slice none 0 0, .slice none 0 0, .int .i64 0, .int .i64 0, .int .i64 0, .int .i64 0, .int .i64 0, .int .i64 0, .int .i64 0, .int .i64 0, .int .i64 0, .slice none 0 0] 74))) := (((Below.refl _ _).alloc (Nat.le_refl _) _).alloc (by simp) _).alloc (by simp; omega) _
  obtain ⟨⟨c0, c1, c2, c3, c4, c5⟩, ⟨c6, c7, c8, c9⟩, c10, c11, c12, c13, c14, c15⟩ := HA.out.cells
  clear hn1 hn2
  go_enter Try.func85, Try.ntmps85
  go_wp2_with fail
  clear c0 c1 c2 c3 c4 c5 c6 c7 c8 c9 c10 c11 c12 c13 c14 c15
  generalize (((w.alloc (.cells #[.int .i64 m.id, .int .i64 m.rid, .slice v.ms.a v.ms.n v.ms.c, .slice v.its.a v.its.n v.its.c, .slice v.lv.a v.lv.n v.lv.c, .slice v.tx.a v.tx.n v.tx.c, .int .i64 m.rd, .int .i64 m.se, .int .i64 m.li, .int .i64 m.he, .int .i64 m.la.c, .int .i64 m.la.r, .int .i64 m.la.q, .int .i64 m.la.a, .int .i64 m.la.b, .slice v.ws.a v.ws.n v.ws.c] 104)).alloc (.cells #[.int .i64 0, .int .i64 0, .slice none 0 0, .slice none 0 0, .slice none 0 0, .slice none 0 0, .int .i64 0, .int .i64 0, .int .i64 0, .int .i64 0, .int .i64 0, .int .i64 0, .int .i64 0, .int .i64 0, .int .i64 0, .slice none 0 0] 74)).alloc (.cells #[.int .i64 m.id, .int .i64 0, .slice none 0 0, .slice none 0 0, .slice none 0 0, .slice none 0 0, .int .i64 0, .int .i64 0, .int .i64 0, .int .i64 0, .int .i64 0, .int .i64 0, .int .i64 0, .int .i64 0, .int .i64 0, .slice none 0 0] 74)) = W at *
  refine (toRing_r m.rid v.ms m.ms W (h.out.ms.stays HB.out) hs.out.ms).mono ?_
  rintro e w1 ⟨ums, rfl, ho, b⟩
  have Xms : Hid (OwnI w1 w.heap.size ums.v m.ms) := ho.down HB.out.size
  have Lms : Hid (∀ k, ums.v.ownBlock = some k → W.heap.size ≤ k ∧ k < w1.heap.size) := ho.lt
  have D1 : Hid (W.heap.size ≤ w1.heap.size) := b.size
  have HA : Hid (MtB w1 w.heap.size 104 m v) := Bx.later HA.out b
  have HR : Hid (Bx w1 (w.heap.size + 1) 74 [.int .i64 0, .int .i64 0, .slice none 0 0, .slice none 0 0, .slice none 0 0, .slice none 0 0, .int .i64 0, .int .i64 0, .int .i64 0, .int .i64 0, .int .i64 0, .int .i64 0, .int .i64 0, .int .i64 0, .int .i64 0, .slice none 0 0]) := HR.out.later b
  have HO : Hid (Bx w1 (w.heap.size + 1 + 1) 74 [.int .i64 m.id, .int .i64 0, .slice none 0 0, .slice none 0 0, .slice none 0 0, .slice none 0 0, .int .i64 0, .int .i64 0, .int .i64 0, .int .i64 0, .int .i64 0, .int .i64 0, .int .i64 0, .int .i64 0, .int .i64 0, .slice none 0 0]) := HO.out.later b
  have HB : Hid (Below w.heap.size w w1) := bl_next HB.out b
  clear ho b
  go_wp2_with (first | (refine wpList_stB rfl 56 _ _ rfl (w.heap.size + 1 + 1) 1 rfl 74 _ HO.out [.int .i64 m.rid, .slice ums.a ums.n ums.c] rfl (by simp) Try.sizeR rfl [.int .i64 m.id, .int .i64 m.rid, .slice ums.a ums.n ums.c, .slice none 0 0, .slice none 0 0, .slice none 0 0, .int .i64 0, .int .i64 0, .int .i64 0, .int .i64 0, .int .i64 0, .int .i64 0, .int .i64 0, .int .i64 0, .int .i64 0, .slice none 0 0] rfl ?_; intro w2 OB TB; have Xms : Hid (OwnI w2 w.heap.size ums.v m.ms) := Xms.out.past HO.out TB (by decide); have HA : Hid (MtB w2 w.heap.size 104 m v) := Bx.turn HA.out TB (by omega); have HR : Hid (Bx w2 (w.heap.size + 1) 74 [.int .i64 0, .int .i64 0, .slice none 0 0, .slice none 0 0, .slice none 0 0, .slice none 0 0, .int .i64 0, .int .i64 0, .int .i64 0, .int .i64 0, .int .i64 0, .int .i64 0, .int .i64 0, .int .i64 0, .int .i64 0, .slice none 0 0]) := HR.out.turn TB (by omega); have HB : Hid (Below w.heap.size w w2) := HB.out.trans (TB.below (by omega)); have D2 : Hid (w1.heap.size ≤ w2.heap.size) := Nat.le_of_eq TB.size.symm; have HO : Hid (Bx w2 (w.heap.size + 1 + 1) 74 [.int .i64 m.id, .int .i64 m.rid, .slice ums.a ums.n ums.c, .slice none 0 0, .slice none 0 0, .slice none 0 0, .int .i64 0, .int .i64 0, .int .i64 0, .int .i64 0, .int .i64 0, .int .i64 0, .int .i64 0, .int .i64 0, .int .i64 0, .slice none 0 0]) := OB; clear TB OB; obtain ⟨⟨c0, c1, c2, c3, c4, c5⟩, ⟨c6, c7, c8, c9⟩, c10, c11, c12, c13, c14, c15⟩ := HA.out.cells))
  clear c0 c1 c2 c3 c4 c5 c6 c7 c8 c9 c10 c11 c12 c13 c14 c15
  refine (toIt_r v.its m.its w2 (h.out.its.stays HB.out) hs.out.its).mono ?_
  rintro e w3 ⟨uits, rfl, ho, b⟩
  have Xms : Hid (OwnI w3 w.heap.size ums.v m.ms) := Xms.out.under b
  have Xits : Hid (SlI w3 w.heap.size uits.v m.its) := ho.down HB.out.size
  have Lits : Hid (∀ k, uits.v.ownBlock = some k → w2.heap.size ≤ k ∧ k < w3.heap.size) := ho.lt
  have D3 : Hid (w2.heap.size ≤ w3.heap.size) := b.size
  have HA : Hid (MtB w3 w.heap.size 104 m v) := Bx.later HA.out b
  have HR : Hid (Bx w3 (w.heap.size + 1) 74 [.int .i64 0, .int .i64 0, .slice none 0 0, .slice none 0 0, .slice none 0 0, .slice none 0 0, .int .i64 0, .int .i64 0, .int .i64 0, .int .i64 0, .int .i64 0, .int .i64 0, .int .i64 0, .int .i64 0, .int .i64 0, .slice none 0 0]) := HR.out.later b
  have HO : Hid (Bx w3 (w.heap.size + 1 + 1) 74 [.int .i64 m.id, .int .i64 m.rid, .slice ums.a ums.n ums.c, .slice none 0 0, .slice none 0 0, .slice none 0 0, .int .i64 0, .int .i64 0, .int .i64 0, .int .i64 0, .int .i64 0, .int .i64 0, .int .i64 0, .int .i64 0, .int .i64 0, .slice none 0 0]) := HO.out.later b
  have HB : Hid (Below w.heap.size w w3) := bl_next HB.out b
  clear ho b
  obtain ⟨⟨c0, c1, c2, c3, c4, c5⟩, ⟨c6, c7, c8, c9⟩, c10, c11, c12, c13, c14, c15⟩ := HA.out.cells
  have o3 := HO.out.cell 3
  have z3 := HO.out.frozen 3
  go_wp2_with fail
  clear c0 c1 c2 c3 c4 c5 c6 c7 c8 c9 c10 c11 c12 c13 c14 c15
  clear o3 z3
  have OB : Bx _ (w.heap.size + 1 + 1) 74 [.int .i64 m.id, .int .i64 m.rid, .slice ums.a ums.n ums.c, .slice uits.a uits.n uits.c, .slice none 0 0, .slice none 0 0, .int .i64 0, .int .i64 0, .int .i64 0, .int .i64 0, .int .i64 0, .int .i64 0, .int .i64 0, .int .i64 0, .int .i64 0, .slice none 0 0] := (HO.out.set 3 (.slice uits.a uits.n uits.c))
  have TB := ((TurnAt.refl (w.heap.size + 1 + 1) w3).setCell 3 (.slice uits.a uits.n uits.c))
  generalize (w3.setCell ⟨w.heap.size + 1 + 1, 3, none⟩ (.slice uits.a uits.n uits.c)) = S4 at *
  have Xms : Hid (OwnI S4 w.heap.size ums.v m.ms) := Xms.out.past HO.out TB (by decide)
  have Xits : Hid (SlI S4 w.heap.size uits.v m.its) := Xits.out.past HO.out TB (by decide)
  have HA : Hid (MtB S4 w.heap.size 104 m v) := Bx.turn HA.out TB (by omega)
  have HR : Hid (Bx S4 (w.heap.size + 1) 74 [.int .i64 0, .int .i64 0, .slice none 0 0, .slice none 0 0, .slice none 0 0, .slice none 0 0, .int .i64 0, .int .i64 0, .int .i64 0, .int .i64 0, .int .i64 0, .int .i64 0, .int .i64 0, .int .i64 0, .int .i64 0, .slice none 0 0]) := HR.out.turn TB (by omega)
  have HB : Hid (Below w.heap.size w S4) := HB.out.trans (TB.below (by omega))
  have D4 : Hid (w3.heap.size ≤ S4.heap.size) := Nat.le_of_eq TB.size.symm
  have HO : Hid (Bx S4 (w.heap.size + 1 + 1) 74 [.int .i64 m.id, .int .i64 m.rid, .slice ums.a ums.n ums.c, .slice uits.a uits.n uits.c, .slice none 0 0, .slice none 0 0, .int .i64 0, .int .i64 0, .int .i64 0, .int .i64 0, .int .i64 0, .int .i64 0, .int .i64 0, .int .i64 0, .int .i64 0, .slice none 0 0]) := OB
  clear TB OB
  refine (toI_r v.lv m.lv S4 (h.out.lv.stays HB.out) hs.out.lv).mono ?_
  rintro e w5 ⟨ulv, rfl, ho, b⟩
  have Xms : Hid (OwnI w5 w.heap.size ums.v m.ms) := Xms.out.under b
  have Xits : Hid (SlI w5 w.heap.size uits.v m.its) := Xits.out.below b
  have Xlv : Hid (OwnI w5 w.heap.size ulv.v m.lv) := ho.down HB.out.size
  have Llv : Hid (∀ k, ulv.v.ownBlock = some k → S4.heap.size ≤ k ∧ k < w5.heap.size) := ho.lt
  have D5 : Hid (S4.heap.size ≤ w5.heap.size) := b.size
  have HA : Hid (MtB w5 w.heap.size 104 m v) := Bx.later HA.out b
  have HR : Hid (Bx w5 (w.heap.size + 1) 74 [.int .i64 0, .int .i64 0, .slice none 0 0, .slice none 0 0, .slice none 0 0, .slice none 0 0, .int .i64 0, .int .i64 0, .int .i64 0, .int .i64 0, .int .i64 0, .int .i64 0, .int .i64 0, .int .i64 0, .int .i64 0, .slice none 0 0]) := HR.out.later b
  have HO : Hid (Bx w5 (w.heap.size + 1 + 1) 74 [.int .i64 m.id, .int .i64 m.rid, .slice ums.a ums.n ums.c, .slice uits.a uits.n uits.c, .slice none 0 0, .slice none 0 0, .int .i64 0, .int .i64 0, .int .i64 0, .int .i64 0, .int .i64 0, .int .i64 0, .int .i64 0, .int .i64 0, .int .i64 0, .slice none 0 0]) := HO.out.later b
  have HB : Hid (Below w.heap.size w w5) := bl_next HB.out b
  clear ho b
  obtain ⟨⟨c0, c1, c2, c3, c4, c5⟩, ⟨c6, c7, c8, c9⟩, c10, c11, c12, c13, c14, c15⟩ := HA.out.cells
  have o4 := HO.out.cell 4
  have z4 := HO.out.frozen 4
  go_wp2_with fail
  clear c0 c1 c2 c3 c4 c5 c6 c7 c8 c9 c10 c11 c12 c13 c14 c15
  clear o4 z4
  have OB : Bx _ (w.heap.size + 1 + 1) 74 [.int .i64 m.id, .int .i64 m.rid, .slice ums.a ums.n ums.c, .slice uits.a uits.n uits.c, .slice ulv.a ulv.n ulv.c, .slice none 0 0, .int .i64 0, .int .i64 0, .int .i64 0, .int .i64 0, .int .i64 0, .int .i64 0, .int .i64 0, .int .i64 0, .int .i64 0, .slice none 0 0] := (HO.out.set 4 (.slice ulv.a ulv.n ulv.c))
  have TB := ((TurnAt.refl (w.heap.size + 1 + 1) w5).setCell 4 (.slice ulv.a ulv.n ulv.c))
  generalize (w5.setCell ⟨w.heap.size + 1 + 1, 4, none⟩ (.slice ulv.a ulv.n ulv.c)) = S6 at *
  have Xms : Hid (OwnI S6 w.heap.size ums.v m.ms) := Xms.out.past HO.out TB (by decide)
  have Xits : Hid (SlI S6 w.heap.size uits.v m.its) := Xits.out.past HO.out TB (by decide)
  have Xlv : Hid (OwnI S6 w.heap.size ulv.v m.lv) := Xlv.out.past HO.out TB (by decide)
  have HA : Hid (MtB S6 w.heap.size 104 m v) := Bx.turn HA.out TB (by omega)
  have HR : Hid (Bx S6 (w.heap.size + 1) 74 [.int .i64 0, .int .i64 0, .slice none 0 0, .slice none 0 0, .slice none 0 0, .slice none 0 0, .int .i64 0, .int .i64 0, .int .i64 0, .int .i64 0, .int .i64 0, .int .i64 0, .int .i64 0, .int .i64 0, .int .i64 0, .slice none 0 0]) := HR.out.turn TB (by omega)
  have HB : Hid (Below w.heap.size w S6) := HB.out.trans (TB.below (by omega))
  have D6 : Hid (w5.heap.size ≤ S6.heap.size) := Nat.le_of_eq TB.size.symm
  have HO : Hid (Bx S6 (w.heap.size + 1 + 1) 74 [.int .i64 m.id, .int .i64 m.rid, .slice ums.a ums.n ums.c, .slice uits.a uits.n uits.c, .slice ulv.a ulv.n ulv.c, .slice none 0 0, .int .i64 0, .int .i64 0, .int .i64 0, .int .i64 0, .int .i64 0, .int .i64 0, .int .i64 0, .int .i64 0, .int .i64 0, .slice none 0 0]) := OB
  clear TB OB
  refine (toT_r v.tx m.tx S6 (h.out.tx.stays HB.out) hs.out.tx).mono ?_
  rintro e w7 ⟨utx, rfl, ho, b⟩
  have Xms : Hid (OwnI w7 w.heap.size ums.v m.ms) := Xms.out.under b
  have Xits : Hid (SlI w7 w.heap.size uits.v m.its) := Xits.out.below b
  have Xlv : Hid (OwnI w7 w.heap.size ulv.v m.lv) := Xlv.out.under b
  have Xtx : Hid (OwnS w7 w.heap.size utx.v m.tx) := ho.down HB.out.size
  have Ltx : Hid (∀ k, utx.v.ownBlock = some k → S6.heap.size ≤ k ∧ k < w7.heap.size) := ho.lt
  have D7 : Hid (S6.heap.size ≤ w7.heap.size) := b.size
  have HA : Hid (MtB w7 w.heap.size 104 m v) := Bx.later HA.out b
  have HR : Hid (Bx w7 (w.heap.size + 1) 74 [.int .i64 0, .int .i64 0, .slice none 0 0, .slice none 0 0, .slice none 0 0, .slice none 0 0, .int .i64 0, .int .i64 0, .int .i64 0, .int .i64 0, .int .i64 0, .int .i64 0, .int .i64 0, .int .i64 0, .int .i64 0, .slice none 0 0]) := HR.out.later b
  have HO : Hid (Bx w7 (w.heap.size + 1 + 1) 74 [.int .i64 m.id, .int .i64 m.rid, .slice ums.a ums.n ums.c, .slice uits.a uits.n uits.c, .slice ulv.a ulv.n ulv.c, .slice none 0 0, .int .i64 0, .int .i64 0, .int .i64 0, .int .i64 0, .int .i64 0, .int .i64 0, .int .i64 0, .int .i64 0, .int .i64 0, .slice none 0 0]) := HO.out.later b
  have HB : Hid (Below w.heap.size w w7) := bl_next HB.out b
  clear ho b
  obtain ⟨⟨c0, c1, c2, c3, c4, c5⟩, ⟨c6, c7, c8, c9⟩, c10, c11, c12, c13, c14, c15⟩ := HA.out.cells
  have o5 := HO.out.cell 5
  have z5 := HO.out.frozen 5
  have o6 := HO.out.cell 6
  have z6 := HO.out.frozen 6
  have o7 := HO.out.cell 7
  have z7 := HO.out.frozen 7
  have o8 := HO.out.cell 8
  have z8 := HO.out.frozen 8
  have o9 := HO.out.cell 9
  have z9 := HO.out.frozen 9
  go_wp2_with fail
  clear c0 c1 c2 c3 c4 c5 c6 c7 c8 c9 c10 c11 c12 c13 c14 c15
  clear o5 z5 o6 z6 o7 z7 o8 z8 o9 z9
  have OB : Bx _ (w.heap.size + 1 + 1) 74 [.int .i64 m.id, .int .i64 m.rid, .slice ums.a ums.n ums.c, .slice uits.a uits.n uits.c, .slice ulv.a ulv.n ulv.c, .slice utx.a utx.n utx.c, .int .i64 m.rd, .int .i64 m.se, .int .i64 m.li, .int .i64 m.he, .int .i64 0, .int .i64 0, .int .i64 0, .int .i64 0, .int .i64 0, .slice none 0 0] := (((((HO.out.set 5 (.slice utx.a utx.n utx.c)).set 6 (.int .i64 m.rd)).set 7 (.int .i64 m.se)).set 8 (.int .i64 m.li)).set 9 (.int .i64 m.he))
  have TB := ((((((TurnAt.refl (w.heap.size + 1 + 1) w7).setCell 5 (.slice utx.a utx.n utx.c)).setCell 6 (.int .i64 m.rd)).setCell 7 (.int .i64 m.se)).setCell 8 (.int .i64 m.li)).setCell 9 (.int .i64 m.he))
  generalize (((((w7.setCell ⟨w.heap.size + 1 + 1, 5, none⟩ (.slice utx.a utx.n utx.c)).setCell ⟨w.heap.size + 1 + 1, 6, none⟩ (.int .i64 m.rd)).setCell ⟨w.heap.size + 1 + 1, 7, none⟩ (.int .i64 m.se)).setCell ⟨w.heap.size + 1 + 1, 8, none⟩ (.int .i64 m.li)).setCell ⟨w.heap.size + 1 + 1, 9, none⟩ (.int .i64 m.he)) = S8 at *
  have Xms : Hid (OwnI S8 w.heap.size ums.v m.ms) := Xms.out.past HO.out TB (by decide)
  have Xits : Hid (SlI S8 w.heap.size uits.v m.its) := Xits.out.past HO.out TB (by decide)
  have Xlv : Hid (OwnI S8 w.heap.size ulv.v m.lv) := Xlv.out.past HO.out TB (by decide)
  have Xtx : Hid (OwnS S8 w.heap.size utx.v m.tx) := Xtx.out.past HO.out TB (by decide)
  have HA : Hid (MtB S8 w.heap.size 104 m v) := Bx.turn HA.out TB (by omega)
  have HR : Hid (Bx S8 (w.heap.size + 1) 74 [.int .i64 0, .int .i64 0, .slice none 0 0, .slice none 0 0, .slice none 0 0, .slice none 0 0, .int .i64 0, .int .i64 0, .int .i64 0, .int .i64 0, .int .i64 0, .int .i64 0, .int .i64 0, .int .i64 0, .int .i64 0, .slice none 0 0]) := HR.out.turn TB (by omega)
  have HB : Hid (Below w.heap.size w S8) := HB.out.trans (TB.below (by omega))
  have D8 : Hid (w7.heap.size ≤ S8.heap.size) := Nat.le_of_eq TB.size.symm
  have HO : Hid (Bx S8 (w.heap.size + 1 + 1) 74 [.int .i64 m.id, .int .i64 m.rid, .slice ums.a ums.n ums.c, .slice uits.a uits.n uits.c, .slice ulv.a ulv.n ulv.c, .slice utx.a utx.n utx.c, .int .i64 m.rd, .int .i64 m.se, .int .i64 m.li, .int .i64 m.he, .int .i64 0, .int .i64 0, .int .i64 0, .int .i64 0, .int .i64 0, .slice none 0 0]) := OB
  clear TB OB
  refine (toTok_r m.la.c m.la.r m.la.q m.la.a m.la.b v.ws m.la.ws S8 (h.out.ws.stays HB.out) hs.out.ws).mono ?_
  rintro e w9 ⟨uws, rfl, ho, b⟩
  have Xms : Hid (OwnI w9 w.heap.size ums.v m.ms) := Xms.out.under b
  have Xits : Hid (SlI w9 w.heap.size uits.v m.its) := Xits.out.below b
  have Xlv : Hid (OwnI w9 w.heap.size ulv.v m.lv) := Xlv.out.under b
  have Xtx : Hid (OwnS w9 w.heap.size utx.v m.tx) := ownS_later Xtx.out b
  have Xws : Hid (OwnI w9 w.heap.size uws.v m.la.ws) := ho.down HB.out.size
  have Lws : Hid (∀ k, uws.v.ownBlock = some k → S8.heap.size ≤ k ∧ k < w9.heap.size) := ho.lt
  have D9 : Hid (S8.heap.size ≤ w9.heap.size) := b.size
  have HA : Hid (MtB w9 w.heap.size 104 m v) := Bx.later HA.out b
  have HR : Hid (Bx w9 (w.heap.size + 1) 74 [.int .i64 0, .int .i64 0, .slice none 0 0, .slice none 0 0, .slice none 0 0, .slice none 0 0, .int .i64 0, .int .i64 0, .int .i64 0, .int .i64 0, .int .i64 0, .int .i64 0, .int .i64 0, .int .i64 0, .int .i64 0, .slice none 0 0]) := HR.out.later b
  have HO : Hid (Bx w9 (w.heap.size + 1 + 1) 74 [.int .i64 m.id, .int .i64 m.rid, .slice ums.a ums.n ums.c, .slice uits.a uits.n uits.c, .slice ulv.a ulv.n ulv.c, .slice utx.a utx.n utx.c, .int .i64 m.rd, .int .i64 m.se, .int .i64 m.li, .int .i64 m.he, .int .i64 0, .int .i64 0, .int .i64 0, .int .i64 0, .int .i64 0, .slice none 0 0]) := HO.out.later b
  have HB : Hid (Below w.heap.size w w9) := bl_next HB.out b
  clear ho b
  go_wp2_with (first | (refine wpList_stB rfl 72 _ _ rfl (w.heap.size + 1 + 1) 10 rfl 74 _ HO.out [.int .i64 m.la.c, .int .i64 m.la.r, .int .i64 m.la.q, .int .i64 m.la.a, .int .i64 m.la.b, .slice uws.a uws.n uws.c] rfl (by simp) Try.sizeT rfl [.int .i64 m.id, .int .i64 m.rid, .slice ums.a ums.n ums.c, .slice uits.a uits.n uits.c, .slice ulv.a ulv.n ulv.c, .slice utx.a utx.n utx.c, .int .i64 m.rd, .int .i64 m.se, .int .i64 m.li, .int .i64 m.he, .int .i64 m.la.c, .int .i64 m.la.r, .int .i64 m.la.q, .int .i64 m.la.a, .int .i64 m.la.b, .slice uws.a uws.n uws.c] rfl ?_; intro w10 OB TB; have Xms : Hid (OwnI w10 w.heap.size ums.v m.ms) := Xms.out.past HO.out TB (by decide); have Xits : Hid (SlI w10 w.heap.size uits.v m.its) := Xits.out.past HO.out TB (by decide); have Xlv : Hid (OwnI w10 w.heap.size ulv.v m.lv) := Xlv.out.past HO.out TB (by decide); have Xtx : Hid (OwnS w10 w.heap.size utx.v m.tx) := Xtx.out.past HO.out TB (by decide); have Xws : Hid (OwnI w10 w.heap.size uws.v m.la.ws) := Xws.out.past HO.out TB (by decide); have HA : Hid (MtB w10 w.heap.size 104 m v) := Bx.turn HA.out TB (by omega); have HR : Hid (Bx w10 (w.heap.size + 1) 74 [.int .i64 0, .int .i64 0, .slice none 0 0, .slice none 0 0, .slice none 0 0, .slice none 0 0, .int .i64 0, .int .i64 0, .int .i64 0, .int .i64 0, .int .i64 0, .int .i64 0, .int .i64 0, .int .i64 0, .int .i64 0, .slice none 0 0]) := HR.out.turn TB (by omega); have HB : Hid (Below w.heap.size w w10) := HB.out.trans (TB.below (by omega)); have D10 : Hid (w9.heap.size ≤ w10.heap.size) := Nat.le_of_eq TB.size.symm; have HO : Hid (Bx w10 (w.heap.size + 1 + 1) 74 [.int .i64 m.id, .int .i64 m.rid, .slice ums.a ums.n ums.c, .slice uits.a uits.n uits.c, .slice ulv.a ulv.n ulv.c, .slice utx.a utx.n utx.c, .int .i64 m.rd, .int .i64 m.se, .int .i64 m.li, .int .i64 m.he, .int .i64 m.la.c, .int .i64 m.la.r, .int .i64 m.la.q, .int .i64 m.la.a, .int .i64 m.la.b, .slice uws.a uws.n uws.c]) := OB; clear TB OB) | (refine wpList_ldB rfl 74 _ rfl (w.heap.size + 1 + 1) 0 rfl 74 _ HO.out [.int .i64 m.id, .int .i64 m.rid, .slice ums.a ums.n ums.c, .slice uits.a uits.n uits.c, .slice ulv.a ulv.n ulv.c, .slice utx.a utx.n utx.c, .int .i64 m.rd, .int .i64 m.se, .int .i64 m.li, .int .i64 m.he, .int .i64 m.la.c, .int .i64 m.la.r, .int .i64 m.la.q, .int .i64 m.la.a, .int .i64 m.la.b, .slice uws.a uws.n uws.c] rfl _ Try.underlying74 rfl Try.sizeM ?_) | (refine wpList_stB rfl 74 _ _ rfl (w.heap.size + 1) 0 rfl 74 _ HR.out [.int .i64 m.id, .int .i64 m.rid, .slice ums.a ums.n ums.c, .slice uits.a uits.n uits.c, .slice ulv.a ulv.n ulv.c, .slice utx.a utx.n utx.c, .int .i64 m.rd, .int .i64 m.se, .int .i64 m.li, .int .i64 m.he, .int .i64 m.la.c, .int .i64 m.la.r, .int .i64 m.la.q, .int .i64 m.la.a, .int .i64 m.la.b, .slice uws.a uws.n uws.c] rfl (by simp) Try.sizeM rfl [.int .i64 m.id, .int .i64 m.rid, .slice ums.a ums.n ums.c, .slice uits.a uits.n uits.c, .slice ulv.a ulv.n ulv.c, .slice utx.a utx.n utx.c, .int .i64 m.rd, .int .i64 m.se, .int .i64 m.li, .int .i64 m.he, .int .i64 m.la.c, .int .i64 m.la.r, .int .i64 m.la.q, .int .i64 m.la.a, .int .i64 m.la.b, .slice uws.a uws.n uws.c] rfl ?_; intro wz RZ TZ))
  have Xms := Xms.out.past HR.out TZ (by decide)
  have Xits := Xits.out.past HR.out TZ (by decide)
  have Xlv := Xlv.out.past HR.out TZ (by decide)
  have Xtx := Xtx.out.past HR.out TZ (by decide)
  have Xws := Xws.out.past HR.out TZ (by decide)
  have BZ := HB.out.trans (TZ.below (by omega))
  refine bodyPost_ret (results_b Try.results85 (w.heap.size + 1) 74 [.int .i64 m.id, .int .i64 m.rid, .slice ums.a ums.n ums.c, .slice uits.a uits.n uits.c, .slice ulv.a ulv.n ulv.c, .slice utx.a utx.n utx.c, .int .i64 m.rd, .int .i64 m.se, .int .i64 m.li, .int .i64 m.he, .int .i64 m.la.c, .int .i64 m.la.r, .int .i64 m.la.q, .int .i64 m.la.a, .int .i64 m.la.b, .slice uws.a uws.n uws.c] _ rfl RZ Try.underlying74 rfl Try.sizeM) rfl ?_
  have d1 := D1.out
  have d2 := D2.out
  have d3 := D3.out
  have d4 := D4.out
  have d5 := D5.out
  have d6 := D6.out
  have d7 := D7.out
  have d8 := D8.out
  have d9 := D9.out
  have d10 := D10.out
  refine ⟨⟨ums, uits, ulv, utx, uws⟩, rfl, ⟨Xms, Xits, Xlv, Xtx, Xws, ?_, ?_, ?_⟩, BZ⟩
  · exact fun k h1 h2 => by have := (Lms.out k h1).2; have := (Llv.out k h2).1; omega
  · exact fun k h1 h2 => by have := (Lms.out k h1).2; have := (Lws.out k h2).1; omega
  · exact fun k h1 h2 => by have := (Llv.out k h1).2; have := (Lws.out k h2).1; omega
end Go.Proofs.Ytdodeillifoibaa


/- Members compared, marked and looked at again. Written by gen_em.py. -/
namespace Go.Proofs.Ytdodeillifoibaa
open Go.RowKit Pl
set_option linter.unusedVariables false
set_option linter.unusedSimpArgs false

set_option maxRecDepth 100000 in
set_option maxHeartbeats 4000000 in
theorem eqMate_same (m : Mt) (u v : Mv) (B1 B2 : Nat) (w : World) (h1 : Hid (MtO w B1 m u)) (h2 : Hid (MtO w B2 m v)) (hs : Hid (MtS m)) :
    Calls Try.prog 89 #[.agg #[.int .i64 m.id, .int .i64 m.rid, .slice u.ms.a u.ms.n u.ms.c, .slice u.its.a u.its.n u.its.c, .slice u.lv.a u.lv.n u.lv.c, .slice u.tx.a u.tx.n u.tx.c, .int .i64 m.rd, .int .i64 m.se, .int .i64 m.li, .int .i64 m.he, .int .i64 m.la.c, .int .i64 m.la.r, .int .i64 m.la.q, .int .i64 m.la.a, .int .i64 m.la.b, .slice u.ws.a u.ws.n u.ws.c], .agg #[.int .i64 m.id, .int .i64 m.rid, .slice v.ms.a v.ms.n v.ms.c, .slice v.its.a v.its.n v.its.c, .slice v.lv.a v.lv.n v.lv.c, .slice v.tx.a v.tx.n v.tx.c, .int .i64 m.rd, .int .i64 m.se, .int .i64 m.li, .int .i64 m.he, .int .i64 m.la.c, .int .i64 m.la.r, .int .i64 m.la.q, .int .i64 m.la.a, .int .i64 m.la.b, .slice v.ws.a v.ws.n v.ws.c]] w fun e w' => e = .returned (.bool true) ∧ Below w.heap.size w w' := by
  have hn1 : (w.alloc (.cells #[.int .i64 m.id, .int .i64 m.rid, .slice u.ms.a u.ms.n u.ms.c, .slice u.its.a u.its.n u.its.c, .slice u.lv.a u.lv.n u.lv.c, .slice u.tx.a u.tx.n u.tx.c, .int .i64 m.rd, .int .i64 m.se, .int .i64 m.li, .int .i64 m.he, .int .i64 m.la.c, .int .i64 m.la.r, .int .i64 m.la.q, .int .i64 m.la.a, .int .i64 m.la.b, .slice u.ws.a u.ws.n u.ws.c] 74)).heap.size = w.heap.size + 1 := by simp
  have HA : Hid (MtB ((w.alloc (.cells #[.int .i64 m.id, .int .i64 m.rid, .slice u.ms.a u.ms.n u.ms.c, .slice u.its.a u.its.n u.its.c, .slice u.lv.a u.lv.n u.lv.c, .slice u.tx.a u.tx.n u.tx.c, .int .i64 m.rd, .int .i64 m.se, .int .i64 m.li, .int .i64 m.he, .int .i64 m.la.c, .int .i64 m.la.r, .int .i64 m.la.q, .int .i64 m.la.a, .int .i64 m.la.b, .slice u.ws.a u.ws.n u.ws.c] 74)).alloc (.cells #[.int .i64 m.id, .int .i64 m.rid, .slice v.ms.a v.ms.n v.ms.c, .slice v.its.a v.its.n v.its.c, .slice v.lv.a v.lv.n v.lv.c, .slice v.tx.a v.tx.n v.tx.c, .int .i64 m.rd, .int .i64 m.se, .int .i64 m.li, .int .i64 m.he, .int .i64 m.la.c, .int .i64 m.la.r, .int .i64 m.la.q, .int .i64 m.la.a, .int .i64 m.la.b, .slice v.ws.a v.ws.n v.ws.c] 74)) w.heap.size 74 m u) := by
    have h := Bx.new w 74 [.int .i64 m.id, .int .i64 m.rid, .slice u.ms.a u.ms.n u.ms.c, .slice u.its.a u.its.n u.its.c, .slice u.lv.a u.lv.n u.lv.c, .slice u.tx.a u.tx.n u.tx.c, .int .i64 m.rd, .int .i64 m.se, .int .i64 m.li, .int .i64 m.he, .int .i64 m.la.c, .int .i64 m.la.r, .int .i64 m.la.q, .int .i64 m.la.a, .int .i64 m.la.b, .slice u.ws.a u.ws.n u.ws.c]
    exact h.stays (B := w.heap.size + 1) ((Below.refl _ _).alloc (by rw [hn1]; exact Nat.le_refl _) _) (by omega)
  have HC : Hid (MtB ((w.alloc (.cells #[.int .i64 m.id, .int .i64 m.rid, .slice u.ms.a u.ms.n u.ms.c, .slice u.its.a u.its.n u.its.c, .slice u.lv.a u.lv.n u.lv.c, .slice u.tx.a u.tx.n u.tx.c, .int .i64 m.rd, .int .i64 m.se, .int .i64 m.li, .int .i64 m.he, .int .i64 m.la.c, .int .i64 m.la.r, .int .i64 m.la.q, .int .i64 m.la.a, .int .i64 m.la.b, .slice u.ws.a u.ws.n u.ws.c] 74)).alloc (.cells #[.int .i64 m.id, .int .i64 m.rid, .slice v.ms.a v.ms.n v.ms.c, .slice v.its.a v.its.n v.its.c, .slice v.lv.a v.lv.n v.lv.c, .slice v.tx.a v.tx.n v.tx.c, .int .i64 m.rd, .int .i64 m.se, .int .i64 m.li, .int .i64 m.he, .int .i64 m.la.c, .int .i64 m.la.r, .int .i64 m.la.q, .int .i64 m.la.a, .int .i64 m.la.b, .slice v.ws.a v.ws.n v.ws.c] 74)) (w.heap.size + 1) 74 m v) := by
    have h := Bx.new (w.alloc (.cells #[.int .i64 m.id, .int .i64 m.rid, .slice u.ms.a u.ms.n u.ms.c, .slice u.its.a u.its.n u.its.c, .slice u.lv.a u.lv.n u.lv.c, .slice u.tx.a u.tx.n u.tx.c, .int .i64 m.rd, .int .i64 m.se, .int .i64 m.li, .int .i64 m.he, .int .i64 m.la.c, .int .i64 m.la.r, .int .i64 m.la.q, .int .i64 m.la.a, .int .i64 m.la.b, .slice u.ws.a u.ws.n u.ws.c] 74)) 74 [.int .i64 m.id, .int .i64 m.rid, .slice v.ms.a v.ms.n v.ms.c, .slice v.its.a v.its.n v.its.c, .slice v.lv.a v.lv.n v.lv.c, .slice v.tx.a v.tx.n v.tx.c, .int .i64 m.rd, .int .i64 m.se, .int .i64 m.li, .int .i64 m.he, .int .i64 m.la.c, .int .i64 m.la.r, .int .i64 m.la.q, .int .i64 m.la.a, .int .i64 m.la.b, .slice v.ws.a v.ws.n v.ws.c]
    rw [hn1] at h
    exact h
  have HB : Hid (Below w.heap.size w ((w.alloc (.cells #[.int .i64 m.id, .int .i64 m.rid, .slice u.ms.a u.ms.n u.ms.c, .slice u.its.a u.its.n u.its.c, .slice u.lv.a u.lv.n u.lv.c, .slice u.tx.a u.tx.n u.tx.c, .int .i64 m.rd, .int .i64 m.se, .int .i64 m.li, .int .i64 m.he, .int .i64 m.la.c, .int .i64 m.la.r, .int .i64 m.la.q, .int .i64 m.la.a, .int .i64 m.la.b, .slice u.ws.a u.ws.n u.ws.c] 74)).alloc (.cells #[.int .i64 m.id, .int .i64 m.rid, .slice v.ms.a v.ms.n v.ms.c, .slice v.its.a v.its.n v.its.c, .slice v.lv.a v.lv.n v.lv.c, .slice v.tx.a v.tx.n v.tx.c, .int .i64 m.rd, .int .i64 m.se, .int .i64 m.li, .int .i64 m.he, .int .i64 m.la.c, .int .i64 m.la.r, .int .i64 m.la.q, .int .i64 m.la.a, .int .i64 m.la.b, .slice v.ws.a v.ws.n v.ws.c] 74))) := ((Below.refl _ _).alloc (Nat.le_refl _) _).alloc (by simp) _
  have H1 : Hid (MtO ((w.alloc (.cells #[.int .i64 m.id, .int .i64 m.rid, .slice u.ms.a u.ms.n u.ms.c, .slice u.its.a u.its.n u.its.c, .slice u.lv.a u.lv.n u.lv.c, .slice u.tx.a u.tx.n u.tx.c, .int .i64 m.rd, .int .i64 m.se, .int .i64 m.li, .int .i64 m.he, .int .i64 m.la.c, .int .i64 m.la.r, .int .i64 m.la.q, .int .i64 m.la.a, .int .i64 m.la.b, .slice u.ws.a u.ws.n u.ws.c] 74)).alloc (.cells #[.int .i64 m.id, .int .i64 m.rid, .slice v.ms.a v.ms.n v.ms.c, .slice v.its.a v.its.n v.its.c, .slice v.lv.a v.lv.n v.lv.c, .slice v.tx.a v.tx.n v.tx.c, .int .i64 m.rd, .int .i64 m.se, .int .i64 m.li, .int .i64 m.he, .int .i64 m.la.c, .int .i64 m.la.r, .int .i64 m.la.q, .int .i64 m.la.a, .int .i64 m.la.b, .slice v.ws.a v.ws.n v.ws.c] 74)) B1 m u) := h1.out.later HB.out
  have H2 : Hid (MtO ((w.alloc (.cells #[.int .i64 m.id, .int .i64 m.rid, .slice u.ms.a u.ms.n u.ms.c, .slice u.its.a u.its.n u.its.c, .slice u.lv.a u.lv.n u.lv.c, .slice u.tx.a u.tx.n u.tx.c, .int .i64 m.rd, .int .i64 m.se, .int .i64 m.li, .int .i64 m.he, .int .i64 m.la.c, .int .i64 m.la.r, .int .i64 m.la.q, .int .i64 m.la.a, .int .i64 m.la.b, .slice u.ws.a u.ws.n u.ws.c] 74)).alloc (.cells #[.int .i64 m.id, .int .i64 m.rid, .slice v.ms.a v.ms.n v.ms.c, .slice v.its.a v.its.n v.its.c, .slice v.lv.a v.lv.n v.lv.c, .slice v.tx.a v.tx.n v.tx.c, .int .i64 m.rd, .int .i64 m.se, .int .i64 m.li, .int .i64 m.he, .int .i64 m.la.c, .int .i64 m.la.r, .int .i64 m.la.q, .int .i64 m.la.a, .int .i64 m.la.b, .slice v.ws.a v.ws.n v.ws.c] 74)) B2 m v) := h2.out.later HB.out
  obtain ⟨⟨c0, c1, c2, c3, c4, c5⟩, ⟨c6, c7, c8, c9⟩, c10, c11, c12, c13, c14, c15⟩ := HA.out.cells
  obtain ⟨⟨d0, d1, d2, d3, d4, d5⟩, ⟨d6, d7, d8, d9⟩, d10, d11, d12, d13, d14, d15⟩ := HC.out.cells
  clear h1 h2 hn1
  go_enter Try.func89, Try.ntmps89
  go_wp2_with fail
  generalize ((w.alloc (.cells #[.int .i64 m.id, .int .i64 m.rid, .slice u.ms.a u.ms.n u.ms.c, .slice u.its.a u.its.n u.its.c, .slice u.lv.a u.lv.n u.lv.c, .slice u.tx.a u.tx.n u.tx.c, .int .i64 m.rd, .int .i64 m.se, .int .i64 m.li, .int .i64 m.he, .int .i64 m.la.c, .int .i64 m.la.r, .int .i64 m.la.q, .int .i64 m.la.a, .int .i64 m.la.b, .slice u.ws.a u.ws.n u.ws.c] 74)).alloc (.cells #[.int .i64 m.id, .int .i64 m.rid, .slice v.ms.a v.ms.n v.ms.c, .slice v.its.a v.its.n v.its.c, .slice v.lv.a v.lv.n v.lv.c, .slice v.tx.a v.tx.n v.tx.c, .int .i64 m.rd, .int .i64 m.se, .int .i64 m.li, .int .i64 m.he, .int .i64 m.la.c, .int .i64 m.la.r, .int .i64 m.la.q, .int .i64 m.la.a, .int .i64 m.la.b, .slice v.ws.a v.ws.n v.ws.c] 74)) = W at *
  clear c0 c1 c2 c3 c4 c5 c6 c7 c8 c9 c10 c11 c12 c13 c14 c15 d0 d1 d2 d3 d4 d5 d6 d7 d8 d9 d10 d11 d12 d13 d14 d15
  refine (eqRing_same m.rid u.ms.v v.ms.v m.ms B1 B2 _ H1.out.ms H2.out.ms hs.out.ms).mono ?_
  rintro e w1 ⟨rfl, b⟩
  have HA : Hid (MtB w1 w.heap.size 74 m u) := Bx.later HA.out b
  have HC : Hid (MtB w1 (w.heap.size + 1) 74 m v) := Bx.later HC.out b
  have H1 : Hid (MtO w1 B1 m u) := H1.out.later b
  have H2 : Hid (MtO w1 B2 m v) := H2.out.later b
  have HB : Hid (Below w.heap.size w w1) := bl_next HB.out b
  clear b
  obtain ⟨⟨c0, c1, c2, c3, c4, c5⟩, ⟨c6, c7, c8, c9⟩, c10, c11, c12, c13, c14, c15⟩ := HA.out.cells
  obtain ⟨⟨d0, d1, d2, d3, d4, d5⟩, ⟨d6, d7, d8, d9⟩, d10, d11, d12, d13, d14, d15⟩ := HC.out.cells
  go_wp2_with fail
  clear c0 c1 c2 c3 c4 c5 c6 c7 c8 c9 c10 c11 c12 c13 c14 c15 d0 d1 d2 d3 d4 d5 d6 d7 d8 d9 d10 d11 d12 d13 d14 d15
  refine (eqItems_sl u.its.v v.its.v m.its B1 B2 _ H1.out.its H2.out.its hs.out.its).mono ?_
  rintro e w2 ⟨rfl, b⟩
  have HA : Hid (MtB w2 w.heap.size 74 m u) := Bx.later HA.out b
  have HC : Hid (MtB w2 (w.heap.size + 1) 74 m v) := Bx.later HC.out b
  have H1 : Hid (MtO w2 B1 m u) := H1.out.later b
  have H2 : Hid (MtO w2 B2 m v) := H2.out.later b
  have HB : Hid (Below w.heap.size w w2) := bl_next HB.out b
  clear b
  obtain ⟨⟨c0, c1, c2, c3, c4, c5⟩, ⟨c6, c7, c8, c9⟩, c10, c11, c12, c13, c14, c15⟩ := HA.out.cells
  obtain ⟨⟨d0, d1, d2, d3, d4, d5⟩, ⟨d6, d7, d8, d9⟩, d10, d11, d12, d13, d14, d15⟩ := HC.out.cells
  go_wp2_with fail
  clear c0 c1 c2 c3 c4 c5 c6 c7 c8 c9 c10 c11 c12 c13 c14 c15 d0 d1 d2 d3 d4 d5 d6 d7 d8 d9 d10 d11 d12 d13 d14 d15
  refine (eqI_same u.lv.v v.lv.v m.lv B1 B2 _ H1.out.lv H2.out.lv hs.out.lv).mono ?_
  rintro e w3 ⟨rfl, b⟩
  have HA : Hid (MtB w3 w.heap.size 74 m u) := Bx.later HA.out b
  have HC : Hid (MtB w3 (w.heap.size + 1) 74 m v) := Bx.later HC.out b
  have H1 : Hid (MtO w3 B1 m u) := H1.out.later b
  have H2 : Hid (MtO w3 B2 m v) := H2.out.later b
  have HB : Hid (Below w.heap.size w w3) := bl_next HB.out b
  clear b
  obtain ⟨⟨c0, c1, c2, c3, c4, c5⟩, ⟨c6, c7, c8, c9⟩, c10, c11, c12, c13, c14, c15⟩ := HA.out.cells
  obtain ⟨⟨d0, d1, d2, d3, d4, d5⟩, ⟨d6, d7, d8, d9⟩, d10, d11, d12, d13, d14, d15⟩ := HC.out.cells
  go_wp2_with fail
  clear c0 c1 c2 c3 c4 c5 c6 c7 c8 c9 c10 c11 c12 c13 c14 c15 d0 d1 d2 d3 d4 d5 d6 d7 d8 d9 d10 d11 d12 d13 d14 d15
  refine (eqS_same u.tx.v v.tx.v m.tx B1 B2 _ H1.out.tx H2.out.tx (by have := hs.out.tx; omega)).mono ?_
  rintro e w4 ⟨rfl, b⟩
  have HA : Hid (MtB w4 w.heap.size 74 m u) := Bx.later HA.out b
  have HC : Hid (MtB w4 (w.heap.size + 1) 74 m v) := Bx.later HC.out b
  have H1 : Hid (MtO w4 B1 m u) := H1.out.later b
  have H2 : Hid (MtO w4 B2 m v) := H2.out.later b
  have HB : Hid (Below w.heap.size w w4) := bl_next HB.out b
  clear b
  obtain ⟨⟨c0, c1, c2, c3, c4, c5⟩, ⟨c6, c7, c8, c9⟩, c10, c11, c12, c13, c14, c15⟩ := HA.out.cells
  obtain ⟨⟨d0, d1, d2, d3, d4, d5⟩, ⟨d6, d7, d8, d9⟩, d10, d11, d12, d13, d14, d15⟩ := HC.out.cells
  go_wp2_with fail
  clear c0 c1 c2 c3 c4 c5 c6 c7 c8 c9 c10 c11 c12 c13 c14 c15 d0 d1 d2 d3 d4 d5 d6 d7 d8 d9 d10 d11 d12 d13 d14 d15
  refine (eqTok_same m.la.c m.la.r m.la.q m.la.a m.la.b u.ws.v v.ws.v m.la.ws B1 B2 _ H1.out.ws H2.out.ws hs.out.ws).mono ?_
  rintro e w5 ⟨rfl, b⟩
  have HA : Hid (MtB w5 w.heap.size 74 m u) := Bx.later HA.out b
  have HC : Hid (MtB w5 (w.heap.size + 1) 74 m v) := Bx.later HC.out b
  have H1 : Hid (MtO w5 B1 m u) := H1.out.later b
  have H2 : Hid (MtO w5 B2 m v) := H2.out.later b
  have HB : Hid (Below w.heap.size w w5) := bl_next HB.out b
  clear b
  obtain ⟨⟨c0, c1, c2, c3, c4, c5⟩, ⟨c6, c7, c8, c9⟩, c10, c11, c12, c13, c14, c15⟩ := HA.out.cells
  obtain ⟨⟨d0, d1, d2, d3, d4, d5⟩, ⟨d6, d7, d8, d9⟩, d10, d11, d12, d13, d14, d15⟩ := HC.out.cells
  go_wp2_with fail
  go_ret
  exact ⟨rfl, HB.out⟩

/-- a member whose lists are marks. -/
def markM (K : Nat) (m : Mt) : Mt :=
  ⟨m.id, m.rid, marks K m.ms.length, mkI (K + m.ms.length) m.its.length, marks (K + m.ms.length + 4 * m.its.length) m.lv.length, mkT (K + m.ms.length + 4 * m.its.length + m.lv.length) m.tx.length, m.rd, m.se, m.li, m.he,
    ⟨m.la.c, m.la.r, m.la.q, m.la.a, m.la.b, marks (K + m.ms.length + 4 * m.its.length + m.lv.length + m.tx.length) m.la.ws.length⟩⟩
def endM (K : Nat) (m : Mt) : Nat := K + m.ms.length + 4 * m.its.length + m.lv.length + m.tx.length + m.la.ws.length

end Go.Proofs.Ytdodeillifoibaa


