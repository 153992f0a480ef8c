/- Joined texts: CSl. -/
import Derived.Test.YtmbjflhhffcjdaaDoorWsq2
import Derived.Laws.OwnMore
import Derived.Deep.AppendSrc
/- Slices, wherever in their block they begin: read, written, cut, appended to. No program is named here. -/
namespace Go.Proofs.YtmbjflhhffcjdaaDoor.Pl
open Go Go.RowKit
set_option linter.unusedVariables false

/-- the slice v, of n elements of size cells each, lies in a block from B on and holds the cells xs. -/
def Sl (w : World) (e : TypeId) (size B : Nat) (v : Value) (n : Nat) (xs : List Value) : Prop :=
  xs.length = n * size ∧ ((v = .slice none 0 0 ∧ n = 0) ∨
    ∃ g off cap cur, v = .slice (some ⟨g, off, none⟩) n cap ∧ B ≤ g ∧ w.heap[g]? = some (.cells cur e (0, 0)) ∧ n ≤ cap ∧ cap ≤ maxLen ∧ off + cap * size ≤ cur.size ∧ ∀ j, j < n * size → cur[off + j]? = xs[j]?)

section
variable {w w' : World} {e : TypeId} {size B n : Nat} {v : Value} {xs : List Value}

theorem Sl.form (h : Sl w e size B v n xs) : ∃ ao cap, v = .slice ao n cap := by
  rcases h.2 with ⟨rfl, hn⟩ | ⟨g, off, cap, cur, rfl, _⟩
  · exact ⟨none, 0, by rw [hn]⟩
  · exact ⟨_, cap, rfl⟩
theorem Sl.lt (h : Sl w e size B v n xs) : ∀ k, v.ownBlock = some k → B ≤ k ∧ k < w.heap.size := by
  intro k hk
  rcases h.2 with ⟨rfl, _⟩ | ⟨g, off, cap, cur, rfl, hb, hg, _⟩
  · simp [Value.ownBlock] at hk
  · simp [Value.ownBlock] at hk
    subst hk
    exact ⟨hb, (Array.getElem?_eq_some_iff.1 hg).1⟩
theorem Sl.keep (h : Sl w e size B v n xs) (hk : ∀ k, v.ownBlock = some k → k < w.heap.size → w'.heap[k]? = w.heap[k]?) : Sl w' e size B v n xs := by
  refine ⟨h.1, ?_⟩
  rcases h.2 with hn | ⟨g, off, cap, cur, rfl, hb, hg, rest⟩
  · exact .inl hn
  · exact .inr ⟨g, off, cap, cur, rfl, hb, (hk g rfl (Array.getElem?_eq_some_iff.1 hg).1).trans hg, rest⟩
theorem Sl.stays {B' : Nat} (h : Sl w e size B v n xs) (hb : Below B' w w') (hlt : ∀ k, v.ownBlock = some k → k < B') : Sl w' e size B v n xs :=
  h.keep fun k hk _ => hb.block k (hlt k hk)
theorem Sl.below (h : Sl w e size B v n xs) (hb : Below w.heap.size w w') : Sl w' e size B v n xs := h.stays hb fun k hk => (h.lt k hk).2
theorem Sl.alloc (h : Sl w e size B v n xs) (o : Obj) : Sl (w.alloc o) e size B v n xs := h.below ((Below.refl _ _).alloc (Nat.le_refl _) _)
theorem Sl.down {B' : Nat} (h : Sl w e size B v n xs) (hB : B' ≤ B) : Sl w e size B' v n xs := by
  refine ⟨h.1, ?_⟩
  rcases h.2 with hn | ⟨g, off, cap, cur, rfl, hb, rest⟩
  · exact .inl hn
  · exact .inr ⟨g, off, cap, cur, rfl, by omega, rest⟩
theorem Sl.zero (w : World) (e : TypeId) (size B : Nat) : Sl w e size B (.slice none 0 0) 0 [] := ⟨by simp, .inl ⟨rfl, rfl⟩⟩
theorem Sl.ofOwn (h : w.ownsRow B e size v n xs) : Sl w e size B v n xs := by
  refine ⟨h.1, ?_⟩
  rcases h.2 with hn | ⟨g, cap, cur, rfl, hb, hg, hc, hm, hs, ht⟩
  · exact .inl hn
  · refine .inr ⟨g, 0, cap, cur, rfl, hb, hg, hc, hm, by omega, fun j hj => ?_⟩
    rw [← ht, List.getElem?_take, if_pos hj]
    simp
theorem Sl.made (w : World) (e : TypeId) (size B : Nat) (hb : B ≤ w.heap.size) : Sl (w.alloc (.cells #[] e)) e size B (.slice (some ⟨w.heap.size, 0, none⟩) 0 0) 0 [] :=
  ⟨by simp, .inr ⟨w.heap.size, 0, 0, #[], rfl, hb, heap_alloc_new w _, Nat.le_refl _, by unfold maxLen; omega, by simp, fun j hj => by omega⟩⟩

/-- what it holds, cell by cell. -/
theorem Sl.read (h : Sl w e size B v n xs) (h0 : 0 < n) :
    ∃ g off cap, v = .slice (some ⟨g, off, none⟩) n cap ∧ B ≤ g ∧ g < w.heap.size ∧ (∀ j u, xs[j]? = some u → w.cell? ⟨g, off + j, none⟩ = some u) ∧ ∀ j, w.frozen? ⟨g, j, none⟩ = false := by
  rcases h.2 with ⟨rfl, hn⟩ | ⟨g, off, cap, cur, rfl, hb, hg, hc, hm, hs, ht⟩
  · omega
  · refine ⟨g, off, cap, rfl, hb, (Array.getElem?_eq_some_iff.1 hg).1, fun j u hu => ?_, fun j => frozen_of_row w g j _ e hg⟩
    rw [cell_of_row w g (off + j) _ e (0, 0) hg]
    have hj : j < n * size := by
      rw [← h.1]
      exact (List.getElem?_eq_some_iff.1 hu).1
    rw [ht j hj, hu]

theorem grown_cell (w : World) (g j : Nat) (x : Value) : w.grownBy (w.setCell ⟨g, j, none⟩ x) (some g) :=
  ⟨rfl, rfl, rfl, by simp [World.setCell], fun k _ hk => Below.heap_setCell w ⟨g, j, none⟩ x k (fun he => hk (by rw [he]))⟩

theorem Sl.put {g off cap : Nat} (h : Sl w e size B (.slice (some ⟨g, off, none⟩) n cap) n xs) (j : Nat) (x : Value) :
    Sl (w.setCell ⟨g, off + j, none⟩ x) e size B (.slice (some ⟨g, off, none⟩) n cap) n (xs.set j x) := by
  refine ⟨by rw [List.length_set]; exact h.1, ?_⟩
  rcases h.2 with ⟨hv, _⟩ | ⟨g', off', cap', cur, hv, hb, hg, hc, hm, hs, ht⟩
  · simp at hv
  · simp at hv
    obtain ⟨⟨rfl, rfl⟩, rfl⟩ := hv
    refine .inr ⟨g, off, cap, cur.setIfInBounds (off + j) x, rfl, hb, heap_setCell_same w g (off + j) _ e x hg, hc, hm, by simpa using hs, fun i hi => ?_⟩
    rw [List.getElem?_set, Array.getElem?_setIfInBounds]
    have hsz : i < xs.length := by rw [h.1]; exact hi
    have hcs : off + i < cur.size := by
      have : (n * size) ≤ cap * size := Nat.mul_le_mul_right _ hc
      omega
    by_cases hij : i = j
    · subst hij
      simp [hsz, hcs]
    · have : ¬ (off + j = off + i) := by omega
      have h2 : ¬ (j = i) := fun h => hij h.symm
      simp [h2, ht i hi]

end

/-! ### append -/
theorem setCells_heap : ∀ (vs : List Value) (w : World) (g o : Nat) (cur : Array Value) (e : TypeId), w.heap[g]? = some (.cells cur e (0, 0)) → o + vs.length ≤ cur.size →
    ∃ cur' : Array Value, (w.setCells g o vs).heap[g]? = some (.cells cur' e (0, 0)) ∧ cur'.size = cur.size ∧ (∀ j, j < o → cur'[j]? = cur[j]?) ∧ (∀ j, j < vs.length → cur'[o + j]? = vs[j]?) := by
  intro vs
  induction vs with
  | nil => intro w g o cur e hg _; exact ⟨cur, hg, rfl, fun _ _ => rfl, fun j hj => by simp at hj⟩
  | cons x vs ih =>
    intro w g o cur e hg hs
    simp only [List.length_cons] at hs
    have h1 := heap_setCell_same w g o _ e x hg
    obtain ⟨cur', h2, h3, h4, h5⟩ := ih (w.setCell ⟨g, o, none⟩ x) g (o + 1) _ e h1 (by simp; omega)
    refine ⟨cur', h2, by simpa using h3, fun j hj => ?_, fun j hj => ?_⟩
    · rw [h4 j (by omega), Array.getElem?_setIfInBounds_ne (by omega)]
    · cases j with
      | zero =>
        rw [h4 (o + 0) (by omega)]
        have : o < cur.size := by omega
        simp [this]
      | succ j =>
        simp only [List.length_cons] at hj
        have := h5 j (by omega)
        rw [show o + (j + 1) = o + 1 + j by omega, this]
        simp
theorem setCells_grown : ∀ (vs : List Value) (w : World) (g o : Nat), w.grownBy (w.setCells g o vs) (some g) := by
  intro vs
  induction vs with
  | nil => intro w g o; exact World.grownBy.refl _ _
  | cons x vs ih =>
    intro w g o
    have h1 := grown_cell w g o x
    have h2 := ih (w.setCell ⟨g, o, none⟩ x) g (o + 1)
    exact ⟨h2.os.trans h1.os, h2.tape.trans h1.tape, h2.output.trans h1.output, Nat.le_trans h1.size h2.size, fun k hk hne => (h2.block k (Nat.lt_of_lt_of_le hk h1.size) hne).trans (h1.block k hk hne)⟩

theorem Sl.old {P : Program} {w : World} {e : TypeId} {size B n : Nat} {ao : Option Addr} {cap : Nat} {xs : List Value} (h : Sl w e size B (.slice ao n cap) n xs) :
    (Builtin.firstCells size n (.slice ao n cap)).run P w = .ok xs.toArray w := by
  rcases h.2 with ⟨hv, hn⟩ | ⟨g, off, cap', cur, hv, hb, hg, hc, hm, hs, ht⟩
  · simp at hv
    obtain ⟨rfl, rfl, rfl⟩ := hv
    have : xs = [] := List.eq_nil_of_length_eq_zero (by simpa using h.1)
    subst this
    exact run_firstCells_none w size 0 0 0
  · simp at hv
    obtain ⟨rfl, rfl⟩ := hv
    refine run_firstCells_some w size n ⟨g, off, none⟩ n cap xs h.1 (fun j u hu => ?_)
    have ha : (⟨g, off, none⟩ : Addr).add j = ⟨g, off + j, none⟩ := by unfold Addr.add; split <;> simp_all
    rw [ha, cell_of_row w g (off + j) _ e (0, 0) hg, ht j (by rw [← h.1]; exact (List.getElem?_eq_some_iff.1 hu).1), hu]

theorem run_appendS {P : Program} {w : World} {e : TypeId} {size B n : Nat} {v : Value} {xs : List Value} (t tx ty : TypeId) (i : TypeInfo) (z : Value) (bytes : Nat) (ht : P.underlying t = some (.slice e)) (hi : P.info? e = some i) (hz : i.zero = some z)
    (hsize : i.size = size) (hby : i.bytes = bytes) (hzs : z.cells.size = size) (h : Sl w e size B v n xs) (x : Value) (m : Nat) (news : List Value) (hs : Src P size tx x m news w)
    (h63 : n + m ≤ maxLen) (hbytes : (n + m) * bytes ≤ 140737488355328) (hB : B ≤ w.heap.size) :
    ∃ v' w', (Builtin.append_ #[t, tx] ty #[v, x]).run P w = .ok v' w' ∧ Sl w' e size B v' (n + m) (xs ++ news) ∧ w.grownBy w' v.ownBlock ∧ (v'.ownBlock = v.ownBlock ∨ v'.ownBlock = some w.heap.size) := by
  subst hsize
  subst hby
  obtain ⟨ao, cap, rfl⟩ := h.form
  have hlen : (xs ++ news).length = (n + m) * i.size := by rw [List.length_append, h.1, hs.newsLen, Nat.add_mul]
  by_cases hroom : n + m ≤ cap
  · rcases h.2 with ⟨hv, hn⟩ | ⟨g, off, cap', cur, hv, hb, hg, hc, hm, hcs, htk⟩
    · simp at hv
      obtain ⟨rfl, rfl, rfl⟩ := hv
      have hm0 : m = 0 := by omega
      subst hm0
      have hx : xs = [] := List.eq_nil_of_length_eq_zero (by simpa using h.1)
      have hnw : news = [] := List.eq_nil_of_length_eq_zero (by simpa using hs.newsLen)
      subst hx hnw
      refine ⟨.slice none 0 0, w, ?_, by simpa using Sl.zero w e i.size B, World.grownBy.refl _ _, .inl rfl⟩
      have hcl := hs.cells
      rcases hs.kind with ⟨e', hk⟩ | hk <;> simp [Builtin.append_, run_underlying ht, run_underlying hk, sizeOf, typeInfo, hi, hs.len, hcl]
    · simp at hv
      obtain ⟨rfl, rfl⟩ := hv
      have hnm : n * i.size + news.length ≤ cap * i.size := by rw [hs.newsLen, ← Nat.add_mul]; exact Nat.mul_le_mul_right _ hroom
      have hr := run_append_room_src (P := P) w t tx ty e i ht hi g off n cap x m news hs hroom
        (fun j hj => by rw [cell_of_row w g _ _ e (0, 0) hg]; have : off + n * i.size + j < cur.size := by omega
                        rw [Array.getElem?_eq_getElem this]; rfl)
        (fun j hj => frozen_of_row w g _ _ e hg)
      obtain ⟨cur', q1, q2, q3, q4⟩ := setCells_heap news w g (off + n * i.size) cur e hg (by omega)
      refine ⟨_, _, hr, ⟨hlen, .inr ⟨g, off, cap, cur', rfl, hb, q1, hroom, hm, by omega, fun j hj => ?_⟩⟩, setCells_grown news w g _, .inl rfl⟩
      rw [List.getElem?_append]
      by_cases hj1 : j < n * i.size
      · rw [if_pos (by rw [h.1]; exact hj1), q3 _ (by omega), htk j hj1]
      · rw [if_neg (by rw [h.1]; exact hj1), h.1]
        have := q4 (j - n * i.size) (by rw [hs.newsLen]; rw [Nat.add_mul] at hj; omega)
        rw [show off + n * i.size + (j - n * i.size) = off + j by omega] at this
        exact this
  · have hd : Sl w.drew e i.size B (.slice ao n cap) n xs := h.keep fun _ _ _ => rfl
    have hm' : n + m ≤ 9223372036854775807 := by simp only [maxLen] at h63; omega
    have hnc : n ≤ cap := by
      rcases h.2 with ⟨hv, hn⟩ | ⟨g, off, cap', cur, hv, hb, hg, hc, _⟩
      · omega
      · simp at hv; omega
    have hr := run_append_grow_src (P := P) w t tx ty e i z ht hi hz ao n cap xs hd.old x m news hs (by omega) (by omega) (growslice_fits (by omega) hbytes)
    have hge := grownCap_ge w (n + m) cap e
    have hcm : grownCap w (n + m) cap e ≤ maxLen := grownCap_le_maxLen w (n + m) cap e h63
    refine ⟨_, _, hr, ⟨hlen, .inr ⟨w.heap.size, 0, _, _, rfl, hB, heap_alloc_new w.drew _, hge, hcm, ?_, fun j hj => ?_⟩⟩, ⟨rfl, rfl, rfl, by simp, fun k hk _ => by rw [heap_alloc_old w.drew _ (show k < w.drew.heap.size from hk)]; rfl⟩, .inr rfl⟩
    · simp only [Array.size_append, List.size_toArray, size_zeroCells, hzs, hlen, Nat.zero_add]
      rw [← Nat.add_mul]
      exact Nat.le_of_eq (by congr 1; omega)
    · rw [Nat.zero_add, Array.getElem?_append_left (by simpa [hlen] using hj)]
      simp

end Go.Proofs.YtmbjflhhffcjdaaDoor.Pl


