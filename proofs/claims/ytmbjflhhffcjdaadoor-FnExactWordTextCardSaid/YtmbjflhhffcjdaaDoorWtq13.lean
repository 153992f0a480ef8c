/- Joined texts: CSl. -/
import Derived.Test.YtmbjflhhffcjdaaDoorWtq2
import Derived.Laws.OwnMore
import Derived.Deep.AppendSrc
/- Slices, wherever in their block they begin: read, written, cut, appended to. No program is named here. -/
namespace Go.Proofs.YtmbjflhhffcjdaaDoor.Pl
open Go Go.RowKit
set_option linter.unusedVariables false

/-- the slice v, of n elements of size cells each, lies in a block from B on and holds the cells xs. -/
def Sl (w : World) (e : TypeId) (size B : Nat) (v : Value) (n : Nat) (xs : List Value) : Prop :=
  xs.length = n * size ∧ ((v = .slice none 0 0 ∧ n = 0) ∨
    ∃ g off cap cur, v = .slice (some ⟨g, off, none⟩) n cap ∧ B ≤ g ∧ w.heap[g]? = some (.cells cur e (0, 0)) ∧ n ≤ cap ∧ cap ≤ maxLen ∧ off + cap * size ≤ cur.size ∧ ∀ j, j < n * size → cur[off + j]? = xs[j]?)

section
variable {w w' : World} {e : TypeId} {size B n : Nat} {v : Value} {xs : List Value}

theorem Sl.form (h : Sl w e size B v n xs) : ∃ ao cap, v = .slice ao n cap := by
  rcases h.2 with ⟨rfl, hn⟩ | ⟨g, off, cap, cur, rfl, _⟩
  · exact ⟨none, 0, by rw [hn]⟩
  · exact ⟨_, cap, rfl⟩
theorem Sl.lt (h : Sl w e size B v n xs) : ∀ k, v.ownBlock = some k → B ≤ k ∧ k < w.heap.size := by
  intro k hk
  rcases h.2 with ⟨rfl, _⟩ | ⟨g, off, cap, cur, rfl, hb, hg, _⟩
  · simp [Value.ownBlock] at hk
  · simp [Value.ownBlock] at hk
    subst hk
    exact ⟨hb, (Array.getElem?_eq_some_iff.1 hg).1⟩
theorem Sl.keep (h : Sl w e size B v n xs) (hk : ∀ k, v.ownBlock = some k → k < w.heap.size → w'.heap[k]? = w.heap[k]?) : Sl w' e size B v n xs := by
  refine ⟨h.1, ?_⟩
  rcases h.2 with hn | ⟨g, off, cap, cur, rfl, hb, hg, rest⟩
  · exact .inl hn
  · exact .inr ⟨g, off, cap, cur, rfl, hb, (hk g rfl (Array.getElem?_eq_some_iff.1 hg).1).trans hg, rest⟩
theorem Sl.stays {B' : Nat} (h : Sl w e size B v n xs) (hb : Below B' w w') (hlt : ∀ k, v.ownBlock = some k → k < B') : Sl w' e size B v n xs :=
  h.keep fun k hk _ => hb.block k (hlt k hk)
theorem Sl.below (h : Sl w e size B v n xs) (hb : Below w.heap.size w w') : Sl w' e size B v n xs := h.stays hb fun k hk => (h.lt k hk).2
theorem Sl.alloc (h : Sl w e size B v n xs) (o : Obj) : Sl (w.alloc o) e size B v n xs := h.below ((Below.refl _ _).alloc (Nat.le_refl _) _)
theorem Sl.down {B' : Nat} (h : Sl w e size B v n xs) (hB : B' ≤ B) : Sl w e size B' v n xs := by
  refine ⟨h.1, ?_⟩
  rcases h.2 with hn | ⟨g, off, cap, cur, rfl, hb, rest⟩
  · exact .inl hn
  · exact .inr ⟨g, off, cap, cur, rfl, by omega, rest⟩
theorem Sl.zero (w : World) (e : TypeId) (size B : Nat) : Sl w e size B (.slice none 0 0) 0 [] := ⟨by simp, .inl ⟨rfl, rfl⟩⟩
theorem Sl.ofOwn (h : w.ownsRow B e size v n xs) : Sl w e size B v n xs := by
  refine ⟨h.1, ?_⟩
  rcases h.2 with hn | ⟨g, cap, cur, rfl, hb, hg, hc, hm, hs, ht⟩
  · exact .inl hn
  · refine .inr ⟨g, 0, cap, cur, rfl, hb, hg, hc, hm, by omega, fun j hj => ?_⟩
    rw [← ht, List.getElem?_take, if_pos hj]
    simp
theorem Sl.made (w : World) (e : TypeId) (size B : Nat) (hb : B ≤ w.heap.size) : Sl (w.alloc (.cells #[] e)) e size B (.slice (some ⟨w.heap.size, 0, none⟩) 0 0) 0 [] :=
  ⟨by simp, .inr ⟨w.heap.size, 0, 0, #[], rfl, hb, heap_alloc_new w _, Nat.le_refl _, by unfold maxLen; omega, by simp, fun j hj => by omega⟩⟩

/-- what it holds, cell by cell. -/
theorem Sl.read (h : Sl w e size B v n xs) (h0 : 0 < n) :
    ∃ g off cap, v = .slice (some ⟨g, off, none⟩) n cap ∧ B ≤ g ∧ g < w.heap.size ∧ (∀ j u, xs[j]? = some u → w.cell? ⟨g, off + j, none⟩ = some u) ∧ ∀ j, w.frozen? ⟨g, j, none⟩ = false := by
  rcases h.2 with ⟨rfl, hn⟩ | ⟨g, off, cap, cur, rfl, hb, hg, hc, hm, hs, ht⟩
  · omega
  · refine ⟨g, off, cap, rfl, hb, (Array.getElem?_eq_some_iff.1 hg).1, fun j u hu => ?_, fun j => frozen_of_row w g j _ e hg⟩
    rw [cell_of_row w g (off + j) _ e (0, 0) hg]
    have hj : j < n * size := by
      rw [← h.1]
      exact (List.getElem?_eq_some_iff.1 hu).1
    rw [ht j hj, hu]

theorem Sl.put {g off cap : Nat} (h : Sl w e size B (.slice (some ⟨g, off, none⟩) n cap) n xs) (j : Nat) (x : Value) :
    Sl (w.setCell ⟨g, off + j, none⟩ x) e size B (.slice (some ⟨g, off, none⟩) n cap) n (xs.set j x) := by
  refine ⟨by rw [List.length_set]; exact h.1, ?_⟩
  rcases h.2 with ⟨hv, _⟩ | ⟨g', off', cap', cur, hv, hb, hg, hc, hm, hs, ht⟩
  · simp at hv
  · simp at hv
    obtain ⟨⟨rfl, rfl⟩, rfl⟩ := hv
    refine .inr ⟨g, off, cap, cur.setIfInBounds (off + j) x, rfl, hb, heap_setCell_same w g (off + j) _ e x hg, hc, hm, by simpa using hs, fun i hi => ?_⟩
    rw [List.getElem?_set, Array.getElem?_setIfInBounds]
    have hsz : i < xs.length := by rw [h.1]; exact hi
    have hcs : off + i < cur.size := by
      have : (n * size) ≤ cap * size := Nat.mul_le_mul_right _ hc
      omega
    by_cases hij : i = j
    · subst hij
      simp [hsz, hcs]
    · have : ¬ (off + j = off + i) := by omega
      have h2 : ¬ (j = i) := fun h => hij h.symm
      simp [h2, ht i hi]

end

/-! ### append -/
theorem setCells_heap : ∀ (vs : List Value) (w : World) (g o : Nat) (cur : Array Value) (e : TypeId), w.heap[g]? = some (.cells cur e (0, 0)) → o + vs.length ≤ cur.size →
    ∃ cur' : Array Value, (w.setCells g o vs).heap[g]? = some (.cells cur' e (0, 0)) ∧ cur'.size = cur.size ∧ (∀ j, j < o → cur'[j]? = cur[j]?) ∧ (∀ j, j < vs.length → cur'[o + j]? = vs[j]?) := by
  intro vs
  induction vs with
  | nil => intro w g o cur e hg _; exact ⟨cur, hg, rfl, fun _ _ => rfl, fun j hj => by simp at hj⟩
  | cons x vs ih =>
    intro w g o cur e hg hs
    simp only [List.length_cons] at hs
    have h1 := heap_setCell_same w g o _ e x hg
    obtain ⟨cur', h2, h3, h4, h5⟩ := ih (w.setCell ⟨g, o, none⟩ x) g (o + 1) _ e h1 (by simp; omega)
    refine ⟨cur', h2, by simpa using h3, fun j hj => ?_, fun j hj => ?_⟩
    · rw [h4 j (by omega), Array.getElem?_setIfInBounds_ne (by omega)]
    · cases j with
      | zero =>
        rw [h4 (o + 0) (by omega)]
        have : o < cur.size := by omega
        simp [this]
      | succ j =>
        simp only [List.length_cons] at hj
        have := h5 j (by omega)
        rw [show o + (j + 1) = o + 1 + j by omega, this]
        simp
theorem Sl.old {P : Program} {w : World} {e : TypeId} {size B n : Nat} {ao : Option Addr} {cap : Nat} {xs : List Value} (h : Sl w e size B (.slice ao n cap) n xs) :
    (Builtin.firstCells size n (.slice ao n cap)).run P w = .ok xs.toArray w := by
  rcases h.2 with ⟨hv, hn⟩ | ⟨g, off, cap', cur, hv, hb, hg, hc, hm, hs, ht⟩
  · simp at hv
    obtain ⟨rfl, rfl, rfl⟩ := hv
    have : xs = [] := List.eq_nil_of_length_eq_zero (by simpa using h.1)
    subst this
    exact run_firstCells_none w size 0 0 0
  · simp at hv
    obtain ⟨rfl, rfl⟩ := hv
    refine run_firstCells_some w size n ⟨g, off, none⟩ n cap xs h.1 (fun j u hu => ?_)
    have ha : (⟨g, off, none⟩ : Addr).add j = ⟨g, off + j, none⟩ := by unfold Addr.add; split <;> simp_all
    rw [ha, cell_of_row w g (off + j) _ e (0, 0) hg, ht j (by rw [← h.1]; exact (List.getElem?_eq_some_iff.1 hu).1), hu]

end Go.Proofs.YtmbjflhhffcjdaaDoor.Pl


