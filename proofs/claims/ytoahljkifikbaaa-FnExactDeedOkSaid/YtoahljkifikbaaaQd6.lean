/- Joined texts: CSl. -/
import Derived.Test.YtoahljkifikbaaaQd1
import Derived.Laws.OwnMore
import Derived.Deep.AppendSrc
/- Slices, wherever in their block they begin: read, written, cut, appended to. No program is named here. -/
namespace Go.Proofs.Ytoahljkifikbaaa.Pl
open Go Go.RowKit
set_option linter.unusedVariables false

/-- the slice v, of n elements of size cells each, lies in a block from B on and holds the cells xs. -/
def Sl (w : World) (e : TypeId) (size B : Nat) (v : Value) (n : Nat) (xs : List Value) : Prop :=
  xs.length = n * size ∧ ((v = .slice none 0 0 ∧ n = 0) ∨
    ∃ g off cap cur, v = .slice (some ⟨g, off, none⟩) n cap ∧ B ≤ g ∧ w.heap[g]? = some (.cells cur e (0, 0)) ∧ n ≤ cap ∧ cap ≤ maxLen ∧ off + cap * size ≤ cur.size ∧ ∀ j, j < n * size → cur[off + j]? = xs[j]?)

section
variable {w w' : World} {e : TypeId} {size B n : Nat} {v : Value} {xs : List Value}

theorem Sl.form (h : Sl w e size B v n xs) : ∃ ao cap, v = .slice ao n cap := by
  rcases h.2 with ⟨rfl, hn⟩ | ⟨g, off, cap, cur, rfl, _⟩
  · exact ⟨none, 0, by rw [hn]⟩
  · exact ⟨_, cap, rfl⟩
theorem Sl.lt (h : Sl w e size B v n xs) : ∀ k, v.ownBlock = some k → B ≤ k ∧ k < w.heap.size := by
  intro k hk
  rcases h.2 with ⟨rfl, _⟩ | ⟨g, off, cap, cur, rfl, hb, hg, _⟩
  · simp [Value.ownBlock] at hk
  · simp [Value.ownBlock] at hk
    subst hk
    exact ⟨hb, (Array.getElem?_eq_some_iff.1 hg).1⟩
theorem Sl.keep (h : Sl w e size B v n xs) (hk : ∀ k, v.ownBlock = some k → k < w.heap.size → w'.heap[k]? = w.heap[k]?) : Sl w' e size B v n xs := by
  refine ⟨h.1, ?_⟩
  rcases h.2 with hn | ⟨g, off, cap, cur, rfl, hb, hg, rest⟩
  · exact .inl hn
  · exact .inr ⟨g, off, cap, cur, rfl, hb, (hk g rfl (Array.getElem?_eq_some_iff.1 hg).1).trans hg, rest⟩
theorem Sl.stays {B' : Nat} (h : Sl w e size B v n xs) (hb : Below B' w w') (hlt : ∀ k, v.ownBlock = some k → k < B') : Sl w' e size B v n xs :=
  h.keep fun k hk _ => hb.block k (hlt k hk)
theorem Sl.below (h : Sl w e size B v n xs) (hb : Below w.heap.size w w') : Sl w' e size B v n xs := h.stays hb fun k hk => (h.lt k hk).2
theorem Sl.alloc (h : Sl w e size B v n xs) (o : Obj) : Sl (w.alloc o) e size B v n xs := h.below ((Below.refl _ _).alloc (Nat.le_refl _) _)
/-- what it holds, cell by cell. -/
theorem Sl.read (h : Sl w e size B v n xs) (h0 : 0 < n) :
    ∃ g off cap, v = .slice (some ⟨g, off, none⟩) n cap ∧ B ≤ g ∧ g < w.heap.size ∧ (∀ j u, xs[j]? = some u → w.cell? ⟨g, off + j, none⟩ = some u) ∧ ∀ j, w.frozen? ⟨g, j, none⟩ = false := by
  rcases h.2 with ⟨rfl, hn⟩ | ⟨g, off, cap, cur, rfl, hb, hg, hc, hm, hs, ht⟩
  · omega
  · refine ⟨g, off, cap, rfl, hb, (Array.getElem?_eq_some_iff.1 hg).1, fun j u hu => ?_, fun j => frozen_of_row w g j _ e hg⟩
    rw [cell_of_row w g (off + j) _ e (0, 0) hg]
    have hj : j < n * size := by
      rw [← h.1]
      exact (List.getElem?_eq_some_iff.1 hu).1
    rw [ht j hj, hu]

end

/-! ### append -/
end Go.Proofs.Ytoahljkifikbaaa.Pl


