/- The item that has a number: the walks over store.at and over both ItemAt. -/
import Derived.Test.YtnhnpneedcjcfaaNu
namespace Go.Proofs.Ytnhnpneedcjcfaa
open Go.RowKit Pl
set_option linter.unusedVariables false

/-- the first item that has the number n. -/
def atP (ts : List It) (n : Int) : Option It := ts.find? fun x => decide (x.1 = n)
/-- whether one has it. -/
def hasP (ts : List It) (n : Int) : Bool := (atP ts n).isSome
theorem atP_here {ts : List It} {n : Int} {k : Nat} (hk : k < ts.length) (hn : ts[k].1 = n) (h : ∀ x ∈ ts.take k, ¬ x.1 = n) : atP ts n = some ts[k] := by
  unfold atP
  have e : ts.find? (fun x => decide (x.1 = n)) = (ts.take k ++ ts.drop k).find? (fun x => decide (x.1 = n)) := by rw [List.take_append_drop]
  rw [e, List.find?_append, List.find?_eq_none.2 (fun x hx => by simpa using h x hx), List.drop_eq_getElem_cons hk, List.find?_cons_of_pos (by simpa using hn)]
  rfl
theorem atP_none {ts : List It} {n : Int} (h : ∀ x ∈ ts, ¬ x.1 = n) : atP ts n = none := by
  unfold atP
  exact List.find?_eq_none.2 fun x hx => by simpa using h x hx
theorem hasP_iff {ts : List It} {n : Int} : hasP ts n = true ↔ ∃ x ∈ ts, x.1 = n := by
  unfold hasP atP
  simp
theorem take_step {ts : List It} {n : Int} {k : Nat} (hk : k < ts.length) (h : ∀ x ∈ ts.take k, ¬ x.1 = n) (hn : ¬ ts[k].1 = n) : ∀ x ∈ ts.take (k + 1), ¬ x.1 = n := by
  intro x hx
  rw [List.take_succ_eq_append_getElem hk] at hx
  rcases List.mem_append.1 hx with h1 | h1
  · exact h x h1
  · rw [List.mem_singleton.1 h1]; exact hn

theorem zt (w : World) : ItAt (w.alloc (.cells #[.int .i64 0, .int .i64 0, .int .i64 0, .string ⟨#[]⟩] 43)) w.heap.size 0 0 0 ⟨#[]⟩ := heap_alloc_new w _
/-- four cells stored. -/
theorem ItAt.put4 {w : World} {g : Nat} {q f l q' f' l' : Int} {t t' : ByteArray} (h : ItAt w g q f l t) :
    ItAt ((((w.setCell ⟨g, 0, none⟩ (.int .i64 q')).setCell ⟨g, 1, none⟩ (.int .i64 f')).setCell ⟨g, 2, none⟩ (.int .i64 l')).setCell ⟨g, 3, none⟩ (.string t')) g q' f' l' t' := by
  have e0 := heap_setCell_same w g 0 _ 43 (.int .i64 q') h
  have e1 := heap_setCell_same _ g 1 _ 43 (.int .i64 f') e0
  have e2 := heap_setCell_same _ g 2 _ 43 (.int .i64 l') e1
  exact heap_setCell_same _ g 3 _ 43 (.string t') e2
theorem ItAt.frozen {w : World} {g : Nat} {q f l : Int} {t : ByteArray} (h : ItAt w g q f l t) (i : Nat) : w.frozen? ⟨g, i, none⟩ = false := frozen_of_row w g i _ 43 h

end Go.Proofs.Ytnhnpneedcjcfaa
