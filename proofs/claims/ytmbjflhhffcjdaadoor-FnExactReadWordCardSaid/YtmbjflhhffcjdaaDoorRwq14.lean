/- Joined texts: CNu CSz CEs CA1 CA2 CA3 CA4 CGv CBs CA5 CA6. -/
import Derived.Test.YtmbjflhhffcjdaaDoorRwq12
import Derived.Test.YtmbjflhhffcjdaaDoorRwq13
import Derived.Test.YtmbjflhhffcjdaaDoorRwq2
import Derived.Test.YtmbjflhhffcjdaaDoorRwq9
import Derived.Laws.MakeOwn
import Derived.BigQuiet
/- Numbers of items, by the interface; slices of items. -/
namespace Go.Proofs.YtmbjflhhffcjdaaDoor
open Go.RowKit Pl
set_option linter.unusedVariables false

/-- an item as a value. -/
def agg (x : It) : Value := .agg #[.int .i64 x.1, .int .i64 x.2.1, .int .i64 x.2.2.1, .string x.2.2.2]
/-- the item of which all is zero. -/
def zIt : It := (0, 0, 0, ⟨#[]⟩)
/-- an item's cells. -/
def cel (x : It) : List Value := [.int .i64 x.1, .int .i64 x.2.1, .int .i64 x.2.2.1, .string x.2.2.2]
/-- items' cells. -/
def cels (ts : List It) : List Value := ts.flatMap cel
section
variable {w w' : World} {B : Nat} {v : Value} {ts : List It}
end
end Go.Proofs.YtmbjflhhffcjdaaDoor


/- Lists of items measured and copied, told more of. -/
namespace Go.Proofs.YtmbjflhhffcjdaaDoor
open Go.RowKit Pl
set_option linter.unusedVariables false
end Go.Proofs.YtmbjflhhffcjdaaDoor


/- Two slices of items compared. -/
namespace Go.Proofs.YtmbjflhhffcjdaaDoor
open Go.RowKit Pl
set_option linter.unusedVariables false
end Go.Proofs.YtmbjflhhffcjdaaDoor


/- The item that has a number: the walks over store.at and over both ItemAt. -/
namespace Go.Proofs.YtmbjflhhffcjdaaDoor
open Go.RowKit Pl
set_option linter.unusedVariables false

/-- the first item that has the number n. -/
def atP (ts : List It) (n : Int) : Option It := ts.find? fun x => decide (x.1 = n)
/-- whether one has it. -/
def hasP (ts : List It) (n : Int) : Bool := (atP ts n).isSome
end Go.Proofs.YtmbjflhhffcjdaaDoor


/- The walks over both ItemAt, over one item copied. -/
namespace Go.Proofs.YtmbjflhhffcjdaaDoor
open Go.RowKit Pl
set_option linter.unusedVariables false
end Go.Proofs.YtmbjflhhffcjdaaDoor


/- Up to which number none is missing: the walks over store.aru and over both AruOf. -/
namespace Go.Proofs.YtmbjflhhffcjdaaDoor
open Go.RowKit Pl
set_option linter.unusedVariables false

/-- from n on, as long as there is the next one. -/
def aruGo (ts : List It) : Nat → Nat → Nat
  | 0, n => n
  | f + 1, n => if hasP ts ((n + 1 : Nat) : Int) = true then aruGo ts f (n + 1) else n
/-- the greatest number up to which none is missing. -/
def aruP (ts : List It) : Nat := aruGo ts ts.length 0
/-- which numbers are marked behind the first k items. -/
def flg (ts : List It) (k j : Nat) : Bool := decide (1 ≤ j ∧ j ≤ ts.length) && (ts.take k).any fun x => decide (x.1 = (j : Int))
/-- a row of N flags. -/
def FlAt (w : World) (g N : Nat) (p : Nat → Bool) : Prop := ∃ arr : Array Value, w.heap[g]? = some (.cells arr 4 (0, 0)) ∧ arr.size = N ∧ ∀ j, j < N → arr[j]? = some (.bool (p j))
theorem FlAt.lt {w : World} {g N : Nat} {p : Nat → Bool} (h : FlAt w g N p) : g < w.heap.size := by
  obtain ⟨arr, h1, _⟩ := h
  exact (Array.getElem?_eq_some_iff.1 h1).1
theorem FlAt.below {w w' : World} {g N : Nat} {p : Nat → Bool} (h : FlAt w g N p) (hb : Below w.heap.size w w') : FlAt w' g N p := by
  have := h.lt
  obtain ⟨arr, h1, h2⟩ := h
  exact ⟨arr, (hb.block g this).trans h1, h2⟩
theorem FlAt.cell {w : World} {g N : Nat} {p : Nat → Bool} (h : FlAt w g N p) {j : Nat} (hj : j < N) : w.cell? ⟨g, j, none⟩ = some (.bool (p j)) ∧ w.frozen? ⟨g, j, none⟩ = false := by
  obtain ⟨arr, h1, h2, h3⟩ := h
  exact ⟨by rw [cell_of_row w g j _ 4 (0, 0) h1]; exact h3 j hj, frozen_of_row w g j _ 4 h1⟩
theorem FlAt.set {w : World} {g N : Nat} {p p' : Nat → Bool} (h : FlAt w g N p) (k : Nat) (hp : ∀ j, p' j = if j = k then true else p j) : FlAt (w.setCell ⟨g, k, none⟩ (.bool true)) g N p' := by
  obtain ⟨arr, h1, h2, h3⟩ := h
  refine ⟨_, heap_setCell_same w g k _ 4 (.bool true) h1, by simp [h2], fun j hj => ?_⟩
  rw [Array.getElem?_setIfInBounds, hp]
  by_cases hjk : k = j
  · subst hjk
    simp [h2, hj]
  · have : ¬ j = k := fun e => hjk e.symm
    simp [hjk, this, h3 j hj]
end Go.Proofs.YtmbjflhhffcjdaaDoor


/- Items copied; those up to the aru: the walks over copyOfItems, store.whole and both Whole. -/
namespace Go.Proofs.YtmbjflhhffcjdaaDoor
open Go.RowKit Pl
set_option linter.unusedVariables false

/-- those up to the aru. -/
def wholeP (ts : List It) : List It := ts.filter fun x => decide (x.1 ≤ (aruP ts : Int))
end Go.Proofs.YtmbjflhhffcjdaaDoor


/- What is given of what is wanted: both Give. -/
namespace Go.Proofs.YtmbjflhhffcjdaaDoor
open Go.RowKit Pl
set_option linter.unusedVariables false

/-- n is one of them. -/
def inB (ws : List Int) (n : Int) : Bool := decide (n ∈ ws)
/-- those of the list that ws has. -/
def giveP (ws : List Int) (ts : List It) : List It := ts.filter fun x => inB ws x.1
end Go.Proofs.YtmbjflhhffcjdaaDoor


/- The search by halves: the walks over cmp.Compare, the closure and slices.BinarySearchFunc. -/
namespace Go.Proofs.YtmbjflhhffcjdaaDoor
open Go.RowKit Pl
set_option linter.unusedVariables false

/-- how two numbers stand. -/
def cmpP (a b : Int) : Int := if a < b then -1 else if b < a then 1 else 0
/-- where a list that ascends parts at n. -/
def Parts (ts : List It) (n : Int) (p : Nat) : Prop := p ≤ ts.length ∧ (∀ x ∈ ts.take p, x.1 < n) ∧ ∀ x ∈ ts.drop p, n ≤ x.1
/-- ascending. -/
def Asc (ts : List It) : Prop := ts.Pairwise fun a b => a.1 < b.1
theorem Asc.at {ts : List It} (h : Asc ts) {i j : Nat} (hij : i < j) (hj : j < ts.length) : (ts[i]'(by omega)).1 < ts[j].1 := List.pairwise_iff_getElem.1 h i j (by omega) hj hij
theorem ahead {ts : List It} (h : Asc ts) {n : Int} {k : Nat} (hk : k < ts.length) (hlt : ts[k].1 < n) : ∀ x ∈ ts.take (k + 1), x.1 < n := by
  intro x hx
  obtain ⟨i, hi, rfl⟩ := List.mem_take_iff_getElem.1 hx
  have hi2 : i < ts.length := by omega
  by_cases hik : i = k
  · subst hik; exact hlt
  · have := h.at (i := i) (j := k) (by omega) hk
    omega
theorem behind {ts : List It} (h : Asc ts) {n : Int} {k : Nat} (hk : k < ts.length) (hge : n ≤ ts[k].1) : ∀ x ∈ ts.drop k, n ≤ x.1 := by
  intro x hx
  obtain ⟨i, hi, rfl⟩ := List.mem_drop_iff_getElem.1 hx
  by_cases hi0 : i = 0
  · subst hi0; simpa using hge
  · have := h.at (i := k) (j := k + i) (by omega) (by omega)
    omega

end Go.Proofs.YtmbjflhhffcjdaaDoor


/- What is missing: the walks over store.missing and over both Missing. -/
namespace Go.Proofs.YtmbjflhhffcjdaaDoor
open Go.RowKit Pl
set_option linter.unusedVariables false

/-- from n on, up to last, twenty at most. -/
def missGo (ts : List It) (last : Int) : Nat → Nat → List Int → List Int
  | 0, _, acc => acc
  | f + 1, n, acc => if (n : Int) ≤ last ∧ acc.length < 20 then missGo ts last f (n + 1) (if hasP ts (n : Int) = true then acc else acc ++ [(n : Int)]) else acc
/-- what is missing. -/
def missP (ts : List It) (u : Int) : List Int := missGo ts (if u ≤ 60 then u else 60) (61 - (aruP ts + 1)) (aruP ts + 1) []
end Go.Proofs.YtmbjflhhffcjdaaDoor


/- The walk over the specification's Missing. -/
namespace Go.Proofs.YtmbjflhhffcjdaaDoor
open Go.RowKit Pl
set_option linter.unusedVariables false
end Go.Proofs.YtmbjflhhffcjdaaDoor


