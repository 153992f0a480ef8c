/- Joined texts: COp. -/
import Derived.Test.YtmbjflhhffcjdaaDoorWtq11
import Derived.Below
import Derived.WalkKit
import Derived.ProofKit
import Derived.OpenShut
import Derived.ChangeSlices
import Derived.ChangeBears2
import Derived.ShutString
import Derived.Lib.SmallJoins
import Derived.Deep.Slices
import Derived.Deep.Fields
/- Items, lists of items and lists of lists of items that were handed in, opened. -/
namespace Go.Proofs.YtmbjflhhffcjdaaDoor
open Go.ChangeShapes Go.WideShapes Go.ChangeAt Go.RowKit Go.Deep Go.WideElems Pl
open Go.Joins (slice_form)
set_option linter.unusedVariables false
/-- the lists that a slice of slices holds. -/
def IsAt (w : World) (ao : Option Addr) (ls : List (List It)) : Prop :=
  ∀ i (h : i < ls.length), ∃ b off ia ic, ao = some ⟨b, off, none⟩ ∧ b < w.heap.size ∧ w.cell? ⟨b, off + i, none⟩ = some (.slice ia ls[i].length ic) ∧ ItemsAt w ia ls[i] ∧ ls[i].length ≤ maxLen ∧ ∀ y ∈ ls[i], y.2.2.2.size ≤ maxLen
theorem IsAt.stays {w w' : World} {ao : Option Addr} {ls : List (List It)} (h : IsAt w ao ls) (hb : Below w.heap.size w w') : IsAt w' ao ls := by
  intro i hi
  obtain ⟨b, off, ia, ic, h1, h2, h3, h4, h5⟩ := h i hi
  exact ⟨b, off, ia, ic, h1, Nat.lt_of_lt_of_le h2 hb.size, (hb.cell (p := ⟨b, off + i, none⟩) h2).trans h3, h4.stays hb, h5⟩
end Go.Proofs.YtmbjflhhffcjdaaDoor


