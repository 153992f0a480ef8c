/- Joined texts: CSos. -/
import Derived.WalkKit
import Derived.WalkSpells
import Derived.WalkLawsBesides
import Derived.Laws.OwnMore
import Derived.Sort.KeysCollected
import Derived.Sort.OwnSorted
import Derived.Sort.Walk0
/- Lists of texts in plain words: ascending ones, that one set of texts makes one such list alone, what an insertion and the library's sort make; laws for a slice of texts that the call itself has made. No program is named here. -/
namespace Go.Proofs.YtmbjflhhffcjdaaDoor.Pl
open Go Go.RowKit
set_option linter.unusedVariables false

/-- Less, as Go compares texts. -/
def Tlt (a b : ByteArray) : Prop := a.data.toList < b.data.toList
/-- .. as a test. -/
def tltB (a b : ByteArray) : Bool := decide (a.data.toList < b.data.toList)
theorem tltB_iff {a b : ByteArray} : tltB a b = true ↔ Tlt a b := by simp [tltB, Tlt]

/-- Ascending, no two alike. -/
def TAsc (us : List ByteArray) : Prop := us.Pairwise Tlt

/-- What l03Insert makes. -/
def insT (us : List ByteArray) (x : ByteArray) : List ByteArray := us.filter (fun y => tltB y x) ++ x :: us.filter (fun y => tltB x y)

/-- us is the set of ts, ascending. -/
def SetOf (ts us : List ByteArray) : Prop := TAsc us ∧ ∀ x, x ∈ us ↔ x ∈ ts

/-- A list of bytes as a text, and back. -/
def mkT (l : List UInt8) : ByteArray := ⟨l.toArray⟩
end Go.Proofs.YtmbjflhhffcjdaaDoor.Pl


