/- Joined texts: CTin CTso. -/
import Derived.Test.YtmbjflhhffcjdaaDoorRwq16
import Derived.Test.YtmbjflhhffcjdaaDoorRwq17
/- The walks over an insertion and over the specification's SortNames. -/
namespace Go.Proofs.YtmbjflhhffcjdaaDoor
open Go.RowKit Pl
set_option linter.unusedVariables false

/-- the texts ahead of k that are less than x. -/
def loT (us : List ByteArray) (x : ByteArray) (k : Nat) : List ByteArray := (us.take k).filter (fun y => tltB y x)
/-- .. and those that are more. -/
def hiT (us : List ByteArray) (x : ByteArray) (k : Nat) : List ByteArray := (us.take k).filter (fun y => tltB x y)

theorem less_yes {a b : ByteArray} (h : Tlt a b) : Op.bytesLess a.toList b.toList = true := by
  rw [bytesLess_eq, ByteArray.toList_eq, ByteArray.toList_eq]
  simpa [Tlt] using h
theorem less_no {a b : ByteArray} (h : ¬ Tlt a b) : Op.bytesLess a.toList b.toList = false := by
  rw [bytesLess_eq, ByteArray.toList_eq, ByteArray.toList_eq]
  simpa [Tlt] using h
end Go.Proofs.YtmbjflhhffcjdaaDoor


/- The walk over the specification's SortNames. -/
namespace Go.Proofs.YtmbjflhhffcjdaaDoor
open Go.RowKit Pl
set_option linter.unusedVariables false

end Go.Proofs.YtmbjflhhffcjdaaDoor


