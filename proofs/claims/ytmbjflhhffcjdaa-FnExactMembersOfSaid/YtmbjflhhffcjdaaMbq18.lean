/- Joined texts: CTin CTso. -/
import Derived.Test.YtmbjflhhffcjdaaMbq16
import Derived.Test.YtmbjflhhffcjdaaMbq17
/- The walks over an insertion and over the specification's SortNames. -/
namespace Go.Proofs.Ytmbjflhhffcjdaa
open Go.RowKit Pl
set_option linter.unusedVariables false

/-- the texts ahead of k that are less than x. -/
def loT (us : List ByteArray) (x : ByteArray) (k : Nat) : List ByteArray := (us.take k).filter (fun y => tltB y x)
/-- .. and those that are more. -/
def hiT (us : List ByteArray) (x : ByteArray) (k : Nat) : List ByteArray := (us.take k).filter (fun y => tltB x y)

end Go.Proofs.Ytmbjflhhffcjdaa


/- The walk over the specification's SortNames. -/
namespace Go.Proofs.Ytmbjflhhffcjdaa
open Go.RowKit Pl
set_option linter.unusedVariables false
end Go.Proofs.Ytmbjflhhffcjdaa


