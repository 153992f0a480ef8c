/- Joined texts: CPdc CPpn. -/
import Derived.Test.YtmbjflhhffcjdaaMbq2
import Derived.Deep.RegionHeld3
import Derived.Laws.BytesArg
/- The walks over PrivateName, of the program and of the specification. -/
namespace Go.Proofs.Ytmbjflhhffcjdaa
open Go.RowKit
set_option linter.unusedVariables false

def figS (d : Nat) : ByteArray := ⟨#[UInt8.ofNat (48 + d)]⟩
/-- The private name of daemon d and s. -/
def privS (d : Nat) (s : ByteArray) : ByteArray := ((⟨#[35]⟩ ++ figS d) ++ ⟨#[35]⟩) ++ s

end Go.Proofs.Ytmbjflhhffcjdaa


/- The walks over PrivateName, of the program and of the specification, and the law on it. -/
namespace Go.Proofs.Ytmbjflhhffcjdaa
open Go.RowKit
set_option linter.unusedVariables false

/-- What PrivateName answers. -/
def privB (d : Int) (s : ByteArray) : ByteArray := if 1 ≤ d ∧ d ≤ 9 ∧ nmB s = true then privS d.toNat s else ⟨#[]⟩

end Go.Proofs.Ytmbjflhhffcjdaa


