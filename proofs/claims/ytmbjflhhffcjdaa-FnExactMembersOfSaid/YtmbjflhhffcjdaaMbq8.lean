/- Joined texts: CRfv CRdc. -/
import Derived.Test.YtmbjflhhffcjdaaMbq2
import Derived.Test.YtmbjflhhffcjdaaMbq7
import Derived.Deep.RegionHeld3
/- The walk over the program's reading of figures. -/
namespace Go.Proofs.Ytmbjflhhffcjdaa
open Go.RowKit Pl
set_option linter.unusedVariables false

end Go.Proofs.Ytmbjflhhffcjdaa


/- The walk over the program's ReadDecimal. -/
namespace Go.Proofs.Ytmbjflhhffcjdaa
open Go.RowKit Pl
set_option linter.unusedVariables false

/-- when ReadDecimal takes the text. -/
def DecOk (s : ByteArray) : Prop := AllFig false s s.size ∧ dv s s.size ≤ 1000000000 ∧ ∃ h0 : 0 < s.size, ¬ ((s[0]'h0).toNat = 48 ∧ 1 < s.size)

def RdPost (s : ByteArray) (e : Ending) : Prop :=
  (dv s s.size ≤ 1000000000 ∧ e = .returned (.tuple #[.int .i64 (dv s s.size), .bool true])) ∨ (1000000000 < dv s s.size ∧ e = .returned (.tuple #[.int .i64 0, .bool false]))

end Go.Proofs.Ytmbjflhhffcjdaa


