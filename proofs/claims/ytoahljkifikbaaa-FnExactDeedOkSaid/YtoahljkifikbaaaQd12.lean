/- Joined texts: CCa. -/
import Derived.Test.YtoahljkifikbaaaQd5
import Derived.Laws.AppendOwnNone
/- Tokens copied: append([]int{}, t.Wants...). -/
namespace Go.Proofs.Ytoahljkifikbaaa
open Go.RowKit Pl
set_option linter.unusedVariables false

/-- a walk that stops here. -/
structure Stp (p : Prop) : Prop where
  out : p
end Go.Proofs.Ytoahljkifikbaaa


