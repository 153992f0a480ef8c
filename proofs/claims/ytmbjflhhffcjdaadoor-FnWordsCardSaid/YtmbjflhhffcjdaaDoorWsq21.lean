/- Joined texts: CCa. -/
import Derived.Test.YtmbjflhhffcjdaaDoorWsq5
import Derived.Laws.AppendOwnNone
/- Tokens copied: append([]int{}, t.Wants...). -/
namespace Go.Proofs.YtmbjflhhffcjdaaDoor
open Go.RowKit Pl
set_option linter.unusedVariables false

/-- a walk that stops here. -/
structure Stp (p : Prop) : Prop where
  out : p
theorem Stp.here {p : Prop} (h : Stp p) : p := h.out
theorem Stp.go {p : Prop} (h : p) : Stp p := ⟨h⟩

end Go.Proofs.YtmbjflhhffcjdaaDoor


