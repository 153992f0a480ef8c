/- Joined texts: CPe. -/
import Derived.Test.YtmbjflhhffcjdaaDoorWtq14
import Derived.Deep.RegionLaw
/- One item put behind a slice, at a step of a statement that leaves its order open. -/
namespace Go.Proofs.YtmbjflhhffcjdaaDoor.Pl
open Go Go.RowKit
set_option linter.unusedVariables false

section
variable {P : Program} {W : World} {B H : Nat} {v : Value} {ops : Array Oper} {rest : List Oper} {o : Oper} {a : Act} {Q : Exit → Act → World → Prop}
end
end Go.Proofs.YtmbjflhhffcjdaaDoor.Pl
namespace Go.Proofs.YtmbjflhhffcjdaaDoor
open Go.RowKit Pl
set_option linter.unusedVariables false
end Go.Proofs.YtmbjflhhffcjdaaDoor


