/- Joined texts: COm. -/
import Derived.Test.YtmbjflhhffcjdaaMbq21
import Derived.Test.YtmbjflhhffcjdaaMbq27
import Derived.Test.YtmbjflhhffcjdaaMbq28
/- A parameter that is a member, opened. -/
namespace Go.Proofs.Ytmbjflhhffcjdaa
open Go.RowKit Go.ChangeShapes Go.WideShapes Go.Deep Go.WideElems Pl
open Go.Joins (slice_form)
set_option linter.unusedVariables false
set_option linter.unusedSimpArgs false

end Go.Proofs.Ytmbjflhhffcjdaa


