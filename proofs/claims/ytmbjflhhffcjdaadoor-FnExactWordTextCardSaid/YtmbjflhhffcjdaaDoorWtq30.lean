/- Joined texts: COm. -/
import Derived.Test.YtmbjflhhffcjdaaDoorWtq21
import Derived.Test.YtmbjflhhffcjdaaDoorWtq28
import Derived.Test.YtmbjflhhffcjdaaDoorWtq29
/- A parameter that is a member, opened. -/
namespace Go.Proofs.YtmbjflhhffcjdaaDoor
open Go.RowKit Go.ChangeShapes Go.WideShapes Go.Deep Go.WideElems Pl
open Go.Joins (slice_form)
set_option linter.unusedVariables false
set_option linter.unusedSimpArgs false

end Go.Proofs.YtmbjflhhffcjdaaDoor


