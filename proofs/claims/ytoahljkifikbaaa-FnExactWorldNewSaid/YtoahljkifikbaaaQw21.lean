/- Joined texts: COm. -/
import Derived.Test.YtoahljkifikbaaaQw13
import Derived.Test.YtoahljkifikbaaaQw19
import Derived.Test.YtoahljkifikbaaaQw20
/- A parameter that is a member, opened. -/
namespace Go.Proofs.Ytoahljkifikbaaa
open Go.RowKit Go.ChangeShapes Go.WideShapes Go.Deep Go.WideElems Pl
open Go.Joins (slice_form)
set_option linter.unusedVariables false
set_option linter.unusedSimpArgs false

theorem co3 : Try.prog.cellsOf 3 = 1 := by kernel_rfl
theorem coI : Try.prog.cellsOf 47 = 1 := by kernel_rfl
end Go.Proofs.Ytoahljkifikbaaa


