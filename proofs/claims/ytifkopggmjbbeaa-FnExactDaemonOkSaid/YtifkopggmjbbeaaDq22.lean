/- Joined texts: COm. -/
import Derived.Test.YtifkopggmjbbeaaDq13
import Derived.Test.YtifkopggmjbbeaaDq20
import Derived.Test.YtifkopggmjbbeaaDq21
/- A parameter that is a member, opened. -/
namespace Go.Proofs.Ytifkopggmjbbeaa
open Go.RowKit Go.ChangeShapes Go.WideShapes Go.Deep Go.WideElems Pl
open Go.Joins (slice_form)
set_option linter.unusedVariables false
set_option linter.unusedSimpArgs false

theorem co3 : Try.prog.cellsOf 3 = 1 := by kernel_rfl
theorem coR : Try.prog.cellsOf 24 = 2 := by kernel_rfl
theorem coIs : Try.prog.cellsOf 25 = 1 := by kernel_rfl
theorem coI : Try.prog.cellsOf 22 = 1 := by kernel_rfl
theorem coS : Try.prog.cellsOf 26 = 1 := by kernel_rfl
theorem coT : Try.prog.cellsOf 28 = 6 := by kernel_rfl
theorem coM : Try.prog.cellsOf 30 = 16 := by kernel_rfl

end Go.Proofs.Ytifkopggmjbbeaa


