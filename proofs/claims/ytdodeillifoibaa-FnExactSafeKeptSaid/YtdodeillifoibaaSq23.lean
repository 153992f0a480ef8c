/- Joined texts: COm. -/
import Derived.Test.YtdodeillifoibaaSq13
import Derived.Test.YtdodeillifoibaaSq21
import Derived.Test.YtdodeillifoibaaSq22
/- A parameter that is a member, opened. -/
namespace Go.Proofs.Ytdodeillifoibaa
open Go.RowKit Go.ChangeShapes Go.WideShapes Go.Deep Go.WideElems Pl
open Go.Joins (slice_form)
set_option linter.unusedVariables false
set_option linter.unusedSimpArgs false

theorem co3 : Try.prog.cellsOf 3 = 1 := by kernel_rfl
theorem coR : Try.prog.cellsOf 51 = 2 := by kernel_rfl
theorem coIs : Try.prog.cellsOf 101 = 1 := by kernel_rfl
theorem coI : Try.prog.cellsOf 49 = 1 := by kernel_rfl
theorem coS : Try.prog.cellsOf 70 = 1 := by kernel_rfl
theorem coT : Try.prog.cellsOf 102 = 6 := by kernel_rfl
theorem coM : Try.prog.cellsOf 104 = 16 := by kernel_rfl

end Go.Proofs.Ytdodeillifoibaa


