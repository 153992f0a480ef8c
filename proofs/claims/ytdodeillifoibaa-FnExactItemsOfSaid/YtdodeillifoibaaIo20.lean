/- Joined texts: COm. -/
import Derived.Test.YtdodeillifoibaaIo13
import Derived.Test.YtdodeillifoibaaIo18
import Derived.Test.YtdodeillifoibaaIo19
/- A parameter that is a member, opened. -/
namespace Go.Proofs.Ytdodeillifoibaa
open Go.RowKit Go.ChangeShapes Go.WideShapes Go.Deep Go.WideElems Pl
open Go.Joins (slice_form)
set_option linter.unusedVariables false
set_option linter.unusedSimpArgs false

theorem co3 : Try.prog.cellsOf 3 = 1 := by kernel_rfl
theorem coR : Try.prog.cellsOf 51 = 2 := by kernel_rfl
theorem coI : Try.prog.cellsOf 49 = 1 := by kernel_rfl
end Go.Proofs.Ytdodeillifoibaa


