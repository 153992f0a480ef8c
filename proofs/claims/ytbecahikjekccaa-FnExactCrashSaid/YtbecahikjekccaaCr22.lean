/- Joined texts: COm. -/
import Derived.Test.YtbecahikjekccaaCr13
import Derived.Test.YtbecahikjekccaaCr20
import Derived.Test.YtbecahikjekccaaCr21
/- A parameter that is a member, opened. -/
namespace Go.Proofs.Ytbecahikjekccaa
open Go.RowKit Go.ChangeShapes Go.WideShapes Go.Deep Go.WideElems Pl
open Go.Joins (slice_form)
set_option linter.unusedVariables false
set_option linter.unusedSimpArgs false

theorem co3 : Try.prog.cellsOf 3 = 1 := by kernel_rfl
theorem coR : Try.prog.cellsOf 40 = 2 := by kernel_rfl
theorem coIs : Try.prog.cellsOf 41 = 1 := by kernel_rfl
theorem coI : Try.prog.cellsOf 22 = 1 := by kernel_rfl
theorem coS : Try.prog.cellsOf 26 = 1 := by kernel_rfl
theorem coT : Try.prog.cellsOf 42 = 6 := by kernel_rfl
theorem coM : Try.prog.cellsOf 44 = 16 := by kernel_rfl

end Go.Proofs.Ytbecahikjekccaa


