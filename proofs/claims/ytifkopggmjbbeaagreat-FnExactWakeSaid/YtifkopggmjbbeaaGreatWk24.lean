/- Joined texts: COm. -/
import Derived.Test.YtifkopggmjbbeaaGreatWk13
import Derived.Test.YtifkopggmjbbeaaGreatWk22
import Derived.Test.YtifkopggmjbbeaaGreatWk23
/- A parameter that is a member, opened. -/
namespace Go.Proofs.YtifkopggmjbbeaaGreat
open Go.RowKit Go.ChangeShapes Go.WideShapes Go.Deep Go.WideElems Pl
open Go.Joins (slice_form)
set_option linter.unusedVariables false
set_option linter.unusedSimpArgs false
theorem co3:Tryz.prog.cellsOf 3=1:=by kernel_rfl
theorem coR:Tryz.prog.cellsOf 24=2:=by kernel_rfl
theorem coIs:Tryz.prog.cellsOf 25=1:=by kernel_rfl
theorem coI:Tryz.prog.cellsOf 22=1:=by kernel_rfl
theorem coS:Tryz.prog.cellsOf 26=1:=by kernel_rfl
theorem coT:Tryz.prog.cellsOf 28=6:=by kernel_rfl
theorem coM:Tryz.prog.cellsOf 30=16:=by kernel_rfl
end Go.Proofs.YtifkopggmjbbeaaGreat
