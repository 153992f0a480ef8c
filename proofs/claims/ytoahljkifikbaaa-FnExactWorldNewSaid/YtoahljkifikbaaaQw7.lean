/- Joined texts: CCl. -/
import Derived.Test.YtoahljkifikbaaaChecked
import Derived.WalkKit
import Derived.WalkSpells
import Derived.WalkLawsBesides
import Derived.Lib.Strings
import Derived.Lib.BufferWrite
import Derived.Lib.UnsafeStr
import Derived.Laws.MakeOwn
/- The walk over strings.Clone. -/
namespace Go.Proofs.Ytoahljkifikbaaa
open Go.RowKit
set_option linter.unusedVariables false

end Go.Proofs.Ytoahljkifikbaaa


