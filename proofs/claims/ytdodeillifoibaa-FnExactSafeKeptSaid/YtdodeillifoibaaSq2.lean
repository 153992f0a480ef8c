/- Joined texts: CWn. -/
import Derived.Test.YtdodeillifoibaaChecked
import Derived.WalkKit
import Derived.WalkSpells
import Derived.WalkLawsBesides
/- The walks over the tests whether a number lies between two others, of the program and of the specification. -/
namespace Go.Proofs.Ytdodeillifoibaa
open Go.RowKit
set_option linter.unusedVariables false
end Go.Proofs.Ytdodeillifoibaa


