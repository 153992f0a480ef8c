/- Joined texts: CWn. -/
import Derived.Test.YtbecahikjekccaaChecked
import Derived.WalkKit
import Derived.WalkSpells
import Derived.WalkLawsBesides
/- The walks over the tests whether a number lies between two others, of the program and of the specification. -/
namespace Go.Proofs.Ytbecahikjekccaa
open Go.RowKit
set_option linter.unusedVariables false

end Go.Proofs.Ytbecahikjekccaa


