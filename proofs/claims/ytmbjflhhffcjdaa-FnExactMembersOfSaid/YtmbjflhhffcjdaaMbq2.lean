/- Joined texts: CNok CWn. -/
import Derived.Test.YtmbjflhhffcjdaaChecked
import Derived.Test.YtmbjflhhffcjdaaMbq1
import Derived.WalkKit
import Derived.WalkSpells
import Derived.WalkLawsBesides
import Derived.Lib.OthersKept
/- The walks over NameOk, of the program and of the specification: both tell whether a text is a name. -/
namespace Go.Proofs.Ytmbjflhhffcjdaa
open Go.RowKit
set_option linter.unusedVariables false

end Go.Proofs.Ytmbjflhhffcjdaa


/- The walks over the tests whether a number lies between two others, of the program and of the specification. -/
namespace Go.Proofs.Ytmbjflhhffcjdaa
open Go.RowKit
set_option linter.unusedVariables false
end Go.Proofs.Ytmbjflhhffcjdaa


