/- Joined texts: CXtp CXct. -/
import Derived.Test.YtmbjflhhffcjdaaMbq4
import Derived.Lib.Walk
import Derived.Lib.Strings
import Derived.BigCall
import Derived.BigGuard
import Derived.Deep.QuietTactic
import Derived.BigQuiet
/- The walks over strings.TrimPrefix and strings.Cut at the mark. -/
namespace Go.Proofs.Ytmbjflhhffcjdaa
open Go.RowKit
set_option linter.unusedVariables false
end Go.Proofs.Ytmbjflhhffcjdaa


/- The walks over strings.TrimPrefix and strings.Cut at the mark. -/
namespace Go.Proofs.Ytmbjflhhffcjdaa
open Go.RowKit
set_option linter.unusedVariables false
end Go.Proofs.Ytmbjflhhffcjdaa


