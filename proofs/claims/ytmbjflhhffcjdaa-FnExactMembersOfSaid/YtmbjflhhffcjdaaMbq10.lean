/- Joined texts: CXsp. -/
import Derived.Test.YtmbjflhhffcjdaaMbq5
import Derived.Test.YtmbjflhhffcjdaaMbq8
import Derived.Test.YtmbjflhhffcjdaaMbq9
/- The walks over SplitPrivate, of the program and of the specification, and the law on it. -/
namespace Go.Proofs.Ytmbjflhhffcjdaa
open Go.RowKit Pl
set_option linter.unusedVariables false

end Go.Proofs.Ytmbjflhhffcjdaa


