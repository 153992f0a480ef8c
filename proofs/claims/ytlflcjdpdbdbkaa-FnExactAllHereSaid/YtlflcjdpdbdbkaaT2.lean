/- The walk over the specification's TokenOk. -/
import Derived.Test.YtlflcjdpdbdbkaaT1
import Derived.BigQuiet
namespace Go.Proofs.Ytlflcjdpdbdbkaa
open Go.RowKit Pl
set_option linter.unusedVariables false
end Go.Proofs.Ytlflcjdpdbdbkaa
