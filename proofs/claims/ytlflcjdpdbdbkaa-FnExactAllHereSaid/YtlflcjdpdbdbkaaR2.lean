/- The walks over the program's reader of packets: a short text. -/
import Derived.Test.YtlflcjdpdbdbkaaR1
import Derived.Test.YtlflcjdpdbdbkaaCl
import Derived.Test.YtlflcjdpdbdbkaaI2
namespace Go.Proofs.Ytlflcjdpdbdbkaa
open Go.RowKit Pl
set_option linter.unusedVariables false
end Go.Proofs.Ytlflcjdpdbdbkaa
