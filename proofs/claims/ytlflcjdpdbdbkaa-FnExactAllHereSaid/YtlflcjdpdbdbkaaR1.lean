/- The walks over the program's reader of packets: a number, one byte; where there is none it panics with a value of its own; the recovering of it. -/
import Derived.Test.YtlflcjdpdbdbkaaV1
import Derived.Test.YtlflcjdpdbdbkaaK2
import Derived.Defers
import Derived.Recover
import Derived.Deep.RegionHeld3
import Derived.Deep.QuietTactic
namespace Go.Proofs.Ytlflcjdpdbdbkaa
open Go.RowKit Pl
set_option linter.unusedVariables false
end Go.Proofs.Ytlflcjdpdbdbkaa
