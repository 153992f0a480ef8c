/- Joined texts: CSpp. -/
import Derived.Test.YtmbjflhhffcjdaaMbq3
import Derived.Lib.Bytealg
import Derived.Lib.IndexLaws
/- Private names in plain words: one is split in one way alone; what stands behind its first mark, and ahead of and behind its second one. -/
namespace Go.Proofs.Ytmbjflhhffcjdaa
open Go.RowKit
set_option linter.unusedVariables false

/-- s is the private name of daemon d and t. -/
def IsPriv (s : ByteArray) (d : Nat) (t : ByteArray) : Prop := 1 ≤ d ∧ d ≤ 9 ∧ NmOk t ∧ s = privS d t

end Go.Proofs.Ytmbjflhhffcjdaa


