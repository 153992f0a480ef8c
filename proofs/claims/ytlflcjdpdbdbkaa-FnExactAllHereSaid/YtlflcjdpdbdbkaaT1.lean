/- The walks over both TokenOk. -/
import Derived.Test.YtlflcjdpdbdbkaaWn
import Derived.Test.YtlflcjdpdbdbkaaTk
import Derived.Test.YtlflcjdpdbdbkaaOwI
import Derived.Deep.RegionHeld3
import Derived.Deep.QuietTactic
namespace Go.Proofs.Ytlflcjdpdbdbkaa
open Go.RowKit Pl
set_option linter.unusedVariables false

theorem below_drewK {B : Nat} {a w : World} (h : Below B a w) (n : Nat) : Below B a (w.drewN n) := h.trans ⟨rfl, rfl, rfl, Nat.le_refl _, fun _ _ => rfl⟩

end Go.Proofs.Ytlflcjdpdbdbkaa
