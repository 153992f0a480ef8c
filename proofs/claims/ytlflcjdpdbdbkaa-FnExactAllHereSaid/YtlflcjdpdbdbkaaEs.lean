/- Two slices of items compared. -/
import Derived.Test.YtlflcjdpdbdbkaaSz
namespace Go.Proofs.Ytlflcjdpdbdbkaa
open Go.RowKit Pl
set_option linter.unusedVariables false

theorem eqItems_sl (v1 v2 : Value) (ts : List It) (B1 B2 : Nat) (w : World) (h1 : SlI w B1 v1 ts) (h2 : SlI w B2 v2 ts) (hl : ts.length ≤ 1048576) :
    Calls Try.prog 21 #[v1, v2] w fun e w' => e = .returned (.bool true) ∧ Below w.heap.size w w' := by
  obtain ⟨a1, c1, rfl, x1⟩ := h1.items
  obtain ⟨a2, c2, rfl, x2⟩ := h2.items
  exact eqItems_same a1 a2 c1 c2 ts w x1 x2 hl
end Go.Proofs.Ytlflcjdpdbdbkaa
