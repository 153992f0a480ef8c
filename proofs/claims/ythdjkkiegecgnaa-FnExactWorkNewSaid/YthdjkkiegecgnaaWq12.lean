/- Joined texts: CCa CMr. -/
import Derived.Test.YthdjkkiegecgnaaWq5
import Derived.Laws.AppendOwnNone
import Derived.BigQuiet
import Derived.RegionTactic
/- Tokens copied: append([]int{}, t.Wants...). -/
namespace Go.Proofs.Ythdjkkiegecgnaa
open Go.RowKit Pl
set_option linter.unusedVariables false

/-- a walk that stops here. -/
structure Stp (p : Prop) : Prop where
  out : p
theorem Stp.here {p : Prop} (h : Stp p) : p := h.out
theorem Stp.go {p : Prop} (h : p) : Stp p := ⟨h⟩

end Go.Proofs.Ythdjkkiegecgnaa


/- The rules that change a token: lower, raise. -/
namespace Go.Proofs.Ythdjkkiegecgnaa
open Go.RowKit Pl
set_option linter.unusedVariables false

/-- the block g is what a daemon tells. -/
def MkAt (w : World) (g : Nat) (d u : Int) : Prop := w.heap[g]? = some (.cells #[.int .i64 d, .int .i64 u] 166 (0, 0))
theorem MkAt.cells {w : World} {g : Nat} {d u : Int} (h : MkAt w g d u) : w.cell? ⟨g, 0, none⟩ = some (.int .i64 d) ∧ w.cell? ⟨g, 1, none⟩ = some (.int .i64 u) :=
  ⟨by rw [cell_of_row w g 0 _ 166 (0, 0) h]; rfl, by rw [cell_of_row w g 1 _ 166 (0, 0) h]; rfl⟩
theorem TokAt.set3 {w : World} {g : Nat} {c r q a b : Int} {v : Value} (h : TokAt w g c r q a b v) (x : Int) : TokAt (w.setCell ⟨g, 3, none⟩ (.int .i64 x)) g c r q x b v := by
  have := heap_setCell_same w g 3 _ 30 (.int .i64 x) h
  unfold TokAt; rw [this]; rfl
theorem TokAt.drewN {w : World} {g : Nat} {c r q a b : Int} {v : Value} (h : TokAt w g c r q a b v) (n : Nat) : TokAt (w.drewN n) g c r q a b v := by
  unfold TokAt; rw [World.heap_drewN]; exact h
end Go.Proofs.Ythdjkkiegecgnaa


