/- The law on RingOk. -/
import Derived.Test.YthdjkkiegecgnaaRh
import Derived.Test.YthdjkkiegecgnaaRs
namespace Go.Proofs.Ythdjkkiegecgnaa
open Go.RowKit Pl
set_option linter.unusedVariables false

/-- what stands while a ring is compared with what was handed in. -/
def TwoRg (w : World) (g g' : Nat) (i : Int) (v v' : Value) : Prop :=
  (w.cell? ⟨g, 0, none⟩ = some (.int .i64 i) ∧ w.cell? ⟨g, 1, none⟩ = some v) ∧
  (w.cell? ⟨g', 0, none⟩ = some (.int .i64 i) ∧ w.cell? ⟨g', 1, none⟩ = some v')
theorem twoRg_of {W w : World} {g g' : Nat} {i : Int} {v v' : Value} (h1 : RgAt W g i v) (h2 : LrgAt W g' i v') (hb : Below W.heap.size W w) : TwoRg w g g' i v v' ∧ Hid (Below W.heap.size W w) :=
  ⟨⟨(h1.stays hb h1.lt).cells, (h2.stays hb h2.lt).cells⟩, hb⟩

/-- an own list's values in a later world. -/
theorem own_later {w w' : World} {B : Nat} {v : Value} {ss : List Int} (h : OwnI w B v ss) (hb : Below w.heap.size w w') : OwnI w' B v ss := h.stays hb (fun k hk => (h.lt k hk).2)

end Go.Proofs.Ythdjkkiegecgnaa
