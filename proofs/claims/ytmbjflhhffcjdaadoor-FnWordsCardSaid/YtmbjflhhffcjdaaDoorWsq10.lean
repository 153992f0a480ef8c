/- Joined texts: CPe. -/
import Derived.Test.YtmbjflhhffcjdaaDoorWsq8
import Derived.Deep.RegionLaw
/- One item put behind a slice, at a step of a statement that leaves its order open. -/
namespace Go.Proofs.YtmbjflhhffcjdaaDoor.Pl
open Go Go.RowKit
set_option linter.unusedVariables false

theorem grown_after {W w' : World} {o : Obj} {row : Option Nat} (h : (W.alloc o).grownBy w' row) : W.grownBy w' row := by
  have h1 : W.grownBy (W.alloc o) row := World.grownBy_alloc W o row
  exact ⟨h.os.trans h1.os, h.tape.trans h1.tape, h.output.trans h1.output, Nat.le_trans h1.size h.size, fun k hk hne => (h.block k (Nat.lt_of_lt_of_le hk h1.size) hne).trans (h1.block k hk hne)⟩

section
variable {P : Program} {W : World} {B H : Nat} {v : Value} {ops : Array Oper} {rest : List Oper} {o : Oper} {a : Act} {Q : Exit → Act → World → Prop}
end
end Go.Proofs.YtmbjflhhffcjdaaDoor.Pl
namespace Go.Proofs.YtmbjflhhffcjdaaDoor
open Go.RowKit Pl
set_option linter.unusedVariables false
end Go.Proofs.YtmbjflhhffcjdaaDoor


