/- Joined texts: CIn CIa CPu CPu2 CPt CPs CAr2. -/
import Derived.Test.YtmbjflhhffcjdaaDoorWsq8
import Derived.Shelf.RegionOpenPlain
import Derived.Laws.IdiomCopy
import Derived.Laws.Externs
import Derived.Laws.NewBlocks
import Derived.Lib.Overlaps
import Derived.Lib.AppendZeros
import Derived.Lib.AppendZerosOnto
import Derived.Lib.SliceRun
import Derived.BigQuiet
/- Something put into a slice of items: the walk over slices.Insert. -/
namespace Go.Proofs.YtmbjflhhffcjdaaDoor
open Go.RowKit Pl
set_option linter.unusedVariables false

def zc : Value := .agg #[.int .i64 0, .int .i64 0, .int .i64 0, .string ⟨#[]⟩]
end Go.Proofs.YtmbjflhhffcjdaaDoor


/- Something put into a slice of items, wherever: slices.Insert. -/
namespace Go.Proofs.YtmbjflhhffcjdaaDoor
open Go.RowKit Pl
set_option linter.unusedVariables false

end Go.Proofs.YtmbjflhhffcjdaaDoor


/- An item put into a list that ascends, in plain words; the walk over store.put. -/
namespace Go.Proofs.YtmbjflhhffcjdaaDoor
open Go.RowKit Pl
set_option linter.unusedVariables false

/-- the item in its place, where none has its number. -/
def ins1 (ts : List It) (y : It) : List It := if hasP ts y.1 = true then ts else ts.filter (fun x => decide (x.1 < y.1)) ++ y :: ts.filter (fun x => decide (y.1 < x.1))
/-- items put one behind the other. -/
def putAll (ts xs : List It) : List It := xs.foldl ins1 ts
/-- a slice lies in another block than a list. -/
def Apart (v : Value) (ao : Option Addr) : Prop := ∀ k b off, v.ownBlock = some k → ao = some ⟨b, off, none⟩ → k ≠ b

end Go.Proofs.YtmbjflhhffcjdaaDoor


/- put, with all that it leaves as it was: only the row that the store lies in may turn. -/
namespace Go.Proofs.YtmbjflhhffcjdaaDoor
open Go.RowKit Pl
set_option linter.unusedVariables false

/-- what stays while a store v turns into u. -/
structure PutK (w : World) (v u : Value) (w' : World) : Prop where
  g : w.grownBy w' v.ownBlock
  o : u.ownBlock = v.ownBlock ∨ ∃ nb, u.ownBlock = some nb ∧ w.heap.size ≤ nb
theorem PutK.refl (w : World) (v : Value) : PutK w v v w := ⟨⟨rfl, rfl, rfl, Nat.le_refl _, fun _ _ _ => rfl⟩, .inl rfl⟩
theorem PutK.later {w a b : World} {v u : Value} (h : PutK w v u a) (k : Below a.heap.size a b) : PutK w v u b :=
  ⟨⟨k.os.trans h.g.os, k.tape.trans h.g.tape, k.output.trans h.g.output, Nat.le_trans h.g.size k.size, fun i hi hn => (k.block i (Nat.lt_of_lt_of_le hi h.g.size)).trans (h.g.block i hi hn)⟩, h.o⟩
theorem PutK.put {w a b : World} {v u x : Value} (h : PutK w v u a) (k : a.grownBy b u.ownBlock) (o : x.ownBlock = u.ownBlock ∨ ∃ nb, x.ownBlock = some nb ∧ a.heap.size ≤ nb) : PutK w v x b := by
  refine ⟨⟨k.os.trans h.g.os, k.tape.trans h.g.tape, k.output.trans h.g.output, Nat.le_trans h.g.size k.size, fun i hi hn => (k.block i (Nat.lt_of_lt_of_le hi h.g.size) ?_).trans (h.g.block i hi hn)⟩, ?_⟩
  · rcases h.o with e | ⟨nb, e, z⟩
    · rw [e]; exact hn
    · rw [e]; intro e2; cases e2; omega
  · rcases o with e | ⟨nb, e, z⟩
    · rcases h.o with e2 | ⟨nb, e2, z⟩
      · exact .inl (e.trans e2)
      · exact .inr ⟨nb, e.trans e2, z⟩
    · exact .inr ⟨nb, e, Nat.le_trans h.g.size z⟩

end Go.Proofs.YtmbjflhhffcjdaaDoor


/- The walks over both PutItem. -/
namespace Go.Proofs.YtmbjflhhffcjdaaDoor
open Go.RowKit Pl
set_option linter.unusedVariables false

/-- what PutItem answers. -/
def putP (ts : List It) (y : It) : List It := if iGo 0 ts = true ∧ itB y.1 y.2.1 y.2.2.1 y.2.2.2 = true then ins1 ts y else ts
end Go.Proofs.YtmbjflhhffcjdaaDoor


/- The walk over the specification's PutItem. -/
namespace Go.Proofs.YtmbjflhhffcjdaaDoor
open Go.RowKit Pl
set_option linter.unusedVariables false

/-- where a walk is to stand. -/
def Stop (p : Prop) : Prop := p
theorem Stop.mk {p : Prop} (h : Stop p) : p := h
theorem Stop.go {p : Prop} (h : p) : Stop p := h

end Go.Proofs.YtmbjflhhffcjdaaDoor


/- What the aru is, in plain words. -/
namespace Go.Proofs.YtmbjflhhffcjdaaDoor
open Go.RowKit Pl
set_option linter.unusedVariables false

end Go.Proofs.YtmbjflhhffcjdaaDoor


