/- Joined texts: CTk2 CTk3 CWc CHs CCtc CGst CLdc. -/
import Derived.Test.YtmbjflhhffcjdaaDoorWsq22
import Derived.Test.YtmbjflhhffcjdaaDoorWsq24
import Derived.Test.YtmbjflhhffcjdaaDoorWsq11
import Derived.Test.YtmbjflhhffcjdaaDoorWsq8
import Derived.Test.YtmbjflhhffcjdaaDoorWsq5
/- A member takes items in. -/
namespace Go.Proofs.YtmbjflhhffcjdaaDoor
open Go.RowKit Pl
set_option linter.unusedVariables false
set_option linter.unusedSimpArgs false

/-- the member with these items put in. -/
def Mt.putX (m : Mt) (xs : List It) : Mt := ⟨m.id, m.rid, m.ms, putAll m.its xs, m.lv, m.tx, m.rd, m.se, m.li, m.he, m.la⟩
def Mv.setI (u : Mv) (s : Sv) : Mv := ⟨u.ms, s, u.lv, u.tx, u.ws⟩
/-- all but the box g and the row that the items lie in stays. -/
structure TakeK (w : World) (g : Nat) (v u : Value) (w' : World) : Prop where
  os : w'.os = w.os
  tape : w'.tape = w.tape
  output : w'.output = w.output
  size : w.heap.size ≤ w'.heap.size
  block : ∀ k, k < w.heap.size → k ≠ g → v.ownBlock ≠ some k → w'.heap[k]? = w.heap[k]?
  o : u.ownBlock = v.ownBlock ∨ ∃ nb, u.ownBlock = some nb ∧ w.heap.size ≤ nb

end Go.Proofs.YtmbjflhhffcjdaaDoor


/- A member takes items in: what it leaves, whatever its other lists are. -/
namespace Go.Proofs.YtmbjflhhffcjdaaDoor
open Go.RowKit Pl
set_option linter.unusedVariables false
set_option linter.unusedSimpArgs false
end Go.Proofs.YtmbjflhhffcjdaaDoor


/- Slices of ints and texts, wherever in their block they begin; cut in front in a walk. -/
namespace Go.Proofs.YtmbjflhhffcjdaaDoor
open Go.RowKit Pl
set_option linter.unusedVariables false

def SlJ (w : World) (B : Nat) (v : Value) (xs : List Int) : Prop := Sl w 3 1 B v xs.length (xs.map (Value.int .i64))
def SlX (w : World) (B : Nat) (v : Value) (xs : List ByteArray) : Prop := Sl w 9 1 B v xs.length (xs.map Value.string)
section
variable {w w' : World} {B : Nat} {v : Value}
theorem Pl.OwnS.x {xs : List ByteArray} (h : OwnS w B v xs) : SlX w B v xs := by
  have := Sl.ofOwn (w := w) (e := 9) (size := 1) (B := B) (v := v) (n := xs.length) (xs := xs.map Value.string) h
  exact this
theorem Sl.blk {e size n : Nat} {xs : List Value} (h : Sl w e size B v n xs) {k : Nat} (hk : v.ownBlock = some k) : ∃ cs, w.heap[k]? = some (.cells cs e (0, 0)) := by
  rcases h.2 with ⟨rfl, _⟩ | ⟨g, off, cap, cur, rfl, _, hg, _⟩
  · cases hk
  · cases hk; exact ⟨_, hg⟩
theorem SlJ.below {xs : List Int} (h : SlJ w B v xs) (hb : Below w.heap.size w w') : SlJ w' B v xs := Sl.below h hb
theorem SlX.below {xs : List ByteArray} (h : SlX w B v xs) (hb : Below w.heap.size w w') : SlX w' B v xs := Sl.below h hb
end
section
variable {P : Program} {w : World} {ops : Array Oper} {rest : List Oper} {o : Oper} {a : Act} {Q : Exit → Act → World → Prop}
/-- a walk stops at a store. -/
theorem wpList_haltS (t : TypeId) (x y : Operand) (ho : o.op = .store t x y) (h : Stp (wpList P ops Q (o :: rest) a w)) : wpList P ops Q (o :: rest) a w := h.out
end
end Go.Proofs.YtmbjflhhffcjdaaDoor


/- Slices of items read as they are told of in bundles; what stage 13's texts lean on, over the texts of members. -/
namespace Go.Proofs.YtmbjflhhffcjdaaDoor
open Go.RowKit Pl
set_option linter.unusedVariables false

/-- a slice of items that is read. -/
def RSt (w : World) (s : Sv) (ts : List It) : Prop := s.n = ts.length ∧ ItemsAt w s.a ts
theorem RSt.stays {w w' : World} {s : Sv} {ts : List It} (h : RSt w s ts) (hb : Below w.heap.size w w') : RSt w' s ts := ⟨h.1, h.2.stays hb⟩
theorem RSt.r {w : World} {s : Sv} {ts : List It} (h : RSt w s ts) : RIt w s.v ts := ⟨s.a, s.c, by unfold Sv.v; rw [h.1], h.2⟩
end Go.Proofs.YtmbjflhhffcjdaaDoor


/- A member catches an item: the walks over both Catch. Written by gen_ct.py. -/
namespace Go.Proofs.YtmbjflhhffcjdaaDoor
open Go.RowKit Pl
set_option linter.unusedVariables false
set_option linter.unusedSimpArgs false
/-- the member behind it. -/
def Mt.setIt (m : Mt) (ts : List It) : Mt := ⟨m.id, m.rid, m.ms, ts, m.lv, m.tx, m.rd, m.se, m.li, m.he, m.la⟩
def Mt.cat (m : Mt) (y : It) : Mt := m.setIt (if m.ok = true then putP m.its y else m.its)
end Go.Proofs.YtmbjflhhffcjdaaDoor


/- Marks, one step at a time: a store, a call. Written by gen_gs.py. -/
namespace Go.Proofs.YtmbjflhhffcjdaaDoor
open Go.RowKit Pl
set_option linter.unusedVariables false
set_option linter.unusedSimpArgs false

section
variable {P : Program} {ops : Array Oper} {rest : List Oper} {o : Oper} {a : Act} {w w0 ws : World} {Q : Exit → Act → World → Prop} {TL : List Spot} {K n g off d : Nat}
end
theorem MkI.cell {w0 ws w : World} {TL : List Spot} {K n g o : Nat} {v : Value} (h : MkI w0 ws TL K n w) (hg : g < w0.heap.size) (hn : ∀ s ∈ TL, ¬ (s.1 = g ∧ s.2.1 = o)) (hc : w0.cell? ⟨g, o, none⟩ = some v) : w.cell? ⟨g, o, none⟩ = some v := (h.cells g o hg hn).trans hc
theorem Held.int {w : World} {TL : List Spot} {K i g o : Nat} {z : Int} (h : Held w TL K) (hs : TL[i]? = some (g, o, 0)) (hz : z = ((K + i : Nat) : Int)) : w.cell? ⟨g, o, none⟩ = some (.int .i64 z) := (h i _ hs).2.trans (congrArg some (vkI hz).symm)
theorem Held.bool {w : World} {TL : List Spot} {K i g o k : Nat} (h : Held w TL K) (hs : TL[i]? = some (g, o, 1)) (hz : k = K + i) : w.cell? ⟨g, o, none⟩ = some (.bool (decide (k % 3 = 0))) := by subst hz; exact (h i _ hs).2
end Go.Proofs.YtmbjflhhffcjdaaDoor


/- One cell that is read in a statement that leaves its order open. -/
namespace Go.Proofs.YtmbjflhhffcjdaaDoor
open Go.RowKit Pl
set_option linter.unusedVariables false
end Go.Proofs.YtmbjflhhffcjdaaDoor


