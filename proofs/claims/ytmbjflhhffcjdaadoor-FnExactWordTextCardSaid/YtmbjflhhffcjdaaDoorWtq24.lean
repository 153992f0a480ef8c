/- Joined texts: CTk2 CTk3 CWc CHs CCtc CBb CHb CRh13. -/
import Derived.Test.YtmbjflhhffcjdaaDoorWtq21
import Derived.Test.YtmbjflhhffcjdaaDoorWtq23
import Derived.Test.YtmbjflhhffcjdaaDoorWtq16
import Derived.Test.YtmbjflhhffcjdaaDoorWtq14
import Derived.Test.YtmbjflhhffcjdaaDoorWtq12
/- A member takes items in. -/
namespace Go.Proofs.YtmbjflhhffcjdaaDoor
open Go.RowKit Pl
set_option linter.unusedVariables false
set_option linter.unusedSimpArgs false

/-- the member with these items put in. -/
def Mt.putX (m : Mt) (xs : List It) : Mt := ⟨m.id, m.rid, m.ms, putAll m.its xs, m.lv, m.tx, m.rd, m.se, m.li, m.he, m.la⟩
def Mv.setI (u : Mv) (s : Sv) : Mv := ⟨u.ms, s, u.lv, u.tx, u.ws⟩
/-- all but the box g and the row that the items lie in stays. -/
structure TakeK (w : World) (g : Nat) (v u : Value) (w' : World) : Prop where
  os : w'.os = w.os
  tape : w'.tape = w.tape
  output : w'.output = w.output
  size : w.heap.size ≤ w'.heap.size
  block : ∀ k, k < w.heap.size → k ≠ g → v.ownBlock ≠ some k → w'.heap[k]? = w.heap[k]?
  o : u.ownBlock = v.ownBlock ∨ ∃ nb, u.ownBlock = some nb ∧ w.heap.size ≤ nb

end Go.Proofs.YtmbjflhhffcjdaaDoor


/- A member takes items in: what it leaves, whatever its other lists are. -/
namespace Go.Proofs.YtmbjflhhffcjdaaDoor
open Go.RowKit Pl
set_option linter.unusedVariables false
set_option linter.unusedSimpArgs false
end Go.Proofs.YtmbjflhhffcjdaaDoor


/- Slices of ints and texts, wherever in their block they begin; cut in front in a walk. -/
namespace Go.Proofs.YtmbjflhhffcjdaaDoor
open Go.RowKit Pl
set_option linter.unusedVariables false

def SlJ (w : World) (B : Nat) (v : Value) (xs : List Int) : Prop := Sl w 3 1 B v xs.length (xs.map (Value.int .i64))
def SlX (w : World) (B : Nat) (v : Value) (xs : List ByteArray) : Prop := Sl w 9 1 B v xs.length (xs.map Value.string)
section
variable {w w' : World} {B : Nat} {v : Value}
theorem Pl.OwnS.x {xs : List ByteArray} (h : OwnS w B v xs) : SlX w B v xs := by
  have := Sl.ofOwn (w := w) (e := 9) (size := 1) (B := B) (v := v) (n := xs.length) (xs := xs.map Value.string) h
  exact this
theorem SlJ.ri {xs : List Int} (h : SlJ w B v xs) : RI w v xs := by
  obtain ⟨ao, cap, e⟩ := Sl.form h
  refine ⟨ao, cap, e, fun i hi => ?_⟩
  obtain ⟨g, off, cap', hv, hb, hlt, hc, _⟩ := Sl.read h (by omega)
  rw [e] at hv
  simp at hv
  exact ⟨g, off, hv.1, hlt, hc i _ (by simp [hi])⟩
theorem SlJ.below {xs : List Int} (h : SlJ w B v xs) (hb : Below w.heap.size w w') : SlJ w' B v xs := Sl.below h hb
theorem SlX.below {xs : List ByteArray} (h : SlX w B v xs) (hb : Below w.heap.size w w') : SlX w' B v xs := Sl.below h hb
end
section
variable {P : Program} {w : World} {ops : Array Oper} {rest : List Oper} {o : Oper} {a : Act} {Q : Exit → Act → World → Prop}
/-- a walk stops at a store. -/
theorem wpList_haltS (t : TypeId) (x y : Operand) (ho : o.op = .store t x y) (h : Stp (wpList P ops Q (o :: rest) a w)) : wpList P ops Q (o :: rest) a w := h.out
end
end Go.Proofs.YtmbjflhhffcjdaaDoor


/- Slices of items read as they are told of in bundles; what stage 13's texts lean on, over the texts of members. -/
namespace Go.Proofs.YtmbjflhhffcjdaaDoor
open Go.RowKit Pl
set_option linter.unusedVariables false

/-- a slice of items that is read. -/
def RSt (w : World) (s : Sv) (ts : List It) : Prop := s.n = ts.length ∧ ItemsAt w s.a ts
theorem RSt.stays {w w' : World} {s : Sv} {ts : List It} (h : RSt w s ts) (hb : Below w.heap.size w w') : RSt w' s ts := ⟨h.1, h.2.stays hb⟩
theorem RSt.r {w : World} {s : Sv} {ts : List It} (h : RSt w s ts) : RIt w s.v ts := ⟨s.a, s.c, by unfold Sv.v; rw [h.1], h.2⟩
end Go.Proofs.YtmbjflhhffcjdaaDoor


/- A member catches an item: the walks over both Catch. Written by gen_ct.py. -/
namespace Go.Proofs.YtmbjflhhffcjdaaDoor
open Go.RowKit Pl
set_option linter.unusedVariables false
set_option linter.unusedSimpArgs false
/-- the member behind it. -/
def Mt.setIt (m : Mt) (ts : List It) : Mt := ⟨m.id, m.rid, m.ms, ts, m.lv, m.tx, m.rd, m.se, m.li, m.he, m.la⟩
def Mt.cat (m : Mt) (y : It) : Mt := m.setIt (if m.ok = true then putP m.its y else m.its)
end Go.Proofs.YtmbjflhhffcjdaaDoor


/- Bundles: when one is right; both BundleOk. Written by gen_bb.py. -/
namespace Go.Proofs.YtmbjflhhffcjdaaDoor
open Go.RowKit Pl
set_option linter.unusedVariables false

/-- whether a bundle is right. -/
def bunB (f n o : Int) (ts : List It) : Bool := decide (1 ≤ f ∧ f ≤ 5) && (decide (1 ≤ n ∧ n ≤ 9) && (decide (0 ≤ o ∧ o ≤ n - 1) && (iGo 0 ts && (decide (0 < o) || decide (ts.length = 0)))))
end Go.Proofs.YtmbjflhhffcjdaaDoor


/- Bundles that a law sizes, copies, compares, writes over and looks at again. Written by gen_hb.py. -/
namespace Go.Proofs.YtmbjflhhffcjdaaDoor
open Go.RowKit Pl
set_option linter.unusedVariables false
end Go.Proofs.YtmbjflhhffcjdaaDoor


/- Both BundleOk, told of a bundle whose list is read. -/
namespace Go.Proofs.YtmbjflhhffcjdaaDoor
open Go.RowKit Pl
set_option linter.unusedVariables false
end Go.Proofs.YtmbjflhhffcjdaaDoor


