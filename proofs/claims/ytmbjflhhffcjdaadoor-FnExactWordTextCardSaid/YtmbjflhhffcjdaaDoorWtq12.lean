/- Joined texts: CC4 CLb CJ2 CJ3 CJ4 CT2 CRg CRs CRh CRn CSs0. -/
import Derived.Test.YtmbjflhhffcjdaaDoorWtq11
import Derived.Deep.RegionHeld3
import Derived.Deep.QuietTactic
import Derived.BigQuiet
import Derived.Deep.RegionWith
import Derived.Laws.MakeOwn
/- Slices of ints compared, written over and looked at again. -/
namespace Go.Proofs.YtmbjflhhffcjdaaDoor
open Go.RowKit Pl
set_option linter.unusedVariables false

/-- what markIntS writes. -/
def marks (K n : Nat) : List Int := (List.range n).map fun (j : Nat) => ((K + j : Nat) : Int)
theorem Pl.OwnI.keep {w w' : World} {B : Nat} {v : Value} {ss : List Int} (h : OwnI w B v ss) (hk : ∀ k, v.ownBlock = Option.some k → k < w.heap.size → w'.heap[k]? = w.heap[k]?) : OwnI w' B v ss := by
  refine ⟨h.1, ?_⟩
  rcases h.2 with hn | ⟨g, cap, cur, rfl, hbg, hg, rest⟩
  · exact .inl hn
  · exact .inr ⟨g, cap, cur, rfl, hbg, (hk g rfl (Array.getElem?_eq_some_iff.1 hg).1).trans hg, rest⟩
end Go.Proofs.YtmbjflhhffcjdaaDoor


/- Small things that the laws lean on. -/
namespace Go.Proofs.YtmbjflhhffcjdaaDoor
open Go.RowKit Pl
set_option linter.unusedVariables false
theorem bl_next {a b c : World} (h : Below a.heap.size a b) (k : Below b.heap.size b c) : Below a.heap.size a c := h.trans (k.mono h.size)
end Go.Proofs.YtmbjflhhffcjdaaDoor


/- The walk over the specification's ItemsOk. -/
namespace Go.Proofs.YtmbjflhhffcjdaaDoor
open Go.RowKit Pl
set_option linter.unusedVariables false

theorem quietC {P : Program} {C : World → Prop} {id : Nat} {Q : Exit → Act → World → Prop} {a : Act} {w : World} {l : List Oper} (hm : P.follows .mixedOrders = true) (hB : Region.lexB .any l.toArray = true) (hC : C { w with drawn := w.drawn + 1 })
    (h : wpQuiet P l.toArray C (fun a' => ∀ w', C w' → Q .normal a' w') l a) : (Code.region id l.toArray true).wp P Q a w :=
  wp_region_quiet (C := C) hm hB hC (by simpa using h)
theorem q_val {P : Program} {C : World → Prop} {o : Oper} {a : Act} {K : Act → Prop} (v : Value) (h : ∀ w, C w → (execOp a.eval o).run P w = .ok (.value v) w) (hk : K (a.put o.dst v)) : o.quiet P a C K :=
  ⟨v, fun w hw => by unfold Oper.quietAt; rw [h w hw]; exact ⟨rfl, rfl⟩, hk⟩
theorem q_call {P : Program} {C : World → Prop} {o : Oper} {a : Act} {K : Act → Prop} (v : Value) (f : FuncId) (args : Array Value) (h : ∀ w, C w → (execOp a.eval o).run P w = .ok (.enter f args) w) (hc : ∀ w, C w → Calls P f args w fun e w' => e = .returned v ∧ C w') (hk : K (a.put o.dst v)) : o.quiet P a C K :=
  ⟨v, fun w hw => by unfold Oper.quietAt; rw [h w hw]; exact ⟨rfl, hc w hw⟩, hk⟩

end Go.Proofs.YtmbjflhhffcjdaaDoor


/- The walks over lists of items that a law copies, sizes and compares. -/
namespace Go.Proofs.YtmbjflhhffcjdaaDoor
open Go.RowKit Pl
set_option linter.unusedVariables false
end Go.Proofs.YtmbjflhhffcjdaaDoor


/- Lists of items copied and compared. -/
namespace Go.Proofs.YtmbjflhhffcjdaaDoor
open Go.RowKit Pl
set_option linter.unusedVariables false
end Go.Proofs.YtmbjflhhffcjdaaDoor


/- The walk over the specification's TokenOk. -/
namespace Go.Proofs.YtmbjflhhffcjdaaDoor
open Go.RowKit Pl
set_option linter.unusedVariables false
end Go.Proofs.YtmbjflhhffcjdaaDoor


/- Rings in plain words, and the walks over both RingOk. -/
namespace Go.Proofs.YtmbjflhhffcjdaaDoor
open Go.RowKit Pl
set_option linter.unusedVariables false

/-- a ring is right. -/
def ringB (i : Int) (ms : List Int) : Bool := decide (1 ≤ i ∧ i ≤ 9) && (decide (0 < ms.length) && wGo 0 5 ms)

end Go.Proofs.YtmbjflhhffcjdaaDoor


/- Rings that a law sizes, copies, compares and writes over. -/
namespace Go.Proofs.YtmbjflhhffcjdaaDoor
open Go.RowKit Pl
set_option linter.unusedVariables false
end Go.Proofs.YtmbjflhhffcjdaaDoor


/- The walk over the specification's RingOk. -/
namespace Go.Proofs.YtmbjflhhffcjdaaDoor
open Go.RowKit Pl
set_option linter.unusedVariables false
end Go.Proofs.YtmbjflhhffcjdaaDoor


/- The member behind another: slices.Index and both NextOf. -/
namespace Go.Proofs.YtmbjflhhffcjdaaDoor
open Go.RowKit Pl
set_option linter.unusedVariables false

/-- the first place of d is k. -/
def FirstAt (ms : List Int) (d : Int) (k : Nat) : Prop := ∃ h : k < ms.length, ms[k] = d ∧ ∀ j (hj : j < k), ms[j]'(by omega) ≠ d
/-- d has no place among the first k. -/
def NoneUpto (ms : List Int) (d : Int) (k : Nat) : Prop := ∀ j (hj : j < ms.length), j < k → ms[j] ≠ d
/-- the member behind d. -/
def nextP (i : Int) (ms : List Int) (d : Int) : Int :=
  if ringB i ms then (match ms.findIdx? (fun x => x == d) with | some k => ms.getD ((k + 1) % ms.length) 0 | none => 0) else 0
end Go.Proofs.YtmbjflhhffcjdaaDoor


/- Of what was there the blocks of a set alone may have turned. -/
namespace Go.Proofs.YtmbjflhhffcjdaaDoor
open Go.RowKit Pl
set_option linter.unusedVariables false

/-- of what was there the blocks of S alone may have turned. -/
structure Gr (S : Nat → Prop) (w w' : World) : Prop where
  os : w'.os = w.os
  tape : w'.tape = w.tape
  output : w'.output = w.output
  size : w.heap.size ≤ w'.heap.size
  block : ∀ k, k < w.heap.size → ¬ S k → w'.heap[k]? = w.heap[k]?
theorem Gr.refl (S : Nat → Prop) (w : World) : Gr S w w := ⟨rfl, rfl, rfl, Nat.le_refl _, fun _ _ _ => rfl⟩
theorem Gr.trans {S : Nat → Prop} {a b c : World} (h : Gr S a b) (k : Gr S b c) : Gr S a c :=
  ⟨k.os.trans h.os, k.tape.trans h.tape, k.output.trans h.output, Nat.le_trans h.size k.size, fun i hi hs => (k.block i (Nat.lt_of_lt_of_le hi h.size) hs).trans (h.block i hi hs)⟩
theorem Gr.below {S : Nat → Prop} {a b : World} {B : Nat} (h : Gr S a b) (hs : ∀ k, S k → B ≤ k) (hB : B ≤ a.heap.size) : Below B a b := ⟨h.os, h.tape, h.output, h.size, fun k hk => h.block k (by omega) (fun h1 => by have := hs k h1; omega)⟩
end Go.Proofs.YtmbjflhhffcjdaaDoor


