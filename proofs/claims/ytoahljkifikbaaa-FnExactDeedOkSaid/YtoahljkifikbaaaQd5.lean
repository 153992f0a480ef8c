/- Joined texts: CC4 CLb CJ2 CJ3 CJ4 CT2 CRg CRs CRh CRn. -/
import Derived.Test.YtoahljkifikbaaaQd4
import Derived.Deep.RegionHeld3
import Derived.Deep.QuietTactic
import Derived.BigQuiet
import Derived.Deep.RegionWith
import Derived.Laws.MakeOwn
/- Slices of ints compared, written over and looked at again. -/
namespace Go.Proofs.Ytoahljkifikbaaa
open Go.RowKit Pl
set_option linter.unusedVariables false

/-- what markIntS writes. -/
def marks (K n : Nat) : List Int := (List.range n).map fun (j : Nat) => ((K + j : Nat) : Int)
theorem Pl.OwnI.keep {w w' : World} {B : Nat} {v : Value} {ss : List Int} (h : OwnI w B v ss) (hk : ∀ k, v.ownBlock = Option.some k → k < w.heap.size → w'.heap[k]? = w.heap[k]?) : OwnI w' B v ss := by
  refine ⟨h.1, ?_⟩
  rcases h.2 with hn | ⟨g, cap, cur, rfl, hbg, hg, rest⟩
  · exact .inl hn
  · exact .inr ⟨g, cap, cur, rfl, hbg, (hk g rfl (Array.getElem?_eq_some_iff.1 hg).1).trans hg, rest⟩
end Go.Proofs.Ytoahljkifikbaaa


/- Small things that the laws lean on. -/
namespace Go.Proofs.Ytoahljkifikbaaa
open Go.RowKit Pl
set_option linter.unusedVariables false
theorem bl_next {a b c : World} (h : Below a.heap.size a b) (k : Below b.heap.size b c) : Below a.heap.size a c := h.trans (k.mono h.size)
end Go.Proofs.Ytoahljkifikbaaa


/- The walk over the specification's ItemsOk. -/
namespace Go.Proofs.Ytoahljkifikbaaa
open Go.RowKit Pl
set_option linter.unusedVariables false

end Go.Proofs.Ytoahljkifikbaaa


/- The walks over lists of items that a law copies, sizes and compares. -/
namespace Go.Proofs.Ytoahljkifikbaaa
open Go.RowKit Pl
set_option linter.unusedVariables false
/-- the first k items of a row. -/
def RowIt (w : World) (g n : Nat) (ts : List It) (k : Nat) : Prop :=
  ∃ arr : Array Value, w.heap[g]? = some (.cells arr 83 (0, 0)) ∧ arr.size = n * 4 ∧ ∀ i (h : i < ts.length), i < k → arr[i * 4]? = some (.int .i64 ts[i].1) ∧ arr[i * 4 + 1]? = some (.int .i64 ts[i].2.1) ∧ arr[i * 4 + 2]? = some (.int .i64 ts[i].2.2.1) ∧ arr[i * 4 + 3]? = some (.string ts[i].2.2.2)
theorem RowIt.stays {w w' : World} {B g n k : Nat} {ts : List It} (h : RowIt w g n ts k) (hb : Below B w w') (hg : g < B) : RowIt w' g n ts k := by
  obtain ⟨arr, h1, h2⟩ := h
  exact ⟨arr, (hb.block g hg).trans h1, h2⟩
theorem RowIt.lt {w : World} {g n k : Nat} {ts : List It} (h : RowIt w g n ts k) : g < w.heap.size := by
  obtain ⟨arr, h1, _⟩ := h
  exact (Array.getElem?_eq_some_iff.1 h1).1
theorem RowIt.cell {w : World} {g n k : Nat} {ts : List It} (h : RowIt w g n ts k) (i : Nat) (hi : i < n * 4) : ∃ v, w.cell? ⟨g, i, none⟩ = some v := by
  obtain ⟨arr, h1, h2, _⟩ := h
  refine ⟨arr[i]'(by omega), ?_⟩
  rw [cell_of_row w g i _ 83 (0, 0) h1]
  simp [h2, hi]
theorem RowIt.items {w : World} {g n : Nat} {ts : List It} (h : RowIt w g n ts ts.length) : ItemsAt w (some ⟨g, 0, none⟩) ts := by
  have hlt := h.lt
  obtain ⟨arr, h1, h2, h3⟩ := h
  intro i hi
  obtain ⟨x0, x1, x2, x3⟩ := h3 i hi hi
  refine ⟨g, 0, rfl, hlt, ?_, ?_, ?_, ?_⟩
  · rw [Nat.zero_add, cell_of_row w g _ _ 83 (0, 0) h1]; exact x0
  · rw [Nat.zero_add, cell_of_row w g _ _ 83 (0, 0) h1]; exact x1
  · rw [Nat.zero_add, cell_of_row w g _ _ 83 (0, 0) h1]; exact x2
  · rw [Nat.zero_add, cell_of_row w g _ _ 83 (0, 0) h1]; exact x3
end Go.Proofs.Ytoahljkifikbaaa


/- Lists of items copied and compared. -/
namespace Go.Proofs.Ytoahljkifikbaaa
open Go.RowKit Pl
set_option linter.unusedVariables false
end Go.Proofs.Ytoahljkifikbaaa


/- The walk over the specification's TokenOk. -/
namespace Go.Proofs.Ytoahljkifikbaaa
open Go.RowKit Pl
set_option linter.unusedVariables false
end Go.Proofs.Ytoahljkifikbaaa


/- Rings in plain words, and the walks over both RingOk. -/
namespace Go.Proofs.Ytoahljkifikbaaa
open Go.RowKit Pl
set_option linter.unusedVariables false

/-- a ring is right. -/
def ringB (i : Int) (ms : List Int) : Bool := decide (1 ≤ i ∧ i ≤ 9) && (decide (0 < ms.length) && wGo 0 5 ms)

/-- the block g is a ring. -/
def RgAt (w : World) (g : Nat) (i : Int) (v : Value) : Prop := w.heap[g]? = some (.cells #[.int .i64 i, v] 51 (0, 0))
theorem RgAt.cells {w : World} {g : Nat} {i : Int} {v : Value} (h : RgAt w g i v) : w.cell? ⟨g, 0, none⟩ = some (.int .i64 i) ∧ w.cell? ⟨g, 1, none⟩ = some v :=
  ⟨by rw [cell_of_row w g 0 _ 51 (0, 0) h]; rfl, by rw [cell_of_row w g 1 _ 51 (0, 0) h]; rfl⟩
theorem RgAt.stays {w w' : World} {B g : Nat} {i : Int} {v : Value} (h : RgAt w g i v) (hb : Below B w w') (hg : g < B) : RgAt w' g i v := (hb.block g hg).trans h
theorem RgAt.lt {w : World} {g : Nat} {i : Int} {v : Value} (h : RgAt w g i v) : g < w.heap.size := (Array.getElem?_eq_some_iff.1 h).1
end Go.Proofs.Ytoahljkifikbaaa


/- Rings that a law sizes, copies, compares and writes over. -/
namespace Go.Proofs.Ytoahljkifikbaaa
open Go.RowKit Pl
set_option linter.unusedVariables false

theorem RgAt.agg {w : World} {g : Nat} {i : Int} {v : Value} (h : RgAt w g i v) (i' : Int) (v' : Value) :
    RgAt ((w.setCell ⟨g, 0, none⟩ (.int .i64 i')).setCell ⟨g, 1, none⟩ v') g i' v' := by
  have h0 := heap_setCell_same w g 0 _ 51 (.int .i64 i') h
  have h1 := heap_setCell_same _ g 1 _ 51 v' h0
  unfold RgAt; rw [h1]; rfl
/-- the block g is a ring that was handed in. -/
def LrgAt (w : World) (g : Nat) (i : Int) (v : Value) : Prop := w.heap[g]? = some (.cells #[.int .i64 i, v] 49 (0, 0))
theorem LrgAt.cells {w : World} {g : Nat} {i : Int} {v : Value} (h : LrgAt w g i v) : w.cell? ⟨g, 0, none⟩ = some (.int .i64 i) ∧ w.cell? ⟨g, 1, none⟩ = some v :=
  ⟨by rw [cell_of_row w g 0 _ 49 (0, 0) h]; rfl, by rw [cell_of_row w g 1 _ 49 (0, 0) h]; rfl⟩
theorem LrgAt.stays {w w' : World} {B g : Nat} {i : Int} {v : Value} (h : LrgAt w g i v) (hb : Below B w w') (hg : g < B) : LrgAt w' g i v := (hb.block g hg).trans h
theorem LrgAt.lt {w : World} {g : Nat} {i : Int} {v : Value} (h : LrgAt w g i v) : g < w.heap.size := (Array.getElem?_eq_some_iff.1 h).1
end Go.Proofs.Ytoahljkifikbaaa


/- The walk over the specification's RingOk. -/
namespace Go.Proofs.Ytoahljkifikbaaa
open Go.RowKit Pl
set_option linter.unusedVariables false

end Go.Proofs.Ytoahljkifikbaaa


/- The member behind another: slices.Index and both NextOf. -/
namespace Go.Proofs.Ytoahljkifikbaaa
open Go.RowKit Pl
set_option linter.unusedVariables false

/-- the first place of d is k. -/
def FirstAt (ms : List Int) (d : Int) (k : Nat) : Prop := ∃ h : k < ms.length, ms[k] = d ∧ ∀ j (hj : j < k), ms[j]'(by omega) ≠ d
/-- d has no place among the first k. -/
def NoneUpto (ms : List Int) (d : Int) (k : Nat) : Prop := ∀ j (hj : j < ms.length), j < k → ms[j] ≠ d
/-- the member behind d. -/
def nextP (i : Int) (ms : List Int) (d : Int) : Int :=
  if ringB i ms then (match ms.findIdx? (fun x => x == d) with | some k => ms.getD ((k + 1) % ms.length) 0 | none => 0) else 0
end Go.Proofs.Ytoahljkifikbaaa


