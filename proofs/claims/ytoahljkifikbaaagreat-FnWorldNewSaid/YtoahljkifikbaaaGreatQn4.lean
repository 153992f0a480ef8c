/- Joined texts: CT1 CT3 CIt CJ1. -/
import Derived.Test.YtoahljkifikbaaaGreatQn2
import Derived.Test.YtoahljkifikbaaaGreatQn3
import Derived.Test.YtoahljkifikbaaaGreatQn1
import Derived.Deep.RegionHeld3
import Derived.Deep.QuietTactic
import Derived.Laws.MakeOwn
import Derived.Below
/- The walks over both TokenOk. -/
namespace Go.Proofs.YtoahljkifikbaaaGreat
open Go.RowKit Pl
set_option linter.unusedVariables false

theorem below_drewK {B : Nat} {a w : World} (h : Below B a w) (n : Nat) : Below B a (w.drewN n) := h.trans ⟨rfl, rfl, rfl, Nat.le_refl _, fun _ _ => rfl⟩

/-- the block g is a token. -/
def TokAt (w : World) (g : Nat) (c r q a b : Int) (v : Value) : Prop := w.heap[g]? = some (.cells #[.int .i64 c, .int .i64 r, .int .i64 q, .int .i64 a, .int .i64 b, v] 49 (0, 0))
theorem TokAt.cells {w : World} {g : Nat} {c r q a b : Int} {v : Value} (h : TokAt w g c r q a b v) : w.cell? ⟨g, 0, none⟩ = some (.int .i64 c) ∧ w.cell? ⟨g, 1, none⟩ = some (.int .i64 r) ∧ w.cell? ⟨g, 2, none⟩ = some (.int .i64 q) ∧ w.cell? ⟨g, 3, none⟩ = some (.int .i64 a) ∧ w.cell? ⟨g, 4, none⟩ = some (.int .i64 b) ∧ w.cell? ⟨g, 5, none⟩ = some v :=
  ⟨by rw [cell_of_row w g 0 _ 49 (0, 0) h]; rfl, by rw [cell_of_row w g 1 _ 49 (0, 0) h]; rfl, by rw [cell_of_row w g 2 _ 49 (0, 0) h]; rfl, by rw [cell_of_row w g 3 _ 49 (0, 0) h]; rfl, by rw [cell_of_row w g 4 _ 49 (0, 0) h]; rfl, by rw [cell_of_row w g 5 _ 49 (0, 0) h]; rfl⟩
theorem TokAt.stays {w w' : World} {B g : Nat} {c r q a b : Int} {v : Value} (h : TokAt w g c r q a b v) (hb : Below B w w') (hg : g < B) : TokAt w' g c r q a b v := (hb.block g hg).trans h
theorem TokAt.lt {w : World} {g : Nat} {c r q a b : Int} {v : Value} (h : TokAt w g c r q a b v) : g < w.heap.size := (Array.getElem?_eq_some_iff.1 h).1
theorem TokAt.frozen {w : World} {g : Nat} {c r q a b : Int} {v : Value} (h : TokAt w g c r q a b v) (i : Nat) : w.frozen? ⟨g, i, none⟩ = false := frozen_of_row w g i _ 49 h

end Go.Proofs.YtoahljkifikbaaaGreat


/- The walks over lists of ints and tokens that a law copies, sizes and compares. -/
namespace Go.Proofs.YtoahljkifikbaaaGreat
open Go.RowKit Pl
set_option linter.unusedVariables false

theorem Tryz.info3' : (Tryz.prog.info? 3).map (fun i => (i.zero, i.size, i.bytes)) = some (some (.int .i64 0), 1, 8) := by kernel_rfl

theorem TokAt.set5 {w : World} {g : Nat} {c r q a b : Int} {v : Value} (h : TokAt w g c r q a b v) (u : Value) : TokAt (w.setCell ⟨g, 5, none⟩ u) g c r q a b u := by
  have := heap_setCell_same w g 5 _ 49 u h
  unfold TokAt; rw [this]; rfl
theorem TokAt.turn {w w' : World} {g k : Nat} {c r q a b : Int} {v : Value} (h : TokAt w g c r q a b v) (hk : TurnAt k w w') (hg : g ≠ k) : TokAt w' g c r q a b v := (hk.block g hg).trans h
theorem TokAt.agg {w : World} {g : Nat} {c r q a b : Int} {v : Value} (h : TokAt w g c r q a b v) (c' r' q' a' b' : Int) (v' : Value) :
    TokAt ((((((w.setCell ⟨g, 0, none⟩ (.int .i64 c')).setCell ⟨g, 1, none⟩ (.int .i64 r')).setCell ⟨g, 2, none⟩ (.int .i64 q')).setCell ⟨g, 3, none⟩ (.int .i64 a')).setCell ⟨g, 4, none⟩ (.int .i64 b')).setCell ⟨g, 5, none⟩ v') g c' r' q' a' b' v' := by
  have h0 := heap_setCell_same w g 0 _ 49 (.int .i64 c') h
  have h1 := heap_setCell_same _ g 1 _ 49 (.int .i64 r') h0
  have h2 := heap_setCell_same _ g 2 _ 49 (.int .i64 q') h1
  have h3 := heap_setCell_same _ g 3 _ 49 (.int .i64 a') h2
  have h4 := heap_setCell_same _ g 4 _ 49 (.int .i64 b') h3
  have h5 := heap_setCell_same _ g 5 _ 49 v' h4
  unfold TokAt; rw [h5]; rfl
/-- a list's block is no token's. -/
theorem own_tok {w w' : World} {B g : Nat} {v : Value} {xs : List Int} {c r q a b : Int} {u : Value} (h : OwnI w B v xs) (hu : TokAt w g c r q a b u) (ht : TurnAt g w w') : OwnI w' B v xs := by
  refine ⟨h.1, ?_⟩
  rcases h.2 with hn | ⟨k, cap, cur, rfl, hbg, hk, rest⟩
  · exact .inl hn
  · have hne : k ≠ g := by
      rintro rfl
      unfold TokAt at hu
      rw [hk] at hu
      simp at hu
    exact .inr ⟨k, cap, cur, rfl, hbg, (ht.block k hne).trans hk, rest⟩

end Go.Proofs.YtoahljkifikbaaaGreat


/- Items: when one is right, copied, measured, compared. -/
namespace Go.Proofs.YtoahljkifikbaaaGreat.Pl
/-- when an item is right. -/
def ItOk (q f l : Int) (t : ByteArray) : Prop := (1 ≤ q ∧ q ≤ 60) ∧ (1 ≤ f ∧ f ≤ 5) ∧ (1 ≤ l ∧ l ≤ 2) ∧ t.size ≤ 60
end Go.Proofs.YtoahljkifikbaaaGreat.Pl
namespace Go.Proofs.YtoahljkifikbaaaGreat
open Go.RowKit Pl
set_option linter.unusedVariables false

/-- whether an item is right. -/
def itB (q f l : Int) (t : ByteArray) : Bool := decide (1 ≤ q ∧ q ≤ 60) && (decide (1 ≤ f ∧ f ≤ 5) && (decide (1 ≤ l ∧ l ≤ 2) && decide ((t.size : Int) ≤ 60)))
/-- the block g is an item. -/
def ItAt (w : World) (g : Nat) (q f l : Int) (t : ByteArray) : Prop := w.heap[g]? = some (.cells #[.int .i64 q, .int .i64 f, .int .i64 l, .string t] 39 (0, 0))
theorem ItAt.cells {w : World} {g : Nat} {q f l : Int} {t : ByteArray} (h : ItAt w g q f l t) : w.cell? ⟨g, 0, none⟩ = some (.int .i64 q) ∧ w.cell? ⟨g, 1, none⟩ = some (.int .i64 f) ∧ w.cell? ⟨g, 2, none⟩ = some (.int .i64 l) ∧ w.cell? ⟨g, 3, none⟩ = some (.string t) :=
  ⟨by rw [cell_of_row w g 0 _ 39 (0, 0) h]; rfl, by rw [cell_of_row w g 1 _ 39 (0, 0) h]; rfl, by rw [cell_of_row w g 2 _ 39 (0, 0) h]; rfl, by rw [cell_of_row w g 3 _ 39 (0, 0) h]; rfl⟩
theorem ItAt.stays {w w' : World} {B g : Nat} {q f l : Int} {t : ByteArray} (h : ItAt w g q f l t) (hb : Below B w w') (hg : g < B) : ItAt w' g q f l t := (hb.block g hg).trans h
theorem ItAt.lt {w : World} {g : Nat} {q f l : Int} {t : ByteArray} (h : ItAt w g q f l t) : g < w.heap.size := (Array.getElem?_eq_some_iff.1 h).1

end Go.Proofs.YtoahljkifikbaaaGreat


/- Lists of items: what lies where; the walk over the program's ItemsOk. -/
namespace Go.Proofs.YtoahljkifikbaaaGreat
open Go.RowKit Pl
set_option linter.unusedVariables false

/-- an item, plain. -/
abbrev It := Int × Int × Int × ByteArray
/-- the items' cells of a slice. -/
def ItemsAt (w : World) (ao : Option Addr) (ts : List It) : Prop :=
  ∀ i (h : i < ts.length), ∃ b off, ao = some ⟨b, off, none⟩ ∧ b < w.heap.size ∧ w.cell? ⟨b, off + i * 4, none⟩ = some (.int .i64 ts[i].1) ∧ w.cell? ⟨b, off + i * 4 + 1, none⟩ = some (.int .i64 ts[i].2.1) ∧ w.cell? ⟨b, off + i * 4 + 2, none⟩ = some (.int .i64 ts[i].2.2.1) ∧ w.cell? ⟨b, off + i * 4 + 3, none⟩ = some (.string ts[i].2.2.2)
theorem ItemsAt.stays {w w' : World} {ao : Option Addr} {ts : List It} (h : ItemsAt w ao ts) (hb : Below w.heap.size w w') : ItemsAt w' ao ts := by
  intro i hi
  obtain ⟨b, off, h1, h2, h3, h4, h5, h6⟩ := h i hi
  exact ⟨b, off, h1, Nat.lt_of_lt_of_le h2 hb.size, (hb.cell (p := ⟨b, off + i * 4, none⟩) h2).trans h3, (hb.cell (p := ⟨b, off + i * 4 + 1, none⟩) h2).trans h4, (hb.cell (p := ⟨b, off + i * 4 + 2, none⟩) h2).trans h5, (hb.cell (p := ⟨b, off + i * 4 + 3, none⟩) h2).trans h6⟩

/-- whether items ascend from behind 'last', each right. -/
def iGo (last : Int) : List It → Bool
  | [] => true
  | x :: xs => if itB x.1 x.2.1 x.2.2.1 x.2.2.2 = false ∨ x.1 ≤ last then false else iGo x.1 xs
/-- the state of a loop over items. -/
def ISt (ts : List It) (k : Nat) (L : Int) : Prop := iGo L (ts.drop k) = iGo 0 ts ∧ 0 ≤ L ∧ (k = 0 → L = 0) ∧ ∀ j (h : j < ts.length), k = j + 1 → L = ts[j].1
end Go.Proofs.YtoahljkifikbaaaGreat


