/- Joined texts: CIt CJ1 CT1 CT3. -/
import Derived.Test.YtbecahikjekccaaDn1
import Derived.Below
import Derived.Deep.RegionHeld3
import Derived.Deep.QuietTactic
import Derived.Test.YtbecahikjekccaaDn2
import Derived.Test.YtbecahikjekccaaDn3
import Derived.Laws.MakeOwn
/- Items: when one is right, copied, measured, compared. -/
namespace Go.Proofs.Ytbecahikjekccaa.Pl
/-- when an item is right. -/
def ItOk (q f l : Int) (t : ByteArray) : Prop := (1 ≤ q ∧ q ≤ 60) ∧ (1 ≤ f ∧ f ≤ 5) ∧ (1 ≤ l ∧ l ≤ 2) ∧ t.size ≤ 60
end Go.Proofs.Ytbecahikjekccaa.Pl
namespace Go.Proofs.Ytbecahikjekccaa
open Go.RowKit Pl
set_option linter.unusedVariables false

/-- whether an item is right. -/
def itB (q f l : Int) (t : ByteArray) : Bool := decide (1 ≤ q ∧ q ≤ 60) && (decide (1 ≤ f ∧ f ≤ 5) && (decide (1 ≤ l ∧ l ≤ 2) && decide ((t.size : Int) ≤ 60)))
/-- the block g is an item that was handed in. -/
def LitAt (w : World) (g : Nat) (q f l : Int) (t : ByteArray) : Prop := w.heap[g]? = some (.cells #[.int .i64 q, .int .i64 f, .int .i64 l, .string t] 100 (0, 0))
theorem LitAt.cells {w : World} {g : Nat} {q f l : Int} {t : ByteArray} (h : LitAt w g q f l t) : w.cell? ⟨g, 0, none⟩ = some (.int .i64 q) ∧ w.cell? ⟨g, 1, none⟩ = some (.int .i64 f) ∧ w.cell? ⟨g, 2, none⟩ = some (.int .i64 l) ∧ w.cell? ⟨g, 3, none⟩ = some (.string t) :=
  ⟨by rw [cell_of_row w g 0 _ 100 (0, 0) h]; rfl, by rw [cell_of_row w g 1 _ 100 (0, 0) h]; rfl, by rw [cell_of_row w g 2 _ 100 (0, 0) h]; rfl, by rw [cell_of_row w g 3 _ 100 (0, 0) h]; rfl⟩
theorem LitAt.stays {w w' : World} {B g : Nat} {q f l : Int} {t : ByteArray} (h : LitAt w g q f l t) (hb : Below B w w') (hg : g < B) : LitAt w' g q f l t := (hb.block g hg).trans h


/-- the block g is an item. -/
def ItAt (w : World) (g : Nat) (q f l : Int) (t : ByteArray) : Prop := w.heap[g]? = some (.cells #[.int .i64 q, .int .i64 f, .int .i64 l, .string t] 86 (0, 0))
theorem ItAt.cells {w : World} {g : Nat} {q f l : Int} {t : ByteArray} (h : ItAt w g q f l t) : w.cell? ⟨g, 0, none⟩ = some (.int .i64 q) ∧ w.cell? ⟨g, 1, none⟩ = some (.int .i64 f) ∧ w.cell? ⟨g, 2, none⟩ = some (.int .i64 l) ∧ w.cell? ⟨g, 3, none⟩ = some (.string t) :=
  ⟨by rw [cell_of_row w g 0 _ 86 (0, 0) h]; rfl, by rw [cell_of_row w g 1 _ 86 (0, 0) h]; rfl, by rw [cell_of_row w g 2 _ 86 (0, 0) h]; rfl, by rw [cell_of_row w g 3 _ 86 (0, 0) h]; rfl⟩
theorem ItAt.stays {w w' : World} {B g : Nat} {q f l : Int} {t : ByteArray} (h : ItAt w g q f l t) (hb : Below B w w') (hg : g < B) : ItAt w' g q f l t := (hb.block g hg).trans h
theorem ItAt.lt {w : World} {g : Nat} {q f l : Int} {t : ByteArray} (h : ItAt w g q f l t) : g < w.heap.size := (Array.getElem?_eq_some_iff.1 h).1

set_option maxRecDepth 100000 in
set_option maxHeartbeats 1000000 in
theorem eqItem_same (q f l : Int) (t : ByteArray) (w : World) :
    Calls Try.prog 93 #[.agg #[.int .i64 q, .int .i64 f, .int .i64 l, .string t], .agg #[.int .i64 q, .int .i64 f, .int .i64 l, .string t]] w fun e w' => e = .returned (.bool true) ∧ Below w.heap.size w w' := by
  go_enter Try.func93, Try.ntmps93
  go_wp2
  go_ret
  exact ⟨rfl, ((Below.refl _ _).alloc (Nat.le_refl _) _).alloc (by simp) _⟩
end Go.Proofs.Ytbecahikjekccaa


/- Lists of items: what lies where; the walk over the program's ItemsOk. -/
namespace Go.Proofs.Ytbecahikjekccaa
open Go.RowKit Pl
set_option linter.unusedVariables false

/-- an item, plain. -/
abbrev It := Int × Int × Int × ByteArray
/-- the items' cells of a slice. -/
def ItemsAt (w : World) (ao : Option Addr) (ts : List It) : Prop :=
  ∀ i (h : i < ts.length), ∃ b off, ao = some ⟨b, off, none⟩ ∧ b < w.heap.size ∧ w.cell? ⟨b, off + i * 4, none⟩ = some (.int .i64 ts[i].1) ∧ w.cell? ⟨b, off + i * 4 + 1, none⟩ = some (.int .i64 ts[i].2.1) ∧ w.cell? ⟨b, off + i * 4 + 2, none⟩ = some (.int .i64 ts[i].2.2.1) ∧ w.cell? ⟨b, off + i * 4 + 3, none⟩ = some (.string ts[i].2.2.2)
theorem ItemsAt.stays {w w' : World} {ao : Option Addr} {ts : List It} (h : ItemsAt w ao ts) (hb : Below w.heap.size w w') : ItemsAt w' ao ts := by
  intro i hi
  obtain ⟨b, off, h1, h2, h3, h4, h5, h6⟩ := h i hi
  exact ⟨b, off, h1, Nat.lt_of_lt_of_le h2 hb.size, (hb.cell (p := ⟨b, off + i * 4, none⟩) h2).trans h3, (hb.cell (p := ⟨b, off + i * 4 + 1, none⟩) h2).trans h4, (hb.cell (p := ⟨b, off + i * 4 + 2, none⟩) h2).trans h5, (hb.cell (p := ⟨b, off + i * 4 + 3, none⟩) h2).trans h6⟩

/-- whether items ascend from behind 'last', each right. -/
def iGo (last : Int) : List It → Bool
  | [] => true
  | x :: xs => if itB x.1 x.2.1 x.2.2.1 x.2.2.2 = false ∨ x.1 ≤ last then false else iGo x.1 xs
/-- the state of a loop over items. -/
def ISt (ts : List It) (k : Nat) (L : Int) : Prop := iGo L (ts.drop k) = iGo 0 ts ∧ 0 ≤ L ∧ (k = 0 → L = 0) ∧ ∀ j (h : j < ts.length), k = j + 1 → L = ts[j].1
end Go.Proofs.Ytbecahikjekccaa


/- The walks over both TokenOk. -/
namespace Go.Proofs.Ytbecahikjekccaa
open Go.RowKit Pl
set_option linter.unusedVariables false

theorem below_drewK {B : Nat} {a w : World} (h : Below B a w) (n : Nat) : Below B a (w.drewN n) := h.trans ⟨rfl, rfl, rfl, Nat.le_refl _, fun _ _ => rfl⟩

/-- the block g is a token. -/
def TokAt (w : World) (g : Nat) (c r q a b : Int) (v : Value) : Prop := w.heap[g]? = some (.cells #[.int .i64 c, .int .i64 r, .int .i64 q, .int .i64 a, .int .i64 b, v] 28 (0, 0))
theorem TokAt.cells {w : World} {g : Nat} {c r q a b : Int} {v : Value} (h : TokAt w g c r q a b v) : w.cell? ⟨g, 0, none⟩ = some (.int .i64 c) ∧ w.cell? ⟨g, 1, none⟩ = some (.int .i64 r) ∧ w.cell? ⟨g, 2, none⟩ = some (.int .i64 q) ∧ w.cell? ⟨g, 3, none⟩ = some (.int .i64 a) ∧ w.cell? ⟨g, 4, none⟩ = some (.int .i64 b) ∧ w.cell? ⟨g, 5, none⟩ = some v :=
  ⟨by rw [cell_of_row w g 0 _ 28 (0, 0) h]; rfl, by rw [cell_of_row w g 1 _ 28 (0, 0) h]; rfl, by rw [cell_of_row w g 2 _ 28 (0, 0) h]; rfl, by rw [cell_of_row w g 3 _ 28 (0, 0) h]; rfl, by rw [cell_of_row w g 4 _ 28 (0, 0) h]; rfl, by rw [cell_of_row w g 5 _ 28 (0, 0) h]; rfl⟩
theorem TokAt.stays {w w' : World} {B g : Nat} {c r q a b : Int} {v : Value} (h : TokAt w g c r q a b v) (hb : Below B w w') (hg : g < B) : TokAt w' g c r q a b v := (hb.block g hg).trans h
theorem TokAt.lt {w : World} {g : Nat} {c r q a b : Int} {v : Value} (h : TokAt w g c r q a b v) : g < w.heap.size := (Array.getElem?_eq_some_iff.1 h).1
theorem TokAt.frozen {w : World} {g : Nat} {c r q a b : Int} {v : Value} (h : TokAt w g c r q a b v) (i : Nat) : w.frozen? ⟨g, i, none⟩ = false := frozen_of_row w g i _ 28 h

end Go.Proofs.Ytbecahikjekccaa


/- The walks over lists of ints and tokens that a law copies, sizes and compares. -/
namespace Go.Proofs.Ytbecahikjekccaa
open Go.RowKit Pl
set_option linter.unusedVariables false

set_option maxRecDepth 100000 in
set_option maxHeartbeats 1000000 in
theorem eqI_same (v1 v2 : Value) (ss : List Int) (B1 B2 : Nat) (w : World) (h1 : OwnI w B1 v1 ss) (h2 : OwnI w B2 v2 ss) (hl : ss.length ≤ 1048576) :
    Calls Try.prog 52 #[v1, v2] w fun e w' => e = .returned (.bool true) ∧ Below w.heap.size w w' := by
  by_cases h0 : ss.length = 0
  · obtain ⟨ao1, cap1, rfl⟩ := h1.form
    obtain ⟨ao2, cap2, rfl⟩ := h2.form
    rw [h0]
    clear h1 h2
    go_enter Try.func52, Try.ntmps52
    go_wp2
    refine wp_loop_rounds 1 ?_
    rw [rounds_succ]
    go_wp2
    go_ret
    exact ⟨rfl, Below.refl _ _⟩
  · obtain ⟨g1, cap1, rfl, _, hg1, hc1, _⟩ := h1.some (by omega)
    obtain ⟨g2, cap2, rfl, _, hg2, hc2, _⟩ := h2.some (by omega)
    clear h1 h2
    go_enter Try.func52, Try.ntmps52
    go_wp2
    go_loopw [5] (fun i wr => ∃ k : Nat, k ≤ ss.length ∧ i = .int .i64 k ∧ Below w.heap.size w wr) (fun i _ => ss.length - (intOf i).toNat)
    case atStart => exact ⟨0, by omega, rfl, Below.refl _ _⟩
    case round =>
      obtain ⟨k, hk, rfl, hb⟩ := hrel
      by_cases hlt : k < ss.length
      · have hce1 : wr.cell? ⟨g1, k, none⟩ = some (.int .i64 ss[k]) := (hb.cell (p := ⟨g1, k, none⟩) hg1).trans (hc1 k hlt)
        have hce2 : wr.cell? ⟨g2, k, none⟩ = some (.int .i64 ss[k]) := (hb.cell (p := ⟨g2, k, none⟩) hg2).trans (hc2 k hlt)
        have hq1 : (0 : Int) ≤ (k : Int) := by omega
        have hq2 : (k : Int) < (ss.length : Int) := by omega
        clear hc1 hc2
        go_wp2
        go_quiet (fail)
        go_wp2
        go_roundw
        case rel => exact ⟨k + 1, by omega, by go_num, below_drewK hb _⟩
        case measure => simp [intOf]; omega
      · go_wp2
        go_ret
        exact ⟨rfl, hb⟩


theorem TokAt.agg {w : World} {g : Nat} {c r q a b : Int} {v : Value} (h : TokAt w g c r q a b v) (c' r' q' a' b' : Int) (v' : Value) :
    TokAt ((((((w.setCell ⟨g, 0, none⟩ (.int .i64 c')).setCell ⟨g, 1, none⟩ (.int .i64 r')).setCell ⟨g, 2, none⟩ (.int .i64 q')).setCell ⟨g, 3, none⟩ (.int .i64 a')).setCell ⟨g, 4, none⟩ (.int .i64 b')).setCell ⟨g, 5, none⟩ v') g c' r' q' a' b' v' := by
  have h0 := heap_setCell_same w g 0 _ 28 (.int .i64 c') h
  have h1 := heap_setCell_same _ g 1 _ 28 (.int .i64 r') h0
  have h2 := heap_setCell_same _ g 2 _ 28 (.int .i64 q') h1
  have h3 := heap_setCell_same _ g 3 _ 28 (.int .i64 a') h2
  have h4 := heap_setCell_same _ g 4 _ 28 (.int .i64 b') h3
  have h5 := heap_setCell_same _ g 5 _ 28 v' h4
  unfold TokAt; rw [h5]; rfl
set_option maxRecDepth 100000 in
set_option maxHeartbeats 1000000 in
theorem eqTok_same (c r q a b : Int) (v1 v2 : Value) (ws : List Int) (B1 B2 : Nat) (w : World) (h1 : Hid (OwnI w B1 v1 ws)) (h2 : Hid (OwnI w B2 v2 ws)) (hl : ws.length ≤ 1048576) :
    Calls Try.prog 54 #[.agg #[.int .i64 c, .int .i64 r, .int .i64 q, .int .i64 a, .int .i64 b, v1], .agg #[.int .i64 c, .int .i64 r, .int .i64 q, .int .i64 a, .int .i64 b, v2]] w fun e w' => e = .returned (.bool true) ∧ Below w.heap.size w w' := by
  obtain ⟨ao1, cap1, rfl⟩ := h1.out.form
  obtain ⟨ao2, cap2, rfl⟩ := h2.out.form
  go_enter Try.func54, Try.ntmps54
  go_wp2_with fail
  refine (eqI_same _ _ ws B1 B2 _ ((h1.out.alloc _).alloc _) ((h2.out.alloc _).alloc _) hl).mono ?_
  rintro e w1 ⟨rfl, hb1⟩
  go_wp2_with fail
  go_ret
  exact ⟨rfl, (((Below.refl _ _).alloc (Nat.le_refl _) _).alloc (by simp) _).trans (hb1.mono (by simp; omega))⟩

/-- the block g is a token that was handed in. -/
def LtokAt (w : World) (g : Nat) (c r q a b : Int) (v : Value) : Prop := w.heap[g]? = some (.cells #[.int .i64 c, .int .i64 r, .int .i64 q, .int .i64 a, .int .i64 b, v] 42 (0, 0))
theorem LtokAt.cells {w : World} {g : Nat} {c r q a b : Int} {v : Value} (h : LtokAt w g c r q a b v) : w.cell? ⟨g, 0, none⟩ = some (.int .i64 c) ∧ w.cell? ⟨g, 1, none⟩ = some (.int .i64 r) ∧ w.cell? ⟨g, 2, none⟩ = some (.int .i64 q) ∧ w.cell? ⟨g, 3, none⟩ = some (.int .i64 a) ∧ w.cell? ⟨g, 4, none⟩ = some (.int .i64 b) ∧ w.cell? ⟨g, 5, none⟩ = some v :=
  ⟨by rw [cell_of_row w g 0 _ 42 (0, 0) h]; rfl, by rw [cell_of_row w g 1 _ 42 (0, 0) h]; rfl, by rw [cell_of_row w g 2 _ 42 (0, 0) h]; rfl, by rw [cell_of_row w g 3 _ 42 (0, 0) h]; rfl, by rw [cell_of_row w g 4 _ 42 (0, 0) h]; rfl, by rw [cell_of_row w g 5 _ 42 (0, 0) h]; rfl⟩
theorem LtokAt.stays {w w' : World} {B g : Nat} {c r q a b : Int} {v : Value} (h : LtokAt w g c r q a b v) (hb : Below B w w') (hg : g < B) : LtokAt w' g c r q a b v := (hb.block g hg).trans h
end Go.Proofs.Ytbecahikjekccaa


