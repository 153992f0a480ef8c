/- Joined texts: CZt CZ1 CZ2 CRd CRl. -/
import Derived.Test.YthdjkkiegecgnaaWq12
import Derived.Test.YthdjkkiegecgnaaWq8
import Derived.Deep.RegionLaw
import Derived.Test.YthdjkkiegecgnaaWq5
/- What drawn tokens want. -/
namespace Go.Proofs.Ythdjkkiegecgnaa
open Go.RowKit Pl
set_option linter.unusedVariables false

theorem own_laterZ {w w' : World} {B : Nat} {v : Value} {ss : List Int} (h : OwnI w B v ss) (hb : Below w.heap.size w w') : OwnI w' B v ss := h.stays hb (fun k hk => (h.lt k hk).2)
theorem TokAt.keep {w w' : World} {g k : Nat} {c r q a b : Int} {v : Value} (h : TokAt w g c r q a b v) (hk : KeepBut k w w') (hg : g ≠ k) : TokAt w' g c r q a b v := (hk.block g h.lt hg).trans h
theorem TokAt.set0 {w : World} {g : Nat} {c r q a b : Int} {v : Value} (h : TokAt w g c r q a b v) (x : Int) : TokAt (w.setCell ⟨g, 0, none⟩ (.int .i64 x)) g x r q a b v := by
  have := heap_setCell_same w g 0 _ 30 (.int .i64 x) h
  unfold TokAt; rw [this]; rfl
theorem TokAt.set1 {w : World} {g : Nat} {c r q a b : Int} {v : Value} (h : TokAt w g c r q a b v) (x : Int) : TokAt (w.setCell ⟨g, 1, none⟩ (.int .i64 x)) g c x q a b v := by
  have := heap_setCell_same w g 1 _ 30 (.int .i64 x) h
  unfold TokAt; rw [this]; rfl
theorem own_ne_tok {w : World} {B g k : Nat} {v u : Value} {xs : List Int} {c r q a b : Int} (h : OwnI w B v xs) (hu : TokAt w g c r q a b u) (hk : v.ownBlock = some k) : k ≠ g := by
  rintro rfl
  rcases h.2 with ⟨rfl, _⟩ | ⟨k', cap, cur, rfl, _, hk2, _⟩
  · cases hk
  · cases hk
    unfold TokAt at hu
    rw [hk2] at hu
    simp at hu
theorem TokAt.grown {w w' : World} {B g : Nat} {v u : Value} {xs : List Int} {c r q a b : Int} (h : TokAt w g c r q a b u) (ho : OwnI w B v xs) (hg : w.grownBy w' v.ownBlock) : TokAt w' g c r q a b u :=
  (hg.block g h.lt (fun e => own_ne_tok ho h e.symm rfl)).trans h
end Go.Proofs.Ythdjkkiegecgnaa


/- A token on its way. -/
namespace Go.Proofs.Ythdjkkiegecgnaa
open Go.RowKit Pl
set_option linter.unusedVariables false

/-- a token on its way: where it is made, what is drawn. -/
structure TS (w0 w wr : World) (B g n cap : Nat) (ao : Option Addr) (gm : Nat) (c r q a b : Int) (v : Value) (xs : List Int) : Prop where
  res : TokAt wr w.heap.size 0 0 0 0 0 (.slice none 0 0)
  tok : TokAt wr gm c r q a b v
  own : OwnI wr w.heap.size v xs
  drw : Drw w0 wr B g ao n cap
  old : g < w.heap.size
  new : w.heap.size < gm
  low : w0.heap.size ≤ w.heap.size
  bas : B ≤ w.heap.size

theorem TS.turn {w0 w wr w' : World} {B g n cap gm : Nat} {ao : Option Addr} {c r q a b c' r' q' a' b' : Int} {v : Value} {xs : List Int} (h : TS w0 w wr B g n cap ao gm c r q a b v xs) (ht : TurnAt gm wr w') (hk : TokAt w' gm c' r' q' a' b' v) : TS w0 w w' B g n cap ao gm c' r' q' a' b' v xs :=
  ⟨h.res.turn ht (by have := h.new; omega), hk, own_tok h.own h.tok ht, (h.drw.other (by have := h.new; have := h.bas; omega) ht (by have := h.new; have := h.low; omega) (by have := h.old; have := h.new; omega)).out, h.old, h.new, h.low, h.bas⟩
theorem TS.below {w0 w wr w' : World} {B g n cap gm : Nat} {ao : Option Addr} {c r q a b : Int} {v : Value} {xs : List Int} (h : TS w0 w wr B g n cap ao gm c r q a b v xs) (hB : B ≤ g) (hb : Below wr.heap.size wr w') : TS w0 w w' B g n cap ao gm c r q a b v xs :=
  ⟨h.res.stays hb h.res.lt, h.tok.stays hb h.tok.lt, own_laterZ h.own hb, h.drw.step hB hb, h.old, h.new, h.low, h.bas⟩
/-- one more is appended. -/
theorem TS.push {w0 w wr w' : World} {B g n cap gm : Nat} {ao : Option Addr} {c r q a b z : Int} {v v' : Value} {xs : List Int} (h : TS w0 w wr B g n cap ao gm c r q a b v xs) (hB : B ≤ g) (hown : OwnI w' w.heap.size v' (xs ++ [z])) (hg : (wr.alloc (.cells #[.int .i64 z] 3)).grownBy w' v.ownBlock) :
    TS w0 w (w'.setCell ⟨gm, 5, none⟩ v') B g n cap ao gm c r q a b v' (xs ++ [z]) := by
  have D : Below wr.heap.size wr (wr.alloc (.cells #[.int .i64 z] 3)) := (Below.refl _ _).alloc (Nat.le_refl _) _
  have h1 := h.below hB D
  have M := TokAt.grown h1.tok h1.own hg
  have R := TokAt.grown h1.res h1.own hg
  have T := (TurnAt.refl gm w').setCell 5 v'
  have hold := h.old
  have hnew := h.new
  have hlow := h.low
  have hbas := h.bas
  have hlt := fun k hk => (h1.own.lt k hk).1
  have hdrw : Drw w0 w' B g ao n cap := by
    obtain ⟨⟨i, y, e1, e2⟩, e3, e4⟩ := h1.drw
    refine ⟨⟨i, y, e1, (hg.block g (Array.getElem?_eq_some_iff.1 e2).1 (fun e => by have := hlt g e.symm; omega)).trans e2⟩, fun j hj => ?_, ⟨hg.os.trans e4.os, hg.tape.trans e4.tape, hg.output.trans e4.output, Nat.le_trans e4.size hg.size, fun m hm hmg => (hg.block m (Nat.lt_of_lt_of_le hm e4.size) (fun e => by have := hlt m e.symm; omega)).trans (e4.block m hm hmg)⟩⟩
    obtain ⟨bb, off, y2, x1, x2, x3, x4⟩ := e3 j hj
    refine ⟨bb, off, y2, x1, x2, ?_, x4⟩
    rw [← x3]
    simp only [World.cell?]
    rw [hg.block bb (by have := h1.res.lt; omega) (fun e => by have := hlt bb e.symm; omega)]
  exact ⟨R.turn T (by omega), M.set5 v', own_tok hown M T, (hdrw.other (by omega) T (by omega) (by omega)).out, h.old, h.new, h.low, h.bas⟩
end Go.Proofs.Ythdjkkiegecgnaa


/- The walk over a drawn token. -/
namespace Go.Proofs.Ythdjkkiegecgnaa
open Go.RowKit Pl
set_option linter.unusedVariables false

end Go.Proofs.Ythdjkkiegecgnaa


/- Drawn rings. -/
namespace Go.Proofs.Ythdjkkiegecgnaa
open Go.RowKit Pl
set_option linter.unusedVariables false

theorem RgAt.keep {w w' : World} {g k : Nat} {i : Int} {v : Value} (h : RgAt w g i v) (hk : KeepBut k w w') (hg : g ≠ k) : RgAt w' g i v := (hk.block g h.lt hg).trans h
theorem RgAt.grown {w w' : World} {B g : Nat} {v u : Value} {xs : List Int} {i : Int} (h : RgAt w g i u) (ho : OwnI w B v xs) (hg : w.grownBy w' v.ownBlock) : RgAt w' g i u := by
  refine (hg.block g h.lt (fun e => ?_)).trans h
  rcases ho.2 with ⟨rfl, _⟩ | ⟨k, cap, cur, rfl, _, hk, _⟩
  · cases e
  · cases e
    unfold RgAt at h
    rw [hk] at h
    simp at h
/-- a ring on its way. -/
structure RS (w0 w wr : World) (B g n cap : Nat) (ao : Option Addr) (gm : Nat) (i : Int) (v : Value) (xs : List Int) : Prop where
  res : RgAt wr w.heap.size 0 (.slice none 0 0)
  rng : RgAt wr gm i v
  own : OwnI wr w.heap.size v xs
  drw : Drw w0 wr B g ao n cap
  old : g < w.heap.size
  new : w.heap.size < gm
  low : w0.heap.size ≤ w.heap.size
  bas : B ≤ w.heap.size
theorem RS.below {w0 w wr w' : World} {B g n cap gm : Nat} {ao : Option Addr} {i : Int} {v : Value} {xs : List Int} (h : RS w0 w wr B g n cap ao gm i v xs) (hB : B ≤ g) (hb : Below wr.heap.size wr w') : RS w0 w w' B g n cap ao gm i v xs :=
  ⟨h.res.stays hb h.res.lt, h.rng.stays hb h.rng.lt, own_laterZ h.own hb, h.drw.step hB hb, h.old, h.new, h.low, h.bas⟩
/-- another list is its members. -/
theorem RS.set {w0 w wr : World} {B g n cap gm : Nat} {ao : Option Addr} {i : Int} {v v' : Value} {xs ys : List Int} (h : RS w0 w wr B g n cap ao gm i v xs) (ho : OwnI wr w.heap.size v' ys) : RS w0 w (wr.setCell ⟨gm, 1, none⟩ v') B g n cap ao gm i v' ys := by
  have T := (TurnAt.refl gm wr).setCell 1 v'
  have hold := h.old
  have hnew := h.new
  have hlow := h.low
  have hbas := h.bas
  exact ⟨h.res.turn T (by omega), h.rng.set1 v', own_ring ho h.rng T, (h.drw.other (by omega) T (by omega) (by omega)).out, h.old, h.new, h.low, h.bas⟩
/-- one more is appended. -/
theorem RS.push {w0 w wr w' : World} {B g n cap gm : Nat} {ao : Option Addr} {i z : Int} {v v' : Value} {xs : List Int} (h : RS w0 w wr B g n cap ao gm i v xs) (hB : B ≤ g) (hown : OwnI w' w.heap.size v' (xs ++ [z])) (hg : (wr.alloc (.cells #[.int .i64 z] 3)).grownBy w' v.ownBlock) :
    RS w0 w (w'.setCell ⟨gm, 1, none⟩ v') B g n cap ao gm i v' (xs ++ [z]) := by
  have D : Below wr.heap.size wr (wr.alloc (.cells #[.int .i64 z] 3)) := (Below.refl _ _).alloc (Nat.le_refl _) _
  have h1 := h.below hB D
  have M := RgAt.grown h1.rng h1.own hg
  have R := RgAt.grown h1.res h1.own hg
  have hold := h.old
  have hnew := h.new
  have hlow := h.low
  have hbas := h.bas
  have hlt := fun k hk => (h1.own.lt k hk).1
  have hdrw : Drw w0 w' B g ao n cap := by
    obtain ⟨⟨i, y, e1, e2⟩, e3, e4⟩ := h1.drw
    refine ⟨⟨i, y, e1, (hg.block g (Array.getElem?_eq_some_iff.1 e2).1 (fun e => by have := hlt g e.symm; omega)).trans e2⟩, fun j hj => ?_, ⟨hg.os.trans e4.os, hg.tape.trans e4.tape, hg.output.trans e4.output, Nat.le_trans e4.size hg.size, fun m hm hmg => (hg.block m (Nat.lt_of_lt_of_le hm e4.size) (fun e => by have := hlt m e.symm; omega)).trans (e4.block m hm hmg)⟩⟩
    obtain ⟨bb, off, y2, x1, x2, x3, x4⟩ := e3 j hj
    refine ⟨bb, off, y2, x1, x2, ?_, x4⟩
    rw [← x3]
    simp only [World.cell?]
    rw [hg.block bb (by have := h1.res.lt; omega) (fun e => by have := hlt bb e.symm; omega)]
  have h2 : RS w0 w w' B g n cap ao gm i v' (xs ++ [z]) → RS w0 w (w'.setCell ⟨gm, 1, none⟩ v') B g n cap ao gm i v' (xs ++ [z]) := fun h2 => h2.set h2.own
  have T := (TurnAt.refl gm w').setCell 1 v'
  exact ⟨R.turn T (by omega), M.set1 v', own_ring hown M T, (hdrw.other (by omega) T (by omega) (by omega)).out, h.old, h.new, h.low, h.bas⟩
end Go.Proofs.Ythdjkkiegecgnaa


/- The law on drawn rings. -/
namespace Go.Proofs.Ythdjkkiegecgnaa
open Go.RowKit Pl
set_option linter.unusedVariables false

theorem ring_len {i : Int} {ms : List Int} (h : ringB i ms = true) : 0 < ms.length ∧ ms.length ≤ 5 ∧ (1 ≤ i ∧ i ≤ 9) ∧ wGo 0 5 ms = true := by
  unfold ringB at h
  simp only [Bool.and_eq_true, decide_eq_true_eq] at h
  have := wGo_len ms 0 h.2.2 (by omega)
  exact ⟨h.2.1, by omega, h.1, h.2.2⟩
end Go.Proofs.Ythdjkkiegecgnaa


