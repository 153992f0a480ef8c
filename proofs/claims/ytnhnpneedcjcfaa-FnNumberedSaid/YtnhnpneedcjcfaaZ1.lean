/- A token on its way. -/
import Derived.Test.YtnhnpneedcjcfaaZt
namespace Go.Proofs.Ytnhnpneedcjcfaa
open Go.RowKit Pl
set_option linter.unusedVariables false

/-- a token on its way: where it is made, what is drawn. -/
structure TS (w0 w wr : World) (B g n cap : Nat) (ao : Option Addr) (gm : Nat) (c r q a b : Int) (v : Value) (xs : List Int) : Prop where
  res : TokAt wr w.heap.size 0 0 0 0 0 (.slice none 0 0)
  tok : TokAt wr gm c r q a b v
  own : OwnI wr w.heap.size v xs
  drw : Drw w0 wr B g ao n cap
  old : g < w.heap.size
  new : w.heap.size < gm
  low : w0.heap.size ≤ w.heap.size
  bas : B ≤ w.heap.size

theorem TS.draw {w0 w wr w' : World} {B g n cap gm : Nat} {ao : Option Addr} {c r q a b : Int} {v : Value} {xs : List Int} (h : TS w0 w wr B g n cap ao gm c r q a b v xs) (hd : Drw wr w' B g ao n cap) : TS w0 w w' B g n cap ao gm c r q a b v xs :=
  ⟨h.res.keep hd.2.2 (by have := h.old; omega), h.tok.keep hd.2.2 (by have := h.old; have := h.new; omega), OwnI_keep h.own hd.2.2 h.old, (h.drw.back hd).out, h.old, h.new, h.low, h.bas⟩
theorem TS.turn {w0 w wr w' : World} {B g n cap gm : Nat} {ao : Option Addr} {c r q a b c' r' q' a' b' : Int} {v : Value} {xs : List Int} (h : TS w0 w wr B g n cap ao gm c r q a b v xs) (ht : TurnAt gm wr w') (hk : TokAt w' gm c' r' q' a' b' v) : TS w0 w w' B g n cap ao gm c' r' q' a' b' v xs :=
  ⟨h.res.turn ht (by have := h.new; omega), hk, own_tok h.own h.tok ht, (h.drw.other (by have := h.new; have := h.bas; omega) ht (by have := h.new; have := h.low; omega) (by have := h.old; have := h.new; omega)).out, h.old, h.new, h.low, h.bas⟩
theorem TS.below {w0 w wr w' : World} {B g n cap gm : Nat} {ao : Option Addr} {c r q a b : Int} {v : Value} {xs : List Int} (h : TS w0 w wr B g n cap ao gm c r q a b v xs) (hB : B ≤ g) (hb : Below wr.heap.size wr w') : TS w0 w w' B g n cap ao gm c r q a b v xs :=
  ⟨h.res.stays hb h.res.lt, h.tok.stays hb h.tok.lt, own_laterZ h.own hb, h.drw.step hB hb, h.old, h.new, h.low, h.bas⟩
/-- one more is appended. -/
theorem TS.push {w0 w wr w' : World} {B g n cap gm : Nat} {ao : Option Addr} {c r q a b z : Int} {v v' : Value} {xs : List Int} (h : TS w0 w wr B g n cap ao gm c r q a b v xs) (hB : B ≤ g) (hown : OwnI w' w.heap.size v' (xs ++ [z])) (hg : (wr.alloc (.cells #[.int .i64 z] 3)).grownBy w' v.ownBlock) :
    TS w0 w (w'.setCell ⟨gm, 5, none⟩ v') B g n cap ao gm c r q a b v' (xs ++ [z]) := by
  have D : Below wr.heap.size wr (wr.alloc (.cells #[.int .i64 z] 3)) := (Below.refl _ _).alloc (Nat.le_refl _) _
  have h1 := h.below hB D
  have M := TokAt.grown h1.tok h1.own hg
  have R := TokAt.grown h1.res h1.own hg
  have T := (TurnAt.refl gm w').setCell 5 v'
  have hold := h.old
  have hnew := h.new
  have hlow := h.low
  have hbas := h.bas
  have hlt := fun k hk => (h1.own.lt k hk).1
  have hdrw : Drw w0 w' B g ao n cap := by
    obtain ⟨⟨i, y, e1, e2⟩, e3, e4⟩ := h1.drw
    refine ⟨⟨i, y, e1, (hg.block g (Array.getElem?_eq_some_iff.1 e2).1 (fun e => by have := hlt g e.symm; omega)).trans e2⟩, fun j hj => ?_, ⟨hg.os.trans e4.os, hg.tape.trans e4.tape, hg.output.trans e4.output, Nat.le_trans e4.size hg.size, fun m hm hmg => (hg.block m (Nat.lt_of_lt_of_le hm e4.size) (fun e => by have := hlt m e.symm; omega)).trans (e4.block m hm hmg)⟩⟩
    obtain ⟨bb, off, y2, x1, x2, x3, x4⟩ := e3 j hj
    refine ⟨bb, off, y2, x1, x2, ?_, x4⟩
    rw [← x3]
    simp only [World.cell?]
    rw [hg.block bb (by have := h1.res.lt; omega) (fun e => by have := hlt bb e.symm; omega)]
  exact ⟨R.turn T (by omega), M.set5 v', own_tok hown M T, (hdrw.other (by omega) T (by omega) (by omega)).out, h.old, h.new, h.low, h.bas⟩
/-- what is handed back. -/
theorem TS.give {w0 w wr : World} {B g n cap gm : Nat} {ao : Option Addr} {c r q a b : Int} {v : Value} {xs : List Int} (h : TS w0 w wr B g n cap ao gm c r q a b v xs) :
    TokAt ((((((wr.setCell ⟨w.heap.size, 0, none⟩ (.int .i64 c)).setCell ⟨w.heap.size, 1, none⟩ (.int .i64 r)).setCell ⟨w.heap.size, 2, none⟩ (.int .i64 q)).setCell ⟨w.heap.size, 3, none⟩ (.int .i64 a)).setCell ⟨w.heap.size, 4, none⟩ (.int .i64 b)).setCell ⟨w.heap.size, 5, none⟩ v) w.heap.size c r q a b v ∧
    OwnI ((((((wr.setCell ⟨w.heap.size, 0, none⟩ (.int .i64 c)).setCell ⟨w.heap.size, 1, none⟩ (.int .i64 r)).setCell ⟨w.heap.size, 2, none⟩ (.int .i64 q)).setCell ⟨w.heap.size, 3, none⟩ (.int .i64 a)).setCell ⟨w.heap.size, 4, none⟩ (.int .i64 b)).setCell ⟨w.heap.size, 5, none⟩ v) w.heap.size v xs ∧
    Hid (Drw w0 ((((((wr.setCell ⟨w.heap.size, 0, none⟩ (.int .i64 c)).setCell ⟨w.heap.size, 1, none⟩ (.int .i64 r)).setCell ⟨w.heap.size, 2, none⟩ (.int .i64 q)).setCell ⟨w.heap.size, 3, none⟩ (.int .i64 a)).setCell ⟨w.heap.size, 4, none⟩ (.int .i64 b)).setCell ⟨w.heap.size, 5, none⟩ v) B g ao n cap) :=
  ⟨h.res.agg c r q a b v, own_tok h.own h.res (tok_turn c r q a b v), h.drw.other h.bas (tok_turn c r q a b v) h.low (by have := h.old; omega)⟩
end Go.Proofs.Ytnhnpneedcjcfaa
