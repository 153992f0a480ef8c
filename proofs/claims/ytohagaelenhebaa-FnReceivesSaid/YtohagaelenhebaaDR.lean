/- What is kept while a parcel is drawn beside an end. -/
import Derived.Test.YtohagaelenhebaaDE
namespace Go.Proofs.Ytohagaelenhebaa
open Go.RowKit Pl
set_option linter.unusedVariables false

theorem CodeAt.up {w : World} {B B' : Nat} {ao : Option Addr} {n : Nat} (h : CodeAt w B ao n) (hB : B ≤ B') : CodeAt w B' ao n := fun i hi => by
  obtain ⟨b, off, z, h1, h2, h3⟩ := h i hi
  exact ⟨b, off, z, h1, by omega, h3⟩

/-- an end in its box, the two results' boxes, and the draw. -/
structure Ys (w0 W : World) (B g n cap r lo p : Nat) (ao : Option Addr) (e : En) (qv ov : Value) : Prop where
  q : EndQ W lo p e qv ov
  r1 : EndC W 32 r 0 0 (.slice none 0 0) 0 (.slice none 0 0)
  r2 : PcC W 41 (r + 1) 0 0 ⟨#[]⟩
  d : Drw w0 W B g ao n cap
  bg : B ≤ g
  rg : r + 1 < g
  gl : g < lo
theorem Ys.keep {w0 W W' : World} {B g n cap r lo p : Nat} {ao : Option Addr} {e : En} {qv ov : Value} (h : Ys w0 W B g n cap r lo p ao e qv ov) (hd : Drw W W' B g ao n cap) : Ys w0 W' B g n cap r lo p ao e qv ov := by
  have hg : Gr (fun j => j = g) W W' := ⟨hd.2.2.os, hd.2.2.tape, hd.2.2.output, hd.2.2.size, hd.2.2.block⟩
  have h1 := h.rg
  have h2 := h.gl
  have h3 := h.q.2.2.2.2.1
  exact ⟨h.q.gr hg (by omega) (fun j hj he => by have := (Sl.lt h.q.2.1 j hj).1; omega) (fun j hj he => by have := (Sl.lt h.q.2.2.1 j hj).1; omega), (hd.2.2.block r h.r1.lt (by omega)).trans h.r1, (hd.2.2.block (r + 1) h.r2.lt (by omega)).trans h.r2, ⟨hd.1, hd.2.1, h.d.2.2.trans hd.2.2⟩, h.bg, h.rg, h.gl⟩
theorem Ys.below {w0 W W' : World} {B g n cap r lo p : Nat} {ao : Option Addr} {e : En} {qv ov : Value} (h : Ys w0 W B g n cap r lo p ao e qv ov) (hb : Below W.heap.size W W') : Ys w0 W' B g n cap r lo p ao e qv ov :=
  ⟨h.q.below hb, h.r1.below hb, h.r2.below hb, h.d.step h.bg hb, h.bg, h.rg, h.gl⟩
theorem Ys.alloc {w0 W : World} {B g n cap r lo p : Nat} {ao : Option Addr} {e : En} {qv ov : Value} (h : Ys w0 W B g n cap r lo p ao e qv ov) (o : Obj) : Ys w0 (W.alloc o) B g n cap r lo p ao e qv ov := h.below ((Below.refl _ _).alloc (Nat.le_refl _) _)
theorem Ys.cell {w0 W : World} {B g n cap r lo p k j : Nat} {ao : Option Addr} {e : En} {qv ov x : Value} (h : Ys w0 W B g n cap r lo p ao e qv ov) (h1 : k ≠ p) (h2 : k ≠ r) (h3 : k ≠ r + 1) (h4 : g < k) (h5 : w0.heap.size ≤ k) (h6 : ∀ i, qv.ownBlock = some i → i ≠ k) (h7 : ∀ i, ov.ownBlock = some i → i ≠ k) : Ys w0 (W.setCell ⟨k, j, none⟩ x) B g n cap r lo p ao e qv ov :=
  ⟨h.q.kept (grown_cell W k j x) (by simp; omega) (fun i hi => by have := h6 i hi; simp; exact this) (fun i hi => by have := h7 i hi; simp; exact this), h.r1.kept (grown_cell W k j x) (by simp; omega), h.r2.kept (grown_cell W k j x) (by simp; omega), h.d.grown h.bg (grown_cell W k j x) (fun i hi => by simp at hi; omega), h.bg, h.rg, h.gl⟩
/-- a block from N on, where all that is kept lies below it. -/
theorem Ys.high {w0 W W' : World} {B g n cap r lo p N k j : Nat} {ao : Option Addr} {e : En} {qv ov x : Value} (hN : Ys w0 W B g n cap r lo p ao e qv ov) (hk : W.heap.size ≤ k) (h : Ys w0 W' B g n cap r lo p ao e qv ov) : Ys w0 (W'.setCell ⟨k, j, none⟩ x) B g n cap r lo p ao e qv ov := by
  have a1 := hN.q.1.lt
  have a2 := hN.r1.lt
  have a3 := hN.r2.lt
  have a4 := hN.d.lt
  have a5 := hN.d.2.2.size
  exact h.cell (by omega) (by omega) (by omega) (by omega) (by omega) (fun i hi => by have := (Sl.lt hN.q.2.1 i hi).2; omega) (fun i hi => by have := (Sl.lt hN.q.2.2.1 i hi).2; omega)
theorem belowY {w0 W : World} {B g n cap r lo p : Nat} {ao : Option Addr} {e : En} {qv ov : Value} (m : Nat) (hn : n ≤ 1048576) (hm0 : 0 < m) (hm : m ≤ 256) (h : Ys w0 W B g n cap r lo p ao e qv ov) :
    Calls Try.prog 47 #[.pointer (some ⟨g, 0, none⟩), .int .i64 m] W fun r_ w' => (∃ x : Nat, x < m ∧ r_ = .returned (.int .i64 x)) ∧ Ys w0 w' B g n cap r lo p ao e qv ov ∧ KeepBut g W w' :=
  (below_small W W B g n cap m ao hn h.bg hm0 hm (Drw.start h.d.1 h.d.2.1)).mono fun r_ w' ⟨hx, hd⟩ => ⟨hx, h.keep hd.out, hd.out.2.2⟩
theorem nameY {w0 W : World} {B g n cap r lo p : Nat} {ao : Option Addr} {e : En} {qv ov : Value} (hn : n ≤ 1048576) (h : Ys w0 W B g n cap r lo p ao e qv ov) :
    Calls Try.prog 48 #[.pointer (some ⟨g, 0, none⟩)] W fun r_ w' => (∃ t : ByteArray, t.size ≤ 13 ∧ r_ = .returned (.string t)) ∧ Ys w0 w' B g n cap r lo p ao e qv ov ∧ KeepBut g W w' :=
  (name_any W W B g n cap ao hn h.bg (Drw.start h.d.1 h.d.2.1)).mono fun r_ w' ⟨hx, hd⟩ => ⟨hx, h.keep hd.out, hd.out.2.2⟩
theorem PcC.but {w w' : World} {T b g : Nat} {n a : Int} {s : ByteArray} (h : PcC w T b n a s) (hk : KeepBut g w w') (hne : b ≠ g) : PcC w' T b n a s := (hk.block b h.lt hne).trans h
theorem PcC.set0 {w : World} {T g : Nat} {n a x : Int} {s : ByteArray} (h : PcC w T g n a s) : PcC (w.setCell ⟨g, 0, none⟩ (.int .i64 x)) T g x a s := (heap_setCell_same w g 0 _ T _ h).trans rfl
theorem PcC.set1 {w : World} {T g : Nat} {n a x : Int} {s : ByteArray} (h : PcC w T g n a s) : PcC (w.setCell ⟨g, 1, none⟩ (.int .i64 x)) T g n x s := (heap_setCell_same w g 1 _ T _ h).trans rfl
theorem PcC.set2 {w : World} {T g : Nat} {n a : Int} {s t : ByteArray} (h : PcC w T g n a s) : PcC (w.setCell ⟨g, 2, none⟩ (.string t)) T g n a t := (heap_setCell_same w g 2 _ T _ h).trans rfl

/-- the parcel's box is laid, early or late. -/
def BoxP (w0 wS wx : World) (B g n cap r lo p : Nat) (ao : Option Addr) (e : En) (qv ov u : Value) : Prop :=
  ∃ (k : Nat) (num ack : Int) (t : ByteArray), u = .pointer (some ⟨k, 0, none⟩) ∧ t.size ≤ 61 ∧ wS.heap.size ≤ k ∧ PcC wx 41 k num ack t ∧ Ys w0 wx B g n cap r lo p ao e qv ov
theorem boxP_late {w0 wS w9 : World} {B g n cap r lo p : Nat} {ao : Option Addr} {e : En} {qv ov : Value} {num ack : Int} {t : ByteArray} (hS : wS.heap.size ≤ w9.heap.size) (h : Ys w0 w9 B g n cap r lo p ao e qv ov) (ht : t.size ≤ 61) :
    BoxP w0 wS (w9.alloc (.cells #[.int .i64 num, .int .i64 ack, .string t] 41)) B g n cap r lo p ao e qv ov (.pointer (some ⟨w9.heap.size, 0, none⟩)) := ⟨_, num, ack, t, rfl, ht, hS, PcC.new w9 41 _ _ _, h.alloc _⟩
theorem boxP_early {w0 wS w9 : World} {B g n cap r lo p k : Nat} {ao : Option Addr} {e : En} {qv ov : Value} {num ack : Int} {t : ByteArray} (hY : Ys w0 wS B g n cap r lo p ao e qv ov) (hS : wS.heap.size ≤ k) (hX : PcC w9 41 k 0 0 ⟨#[]⟩) (h : Ys w0 w9 B g n cap r lo p ao e qv ov) (ht : t.size ≤ 61) :
    BoxP w0 wS (((w9.setCell ⟨k, 0, none⟩ (.int .i64 num)).setCell ⟨k, 1, none⟩ (.int .i64 ack)).setCell ⟨k, 2, none⟩ (.string t)) B g n cap r lo p ao e qv ov (.pointer (some ⟨k, 0, none⟩)) :=
  ⟨k, num, ack, t, rfl, ht, hS, ((hX.set0).set1).set2, hY.high (N := 0) hS (hY.high (N := 0) hS (hY.high (N := 0) hS h))⟩
end Go.Proofs.Ytohagaelenhebaa
