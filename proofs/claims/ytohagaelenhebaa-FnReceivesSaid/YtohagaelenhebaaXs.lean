/- A drawn end on its way out: what is kept of it. -/
import Derived.Test.YtohagaelenhebaaDT
import Derived.Test.YtohagaelenhebaaHu
import Derived.Test.YtohagaelenhebaaK8
import Derived.Test.YtohagaelenhebaaBg
import Derived.Test.YtohagaelenhebaaTp
import Derived.Test.YtohagaelenhebaaR3
import Derived.Test.YtohagaelenhebaaR4
import Derived.Test.YtohagaelenhebaaE1
namespace Go.Proofs.Ytohagaelenhebaa
open Go.RowKit Pl
set_option linter.unusedVariables false

theorem endQ_fill {w w1 : World} {B p N : Nat} {e f : En} {qv ov : Value} {xa xb : Option Addr} {xc xd : Nat} (h : EndQ w B p e qv ov) (hN : w.heap.size ≤ N) (hb : Below w.heap.size w w1) (m : EndM w1 N (.agg #[.int .i64 f.nx, .int .i64 f.ak, .slice xa f.q.length xc, .int .i64 f.gt, .slice xb f.o.length xd]) f) :
    EndQ (fillE w1 p f.nx f.ak (.slice xa f.q.length xc) f.gt (.slice xb f.o.length xd)) B p f (.slice xa f.q.length xc) (.slice xb f.o.length xd) ∧ Below B w (fillE w1 p f.nx f.ak (.slice xa f.q.length xc) f.gt (.slice xb f.o.length xd)) := by
  have hpl := h.1.lt
  have hBp := h.2.2.2.2.1
  have K1 := fill_end (h.1.below hb) f.nx f.ak f.gt (.slice xa f.q.length xc) (.slice xb f.o.length xd)
  have K2 := fill_grown w1 p f.nx f.ak f.gt (.slice xa f.q.length xc) (.slice xb f.o.length xd)
  obtain ⟨q1, o1, hv, m1, m2, m3⟩ := m
  simp at hv
  obtain ⟨rfl, rfl⟩ := hv
  have n1 := ne_low m1 (show p < N by omega)
  have n2 := ne_low m2 (show p < N by omega)
  refine ⟨⟨K1, Sl.down (slt_grown m1 K2 n1) (by omega), Sl.down (slt_grown m2 K2 n2) (by omega), m3, hBp, n1, n2⟩, (hb.mono (by omega)).trans (grown_to_below K2 hBp (by have := hb.size; omega))⟩

/-- the block b is a row of ints of a kind. -/
def RowIp (w : World) (b m : Nat) (p : Int → Prop) : Prop := ∀ j, j < m → ∃ z : Int, p z ∧ w.cell? ⟨b, j, none⟩ = some (.int .i64 z)
theorem RowIp.stays {w0 w1 : World} {b g m : Nat} {p : Int → Prop} (h : RowIp w0 b m p) (hb : b < w0.heap.size) (hg : b ≠ g) (hk : KeepBut g w0 w1) : RowIp w1 b m p := by
  intro j hj
  obtain ⟨t, h1, h2⟩ := h j hj
  refine ⟨t, h1, ?_⟩
  rw [← h2]
  simp only [World.cell?]
  rw [hk.block b hb hg]
theorem rowIp_new (w : World) (ts : List Int) (m : Nat) (p : Int → Prop) (hm : m = ts.length) (hp : ∀ t ∈ ts, p t) : RowIp (w.alloc (.cells (ts.map (Value.int .i64)).toArray 3)) w.heap.size m p := by
  intro j hj
  rw [hm] at hj
  refine ⟨ts[j], hp _ (List.getElem_mem hj), ?_⟩
  rw [cell_of_row _ w.heap.size j _ 3 (0, 0) (heap_alloc_new w _)]
  simp [hj]

set_option maxRecDepth 100000 in
set_option maxHeartbeats 1000000 in
theorem pickInt_p (w : World) (B g n cap b m : Nat) (ao : Option Addr) (p : Int → Prop) (hn : n ≤ 1048576) (hB : B ≤ g) (hm0 : 0 < m) (hm : m ≤ 256) (hb : b < w.heap.size) (hbg : b ≠ g) (hr : Hid (RowIp w b m p)) (hd0 : Hid (Drw w w B g ao n cap)) :
    Calls Try.prog 64 #[.pointer (some ⟨g, 0, none⟩), .slice (some ⟨b, 0, none⟩) m m] w fun e w' => (∃ z : Int, p z ∧ e = .returned (.int .i64 z)) ∧ Hid (Drw w w' B g ao n cap) := by
  go_enter Try.func64, Try.ntmps64
  go_wp2_with (first | (go_at_call 47; refine (below_small w _ B g n cap m ao hn hB hm0 hm (by assumption)).mono ?_; rintro e w1 ⟨⟨x, hx, rfl⟩, hd1⟩; obtain ⟨z, hz, hc⟩ := hr.out.stays hb hbg hd1.out.2.2 x hx))
  go_ret
  exact ⟨⟨z, hz, rfl⟩, hd1⟩

/-- a drawn end in its box, the result's box beside it, and the draw. -/
structure Xs (w0 w W : World) (B g n cap : Nat) (ao : Option Addr) (e : En) (qv ov : Value) : Prop where
  q : EndQ W (w.heap.size + 1) (w.heap.size + 1) e qv ov
  r : EndC W 32 w.heap.size 0 0 (.slice none 0 0) 0 (.slice none 0 0)
  d : Drw w0 W B g ao n cap
  gl : g < w.heap.size
  wl : w0.heap.size ≤ w.heap.size
  bg : B ≤ g
theorem Xs.keep {w0 w W W' : World} {B g n cap : Nat} {ao : Option Addr} {e : En} {qv ov : Value} (h : Xs w0 w W B g n cap ao e qv ov) (hd : Drw W W' B g ao n cap) : Xs w0 w W' B g n cap ao e qv ov := by
  have hg : Gr (fun j => j = g) W W' := ⟨hd.2.2.os, hd.2.2.tape, hd.2.2.output, hd.2.2.size, hd.2.2.block⟩
  have := h.gl
  exact ⟨h.q.gr hg (by omega) (fun j hj he => by have := (Sl.lt h.q.2.1 j hj).1; omega) (fun j hj he => by have := (Sl.lt h.q.2.2.1 j hj).1; omega), (hd.2.2.block w.heap.size h.r.lt (by omega)).trans h.r, ⟨hd.1, hd.2.1, h.d.2.2.trans hd.2.2⟩, h.gl, h.wl, h.bg⟩
theorem Xs.below {w0 w W W' : World} {B g n cap : Nat} {ao : Option Addr} {e : En} {qv ov : Value} (h : Xs w0 w W B g n cap ao e qv ov) (hb : Below W.heap.size W W') : Xs w0 w W' B g n cap ao e qv ov :=
  ⟨h.q.below hb, h.r.below hb, h.d.step h.bg hb, h.gl, h.wl, h.bg⟩
theorem Xs.put {w0 w W : World} {B g n cap j : Nat} {ao : Option Addr} {e f : En} {qv ov qv' : Value} {x : Value} (h : Xs w0 w W B g n cap ao e qv ov) (hc : EndC (W.setCell ⟨w.heap.size + 1, j, none⟩ x) 32 (w.heap.size + 1) f.nx f.ak qv' f.gt ov) (hq : SlT W (w.heap.size + 1) qv' f.q) (ho : f.o = e.o) (hdj : Dj qv' ov) (hne : qv'.ownBlock ≠ some (w.heap.size + 1)) :
    Xs w0 w (W.setCell ⟨w.heap.size + 1, j, none⟩ x) B g n cap ao f qv' ov := by
  have := h.gl
  have := h.wl
  refine ⟨⟨hc, slt_other hq hne, by rw [ho]; exact slt_other h.q.2.2.1 h.q.2.2.2.2.2.2, hdj, Nat.le_refl _, hne, h.q.2.2.2.2.2.2⟩, h.r.other (by omega), h.d.grown h.bg (grown_cell W (w.heap.size + 1) j x) (fun k hk => by simp at hk; omega), h.gl, h.wl, h.bg⟩
theorem Xs.put0 {w0 w W : World} {B g n cap : Nat} {ao : Option Addr} {e : En} {qv ov : Value} (h : Xs w0 w W B g n cap ao e qv ov) (z : Int) : Xs w0 w (W.setCell ⟨w.heap.size + 1, 0, none⟩ (.int .i64 z)) B g n cap ao { e with nx := z } qv ov :=
  h.put (f := { e with nx := z }) (h.q.1.set0 z) h.q.2.1 rfl h.q.2.2.2.1 h.q.2.2.2.2.2.1
theorem Xs.put1 {w0 w W : World} {B g n cap : Nat} {ao : Option Addr} {e : En} {qv ov : Value} (h : Xs w0 w W B g n cap ao e qv ov) (z : Int) : Xs w0 w (W.setCell ⟨w.heap.size + 1, 1, none⟩ (.int .i64 z)) B g n cap ao { e with ak := z } qv ov :=
  h.put (f := { e with ak := z }) (h.q.1.set1 z) h.q.2.1 rfl h.q.2.2.2.1 h.q.2.2.2.2.2.1
theorem Xs.put3 {w0 w W : World} {B g n cap : Nat} {ao : Option Addr} {e : En} {qv ov : Value} (h : Xs w0 w W B g n cap ao e qv ov) (z : Int) : Xs w0 w (W.setCell ⟨w.heap.size + 1, 3, none⟩ (.int .i64 z)) B g n cap ao { e with gt := z } qv ov :=
  h.put (f := { e with gt := z }) (h.q.1.set3 z) h.q.2.1 rfl h.q.2.2.2.1 h.q.2.2.2.2.2.1
theorem Xs.put2 {w0 w W : World} {B g n cap : Nat} {ao : Option Addr} {e : En} {qv ov v : Value} {ss : List ByteArray} (h : Xs w0 w W B g n cap ao e qv ov) (hs : SlT W (w.heap.size + 1) v ss) (hdj : Dj v ov) (hne : v.ownBlock ≠ some (w.heap.size + 1)) : Xs w0 w (W.setCell ⟨w.heap.size + 1, 2, none⟩ v) B g n cap ao { e with q := ss } v ov :=
  h.put (f := { e with q := ss }) (h.q.1.set2 v) hs rfl hdj hne
theorem Xs.gr {w0 w W W' : World} {B g n cap : Nat} {ao : Option Addr} {e : En} {qv ov : Value} (h : Xs w0 w W B g n cap ao e qv ov) (hg : Gr (fun j => j = g ∨ W.heap.size ≤ j) W W') (hd : Drw w0 W' B g ao n cap) : Xs w0 w W' B g n cap ao e qv ov := by
  have := h.gl
  have hp := h.q.1.lt
  have hr := h.r.lt
  exact ⟨h.q.gr hg (by omega) (fun j hj he => by have := Sl.lt h.q.2.1 j hj; omega) (fun j hj he => by have := Sl.lt h.q.2.2.1 j hj; omega), (hg.block w.heap.size hr (by omega)).trans h.r, hd, h.gl, h.wl, h.bg⟩
/-- .. written into the result's box. -/
theorem Xs.fill {w0 w W : World} {B g n cap : Nat} {ao : Option Addr} {e : En} {qv ov : Value} (h : Xs w0 w W B g n cap ao e qv ov) :
    EndM (fillE W w.heap.size e.nx e.ak qv e.gt ov) w.heap.size (.agg #[.int .i64 e.nx, .int .i64 e.ak, qv, .int .i64 e.gt, ov]) e ∧ Drw w0 (fillE W w.heap.size e.nx e.ak qv e.gt ov) B g ao n cap := by
  have K2 := fill_grown W w.heap.size e.nx e.ak e.gt qv ov
  have := h.gl
  have := h.wl
  refine ⟨⟨qv, ov, rfl, Sl.down (Sl.kept h.q.2.1 K2 (fun k hk he => by have := (Sl.lt h.q.2.1 k hk).1; simp at he; omega)) (by omega), Sl.down (Sl.kept h.q.2.2.1 K2 (fun k hk he => by have := (Sl.lt h.q.2.2.1 k hk).1; simp at he; omega)) (by omega), h.q.2.2.2.1⟩, h.d.grown h.bg K2 (fun k hk => by simp at hk; omega)⟩
/-- how great a drawn end is. -/
structure Bnd (e : En) : Prop where
  q : e.q.length ≤ 31
  o : e.o.length ≤ 13
  tq : ∀ t ∈ e.q, t.size ≤ 61
  to' : ∀ t ∈ e.o, t.size ≤ 61
  a0 : -10 ≤ e.ak
  a1 : e.ak ≤ 1001
  g0 : 0 ≤ e.gt
  g1 : e.gt ≤ 14
  ok : okB e = true → e.ak + (e.q.length : Int) ≤ 1000
end Go.Proofs.Ytohagaelenhebaa
