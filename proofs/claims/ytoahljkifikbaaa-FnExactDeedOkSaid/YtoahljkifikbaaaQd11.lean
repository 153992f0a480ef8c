/- Joined texts: CMk CTx CXm CMt CBw. -/
import Derived.Test.YtoahljkifikbaaaQd8
import Derived.Test.YtoahljkifikbaaaQd9
import Derived.Deep.RegionHeld3
import Derived.Deep.QuietTactic
import Derived.BigQuiet
import Derived.Test.YtoahljkifikbaaaQd1
import Derived.Test.YtoahljkifikbaaaQd5
import Derived.Test.YtoahljkifikbaaaQd10
import Derived.Deep.MidRow
/- What a law writes over items, and looks at again. -/
namespace Go.Proofs.Ytoahljkifikbaaa
open Go.RowKit Pl
set_option linter.unusedVariables false

/-- what markText writes. -/
def markS (k : Nat) : ByteArray := strOfNums (109 :: decR k)

/-- the n items that are written from K on. -/
def mkI (K n : Nat) : List It := (List.range n).map fun j => (((K + 4 * j : Nat) : Int), ((K + 4 * j + 1 : Nat) : Int), ((K + 4 * j + 2 : Nat) : Int), markS (K + 4 * j + 3))
end Go.Proofs.Ytoahljkifikbaaa


/- Lists of texts that a law sizes, copies, compares and writes over. -/
namespace Go.Proofs.Ytoahljkifikbaaa
open Go.RowKit Pl
set_option linter.unusedVariables false

end Go.Proofs.Ytoahljkifikbaaa


/- Lists of texts that are marked, and looked at again. -/
namespace Go.Proofs.Ytoahljkifikbaaa
open Go.RowKit Pl
set_option linter.unusedVariables false

/-- the texts that marks are. -/
def mkT (K n : Nat) : List ByteArray := (List.range n).map fun j => markS (K + j)
end Go.Proofs.Ytoahljkifikbaaa


/- Members of a ring in plain words, and where they lie. -/
namespace Go.Proofs.Ytoahljkifikbaaa
open Go.RowKit Pl
set_option linter.unusedVariables false

/-- a token, plain. -/
structure Tok where
  c : Int
  r : Int
  q : Int
  a : Int
  b : Int
  ws : List Int
/-- a member, plain. -/
structure Mt where
  id : Int
  rid : Int
  ms : List Int
  its : List It
  lv : List Int
  tx : List ByteArray
  rd : Int
  se : Int
  li : Int
  he : Int
  la : Tok
/-- a slice. -/
structure Sv where
  a : Option Addr
  n : Nat
  c : Nat
def Sv.v (s : Sv) : Value := .slice s.a s.n s.c
/-- a member's lists, as slices. -/
structure Mv where
  ms : Sv
  its : Sv
  lv : Sv
  tx : Sv
  ws : Sv
def zTok : Tok := ⟨0, 0, 0, 0, 0, []⟩
def zMt : Mt := ⟨0, 0, [], [], [], [], 0, 0, 0, 0, zTok⟩
def zSv : Sv := ⟨none, 0, 0⟩
def zMv : Mv := ⟨zSv, zSv, zSv, zSv, zSv⟩

/-- the block g holds these cells. -/
def Bx (w : World) (g : Nat) (T : TypeId) (cs : List Value) : Prop := w.heap[g]? = some (.cells cs.toArray T (0, 0))
section
variable {w w' : World} {g T : Nat} {cs : List Value}
theorem Bx.new (w : World) (T : TypeId) (cs : List Value) : Bx (w.alloc (.cells cs.toArray T)) w.heap.size T cs := heap_alloc_new w _
theorem Bx.cell (h : Bx w g T cs) (k : Nat) : w.cell? ⟨g, k, none⟩ = cs[k]? := by
  rw [cell_of_row w g k _ T (0, 0) h]; simp
theorem Bx.lt (h : Bx w g T cs) : g < w.heap.size := (Array.getElem?_eq_some_iff.1 h).1
theorem Bx.stays {B : Nat} (h : Bx w g T cs) (hb : Below B w w') (hg : g < B) : Bx w' g T cs := (hb.block g hg).trans h
theorem Bx.later (h : Bx w g T cs) (hb : Below w.heap.size w w') : Bx w' g T cs := h.stays hb h.lt
end

/-- lists that are read. -/
def RI (w : World) (v : Value) (xs : List Int) : Prop := ∃ ao cap, v = .slice ao xs.length cap ∧ IntsAt w ao xs
def RT (w : World) (v : Value) (xs : List ByteArray) : Prop := ∃ ao cap, v = .slice ao xs.length cap ∧ TextsAt w ao xs
def RIt (w : World) (v : Value) (xs : List It) : Prop := ∃ ao cap, v = .slice ao xs.length cap ∧ ItemsAt w ao xs
section
variable {w w' : World} {v : Value}
theorem RI.stays {xs : List Int} (h : RI w v xs) (hb : Below w.heap.size w w') : RI w' v xs := by obtain ⟨a, c, h1, h2⟩ := h; exact ⟨a, c, h1, h2.stays hb⟩
theorem RT.stays {xs : List ByteArray} (h : RT w v xs) (hb : Below w.heap.size w w') : RT w' v xs := by obtain ⟨a, c, h1, h2⟩ := h; exact ⟨a, c, h1, h2.stays hb⟩
theorem RIt.stays {xs : List It} (h : RIt w v xs) (hb : Below w.heap.size w w') : RIt w' v xs := by obtain ⟨a, c, h1, h2⟩ := h; exact ⟨a, c, h1, h2.stays hb⟩
theorem Pl.OwnI.ri {B : Nat} {xs : List Int} (h : OwnI w B v xs) : RI w v xs := h.ints
theorem Pl.OwnS.rt {B : Nat} {xs : List ByteArray} (h : OwnS w B v xs) : RT w v xs := h.texts
theorem SlI.rit {B : Nat} {xs : List It} (h : SlI w B v xs) : RIt w v xs := h.items
end
/-- a member's lists are read. -/
structure MtR (w : World) (m : Mt) (v : Mv) : Prop where
  ms : RI w v.ms.v m.ms
  its : RIt w v.its.v m.its
  lv : RI w v.lv.v m.lv
  tx : RT w v.tx.v m.tx
  ws : RI w v.ws.v m.la.ws
theorem MtR.stays {w w' : World} {m : Mt} {v : Mv} (h : MtR w m v) (hb : Below w.heap.size w w') : MtR w' m v := ⟨h.ms.stays hb, h.its.stays hb, h.lv.stays hb, h.tx.stays hb, h.ws.stays hb⟩
/-- .. and are not too long. -/
structure MtS (m : Mt) : Prop where
  ms : m.ms.length ≤ 1048576
  its : m.its.length ≤ 1048576
  lv : m.lv.length ≤ 1048576
  tx : m.tx.length ≤ 1048576
  ws : m.la.ws.length ≤ 1048576
  it : ∀ x ∈ m.its, x.2.2.2.size ≤ 1048576
  te : ∀ x ∈ m.tx, x.size ≤ 1048576
  all : m.ms.length + m.its.length + m.lv.length + m.tx.length + m.la.ws.length ≤ 1048576

/-- two values that don't share a block. -/
def Ap (a b : Value) : Prop := ∀ k, a.ownBlock = some k → b.ownBlock ≠ some k
/-- a member's lists are its own, each apart. -/
structure MtO (w : World) (B : Nat) (m : Mt) (v : Mv) : Prop where
  ms : OwnI w B v.ms.v m.ms
  its : SlI w B v.its.v m.its
  lv : OwnI w B v.lv.v m.lv
  tx : OwnS w B v.tx.v m.tx
  ws : OwnI w B v.ws.v m.la.ws
  a1 : Ap v.ms.v v.lv.v
  a2 : Ap v.ms.v v.ws.v
  a3 : Ap v.lv.v v.ws.v
/-- the blocks of a member's lists. -/
def Mv.own (v : Mv) (k : Nat) : Prop := v.ms.v.ownBlock = some k ∨ v.its.v.ownBlock = some k ∨ v.lv.v.ownBlock = some k ∨ v.tx.v.ownBlock = some k ∨ v.ws.v.ownBlock = some k
section
variable {w w' : World} {B : Nat} {m : Mt} {v : Mv}
theorem MtO.r (h : MtO w B m v) : MtR w m v := ⟨h.ms.ri, h.its.rit, h.lv.ri, h.tx.rt, h.ws.ri⟩
theorem MtO.lt (h : MtO w B m v) {k : Nat} (hk : v.own k) : B ≤ k ∧ k < w.heap.size := by
  rcases hk with h1 | h1 | h1 | h1 | h1
  · exact h.ms.lt k h1
  · exact h.its.lt k h1
  · exact h.lv.lt k h1
  · exact h.tx.lt k h1
  · exact h.ws.lt k h1
theorem Pl.OwnS.keep' {w w' : World} {B : Nat} {v : Value} {ss : List ByteArray} (h : OwnS w B v ss) (hk : ∀ k, v.ownBlock = Option.some k → k < w.heap.size → w'.heap[k]? = w.heap[k]?) : OwnS w' B v ss := by
  refine ⟨h.1, ?_⟩
  rcases h.2 with hn | ⟨g, cap, cur, rfl, hbg, hg, rest⟩
  · exact .inl hn
  · exact .inr ⟨g, cap, cur, rfl, hbg, (hk g rfl (Array.getElem?_eq_some_iff.1 hg).1).trans hg, rest⟩
theorem MtO.keep (h : MtO w B m v) (hk : ∀ k, v.own k → k < w.heap.size → w'.heap[k]? = w.heap[k]?) : MtO w' B m v :=
  ⟨h.ms.keep fun k a b => hk k (.inl a) b, h.its.keep fun k a b => hk k (.inr (.inl a)) b, h.lv.keep fun k a b => hk k (.inr (.inr (.inl a))) b, h.tx.keep' fun k a b => hk k (.inr (.inr (.inr (.inl a)))) b, h.ws.keep fun k a b => hk k (.inr (.inr (.inr (.inr a)))) b, h.a1, h.a2, h.a3⟩
theorem MtO.later (h : MtO w B m v) (hb : Below w.heap.size w w') : MtO w' B m v := h.keep fun k _ hk => hb.block k hk
end

/-- the block g is a member. -/
def MtB (w : World) (g T : Nat) (m : Mt) (v : Mv) : Prop := Bx w g T [.int .i64 m.id, .int .i64 m.rid, .slice v.ms.a v.ms.n v.ms.c, .slice v.its.a v.its.n v.its.c, .slice v.lv.a v.lv.n v.lv.c, .slice v.tx.a v.tx.n v.tx.c, .int .i64 m.rd, .int .i64 m.se, .int .i64 m.li, .int .i64 m.he, .int .i64 m.la.c, .int .i64 m.la.r, .int .i64 m.la.q, .int .i64 m.la.a, .int .i64 m.la.b, .slice v.ws.a v.ws.n v.ws.c]
theorem MtB.cells {w : World} {g T : Nat} {m : Mt} {v : Mv} (h : MtB w g T m v) :
    (w.cell? ⟨g, 0, none⟩ = some (.int .i64 m.id) ∧ w.cell? ⟨g, 1, none⟩ = some (.int .i64 m.rid) ∧ w.cell? ⟨g, 2, none⟩ = some (.slice v.ms.a v.ms.n v.ms.c) ∧ w.cell? ⟨g, 3, none⟩ = some (.slice v.its.a v.its.n v.its.c) ∧ w.cell? ⟨g, 4, none⟩ = some (.slice v.lv.a v.lv.n v.lv.c) ∧ w.cell? ⟨g, 5, none⟩ = some (.slice v.tx.a v.tx.n v.tx.c)) ∧
    (w.cell? ⟨g, 6, none⟩ = some (.int .i64 m.rd) ∧ w.cell? ⟨g, 7, none⟩ = some (.int .i64 m.se) ∧ w.cell? ⟨g, 8, none⟩ = some (.int .i64 m.li) ∧ w.cell? ⟨g, 9, none⟩ = some (.int .i64 m.he)) ∧
    (w.cell? ⟨g, 10, none⟩ = some (.int .i64 m.la.c) ∧ w.cell? ⟨g, 11, none⟩ = some (.int .i64 m.la.r) ∧ w.cell? ⟨g, 12, none⟩ = some (.int .i64 m.la.q) ∧ w.cell? ⟨g, 13, none⟩ = some (.int .i64 m.la.a) ∧ w.cell? ⟨g, 14, none⟩ = some (.int .i64 m.la.b) ∧ w.cell? ⟨g, 15, none⟩ = some (.slice v.ws.a v.ws.n v.ws.c)) :=
  ⟨⟨Bx.cell h 0, Bx.cell h 1, Bx.cell h 2, Bx.cell h 3, Bx.cell h 4, Bx.cell h 5⟩, ⟨Bx.cell h 6, Bx.cell h 7, Bx.cell h 8, Bx.cell h 9⟩, Bx.cell h 10, Bx.cell h 11, Bx.cell h 12, Bx.cell h 13, Bx.cell h 14, Bx.cell h 15⟩
end Go.Proofs.Ytoahljkifikbaaa


/- Boxes that are loaded and stored as a whole, or in a part, in a walk. No function of the program is named here. -/
namespace Go.Proofs.Ytoahljkifikbaaa
open Go.RowKit Pl
set_option linter.unusedVariables false

section
variable {P : Program} {ops : Array Oper} {rest : List Oper} {o : Oper} {a : Act} {w : World} {Q : Exit → Act → World → Prop}
theorem Bx.range {g T : Nat} {all : List Value} (h : Bx w g T all) (off : Nat) (cs : List Value) (hp : (all.drop off).take cs.length = cs) : w.rangeAt g off cs := by
  intro j v hv
  rw [h.cell]
  have hj : j < cs.length := (List.getElem?_eq_some_iff.1 hv).1
  rw [← hp, List.getElem?_take, if_pos hj, List.getElem?_drop] at hv
  exact hv
end

section
variable {P : Program} {w : World} {fn : Func} {tmps : Array Value}
end
end Go.Proofs.Ytoahljkifikbaaa


