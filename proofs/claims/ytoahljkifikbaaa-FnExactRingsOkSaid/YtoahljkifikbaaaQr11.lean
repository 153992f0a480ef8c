/- Joined texts: CMk CTx CXm CMt CBw CRl1 CQb. -/
import Derived.Test.YtoahljkifikbaaaQr8
import Derived.Test.YtoahljkifikbaaaQr9
import Derived.Deep.RegionHeld3
import Derived.Deep.QuietTactic
import Derived.BigQuiet
import Derived.Test.YtoahljkifikbaaaQr1
import Derived.Test.YtoahljkifikbaaaQr5
import Derived.Test.YtoahljkifikbaaaQr10
import Derived.Deep.MidRow
/- What a law writes over items, and looks at again. -/
namespace Go.Proofs.Ytoahljkifikbaaa
open Go.RowKit Pl
set_option linter.unusedVariables false

/-- what markText writes. -/
def markS (k : Nat) : ByteArray := strOfNums (109 :: decR k)

/-- the n items that are written from K on. -/
def mkI (K n : Nat) : List It := (List.range n).map fun j => (((K + 4 * j : Nat) : Int), ((K + 4 * j + 1 : Nat) : Int), ((K + 4 * j + 2 : Nat) : Int), markS (K + 4 * j + 3))
end Go.Proofs.Ytoahljkifikbaaa


/- Lists of texts that a law sizes, copies, compares and writes over. -/
namespace Go.Proofs.Ytoahljkifikbaaa
open Go.RowKit Pl
set_option linter.unusedVariables false

end Go.Proofs.Ytoahljkifikbaaa


/- Lists of texts that are marked, and looked at again. -/
namespace Go.Proofs.Ytoahljkifikbaaa
open Go.RowKit Pl
set_option linter.unusedVariables false

/-- the texts that marks are. -/
def mkT (K n : Nat) : List ByteArray := (List.range n).map fun j => markS (K + j)
end Go.Proofs.Ytoahljkifikbaaa


/- Members of a ring in plain words, and where they lie. -/
namespace Go.Proofs.Ytoahljkifikbaaa
open Go.RowKit Pl
set_option linter.unusedVariables false

/-- a token, plain. -/
structure Tok where
  c : Int
  r : Int
  q : Int
  a : Int
  b : Int
  ws : List Int
/-- a member, plain. -/
structure Mt where
  id : Int
  rid : Int
  ms : List Int
  its : List It
  lv : List Int
  tx : List ByteArray
  rd : Int
  se : Int
  li : Int
  he : Int
  la : Tok
/-- a slice. -/
structure Sv where
  a : Option Addr
  n : Nat
  c : Nat
def Sv.v (s : Sv) : Value := .slice s.a s.n s.c
/-- a member's lists, as slices. -/
structure Mv where
  ms : Sv
  its : Sv
  lv : Sv
  tx : Sv
  ws : Sv
def zTok : Tok := ⟨0, 0, 0, 0, 0, []⟩
def zMt : Mt := ⟨0, 0, [], [], [], [], 0, 0, 0, 0, zTok⟩
def zSv : Sv := ⟨none, 0, 0⟩
def zMv : Mv := ⟨zSv, zSv, zSv, zSv, zSv⟩

/-- the block g holds these cells. -/
def Bx (w : World) (g : Nat) (T : TypeId) (cs : List Value) : Prop := w.heap[g]? = some (.cells cs.toArray T (0, 0))
section
variable {w w' : World} {g T : Nat} {cs : List Value}
theorem Bx.new (w : World) (T : TypeId) (cs : List Value) : Bx (w.alloc (.cells cs.toArray T)) w.heap.size T cs := heap_alloc_new w _
theorem Bx.cell (h : Bx w g T cs) (k : Nat) : w.cell? ⟨g, k, none⟩ = cs[k]? := by
  rw [cell_of_row w g k _ T (0, 0) h]; simp
theorem Bx.frozen (h : Bx w g T cs) (k : Nat) : w.frozen? ⟨g, k, none⟩ = false := frozen_of_row w g k _ T h
theorem Bx.lt (h : Bx w g T cs) : g < w.heap.size := (Array.getElem?_eq_some_iff.1 h).1
theorem Bx.stays {B : Nat} (h : Bx w g T cs) (hb : Below B w w') (hg : g < B) : Bx w' g T cs := (hb.block g hg).trans h
theorem Bx.later (h : Bx w g T cs) (hb : Below w.heap.size w w') : Bx w' g T cs := h.stays hb h.lt
theorem Bx.set (h : Bx w g T cs) (k : Nat) (u : Value) : Bx (w.setCell ⟨g, k, none⟩ u) g T (cs.set k u) := by
  have := heap_setCell_same w g k _ T u h
  simpa [Bx] using this
theorem Bx.turn {k : Nat} (h : Bx w g T cs) (ht : TurnAt k w w') (hne : g ≠ k) : Bx w' g T cs := (ht.block g hne).trans h
end

/-- lists that are read. -/
def RI (w : World) (v : Value) (xs : List Int) : Prop := ∃ ao cap, v = .slice ao xs.length cap ∧ IntsAt w ao xs
def RT (w : World) (v : Value) (xs : List ByteArray) : Prop := ∃ ao cap, v = .slice ao xs.length cap ∧ TextsAt w ao xs
def RIt (w : World) (v : Value) (xs : List It) : Prop := ∃ ao cap, v = .slice ao xs.length cap ∧ ItemsAt w ao xs
section
variable {w w' : World} {v : Value}
theorem RI.stays {xs : List Int} (h : RI w v xs) (hb : Below w.heap.size w w') : RI w' v xs := by obtain ⟨a, c, h1, h2⟩ := h; exact ⟨a, c, h1, h2.stays hb⟩
theorem RT.stays {xs : List ByteArray} (h : RT w v xs) (hb : Below w.heap.size w w') : RT w' v xs := by obtain ⟨a, c, h1, h2⟩ := h; exact ⟨a, c, h1, h2.stays hb⟩
theorem RIt.stays {xs : List It} (h : RIt w v xs) (hb : Below w.heap.size w w') : RIt w' v xs := by obtain ⟨a, c, h1, h2⟩ := h; exact ⟨a, c, h1, h2.stays hb⟩
theorem Pl.OwnI.ri {B : Nat} {xs : List Int} (h : OwnI w B v xs) : RI w v xs := h.ints
theorem Pl.OwnS.rt {B : Nat} {xs : List ByteArray} (h : OwnS w B v xs) : RT w v xs := h.texts
theorem SlI.rit {B : Nat} {xs : List It} (h : SlI w B v xs) : RIt w v xs := h.items
end
/-- a member's lists are read. -/
structure MtR (w : World) (m : Mt) (v : Mv) : Prop where
  ms : RI w v.ms.v m.ms
  its : RIt w v.its.v m.its
  lv : RI w v.lv.v m.lv
  tx : RT w v.tx.v m.tx
  ws : RI w v.ws.v m.la.ws
theorem MtR.stays {w w' : World} {m : Mt} {v : Mv} (h : MtR w m v) (hb : Below w.heap.size w w') : MtR w' m v := ⟨h.ms.stays hb, h.its.stays hb, h.lv.stays hb, h.tx.stays hb, h.ws.stays hb⟩
/-- .. and are not too long. -/
structure MtS (m : Mt) : Prop where
  ms : m.ms.length ≤ 1048576
  its : m.its.length ≤ 1048576
  lv : m.lv.length ≤ 1048576
  tx : m.tx.length ≤ 1048576
  ws : m.la.ws.length ≤ 1048576
  it : ∀ x ∈ m.its, x.2.2.2.size ≤ 1048576
  te : ∀ x ∈ m.tx, x.size ≤ 1048576
  all : m.ms.length + m.its.length + m.lv.length + m.tx.length + m.la.ws.length ≤ 1048576

/-- two values that don't share a block. -/
def Ap (a b : Value) : Prop := ∀ k, a.ownBlock = some k → b.ownBlock ≠ some k
theorem Ap.symm {a b : Value} (h : Ap a b) : Ap b a := fun k hb ha => h k ha hb
/-- a member's lists are its own, each apart. -/
structure MtO (w : World) (B : Nat) (m : Mt) (v : Mv) : Prop where
  ms : OwnI w B v.ms.v m.ms
  its : SlI w B v.its.v m.its
  lv : OwnI w B v.lv.v m.lv
  tx : OwnS w B v.tx.v m.tx
  ws : OwnI w B v.ws.v m.la.ws
  a1 : Ap v.ms.v v.lv.v
  a2 : Ap v.ms.v v.ws.v
  a3 : Ap v.lv.v v.ws.v
/-- the blocks of a member's lists. -/
def Mv.own (v : Mv) (k : Nat) : Prop := v.ms.v.ownBlock = some k ∨ v.its.v.ownBlock = some k ∨ v.lv.v.ownBlock = some k ∨ v.tx.v.ownBlock = some k ∨ v.ws.v.ownBlock = some k
section
variable {w w' : World} {B : Nat} {m : Mt} {v : Mv}
theorem MtO.r (h : MtO w B m v) : MtR w m v := ⟨h.ms.ri, h.its.rit, h.lv.ri, h.tx.rt, h.ws.ri⟩
theorem MtO.lt (h : MtO w B m v) {k : Nat} (hk : v.own k) : B ≤ k ∧ k < w.heap.size := by
  rcases hk with h1 | h1 | h1 | h1 | h1
  · exact h.ms.lt k h1
  · exact h.its.lt k h1
  · exact h.lv.lt k h1
  · exact h.tx.lt k h1
  · exact h.ws.lt k h1
theorem Pl.OwnS.keep' {w w' : World} {B : Nat} {v : Value} {ss : List ByteArray} (h : OwnS w B v ss) (hk : ∀ k, v.ownBlock = Option.some k → k < w.heap.size → w'.heap[k]? = w.heap[k]?) : OwnS w' B v ss := by
  refine ⟨h.1, ?_⟩
  rcases h.2 with hn | ⟨g, cap, cur, rfl, hbg, hg, rest⟩
  · exact .inl hn
  · exact .inr ⟨g, cap, cur, rfl, hbg, (hk g rfl (Array.getElem?_eq_some_iff.1 hg).1).trans hg, rest⟩
theorem MtO.keep (h : MtO w B m v) (hk : ∀ k, v.own k → k < w.heap.size → w'.heap[k]? = w.heap[k]?) : MtO w' B m v :=
  ⟨h.ms.keep fun k a b => hk k (.inl a) b, h.its.keep fun k a b => hk k (.inr (.inl a)) b, h.lv.keep fun k a b => hk k (.inr (.inr (.inl a))) b, h.tx.keep' fun k a b => hk k (.inr (.inr (.inr (.inl a)))) b, h.ws.keep fun k a b => hk k (.inr (.inr (.inr (.inr a)))) b, h.a1, h.a2, h.a3⟩
theorem MtO.later (h : MtO w B m v) (hb : Below w.heap.size w w') : MtO w' B m v := h.keep fun k _ hk => hb.block k hk
theorem MtO.down {B' : Nat} (h : MtO w B m v) (hB : B' ≤ B) : MtO w B' m v := ⟨h.ms.down hB, h.its.down hB, h.lv.down hB, h.tx.down hB, h.ws.down hB, h.a1, h.a2, h.a3⟩
end

/-- the block g is a member. -/
def MtB (w : World) (g T : Nat) (m : Mt) (v : Mv) : Prop := Bx w g T [.int .i64 m.id, .int .i64 m.rid, .slice v.ms.a v.ms.n v.ms.c, .slice v.its.a v.its.n v.its.c, .slice v.lv.a v.lv.n v.lv.c, .slice v.tx.a v.tx.n v.tx.c, .int .i64 m.rd, .int .i64 m.se, .int .i64 m.li, .int .i64 m.he, .int .i64 m.la.c, .int .i64 m.la.r, .int .i64 m.la.q, .int .i64 m.la.a, .int .i64 m.la.b, .slice v.ws.a v.ws.n v.ws.c]
theorem MtB.cells {w : World} {g T : Nat} {m : Mt} {v : Mv} (h : MtB w g T m v) :
    (w.cell? ⟨g, 0, none⟩ = some (.int .i64 m.id) ∧ w.cell? ⟨g, 1, none⟩ = some (.int .i64 m.rid) ∧ w.cell? ⟨g, 2, none⟩ = some (.slice v.ms.a v.ms.n v.ms.c) ∧ w.cell? ⟨g, 3, none⟩ = some (.slice v.its.a v.its.n v.its.c) ∧ w.cell? ⟨g, 4, none⟩ = some (.slice v.lv.a v.lv.n v.lv.c) ∧ w.cell? ⟨g, 5, none⟩ = some (.slice v.tx.a v.tx.n v.tx.c)) ∧
    (w.cell? ⟨g, 6, none⟩ = some (.int .i64 m.rd) ∧ w.cell? ⟨g, 7, none⟩ = some (.int .i64 m.se) ∧ w.cell? ⟨g, 8, none⟩ = some (.int .i64 m.li) ∧ w.cell? ⟨g, 9, none⟩ = some (.int .i64 m.he)) ∧
    (w.cell? ⟨g, 10, none⟩ = some (.int .i64 m.la.c) ∧ w.cell? ⟨g, 11, none⟩ = some (.int .i64 m.la.r) ∧ w.cell? ⟨g, 12, none⟩ = some (.int .i64 m.la.q) ∧ w.cell? ⟨g, 13, none⟩ = some (.int .i64 m.la.a) ∧ w.cell? ⟨g, 14, none⟩ = some (.int .i64 m.la.b) ∧ w.cell? ⟨g, 15, none⟩ = some (.slice v.ws.a v.ws.n v.ws.c)) :=
  ⟨⟨Bx.cell h 0, Bx.cell h 1, Bx.cell h 2, Bx.cell h 3, Bx.cell h 4, Bx.cell h 5⟩, ⟨Bx.cell h 6, Bx.cell h 7, Bx.cell h 8, Bx.cell h 9⟩, Bx.cell h 10, Bx.cell h 11, Bx.cell h 12, Bx.cell h 13, Bx.cell h 14, Bx.cell h 15⟩
end Go.Proofs.Ytoahljkifikbaaa


/- Boxes that are loaded and stored as a whole, or in a part, in a walk. No function of the program is named here. -/
namespace Go.Proofs.Ytoahljkifikbaaa
open Go.RowKit Pl
set_option linter.unusedVariables false

section
variable {P : Program} {ops : Array Oper} {rest : List Oper} {o : Oper} {a : Act} {w : World} {Q : Exit → Act → World → Prop}
theorem Bx.range {g T : Nat} {all : List Value} (h : Bx w g T all) (off : Nat) (cs : List Value) (hp : (all.drop off).take cs.length = cs) : w.rangeAt g off cs := by
  intro j v hv
  rw [h.cell]
  have hj : j < cs.length := (List.getElem?_eq_some_iff.1 hv).1
  rw [← hp, List.getElem?_take, if_pos hj, List.getElem?_drop] at hv
  exact hv
theorem Bx.there {g T : Nat} {all : List Value} (h : Bx w g T all) (off n : Nat) (hn : off + n ≤ all.length) : w.there g off n := fun j hj => by
  refine ⟨?_, h.frozen _⟩
  rw [h.cell, List.getElem?_eq_getElem (by omega)]
  rfl
theorem setCells_list : ∀ (vs : List Value) (w : World) (g o T : Nat) (all : List Value), Bx w g T all → o + vs.length ≤ all.length → Bx (w.setCells g o vs) g T (all.take o ++ vs ++ all.drop (o + vs.length)) := by
  intro vs
  induction vs with
  | nil => intro w g o T all h _; simpa [World.setCells] using h
  | cons x vs ih =>
    intro w g o T all h hl
    simp only [List.length_cons] at hl
    have h1 := h.set o x
    have h2 := ih _ g (o + 1) T _ h1 (by simp; omega)
    rw [World.setCells]
    have e : (all.set o x).take (o + 1) ++ vs ++ (all.set o x).drop (o + 1 + vs.length) = all.take o ++ x :: vs ++ all.drop (o + (x :: vs).length) := by
      rw [List.drop_set, if_pos (by omega), List.take_set]
      have e1 : (all.take (o + 1)).set o x = all.take o ++ [x] := by
        rw [List.take_succ_eq_append_getElem (by omega), List.set_append, if_neg (by rw [List.length_take]; omega)]
        simp [List.length_take, Nat.min_eq_left (show o ≤ all.length by omega)]
      rw [e1]
      simp [Nat.add_assoc, Nat.add_comm 1 vs.length]
    rw [e] at h2
    exact h2
theorem setCells_turn : ∀ (vs : List Value) (w : World) (g o : Nat), TurnAt g w (w.setCells g o vs) := by
  intro vs
  induction vs with
  | nil => intro w g o; exact TurnAt.refl _ _
  | cons x vs ih =>
    intro w g o
    rw [World.setCells]
    exact ((TurnAt.refl g w).setCell o x).trans (ih _ g (o + 1))

/-- what a store into a box leaves. -/
theorem Bx.store {g T : Nat} {all : List Value} (hB : Bx w g T all) (P : Program) (ty : TypeId) (off : Nat) (cs : List Value) (hl : off + cs.length ≤ all.length) (hi : (P.info? ty).map (·.size) = some cs.length) (h1 : cs.all (·.oneCell') = true) (all' : List Value) (he : all.take off ++ cs ++ all.drop (off + cs.length) = all') :
    ∃ w', (storeVar ty ⟨g, off, none⟩ (.agg cs.toArray)).run P w = .ok () w' ∧ Bx w' g T all' ∧ TurnAt g w w' := by
  subst he
  exact ⟨_, run_storeVar_mid w g off ty cs.toArray (by simpa using hB.there off cs.length hl) (by simpa using hi) (all_oneCell_toArray (List.all_eq_true.1 h1)), by simpa using setCells_list cs w g off T all hB hl, by simpa using setCells_turn cs w g off⟩
/-- a struct is stored into a box, or into a part of it. -/
theorem wpList_stB (hgd : o.guard = none) (ty : TypeId) (x y : Operand) (ho : o.op = .store ty x y) (g off : Nat) (hx : a.eval x = .pointer (some ⟨g, off, none⟩)) (T : Nat) (all : List Value) (hB : Bx w g T all) (cs : List Value) (hy : a.eval y = .agg cs.toArray)
    (hl : off + cs.length ≤ all.length) (hi : (P.info? ty).map (·.size) = some cs.length) (h1 : cs.all (·.oneCell') = true) (all' : List Value) (he : all.take off ++ cs ++ all.drop (off + cs.length) = all')
    (h : ∀ w', Bx w' g T all' → TurnAt g w w' → wpList P ops Q rest (a.put o.dst undef) w') : wpList P ops Q (o :: rest) a w := by
  refine wpList_store_mid hgd ty x y ho g off cs.toArray hx hy (by simpa using hB.there off cs.length hl) (by simpa using hi) (all_oneCell_toArray (List.all_eq_true.1 h1)) ?_
  subst he
  exact h _ (by simpa using setCells_list cs w g off T all hB hl) (by simpa using setCells_turn cs w g off)
end

section
variable {P : Program} {w : World} {fn : Func} {tmps : Array Value}
end
end Go.Proofs.Ytoahljkifikbaaa


/- A statement that leaves its order open, walked with a condition on the worlds that it passes through, its last operation apart: that one waits for all others, and the condition need not hold behind it. -/
namespace Go.Proofs.Ytoahljkifikbaaa.Pl
open Go Go.RowKit
set_option linter.unusedVariables false

section
variable {P : Program} {ops : Array Oper} {Q : Exit → Act → World → Prop} {a : Act} {w : World}
/-! ### a statement that leaves its order open, its last operation apart -/
/-- i comes, by edges, ahead of j. -/
def reachB (ops : Array Oper) : Nat → Nat → Nat → Bool
  | 0, _, _ => false
  | f + 1, j, i => ((ops[j]?).map (fun o => o.after.any fun e => Region.binds .any e && (e.on == i || reachB ops f e.on i))).getD false
/-- every edge goes back. -/
def backB (ops : Array Oper) : Bool := (List.range ops.size).all fun i => ((ops[i]?).map (fun o => o.after.all fun e => !Region.binds .any e || decide (e.on < i))).getD true

def DownL (ops : Array Oper) (listed : Array Bool) : Prop := ∀ i o, ops[i]? = some o → listed.getD i false = true → ∀ e ∈ o.after, Region.binds .any e = true → listed.getD e.on false = true

end
section
variable {P : Program} {Q : Exit → Act → World → Prop} {S : World → Prop}
/-- Q, but behind all the others: the last operation. -/
def LastQ (P : Program) (ops : Array Oper) (Q : Exit → Act → World → Prop) (m : Nat) : Exit → Act → World → Prop
  | .normal, a, w => wpOp P ops Q m (fun a' w' => Q .normal a' w') a w
  | e, a, w => Q e a w

end
end Go.Proofs.Ytoahljkifikbaaa.Pl


/- A drawn region that only reads and calls, walked operation by operation: a callee that leaves what was there. -/
namespace Go.Proofs.Ytoahljkifikbaaa
open Go.RowKit Pl
set_option linter.unusedVariables false

end Go.Proofs.Ytoahljkifikbaaa


