/- Joined texts: COwn CDr COwI COwS CK2. -/
import Derived.WalkKit
import Derived.WalkSpells
import Derived.WalkLawsBesides
import Derived.Laws.BytesArg
import Derived.Laws.OwnMore
import Derived.Laws.BitsAllLaws
import Derived.Below
/- Laws for a slice of bytes that the call itself has made: one byte appended, several appended, turned into a string; no program is named here. -/
namespace Go.Proofs.YtmbjflhhffcjdaaDoor.Pl
open Go Go.RowKit

/-- the slice v, made by the call in blocks from B on, holds the bytes xs. -/
def OwnB (w : World) (B : Nat) (e : TypeId) (v : Value) (xs : List Int) : Prop :=
  w.ownsRow B e 1 v xs.length (xs.map (Value.int .u8))

theorem OwnB.alloc {w : World} {B : Nat} {e : TypeId} {v : Value} {xs : List Int} (h : OwnB w B e v xs) (o : Obj) : OwnB (w.alloc o) B e v xs :=
  World.ownsRow.alloc h o

theorem OwnB.made (w : World) (B : Nat) (e : TypeId) (cur : Array Value) (cap : Nat) (hb : B ≤ w.heap.size) (hm : cap ≤ maxLen) (hs : cur.size = cap) :
    OwnB (w.alloc (.cells cur e)) B e (.slice (some ⟨w.heap.size, 0, none⟩) 0 cap) [] := by
  have := World.ownsRow_made (base := B) (e := e) (size := 1) w cur cap hb hm (by omega)
  simpa [OwnB] using this

theorem wpList_push {P : Program} {w : World} {ops : Array Oper} {rest : List Oper} {o : Oper} {a : Act} {Q : Exit → Act → World → Prop}
    (hgd : o.guard = none) (s x : Operand) (t e : TypeId) (ho : o.op = .call { callee := .builtin .append, args := #[s, x], argTypes := #[t, t] })
    (ht : P.underlying t = some (.slice e)) (hinfo : (P.info? e).map (fun i => (i.zero, i.size, i.bytes)) = some (some (.int .u8 0), 1, 1))
    (B : Nat) (v : Value) (xs : List Int) (hs : a.eval s = v) (hown : OwnB w B e v xs) (b : Int)
    (hx : a.eval x = .slice (some ⟨w.heap.size, 0, none⟩) 1 1) (hn : xs.length < 70368744177664) (hB : B ≤ w.heap.size)
    (h : ∀ v' w', OwnB w' B e v' (xs ++ [b]) → Below B w w' → wpList P ops Q rest (a.put o.dst v') w') :
    wpList P ops Q (o :: rest) a (w.alloc (.cells #[.int .u8 b] e)) := by
  obtain ⟨i0, hi, hz0, hz1, hz2⟩ := info_parts hinfo
  refine wpList_append_own _ hgd s x t ho B e i0 (.int .u8 0) 1 1 ht hi hz0 hz1 hz2 rfl (by decide) v xs.length (xs.map (Value.int .u8)) hs (World.ownsRow.alloc hown _) ⟨w.heap.size, 0, none⟩ 1 1 [.int .u8 b] hx rfl ?_ ?_ ?_ ?_ ?_ ?_
  · intro j u hj
    match j, hj with
    | 0, hj => simp at hj; subst hj; simp [Addr.add]
  · intro u hu; simp at hu; subst hu; rfl
  · unfold maxLen; omega
  · omega
  · simp; omega
  · intro v' w' hown' hg _
    refine h v' w' ?_ ?_
    · simpa [OwnB] using hown'
    · refine ((Below.refl B w).alloc hB _).grown hg (by simp; omega) ?_
      intro k hk
      exact (World.ownsRow.lt hown k hk).1

theorem conv_own {P : Program} {w : World} {B : Nat} {src dst e : TypeId} {v : Value} {xs : List Int} (hs : P.underlying src = some (.slice e)) (he : P.underlying e = some (.int .u8)) (hd : P.underlying dst = some .string)
    (h : OwnB w B e v xs) : (convert src dst v).run P w = .ok (.string (strOfNums xs)) w := by
  rcases h.2 with ⟨rfl, hn⟩ | ⟨g, cap, cur, rfl, _, _⟩
  · have : xs = [] := List.eq_nil_of_length_eq_zero hn
    subst this
    exact run_convert_bytes_nil w src e hs he 0 0 dst hd
  · refine run_convert_bytes_arg w src e hs he g 0 xs.length cap xs rfl ?_ dst hd
    intro i hi
    have := World.ownsRow.cellAt h i (by omega)
    rw [Nat.zero_add, this]
    simp [hi]

theorem wpList_makeB {P : Program} {w : World} {ops : Array Oper} {rest : List Oper} {o : Oper} {a : Act} {Q : Exit → Act → World → Prop}
    (hgd : o.guard = none) (l c : Operand) (t e : TypeId) (ho : o.op = Op.makeSlice t l c)
    (ht : P.underlying t = some (.slice e)) (hinfo : (P.info? e).map (fun i => (i.zero, i.size, i.bytes)) = some (some (.int .u8 0), 1, 1))
    (B : Nat) (kl kc : IntKind) (C : Int) (n : Nat) (hl : a.eval l = .int kl 0) (hc : a.eval c = .int kc C) (hC : C = (n : Int)) (hn : n ≤ 281474976710656) (hB : B ≤ w.heap.size)
    (h : ∀ v w', OwnB w' B e v [] → Below B w w' → wpList P ops Q rest (a.put o.dst v) w') :
    wpList P ops Q (o :: rest) a w := by
  obtain ⟨i0, hi, hz0, hz1, hz2⟩ := info_parts hinfo
  refine wpList_make_own w hgd l c t ho B e i0 (.int .u8 0) 1 ht hi hz0 hz1 kl kc C n hl hc hC (by rw [hz2]; omega) (by unfold maxLen; omega) hB ?_
  intro w' hown hg
  refine h _ w' (by simpa [OwnB] using hown) ((Below.refl B w).grown hg hB ?_)
  intro k hk
  cases hk

end Go.Proofs.YtmbjflhhffcjdaaDoor.Pl


/- The draws' cursor: what it holds, what a turn of it leaves; slices of ints that the call itself has made. No program is named here. -/
namespace Go.Proofs.YtmbjflhhffcjdaaDoor.Pl
open Go Go.RowKit

/-- a handed slice of n bytes, in a block below B. -/
def CodeAt (w : World) (B : Nat) (ao : Option Addr) (n : Nat) : Prop :=
  ∀ i, i < n → ∃ (b off : Nat) (z : Int), ao = some ⟨b, off, none⟩ ∧ b < B ∧ w.cell? ⟨b, off + i, none⟩ = some (.int .u8 z) ∧ 0 ≤ z ∧ z < 256

theorem CodeAt.stays {w w' : World} {B B' : Nat} {ao : Option Addr} {n : Nat} (h : CodeAt w B ao n) (hb : Below B' w w') (hB : B ≤ B') : CodeAt w' B ao n := by
  intro i hi
  obtain ⟨b, off, z, h1, h2, h3, h4⟩ := h i hi
  exact ⟨b, off, z, h1, h2, (hb.cell (p := ⟨b, off + i, none⟩) (Nat.lt_of_lt_of_le h2 hB)).trans h3, h4⟩

/-- the block g is a cursor over that slice. -/
def CurAt (w : World) (T : TypeId) (g : Nat) (ao : Option Addr) (n cap : Nat) : Prop :=
  ∃ (i : Nat) (h : Int), i ≤ n ∧ w.heap[g]? = some (.cells #[.slice ao n cap, .int .i64 i, .int .i64 h] T (0, 0))

/-- of all that was there the block g alone has turned. -/
structure TurnAt (g : Nat) (w w' : World) : Prop where
  os : w'.os = w.os
  tape : w'.tape = w.tape
  output : w'.output = w.output
  size : w'.heap.size = w.heap.size
  block : ∀ k, k ≠ g → w'.heap[k]? = w.heap[k]?

theorem TurnAt.refl (g : Nat) (w : World) : TurnAt g w w := ⟨rfl, rfl, rfl, rfl, fun _ _ => rfl⟩
theorem TurnAt.trans {g : Nat} {a b c : World} (h : TurnAt g a b) (k : TurnAt g b c) : TurnAt g a c :=
  ⟨k.os.trans h.os, k.tape.trans h.tape, k.output.trans h.output, k.size.trans h.size, fun i hi => (k.block i hi).trans (h.block i hi)⟩
theorem TurnAt.drewN {g : Nat} {a w : World} (h : TurnAt g a w) (n : Nat) : TurnAt g a (w.drewN n) := ⟨h.os, h.tape, h.output, h.size, h.block⟩
theorem TurnAt.setCell {g : Nat} {a w : World} (h : TurnAt g a w) (j : Nat) (u : Value) : TurnAt g a (w.setCell ⟨g, j, none⟩ u) :=
  ⟨h.os, h.tape, h.output, by simp [World.setCell]; exact h.size, fun k hk => (Below.heap_setCell w ⟨g, j, none⟩ u k hk).trans (h.block k hk)⟩
theorem TurnAt.below {g B : Nat} {w w' : World} (h : TurnAt g w w') (hB : B ≤ g) : Below B w w' :=
  ⟨h.os, h.tape, h.output, by rw [h.size]; exact Nat.le_refl _, fun k hk => h.block k (by omega)⟩

/-- of all that was there the block g alone may have turned; new blocks may have come. -/
structure KeepBut (g : Nat) (w w' : World) : Prop where
  os : w'.os = w.os
  tape : w'.tape = w.tape
  output : w'.output = w.output
  size : w.heap.size ≤ w'.heap.size
  block : ∀ k, k < w.heap.size → k ≠ g → w'.heap[k]? = w.heap[k]?

theorem KeepBut.refl (g : Nat) (w : World) : KeepBut g w w := ⟨rfl, rfl, rfl, Nat.le_refl _, fun _ _ _ => rfl⟩
theorem KeepBut.trans {g : Nat} {a b c : World} (h : KeepBut g a b) (k : KeepBut g b c) : KeepBut g a c :=
  ⟨k.os.trans h.os, k.tape.trans h.tape, k.output.trans h.output, Nat.le_trans h.size k.size, fun i hi hg => (k.block i (Nat.lt_of_lt_of_le hi h.size) hg).trans (h.block i hi hg)⟩
theorem TurnAt.keep {g : Nat} {w w' : World} (h : TurnAt g w w') : KeepBut g w w' := ⟨h.os, h.tape, h.output, by rw [h.size]; exact Nat.le_refl _, fun k _ hk => h.block k hk⟩
theorem keep_of_below {g : Nat} {w w' : World} (h : Below w.heap.size w w') : KeepBut g w w' := ⟨h.os, h.tape, h.output, h.size, fun k hk _ => h.block k hk⟩
theorem KeepBut.below {g B : Nat} {w w' : World} (h : KeepBut g w w') (hB : B ≤ g) (hg : B ≤ w.heap.size) : Below B w w' :=
  ⟨h.os, h.tape, h.output, h.size, fun k hk => h.block k (by omega) (by omega)⟩

theorem and255 (X : Int) : ∃ x : Nat, x < 256 ∧ bits .and .i64 X 255 = (x : Int) := by
  refine ⟨(BitVec.ofInt 64 X &&& BitVec.ofInt 64 255).toNat, ?_, ?_⟩
  · rw [BitVec.toNat_and]
    have h : (BitVec.ofInt 64 255).toNat = 255 := by decide
    rw [h]
    have := @Nat.and_le_right (BitVec.ofInt 64 X).toNat 255
    omega
  · show IntKind.i64.wrap ((BitVec.ofInt 64 X &&& BitVec.ofInt 64 255).toNat : Int) = _
    rw [BitVec.toNat_and]
    have h : (BitVec.ofInt 64 255).toNat = 255 := by decide
    rw [h]
    have := @Nat.and_le_right (BitVec.ofInt 64 X).toNat 255
    rw [IntKind.wrap_i64]
    omega
end Go.Proofs.YtmbjflhhffcjdaaDoor.Pl


/- Laws for a slice of ints that the call itself has made, and for one that is handed in. No program is named here. -/
namespace Go.Proofs.YtmbjflhhffcjdaaDoor.Pl
open Go Go.RowKit
set_option linter.unusedVariables false

/-- the slice v, made by the call in blocks from B on, holds the ints ss. -/
def OwnI (w : World) (B : Nat) (v : Value) (ss : List Int) : Prop := w.ownsRow B 3 1 v ss.length (ss.map (Value.int .i64))

theorem OwnI.alloc {w : World} {B : Nat} {v : Value} {ss : List Int} (h : OwnI w B v ss) (o : Obj) : OwnI (w.alloc o) B v ss := World.ownsRow.alloc h o

theorem OwnI.made (w : World) (B : Nat) (hb : B ≤ w.heap.size) : OwnI (w.alloc (.cells #[] 3)) B (.slice (some ⟨w.heap.size, 0, none⟩) 0 0) [] := by
  have := World.ownsRow_made (base := B) (e := 3) (size := 1) w #[] 0 hb (by decide) (by simp)
  simpa [OwnI] using this

theorem OwnI.form {w : World} {B : Nat} {v : Value} {ss : List Int} (h : OwnI w B v ss) : ∃ ao cap, v = .slice ao ss.length cap := by
  rcases h.2 with ⟨rfl, hn⟩ | ⟨g, cap, cur, rfl, _⟩
  · exact ⟨none, 0, by rw [hn]⟩
  · exact ⟨_, cap, rfl⟩

theorem OwnI.some {w : World} {B : Nat} {v : Value} {ss : List Int} (h : OwnI w B v ss) (h0 : 0 < ss.length) :
    ∃ g cap, v = .slice (some ⟨g, 0, none⟩) ss.length cap ∧ B ≤ g ∧ g < w.heap.size ∧ (∀ j, (hj : j < ss.length) → w.cell? ⟨g, j, none⟩ = some (.int .i64 ss[j])) ∧ ∀ j, w.frozen? ⟨g, j, none⟩ = false := by
  rcases h.2 with ⟨rfl, hn⟩ | ⟨g, cap, cur, rfl, hb, hg, _⟩
  · omega
  · refine ⟨g, cap, rfl, hb, (Array.getElem?_eq_some_iff.1 hg).1, fun j hj => ?_, fun j => World.ownsRow.frozenAt h j⟩
    have := World.ownsRow.cellAt h j (by omega)
    rw [this]
    simp [hj]

/-- what is owned below B' stays owned where nothing below B' has turned. -/
theorem OwnI.stays {w w' : World} {B B' : Nat} {v : Value} {ss : List Int} (h : OwnI w B v ss) (hb : Below B' w w') (hlt : ∀ k, v.ownBlock = Option.some k → k < B') : OwnI w' B v ss := by
  refine ⟨h.1, ?_⟩
  rcases h.2 with hn | ⟨g, cap, cur, rfl, hbg, hg, rest⟩
  · exact .inl hn
  · refine .inr ⟨g, cap, cur, rfl, hbg, ?_, rest⟩
    rw [hb.block g (hlt g rfl)]
    exact hg

theorem OwnI.lt {w : World} {B : Nat} {v : Value} {ss : List Int} (h : OwnI w B v ss) : ∀ k, v.ownBlock = Option.some k → B ≤ k ∧ k < w.heap.size := World.ownsRow.lt h

theorem OwnI.store {w : World} {B g cap : Nat} {ss : List Int} (h : OwnI w B (.slice (Option.some ⟨g, 0, none⟩) ss.length cap) ss) (k : Nat) (x : Int) :
    OwnI (w.setCell ⟨g, k, none⟩ (.int .i64 x)) B (.slice (Option.some ⟨g, 0, none⟩) ss.length cap) (ss.set k x) ∧ w.grownBy (w.setCell ⟨g, k, none⟩ (.int .i64 x)) (Option.some g) := by
  have := World.ownsRow.stored h k (.int .i64 x)
  refine ⟨?_, this.2⟩
  have h1 := this.1
  rw [← List.map_set] at h1
  simpa [OwnI] using h1

theorem OwnI.down {w : World} {B B' : Nat} {v : Value} {ss : List Int} (h : OwnI w B v ss) (hB : B' ≤ B) : OwnI w B' v ss := by
  refine ⟨h.1, ?_⟩
  rcases h.2 with hn | ⟨g, cap, cur, rfl, hbg, rest⟩
  · exact .inl hn
  · exact .inr ⟨g, cap, cur, rfl, by omega, rest⟩

/-- a slice of ints, handed in. -/
def IntsAt (w : World) (ao : Option Addr) (ts : List Int) : Prop :=
  ∀ i (h : i < ts.length), ∃ b off, ao = some ⟨b, off, none⟩ ∧ b < w.heap.size ∧ w.cell? ⟨b, off + i, none⟩ = some (.int .i64 ts[i])

theorem IntsAt.stays {w w' : World} {ao : Option Addr} {ts : List Int} (h : IntsAt w ao ts) (hb : Below w.heap.size w w') : IntsAt w' ao ts := by
  intro i hi
  obtain ⟨b, off, h1, h2, h3⟩ := h i hi
  exact ⟨b, off, h1, Nat.lt_of_lt_of_le h2 hb.size, (hb.cell (p := ⟨b, off + i, none⟩) h2).trans h3⟩

/-- .. in a world whose blocks below B stand. -/
theorem IntsAt.keep {w w' : World} {ao : Option Addr} {ts : List Int} {B : Nat} (h : IntsAt w ao ts) (hb : Below B w w') (hB : w.heap.size ≤ B) : IntsAt w' ao ts := h.stays (hb.mono hB)

theorem OwnI.lit (w : World) (B : Nat) (ss : List Int) (hB : B ≤ w.heap.size) (hm : ss.length ≤ 4000000) : OwnI (w.alloc (.cells (ss.map (Value.int .i64)).toArray 3)) B (.slice (Option.some ⟨w.heap.size, 0, none⟩) ss.length ss.length) ss := by
  have := World.ownsRow_lit (base := B) (e := 3) (size := 1) w (ss.map (Value.int .i64)).toArray ss.length hB (by unfold maxLen; omega) (by simp)
  simpa [OwnI] using this
end Go.Proofs.YtmbjflhhffcjdaaDoor.Pl


/- Laws for a slice of texts that the call itself has made, and for one that is handed in. No program is named here. -/
namespace Go.Proofs.YtmbjflhhffcjdaaDoor.Pl
open Go Go.RowKit
set_option linter.unusedVariables false

/-- the slice v, made by the call in blocks from B on, holds the texts ss. -/
def OwnS (w : World) (B : Nat) (v : Value) (ss : List ByteArray) : Prop := w.ownsRow B 9 1 v ss.length (ss.map Value.string)

theorem OwnS.alloc {w : World} {B : Nat} {v : Value} {ss : List ByteArray} (h : OwnS w B v ss) (o : Obj) : OwnS (w.alloc o) B v ss := World.ownsRow.alloc h o

theorem OwnS.made (w : World) (B : Nat) (hb : B ≤ w.heap.size) : OwnS (w.alloc (.cells #[] 9)) B (.slice (some ⟨w.heap.size, 0, none⟩) 0 0) [] := by
  have := World.ownsRow_made (base := B) (e := 9) (size := 1) w #[] 0 hb (by decide) (by simp)
  simpa [OwnS] using this

theorem OwnS.form {w : World} {B : Nat} {v : Value} {ss : List ByteArray} (h : OwnS w B v ss) : ∃ ao cap, v = .slice ao ss.length cap := by
  rcases h.2 with ⟨rfl, hn⟩ | ⟨g, cap, cur, rfl, _⟩
  · exact ⟨none, 0, by rw [hn]⟩
  · exact ⟨_, cap, rfl⟩

theorem OwnS.some {w : World} {B : Nat} {v : Value} {ss : List ByteArray} (h : OwnS w B v ss) (h0 : 0 < ss.length) :
    ∃ g cap, v = .slice (some ⟨g, 0, none⟩) ss.length cap ∧ B ≤ g ∧ g < w.heap.size ∧ (∀ j, (hj : j < ss.length) → w.cell? ⟨g, j, none⟩ = some (.string ss[j])) ∧ ∀ j, w.frozen? ⟨g, j, none⟩ = false := by
  rcases h.2 with ⟨rfl, hn⟩ | ⟨g, cap, cur, rfl, hb, hg, _⟩
  · omega
  · refine ⟨g, cap, rfl, hb, (Array.getElem?_eq_some_iff.1 hg).1, fun j hj => ?_, fun j => World.ownsRow.frozenAt h j⟩
    have := World.ownsRow.cellAt h j (by omega)
    rw [this]
    simp [hj]

/-- what is owned below B' stays owned where nothing below B' has turned. -/
theorem OwnS.stays {w w' : World} {B B' : Nat} {v : Value} {ss : List ByteArray} (h : OwnS w B v ss) (hb : Below B' w w') (hlt : ∀ k, v.ownBlock = Option.some k → k < B') : OwnS w' B v ss := by
  refine ⟨h.1, ?_⟩
  rcases h.2 with hn | ⟨g, cap, cur, rfl, hbg, hg, rest⟩
  · exact .inl hn
  · refine .inr ⟨g, cap, cur, rfl, hbg, ?_, rest⟩
    rw [hb.block g (hlt g rfl)]
    exact hg

theorem OwnS.lt {w : World} {B : Nat} {v : Value} {ss : List ByteArray} (h : OwnS w B v ss) : ∀ k, v.ownBlock = Option.some k → B ≤ k ∧ k < w.heap.size := World.ownsRow.lt h

theorem OwnS.store {w : World} {B g cap : Nat} {ss : List ByteArray} (h : OwnS w B (.slice (Option.some ⟨g, 0, none⟩) ss.length cap) ss) (k : Nat) (x : ByteArray) :
    OwnS (w.setCell ⟨g, k, none⟩ (.string x)) B (.slice (Option.some ⟨g, 0, none⟩) ss.length cap) (ss.set k x) ∧ w.grownBy (w.setCell ⟨g, k, none⟩ (.string x)) (Option.some g) := by
  have := World.ownsRow.stored h k (.string x)
  refine ⟨?_, this.2⟩
  have h1 := this.1
  rw [← List.map_set] at h1
  simpa [OwnS] using h1

theorem wpList_pushS {P : Program} {w : World} {ops : Array Oper} {rest : List Oper} {o : Oper} {a : Act} {Q : Exit → Act → World → Prop}
    (hgd : o.guard = none) (s x : Operand) (t : TypeId) (ho : o.op = .call { callee := .builtin .append, args := #[s, x], argTypes := #[t, t] })
    (ht : P.underlying t = some (.slice 9)) (hinfo : (P.info? 9).map (fun i => (i.zero, i.size, i.bytes)) = some (some (.string ⟨#[]⟩), 1, 16))
    (B : Nat) (v : Value) (xs : List ByteArray) (hs : a.eval s = v) (hown : OwnS w B v xs) (b : ByteArray)
    (hx : a.eval x = .slice (some ⟨w.heap.size, 0, none⟩) 1 1) (hn : xs.length < 4000000) (hB : B ≤ w.heap.size)
    (h : ∀ v' w', OwnS w' B v' (xs ++ [b]) → Below B w w' → wpList P ops Q rest (a.put o.dst v') w') :
    wpList P ops Q (o :: rest) a (w.alloc (.cells #[.string b] 9)) := by
  obtain ⟨i0, hi, hz0, hz1, hz2⟩ := info_parts hinfo
  refine wpList_append_own _ hgd s x t ho B 9 i0 (.string ⟨#[]⟩) 1 16 ht hi hz0 hz1 hz2 rfl (by decide) v xs.length (xs.map Value.string) hs (World.ownsRow.alloc hown _) ⟨w.heap.size, 0, none⟩ 1 1 [.string b] hx rfl ?_ ?_ ?_ ?_ ?_ ?_
  · intro j u hj
    match j, hj with
    | 0, hj => simp at hj; subst hj; simp [Addr.add]
  · intro u hu; simp at hu; subst hu; rfl
  · unfold maxLen; omega
  · omega
  · simp; omega
  · intro v' w' hown' hg _
    refine h v' w' ?_ ?_
    · simpa [OwnS] using hown'
    · refine ((Below.refl B w).alloc hB _).grown hg (by simp; omega) ?_
      intro k hk
      exact (World.ownsRow.lt hown k hk).1


theorem OwnS.down {w : World} {B B' : Nat} {v : Value} {ss : List ByteArray} (h : OwnS w B v ss) (hB : B' ≤ B) : OwnS w B' v ss := by
  refine ⟨h.1, ?_⟩
  rcases h.2 with hn | ⟨g, cap, cur, rfl, hbg, rest⟩
  · exact .inl hn
  · exact .inr ⟨g, cap, cur, rfl, by omega, rest⟩

/-- a slice of texts, handed in. -/
def TextsAt (w : World) (ao : Option Addr) (ts : List ByteArray) : Prop :=
  ∀ i (h : i < ts.length), ∃ b off, ao = some ⟨b, off, none⟩ ∧ b < w.heap.size ∧ w.cell? ⟨b, off + i, none⟩ = some (.string ts[i])

theorem TextsAt.stays {w w' : World} {ao : Option Addr} {ts : List ByteArray} (h : TextsAt w ao ts) (hb : Below w.heap.size w w') : TextsAt w' ao ts := by
  intro i hi
  obtain ⟨b, off, h1, h2, h3⟩ := h i hi
  exact ⟨b, off, h1, Nat.lt_of_lt_of_le h2 hb.size, (hb.cell (p := ⟨b, off + i, none⟩) h2).trans h3⟩

/-- .. in a world whose blocks below B stand. -/
theorem TextsAt.keep {w w' : World} {ao : Option Addr} {ts : List ByteArray} {B : Nat} (h : TextsAt w ao ts) (hb : Below B w w') (hB : w.heap.size ≤ B) : TextsAt w' ao ts := h.stays (hb.mono hB)

theorem OwnS.texts {w : World} {B : Nat} {v : Value} {ss : List ByteArray} (h : OwnS w B v ss) : ∃ ao cap, v = .slice ao ss.length cap ∧ TextsAt w ao ss := by
  by_cases h0 : 0 < ss.length
  · obtain ⟨g, cap, rfl, h1, h2, h3, h4⟩ := h.some h0
    refine ⟨_, cap, rfl, fun i hi => ⟨g, 0, rfl, h2, ?_⟩⟩
    rw [Nat.zero_add]
    exact h3 i hi
  · obtain ⟨ao, cap, rfl⟩ := h.form
    exact ⟨ao, cap, rfl, fun i hi => by omega⟩

theorem OwnS.lit (w : World) (B : Nat) (ss : List ByteArray) (hB : B ≤ w.heap.size) (hm : ss.length ≤ 4000000) : OwnS (w.alloc (.cells (ss.map Value.string).toArray 9)) B (.slice (Option.some ⟨w.heap.size, 0, none⟩) ss.length ss.length) ss := by
  have := World.ownsRow_lit (base := B) (e := 9) (size := 1) w (ss.map Value.string).toArray ss.length hB (by unfold maxLen; omega) (by simp)
  simpa [OwnS] using this
end Go.Proofs.YtmbjflhhffcjdaaDoor.Pl


/- Of all that was there two blocks alone may have turned. No program is named here. -/
namespace Go.Proofs.YtmbjflhhffcjdaaDoor.Pl
open Go Go.RowKit

/-- of all that was there the blocks a and b alone may have turned; new blocks may have come. -/
structure Keep2 (a b : Nat) (w w' : World) : Prop where
  os : w'.os = w.os
  tape : w'.tape = w.tape
  output : w'.output = w.output
  size : w.heap.size ≤ w'.heap.size
  block : ∀ k, k < w.heap.size → k ≠ a → k ≠ b → w'.heap[k]? = w.heap[k]?

theorem Keep2.trans {a b : Nat} {x y z : World} (h : Keep2 a b x y) (k : Keep2 a b y z) : Keep2 a b x z :=
  ⟨k.os.trans h.os, k.tape.trans h.tape, k.output.trans h.output, Nat.le_trans h.size k.size, fun i hi ha hb => (k.block i (Nat.lt_of_lt_of_le hi h.size) ha hb).trans (h.block i hi ha hb)⟩
theorem KeepBut.left {a b : Nat} {w w' : World} (h : KeepBut a w w') : Keep2 a b w w' := ⟨h.os, h.tape, h.output, h.size, fun k hk ha _ => h.block k hk ha⟩
theorem KeepBut.right {a b : Nat} {w w' : World} (h : KeepBut b w w') : Keep2 a b w w' := ⟨h.os, h.tape, h.output, h.size, fun k hk _ hb => h.block k hk hb⟩
theorem Keep2.below {a b B : Nat} {w w' : World} (h : Keep2 a b w w') (ha : B ≤ a) (hb : B ≤ b) (hs : B ≤ w.heap.size) : Below B w w' :=
  ⟨h.os, h.tape, h.output, h.size, fun k hk => h.block k (by omega) (by omega) (by omega)⟩

end Go.Proofs.YtmbjflhhffcjdaaDoor.Pl


