/- The draws' cursor: what it holds, what a turn of it leaves; slices of ints that the call itself has made. No program is named here. -/
import Derived.Test.YtpjghggbiikglaaDoorOwn
import Derived.Laws.OwnMore
import Derived.Laws.BitsAllLaws
import Derived.Below
namespace Go.Proofs.YtpjghggbiikglaaDoor.Pl
open Go Go.RowKit

/-- a handed slice of n bytes, in a block below B. -/
def CodeAt (w : World) (B : Nat) (ao : Option Addr) (n : Nat) : Prop :=
  ∀ i, i < n → ∃ (b off : Nat) (z : Int), ao = some ⟨b, off, none⟩ ∧ b < B ∧ w.cell? ⟨b, off + i, none⟩ = some (.int .u8 z) ∧ 0 ≤ z ∧ z < 256

theorem CodeAt.stays {w w' : World} {B B' : Nat} {ao : Option Addr} {n : Nat} (h : CodeAt w B ao n) (hb : Below B' w w') (hB : B ≤ B') : CodeAt w' B ao n := by
  intro i hi
  obtain ⟨b, off, z, h1, h2, h3, h4⟩ := h i hi
  exact ⟨b, off, z, h1, h2, (hb.cell (p := ⟨b, off + i, none⟩) (Nat.lt_of_lt_of_le h2 hB)).trans h3, h4⟩

/-- the block g is a cursor over that slice. -/
def CurAt (w : World) (T : TypeId) (g : Nat) (ao : Option Addr) (n cap : Nat) : Prop :=
  ∃ (i : Nat) (h : Int), i ≤ n ∧ w.heap[g]? = some (.cells #[.slice ao n cap, .int .i64 i, .int .i64 h] T (0, 0))

/-- of all that was there the block g alone has turned. -/
structure TurnAt (g : Nat) (w w' : World) : Prop where
  os : w'.os = w.os
  tape : w'.tape = w.tape
  output : w'.output = w.output
  size : w'.heap.size = w.heap.size
  block : ∀ k, k ≠ g → w'.heap[k]? = w.heap[k]?

theorem TurnAt.refl (g : Nat) (w : World) : TurnAt g w w := ⟨rfl, rfl, rfl, rfl, fun _ _ => rfl⟩
theorem TurnAt.trans {g : Nat} {a b c : World} (h : TurnAt g a b) (k : TurnAt g b c) : TurnAt g a c :=
  ⟨k.os.trans h.os, k.tape.trans h.tape, k.output.trans h.output, k.size.trans h.size, fun i hi => (k.block i hi).trans (h.block i hi)⟩
theorem TurnAt.drewN {g : Nat} {a w : World} (h : TurnAt g a w) (n : Nat) : TurnAt g a (w.drewN n) := ⟨h.os, h.tape, h.output, h.size, h.block⟩
theorem TurnAt.setCell {g : Nat} {a w : World} (h : TurnAt g a w) (j : Nat) (u : Value) : TurnAt g a (w.setCell ⟨g, j, none⟩ u) :=
  ⟨h.os, h.tape, h.output, by simp [World.setCell]; exact h.size, fun k hk => (Below.heap_setCell w ⟨g, j, none⟩ u k hk).trans (h.block k hk)⟩
theorem TurnAt.below {g B : Nat} {w w' : World} (h : TurnAt g w w') (hB : B ≤ g) : Below B w w' :=
  ⟨h.os, h.tape, h.output, by rw [h.size]; exact Nat.le_refl _, fun k hk => h.block k (by omega)⟩

theorem OwnB.turned {w w' : World} {B g : Nat} {e : TypeId} {v : Value} {xs : List Int} (h : OwnB w B e v xs) (ht : TurnAt g w w') (hg : g < B) : OwnB w' B e v xs := by
  refine ⟨h.1, ?_⟩
  rcases h.2 with hn | ⟨k, cap, cur, rfl, hbg, hk, rest⟩
  · exact .inl hn
  · exact .inr ⟨k, cap, cur, rfl, hbg, (ht.block k (by omega)).trans hk, rest⟩

/-- the slice v of ints, made by the call in blocks from B on. -/
def OwnI (w : World) (B : Nat) (v : Value) (xs : List Int) : Prop := w.ownsRow B 3 1 v xs.length (xs.map (Value.int .i64))

theorem OwnI.alloc {w : World} {B : Nat} {v : Value} {xs : List Int} (h : OwnI w B v xs) (o : Obj) : OwnI (w.alloc o) B v xs := World.ownsRow.alloc h o
theorem OwnI.made (w : World) (B : Nat) (hb : B ≤ w.heap.size) : OwnI (w.alloc (.cells #[] 3)) B (.slice (some ⟨w.heap.size, 0, none⟩) 0 0) [] := by
  have := World.ownsRow_made (base := B) (e := 3) (size := 1) w #[] 0 hb (by decide) (by simp)
  simpa [OwnI] using this
theorem OwnI.turned {w w' : World} {B g : Nat} {v : Value} {xs : List Int} (h : OwnI w B v xs) (ht : TurnAt g w w') (hg : g < B) : OwnI w' B v xs := by
  refine ⟨h.1, ?_⟩
  rcases h.2 with hn | ⟨k, cap, cur, rfl, hbg, hk, rest⟩
  · exact .inl hn
  · exact .inr ⟨k, cap, cur, rfl, hbg, (ht.block k (by omega)).trans hk, rest⟩
theorem OwnI.some {w : World} {B : Nat} {v : Value} {xs : List Int} (h : OwnI w B v xs) (h0 : 0 < xs.length) :
    ∃ g cap, v = .slice (some ⟨g, 0, none⟩) xs.length cap ∧ B ≤ g ∧ g < w.heap.size ∧ ∀ j, (hj : j < xs.length) → w.cell? ⟨g, j, none⟩ = some (.int .i64 xs[j]) := by
  rcases h.2 with ⟨rfl, hn⟩ | ⟨g, cap, cur, rfl, hb, hg, _⟩
  · omega
  · refine ⟨g, cap, rfl, hb, (Array.getElem?_eq_some_iff.1 hg).1, fun j hj => ?_⟩
    have := World.ownsRow.cellAt h j (by omega)
    rw [this]
    simp [hj]

theorem wpList_pushI {P : Program} {w : World} {ops : Array Oper} {rest : List Oper} {o : Oper} {a : Act} {Q : Exit → Act → World → Prop}
    (hgd : o.guard = none) (s x : Operand) (t : TypeId) (ho : o.op = .call { callee := .builtin .append, args := #[s, x], argTypes := #[t, t] })
    (ht : P.underlying t = some (.slice 3)) (hinfo : (P.info? 3).map (fun i => (i.zero, i.size, i.bytes)) = some (some (.int .i64 0), 1, 8))
    (B : Nat) (v : Value) (xs : List Int) (hs : a.eval s = v) (hown : OwnI w B v xs) (b : Int)
    (hx : a.eval x = .slice (some ⟨w.heap.size, 0, none⟩) 1 1) (hn : xs.length < 1000000) (hB : B ≤ w.heap.size)
    (h : ∀ v' w', OwnI w' B v' (xs ++ [b]) → Below B w w' → wpList P ops Q rest (a.put o.dst v') w') :
    wpList P ops Q (o :: rest) a (w.alloc (.cells #[.int .i64 b] 3)) := by
  obtain ⟨i0, hi, hz0, hz1, hz2⟩ := info_parts hinfo
  refine wpList_append_own _ hgd s x t ho B 3 i0 (.int .i64 0) 1 8 ht hi hz0 hz1 hz2 rfl (by decide) v xs.length (xs.map (Value.int .i64)) hs (World.ownsRow.alloc hown _) ⟨w.heap.size, 0, none⟩ 1 1 [.int .i64 b] hx rfl ?_ ?_ ?_ ?_ ?_ ?_
  · intro j u hj
    match j, hj with
    | 0, hj => simp at hj; subst hj; simp [Addr.add]
  · intro u hu; simp at hu; subst hu; rfl
  · unfold maxLen; omega
  · omega
  · simp; omega
  · intro v' w' hown' hg _
    refine h v' w' ?_ ?_
    · simpa [OwnI] using hown'
    · refine ((Below.refl B w).alloc hB _).grown hg (by simp; omega) ?_
      intro k hk
      exact (World.ownsRow.lt hown k hk).1

theorem and255 (X : Int) : ∃ x : Nat, x < 256 ∧ bits .and .i64 X 255 = (x : Int) := by
  refine ⟨(BitVec.ofInt 64 X &&& BitVec.ofInt 64 255).toNat, ?_, ?_⟩
  · rw [BitVec.toNat_and]
    have h : (BitVec.ofInt 64 255).toNat = 255 := by decide
    rw [h]
    have := @Nat.and_le_right (BitVec.ofInt 64 X).toNat 255
    omega
  · show IntKind.i64.wrap ((BitVec.ofInt 64 X &&& BitVec.ofInt 64 255).toNat : Int) = _
    rw [BitVec.toNat_and]
    have h : (BitVec.ofInt 64 255).toNat = 255 := by decide
    rw [h]
    have := @Nat.and_le_right (BitVec.ofInt 64 X).toNat 255
    rw [IntKind.wrap_i64]
    omega
end Go.Proofs.YtpjghggbiikglaaDoor.Pl
