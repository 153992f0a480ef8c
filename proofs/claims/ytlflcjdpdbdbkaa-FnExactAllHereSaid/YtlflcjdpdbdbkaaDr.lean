/- The draws' cursor: what it holds, what a turn of it leaves; slices of ints that the call itself has made. No program is named here. -/
import Derived.Test.YtlflcjdpdbdbkaaOwn
import Derived.Laws.OwnMore
import Derived.Laws.BitsAllLaws
import Derived.Below
namespace Go.Proofs.Ytlflcjdpdbdbkaa.Pl
open Go Go.RowKit

/-- a handed slice of n bytes, in a block below B. -/
def CodeAt (w : World) (B : Nat) (ao : Option Addr) (n : Nat) : Prop :=
  ∀ i, i < n → ∃ (b off : Nat) (z : Int), ao = some ⟨b, off, none⟩ ∧ b < B ∧ w.cell? ⟨b, off + i, none⟩ = some (.int .u8 z) ∧ 0 ≤ z ∧ z < 256

theorem CodeAt.stays {w w' : World} {B B' : Nat} {ao : Option Addr} {n : Nat} (h : CodeAt w B ao n) (hb : Below B' w w') (hB : B ≤ B') : CodeAt w' B ao n := by
  intro i hi
  obtain ⟨b, off, z, h1, h2, h3, h4⟩ := h i hi
  exact ⟨b, off, z, h1, h2, (hb.cell (p := ⟨b, off + i, none⟩) (Nat.lt_of_lt_of_le h2 hB)).trans h3, h4⟩

/-- the block g is a cursor over that slice. -/
def CurAt (w : World) (T : TypeId) (g : Nat) (ao : Option Addr) (n cap : Nat) : Prop :=
  ∃ (i : Nat) (h : Int), i ≤ n ∧ w.heap[g]? = some (.cells #[.slice ao n cap, .int .i64 i, .int .i64 h] T (0, 0))

/-- of all that was there the block g alone has turned. -/
structure TurnAt (g : Nat) (w w' : World) : Prop where
  os : w'.os = w.os
  tape : w'.tape = w.tape
  output : w'.output = w.output
  size : w'.heap.size = w.heap.size
  block : ∀ k, k ≠ g → w'.heap[k]? = w.heap[k]?

theorem TurnAt.refl (g : Nat) (w : World) : TurnAt g w w := ⟨rfl, rfl, rfl, rfl, fun _ _ => rfl⟩
theorem TurnAt.trans {g : Nat} {a b c : World} (h : TurnAt g a b) (k : TurnAt g b c) : TurnAt g a c :=
  ⟨k.os.trans h.os, k.tape.trans h.tape, k.output.trans h.output, k.size.trans h.size, fun i hi => (k.block i hi).trans (h.block i hi)⟩
theorem TurnAt.drewN {g : Nat} {a w : World} (h : TurnAt g a w) (n : Nat) : TurnAt g a (w.drewN n) := ⟨h.os, h.tape, h.output, h.size, h.block⟩
theorem TurnAt.setCell {g : Nat} {a w : World} (h : TurnAt g a w) (j : Nat) (u : Value) : TurnAt g a (w.setCell ⟨g, j, none⟩ u) :=
  ⟨h.os, h.tape, h.output, by simp [World.setCell]; exact h.size, fun k hk => (Below.heap_setCell w ⟨g, j, none⟩ u k hk).trans (h.block k hk)⟩
theorem TurnAt.below {g B : Nat} {w w' : World} (h : TurnAt g w w') (hB : B ≤ g) : Below B w w' :=
  ⟨h.os, h.tape, h.output, by rw [h.size]; exact Nat.le_refl _, fun k hk => h.block k (by omega)⟩

theorem OwnB.turned {w w' : World} {B g : Nat} {e : TypeId} {v : Value} {xs : List Int} (h : OwnB w B e v xs) (ht : TurnAt g w w') (hg : g < B) : OwnB w' B e v xs := by
  refine ⟨h.1, ?_⟩
  rcases h.2 with hn | ⟨k, cap, cur, rfl, hbg, hk, rest⟩
  · exact .inl hn
  · exact .inr ⟨k, cap, cur, rfl, hbg, (ht.block k (by omega)).trans hk, rest⟩

/-- of all that was there the block g alone may have turned; new blocks may have come. -/
structure KeepBut (g : Nat) (w w' : World) : Prop where
  os : w'.os = w.os
  tape : w'.tape = w.tape
  output : w'.output = w.output
  size : w.heap.size ≤ w'.heap.size
  block : ∀ k, k < w.heap.size → k ≠ g → w'.heap[k]? = w.heap[k]?

theorem KeepBut.refl (g : Nat) (w : World) : KeepBut g w w := ⟨rfl, rfl, rfl, Nat.le_refl _, fun _ _ _ => rfl⟩
theorem KeepBut.trans {g : Nat} {a b c : World} (h : KeepBut g a b) (k : KeepBut g b c) : KeepBut g a c :=
  ⟨k.os.trans h.os, k.tape.trans h.tape, k.output.trans h.output, Nat.le_trans h.size k.size, fun i hi hg => (k.block i (Nat.lt_of_lt_of_le hi h.size) hg).trans (h.block i hi hg)⟩
theorem TurnAt.keep {g : Nat} {w w' : World} (h : TurnAt g w w') : KeepBut g w w' := ⟨h.os, h.tape, h.output, by rw [h.size]; exact Nat.le_refl _, fun k _ hk => h.block k hk⟩
theorem keep_of_below {g : Nat} {w w' : World} (h : Below w.heap.size w w') : KeepBut g w w' := ⟨h.os, h.tape, h.output, h.size, fun k hk _ => h.block k hk⟩
theorem KeepBut.below {g B : Nat} {w w' : World} (h : KeepBut g w w') (hB : B ≤ g) (hg : B ≤ w.heap.size) : Below B w w' :=
  ⟨h.os, h.tape, h.output, h.size, fun k hk => h.block k (by omega) (by omega)⟩

theorem and255 (X : Int) : ∃ x : Nat, x < 256 ∧ bits .and .i64 X 255 = (x : Int) := by
  refine ⟨(BitVec.ofInt 64 X &&& BitVec.ofInt 64 255).toNat, ?_, ?_⟩
  · rw [BitVec.toNat_and]
    have h : (BitVec.ofInt 64 255).toNat = 255 := by decide
    rw [h]
    have := @Nat.and_le_right (BitVec.ofInt 64 X).toNat 255
    omega
  · show IntKind.i64.wrap ((BitVec.ofInt 64 X &&& BitVec.ofInt 64 255).toNat : Int) = _
    rw [BitVec.toNat_and]
    have h : (BitVec.ofInt 64 255).toNat = 255 := by decide
    rw [h]
    have := @Nat.and_le_right (BitVec.ofInt 64 X).toNat 255
    rw [IntKind.wrap_i64]
    omega
end Go.Proofs.Ytlflcjdpdbdbkaa.Pl
