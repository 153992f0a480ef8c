/- Of all that was there two blocks alone may have turned. No program is named here. -/
import Derived.Test.YtlflcjdpdbdbkaaDr
namespace Go.Proofs.Ytlflcjdpdbdbkaa.Pl
open Go Go.RowKit

/-- of all that was there the blocks a and b alone may have turned; new blocks may have come. -/
structure Keep2 (a b : Nat) (w w' : World) : Prop where
  os : w'.os = w.os
  tape : w'.tape = w.tape
  output : w'.output = w.output
  size : w.heap.size ≤ w'.heap.size
  block : ∀ k, k < w.heap.size → k ≠ a → k ≠ b → w'.heap[k]? = w.heap[k]?

theorem Keep2.trans {a b : Nat} {x y z : World} (h : Keep2 a b x y) (k : Keep2 a b y z) : Keep2 a b x z :=
  ⟨k.os.trans h.os, k.tape.trans h.tape, k.output.trans h.output, Nat.le_trans h.size k.size, fun i hi ha hb => (k.block i (Nat.lt_of_lt_of_le hi h.size) ha hb).trans (h.block i hi ha hb)⟩
theorem KeepBut.left {a b : Nat} {w w' : World} (h : KeepBut a w w') : Keep2 a b w w' := ⟨h.os, h.tape, h.output, h.size, fun k hk ha _ => h.block k hk ha⟩
theorem KeepBut.right {a b : Nat} {w w' : World} (h : KeepBut b w w') : Keep2 a b w w' := ⟨h.os, h.tape, h.output, h.size, fun k hk _ hb => h.block k hk hb⟩
theorem Keep2.below {a b B : Nat} {w w' : World} (h : Keep2 a b w w') (ha : B ≤ a) (hb : B ≤ b) (hs : B ≤ w.heap.size) : Below B w w' :=
  ⟨h.os, h.tape, h.output, h.size, fun k hk => h.block k (by omega) (by omega) (by omega)⟩

end Go.Proofs.Ytlflcjdpdbdbkaa.Pl
