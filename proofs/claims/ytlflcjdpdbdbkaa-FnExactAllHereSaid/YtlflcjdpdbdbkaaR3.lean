/- The walks over the closure that reads an item, over the reading of a packet and over the program's ReadItem. -/
import Derived.Test.YtlflcjdpdbdbkaaR2
namespace Go.Proofs.Ytlflcjdpdbdbkaa
open Go.RowKit Pl
set_option linter.unusedVariables false

theorem ItAt.frozen {w : World} {g : Nat} {q f l : Int} {t : ByteArray} (h : ItAt w g q f l t) (i : Nat) : w.frozen? ⟨g, i, none⟩ = false := frozen_of_row w g i _ 69 h
theorem ItAt.set0 {w : World} {g : Nat} {q f l : Int} {t : ByteArray} (h : ItAt w g q f l t) (x : Int) : ItAt (w.setCell ⟨g, 0, none⟩ (.int .i64 x)) g x f l t := by
  have := heap_setCell_same w g 0 _ 69 (.int .i64 x) h
  unfold ItAt; rw [this]; rfl
theorem ItAt.set1 {w : World} {g : Nat} {q f l : Int} {t : ByteArray} (h : ItAt w g q f l t) (x : Int) : ItAt (w.setCell ⟨g, 1, none⟩ (.int .i64 x)) g q x l t := by
  have := heap_setCell_same w g 1 _ 69 (.int .i64 x) h
  unfold ItAt; rw [this]; rfl
theorem ItAt.set2 {w : World} {g : Nat} {q f l : Int} {t : ByteArray} (h : ItAt w g q f l t) (x : Int) : ItAt (w.setCell ⟨g, 2, none⟩ (.int .i64 x)) g q f x t := by
  have := heap_setCell_same w g 2 _ 69 (.int .i64 x) h
  unfold ItAt; rw [this]; rfl
theorem ItAt.set3 {w : World} {g : Nat} {q f l : Int} {t : ByteArray} (h : ItAt w g q f l t) (x : ByteArray) : ItAt (w.setCell ⟨g, 3, none⟩ (.string x)) g q f l x := by
  have := heap_setCell_same w g 3 _ 69 (.string x) h
  unfold ItAt; rw [this]; rfl
theorem ItAt.keep {w w' : World} {g k : Nat} {q f l : Int} {t : ByteArray} (h : ItAt w g q f l t) (hk : KeepBut k w w') (hg : g ≠ k) : ItAt w' g q f l t := (hk.block g h.lt hg).trans h

theorem itemP_n0 {s : ByteArray} (h : rv s 0 = none) : itemP s = none := by simp [itemP, h]
theorem itemP_n1 {s : ByteArray} {q i : Nat} (h : rv s 0 = some (q, i)) (h1 : oneP s i = none) : itemP s = none := by simp [itemP, h, h1]
theorem itemP_n2 {s : ByteArray} {q i f j : Nat} (h : rv s 0 = some (q, i)) (h1 : oneP s i = some (f, j)) (h2 : oneP s j = none) : itemP s = none := by simp [itemP, h, h1, h2]
theorem itemP_n3 {s : ByteArray} {q i f j l k : Nat} (h : rv s 0 = some (q, i)) (h1 : oneP s i = some (f, j)) (h2 : oneP s j = some (l, k)) (h3 : shP s k = none) : itemP s = none := by simp [itemP, h, h1, h2, h3]

end Go.Proofs.Ytlflcjdpdbdbkaa
