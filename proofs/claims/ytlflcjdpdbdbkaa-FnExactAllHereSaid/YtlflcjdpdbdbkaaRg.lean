/- Rings in plain words, and the walks over both RingOk. -/
import Derived.Test.YtlflcjdpdbdbkaaT2
namespace Go.Proofs.Ytlflcjdpdbdbkaa
open Go.RowKit Pl
set_option linter.unusedVariables false

/-- a ring is right. -/
def ringB (i : Int) (ms : List Int) : Bool := decide (1 ≤ i ∧ i ≤ 9) && (decide (0 < ms.length) && wGo 0 5 ms)

theorem wGo_len : ∀ (ms : List Int) (l : Int), wGo l 5 ms = true → l ≤ 5 → (ms.length : Int) + l ≤ 5 := by
  intro ms
  induction ms with
  | nil => intro l _ h; simp; omega
  | cons x xs ih =>
    intro l h hl
    by_cases h1 : l < x ∧ x ≤ 5
    · rw [wGo_step h1.1 h1.2] at h
      have := ih x h h1.2
      simp only [List.length_cons, Int.natCast_add]
      omega
    · rw [wGo_bad (by omega)] at h
      cases h

/-- the block g is a ring. -/
def RgAt (w : World) (g : Nat) (i : Int) (v : Value) : Prop := w.heap[g]? = some (.cells #[.int .i64 i, v] 40 (0, 0))
theorem RgAt.cells {w : World} {g : Nat} {i : Int} {v : Value} (h : RgAt w g i v) : w.cell? ⟨g, 0, none⟩ = some (.int .i64 i) ∧ w.cell? ⟨g, 1, none⟩ = some v :=
  ⟨by rw [cell_of_row w g 0 _ 40 (0, 0) h]; rfl, by rw [cell_of_row w g 1 _ 40 (0, 0) h]; rfl⟩
theorem RgAt.stays {w w' : World} {B g : Nat} {i : Int} {v : Value} (h : RgAt w g i v) (hb : Below B w w') (hg : g < B) : RgAt w' g i v := (hb.block g hg).trans h
theorem RgAt.lt {w : World} {g : Nat} {i : Int} {v : Value} (h : RgAt w g i v) : g < w.heap.size := (Array.getElem?_eq_some_iff.1 h).1
theorem RgAt.frozen {w : World} {g : Nat} {i : Int} {v : Value} (h : RgAt w g i v) (k : Nat) : w.frozen? ⟨g, k, none⟩ = false := by
  unfold RgAt at h
  simp [World.frozen?, h]

end Go.Proofs.Ytlflcjdpdbdbkaa
