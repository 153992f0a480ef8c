/- The walks over ShortText of the program and over a short text of the specification; both ItemText, the law on ItemText. -/
import Derived.Test.YtlflcjdpdbdbkaaV1
import Derived.Test.YtlflcjdpdbdbkaaI1
import Derived.Deep.RegionHeld3
import Derived.Deep.QuietTactic
namespace Go.Proofs.Ytlflcjdpdbdbkaa
open Go.RowKit Pl
set_option linter.unusedVariables false
/-- the block g is an item. -/
def ItAt (w : World) (g : Nat) (q f l : Int) (t : ByteArray) : Prop := w.heap[g]? = some (.cells #[.int .i64 q, .int .i64 f, .int .i64 l, .string t] 69 (0, 0))
theorem ItAt.cells {w : World} {g : Nat} {q f l : Int} {t : ByteArray} (h : ItAt w g q f l t) : w.cell? ⟨g, 0, none⟩ = some (.int .i64 q) ∧ w.cell? ⟨g, 1, none⟩ = some (.int .i64 f) ∧ w.cell? ⟨g, 2, none⟩ = some (.int .i64 l) ∧ w.cell? ⟨g, 3, none⟩ = some (.string t) :=
  ⟨by rw [cell_of_row w g 0 _ 69 (0, 0) h]; rfl, by rw [cell_of_row w g 1 _ 69 (0, 0) h]; rfl, by rw [cell_of_row w g 2 _ 69 (0, 0) h]; rfl, by rw [cell_of_row w g 3 _ 69 (0, 0) h]; rfl⟩
theorem ItAt.stays {w w' : World} {B g : Nat} {q f l : Int} {t : ByteArray} (h : ItAt w g q f l t) (hb : Below B w w') (hg : g < B) : ItAt w' g q f l t := (hb.block g hg).trans h
theorem ItAt.lt {w : World} {g : Nat} {q f l : Int} {t : ByteArray} (h : ItAt w g q f l t) : g < w.heap.size := (Array.getElem?_eq_some_iff.1 h).1

/-- what stands while an item's bytes are made. -/
theorem it_step {W w w' : World} {g : Nat} {q f l : Int} {t : ByteArray} (h : (w.cell? ⟨g, 0, none⟩ = some (.int .i64 q) ∧ w.cell? ⟨g, 1, none⟩ = some (.int .i64 f) ∧ w.cell? ⟨g, 2, none⟩ = some (.int .i64 l) ∧ w.cell? ⟨g, 3, none⟩ = some (.string t)) ∧ Hid (Below W.heap.size W w ∧ ItAt w g q f l t)) (hb : Below w.heap.size w w') :
    (w'.cell? ⟨g, 0, none⟩ = some (.int .i64 q) ∧ w'.cell? ⟨g, 1, none⟩ = some (.int .i64 f) ∧ w'.cell? ⟨g, 2, none⟩ = some (.int .i64 l) ∧ w'.cell? ⟨g, 3, none⟩ = some (.string t)) ∧ Hid (Below W.heap.size W w' ∧ ItAt w' g q f l t) := by
  obtain ⟨h1, h2⟩ := h
  obtain ⟨h3, h4⟩ := h2.out
  have h5 := h4.stays hb h4.lt
  exact ⟨h5.cells, ⟨h3.trans (hb.mono h3.size), h5⟩⟩

theorem it_drew {W w : World} {g : Nat} {q f l : Int} {t : ByteArray} (h : (w.cell? ⟨g, 0, none⟩ = some (.int .i64 q) ∧ w.cell? ⟨g, 1, none⟩ = some (.int .i64 f) ∧ w.cell? ⟨g, 2, none⟩ = some (.int .i64 l) ∧ w.cell? ⟨g, 3, none⟩ = some (.string t)) ∧ Hid (Below W.heap.size W w ∧ ItAt w g q f l t)) :
    (w.drew.cell? ⟨g, 0, none⟩ = some (.int .i64 q) ∧ w.drew.cell? ⟨g, 1, none⟩ = some (.int .i64 f) ∧ w.drew.cell? ⟨g, 2, none⟩ = some (.int .i64 l) ∧ w.drew.cell? ⟨g, 3, none⟩ = some (.string t)) ∧ Hid (Below W.heap.size W w.drew ∧ ItAt w.drew g q f l t) :=
  it_step h (Below.refl _ _).drew

theorem itemOk_yes {q f l : Int} {t : ByteArray} (w : World) (h : ItOk q f l t) :
    Calls Try.prog 52 #[.agg #[.int .i64 q, .int .i64 f, .int .i64 l, .string t]] w fun e w' => e = .returned (.bool true) ∧ Below w.heap.size w w' := by
  have := itemOk_any q f l t w
  rw [itB_yes h] at this
  exact this
theorem itemOk_no {q f l : Int} {t : ByteArray} (w : World) (h : ¬ ItOk q f l t) :
    Calls Try.prog 52 #[.agg #[.int .i64 q, .int .i64 f, .int .i64 l, .string t]] w fun e w' => e = .returned (.bool false) ∧ Below w.heap.size w w' := by
  have := itemOk_any q f l t w
  rw [itB_no h] at this
  exact this
theorem spItemOk_yes {q f l : Int} {t : ByteArray} (w : World) (h : ItOk q f l t) :
    Calls Try.prog 50 #[.agg #[.int .i64 q, .int .i64 f, .int .i64 l, .string t]] w fun e w' => e = .returned (.bool true) ∧ Below w.heap.size w w' := by
  have := spItemOk_any q f l t w
  rw [itB_yes h] at this
  exact this
theorem spItemOk_no {q f l : Int} {t : ByteArray} (w : World) (h : ¬ ItOk q f l t) :
    Calls Try.prog 50 #[.agg #[.int .i64 q, .int .i64 f, .int .i64 l, .string t]] w fun e w' => e = .returned (.bool false) ∧ Below w.heap.size w w' := by
  have := spItemOk_any q f l t w
  rw [itB_no h] at this
  exact this

theorem byteS_size (n : Nat) : (byteS n).size = 1 := by rw [byteS, strOfNums_size]; rfl
theorem varS_small {n : Nat} (h : n ≤ 1000000000) : (varS n).size ≤ 5 := by
  rw [rt_size, varS_list]; exact varL_len h

end Go.Proofs.Ytlflcjdpdbdbkaa
