/- Joined texts: COp. -/
import Derived.Test.YtdodeillifoibaaSq4
import Derived.Below
import Derived.WalkKit
import Derived.ProofKit
import Derived.OpenShut
import Derived.ChangeSlices
import Derived.ChangeBears2
import Derived.ShutString
import Derived.Lib.SmallJoins
import Derived.Deep.Slices
import Derived.Deep.Fields
/- Items, lists of items and lists of lists of items that were handed in, opened. -/
namespace Go.Proofs.Ytdodeillifoibaa
open Go.ChangeShapes Go.WideShapes Go.ChangeAt Go.RowKit Go.Deep Go.WideElems Pl
open Go.Joins (slice_form)
set_option linter.unusedVariables false

theorem cellsI : Try.prog.cellsOf 53 = 4 := by kernel_rfl
/-- the four cells of an item that a slice was handed with. -/
theorem open_item {H : Type} {enc : TypeId × Value → H} {P : Program} {w : World} {base : Nat} {spare : Nat → Bool} {held : Bool} {t : TypeId} {f0 f1 f2 f3 : Field} {n : Nat} {cs : List Value} {x : DataW H × List MemPlace} (hs : P.underlying t = some (.struct #[f0, f1, f2, f3])) (hone : oneCellFields P #[f0, f1, f2, f3] = true) (hC : P.cellsOf t = 4)
    (hi0 : P.underlying f0.type = some (.int .i64)) (hi1 : P.underlying f1.type = some (.int .i64)) (hi2 : P.underlying f2.type = some (.int .i64)) (hi3 : P.underlying f3.type = some .string)
    (h : DataW.trod enc P w base spare held n t cs = some x) : ∃ y : It, cs = [.int .i64 y.1, .int .i64 y.2.1, .int .i64 y.2.2.1, .string y.2.2.2] ∧ y.2.2.2.size ≤ maxLen := by
  obtain ⟨xs, n, _, _, hl, hlen, hff⟩ := DataW.trod_struct hs h
  rw [hC] at hl
  obtain ⟨o0, k0⟩ := hone_of hone 0 f0 rfl
  obtain ⟨o1, k1⟩ := hone_of hone 1 f1 rfl
  obtain ⟨o2, k2⟩ := hone_of hone 2 f2 rfl
  obtain ⟨o3, k3⟩ := hone_of hone 3 f3 rfl
  match xs, hlen, cs, hl with
  | [y0, y1, y2, y3], _, [c0, c1, c2, c3], _ =>
    have g0 : DataW.trod enc P w base spare held n f0.type [c0] = some y0 := by simpa [o0, k0] using hff 0 f0 rfl
    have g1 : DataW.trod enc P w base spare held n f1.type [c1] = some y1 := by simpa [o1, k1] using hff 1 f1 rfl
    have g2 : DataW.trod enc P w base spare held n f2.type [c2] = some y2 := by simpa [o2, k2] using hff 2 f2 rfl
    have g3 : DataW.trod enc P w base spare held n f3.type [c3] = some y3 := by simpa [o3, k3] using hff 3 f3 rfl
    obtain ⟨x0, e0, _, _⟩ := DataW.trod_int hi0 g0
    obtain ⟨x1, e1, _, _⟩ := DataW.trod_int hi1 g1
    obtain ⟨x2, e2, _, _⟩ := DataW.trod_int hi2 g2
    obtain ⟨x3, e3, _, w3⟩ := DataW.trod_string hi3 g3
    simp at e0 e1 e2 e3
    subst e0 e1 e2 e3
    exact ⟨(x0, x1, x2, x3), rfl, w3⟩

/-- a slice of items that was handed in. -/
theorem open_items {H : Type} {enc : TypeId × Value → H} {P : Program} {w : World} {t ti : TypeId} {f0 f1 f2 f3 : Field} {fuel : Nat} {ao : Option Addr} {len cap : Nat} {x : DataW H × List MemPlace} (ht : P.underlying t = some (.slice ti)) (hs : P.underlying ti = some (.struct #[f0, f1, f2, f3])) (hone : oneCellFields P #[f0, f1, f2, f3] = true) (hC : P.cellsOf ti = 4)
    (hi0 : P.underlying f0.type = some (.int .i64)) (hi1 : P.underlying f1.type = some (.int .i64)) (hi2 : P.underlying f2.type = some (.int .i64)) (hi3 : P.underlying f3.type = some .string)
    (h : DataW.trod enc P w 0 (fun _ => true) true fuel t [.slice ao len cap] = some x) : ∃ ts : List It, ts.length = len ∧ ItemsAt w ao ts ∧ len ≤ maxLen ∧ ∀ y ∈ ts, y.2.2.2.size ≤ maxLen := by
  rcases open_slice ht h with ⟨hcs, _⟩ | ⟨a, len', cap', m, n, D, Pl, hcs, _, hl, hm, hmm, _, hx⟩
  · simp at hcs
    obtain ⟨rfl, rfl, rfl⟩ := hcs
    exact ⟨[], rfl, fun i hi => absurd hi (by simp), Nat.zero_le _, fun y hy => by cases hy⟩
  · simp at hcs
    obtain ⟨rfl, rfl, rfl⟩ := hcs
    simp only [if_true] at hmm
    rw [hC] at hx
    obtain ⟨f, hf⟩ := choose_lt (α := It) (n := len) (p := fun i y => (∀ j, j < 4 → w.cell? ((a.add (i * 4)).add j) = [Value.int .i64 y.1, .int .i64 y.2.1, .int .i64 y.2.2.1, .string y.2.2.2][j]?) ∧ y.2.2.2.size ≤ maxLen) (fun i hi => by
      obtain ⟨cs', h1, h2⟩ := hx i (by omega)
      obtain ⟨y, rfl, hy⟩ := open_item hs hone hC hi0 hi1 hi2 hi3 h2
      exact ⟨y, (World.cells?_some h1).2.2, hy⟩)
    refine ⟨(List.range len).map f, by simp, ?_, Nat.le_trans hl hm, fun y hy => ?_⟩
    · intro i hi
      have hi' : i < len := by simpa using hi
      obtain ⟨b, off, spot⟩ := a
      have hc := (hf i hi').1
      have hspot : spot = none := by
        have := World.cell?_spot ((hf 0 (by omega)).1 0 (by omega))
        simpa [Addr.add] using this
      subst hspot
      have hadd : ∀ j, ((⟨b, off, none⟩ : Addr).add (i * 4)).add j = ⟨b, off + (i * 4 + j), none⟩ := fun j => by
        rw [add_add]
        unfold Addr.add
        split <;> simp_all
      have hc0 := hc 0 (by omega)
      have hc1 := hc 1 (by omega)
      have hc2 := hc 2 (by omega)
      have hc3 := hc 3 (by omega)
      rw [hadd] at hc0 hc1 hc2 hc3
      have hget : ((List.range len).map f)[i] = f i := by simp
      rw [hget]
      refine ⟨b, off, rfl, ?_, ?_, ?_, ?_, ?_⟩
      · have hb : w.cell? ⟨b, off + (i * 4 + 0), none⟩ ≠ none := by rw [hc0]; simp
        rcases Nat.lt_or_ge b w.heap.size with h | h
        · exact h
        · exact absurd (by simp [World.cell?, Array.getElem?_eq_none h]) hb
      · simpa using hc0
      · simpa [Nat.add_assoc] using hc1
      · simpa [Nat.add_assoc] using hc2
      · simpa [Nat.add_assoc] using hc3
    · obtain ⟨i, hi, rfl⟩ := List.mem_map.1 hy
      exact (hf i (by simpa using hi)).2

/-- the lists that a slice of slices holds. -/
def IsAt (w : World) (ao : Option Addr) (ls : List (List It)) : Prop :=
  ∀ i (h : i < ls.length), ∃ b off ia ic, ao = some ⟨b, off, none⟩ ∧ b < w.heap.size ∧ w.cell? ⟨b, off + i, none⟩ = some (.slice ia ls[i].length ic) ∧ ItemsAt w ia ls[i] ∧ ls[i].length ≤ maxLen ∧ ∀ y ∈ ls[i], y.2.2.2.size ≤ maxLen
theorem IsAt.stays {w w' : World} {ao : Option Addr} {ls : List (List It)} (h : IsAt w ao ls) (hb : Below w.heap.size w w') : IsAt w' ao ls := by
  intro i hi
  obtain ⟨b, off, ia, ic, h1, h2, h3, h4, h5⟩ := h i hi
  exact ⟨b, off, ia, ic, h1, Nat.lt_of_lt_of_le h2 hb.size, (hb.cell (p := ⟨b, off + i, none⟩) h2).trans h3, h4.stays hb, h5⟩
end Go.Proofs.Ytdodeillifoibaa


