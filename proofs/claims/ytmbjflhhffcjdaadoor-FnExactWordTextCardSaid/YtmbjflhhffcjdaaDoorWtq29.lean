/- Joined texts: CAg CAt. -/
import Derived.Test.YtmbjflhhffcjdaaDoorWtq2
import Derived.Lib.SmallJoins
import Derived.SliceStrings
/- A struct of six one-cell fields, by value, opened; a slice of ints in a cell, opened. No program is named here. -/
namespace Go.Proofs.YtmbjflhhffcjdaaDoor.Pl
open Go Go.RowKit Go.ChangeShapes Go.WideShapes Go.Deep Go.WideElems
set_option linter.unusedVariables false

section
variable {H : Type} {enc : TypeId × Value → H} {P : Program} {w : World} {base : Nat} {spare : Nat → Bool} {held : Bool}
end

end Go.Proofs.YtmbjflhhffcjdaaDoor.Pl


/- A parameter that is a list of texts, opened. -/
namespace Go.Proofs.YtmbjflhhffcjdaaDoor.Pl
open Go Go.RowKit Go.ChangeShapes Go.WideShapes Go.Deep Go.WideElems
set_option linter.unusedVariables false

/-- a slice of texts in a cell. -/
theorem open_textsAt {H : Type} {enc : TypeId × Value → H} {P : Program} {w : World} {t : TypeId} {fuel : Nat} {ao : Option Addr} {len cap : Nat} {x : DataW H × List MemPlace} (ht : P.underlying t = some (.slice 9)) (h9 : P.underlying 9 = some .string) (hc9 : P.cellsOf 9 = 1)
    (h : DataW.trod enc P w 0 (fun _ => true) true fuel t [.slice ao len cap] = some x) : ∃ ts : List ByteArray, ts.length = len ∧ TextsAt w ao ts ∧ len ≤ maxLen ∧ ∀ t ∈ ts, t.size ≤ maxLen := by
  rcases open_strings ht h9 hc9 h with ⟨hcs, hx⟩ | ⟨a, len', cap', ss, hcs, _, hl, hm, hz, hx, hcell, hwz⟩
  · simp at hcs
    obtain ⟨rfl, rfl, rfl⟩ := hcs
    exact ⟨[], rfl, fun i hi => absurd hi (by simp), Nat.zero_le _, fun t ht => by cases ht⟩
  · simp at hcs
    obtain ⟨rfl, rfl, rfl⟩ := hcs
    simp only [if_true] at hz
    have htl : (ss.take len).length = len := by rw [List.length_take]; omega
    refine ⟨ss.take len, htl, ?_, Nat.le_trans hl hm, fun t ht => hwz t (List.mem_of_mem_take ht)⟩
    intro i hi
    have hi' : i < len := by rw [htl] at hi; exact hi
    have hc := hcell i (by omega)
    obtain ⟨b, off, spot⟩ := a
    have hspot : spot = none := by simpa [Addr.add] using World.cell?_spot (hcell 0 (by omega))
    subst hspot
    have hadd : (⟨b, off, none⟩ : Addr).add i = ⟨b, off + i, none⟩ := by unfold Addr.add; split <;> simp_all
    rw [hadd] at hc
    refine ⟨b, off, rfl, ?_, ?_⟩
    · have hb : w.cell? ⟨b, off + i, none⟩ ≠ none := by rw [hc]; simp
      rcases Nat.lt_or_ge b w.heap.size with h | h
      · exact h
      · exact absurd (by simp [World.cell?, Array.getElem?_eq_none h]) hb
    · rw [hc]
      simp [List.getD, List.getElem?_eq_getElem (show i < ss.length by omega)]
end Go.Proofs.YtmbjflhhffcjdaaDoor.Pl


