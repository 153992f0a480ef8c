/- A slice of ints, and a slice of slices of ints, that were handed in, opened. -/
import Derived.Test.YtlfgglmgajcpoaaLo
import Derived.WalkKit
import Derived.ProofKit
import Derived.OpenShut
import Derived.ChangeSlices
import Derived.ChangeBears2
import Derived.Lib.SmallJoins
import Derived.Deep.Slices
import Derived.Deep.Fields
namespace Go.Proofs.Ytlfgglmgajcpoaa
open Go Go.RowKit Go.ChangeShapes Go.WideShapes Go.Deep Go.WideElems Pl
set_option linter.unusedVariables false

/-- a slice of ints in a cell. -/
theorem open_intsAt {H : Type} {enc : TypeId × Value → H} {P : Program} {w : World} {t : TypeId} {fuel : Nat} {ao : Option Addr} {len cap : Nat} {x : DataW H × List MemPlace} (ht : P.underlying t = some (.slice 3)) (h3 : P.underlying 3 = some (.int .i64)) (hc3 : P.cellsOf 3 = 1)
    (h : DataW.trod enc P w 0 (fun _ => true) true fuel t [.slice ao len cap] = some x) : ∃ ts : List Int, ts.length = len ∧ IntsAt w ao ts ∧ len ≤ maxLen := by
  rcases open_ints ht h3 hc3 h with ⟨hcs, hx⟩ | ⟨a, len', cap', zs, hcs, _, hl, hm, hz, hx, hcell, hwz⟩
  · simp at hcs
    obtain ⟨rfl, rfl, rfl⟩ := hcs
    exact ⟨[], rfl, fun i hi => absurd hi (by simp), Nat.zero_le _⟩
  · simp at hcs
    obtain ⟨rfl, rfl, rfl⟩ := hcs
    simp only [if_true] at hz
    have htl : (zs.take len).length = len := by rw [List.length_take]; omega
    refine ⟨zs.take len, htl, ?_, Nat.le_trans hl hm⟩
    intro i hi
    have hi' : i < len := by rw [htl] at hi; exact hi
    have hc := hcell i (by omega)
    obtain ⟨b, off, spot⟩ := a
    have hspot : spot = none := by simpa [Addr.add] using World.cell?_spot (hcell 0 (by omega))
    subst hspot
    have hadd : (⟨b, off, none⟩ : Addr).add i = ⟨b, off + i, none⟩ := by unfold Addr.add; split <;> simp_all
    rw [hadd] at hc
    refine ⟨b, off, rfl, ?_, ?_⟩
    · have hb : w.cell? ⟨b, off + i, none⟩ ≠ none := by rw [hc]; simp
      rcases Nat.lt_or_ge b w.heap.size with h | h
      · exact h
      · exact absurd (by simp [World.cell?, Array.getElem?_eq_none h]) hb
    · rw [hc]
      simp [List.getD, List.getElem?_eq_getElem (show i < zs.length by omega)]

/-- a slice of slices of ints that was handed in. -/
theorem open_ss {H : Type} {enc : TypeId × Value → H} {P : Program} {w : World} {t ti : TypeId} {fuel : Nat} {ao : Option Addr} {len cap : Nat} {x : DataW H × List MemPlace} (ht : P.underlying t = some (.slice ti)) (hti : P.underlying ti = some (.slice 3)) (hC : P.cellsOf ti = 1) (h3 : P.underlying 3 = some (.int .i64)) (hc3 : P.cellsOf 3 = 1)
    (h : DataW.trod enc P w 0 (fun _ => true) true fuel t [.slice ao len cap] = some x) : ∃ ls : List (List Int), ls.length = len ∧ LsAt w ao ls ∧ len ≤ maxLen := by
  rcases open_slice1 ht hC h with ⟨hcs, _⟩ | ⟨a, len', cap', m, n, V, D, Pl, hcs, _, hl, hm, hmm, _, hx⟩
  · simp at hcs
    obtain ⟨rfl, rfl, rfl⟩ := hcs
    exact ⟨[], rfl, fun i hi => absurd hi (by simp), Nat.zero_le _⟩
  · simp at hcs
    obtain ⟨rfl, rfl, rfl⟩ := hcs
    simp only [if_true] at hmm
    obtain ⟨f, hf⟩ := choose_lt (α := List Int) (n := len) (p := fun i l => ∃ ia ic, w.cell? (a.add i) = some (.slice ia l.length ic) ∧ IntsAt w ia l ∧ l.length ≤ 9223372036854775807) (fun i hi => by
      obtain ⟨hc, ht2⟩ := hx i (by omega)
      obtain ⟨ia, il, ic, hv⟩ : ∃ ia il ic, V i = .slice ia il ic := by
        rcases open_slice hti ht2 with ⟨e, _⟩ | ⟨a', l', c', _, _, _, _, e, _⟩
        · simp at e; exact ⟨_, _, _, e⟩
        · simp at e; exact ⟨_, _, _, e⟩
      rw [hv] at hc ht2
      obtain ⟨l, hll, hia, hlm⟩ := open_intsAt hti h3 hc3 ht2
      subst hll
      exact ⟨l, ia, ic, hc, hia, by unfold maxLen at hlm; omega⟩)
    refine ⟨(List.range len).map f, by simp, ?_, Nat.le_trans hl hm⟩
    intro i hi
    have hi' : i < len := by simpa using hi
    obtain ⟨b, off, spot⟩ := a
    obtain ⟨ia, ic, hc, hia, hlm⟩ := hf i hi'
    have hspot : spot = none := by
      obtain ⟨_, _, hc0, _⟩ := hf 0 (by omega)
      simpa [Addr.add] using World.cell?_spot hc0
    subst hspot
    have hadd : (⟨b, off, none⟩ : Addr).add i = ⟨b, off + i, none⟩ := by unfold Addr.add; split <;> simp_all
    rw [hadd] at hc
    have hget : ((List.range len).map f)[i] = f i := by simp
    rw [hget]
    refine ⟨b, off, ia, ic, rfl, ?_, hc, hia, hlm⟩
    have hb : w.cell? ⟨b, off + i, none⟩ ≠ none := by rw [hc]; simp
    rcases Nat.lt_or_ge b w.heap.size with h | h
    · exact h
    · exact absurd (by simp [World.cell?, Array.getElem?_eq_none h]) hb
end Go.Proofs.Ytlfgglmgajcpoaa
