/- Parameters of the laws on roads, opened. -/
import Derived.Test.YtlfgglmgajcpoaaRd
import Derived.WalkKit
import Derived.ProofKit
import Derived.OpenShut
import Derived.ChangeSlices
import Derived.ChangeBears2
import Derived.Lib.SmallJoins
import Derived.Deep.Slices
import Derived.Deep.Fields
namespace Go.Proofs.Ytlfgglmgajcpoaa
open Go.ChangeShapes Go.WideShapes Go.ChangeAt Go.RowKit Go.Deep Pl
open Go.Joins (slice_form)
set_option linter.unusedVariables false

theorem cellsRd : Try.prog.cellsOf 73 = 3 := by kernel_rfl

/-- the three cells of a road that a slice was handed with. -/
theorem open_road {H : Type} {enc : TypeId × Value → H} {P : Program} {w : World} {base : Nat} {spare : Nat → Bool} {held : Bool} {t : TypeId} {f0 f1 f2 : Field} {n : Nat} {cs : List Value} {x : DataW H × List MemPlace} (hs : P.underlying t = some (.struct #[f0, f1, f2])) (hone : oneCellFields P #[f0, f1, f2] = true) (hC : P.cellsOf t = 3)
    (hi0 : P.underlying f0.type = some (.int .i64)) (hi1 : P.underlying f1.type = some (.int .i64)) (hi2 : P.underlying f2.type = some (.int .i64))
    (h : DataW.trod enc P w base spare held n t cs = some x) : ∃ y : Rd, cs = [.int .i64 y.a, .int .i64 y.b, .int .i64 y.c] := by
  obtain ⟨xs, n, _, _, hl, hlen, hff⟩ := DataW.trod_struct hs h
  rw [hC] at hl
  obtain ⟨o0, k0⟩ := hone_of hone 0 f0 rfl
  obtain ⟨o1, k1⟩ := hone_of hone 1 f1 rfl
  obtain ⟨o2, k2⟩ := hone_of hone 2 f2 rfl
  match xs, hlen, cs, hl with
  | [y0, y1, y2], _, [c0, c1, c2], _ =>
    have g0 : DataW.trod enc P w base spare held n f0.type [c0] = some y0 := by simpa [o0, k0] using hff 0 f0 rfl
    have g1 : DataW.trod enc P w base spare held n f1.type [c1] = some y1 := by simpa [o1, k1] using hff 1 f1 rfl
    have g2 : DataW.trod enc P w base spare held n f2.type [c2] = some y2 := by simpa [o2, k2] using hff 2 f2 rfl
    obtain ⟨x0, e0, _, _⟩ := DataW.trod_int hi0 g0
    obtain ⟨x1, e1, _, _⟩ := DataW.trod_int hi1 g1
    obtain ⟨x2, e2, _, _⟩ := DataW.trod_int hi2 g2
    simp at e0 e1 e2
    subst e0 e1 e2
    exact ⟨⟨x0, x1, x2⟩, rfl⟩

/-- a slice of roads that was handed in. -/
theorem open_roads {H : Type} {enc : TypeId × Value → H} {P : Program} {w : World} {t ti : TypeId} {f0 f1 f2 : Field} {fuel : Nat} {ao : Option Addr} {len cap : Nat} {x : DataW H × List MemPlace} (ht : P.underlying t = some (.slice ti)) (hs : P.underlying ti = some (.struct #[f0, f1, f2])) (hone : oneCellFields P #[f0, f1, f2] = true) (hC : P.cellsOf ti = 3)
    (hi0 : P.underlying f0.type = some (.int .i64)) (hi1 : P.underlying f1.type = some (.int .i64)) (hi2 : P.underlying f2.type = some (.int .i64))
    (h : DataW.trod enc P w 0 (fun _ => true) true fuel t [.slice ao len cap] = some x) : ∃ ts : List Rd, ts.length = len ∧ RoadsAt w ao ts ∧ len ≤ maxLen := by
  rcases open_slice ht h with ⟨hcs, _⟩ | ⟨a, len', cap', m, n, D, Pl, hcs, _, hl, hm, hmm, _, hx⟩
  · simp at hcs
    obtain ⟨rfl, rfl, rfl⟩ := hcs
    exact ⟨[], rfl, fun i hi => absurd hi (by simp), Nat.zero_le _⟩
  · simp at hcs
    obtain ⟨rfl, rfl, rfl⟩ := hcs
    simp only [if_true] at hmm
    rw [hC] at hx
    haveI : Inhabited Rd := ⟨⟨0, 0, 0⟩⟩
    obtain ⟨f, hf⟩ := choose_lt (α := Rd) (n := len) (p := fun i y => (∀ j, j < 3 → w.cell? ((a.add (i * 3)).add j) = [Value.int .i64 y.a, .int .i64 y.b, .int .i64 y.c][j]?)) (fun i hi => by
      obtain ⟨cs', h1, h2⟩ := hx i (by omega)
      obtain ⟨y, rfl⟩ := open_road hs hone hC hi0 hi1 hi2 h2
      exact ⟨y, (World.cells?_some h1).2.2⟩)
    refine ⟨(List.range len).map f, by simp, ?_, Nat.le_trans hl hm⟩
    · intro i hi
      have hi' : i < len := by simpa using hi
      obtain ⟨b, off, spot⟩ := a
      have hc := hf i hi'
      have hspot : spot = none := by
        have := World.cell?_spot ((hf 0 (by omega)) 0 (by omega))
        simpa [Addr.add] using this
      subst hspot
      have hadd : ∀ j, ((⟨b, off, none⟩ : Addr).add (i * 3)).add j = ⟨b, off + (i * 3 + j), none⟩ := fun j => by
        rw [add_add]
        unfold Addr.add
        split <;> simp_all
      have hc0 := hc 0 (by omega)
      have hc1 := hc 1 (by omega)
      have hc2 := hc 2 (by omega)
      rw [hadd] at hc0 hc1 hc2
      have hget : ((List.range len).map f)[i] = f i := by simp
      rw [hget]
      refine ⟨b, off, rfl, ?_, ?_, ?_, ?_⟩
      · have hb : w.cell? ⟨b, off + (i * 3 + 0), none⟩ ≠ none := by rw [hc0]; simp
        rcases Nat.lt_or_ge b w.heap.size with h | h
        · exact h
        · exact absurd (by simp [World.cell?, Array.getElem?_eq_none h]) hb
      · simpa using hc0
      · simpa [Nat.add_assoc] using hc1
      · simpa [Nat.add_assoc] using hc2
end Go.Proofs.Ytlfgglmgajcpoaa
