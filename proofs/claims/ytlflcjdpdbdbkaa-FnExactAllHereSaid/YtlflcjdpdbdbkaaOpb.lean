/- Lists of bundles that were handed in, opened. -/
import Derived.Test.YtlflcjdpdbdbkaaBl
import Derived.Test.YtlflcjdpdbdbkaaOp
namespace Go.Proofs.Ytlflcjdpdbdbkaa
open Go.ChangeShapes Go.WideShapes Go.ChangeAt Go.RowKit Go.Deep Go.WideElems Pl
open Go.Joins (slice_form)
set_option linter.unusedVariables false

theorem cellsLBu : Try.prog.cellsOf 24 = 4 := by kernel_rfl

/-- the four cells of a bundle that a slice was handed with. -/
theorem open_bundle {H : Type} {enc : TypeId × Value → H} {P : Program} {w : World} {t ti : TypeId} {f0 f1 f2 f3 e0 e1 e2 e3 : Field} {n : Nat} {cs : List Value} {x : DataW H × List MemPlace} (hs : P.underlying t = some (.struct #[f0, f1, f2, f3])) (hone : oneCellFields P #[f0, f1, f2, f3] = true) (hC : P.cellsOf t = 4)
    (hi0 : P.underlying f0.type = some (.int .i64)) (hi1 : P.underlying f1.type = some (.int .i64)) (hi2 : P.underlying f2.type = some (.int .i64)) (hi3 : P.underlying f3.type = some (.slice ti))
    (hs' : P.underlying ti = some (.struct #[e0, e1, e2, e3])) (hone' : oneCellFields P #[e0, e1, e2, e3] = true) (hC' : P.cellsOf ti = 4) (hj0 : P.underlying e0.type = some (.int .i64)) (hj1 : P.underlying e1.type = some (.int .i64)) (hj2 : P.underlying e2.type = some (.int .i64)) (hj3 : P.underlying e3.type = some .string)
    (h : DataW.trod enc P w 0 (fun _ => true) true n t cs = some x) : ∃ y : Bu, cs = [.int .i64 y.f, .int .i64 y.n, .int .i64 y.o, .slice y.s.a y.s.n y.s.c] ∧ RIt w y.s y.ts ∧ y.ts.length ≤ maxLen ∧ ∀ z ∈ y.ts, z.2.2.2.size ≤ maxLen := by
  obtain ⟨xs, n, _, _, hl, hlen, hff⟩ := DataW.trod_struct hs h
  rw [hC] at hl
  obtain ⟨o0, k0⟩ := hone_of hone 0 f0 rfl
  obtain ⟨o1, k1⟩ := hone_of hone 1 f1 rfl
  obtain ⟨o2, k2⟩ := hone_of hone 2 f2 rfl
  obtain ⟨o3, k3⟩ := hone_of hone 3 f3 rfl
  match xs, hlen, cs, hl with
  | [y0, y1, y2, y3], _, [c0, c1, c2, c3], _ =>
    have g0 : DataW.trod enc P w 0 (fun _ => true) true n f0.type [c0] = some y0 := by simpa [o0, k0] using hff 0 f0 rfl
    have g1 : DataW.trod enc P w 0 (fun _ => true) true n f1.type [c1] = some y1 := by simpa [o1, k1] using hff 1 f1 rfl
    have g2 : DataW.trod enc P w 0 (fun _ => true) true n f2.type [c2] = some y2 := by simpa [o2, k2] using hff 2 f2 rfl
    have g3 : DataW.trod enc P w 0 (fun _ => true) true n f3.type [c3] = some y3 := by simpa [o3, k3] using hff 3 f3 rfl
    obtain ⟨x0, e0, _, _⟩ := DataW.trod_int hi0 g0
    obtain ⟨x1, e1, _, _⟩ := DataW.trod_int hi1 g1
    obtain ⟨x2, e2, _, _⟩ := DataW.trod_int hi2 g2
    obtain ⟨ia, il, ic, e3⟩ := slice_form hi3 g3
    simp at e0 e1 e2 e3
    subst e0 e1 e2 e3
    obtain ⟨l, hll, hia, hlm, hty⟩ := open_items hi3 hs' hone' hC' hj0 hj1 hj2 hj3 g3
    subst hll
    exact ⟨⟨x0, x1, x2, l, ⟨ia, l.length, ic⟩⟩, rfl, ⟨rfl, hia⟩, hlm, hty⟩

set_option maxRecDepth 100000 in
/-- a slice of bundles that was handed in. -/
theorem open_bundles {H : Type} {enc : TypeId × Value → H} {w : World} {fuel : Nat} {ao : Option Addr} {len cap : Nat} {x : DataW H × List MemPlace}
    (h : DataW.trod enc Try.prog w 0 (fun _ => true) true fuel 36 [.slice ao len cap] = some x) : ∃ bs : List Bu, bs.length = len ∧ BnsAt w ao bs ∧ len ≤ 9223372036854775807 ∧ ∀ b ∈ bs, b.ts.length ≤ 9223372036854775807 ∧ ∀ y ∈ b.ts, y.2.2.2.size ≤ 9223372036854775807 := by
  rcases open_slice Try.underlying36 h with ⟨hcs, _⟩ | ⟨a, len', cap', m, n, D, Pl, hcs, _, hl, hm, hmm, _, hx⟩
  · simp at hcs
    obtain ⟨rfl, rfl, rfl⟩ := hcs
    exact ⟨[], rfl, fun i hi => absurd hi (by simp), Nat.zero_le _, fun y hy => by cases hy⟩
  · simp at hcs
    obtain ⟨rfl, rfl, rfl⟩ := hcs
    simp only [if_true] at hmm
    rw [cellsLBu] at hx
    haveI : Inhabited Bu := ⟨⟨0, 0, 0, [], ⟨none, 0, 0⟩⟩⟩
    obtain ⟨f, hf⟩ := choose_lt (α := Bu) (n := len) (p := fun i y => (∀ j, j < 4 → w.cell? ((a.add (i * 4)).add j) = [Value.int .i64 y.f, .int .i64 y.n, .int .i64 y.o, .slice y.s.a y.s.n y.s.c][j]?) ∧ RIt w y.s y.ts ∧ y.ts.length ≤ maxLen ∧ ∀ z ∈ y.ts, z.2.2.2.size ≤ maxLen) (fun i hi => by
      obtain ⟨cs', h1, h2⟩ := hx i (by omega)
      obtain ⟨y, rfl, hy⟩ := open_bundle Try.underlying24 (by kernel_rfl) cellsLBu Try.underlying3 Try.underlying3 Try.underlying3 Try.underlying22 Try.underlying77 (by kernel_rfl) cellsI Try.underlying3 Try.underlying3 Try.underlying3 Try.underlying9 h2
      exact ⟨y, (World.cells?_some h1).2.2, hy⟩)
    refine ⟨(List.range len).map f, by simp, ?_, by have := Nat.le_trans hl hm; unfold maxLen at this; omega, fun y hy => ?_⟩
    · intro i hi
      have hi' : i < len := by simpa using hi
      obtain ⟨b, off, spot⟩ := a
      have hc := (hf i hi').1
      have hspot : spot = none := by
        have := World.cell?_spot ((hf 0 (by omega)).1 0 (by omega))
        simpa [Addr.add] using this
      subst hspot
      have hadd : ∀ j, ((⟨b, off, none⟩ : Addr).add (i * 4)).add j = ⟨b, off + (i * 4 + j), none⟩ := fun j => by
        rw [add_add]
        unfold Addr.add
        split <;> simp_all
      have hc0 := hc 0 (by omega)
      have hc1 := hc 1 (by omega)
      have hc2 := hc 2 (by omega)
      have hc3 := hc 3 (by omega)
      rw [hadd] at hc0 hc1 hc2 hc3
      have hget : ((List.range len).map f)[i] = f i := by simp
      rw [hget]
      refine ⟨b, off, rfl, ?_, ?_, ?_, ?_, ?_, (hf i hi').2.1⟩
      · have hb : w.cell? ⟨b, off + (i * 4 + 0), none⟩ ≠ none := by rw [hc0]; simp
        rcases Nat.lt_or_ge b w.heap.size with h | h
        · exact h
        · exact absurd (by simp [World.cell?, Array.getElem?_eq_none h]) hb
      · simpa using hc0
      · simpa [Nat.add_assoc] using hc1
      · simpa [Nat.add_assoc] using hc2
      · simpa [Nat.add_assoc] using hc3
    · obtain ⟨i, hi, rfl⟩ := List.mem_map.1 hy
      obtain ⟨_, _, h1, h2⟩ := hf i (by simpa using hi)
      refine ⟨by unfold maxLen at h1; omega, fun z hz => ?_⟩
      have := h2 z hz
      unfold maxLen at this
      omega
end Go.Proofs.Ytlflcjdpdbdbkaa
