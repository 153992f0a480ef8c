/- Joined texts: COdm COev. -/
import Derived.Test.YtdodeillifoibaaIo20
import Derived.Test.YtdodeillifoibaaIo17
/- A parameter that is a daemon, opened. -/
namespace Go.Proofs.Ytdodeillifoibaa
open Go.RowKit Go.ChangeShapes Go.WideShapes Go.Deep Go.WideElems Pl
open Go.Joins (slice_form)
set_option linter.unusedVariables false
set_option linter.unusedSimpArgs false

theorem coE : Try.prog.cellsOf 55 = 8 := by kernel_rfl
theorem coIt : Try.prog.cellsOf 53 = 4 := by kernel_rfl
/-- a slice of structs that was handed in. -/
theorem open_rows {H : Type} {enc : TypeId × Value → H} {P : Program} {w : World} {E : Type} (z : E) (row : E → List Value) (size : Nat) (h0 : 0 < size) (Pr : E → Prop) {tS tE : TypeId} (hu : P.underlying tS = some (.slice tE)) (hC : P.cellsOf tE = size) (hl : ∀ y, (row y).length = size)
    (hel : ∀ n cs x, DataW.trod enc P w 0 (fun _ => true) true n tE cs = some x → ∃ y : E, cs = row y ∧ Pr y)
    {fuel : Nat} {ao : Option Addr} {len cap : Nat} {x : DataW H × List MemPlace} (h : DataW.trod enc P w 0 (fun _ => true) true fuel tS [.slice ao len cap] = some x) :
    ∃ es : List E, es.length = len ∧ RwA w ao size (es.map row) ∧ len ≤ 9223372036854775807 ∧ ∀ e ∈ es, Pr e := by
  rcases open_slice hu h with ⟨hcs, _⟩ | ⟨a, len', cap', m, n, D, Pl, hcs, _, hl1, hm, hmm, _, hx⟩
  · simp at hcs
    obtain ⟨rfl, rfl, rfl⟩ := hcs
    exact ⟨[], rfl, fun i hi => absurd hi (by simp), Nat.zero_le _, fun y hy => by cases hy⟩
  · simp at hcs
    obtain ⟨rfl, rfl, rfl⟩ := hcs
    simp only [if_true] at hmm
    rw [hC] at hx
    haveI : Inhabited E := ⟨z⟩
    obtain ⟨f, hf⟩ := choose_lt (α := E) (n := len) (p := fun i y => (∀ j, j < size → w.cell? ((a.add (i * size)).add j) = (row y)[j]?) ∧ Pr y) (fun i hi => by
      obtain ⟨cs', h1, h2⟩ := hx i (by omega)
      obtain ⟨y, rfl, hy⟩ := hel _ _ _ h2
      exact ⟨y, (World.cells?_some h1).2.2, hy⟩)
    refine ⟨(List.range len).map f, by simp, ?_, by have := Nat.le_trans hl1 hm; unfold maxLen at this; omega, fun y hy => ?_⟩
    · intro i hi
      have hi' : i < len := by simpa using hi
      obtain ⟨b, off, spot⟩ := a
      have hc := (hf i hi').1
      have hr0 : ∃ u, (row (f 0))[0]? = some u := ⟨_, List.getElem?_eq_getElem (by rw [hl]; exact h0)⟩
      have hspot : spot = none := by
        obtain ⟨u, hu0⟩ := hr0
        have := World.cell?_spot (((hf 0 (by omega)).1 0 h0).trans hu0)
        simpa [Addr.add] using this
      subst hspot
      have hadd : ∀ j, ((⟨b, off, none⟩ : Addr).add (i * size)).add j = ⟨b, off + (i * size + j), none⟩ := fun j => by
        rw [add_add]
        unfold Addr.add
        split <;> simp_all
      have hget : (((List.range len).map f).map row)[i] = row (f i) := by simp
      rw [hget]
      refine ⟨b, off, rfl, ?_, hl _, fun j v hv => ?_⟩
      · obtain ⟨u, hu1⟩ : ∃ u, (row (f i))[0]? = some u := ⟨_, List.getElem?_eq_getElem (by rw [hl]; exact h0)⟩
        have hc0 := hc 0 h0
        rw [hadd, hu1] at hc0
        have hb : w.cell? ⟨b, off + (i * size + 0), none⟩ ≠ none := by rw [hc0]; simp
        rcases Nat.lt_or_ge b w.heap.size with h | h
        · exact h
        · exact absurd (by simp [World.cell?, Array.getElem?_eq_none h]) hb
      · have hj : j < size := by rw [← hl (f i)]; exact (List.getElem?_eq_some_iff.1 hv).1
        have hcj := hc j hj
        rw [hadd, hv] at hcj
        rw [Nat.add_assoc]
        exact hcj
    · obtain ⟨i, hi, rfl⟩ := List.mem_map.1 hy
      exact (hf i (by simpa using hi)).2
set_option maxRecDepth 100000 in
theorem open_eventE {H : Type} {enc : TypeId × Value → H} {w : World} (n : Nat) (cs : List Value) (x : DataW H × List MemPlace) (h : DataW.trod enc Try.prog w 0 (fun _ => true) true n 55 cs = some x) : ∃ y : Ev, cs = y.row ∧ y.R w ∧ y.L := by
  obtain ⟨xs, n, _, _, hl, hlen, hff⟩ := DataW.trod_struct Try.underlying55 h
  rw [coE] at hl
  match xs, hlen, cs, hl with
  | [y0, y1, y2, y3], _, [c0, c1, c2, c3, c4, c5, c6, c7], _ =>
    have e0 := hff 0 _ rfl
    have e1 := hff 1 _ rfl
    have e2 := hff 2 _ rfl
    have e3 := hff 3 _ rfl
    simp [co3, coR, coIt, coI] at e0 e1 e2 e3
    obtain ⟨x0, q0, _, _⟩ := DataW.trod_int Try.underlying3 e0
    obtain ⟨wa, wl, wc, q3⟩ := slice_form Try.underlying49 e3
    obtain ⟨it, qi, hit⟩ := open_item Try.underlying53 (by kernel_rfl) cellsI Try.underlying3 Try.underlying3 Try.underlying3 Try.underlying9 e2
    obtain ⟨rs, n1, _, _, _, hrl, hrf⟩ := DataW.trod_struct Try.underlying51 e1
    match rs, hrl with
    | [r0, r1], _ =>
      have f0 := hrf 0 _ rfl
      have f1 := hrf 1 _ rfl
      simp [co3, coI] at f0 f1
      obtain ⟨z0, k0, _, _⟩ := DataW.trod_int Try.underlying3 f0
      obtain ⟨am, lm, cm, k1⟩ := slice_form Try.underlying49 f1
      obtain ⟨q, f, l, t⟩ := it
      simp at q0 q3 k0 k1 qi
      obtain ⟨rfl, rfl, rfl, rfl⟩ := qi
      subst q0 q3 k0 k1
      obtain ⟨ms, hm1, hm2, hm3⟩ := open_intsAt Try.underlying49 Try.underlying3 co3 f1
      obtain ⟨wi, hw1, hw2, hw3⟩ := open_intsAt Try.underlying49 Try.underlying3 co3 e3
      subst hm1 hw1
      unfold maxLen at hm3 hw3 hit
      exact ⟨⟨x0, z0, ms, q, f, l, t, wi, ⟨am, ms.length, cm⟩, ⟨wa, wi.length, wc⟩⟩, rfl, ⟨⟨am, cm, rfl, hm2⟩, ⟨wa, wc, rfl, hw2⟩⟩, hm3, hw3, hit⟩
end Go.Proofs.Ytdodeillifoibaa


/- A slice of events that was handed in, opened. -/
namespace Go.Proofs.Ytdodeillifoibaa
open Go.RowKit Go.ChangeShapes Go.WideShapes Go.Deep Go.WideElems Pl
open Go.Joins (slice_form)
set_option linter.unusedVariables false
set_option linter.unusedSimpArgs false

theorem open_events {H : Type} {enc : TypeId × Value → H} {w : World} {fuel : Nat} {ao : Option Addr} {len cap : Nat} {x : DataW H × List MemPlace} (h : DataW.trod enc Try.prog w 0 (fun _ => true) true fuel 22 [.slice ao len cap] = some x) :
    ∃ es : List Ev, es.length = len ∧ RwA w ao 8 (es.map Ev.row) ∧ len ≤ 9223372036854775807 ∧ ∀ e ∈ es, e.R w ∧ e.L :=
  open_rows ⟨0, 0, [], 0, 0, 0, ⟨#[]⟩, [], zSv, zSv⟩ Ev.row 8 (by decide) (fun y => y.R w ∧ y.L) Try.underlying22 coE (fun _ => rfl) open_eventE h
end Go.Proofs.Ytdodeillifoibaa


