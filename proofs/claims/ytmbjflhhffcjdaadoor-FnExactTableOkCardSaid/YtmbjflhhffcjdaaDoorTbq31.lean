/- Joined texts: COdm COtb. -/
import Derived.Test.YtmbjflhhffcjdaaDoorTbq30
import Derived.Test.YtmbjflhhffcjdaaDoorTbq26
import Derived.Test.YtmbjflhhffcjdaaDoorTbq29
/- A parameter that is a daemon, opened. -/
namespace Go.Proofs.YtmbjflhhffcjdaaDoor
open Go.RowKit Go.ChangeShapes Go.WideShapes Go.Deep Go.WideElems Pl
open Go.Joins (slice_form)
set_option linter.unusedVariables false
set_option linter.unusedSimpArgs false

/-- a slice of structs that was handed in. -/
theorem open_rows {H : Type} {enc : TypeId × Value → H} {P : Program} {w : World} {E : Type} (z : E) (row : E → List Value) (size : Nat) (h0 : 0 < size) (Pr : E → Prop) {tS tE : TypeId} (hu : P.underlying tS = some (.slice tE)) (hC : P.cellsOf tE = size) (hl : ∀ y, (row y).length = size)
    (hel : ∀ n cs x, DataW.trod enc P w 0 (fun _ => true) true n tE cs = some x → ∃ y : E, cs = row y ∧ Pr y)
    {fuel : Nat} {ao : Option Addr} {len cap : Nat} {x : DataW H × List MemPlace} (h : DataW.trod enc P w 0 (fun _ => true) true fuel tS [.slice ao len cap] = some x) :
    ∃ es : List E, es.length = len ∧ RwA w ao size (es.map row) ∧ len ≤ 9223372036854775807 ∧ ∀ e ∈ es, Pr e := by
  rcases open_slice hu h with ⟨hcs, _⟩ | ⟨a, len', cap', m, n, D, Pl, hcs, _, hl1, hm, hmm, _, hx⟩
  · simp at hcs
    obtain ⟨rfl, rfl, rfl⟩ := hcs
    exact ⟨[], rfl, fun i hi => absurd hi (by simp), Nat.zero_le _, fun y hy => by cases hy⟩
  · simp at hcs
    obtain ⟨rfl, rfl, rfl⟩ := hcs
    simp only [if_true] at hmm
    rw [hC] at hx
    haveI : Inhabited E := ⟨z⟩
    obtain ⟨f, hf⟩ := choose_lt (α := E) (n := len) (p := fun i y => (∀ j, j < size → w.cell? ((a.add (i * size)).add j) = (row y)[j]?) ∧ Pr y) (fun i hi => by
      obtain ⟨cs', h1, h2⟩ := hx i (by omega)
      obtain ⟨y, rfl, hy⟩ := hel _ _ _ h2
      exact ⟨y, (World.cells?_some h1).2.2, hy⟩)
    refine ⟨(List.range len).map f, by simp, ?_, by have := Nat.le_trans hl1 hm; unfold maxLen at this; omega, fun y hy => ?_⟩
    · intro i hi
      have hi' : i < len := by simpa using hi
      obtain ⟨b, off, spot⟩ := a
      have hc := (hf i hi').1
      have hr0 : ∃ u, (row (f 0))[0]? = some u := ⟨_, List.getElem?_eq_getElem (by rw [hl]; exact h0)⟩
      have hspot : spot = none := by
        obtain ⟨u, hu0⟩ := hr0
        have := World.cell?_spot (((hf 0 (by omega)).1 0 h0).trans hu0)
        simpa [Addr.add] using this
      subst hspot
      have hadd : ∀ j, ((⟨b, off, none⟩ : Addr).add (i * size)).add j = ⟨b, off + (i * size + j), none⟩ := fun j => by
        rw [add_add]
        unfold Addr.add
        split <;> simp_all
      have hget : (((List.range len).map f).map row)[i] = row (f i) := by simp
      rw [hget]
      refine ⟨b, off, rfl, ?_, hl _, fun j v hv => ?_⟩
      · obtain ⟨u, hu1⟩ : ∃ u, (row (f i))[0]? = some u := ⟨_, List.getElem?_eq_getElem (by rw [hl]; exact h0)⟩
        have hc0 := hc 0 h0
        rw [hadd, hu1] at hc0
        have hb : w.cell? ⟨b, off + (i * size + 0), none⟩ ≠ none := by rw [hc0]; simp
        rcases Nat.lt_or_ge b w.heap.size with h | h
        · exact h
        · exact absurd (by simp [World.cell?, Array.getElem?_eq_none h]) hb
      · have hj : j < size := by rw [← hl (f i)]; exact (List.getElem?_eq_some_iff.1 hv).1
        have hcj := hc j hj
        rw [hadd, hv] at hcj
        rw [Nat.add_assoc]
        exact hcj
    · obtain ⟨i, hi, rfl⟩ := List.mem_map.1 hy
      exact (hf i (by simpa using hi)).2
end Go.Proofs.YtmbjflhhffcjdaaDoor


/- A parameter that is a table, a word or a list of words, opened. -/
namespace Go.Proofs.YtmbjflhhffcjdaaDoor
open Go.RowKit Go.ChangeShapes Go.WideShapes Go.Deep Go.WideElems Pl
open Go.Joins (slice_form)
set_option linter.unusedVariables false
set_option linter.unusedSimpArgs false

theorem co9 : Tryd.prog.cellsOf 9 = 1 := by kernel_rfl
theorem coTx : Tryd.prog.cellsOf 24 = 1 := by kernel_rfl
theorem coGn : Tryd.prog.cellsOf 116 = 2 := by kernel_rfl
theorem coGs : Tryd.prog.cellsOf 42 = 1 := by kernel_rfl
theorem coTb : Tryd.prog.cellsOf 44 = 1 := by kernel_rfl
theorem array1 {α : Type} {cs : Array α} (h : cs.size = 1) : ∃ c0, cs = #[c0] := by
  obtain ⟨l⟩ := cs
  match l, h with
  | [c0], _ => exact ⟨c0, rfl⟩
set_option maxRecDepth 100000 in
theorem open_groupE {H : Type} {enc : TypeId × Value → H} {w : World} (n : Nat) (cs : List Value) (x : DataW H × List MemPlace) (h : DataW.trod enc Tryd.prog w 0 (fun _ => true) true n 116 cs = some x) : ∃ y : Gn, cs = y.row ∧ y.R w ∧ y.L := by
  obtain ⟨xs, n, _, _, hl, hlen, hff⟩ := DataW.trod_struct Tryd.underlying116 h
  rw [coGn] at hl
  match xs, hlen, cs, hl with
  | [y0, y1], _, [c0, c1], _ =>
    have e0 := hff 0 _ rfl
    have e1 := hff 1 _ rfl
    simp [co9, coTx] at e0 e1
    obtain ⟨x0, q0, _, w0⟩ := DataW.trod_string Tryd.underlying9 e0
    obtain ⟨am, lm, cm, q1⟩ := slice_form Tryd.underlying24 e1
    simp at q0 q1
    subst q0 q1
    obtain ⟨ms, hm1, hm2, hm3, hm4⟩ := open_textsAt Tryd.underlying24 Tryd.underlying9 co9 e1
    subst hm1
    unfold maxLen at hm3 hm4 w0
    exact ⟨⟨x0, ms, ⟨am, ms.length, cm⟩⟩, rfl, ⟨am, cm, rfl, hm2⟩, w0, hm3, hm4⟩
set_option maxRecDepth 100000 in
theorem open_table {H : Type} {enc : TypeId × Value → H} {w : World} {b0 : Nat} {v : Value} {d : DataW H} {p : List MemPlace} (hv : Value.okWide Tryd.prog w .any b0 44 v) (h : DataW.Trod enc Tryd.prog w 0 (fun _ => true) true 44 v d p) :
    ∃ (s : Sv) (es : List Gn), v = .agg #[.slice s.a s.n s.c] ∧ GnsR w s es ∧ es.length ≤ 9223372036854775807 ∧ ∀ e ∈ es, e.L := by
  obtain ⟨cs, rfl, hsz⟩ := okWide_struct Tryd.underlying44 hv
  obtain ⟨c0, rfl⟩ := array1 (hsz.trans coTb)
  obtain ⟨fuel, hf⟩ := h
  obtain ⟨xs, n, _, _, hl, hlen, hff⟩ := DataW.trod_struct Tryd.underlying44 hf
  match xs, hlen with
  | [y0], _ =>
    have e0 := hff 0 _ rfl
    simp [Value.cells, coGs] at e0
    obtain ⟨ga, gl, gc, q0⟩ := slice_form Tryd.underlying42 e0
    simp at q0
    subst q0
    obtain ⟨es, he1, he2, he3, he4⟩ := open_rows ⟨⟨#[]⟩, [], zSv⟩ Gn.row 2 (by decide) (fun y => y.R w ∧ y.L) Tryd.underlying42 coGn (fun _ => rfl) open_groupE e0
    subst he1
    exact ⟨⟨ga, es.length, gc⟩, es, rfl, ⟨rfl, he2, fun e he => (he4 e he).1⟩, he3, fun e he => (he4 e he).2⟩
end Go.Proofs.YtmbjflhhffcjdaaDoor


