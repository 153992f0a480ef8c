/- Joined texts: COdm COtb. -/
import Derived.Test.YtmbjflhhffcjdaaDoorWtq30
import Derived.Test.YtmbjflhhffcjdaaDoorWtq26
import Derived.Test.YtmbjflhhffcjdaaDoorWtq29
/- A parameter that is a daemon, opened. -/
namespace Go.Proofs.YtmbjflhhffcjdaaDoor
open Go.RowKit Go.ChangeShapes Go.WideShapes Go.Deep Go.WideElems Pl
open Go.Joins (slice_form)
set_option linter.unusedVariables false
set_option linter.unusedSimpArgs false

end Go.Proofs.YtmbjflhhffcjdaaDoor


/- A parameter that is a table, a word or a list of words, opened. -/
namespace Go.Proofs.YtmbjflhhffcjdaaDoor
open Go.RowKit Go.ChangeShapes Go.WideShapes Go.Deep Go.WideElems Pl
open Go.Joins (slice_form)
set_option linter.unusedVariables false
set_option linter.unusedSimpArgs false

theorem co9 : Tryd.prog.cellsOf 9 = 1 := by kernel_rfl
theorem coI3 : Tryd.prog.cellsOf 3 = 1 := by kernel_rfl
theorem coTx : Tryd.prog.cellsOf 24 = 1 := by kernel_rfl
theorem coWd : Tryd.prog.cellsOf 35 = 4 := by kernel_rfl
theorem array4 {α : Type} {cs : Array α} (h : cs.size = 4) : ∃ c0 c1 c2 c3, cs = #[c0, c1, c2, c3] := by
  obtain ⟨l⟩ := cs
  match l, h with
  | [c0, c1, c2, c3], _ => exact ⟨c0, c1, c2, c3, rfl⟩
set_option maxRecDepth 100000 in
theorem open_wordE {H : Type} {enc : TypeId × Value → H} {w : World} (n : Nat) (cs : List Value) (x : DataW H × List MemPlace) (h : DataW.trod enc Tryd.prog w 0 (fun _ => true) true n 35 cs = some x) : ∃ y : Wd, cs = y.row ∧ y.R w ∧ y.L := by
  obtain ⟨xs, n, _, _, hl, hlen, hff⟩ := DataW.trod_struct Tryd.underlying35 h
  rw [coWd] at hl
  match xs, hlen, cs, hl with
  | [y0, y1, y2, y3], _, [c0, c1, c2, c3], _ =>
    have e0 := hff 0 _ rfl
    have e1 := hff 1 _ rfl
    have e2 := hff 2 _ rfl
    have e3 := hff 3 _ rfl
    simp [co9, coI3, coTx] at e0 e1 e2 e3
    obtain ⟨x0, q0, _, _⟩ := DataW.trod_int Tryd.underlying3 e0
    obtain ⟨x1, q1, _, w1⟩ := DataW.trod_string Tryd.underlying9 e1
    obtain ⟨am, lm, cm, q2⟩ := slice_form Tryd.underlying24 e2
    obtain ⟨x3, q3, _, w3⟩ := DataW.trod_string Tryd.underlying9 e3
    simp at q0 q1 q2 q3
    subst q0 q1 q2 q3
    obtain ⟨ms, hm1, hm2, hm3, hm4⟩ := open_textsAt Tryd.underlying24 Tryd.underlying9 co9 e2
    subst hm1
    unfold maxLen at hm3 hm4 w1 w3
    exact ⟨⟨x0, x1, ms, x3, ⟨am, ms.length, cm⟩⟩, rfl, ⟨am, cm, rfl, hm2⟩, w1, hm3, hm4, w3⟩
set_option maxRecDepth 100000 in
theorem open_word {H : Type} {enc : TypeId × Value → H} {w : World} {b0 : Nat} {v : Value} {d : DataW H} {p : List MemPlace} (hv : Value.okWide Tryd.prog w .any b0 35 v) (h : DataW.Trod enc Tryd.prog w 0 (fun _ => true) true 35 v d p) :
    ∃ y : Wd, v = .agg #[.int .i64 y.k, .string y.who, .slice y.s.a y.s.n y.s.c, .string y.t] ∧ y.R w ∧ y.L := by
  obtain ⟨cs, rfl, hsz⟩ := okWide_struct Tryd.underlying35 hv
  obtain ⟨c0, c1, c2, c3, rfl⟩ := array4 (hsz.trans coWd)
  obtain ⟨fuel, hf⟩ := h
  obtain ⟨y, hy, h2⟩ := open_wordE fuel _ _ hf
  have hy2 : [c0, c1, c2, c3] = y.row := by simpa [Value.cells] using hy
  unfold Wd.row at hy2
  simp only [List.cons.injEq, and_true] at hy2
  obtain ⟨rfl, rfl, rfl, rfl⟩ := hy2
  exact ⟨y, rfl, h2⟩
end Go.Proofs.YtmbjflhhffcjdaaDoor


