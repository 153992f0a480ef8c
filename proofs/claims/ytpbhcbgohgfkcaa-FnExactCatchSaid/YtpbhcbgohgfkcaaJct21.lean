/- Joined texts: Op Ag At Om. -/
import Derived.Test.YtpbhcbgohgfkcaaJct1
import Derived.Test.YtpbhcbgohgfkcaaJct2
import Derived.Test.YtpbhcbgohgfkcaaJct3
import Derived.Test.YtpbhcbgohgfkcaaJct4
import Derived.Test.YtpbhcbgohgfkcaaJct5
import Derived.Test.YtpbhcbgohgfkcaaJct6
import Derived.Test.YtpbhcbgohgfkcaaJct7
import Derived.Test.YtpbhcbgohgfkcaaJct8
import Derived.Test.YtpbhcbgohgfkcaaJct9
import Derived.Test.YtpbhcbgohgfkcaaJct10
import Derived.Test.YtpbhcbgohgfkcaaJct11
import Derived.Test.YtpbhcbgohgfkcaaJct12
import Derived.Test.YtpbhcbgohgfkcaaJct13
import Derived.Test.YtpbhcbgohgfkcaaJct14
import Derived.Test.YtpbhcbgohgfkcaaJct15
import Derived.Test.YtpbhcbgohgfkcaaJct16
import Derived.Test.YtpbhcbgohgfkcaaJct17
import Derived.Test.YtpbhcbgohgfkcaaJct18
import Derived.Test.YtpbhcbgohgfkcaaJct19
import Derived.Test.YtpbhcbgohgfkcaaJct20
import Derived.Below
import Derived.WalkKit
import Derived.ProofKit
import Derived.OpenShut
import Derived.ChangeSlices
import Derived.ChangeBears2
import Derived.ShutString
import Derived.Lib.SmallJoins
import Derived.Deep.Slices
import Derived.Deep.Fields
import Derived.SliceStrings
/- Items, lists of items and lists of lists of items that were handed in, opened. -/
namespace Go.Proofs.Ytpbhcbgohgfkcaa
open Go.ChangeShapes Go.WideShapes Go.ChangeAt Go.RowKit Go.Deep Go.WideElems Pl
open Go.Joins (slice_form)
set_option linter.unusedVariables false

theorem cellsI : Try.prog.cellsOf 72 = 4 := by kernel_rfl
theorem cellsIs : Try.prog.cellsOf 64 = 1 := by kernel_rfl

/-- the four cells of an item that a slice was handed with. -/
theorem open_item {H : Type} {enc : TypeId × Value → H} {P : Program} {w : World} {base : Nat} {spare : Nat → Bool} {held : Bool} {t : TypeId} {f0 f1 f2 f3 : Field} {n : Nat} {cs : List Value} {x : DataW H × List MemPlace} (hs : P.underlying t = some (.struct #[f0, f1, f2, f3])) (hone : oneCellFields P #[f0, f1, f2, f3] = true) (hC : P.cellsOf t = 4)
    (hi0 : P.underlying f0.type = some (.int .i64)) (hi1 : P.underlying f1.type = some (.int .i64)) (hi2 : P.underlying f2.type = some (.int .i64)) (hi3 : P.underlying f3.type = some .string)
    (h : DataW.trod enc P w base spare held n t cs = some x) : ∃ y : It, cs = [.int .i64 y.1, .int .i64 y.2.1, .int .i64 y.2.2.1, .string y.2.2.2] ∧ y.2.2.2.size ≤ maxLen := by
  obtain ⟨xs, n, _, _, hl, hlen, hff⟩ := DataW.trod_struct hs h
  rw [hC] at hl
  obtain ⟨o0, k0⟩ := hone_of hone 0 f0 rfl
  obtain ⟨o1, k1⟩ := hone_of hone 1 f1 rfl
  obtain ⟨o2, k2⟩ := hone_of hone 2 f2 rfl
  obtain ⟨o3, k3⟩ := hone_of hone 3 f3 rfl
  match xs, hlen, cs, hl with
  | [y0, y1, y2, y3], _, [c0, c1, c2, c3], _ =>
    have g0 : DataW.trod enc P w base spare held n f0.type [c0] = some y0 := by simpa [o0, k0] using hff 0 f0 rfl
    have g1 : DataW.trod enc P w base spare held n f1.type [c1] = some y1 := by simpa [o1, k1] using hff 1 f1 rfl
    have g2 : DataW.trod enc P w base spare held n f2.type [c2] = some y2 := by simpa [o2, k2] using hff 2 f2 rfl
    have g3 : DataW.trod enc P w base spare held n f3.type [c3] = some y3 := by simpa [o3, k3] using hff 3 f3 rfl
    obtain ⟨x0, e0, _, _⟩ := DataW.trod_int hi0 g0
    obtain ⟨x1, e1, _, _⟩ := DataW.trod_int hi1 g1
    obtain ⟨x2, e2, _, _⟩ := DataW.trod_int hi2 g2
    obtain ⟨x3, e3, _, w3⟩ := DataW.trod_string hi3 g3
    simp at e0 e1 e2 e3
    subst e0 e1 e2 e3
    exact ⟨(x0, x1, x2, x3), rfl, w3⟩

/-- a slice of items that was handed in. -/
theorem open_items {H : Type} {enc : TypeId × Value → H} {P : Program} {w : World} {t ti : TypeId} {f0 f1 f2 f3 : Field} {fuel : Nat} {ao : Option Addr} {len cap : Nat} {x : DataW H × List MemPlace} (ht : P.underlying t = some (.slice ti)) (hs : P.underlying ti = some (.struct #[f0, f1, f2, f3])) (hone : oneCellFields P #[f0, f1, f2, f3] = true) (hC : P.cellsOf ti = 4)
    (hi0 : P.underlying f0.type = some (.int .i64)) (hi1 : P.underlying f1.type = some (.int .i64)) (hi2 : P.underlying f2.type = some (.int .i64)) (hi3 : P.underlying f3.type = some .string)
    (h : DataW.trod enc P w 0 (fun _ => true) true fuel t [.slice ao len cap] = some x) : ∃ ts : List It, ts.length = len ∧ ItemsAt w ao ts ∧ len ≤ maxLen ∧ ∀ y ∈ ts, y.2.2.2.size ≤ maxLen := by
  rcases open_slice ht h with ⟨hcs, _⟩ | ⟨a, len', cap', m, n, D, Pl, hcs, _, hl, hm, hmm, _, hx⟩
  · simp at hcs
    obtain ⟨rfl, rfl, rfl⟩ := hcs
    exact ⟨[], rfl, fun i hi => absurd hi (by simp), Nat.zero_le _, fun y hy => by cases hy⟩
  · simp at hcs
    obtain ⟨rfl, rfl, rfl⟩ := hcs
    simp only [if_true] at hmm
    rw [hC] at hx
    obtain ⟨f, hf⟩ := choose_lt (α := It) (n := len) (p := fun i y => (∀ j, j < 4 → w.cell? ((a.add (i * 4)).add j) = [Value.int .i64 y.1, .int .i64 y.2.1, .int .i64 y.2.2.1, .string y.2.2.2][j]?) ∧ y.2.2.2.size ≤ maxLen) (fun i hi => by
      obtain ⟨cs', h1, h2⟩ := hx i (by omega)
      obtain ⟨y, rfl, hy⟩ := open_item hs hone hC hi0 hi1 hi2 hi3 h2
      exact ⟨y, (World.cells?_some h1).2.2, hy⟩)
    refine ⟨(List.range len).map f, by simp, ?_, Nat.le_trans hl hm, fun y hy => ?_⟩
    · intro i hi
      have hi' : i < len := by simpa using hi
      obtain ⟨b, off, spot⟩ := a
      have hc := (hf i hi').1
      have hspot : spot = none := by
        have := World.cell?_spot ((hf 0 (by omega)).1 0 (by omega))
        simpa [Addr.add] using this
      subst hspot
      have hadd : ∀ j, ((⟨b, off, none⟩ : Addr).add (i * 4)).add j = ⟨b, off + (i * 4 + j), none⟩ := fun j => by
        rw [add_add]
        unfold Addr.add
        split <;> simp_all
      have hc0 := hc 0 (by omega)
      have hc1 := hc 1 (by omega)
      have hc2 := hc 2 (by omega)
      have hc3 := hc 3 (by omega)
      rw [hadd] at hc0 hc1 hc2 hc3
      have hget : ((List.range len).map f)[i] = f i := by simp
      rw [hget]
      refine ⟨b, off, rfl, ?_, ?_, ?_, ?_, ?_⟩
      · have hb : w.cell? ⟨b, off + (i * 4 + 0), none⟩ ≠ none := by rw [hc0]; simp
        rcases Nat.lt_or_ge b w.heap.size with h | h
        · exact h
        · exact absurd (by simp [World.cell?, Array.getElem?_eq_none h]) hb
      · simpa using hc0
      · simpa [Nat.add_assoc] using hc1
      · simpa [Nat.add_assoc] using hc2
      · simpa [Nat.add_assoc] using hc3
    · obtain ⟨i, hi, rfl⟩ := List.mem_map.1 hy
      exact (hf i (by simpa using hi)).2

/-- the lists that a slice of slices holds. -/
def IsAt (w : World) (ao : Option Addr) (ls : List (List It)) : Prop :=
  ∀ i (h : i < ls.length), ∃ b off ia ic, ao = some ⟨b, off, none⟩ ∧ b < w.heap.size ∧ w.cell? ⟨b, off + i, none⟩ = some (.slice ia ls[i].length ic) ∧ ItemsAt w ia ls[i] ∧ ls[i].length ≤ maxLen ∧ ∀ y ∈ ls[i], y.2.2.2.size ≤ maxLen
theorem IsAt.stays {w w' : World} {ao : Option Addr} {ls : List (List It)} (h : IsAt w ao ls) (hb : Below w.heap.size w w') : IsAt w' ao ls := by
  intro i hi
  obtain ⟨b, off, ia, ic, h1, h2, h3, h4, h5⟩ := h i hi
  exact ⟨b, off, ia, ic, h1, Nat.lt_of_lt_of_le h2 hb.size, (hb.cell (p := ⟨b, off + i, none⟩) h2).trans h3, h4.stays hb, h5⟩
/-- a slice of slices of items that was handed in. -/
theorem open_iss {H : Type} {enc : TypeId × Value → H} {P : Program} {w : World} {t ts ti : TypeId} {f0 f1 f2 f3 : Field} {fuel : Nat} {ao : Option Addr} {len cap : Nat} {x : DataW H × List MemPlace} (ht0 : P.underlying t = some (.slice ts)) (hC0 : P.cellsOf ts = 1) (ht : P.underlying ts = some (.slice ti)) (hs : P.underlying ti = some (.struct #[f0, f1, f2, f3])) (hone : oneCellFields P #[f0, f1, f2, f3] = true) (hC : P.cellsOf ti = 4)
    (hi0 : P.underlying f0.type = some (.int .i64)) (hi1 : P.underlying f1.type = some (.int .i64)) (hi2 : P.underlying f2.type = some (.int .i64)) (hi3 : P.underlying f3.type = some .string)
    (h : DataW.trod enc P w 0 (fun _ => true) true fuel t [.slice ao len cap] = some x) : ∃ ls : List (List It), ls.length = len ∧ IsAt w ao ls ∧ len ≤ maxLen := by
  rcases open_slice1 ht0 hC0 h with ⟨hcs, _⟩ | ⟨a, len', cap', m, n, V, D, Pl, hcs, _, hl, hm, hmm, _, hx⟩
  · simp at hcs
    obtain ⟨rfl, rfl, rfl⟩ := hcs
    exact ⟨[], rfl, fun i hi => absurd hi (by simp), Nat.zero_le _⟩
  · simp at hcs
    obtain ⟨rfl, rfl, rfl⟩ := hcs
    simp only [if_true] at hmm
    obtain ⟨f, hf⟩ := choose_lt (α := List It) (n := len) (p := fun i l => ∃ ia ic, w.cell? (a.add i) = some (.slice ia l.length ic) ∧ ItemsAt w ia l ∧ l.length ≤ maxLen ∧ ∀ y ∈ l, y.2.2.2.size ≤ maxLen) (fun i hi => by
      obtain ⟨hc, ht2⟩ := hx i (by omega)
      obtain ⟨ia, il, ic, hv⟩ : ∃ ia il ic, V i = .slice ia il ic := by
        rcases open_slice ht ht2 with ⟨e, _⟩ | ⟨a', l', c', _, _, _, _, e, _⟩
        · simp at e; exact ⟨_, _, _, e⟩
        · simp at e; exact ⟨_, _, _, e⟩
      rw [hv] at hc ht2
      obtain ⟨l, hll, hia, hlm, hty⟩ := open_items ht hs hone hC hi0 hi1 hi2 hi3 ht2
      subst hll
      exact ⟨l, ia, ic, hc, hia, hlm, hty⟩)
    refine ⟨(List.range len).map f, by simp, ?_, Nat.le_trans hl hm⟩
    intro i hi
    have hi' : i < len := by simpa using hi
    obtain ⟨b, off, spot⟩ := a
    obtain ⟨ia, ic, hc, hia, hlm⟩ := hf i hi'
    have hspot : spot = none := by
      obtain ⟨_, _, hc0, _⟩ := hf 0 (by omega)
      simpa [Addr.add] using World.cell?_spot hc0
    subst hspot
    have hadd : (⟨b, off, none⟩ : Addr).add i = ⟨b, off + i, none⟩ := by unfold Addr.add; split <;> simp_all
    rw [hadd] at hc
    have hget : ((List.range len).map f)[i] = f i := by simp
    rw [hget]
    refine ⟨b, off, ia, ic, rfl, ?_, hc, hia, hlm⟩
    have hb : w.cell? ⟨b, off + i, none⟩ ≠ none := by rw [hc]; simp
    rcases Nat.lt_or_ge b w.heap.size with h | h
    · exact h
    · exact absurd (by simp [World.cell?, Array.getElem?_eq_none h]) hb
end Go.Proofs.Ytpbhcbgohgfkcaa

/- A struct of six one-cell fields, by value, opened; a slice of ints in a cell, opened. No program is named here. -/
namespace Go.Proofs.Ytpbhcbgohgfkcaa.Pl
open Go Go.RowKit Go.ChangeShapes Go.WideShapes Go.Deep Go.WideElems
set_option linter.unusedVariables false

theorem array6 {α : Type} {cs : Array α} (h : cs.size = 6) : ∃ c0 c1 c2 c3 c4 c5, cs = #[c0, c1, c2, c3, c4, c5] := by
  obtain ⟨l⟩ := cs
  match l, h with
  | [c0, c1, c2, c3, c4, c5], _ => exact ⟨c0, c1, c2, c3, c4, c5, rfl⟩

section
variable {H : Type} {enc : TypeId × Value → H} {P : Program} {w : World} {base : Nat} {spare : Nat → Bool} {held : Bool}
/-- the fields of a struct of six, each by its own reading. -/
theorem open_agg6 {r : Reach} {b0 : Nat} {t : TypeId} {f0 f1 f2 f3 f4 f5 : Field} {v : Value} {d : DataW H} {p : List MemPlace} (hs : P.underlying t = some (.struct #[f0, f1, f2, f3, f4, f5])) (hone : oneCellFields P #[f0, f1, f2, f3, f4, f5] = true) (hC : P.cellsOf t = 6)
    (hv : Value.okWide P w r b0 t v) (h : DataW.Trod enc P w base spare held t v d p) :
    ∃ (v0 v1 v2 v3 v4 v5 : Value) (y0 y1 y2 y3 y4 y5 : DataW H × List MemPlace) (n : Nat), v = .agg #[v0, v1, v2, v3, v4, v5] ∧
      DataW.trod enc P w base spare held n f0.type [v0] = some y0 ∧ DataW.trod enc P w base spare held n f1.type [v1] = some y1 ∧ DataW.trod enc P w base spare held n f2.type [v2] = some y2 ∧ DataW.trod enc P w base spare held n f3.type [v3] = some y3 ∧ DataW.trod enc P w base spare held n f4.type [v4] = some y4 ∧ DataW.trod enc P w base spare held n f5.type [v5] = some y5 := by
  obtain ⟨cs, rfl, hsz⟩ := okWide_struct hs hv
  obtain ⟨c0, c1, c2, c3, c4, c5, rfl⟩ := array6 (hsz.trans hC)
  obtain ⟨fuel, hf⟩ := h
  obtain ⟨xs, n, _, _, hl, hlen, hff⟩ := DataW.trod_struct hs hf
  obtain ⟨o0, k0⟩ := hone_of hone 0 f0 rfl
  obtain ⟨o1, k1⟩ := hone_of hone 1 f1 rfl
  obtain ⟨o2, k2⟩ := hone_of hone 2 f2 rfl
  obtain ⟨o3, k3⟩ := hone_of hone 3 f3 rfl
  obtain ⟨o4, k4⟩ := hone_of hone 4 f4 rfl
  obtain ⟨o5, k5⟩ := hone_of hone 5 f5 rfl
  match xs, hlen with
  | [y0, y1, y2, y3, y4, y5], _ =>
    exact ⟨c0, c1, c2, c3, c4, c5, y0, y1, y2, y3, y4, y5, n, rfl, by simpa [Value.cells, o0, k0] using hff 0 f0 rfl, by simpa [Value.cells, o1, k1] using hff 1 f1 rfl, by simpa [Value.cells, o2, k2] using hff 2 f2 rfl,
      by simpa [Value.cells, o3, k3] using hff 3 f3 rfl, by simpa [Value.cells, o4, k4] using hff 4 f4 rfl, by simpa [Value.cells, o5, k5] using hff 5 f5 rfl⟩
end

/-- a slice of ints in a cell. -/
theorem open_intsAt {H : Type} {enc : TypeId × Value → H} {P : Program} {w : World} {t : TypeId} {fuel : Nat} {ao : Option Addr} {len cap : Nat} {x : DataW H × List MemPlace} (ht : P.underlying t = some (.slice 3)) (h3 : P.underlying 3 = some (.int .i64)) (hc3 : P.cellsOf 3 = 1)
    (h : DataW.trod enc P w 0 (fun _ => true) true fuel t [.slice ao len cap] = some x) : ∃ ts : List Int, ts.length = len ∧ IntsAt w ao ts ∧ len ≤ maxLen := by
  rcases open_ints ht h3 hc3 h with ⟨hcs, hx⟩ | ⟨a, len', cap', zs, hcs, _, hl, hm, hz, hx, hcell, hwz⟩
  · simp at hcs
    obtain ⟨rfl, rfl, rfl⟩ := hcs
    exact ⟨[], rfl, fun i hi => absurd hi (by simp), Nat.zero_le _⟩
  · simp at hcs
    obtain ⟨rfl, rfl, rfl⟩ := hcs
    simp only [if_true] at hz
    have htl : (zs.take len).length = len := by rw [List.length_take]; omega
    refine ⟨zs.take len, htl, ?_, Nat.le_trans hl hm⟩
    intro i hi
    have hi' : i < len := by rw [htl] at hi; exact hi
    have hc := hcell i (by omega)
    obtain ⟨b, off, spot⟩ := a
    have hspot : spot = none := by simpa [Addr.add] using World.cell?_spot (hcell 0 (by omega))
    subst hspot
    have hadd : (⟨b, off, none⟩ : Addr).add i = ⟨b, off + i, none⟩ := by unfold Addr.add; split <;> simp_all
    rw [hadd] at hc
    refine ⟨b, off, rfl, ?_, ?_⟩
    · have hb : w.cell? ⟨b, off + i, none⟩ ≠ none := by rw [hc]; simp
      rcases Nat.lt_or_ge b w.heap.size with h | h
      · exact h
      · exact absurd (by simp [World.cell?, Array.getElem?_eq_none h]) hb
    · rw [hc]
      simp [List.getD, List.getElem?_eq_getElem (show i < zs.length by omega)]
end Go.Proofs.Ytpbhcbgohgfkcaa.Pl

/- A parameter that is a list of texts, opened. -/
namespace Go.Proofs.Ytpbhcbgohgfkcaa.Pl
open Go Go.RowKit Go.ChangeShapes Go.WideShapes Go.Deep Go.WideElems
set_option linter.unusedVariables false

/-- a slice of texts in a cell. -/
theorem open_textsAt {H : Type} {enc : TypeId × Value → H} {P : Program} {w : World} {t : TypeId} {fuel : Nat} {ao : Option Addr} {len cap : Nat} {x : DataW H × List MemPlace} (ht : P.underlying t = some (.slice 9)) (h9 : P.underlying 9 = some .string) (hc9 : P.cellsOf 9 = 1)
    (h : DataW.trod enc P w 0 (fun _ => true) true fuel t [.slice ao len cap] = some x) : ∃ ts : List ByteArray, ts.length = len ∧ TextsAt w ao ts ∧ len ≤ maxLen ∧ ∀ t ∈ ts, t.size ≤ maxLen := by
  rcases open_strings ht h9 hc9 h with ⟨hcs, hx⟩ | ⟨a, len', cap', ss, hcs, _, hl, hm, hz, hx, hcell, hwz⟩
  · simp at hcs
    obtain ⟨rfl, rfl, rfl⟩ := hcs
    exact ⟨[], rfl, fun i hi => absurd hi (by simp), Nat.zero_le _, fun t ht => by cases ht⟩
  · simp at hcs
    obtain ⟨rfl, rfl, rfl⟩ := hcs
    simp only [if_true] at hz
    have htl : (ss.take len).length = len := by rw [List.length_take]; omega
    refine ⟨ss.take len, htl, ?_, Nat.le_trans hl hm, fun t ht => hwz t (List.mem_of_mem_take ht)⟩
    intro i hi
    have hi' : i < len := by rw [htl] at hi; exact hi
    have hc := hcell i (by omega)
    obtain ⟨b, off, spot⟩ := a
    have hspot : spot = none := by simpa [Addr.add] using World.cell?_spot (hcell 0 (by omega))
    subst hspot
    have hadd : (⟨b, off, none⟩ : Addr).add i = ⟨b, off + i, none⟩ := by unfold Addr.add; split <;> simp_all
    rw [hadd] at hc
    refine ⟨b, off, rfl, ?_, ?_⟩
    · have hb : w.cell? ⟨b, off + i, none⟩ ≠ none := by rw [hc]; simp
      rcases Nat.lt_or_ge b w.heap.size with h | h
      · exact h
      · exact absurd (by simp [World.cell?, Array.getElem?_eq_none h]) hb
    · rw [hc]
      simp [List.getD, List.getElem?_eq_getElem (show i < ss.length by omega)]
end Go.Proofs.Ytpbhcbgohgfkcaa.Pl

/- A parameter that is a member, opened. -/
namespace Go.Proofs.Ytpbhcbgohgfkcaa
open Go.RowKit Go.ChangeShapes Go.WideShapes Go.Deep Go.WideElems Pl
open Go.Joins (slice_form)
set_option linter.unusedVariables false
set_option linter.unusedSimpArgs false

theorem array16 {α : Type} {cs : Array α} (h : cs.size = 16) : ∃ c0 c1 c2 c3 c4 c5 c6 c7 c8 c9 c10 c11 c12 c13 c14 c15, cs = #[c0, c1, c2, c3, c4, c5, c6, c7, c8, c9, c10, c11, c12, c13, c14, c15] := by
  obtain ⟨l⟩ := cs
  match l, h with
  | [c0, c1, c2, c3, c4, c5, c6, c7, c8, c9, c10, c11, c12, c13, c14, c15], _ => exact ⟨c0, c1, c2, c3, c4, c5, c6, c7, c8, c9, c10, c11, c12, c13, c14, c15, rfl⟩
theorem co3 : Try.prog.cellsOf 3 = 1 := by kernel_rfl
theorem coR : Try.prog.cellsOf 56 = 2 := by kernel_rfl
theorem coIs : Try.prog.cellsOf 64 = 1 := by kernel_rfl
theorem coI : Try.prog.cellsOf 24 = 1 := by kernel_rfl
theorem coS : Try.prog.cellsOf 28 = 1 := by kernel_rfl
theorem coT : Try.prog.cellsOf 65 = 6 := by kernel_rfl
theorem coM : Try.prog.cellsOf 67 = 16 := by kernel_rfl

set_option maxRecDepth 100000 in
theorem open_mate {H : Type} {enc : TypeId × Value → H} {w : World} {b0 : Nat} {v : Value} {d : DataW H} {p : List MemPlace} (hv : Value.okWide Try.prog w .any b0 67 v) (h : DataW.Trod enc Try.prog w 0 (fun _ => true) true 67 v d p) :
    ∃ (m : Mt) (u : Mv), v = .agg #[.int .i64 m.id, .int .i64 m.rid, .slice u.ms.a u.ms.n u.ms.c, .slice u.its.a u.its.n u.its.c, .slice u.lv.a u.lv.n u.lv.c, .slice u.tx.a u.tx.n u.tx.c, .int .i64 m.rd, .int .i64 m.se, .int .i64 m.li, .int .i64 m.he, .int .i64 m.la.c, .int .i64 m.la.r, .int .i64 m.la.q, .int .i64 m.la.a, .int .i64 m.la.b, .slice u.ws.a u.ws.n u.ws.c] ∧ MtR w m u ∧ MtL m := by
  obtain ⟨cs, rfl, hsz⟩ := okWide_struct Try.underlying67 hv
  obtain ⟨c0, c1, c2, c3, c4, c5, c6, c7, c8, c9, c10, c11, c12, c13, c14, c15, rfl⟩ := array16 (hsz.trans coM)
  obtain ⟨fuel, hf⟩ := h
  obtain ⟨xs, n, _, _, hl, hlen, hff⟩ := DataW.trod_struct Try.underlying67 hf
  match xs, hlen with
  | [y0, y1, y2, y3, y4, y5, y6, y7, y8, y9], _ =>
    have e0 := hff 0 _ rfl
    have e1 := hff 1 _ rfl
    have e2 := hff 2 _ rfl
    have e3 := hff 3 _ rfl
    have e4 := hff 4 _ rfl
    have e5 := hff 5 _ rfl
    have e6 := hff 6 _ rfl
    have e7 := hff 7 _ rfl
    have e8 := hff 8 _ rfl
    have e9 := hff 9 _ rfl
    simp [Value.cells, co3, coR, coIs, coI, coS, coT] at e0 e1 e2 e3 e4 e5 e6 e7 e8 e9
    obtain ⟨x0, q0, _, _⟩ := DataW.trod_int Try.underlying3 e0
    obtain ⟨x5, q5, _, _⟩ := DataW.trod_int Try.underlying3 e5
    obtain ⟨x6, q6, _, _⟩ := DataW.trod_int Try.underlying3 e6
    obtain ⟨x7, q7, _, _⟩ := DataW.trod_int Try.underlying3 e7
    obtain ⟨x8, q8, _, _⟩ := DataW.trod_int Try.underlying3 e8
    obtain ⟨ai, li, ci, q2⟩ := slice_form Try.underlying64 e2
    obtain ⟨al, ll, cl, q3⟩ := slice_form Try.underlying24 e3
    obtain ⟨at_, lt, ct, q4⟩ := slice_form Try.underlying28 e4
    simp at q0 q5 q6 q7 q8 q2 q3 q4
    subst q0 q5 q6 q7 q8 q2 q3 q4
    obtain ⟨its, hi1, hi2, hi3, hi4⟩ := open_items Try.underlying64 Try.underlying72 (by kernel_rfl) cellsI Try.underlying3 Try.underlying3 Try.underlying3 Try.underlying9 e2
    obtain ⟨lv, hv1, hv2, hv3⟩ := open_intsAt Try.underlying24 Try.underlying3 co3 e3
    obtain ⟨tx, ht1, ht2, ht3, ht4⟩ := open_textsAt Try.underlying28 Try.underlying9 (show Try.prog.cellsOf 9 = 1 by kernel_rfl) e4
    -- the ring
    obtain ⟨rs, n1, _, _, _, hrl, hrf⟩ := DataW.trod_struct Try.underlying56 e1
    -- the token
    obtain ⟨ts, n2, _, _, _, htl, htf⟩ := DataW.trod_struct Try.underlying65 e9
    match rs, hrl, ts, htl with
    | [r0, r1], _, [t0, t1, t2, t3, t4, t5], _ =>
      have f0 := hrf 0 _ rfl
      have f1 := hrf 1 _ rfl
      have g0 := htf 0 _ rfl
      have g1 := htf 1 _ rfl
      have g2 := htf 2 _ rfl
      have g3 := htf 3 _ rfl
      have g4 := htf 4 _ rfl
      have g5 := htf 5 _ rfl
      simp [co3, coI] at f0 f1 g0 g1 g2 g3 g4 g5
      obtain ⟨z0, k0, _, _⟩ := DataW.trod_int Try.underlying3 f0
      obtain ⟨am, lm, cm, k1⟩ := slice_form Try.underlying24 f1
      obtain ⟨u0, j0, _, _⟩ := DataW.trod_int Try.underlying3 g0
      obtain ⟨u1, j1, _, _⟩ := DataW.trod_int Try.underlying3 g1
      obtain ⟨u2, j2, _, _⟩ := DataW.trod_int Try.underlying3 g2
      obtain ⟨u3, j3, _, _⟩ := DataW.trod_int Try.underlying3 g3
      obtain ⟨u4, j4, _, _⟩ := DataW.trod_int Try.underlying3 g4
      obtain ⟨aw, lw, cw, j5⟩ := slice_form Try.underlying24 g5
      simp at k0 k1 j0 j1 j2 j3 j4 j5
      subst k0 k1 j0 j1 j2 j3 j4 j5
      obtain ⟨ms, hm1, hm2, hm3⟩ := open_intsAt Try.underlying24 Try.underlying3 co3 f1
      obtain ⟨ws, hw1, hw2, hw3⟩ := open_intsAt Try.underlying24 Try.underlying3 co3 g5
      subst hi1 hv1 ht1 hm1 hw1
      unfold maxLen at hi3 hi4 hv3 ht3 ht4 hm3 hw3
      exact ⟨⟨x0, z0, ms, its, lv, tx, x5, x6, x7, x8, ⟨u0, u1, u2, u3, u4, ws⟩⟩, ⟨⟨am, ms.length, cm⟩, ⟨ai, its.length, ci⟩, ⟨al, lv.length, cl⟩, ⟨at_, tx.length, ct⟩, ⟨aw, ws.length, cw⟩⟩, rfl,
        ⟨⟨am, cm, rfl, hm2⟩, ⟨ai, ci, rfl, hi2⟩, ⟨al, cl, rfl, hv2⟩, ⟨at_, ct, rfl, ht2⟩, ⟨aw, cw, rfl, hw2⟩⟩, ⟨hm3, hi3, hv3, ht3, hw3, hi4, ht4⟩⟩
end Go.Proofs.Ytpbhcbgohgfkcaa

