/- Joined texts: CSos. -/
import Derived.WalkKit
import Derived.WalkSpells
import Derived.WalkLawsBesides
import Derived.Laws.OwnMore
import Derived.Sort.KeysCollected
import Derived.Sort.OwnSorted
import Derived.Sort.Walk0
/- Lists of texts in plain words: ascending ones, that one set of texts makes one such list alone, what an insertion and the library's sort make; laws for a slice of texts that the call itself has made. No program is named here. -/
namespace Go.Proofs.YtmbjflhhffcjdaaDoor.Pl
open Go Go.RowKit
set_option linter.unusedVariables false

/-- Less, as Go compares texts. -/
def Tlt (a b : ByteArray) : Prop := a.data.toList < b.data.toList
theorem tlt_irrefl {a : ByteArray} : ¬ Tlt a a := List.lt_irrefl _
theorem tlt_trans {a b c : ByteArray} (h : Tlt a b) (k : Tlt b c) : Tlt a c := List.lt_trans h k
theorem tlt_asymm {a b : ByteArray} (h : Tlt a b) : ¬ Tlt b a := fun k => tlt_irrefl (tlt_trans h k)
theorem text_ext {a b : ByteArray} (h : a.data.toList = b.data.toList) : a = b := ByteArray.ext (Array.ext' h)
theorem tlt_total {a b : ByteArray} (h1 : ¬ Tlt a b) (h2 : ¬ Tlt b a) : a = b := by
  apply text_ext
  exact List.le_antisymm (List.not_lt.1 h2) (List.not_lt.1 h1)

/-- .. as a test. -/
def tltB (a b : ByteArray) : Bool := decide (a.data.toList < b.data.toList)
theorem tltB_iff {a b : ByteArray} : tltB a b = true ↔ Tlt a b := by simp [tltB, Tlt]

/-- Ascending, no two alike. -/
def TAsc (us : List ByteArray) : Prop := us.Pairwise Tlt

/-- What l03Insert makes. -/
def insT (us : List ByteArray) (x : ByteArray) : List ByteArray := us.filter (fun y => tltB y x) ++ x :: us.filter (fun y => tltB x y)

theorem insT_mem (us : List ByteArray) (x y : ByteArray) : y ∈ insT us x ↔ y ∈ us ∨ y = x := by
  unfold insT
  simp only [List.mem_append, List.mem_filter, List.mem_cons, tltB_iff]
  constructor
  · rintro (⟨h, _⟩ | rfl | ⟨h, _⟩)
    · exact .inl h
    · exact .inr rfl
    · exact .inl h
  · rintro (h | rfl)
    · by_cases h1 : Tlt y x
      · exact .inl ⟨h, h1⟩
      · by_cases h2 : Tlt x y
        · exact .inr (.inr ⟨h, h2⟩)
        · exact .inr (.inl (tlt_total h1 h2))
    · exact .inr (.inl rfl)

theorem insT_asc {us : List ByteArray} (h : TAsc us) (x : ByteArray) : TAsc (insT us x) := by
  unfold TAsc insT
  rw [List.pairwise_append]
  refine ⟨h.filter _, ?_, ?_⟩
  · rw [List.pairwise_cons]
    refine ⟨fun y hy => ?_, h.filter _⟩
    exact tltB_iff.1 (List.mem_filter.1 hy).2
  · intro a ha b hb
    have h1 : Tlt a x := tltB_iff.1 (List.mem_filter.1 ha).2
    rcases List.mem_cons.1 hb with rfl | hb
    · exact h1
    · have h2 : Tlt x b := tltB_iff.1 (List.mem_filter.1 hb).2
      exact tlt_trans h1 h2

theorem two_filters {p q : ByteArray → Bool} (h : ∀ y, p y = true → q y = true → False) : ∀ us : List ByteArray, (us.filter p).length + (us.filter q).length ≤ us.length
  | [] => by simp
  | u :: us => by
    have ih := two_filters h us
    rw [List.filter_cons, List.filter_cons]
    have := h u
    cases hp : p u <;> cases hq : q u <;> simp_all <;> omega

theorem insT_length (us : List ByteArray) (x : ByteArray) : (insT us x).length ≤ us.length + 1 := by
  unfold insT
  have := @two_filters (fun y => tltB y x) (fun y => tltB x y) (fun y h1 h2 => tlt_asymm (tltB_iff.1 h1) (tltB_iff.1 h2)) us
  simp only [List.length_append, List.length_cons]
  omega

/-- us is the set of ts, ascending. -/
def SetOf (ts us : List ByteArray) : Prop := TAsc us ∧ ∀ x, x ∈ us ↔ x ∈ ts

theorem setOf_nil : SetOf [] [] := ⟨List.Pairwise.nil, fun x => Iff.rfl⟩
theorem setOf_step {ts us : List ByteArray} (h : SetOf ts us) (x : ByteArray) : SetOf (ts ++ [x]) (insT us x) :=
  ⟨insT_asc h.1 x, fun y => by rw [insT_mem, h.2 y]; simp⟩

/-- A list of bytes as a text, and back. -/
def mkT (l : List UInt8) : ByteArray := ⟨l.toArray⟩
end Go.Proofs.YtmbjflhhffcjdaaDoor.Pl


