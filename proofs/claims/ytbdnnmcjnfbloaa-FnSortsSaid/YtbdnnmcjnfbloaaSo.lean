/- Lists of texts in plain words: ascending ones, that one set of texts makes one such list alone, what an insertion and the library's sort make; laws for a slice of texts that the call itself has made. No program is named here. -/
import Derived.WalkKit
import Derived.WalkSpells
import Derived.WalkLawsBesides
import Derived.Laws.OwnMore
import Derived.Sort.KeysCollected
import Derived.Sort.OwnSorted
import Derived.Sort.Walk0
namespace Go.Proofs.Ytbdnnmcjnfbloaa.Pl
open Go Go.RowKit
set_option linter.unusedVariables false

/-- Less, as Go compares texts. -/
def Lt (a b : ByteArray) : Prop := a.data.toList < b.data.toList
theorem lt_irrefl {a : ByteArray} : ¬ Lt a a := List.lt_irrefl _
theorem lt_trans {a b c : ByteArray} (h : Lt a b) (k : Lt b c) : Lt a c := List.lt_trans h k
theorem lt_asymm {a b : ByteArray} (h : Lt a b) : ¬ Lt b a := fun k => lt_irrefl (lt_trans h k)
theorem text_ext {a b : ByteArray} (h : a.data.toList = b.data.toList) : a = b := ByteArray.ext (Array.ext' h)
theorem lt_total {a b : ByteArray} (h1 : ¬ Lt a b) (h2 : ¬ Lt b a) : a = b := by
  apply text_ext
  exact List.le_antisymm (List.not_lt.1 h2) (List.not_lt.1 h1)

/-- .. as a test. -/
def ltB (a b : ByteArray) : Bool := decide (a.data.toList < b.data.toList)
theorem ltB_iff {a b : ByteArray} : ltB a b = true ↔ Lt a b := by simp [ltB, Lt]

/-- Ascending, no two alike. -/
def Asc (us : List ByteArray) : Prop := us.Pairwise Lt

theorem asc_unique : ∀ {us vs : List ByteArray}, Asc us → Asc vs → (∀ x, x ∈ us ↔ x ∈ vs) → us = vs
  | [], [], _, _, _ => rfl
  | [], v :: vs, _, _, h => absurd ((h v).2 (List.mem_cons_self)) (by simp)
  | u :: us, [], _, _, h => absurd ((h u).1 (List.mem_cons_self)) (by simp)
  | u :: us, v :: vs, hu, hv, h => by
    have hu1 := List.pairwise_cons.1 hu
    have hv1 := List.pairwise_cons.1 hv
    have e : u = v := by
      rcases List.mem_cons.1 ((h u).1 List.mem_cons_self) with e | hm
      · exact e
      · rcases List.mem_cons.1 ((h v).2 List.mem_cons_self) with e | hm2
        · exact e.symm
        · exact absurd (hv1.1 u hm) (lt_asymm (hu1.1 v hm2))
    subst e
    congr 1
    refine asc_unique hu1.2 hv1.2 fun x => ⟨fun hx => ?_, fun hx => ?_⟩
    · rcases List.mem_cons.1 ((h x).1 (List.mem_cons_of_mem _ hx)) with e | hm
      · subst e; exact absurd (hu1.1 x hx) lt_irrefl
      · exact hm
    · rcases List.mem_cons.1 ((h x).2 (List.mem_cons_of_mem _ hx)) with e | hm
      · subst e; exact absurd (hv1.1 x hx) lt_irrefl
      · exact hm

/-- What l03Insert makes. -/
def ins (us : List ByteArray) (x : ByteArray) : List ByteArray := us.filter (fun y => ltB y x) ++ x :: us.filter (fun y => ltB x y)

theorem ins_mem (us : List ByteArray) (x y : ByteArray) : y ∈ ins us x ↔ y ∈ us ∨ y = x := by
  unfold ins
  simp only [List.mem_append, List.mem_filter, List.mem_cons, ltB_iff]
  constructor
  · rintro (⟨h, _⟩ | rfl | ⟨h, _⟩)
    · exact .inl h
    · exact .inr rfl
    · exact .inl h
  · rintro (h | rfl)
    · by_cases h1 : Lt y x
      · exact .inl ⟨h, h1⟩
      · by_cases h2 : Lt x y
        · exact .inr (.inr ⟨h, h2⟩)
        · exact .inr (.inl (lt_total h1 h2))
    · exact .inr (.inl rfl)

theorem ins_asc {us : List ByteArray} (h : Asc us) (x : ByteArray) : Asc (ins us x) := by
  unfold Asc ins
  rw [List.pairwise_append]
  refine ⟨h.filter _, ?_, ?_⟩
  · rw [List.pairwise_cons]
    refine ⟨fun y hy => ?_, h.filter _⟩
    exact ltB_iff.1 (List.mem_filter.1 hy).2
  · intro a ha b hb
    have h1 : Lt a x := ltB_iff.1 (List.mem_filter.1 ha).2
    rcases List.mem_cons.1 hb with rfl | hb
    · exact h1
    · have h2 : Lt x b := ltB_iff.1 (List.mem_filter.1 hb).2
      exact lt_trans h1 h2

theorem two_filters {p q : ByteArray → Bool} (h : ∀ y, p y = true → q y = true → False) : ∀ us : List ByteArray, (us.filter p).length + (us.filter q).length ≤ us.length
  | [] => by simp
  | u :: us => by
    have ih := two_filters h us
    rw [List.filter_cons, List.filter_cons]
    have := h u
    cases hp : p u <;> cases hq : q u <;> simp_all <;> omega

theorem ins_length (us : List ByteArray) (x : ByteArray) : (ins us x).length ≤ us.length + 1 := by
  unfold ins
  have := @two_filters (fun y => ltB y x) (fun y => ltB x y) (fun y h1 h2 => lt_asymm (ltB_iff.1 h1) (ltB_iff.1 h2)) us
  simp only [List.length_append, List.length_cons]
  omega

/-- us is the set of ts, ascending. -/
def SetOf (ts us : List ByteArray) : Prop := Asc us ∧ ∀ x, x ∈ us ↔ x ∈ ts

theorem setOf_unique {ts us vs : List ByteArray} (h : SetOf ts us) (k : SetOf ts vs) : us = vs := asc_unique h.1 k.1 fun x => (h.2 x).trans (k.2 x).symm

theorem setOf_nil : SetOf [] [] := ⟨List.Pairwise.nil, fun x => Iff.rfl⟩
theorem setOf_step {ts us : List ByteArray} (h : SetOf ts us) (x : ByteArray) : SetOf (ts ++ [x]) (ins us x) :=
  ⟨ins_asc h.1 x, fun y => by rw [ins_mem, h.2 y]; simp⟩

/-- A list of bytes as a text, and back. -/
def mkT (l : List UInt8) : ByteArray := ⟨l.toArray⟩
theorem mkT_list (l : List UInt8) : (mkT l).data.toList = l := by simp [mkT]
theorem mkT_of (t : ByteArray) : mkT t.data.toList = t := text_ext (mkT_list _)
theorem enc_mk (ls : List (List UInt8)) : ls.map encStr = (ls.map mkT).map Value.string := by
  rw [List.map_map]; rfl

/-- What the library's sort makes of a list that has no two alike. -/
theorem sorted_setOf {ts : List ByteArray} {ss : List (List UInt8)} (hnd : ss.Nodup) (hm : ∀ x, x ∈ ss ↔ mkT x ∈ ts) : SetOf ts ((ss.mergeSort fun x y => decide (x ≤ y)).map mkT) := by
  have hp : (ss.mergeSort fun x y => decide (x ≤ y)).Perm ss := List.mergeSort_perm _ _
  have hs : (ss.mergeSort fun x y => decide (x ≤ y)).Pairwise (fun a b => decide (a ≤ b) = true) := List.pairwise_mergeSort (fun a b c h1 h2 => by
    simp only [decide_eq_true_eq] at *
    exact List.le_trans h1 h2) (fun a b => by
    simp only [Bool.or_eq_true, decide_eq_true_eq]
    exact List.le_total a b) ss
  have hnd2 : (ss.mergeSort fun x y => decide (x ≤ y)).Nodup := hp.nodup_iff.2 hnd
  refine ⟨?_, fun x => ?_⟩
  · unfold Asc
    rw [List.pairwise_map]
    refine (hs.and hnd2).imp fun {a b} h => ?_
    have h1 : a ≤ b := by simpa using h.1
    have h2 : a ≠ b := h.2
    show (mkT a).data.toList < (mkT b).data.toList
    rw [mkT_list, mkT_list]
    rcases Classical.em (a < b) with hl | hl
    · exact hl
    · exact absurd (List.le_antisymm h1 (List.not_lt.1 hl)) h2
  · rw [List.mem_map]
    constructor
    · rintro ⟨l, hl, rfl⟩
      exact (hm l).1 (hp.mem_iff.1 hl)
    · intro hx
      exact ⟨x.data.toList, hp.mem_iff.2 ((hm _).2 (by rw [mkT_of]; exact hx)), mkT_of x⟩
end Go.Proofs.Ytbdnnmcjnfbloaa.Pl
