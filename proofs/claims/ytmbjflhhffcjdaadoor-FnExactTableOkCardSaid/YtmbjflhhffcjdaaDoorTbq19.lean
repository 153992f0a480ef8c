/- Joined texts: CTb. -/
import Derived.Test.YtmbjflhhffcjdaaDoorTbq10
import Derived.Test.YtmbjflhhffcjdaaDoorTbq18
/- Names, private names, words and tables of groups in plain words. -/
namespace Go.Proofs.YtmbjflhhffcjdaaDoor
open Go.RowKit Pl
set_option linter.unusedVariables false
set_option linter.unusedSimpArgs false

/-- do they ascend? -/
def tascB : List ByteArray → Bool
  | [] => true
  | a :: l => (match l with | [] => true | b :: _ => tltB a b) && tascB l
theorem tascB_cons {a b : ByteArray} {l : List ByteArray} : tascB (a :: b :: l) = (tltB a b && tascB (b :: l)) := rfl
theorem tascB_no : ∀ {l : List ByteArray} {j : Nat} (h : j + 1 < l.length), ¬ Tlt l[j] l[j + 1] → tascB l = false
  | a :: b :: l, 0, _, hn => by
    have : tltB a b = false := by
      rw [Bool.eq_false_iff]; intro h; exact hn (tltB_iff.1 h)
    rw [tascB_cons, this]; rfl
  | a :: b :: l, j + 1, h, hn => by
    have := tascB_no (l := b :: l) (j := j) (by simpa using h) (by simpa using hn)
    rw [tascB_cons, this, Bool.and_false]
theorem tascB_yes : ∀ {l : List ByteArray}, (∀ j (h : j + 1 < l.length), Tlt l[j] l[j + 1]) → tascB l = true
  | [], _ => rfl
  | [a], _ => rfl
  | a :: b :: l, h => by
    rw [tascB_cons, tltB_iff.2 (show Tlt a b from h 0 (by simp)), tascB_yes (l := b :: l) fun j hj => by have := h (j + 1) (by simpa using hj); simpa using this]
    rfl
/-- names that ascend. -/
def namesB (ts : List ByteArray) : Bool := ts.all nmB && tascB ts
theorem namesB_nm {ts : List ByteArray} {k : Nat} (hk : k < ts.length) (h : nmB ts[k] = false) : namesB ts = false := by
  unfold namesB
  rw [show ts.all nmB = false from List.all_eq_false.2 ⟨_, List.getElem_mem hk, by simp [h]⟩]; rfl
theorem namesB_lt {ts : List ByteArray} {j : Nat} (hj : j + 1 < ts.length) (h : ¬ Tlt ts[j] ts[j + 1]) : namesB ts = false := by
  unfold namesB; rw [tascB_no hj h, Bool.and_false]
theorem namesB_yes {ts : List ByteArray} (h : ∀ j (hj : j < ts.length), nmB ts[j] = true) (h2 : ∀ j (hj : j + 1 < ts.length), Tlt ts[j] ts[j + 1]) : namesB ts = true := by
  unfold namesB
  rw [tascB_yes h2, List.all_eq_true.2 fun x hx => by obtain ⟨j, hj, rfl⟩ := List.getElem_of_mem hx; exact h j hj]; rfl
/-- the daemon and the name of a private name. -/
def privP (s : ByteArray) : Option (Nat × ByteArray) := match s.data.toList with
  | a :: b :: c :: r => if a = 35 ∧ c = 35 ∧ 49 ≤ b.toNat ∧ b.toNat ≤ 57 ∧ nmB ⟨r.toArray⟩ = true then some (b.toNat - 48, ⟨r.toArray⟩) else none
  | _ => none
theorem privP_of {s : ByteArray} {d : Nat} {t : ByteArray} (h : IsPriv s d t) : privP s = some (d, t) := by
  obtain ⟨h1, h2, h3, rfl⟩ := h
  unfold privP
  rw [priv_list]
  have e1 := fig_nat d h2
  have e2 : (⟨t.data.toList.toArray⟩ : ByteArray) = t := list_ext (by simp)
  simp only [e1, e2]
  rw [if_pos ⟨trivial, trivial, by omega, by omega, nmB_yes h3⟩]
  congr 2
  omega
theorem privP_is {s : ByteArray} {d : Nat} {t : ByteArray} (h : privP s = some (d, t)) : IsPriv s d t := by
  unfold privP at h
  split at h
  · rename_i a b c r he
    split at h
    · rename_i hc
      obtain ⟨rfl, rfl, h1, h2, h3⟩ := hc
      simp only [Option.some.injEq, Prod.mk.injEq] at h
      obtain ⟨rfl, rfl⟩ := h
      refine ⟨by omega, by omega, nmB_iff.1 h3, list_ext ?_⟩
      rw [priv_list, he]
      congr 2
      rw [show 48 + (b.toNat - 48) = b.toNat by omega]
      exact (UInt8.ofNat_toNat).symm
    · cases h
  · cases h
theorem privP_none {s : ByteArray} (h : privP s = none) : ∀ d t, ¬ IsPriv s d t := fun d t k => by rw [privP_of k] at h; cases h
/-- is it a private name? -/
def prB (s : ByteArray) : Bool := (privP s).isSome
/-- a word that is right. -/
def wdB (k : Int) (who : ByteArray) (gs : List ByteArray) (t : ByteArray) : Bool :=
  decide (1 ≤ k ∧ k ≤ 4) && (prB who && (namesB gs && (if k = 4 then decide (1 ≤ (gs.length : Int) ∧ (gs.length : Int) ≤ 3) && decide (t.size ≤ 20) else if k = 3 then decide (gs.length = 0) && decide (t.size = 0) else decide (gs.length = 1) && decide (t.size = 0))))
abbrev Tb := List (ByteArray × List ByteArray)
/-- a group that is right but for its name. -/
def mbB (ms : List ByteArray) : Bool := ms.all prB && tascB ms
/-- a group that is right. -/
def grB (g : ByteArray × List ByteArray) : Bool := nmB g.1 && (decide (1 ≤ (g.2.length : Int) ∧ (g.2.length : Int) ≤ 8) && mbB g.2)
/-- a table that is right. -/
def tbB (t : Tb) : Bool := decide (t.length ≤ 6) && (t.all grB && tascB (t.map (·.1)))
theorem mbB_pr {ts : List ByteArray} {k : Nat} (hk : k < ts.length) (h : prB ts[k] = false) : mbB ts = false := by
  unfold mbB
  rw [show ts.all prB = false from List.all_eq_false.2 ⟨_, List.getElem_mem hk, by simp [h]⟩]; rfl
theorem mbB_lt {ts : List ByteArray} {j : Nat} (hj : j + 1 < ts.length) (h : ¬ Tlt ts[j] ts[j + 1]) : mbB ts = false := by
  unfold mbB; rw [tascB_no hj h, Bool.and_false]
theorem mbB_yes {ts : List ByteArray} (h : ∀ j (hj : j < ts.length), prB ts[j] = true) (h2 : ∀ j (hj : j + 1 < ts.length), Tlt ts[j] ts[j + 1]) : mbB ts = true := by
  unfold mbB
  rw [tascB_yes h2, List.all_eq_true.2 fun x hx => by obtain ⟨j, hj, rfl⟩ := List.getElem_of_mem hx; exact h j hj]; rfl
theorem tbB_gr {t : Tb} {k : Nat} (hk : k < t.length) (h : grB t[k] = false) : tbB t = false := by
  unfold tbB
  rw [show t.all grB = false from List.all_eq_false.2 ⟨_, List.getElem_mem hk, by simp [h]⟩]; simp
theorem tbB_lt {t : Tb} {j : Nat} (hj : j + 1 < t.length) (h : ¬ Tlt t[j].1 t[j + 1].1) : tbB t = false := by
  unfold tbB; rw [tascB_no (j := j) (by simpa using hj) (by simpa using h)]; simp
theorem tbB_yes {t : Tb} (h0 : t.length ≤ 6) (h : ∀ j (hj : j < t.length), grB t[j] = true) (h2 : ∀ j (hj : j + 1 < t.length), Tlt t[j].1 t[j + 1].1) : tbB t = true := by
  unfold tbB
  rw [tascB_yes fun j hj => by have := h2 j (by simpa using hj); simpa using this, List.all_eq_true.2 fun x hx => by obtain ⟨j, hj, rfl⟩ := List.getElem_of_mem hx; exact h j hj, decide_eq_true h0]; rfl
/-- the members of a group. -/
def memP (t : Tb) (g : ByteArray) : List ByteArray := match t.find? (fun p => p.1.toList == g.toList) with | some p => p.2 | none => []
/-- a group is given these members (none: it is gone). -/
def setP (t : Tb) (g : ByteArray) (ms : List ByteArray) : Tb := t.filter (fun p => tltB p.1 g) ++ ((if 0 < ms.length then [(g, ms)] else []) ++ t.filter (fun p => tltB g p.1))
/-- without a text. -/
def outP (l : List ByteArray) (x : ByteArray) : List ByteArray := l.filter fun y => !(y.toList == x.toList)
/-- is it there? -/
def hasT (l : List ByteArray) (x : ByteArray) : Bool := l.any fun y => y.toList == x.toList
/-- sorted, each once. -/
def sortP (l : List ByteArray) : List ByteArray := l.foldl insT []
end Go.Proofs.YtmbjflhhffcjdaaDoor


