/- Joined texts: CSpp. -/
import Derived.Test.YtmbjflhhffcjdaaDoorWsq14
import Derived.Lib.Bytealg
import Derived.Lib.IndexLaws
/- Private names in plain words: one is split in one way alone; what stands behind its first mark, and ahead of and behind its second one. -/
namespace Go.Proofs.YtmbjflhhffcjdaaDoor
open Go.RowKit
set_option linter.unusedVariables false

/-- s is the private name of daemon d and t. -/
def IsPriv (s : ByteArray) (d : Nat) (t : ByteArray) : Prop := 1 ≤ d ∧ d ≤ 9 ∧ NmOk t ∧ s = privS d t

theorem priv_list (d : Nat) (t : ByteArray) : (privS d t).data.toList = 35 :: UInt8.ofNat (48 + d) :: 35 :: t.data.toList := by
  simp [privS, figS, ByteArray.data_append]

theorem list_ext {a b : ByteArray} (h : a.data.toList = b.data.toList) : a = b := ByteArray.ext (Array.ext' h)

theorem size_list (s : ByteArray) : s.size = s.data.toList.length := rfl

theorem priv_size (d : Nat) (t : ByteArray) : (privS d t).size = t.size + 3 := by
  rw [size_list, priv_list]; rfl

theorem get_list (s : ByteArray) (k : Nat) (h : k < s.size) : (s[k]'h) = s.data.toList[k]'(by rw [← size_list]; exact h) := rfl

theorem get_at' {s : ByteArray} {k : Nat} {c : UInt8} (h : s.data.toList[k]? = some c) : ∃ hk : k < s.size, (s[k]'hk) = c := by
  obtain ⟨h1, h2⟩ := List.getElem?_eq_some_iff.1 h
  exact ⟨by rw [size_list]; exact h1, h2⟩

theorem fig_nat (d : Nat) (h : d ≤ 9) : (UInt8.ofNat (48 + d)).toNat = 48 + d := by
  rw [UInt8.toNat_ofNat']; omega

theorem extract_list (s : ByteArray) (a b : Nat) : (s.extract a b).data.toList = (s.data.toList.drop a).take (b - a) := by
  rw [ByteArray.data_extract]
  simp [List.take_drop, Array.toList_extract]

theorem extract_end (s : ByteArray) (a : Nat) : (s.extract a s.size).data.toList = s.data.toList.drop a := by
  rw [extract_list, List.take_of_length_le]
  rw [List.length_drop, ← size_list]
  exact Nat.le_refl _

theorem priv_bytes {d : Nat} {t : ByteArray} (h : d ≤ 9) : ∃ (h0 : 0 < (privS d t).size) (h1 : 1 < (privS d t).size) (h2 : 2 < (privS d t).size),
    ((privS d t)[0]'h0).toNat = 35 ∧ ((privS d t)[1]'h1).toNat = 48 + d ∧ ((privS d t)[2]'h2).toNat = 35 ∧ (privS d t).extract 3 (privS d t).size = t := by
  have hs := priv_size d t
  refine ⟨by omega, by omega, by omega, ?_, ?_, ?_, ?_⟩
  · rw [get_list]; simp [priv_list]
  · rw [get_list]; simp only [priv_list]; exact fig_nat d h
  · rw [get_list]; simp [priv_list]
  · apply list_ext
    rw [extract_end, priv_list]
    rfl

/-- A text that has the marks, the figure and a name is a private name. -/
theorem isPriv_of {s : ByteArray} (h0 : 0 < s.size) (h1 : 1 < s.size) (h2 : 2 < s.size) (e0 : (s[0]'h0).toNat = 35) (e2 : (s[2]'h2).toNat = 35) (h3 : 49 ≤ (s[1]'h1).toNat) (h4 : (s[1]'h1).toNat ≤ 57)
    (hn : nmB (s.extract 3 s.size) = true) : IsPriv s ((s[1]'h1).toNat - 48) (s.extract 3 s.size) := by
  refine ⟨by omega, by omega, nmB_iff.1 hn, ?_⟩
  apply list_ext
  rw [priv_list, extract_end]
  have e : s.data.toList = (s[0]'h0) :: (s[1]'h1) :: (s[2]'h2) :: s.data.toList.drop 3 := by
    have hl := size_list s
    rw [get_list, get_list, get_list]
    rw [← List.drop_eq_getElem_cons, ← List.drop_eq_getElem_cons, ← List.drop_eq_getElem_cons]
    rfl
  conv => lhs; rw [e]
  have u0 : (s[0]'h0) = 35 := UInt8.toNat_inj.1 e0
  have u2 : (s[2]'h2) = 35 := UInt8.toNat_inj.1 e2
  have u1 : UInt8.ofNat (48 + ((s[1]'h1).toNat - 48)) = (s[1]'h1) := by
    rw [show 48 + ((s[1]'h1).toNat - 48) = (s[1]'h1).toNat from by omega]
    exact UInt8.ofNat_toNat
  rw [u0, u2, u1]

/-- What stands behind the first mark of a private name. -/
theorem priv_cut {d : Nat} {t : ByteArray} (h : d ≤ 9) (u : ByteArray) (hu : u = (privS d t).extract 1 (privS d t).size) :
    Lib.indexByte u.data.toList 35 = 1 ∧ u.extract 0 1 = figS d ∧ u.extract 2 u.size = t ∧ 2 ≤ u.size := by
  have e : u.data.toList = UInt8.ofNat (48 + d) :: 35 :: t.data.toList := by
    rw [hu, extract_end, priv_list]; rfl
  have hne : (UInt8.ofNat (48 + d) == 35) = false := by
    rw [beq_eq_false_iff_ne]
    intro hh
    have := congrArg UInt8.toNat hh
    rw [fig_nat d h] at this
    have h35 : (35 : UInt8).toNat = 35 := rfl
    omega
  refine ⟨?_, ?_, ?_, ?_⟩
  · rw [e]
    unfold Lib.indexByte
    rw [hne]
    rfl
  · apply list_ext
    rw [extract_list, e]
    rfl
  · apply list_ext
    rw [extract_end, e]
    rfl
  · rw [size_list, e]; simp

theorem privB_yes {s : ByteArray} {d : Nat} {t : ByteArray} (h : IsPriv s d t) : privB d t = s := by
  obtain ⟨h1, h2, h3, rfl⟩ := h
  rw [privB, if_pos ⟨by omega, by omega, nmB_yes h3⟩, Int.toNat_natCast]

/-- No private name, and not empty: PrivateName makes it of nothing. -/
theorem privB_no {s : ByteArray} (hno : ∀ d t, ¬ IsPriv s d t) (h0 : 0 < s.size) (m : Int) (n : ByteArray) : privB m n ≠ s := by
  intro h
  unfold privB at h
  split at h
  · rename_i hc
    exact hno m.toNat n ⟨by omega, by omega, nmB_iff.1 hc.2.2, h.symm⟩
  · rw [← h] at h0
    exact absurd h0 (by decide)
end Go.Proofs.YtmbjflhhffcjdaaDoor


