/- Joined texts: Seal. -/
import Derived.Test.YtlflcjdpdbdbkaaDoorBj15
import Derived.Laws.BytesArg
/- Sealed texts as lists of bytes: a text and its sum in four bytes; one byte turned is never a sealed text. No program is named here. -/
namespace Go.Proofs.YtlflcjdpdbdbkaaDoor.Pl
open Go

/-- the sum of a text. -/
def sumT (s : ByteArray) : Nat := sumL 4294967295 s.data.toList
theorem sumT_lt (s : ByteArray) : sumT s < 4294967296 := sumL_lt _ (by decide)

def fourS (x : Nat) : ByteArray := strOfNums (fourI x)
theorem fourS_data (x : Nat) : (fourS x).data.toList = four x := by
  unfold fourS
  rw [strOfNums_data]
  have h : ∀ y : Nat, UInt8.ofNat ((y % 256 : Nat) : Int).toNat = UInt8.ofNat y := by
    intro y
    rw [Int.toNat_natCast]
    apply UInt8.toNat_inj.1
    rw [UInt8.toNat_ofNat', UInt8.toNat_ofNat']
    omega
  unfold fourI four
  simp only [List.map_cons, List.map_nil, h]
theorem fourS_size (x : Nat) : (fourS x).size = 4 := by rw [fourS, strOfNums_size]; rfl
theorem fourS_inj {x y : Nat} (hx : x < 4294967296) (hy : y < 4294967296) (h : fourS x = fourS y) : x = y :=
  four_inj hx hy (by rw [← fourS_data, ← fourS_data, h])

def sealS (s : ByteArray) : ByteArray := s ++ fourS (sumT s)
theorem sealS_size (s : ByteArray) : (sealS s).size = s.size + 4 := by rw [sealS, ByteArray.size_append, fourS_size]

/-- a text of at least four bytes whose last four are the sum of those ahead. -/
def IsSeal (t : ByteArray) : Prop := t.extract (t.size - 4) t.size = fourS (sumT (t.extract 0 (t.size - 4)))

theorem ext_list {a b : ByteArray} (h : a.data.toList = b.data.toList) : a = b := by
  cases a; cases b; congr 1; exact Array.toList_inj.1 h

theorem sealed_list (t : ByteArray) (i j : Nat) : (t.extract i j).data.toList = (t.data.toList.take j).drop i := by
  rw [ByteArray.data_extract, Array.toList_extract, List.extract_eq_take_drop, List.drop_take]

theorem size_list (t : ByteArray) : t.data.toList.length = t.size := rfl

theorem good_seal (s : ByteArray) : IsSeal (sealS s) ∧ (sealS s).extract 0 ((sealS s).size - 4) = s := by
  have e : (sealS s).extract 0 ((sealS s).size - 4) = s := by
    apply ext_list
    rw [sealed_list, sealS_size, sealS, ByteArray.data_append, Array.toList_append]
    simp
  refine ⟨?_, e⟩
  unfold IsSeal
  rw [e]
  apply ext_list
  rw [sealed_list, sealS_size, sealS, ByteArray.data_append, Array.toList_append]
  rw [List.take_of_length_le (by simp [fourS_size])]
  simp

/-- one byte of a sealed text is another: it is no sealed text. -/
theorem turned_bad (s t : ByteArray) (i : Nat) (c : UInt8) (hi : i < (sealS s).size) (hc : c ≠ (sealS s).data.toList[i]'(by rw [size_list]; exact hi))
    (ht : t.data.toList = (sealS s).data.toList.set i c) : ¬ IsSeal t := by
  intro hg
  have hsz : t.size = s.size + 4 := by
    have := congrArg List.length ht
    rw [List.length_set, size_list, size_list, sealS_size] at this
    exact this
  unfold IsSeal at hg
  have hg := congrArg (fun x : ByteArray => x.data.toList) hg
  simp only [fourS_data] at hg
  rw [sealed_list, hsz, show s.size + 4 - 4 = s.size by omega, List.take_of_length_le (by rw [size_list, hsz]; exact Nat.le_refl _)] at hg
  have hd : (sealS s).data.toList = s.data.toList ++ four (sumT s) := by
    rw [sealS, ByteArray.data_append, Array.toList_append, fourS_data]
  have hl : s.data.toList.length = s.size := rfl
  have hx : ∀ l m : List UInt8, l.length = s.size → t.data.toList = l ++ m → m = four (sumL 4294967295 l) := by
    intro l m hlen he
    have e2 : (t.extract 0 s.size).data.toList = l := by
      rw [sealed_list, he]; simp [← hlen]
    rw [sumT, e2, he] at hg
    simpa [← hlen] using hg
  rw [sealS_size] at hi
  by_cases h1 : i < s.size
  · have e3 : t.data.toList = s.data.toList.set i c ++ four (sumT s) := by
      rw [ht, hd, List.set_append_left _ _ (by rw [hl]; exact h1)]
    have h2 := hx _ _ (by rw [List.length_set, hl]) e3
    have h3 := four_inj (sumT_lt s) (sumL_lt _ (by decide)) h2
    have hb : s.data.toList[i]'(by rw [hl]; exact h1) = (sealS s).data.toList[i]'(by rw [size_list, sealS_size]; exact hi) := by
      simp only [hd]
      rw [List.getElem_append_left]
    have e4 : s.data.toList = s.data.toList.take i ++ s.data.toList[i]'(by rw [hl]; exact h1) :: s.data.toList.drop (i + 1) := by
      rw [List.getElem_cons_drop, List.take_append_drop]
    have e5 : s.data.toList.set i c = s.data.toList.take i ++ c :: s.data.toList.drop (i + 1) := by
      rw [List.set_eq_take_append_cons_drop, if_pos (by rw [hl]; exact h1)]
    rw [e5] at h3
    have h4 : sumL 4294967295 (s.data.toList.take i ++ c :: s.data.toList.drop (i + 1)) = sumL 4294967295 (s.data.toList.take i ++ s.data.toList[i]'(by rw [hl]; exact h1) :: s.data.toList.drop (i + 1)) := by
      rw [← e4, ← h3]; rfl
    exact hc ((sumL_turned (by decide) _ _ _ _ h4).trans hb)
  · have e3 : t.data.toList = s.data.toList ++ (four (sumT s)).set (i - s.size) c := by
      rw [ht, hd, List.set_append_right _ _ (by rw [hl]; omega), hl]
    have h2 := hx _ _ hl e3
    have hlt : i - s.size < (four (sumT s)).length := by show _ < 4; omega
    have h3 : ((four (sumT s)).set (i - s.size) c)[i - s.size]? = (four (sumT s))[i - s.size]? := by rw [h2]; rfl
    rw [List.getElem?_set_self hlt, List.getElem?_eq_getElem hlt] at h3
    have h4 : c = (four (sumT s))[i - s.size] := Option.some.inj h3
    have hb : (sealS s).data.toList[i]'(by rw [size_list, sealS_size]; exact hi) = (four (sumT s))[i - s.size] := by
      simp only [hd]
      rw [List.getElem_append_right (by rw [hl]; omega)]
      simp only [hl]
    exact hc (h4.trans hb.symm)

end Go.Proofs.YtlflcjdpdbdbkaaDoor.Pl

