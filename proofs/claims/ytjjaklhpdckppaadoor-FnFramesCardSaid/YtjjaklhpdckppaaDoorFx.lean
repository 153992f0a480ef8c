/- A stream from a place on, in plain words. No program is named here. -/
import Derived.Test.YtjjaklhpdckppaaDoorFr
namespace Go.Proofs.YtjjaklhpdckppaaDoor.Pl
open Go
set_option linter.unusedVariables false

/-- what stands from the place k on. -/
def dropT (t : ByteArray) (k : Nat) : ByteArray := t.extract k t.size
theorem dropT_list (t : ByteArray) (k : Nat) : (dropT t k).data.toList = t.data.toList.drop k := by
  rw [dropT, extract_list, List.take_of_length_le (by rw [size_list]; exact Nat.le_refl _)]
theorem dropT_size (t : ByteArray) (k : Nat) : (dropT t k).size = t.size - k := by
  rw [← size_list, dropT_list, List.length_drop, size_list]
theorem dropT_zero (t : ByteArray) : dropT t 0 = t := extract_all t
theorem dropT_len0 (t : ByteArray) (k : Nat) (hk : k < t.size) : (t[k]'hk).toNat = len0 (dropT t k) := by
  have h : (dropT t k).data.toList.headD 0 = t[k]'hk := by
    show _ = t.data[k]
    rw [dropT_list, ← Array.getElem_toList, List.headD_eq_head?_getD, List.head?_drop, List.getElem?_eq_getElem (by rw [size_list]; exact hk)]
    rfl
  rw [len0, h]
theorem dropT_extract (t : ByteArray) (k i j : Nat) : (dropT t k).extract i j = t.extract (k + i) (k + j) := by
  apply ext_list
  rw [extract_list, extract_list, dropT_list, List.take_drop, List.drop_drop]
theorem dropT_text0 (t : ByteArray) (k : Nat) : text0 (dropT t k) = t.extract (k + 3) (k + 3 + len0 (dropT t k)) := by
  rw [text0, dropT_extract, Nat.add_assoc]
theorem dropT_dropT (t : ByteArray) (k j : Nat) : dropT (dropT t k) j = dropT t (k + j) := by
  apply ext_list
  rw [dropT_list, dropT_list, dropT_list, List.drop_drop]
theorem dropT_rest0 (t : ByteArray) (k : Nat) : rest0 (dropT t k) = dropT t (k + (3 + len0 (dropT t k))) := dropT_dropT t k _

theorem append_right {a b c : ByteArray} (h : a ++ c = b ++ c) : a = b := by
  apply ext_list
  have := congrArg (fun x : ByteArray => x.data.toList) h
  simp only [append_list] at this
  exact List.append_cancel_right this
theorem frame_split {T : ByteArray} (h : 3 + len0 T ≤ T.size) : T.extract 0 3 ++ text0 T = T.extract 0 (3 + len0 T) := extract_join T 0 3 _ (by omega) (by omega)
theorem frame_same {T : ByteArray} (h : 3 + len0 T ≤ T.size) (h3 : T.extract 0 3 = headS (text0 T)) : frameS (text0 T) = T.extract 0 (3 + len0 T) := by
  rw [← frame_split h, frameS, h3]
theorem frame_differ {T : ByteArray} (h : 3 + len0 T ≤ T.size) (h3 : T.extract 0 3 ≠ headS (text0 T)) : frameS (text0 T) ≠ T.extract 0 (3 + len0 T) := by
  intro e
  rw [← frame_split h, frameS] at e
  exact h3 (append_right e).symm
end Go.Proofs.YtjjaklhpdckppaaDoor.Pl
