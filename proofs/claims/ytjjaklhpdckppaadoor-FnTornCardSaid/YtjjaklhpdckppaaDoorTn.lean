/- A frame with one byte turned, in plain words; a text's bytes in a slice, one of them set. -/
import Derived.Test.YtjjaklhpdckppaaDoorF9
import Derived.Test.YtjjaklhpdckppaaDoorDT
import Derived.Lib.ConvBytes
namespace Go.Proofs.YtjjaklhpdckppaaDoor
open Go.RowKit Pl
set_option linter.unusedVariables false

/-- a slice of a text's bytes, at the block g. -/
def RowAt (w : World) (g : Nat) (t : ByteArray) : Prop := g < w.heap.size ∧ (∀ j, j < t.size → w.cell? ⟨g, j, none⟩ = some (.int .u8 (t.data.toList.getD j 0).toNat)) ∧ (∀ j, j < t.size → w.frozen? ⟨g, j, none⟩ = false)
theorem RowAt.stays {w w' : World} {B g : Nat} {t : ByteArray} (h : RowAt w g t) (hb : Below B w w') (hg : g < B) : RowAt w' g t :=
  ⟨Nat.lt_of_lt_of_le h.1 hb.size, fun j hj => (hb.cell (p := ⟨g, j, none⟩) hg).trans (h.2.1 j hj), fun j hj => (hb.frozen (p := ⟨g, j, none⟩) hg).trans (h.2.2 j hj)⟩

theorem conv_bytes (w : World) (t : ByteArray) : ∃ (cap : Nat) (W : World), (convert 9 22 (.string t)).run Tryd.prog w = .ok (.slice (some ⟨w.heap.size, 0, none⟩) t.size cap) W ∧ Below w.heap.size w W ∧ RowAt W w.heap.size t := by
  refine ⟨_, _, Lib.run_convert_string_bytes (P := Tryd.prog) w 9 22 5 t Tryd.underlying9 Tryd.underlying22 Tryd.underlying5, ⟨?_, ?_, ?_, ?_, ?_⟩, ?_, ?_, ?_⟩
  · rfl
  · rfl
  · rfl
  · rw [Lib.bytesWorld_size]; omega
  · exact fun k hk => Lib.bytesWorld_at_old w 5 t k hk
  · rw [Lib.bytesWorld_size]; omega
  · exact fun j hj => Lib.bytesWorld_cell w 5 t j hj
  · intro j hj
    unfold World.frozen?
    have h1 : (Lib.bytesWorld w 5 t).heap[w.heap.size]? = _ := Lib.bytesWorld_at_new w 5 t
    simp only [h1]
    have h2 : t.size ≤ (Lib.bytesCells w 5 t).size := by
      unfold Lib.bytesCells
      rw [Array.size_append, Array.size_map]
      exact Nat.le_add_right _ _
    have h3 : ¬ (Lib.bytesCells w 5 t).size ≤ j := by omega
    simp [h3]

theorem conv_back (w : World) (g cap : Nat) (t : ByteArray) (hrow : RowAt w g t) : (convert 22 9 (.slice (some ⟨g, 0, none⟩) t.size cap)).run Tryd.prog w = .ok (.string t) w := by
  have h := run_convert_bytes_back (P := Tryd.prog) w 22 9 5 ⟨g, 0, none⟩ cap t.data.toList Tryd.underlying22 Tryd.underlying5 Tryd.underlying9 (by
    intro j hj
    have ha : (⟨g, 0, none⟩ : Addr).add j = ⟨g, j, none⟩ := by unfold Addr.add; split <;> simp_all
    rw [ha, hrow.2.1 j (by rw [size_list] at hj; exact hj)]
    simp [List.getD, List.getElem?_eq_getElem hj])
  rw [size_list] at h
  simpa using h

/-- a text with one byte set. -/
def setT (t : ByteArray) (I c : Nat) : ByteArray := ⟨(t.data.toList.set I (UInt8.ofNat c)).toArray⟩
theorem setT_list (t : ByteArray) (I c : Nat) : (setT t I c).data.toList = t.data.toList.set I (UInt8.ofNat c) := by simp [setT]
theorem setT_size (t : ByteArray) (I c : Nat) : (setT t I c).size = t.size := by rw [← size_list, setT_list, List.length_set, size_list]
theorem setT_len0 {t : ByteArray} {I c : Nat} (hI : 1 ≤ I) : len0 (setT t I c) = len0 t := by
  unfold len0
  rw [setT_list]
  cases e : t.data.toList with
  | nil => rfl
  | cons a l =>
    obtain ⟨J, rfl⟩ : ∃ J, I = J + 1 := ⟨I - 1, by omega⟩
    rfl

theorem RowAt.set {w : World} {g I c : Nat} {t : ByteArray} (hrow : RowAt w g t) (hI : I < t.size) (hc : c < 256) : RowAt (w.setCell ⟨g, I, none⟩ (.int .u8 c)).drew g (setT t I c) := by
  obtain ⟨h1, hr, hf⟩ := hrow
  have ht : TurnAt g w (w.setCell ⟨g, I, none⟩ (.int .u8 c)) := (TurnAt.refl g w).setCell I _
  refine ⟨?_, ?_, ?_⟩
  · show g < (w.setCell ⟨g, I, none⟩ (.int .u8 c)).heap.size
    rw [ht.size]; exact h1
  · intro j hj
    rw [setT_size] at hj
    show (w.setCell ⟨g, I, none⟩ (.int .u8 c)).cell? ⟨g, j, none⟩ = _
    have hj3 : j < t.data.toList.length := by rw [size_list]; exact hj
    rw [setT_list]
    by_cases hj2 : j = I
    · subst hj2
      rw [World.cell?_setCell_same (h := hr j hj)]
      rw [List.getD_eq_getElem?_getD, List.getElem?_set_self hj3]
      simp [UInt8.toNat_ofNat', Nat.mod_eq_of_lt hc]
    · rw [World.cell?_setCell_other (h := by intro e; apply hj2; injection e with _ e2; exact e2.symm), hr j hj]
      simp [List.getD, List.getElem?_set_ne (fun e => hj2 e.symm)]
  · intro j hj
    rw [setT_size] at hj
    show (w.setCell ⟨g, I, none⟩ (.int .u8 c)).frozen? ⟨g, j, none⟩ = _
    rw [← hf j hj]
    simp

/-- a frame whose one byte behind the length is another: torn, or one whole frame. -/
theorem torn_fed {s : ByteArray} {I c : Nat} (hs : s.size ≤ 60) (hI : 1 ≤ I) : (Fed (setT (frameS s) I c) [] ByteArray.empty true) ∨ ∃ x, Fed (setT (frameS s) I c) [x] ByteArray.empty false := by
  have hz := setT_size (frameS s) I c
  rw [frameS_size] at hz
  have hl := setT_len0 (t := frameS s) (c := c) hI
  have hfl := frame_len0 hs ByteArray.empty
  rw [ByteArray.append_empty] at hfl
  rw [hfl] at hl
  generalize setT (frameS s) I c = t at *
  by_cases h3 : t.extract 0 3 = headS (text0 t)
  · refine .inr ⟨text0 t, Fed.whole t [] ByteArray.empty false (by omega) (by omega) (by omega) h3 ?_⟩
    exact Fed.none _ (by rw [rest0_size]; omega)
  · exact .inl (Fed.torn t (by omega) (by omega) (by omega) h3)

theorem frame_fed {s : ByteArray} (hs : s.size ≤ 60) : Fed (frameS s) [s] ByteArray.empty false := by
  have h := fed_frames [s] (fun t ht => by obtain rfl := List.mem_singleton.1 ht; exact hs)
  rw [List.map_cons, List.map_nil, catL_cons, catL_nil, ByteArray.append_empty] at h
  exact h
end Go.Proofs.YtjjaklhpdckppaaDoor
