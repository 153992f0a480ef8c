/- Joined texts: Cl Wh. -/
import Derived.Test.YtfefjkldjaabbaaChecked
import Derived.WalkKit
import Derived.WalkSpells
import Derived.WalkLawsBesides
import Derived.Lib.Strings
import Derived.Lib.BufferWrite
import Derived.Lib.UnsafeStr
import Derived.Laws.MakeOwn
import Derived.Test.YtfefjkldjaabbaaPj2
import Derived.Laws.IdiomCopy
/- The walk over strings.Clone. -/
namespace Go.Proofs.Ytfefjkldjaabbaa
open Go.RowKit
set_option linter.unusedVariables false

theorem Try.cells5 : Try.prog.cellsOf 5 = 1 := by kernel_rfl
theorem Try.info5 : (Try.prog.info? 5).map (fun i => (i.zero, i.size, i.bytes)) = some (some (.int .u8 0), 1, 1) := by kernel_rfl

set_option maxHeartbeats 1000000 in
set_option maxRecDepth 100000 in
theorem cloneLite (s : ByteArray) (w : World) (hlim : s.size ≤ 1048576) :
    Calls Try.prog 68 #[.string s] w fun e w' => e = .returned (.string s) ∧ Below w.heap.size w w' := by
  by_cases h0 : s.size = 0
  · obtain rfl : s = ⟨#[]⟩ := ByteArray.ext (Array.eq_empty_of_size_eq_zero h0)
    go_enter Try.func68, Try.ntmps68
    go_wp2
    go_ret
    exact ⟨rfl, Below.refl _ _⟩
  · obtain ⟨i0, hi, hz0, hz1, hz2⟩ := info_parts Try.info5
    have hinfo : (Try.prog.info? 5).map (·.size) = some 1 := by rw [hi]; simp [hz1]
    obtain ⟨M, hM⟩ : ∃ M, M = madeCells (Value.int .u8 0).cells (((s.size : Nat) : Int).toNat * i0.size) := ⟨_, rfl⟩
    have hMs : M.size = s.size := by rw [hM, size_madeCells, hz1]; simp
    have hmk : ∀ W : World, (Instr.makeSlice 22 (.int .i64 (s.size : Int)) (.int .i64 (s.size : Int))).run Try.prog W = .ok (.slice (some ⟨W.heap.size, 0, none⟩) s.size s.size) (W.alloc (.cells M 5)) := fun W => by
      have h := run_make (P := Try.prog) W 22 5 i0 (.int .u8 0) Try.underlying22 hi hz0 .i64 .i64 (s.size : Int) (s.size : Int) (by omega) (by omega) (by rw [hz2]; omega) (by omega)
      rw [← hM] at h
      simpa using h
    clear hM
    have hcp := Lib.run_copy_row_string (P := Try.prog) (w.alloc (.cells M 5)) 22 9 3 5 w.heap.size 0 s.size s.size s M 5 Try.underlying22 hinfo (heap_alloc_new w _) (Nat.le_refl _) (by omega)
    obtain ⟨Y, hY⟩ : ∃ Y, Y = (M.toList.take 0 ++ Lib.byteCells s.data.toList ++ M.toList.drop (0 + s.size)).toArray := ⟨_, rfl⟩
    rw [← hY] at hcp
    have hYl : Y.toList = Lib.byteCells s.data.toList := by
      rw [hY, List.toList_toArray, List.take_zero, List.nil_append, List.drop_of_length_le (by rw [Array.length_toList]; omega), List.append_nil]
    have hYs : Y.size = s.size := by rw [← Array.length_toList, hYl, Lib.byteCells_length, ← Lib.size_eq]
    have hgY : ((w.alloc (.cells M 5)).setRow w.heap.size Y).heap[w.heap.size]? = some (.cells Y 5 (0, 0)) := setRow_heap _ _ M _ 5 (0, 0) (heap_alloc_new w _)
    have hne : s.data.toList ≠ [] := fun e => h0 (by rw [Lib.size_eq, e]; rfl)
    have hUS := Lib.run_unsafeString_row (P := Try.prog) ((w.alloc (.cells M 5)).setRow w.heap.size Y) 103 3 9 5 Try.underlying103 Try.cells5 w.heap.size Y.size (by unfold World.shape?; rw [hgY]) s.data.toList hne (by rw [← Lib.size_eq]; omega) (by rw [← Lib.size_eq]; omega)
      (fun j x hx => Lib.cells_of_row hgY Y.size j _ (by rw [List.take_of_length_le (by rw [Array.length_toList]; exact Nat.le_refl _), hYl]; simp [Lib.byteCells, hx]))
    rw [← Lib.size_eq] at hUS
    clear hY
    go_enter Try.func68, Try.ntmps68
    go_wp2
    go_ret
    have hb1 : Below w.heap.size w (w.alloc (.cells M 5)) := (Below.refl _ w).alloc (Nat.le_refl _) _
    have hb2 : Below w.heap.size (w.alloc (.cells M 5)) ((w.alloc (.cells M 5)).setRow w.heap.size Y) := ⟨rfl, rfl, rfl, by simp, fun k hk => setRow_other _ _ _ _ (by omega)⟩
    exact ⟨rfl, Lib.below_freeze (hb1.trans hb2) (p := ⟨w.heap.size, 0, none⟩) (Nat.le_refl _) _⟩

set_option maxHeartbeats 400000 in
theorem clone_any (s : ByteArray) (w : World) (hlim : s.size ≤ 1048576) :
    Calls Try.prog 61 #[.string s] w fun e w' => e = .returned (.string s) ∧ Below w.heap.size w w' := by
  go_enter Try.func61, Try.ntmps61
  go_wp2_with (first | (go_at_call 68; refine (cloneLite s _ hlim).mono ?_; rintro e w1 ⟨rfl, hb1⟩))
  go_ret
  exact ⟨rfl, hb1⟩
end Go.Proofs.Ytfefjkldjaabbaa

/- The walk over a part put behind its head. -/
namespace Go.Proofs.Ytfefjkldjaabbaa
open Go.RowKit Pl
set_option linter.unusedVariables false

/-- the bytes of t lie in the block g from the place o on. -/
def PartAt (w : World) (g o : Nat) (t : ByteArray) : Prop := g < w.heap.size ∧ ∀ j x, t.data.toList[j]? = some x → w.cell? ⟨g, o + j, none⟩ = some (.int .u8 (x.toNat : Int))
theorem PartAt.later {w w' : World} {g o : Nat} {t : ByteArray} (h : PartAt w g o t) (hb : Below w.heap.size w w') : PartAt w' g o t :=
  ⟨Nat.lt_of_lt_of_le h.1 hb.size, fun j x hj => (hb.cell (p := ⟨g, o + j, none⟩) h.1).trans (h.2 j x hj)⟩

theorem row_string {w : World} {g : Nat} {Y : Array Value} {t : ByteArray} (hg : w.heap[g]? = some (.cells Y 5 (0, 0))) (hY : Y.toList = Lib.byteCells t.data.toList) (cap : Nat) :
    (convert 22 9 (.slice (some ⟨g, 0, none⟩) t.size cap)).run Try.prog w = .ok (.string t) w := by
  have h := run_convert_bytes_arg (P := Try.prog) w 22 5 Try.underlying22 Try.underlying5 g 0 t.size cap (t.data.toList.map fun x => (x.toNat : Int)) (by rw [List.length_map, ← rt_size]) (fun i hi => by
    rw [cell_of_row w g (0 + i) _ 5 (0, 0) hg]
    have hi' : i < t.data.toList.length := by rw [← rt_size]; exact hi
    rw [← Array.getElem?_toList, hY, Nat.zero_add]
    unfold Lib.byteCells
    rw [List.getElem?_map, List.getElem?_eq_getElem hi', List.getD, List.getElem?_map, List.getElem?_eq_getElem hi']
    rfl) 9 Try.underlying9
  rw [h]
  have e : strOfNums (t.data.toList.map fun x => (x.toNat : Int)) = t := by
    apply rt_ext
    rw [strOfNums_data, List.map_map]
    have hf : ((fun n : Int => UInt8.ofNat n.toNat) ∘ fun x : UInt8 => (x.toNat : Int)) = id := by funext x; simp
    rw [hf, List.map_id]
  rw [e]

set_option maxHeartbeats 2000000 in
set_option maxRecDepth 100000 in
theorem withHead_any (head ps : ByteArray) (gb po pc : Nat) (w : World) (hP : Hid (PartAt w gb po ps)) (hh : 0 < head.size) (hs : head.size ≤ 100) (hps : ps.size ≤ 40) :
    Calls Try.prog 39 #[.string head, .slice (some ⟨gb, po, none⟩) ps.size pc] w fun e w' => e = .returned (.string (head ++ ps)) ∧ Below w.heap.size w w' := by
  obtain ⟨i0, hi, hz0, hz1, hz2⟩ := info_parts Try.info5
  have hinfo : (Try.prog.info? 5).map (·.size) = some 1 := by rw [hi]; simp [hz1]
  obtain ⟨M, hM⟩ : ∃ M, M = madeCells (Value.int .u8 0).cells (((head.size : Int) + (ps.size : Int)).toNat * i0.size) := ⟨_, rfl⟩
  have hMs : M.size = head.size + ps.size := by rw [hM, size_madeCells, hz1]; simp; omega
  have hmk : ∀ W : World, (Instr.makeSlice 22 (.int .i64 ((head.size : Int) + (ps.size : Int))) (.int .i64 ((head.size : Int) + (ps.size : Int)))).run Try.prog W = .ok (.slice (some ⟨W.heap.size, 0, none⟩) (head.size + ps.size) (head.size + ps.size)) (W.alloc (.cells M 5)) := fun W => by
    have h := run_make (P := Try.prog) W 22 5 i0 (.int .u8 0) Try.underlying22 hi hz0 .i64 .i64 ((head.size : Int) + (ps.size : Int)) ((head.size : Int) + (ps.size : Int)) (by omega) (by omega) (by rw [hz2]; omega) (by omega)
    rw [← hM] at h
    rw [show ((head.size : Int) + (ps.size : Int)).toNat = head.size + ps.size by omega] at h
    exact h
  clear hM
  have hcp := Lib.run_copy_row_string (P := Try.prog) (w.alloc (.cells M 5)) 22 9 3 5 w.heap.size 0 (head.size + ps.size) (head.size + ps.size) head M 5 Try.underlying22 hinfo (heap_alloc_new w _) (by omega) (by omega)
  obtain ⟨Y, hY⟩ : ∃ Y, Y = (M.toList.take 0 ++ Lib.byteCells head.data.toList ++ M.toList.drop (0 + head.size)).toArray := ⟨_, rfl⟩
  rw [← hY] at hcp
  have hYs : Y.size = head.size + ps.size := by
    rw [← Array.length_toList, hY, List.toList_toArray]
    simp only [List.take_zero, List.nil_append, List.length_append, Lib.byteCells_length, List.length_drop, Array.length_toList]
    have e : head.data.size = head.size := rfl
    rw [e, hMs]; omega
  have hYt : Y.toList.take head.size = Lib.byteCells head.data.toList := by
    rw [hY, List.toList_toArray, List.take_zero, List.nil_append, List.take_append_of_le_length (by rw [Lib.byteCells_length, ← rt_size]; exact Nat.le_refl _), List.take_of_length_le (by rw [Lib.byteCells_length, ← rt_size]; exact Nat.le_refl _)]
  have hgY : ((w.alloc (.cells M 5)).setRow w.heap.size Y).heap[w.heap.size]? = some (.cells Y 5 (0, 0)) := setRow_heap _ _ M _ 5 (0, 0) (heap_alloc_new w _)
  have hb1 : Below w.heap.size w ((w.alloc (.cells M 5)).setRow w.heap.size Y) := ((Below.refl _ w).alloc (Nat.le_refl _) _).trans ⟨rfl, rfl, rfl, by simp, fun k hk => setRow_other _ _ _ _ (by omega)⟩
  clear hY
  have HB1 : Hid (Below w.heap.size w ((w.alloc (.cells M 5)).setRow w.heap.size Y)) := hb1
  by_cases h0 : ps.size = 0
  · have hpe : ps = ByteArray.empty := ByteArray.ext (Array.eq_empty_of_size_eq_zero h0)
    have hap : head ++ ps = head := by
      rw [hpe]; apply rt_ext; rw [ByteArray.data_append, Array.toList_append]; simp
    rw [hap]
    have hYl : Y.toList = Lib.byteCells head.data.toList := by rw [← hYt, List.take_of_length_le (by rw [Array.length_toList]; omega)]
    have hcv := row_string hgY hYl (head.size)
    have hcp2 : ∀ d a c c', (Builtin.copy_ #[22, 22] 3 #[.slice d 0 c, .slice a 0 c']).run Try.prog ((w.alloc (.cells M 5)).setRow w.heap.size Y) = .ok (goInt 0) ((w.alloc (.cells M 5)).setRow w.heap.size Y) := fun d a c c' => run_copy_none _ 22 22 3 5 d a 0 c 0 c' Try.underlying22 hinfo (by simp)
    simp only [h0, Nat.add_zero, Int.add_zero, Int.natCast_zero] at hmk hcp hcp2 ⊢
    clear hap hpe hYl hYt hgY hb1 hYs hMs h0 hP hi hz0 hz1 hz2 hinfo
    go_enter Try.func39, Try.ntmps39
    go_wp2
    go_ret
    exact ⟨rfl, HB1.out⟩
  · have hl : (Lib.byteCells ps.data.toList).length = ps.size := by rw [Lib.byteCells_length, ← rt_size]
    have hcell : ∀ j v, (Lib.byteCells ps.data.toList)[j]? = some v → ((w.alloc (.cells M 5)).setRow w.heap.size Y).cell? ((⟨gb, po, none⟩ : Addr).add j) = some v := fun j v hj => by
      unfold Lib.byteCells at hj
      rw [List.getElem?_map] at hj
      obtain ⟨x, hx, rfl⟩ := Option.map_eq_some_iff.1 hj
      have h1 := (hP.out.later hb1).2 j x hx
      have hadd : (⟨gb, po, none⟩ : Addr).add j = ⟨gb, po + j, none⟩ := by unfold Addr.add; split <;> simp_all
      rw [hadd]
      exact h1
    have hcp2 := run_copy_row (P := Try.prog) ((w.alloc (.cells M 5)).setRow w.heap.size Y) 22 22 3 5 w.heap.size head.size ps.size ps.size ⟨gb, po, none⟩ ps.size pc Y 5 (Lib.byteCells ps.data.toList) Try.underlying22 hinfo hgY (by rw [hl]; simp) hcell (by rw [hl]; omega) (Lib.byteCells_one _)
    obtain ⟨Z, hZ⟩ : ∃ Z, Z = (Y.toList.take head.size ++ Lib.byteCells ps.data.toList ++ Y.toList.drop (head.size + (Lib.byteCells ps.data.toList).length)).toArray := ⟨_, rfl⟩
    rw [← hZ, hl] at hcp2
    have hZl : Z.toList = Lib.byteCells (head ++ ps).data.toList := by
      rw [hZ, List.toList_toArray, hYt, hl, List.drop_of_length_le (by rw [Array.length_toList]; omega), List.append_nil]
      unfold Lib.byteCells
      rw [← List.map_append, ByteArray.data_append, Array.toList_append]
    have hgZ : (((w.alloc (.cells M 5)).setRow w.heap.size Y).setRow w.heap.size Z).heap[w.heap.size]? = some (.cells Z 5 (0, 0)) := setRow_heap _ _ Y _ 5 (0, 0) hgY
    have hcv := row_string hgZ hZl (head.size + ps.size)
    rw [show (head ++ ps).size = head.size + ps.size by rw [rt_size, ByteArray.data_append, Array.toList_append, List.length_append, ← rt_size, ← rt_size]] at hcv
    have HB2 : Hid (Below w.heap.size w (((w.alloc (.cells M 5)).setRow w.heap.size Y).setRow w.heap.size Z)) := hb1.trans ⟨rfl, rfl, rfl, by simp, fun k hk => setRow_other _ _ _ _ (by omega)⟩
    have i1 : (head.size : Int) ≤ (head.size : Int) + (ps.size : Int) := by omega
    have hcap : 0 < ps.size := Nat.pos_of_ne_zero h0
    clear hZ hZl hgZ hl hcell hYt hgY hb1 hYs hMs hP hi hz0 hz1 hz2 hinfo HB1 h0
    go_enter Try.func39, Try.ntmps39
    go_wp2
    go_ret
    exact ⟨rfl, HB2.out⟩
end Go.Proofs.Ytfefjkldjaabbaa

