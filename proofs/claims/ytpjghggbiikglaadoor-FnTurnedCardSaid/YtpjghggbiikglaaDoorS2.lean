/- The walks over a sum's four bytes, strings.Clone, Sealed and Unsealed, of the program and of the specification, and the laws on Sealed and Unsealed. -/
import Derived.Test.YtpjghggbiikglaaDoorS1
import Derived.Test.YtpjghggbiikglaaDoorOwn
import Derived.Lib.Strings
import Derived.Lib.BufferWrite
import Derived.Lib.UnsafeStr
import Derived.Laws.MakeOwn
import Derived.Deep.RegionHeld3
import Derived.Deep.QuietTactic
import Derived.BigQuiet
namespace Go.Proofs.YtpjghggbiikglaaDoor
open Go.RowKit Pl
set_option linter.unusedVariables false

theorem Tryd.cells5 : Tryd.prog.cellsOf 5 = 1 := by kernel_rfl
theorem Tryd.info5 : (Tryd.prog.info? 5).map (fun i => (i.zero, i.size, i.bytes)) = some (some (.int .u8 0), 1, 1) := by kernel_rfl

set_option maxHeartbeats 1000000 in
set_option maxRecDepth 100000 in
theorem cloneLite (s : ByteArray) (w : World) (hlim : s.size ≤ 1048576) :
    Calls Tryd.prog 27 #[.string s] w fun e w' => e = .returned (.string s) ∧ Below w.heap.size w w' := by
  by_cases h0 : s.size = 0
  · obtain rfl : s = ⟨#[]⟩ := ByteArray.ext (Array.eq_empty_of_size_eq_zero h0)
    go_enter Tryd.func27, Tryd.ntmps27
    go_wp2
    go_ret
    exact ⟨rfl, Below.refl _ _⟩
  · obtain ⟨i0, hi, hz0, hz1, hz2⟩ := info_parts Tryd.info5
    have hinfo : (Tryd.prog.info? 5).map (·.size) = some 1 := by rw [hi]; simp [hz1]
    obtain ⟨M, hM⟩ : ∃ M, M = madeCells (Value.int .u8 0).cells (((s.size : Nat) : Int).toNat * i0.size) := ⟨_, rfl⟩
    have hMs : M.size = s.size := by rw [hM, size_madeCells, hz1]; simp
    have hmk : ∀ W : World, (Instr.makeSlice 22 (.int .i64 (s.size : Int)) (.int .i64 (s.size : Int))).run Tryd.prog W = .ok (.slice (some ⟨W.heap.size, 0, none⟩) s.size s.size) (W.alloc (.cells M 5)) := fun W => by
      have h := run_make (P := Tryd.prog) W 22 5 i0 (.int .u8 0) Tryd.underlying22 hi hz0 .i64 .i64 (s.size : Int) (s.size : Int) (by omega) (by omega) (by rw [hz2]; omega) (by omega)
      rw [← hM] at h
      simpa using h
    clear hM
    have hcp := Lib.run_copy_row_string (P := Tryd.prog) (w.alloc (.cells M 5)) 22 9 3 5 w.heap.size 0 s.size s.size s M 5 Tryd.underlying22 hinfo (heap_alloc_new w _) (Nat.le_refl _) (by omega)
    obtain ⟨Y, hY⟩ : ∃ Y, Y = (M.toList.take 0 ++ Lib.byteCells s.data.toList ++ M.toList.drop (0 + s.size)).toArray := ⟨_, rfl⟩
    rw [← hY] at hcp
    have hYl : Y.toList = Lib.byteCells s.data.toList := by
      rw [hY, List.toList_toArray, List.take_zero, List.nil_append, List.drop_of_length_le (by rw [Array.length_toList]; omega), List.append_nil]
    have hYs : Y.size = s.size := by rw [← Array.length_toList, hYl, Lib.byteCells_length, ← Lib.size_eq]
    have hgY : ((w.alloc (.cells M 5)).setRow w.heap.size Y).heap[w.heap.size]? = some (.cells Y 5 (0, 0)) := setRow_heap _ _ M _ 5 (0, 0) (heap_alloc_new w _)
    have hne : s.data.toList ≠ [] := fun e => h0 (by rw [Lib.size_eq, e]; rfl)
    have hUS := Lib.run_unsafeString_row (P := Tryd.prog) ((w.alloc (.cells M 5)).setRow w.heap.size Y) 48 3 9 5 Tryd.underlying48 Tryd.cells5 w.heap.size Y.size (by unfold World.shape?; rw [hgY]) s.data.toList hne (by rw [← Lib.size_eq]; omega) (by rw [← Lib.size_eq]; omega)
      (fun j x hx => Lib.cells_of_row hgY Y.size j _ (by rw [List.take_of_length_le (by rw [Array.length_toList]; exact Nat.le_refl _), hYl]; simp [Lib.byteCells, hx]))
    rw [← Lib.size_eq] at hUS
    clear hY
    go_enter Tryd.func27, Tryd.ntmps27
    go_wp2
    go_ret
    have hb1 : Below w.heap.size w (w.alloc (.cells M 5)) := (Below.refl _ w).alloc (Nat.le_refl _) _
    have hb2 : Below w.heap.size (w.alloc (.cells M 5)) ((w.alloc (.cells M 5)).setRow w.heap.size Y) := ⟨rfl, rfl, rfl, by simp, fun k hk => setRow_other _ _ _ _ (by omega)⟩
    exact ⟨rfl, Lib.below_freeze (hb1.trans hb2) (p := ⟨w.heap.size, 0, none⟩) (Nat.le_refl _) _⟩

set_option maxHeartbeats 400000 in
theorem clone_any (s : ByteArray) (w : World) (hlim : s.size ≤ 1048576) :
    Calls Tryd.prog 24 #[.string s] w fun e w' => e = .returned (.string s) ∧ Below w.heap.size w w' := by
  go_enter Tryd.func24, Tryd.ntmps24
  go_wp2_with (first | (go_at_call 27; refine (cloneLite s _ hlim).mono ?_; rintro e w1 ⟨rfl, hb1⟩))
  go_ret
  exact ⟨rfl, hb1⟩


theorem below_drewN {B : Nat} {a w : World} (h : Below B a w) (n : Nat) : Below B a (w.drewN n) := h.trans ⟨rfl, rfl, rfl, Nat.le_refl _, fun _ _ => rfl⟩

theorem strOf_four {w : World} {a b c d : Int} : (convert 22 9 (.slice (some ⟨w.heap.size, 0, none⟩) 4 4)).run Tryd.prog (w.alloc (.cells #[.int .u8 a, .int .u8 b, .int .u8 c, .int .u8 d] 5)) = .ok (.string (strOfNums [a, b, c, d])) (w.alloc (.cells #[.int .u8 a, .int .u8 b, .int .u8 c, .int .u8 d] 5)) := by
  refine run_convert_bytes_arg _ 22 5 Tryd.underlying22 Tryd.underlying5 w.heap.size 0 4 4 [a, b, c, d] rfl ?_ 9 Tryd.underlying9
  intro i hi
  have : i = 0 ∨ i = 1 ∨ i = 2 ∨ i = 3 := by omega
  rcases this with rfl | rfl | rfl | rfl <;> simp

theorem four_lit (x : Nat) (hx : x < 4294967296) : strOfNums [(x : Int) / 16777216, (x : Int) / 65536 % 256, (x : Int) / 256 % 256, (x : Int) % 256] = fourS x := by
  have h : (x : Int) / 16777216 = ((x / 16777216 % 256 : Nat) : Int) := by omega
  rw [h]; rfl

set_option maxHeartbeats 400000 in
theorem seal_any (x : Nat) (w : World) (hx : x < 4294967296) :
    Calls Tryd.prog 23 #[.int .u32 x] w fun e w' => e = .returned (.string (fourS x)) ∧ Below w.heap.size w w' := by
  have hone := fun a b c d => strOf_four (w := w) (a := a) (b := b) (c := c) (d := d)
  go_enter Tryd.func23, Tryd.ntmps23
  go_wp2
  go_ret
  exact ⟨by rw [← four_lit x hx]; rfl, (Below.refl _ _).alloc (Nat.le_refl _) _⟩

set_option maxHeartbeats 400000 in
theorem four_any (x : Nat) (w : World) (hx : x < 4294967296) :
    Calls Tryd.prog 26 #[.int .u32 x] w fun e w' => e = .returned (.string (fourS x)) ∧ Below w.heap.size w w' := by
  have hone := fun a b c d => strOf_four (w := w) (a := a) (b := b) (c := c) (d := d)
  go_enter Tryd.func26, Tryd.ntmps26
  go_wp2
  go_ret
  exact ⟨by rw [← four_lit x hx]; rfl, (Below.refl _ _).alloc (Nat.le_refl _) _⟩

set_option maxRecDepth 100000 in
set_option maxHeartbeats 400000 in
theorem implSeal_long (t : ByteArray) (w : World) (hl : 20000 < t.size) :
    Calls Tryd.prog 11 #[.string t] w fun e w' => e = .returned (.tuple #[.string ByteArray.empty, .bool false]) ∧ Below w.heap.size w w' := by
  go_enter Tryd.func11, Tryd.ntmps11
  go_wp2
  go_ret2
  exact ⟨rfl, Below.refl _ _⟩
set_option maxRecDepth 100000 in
set_option maxHeartbeats 400000 in
theorem specSeal_long (t : ByteArray) (w : World) (hl : 20000 < t.size) :
    Calls Tryd.prog 17 #[.string t] w fun e w' => e = .returned (.tuple #[.string ByteArray.empty, .bool false]) ∧ Below w.heap.size w w' := by
  go_enter Tryd.func17, Tryd.ntmps17
  go_wp2
  go_ret2
  exact ⟨rfl, Below.refl _ _⟩
set_option maxRecDepth 100000 in
set_option maxHeartbeats 400000 in
theorem implSeal_any (t : ByteArray) (w : World) (hl : t.size ≤ 20000) (ht : Hid (Tab w)) :
    Calls Tryd.prog 11 #[.string t] w fun e w' => e = .returned (.tuple #[.string (sealS t), .bool true]) ∧ Below w.heap.size w w' := by
  have h4 := fourS_size (sumT t)
  have hlt := sumT_lt t
  go_enter Tryd.func11, Tryd.ntmps11
  go_wp2_with (first | (go_at_call 14; refine (implOf t _ (by omega) ht).mono ?_; rintro e w1 ⟨rfl, rfl⟩) | (go_at_call 23; refine (seal_any _ _ hlt).mono ?_; rintro e w2 ⟨rfl, hb2⟩))
  go_ret2
  exact ⟨rfl, hb2⟩
set_option maxRecDepth 100000 in
set_option maxHeartbeats 400000 in
theorem specSeal_any (t : ByteArray) (w : World) (hl : t.size ≤ 20000) :
    Calls Tryd.prog 17 #[.string t] w fun e w' => e = .returned (.tuple #[.string (sealS t), .bool true]) ∧ Below w.heap.size w w' := by
  have h4 := fourS_size (sumT t)
  have hlt := sumT_lt t
  go_enter Tryd.func17, Tryd.ntmps17
  go_wp2_with (first | (go_at_call 16; refine (specOf t _ (by omega)).mono ?_; rintro e w1 ⟨rfl, rfl⟩) | (go_at_call 26; refine (four_any _ _ hlt).mono ?_; rintro e w2 ⟨rfl, hb2⟩))
  go_ret2
  exact ⟨rfl, hb2⟩

set_option maxRecDepth 100000 in
set_option maxHeartbeats 400000 in
theorem lawSeal (t : ByteArray) (w : World) (hs : t.size ≤ maxLen) (ht : Hid (Tab w)) :
    Calls Tryd.prog 6 #[.string t] w fun e w' => e = .returned (.bool true) ∧ Below w.heap.size w w' := by
  unfold maxLen at hs
  by_cases hl : 1048576 < t.size
  · go_enter Tryd.func6, Tryd.ntmps6
    go_wp2
    go_ret
    exact ⟨rfl, Below.refl _ _⟩
  · by_cases hl2 : 20000 < t.size
    · go_enter Tryd.func6, Tryd.ntmps6
      go_wp2_with (first | (go_at_call 17; refine (specSeal_long t _ hl2).mono ?_; rintro e w1 ⟨rfl, hb1⟩) | (go_at_call 11; refine (implSeal_long t _ hl2).mono ?_; rintro e w2 ⟨rfl, hb2⟩))
      go_ret
      exact ⟨rfl, hb1.trans (hb2.mono hb1.size)⟩
    · have hl3 : t.size ≤ 20000 := by omega
      go_enter Tryd.func6, Tryd.ntmps6
      go_wp2_with (first | (go_at_call 17; refine (specSeal_any t _ hl3).mono ?_; rintro e w1 ⟨rfl, hb1⟩) | (go_at_call 11; refine (implSeal_any t _ hl3 (show Hid (Tab _) from ht.out.below hb1)).mono ?_; rintro e w2 ⟨rfl, hb2⟩))
      go_ret
      exact ⟨rfl, hb1.trans (hb2.mono hb1.size)⟩

theorem cmp_yes {t : ByteArray} {n : Nat} (hn : t.size = n + 4) (h : (!(t.extract n t.size).toList == (fourS (sumT (t.extract 0 n))).toList) = false) : IsSeal t := by
  have h1 : (t.extract n t.size).toList = (fourS (sumT (t.extract 0 n))).toList := by simpa using h
  unfold IsSeal
  rw [show t.size - 4 = n by omega]
  rw [ByteArray.toList_eq, ByteArray.toList_eq] at h1
  exact ext_list h1
theorem cmp_no {t : ByteArray} {n : Nat} (hn : t.size = n + 4) (h : (!(t.extract n t.size).toList == (fourS (sumT (t.extract 0 n))).toList) = true) : ¬ IsSeal t := by
  intro hg
  unfold IsSeal at hg
  rw [show t.size - 4 = n by omega] at hg
  rw [hg] at h
  simp at h

/-- what Unsealed answers of a text of n bytes and four more. -/
def UnAns (t : ByteArray) (n : Nat) (e : Ending) : Prop :=
  (IsSeal t ∧ e = .returned (.tuple #[.string (t.extract 0 n), .bool true])) ∨ (¬ IsSeal t ∧ e = .returned (.tuple #[.string ByteArray.empty, .bool false]))

set_option maxRecDepth 100000 in
set_option maxHeartbeats 1000000 in
theorem implUn_short (t : ByteArray) (w : World) (hl : t.size < 4) :
    Calls Tryd.prog 12 #[.string t] w fun e w' => e = .returned (.tuple #[.string ByteArray.empty, .bool false]) ∧ Below w.heap.size w w' := by
  have hd : decide ((t.size : Int) - 4 < 0) = true := by simp; omega
  go_enter Tryd.func12, Tryd.ntmps12
  go_wp2
  skip
  go_ret2
  exact ⟨rfl, Below.refl _ _⟩
set_option maxRecDepth 100000 in
set_option maxHeartbeats 1000000 in
theorem implUn_long (t : ByteArray) (w : World) (hl : 20004 < t.size) (hs : t.size ≤ 1048576) :
    Calls Tryd.prog 12 #[.string t] w fun e w' => e = .returned (.tuple #[.string ByteArray.empty, .bool false]) ∧ Below w.heap.size w w' := by
  have hd : decide ((t.size : Int) - 4 < 0) = false := by simp; omega
  have hd2 : decide (20000 < (t.size : Int) - 4) = true := by simp; omega
  go_enter Tryd.func12, Tryd.ntmps12
  go_wp2
  skip
  go_ret2
  exact ⟨rfl, Below.refl _ _⟩

set_option maxRecDepth 100000 in
set_option maxHeartbeats 1000000 in
theorem specUn_short (t : ByteArray) (w : World) (hl : t.size < 4) :
    Calls Tryd.prog 18 #[.string t] w fun e w' => e = .returned (.tuple #[.string ByteArray.empty, .bool false]) ∧ Below w.heap.size w w' := by
  have hd : decide ((t.size : Int) - 4 < 0) = true := by simp; omega
  go_enter Tryd.func18, Tryd.ntmps18
  go_wp2
  go_quiet (fail)
  go_wp2
  go_ret2
  exact ⟨rfl, below_drewN (Below.refl _ _) _⟩
set_option maxRecDepth 100000 in
set_option maxHeartbeats 1000000 in
theorem specUn_long (t : ByteArray) (w : World) (hl : 20004 < t.size) (hs : t.size ≤ 1048576) :
    Calls Tryd.prog 18 #[.string t] w fun e w' => e = .returned (.tuple #[.string ByteArray.empty, .bool false]) ∧ Below w.heap.size w w' := by
  have hd : decide ((t.size : Int) - 4 < 0) = false := by simp; omega
  have hd2 : decide (20000 < (t.size : Int) - 4) = true := by simp; omega
  go_enter Tryd.func18, Tryd.ntmps18
  go_wp2
  go_quiet (fail)
  go_wp2
  go_ret2
  exact ⟨rfl, below_drewN (Below.refl _ _) _⟩

set_option maxRecDepth 100000 in
set_option maxHeartbeats 1000000 in
theorem implUn_mid (t : ByteArray) (n : Nat) (w : World) (hn : Hid (t.size = n + 4)) (hl : n ≤ 20000) (ht : Hid (Tab w)) :
    Calls Tryd.prog 12 #[.string t] w fun e w' => Hid (UnAns t n e) ∧ Below w.heap.size w w' := by
  have hw4 : IntKind.i64.wrap ((t.size : Int) - 4) = (n : Int) := by have := hn.out; rw [IntKind.wrap_i64]; omega
  have hd : decide ((n : Int) < 0) = false := by simp
  have hd2 : decide (20000 < (n : Int)) = false := by simp; omega
  have hi1 : (0 : Int) ≤ (n : Int) := by omega
  have hi2 : (n : Int) ≤ (t.size : Int) := by have := hn.out; omega
  have hxs : (t.extract 0 n).size ≤ 1048577 := by rw [ByteArray.size_extract]; omega
  have hxs2 : (t.extract 0 n).size ≤ 1048576 := by rw [ByteArray.size_extract]; omega
  have e4 : (t.size : Int) - 4 = (n : Int) := by have := hn.out; omega
  have htd : Hid (Tab w.drew) := ht.out
  go_enter Tryd.func12, Tryd.ntmps12
  go_wp2
  go_region_held3 (fun _ => True) (trivial) (first | (go_at_call 14; refine (implOf _ _ hxs (by exact htd)).mono ?_; rintro e w1 ⟨rfl, rfl⟩) | (go_at_call 23; refine (seal_any _ _ (sumT_lt _)).mono ?_; rintro e w2 ⟨rfl, hb2⟩))
  go_wp2_with (first | (go_at_call 24; refine (clone_any _ _ hxs2).mono ?_; rintro e w3 ⟨rfl, hb3⟩))
  · go_ret2
    exact ⟨(show UnAns _ _ _ from .inr ⟨cmp_no hn.out (by assumption), rfl⟩), (Below.refl _ w).drew.trans hb2⟩
  · go_ret2
    exact ⟨(show UnAns _ _ _ from .inl ⟨cmp_yes hn.out (by assumption), rfl⟩), ((Below.refl _ w).drew.trans hb2).trans (hb3.mono hb2.size)⟩

set_option maxRecDepth 100000 in
set_option maxHeartbeats 1000000 in
theorem specUn_mid (t : ByteArray) (n : Nat) (w : World) (hn : Hid (t.size = n + 4)) (hl : n ≤ 20000) :
    Calls Tryd.prog 18 #[.string t] w fun e w' => Hid (UnAns t n e) ∧ Below w.heap.size w w' := by
  have hw4 : IntKind.i64.wrap ((t.size : Int) - 4) = (n : Int) := by have := hn.out; rw [IntKind.wrap_i64]; omega
  have hd : decide ((n : Int) < 0) = false := by simp
  have hd2 : decide (20000 < (n : Int)) = false := by simp; omega
  have hi1 : (0 : Int) ≤ (n : Int) := by omega
  have hi2 : (n : Int) ≤ (t.size : Int) := by have := hn.out; omega
  have hxs : (t.extract 0 n).size ≤ 1048577 := by rw [ByteArray.size_extract]; omega
  have hxs2 : (t.extract 0 n).size ≤ 1048576 := by rw [ByteArray.size_extract]; omega
  have e4 : (t.size : Int) - 4 = (n : Int) := by have := hn.out; omega
  go_enter Tryd.func18, Tryd.ntmps18
  go_wp2
  go_region_held3 (fun _ => True) (trivial) (first | (go_at_call 16; refine (specOf _ _ hxs).mono ?_; rintro e w1 ⟨rfl, rfl⟩) | (go_at_call 26; refine (four_any _ _ (sumT_lt _)).mono ?_; rintro e w2 ⟨rfl, hb2⟩))
  go_wp2
  · go_ret2
    exact ⟨(show UnAns _ _ _ from .inr ⟨cmp_no hn.out (by assumption), rfl⟩), (Below.refl _ w).drew.trans hb2⟩
  · go_ret2
    exact ⟨(show UnAns _ _ _ from .inl ⟨cmp_yes hn.out (by assumption), rfl⟩), (Below.refl _ w).drew.trans hb2⟩

/-- what Unsealed answers of any text: its own answer, the same of both. -/
theorem unAns_same {t : ByteArray} {n : Nat} {e e' : Ending} (h : UnAns t n e) (h' : UnAns t n e') : e = e' := by
  rcases h with ⟨h1, rfl⟩ | ⟨h1, rfl⟩ <;> rcases h' with ⟨h2, rfl⟩ | ⟨h2, rfl⟩
  · rfl
  · exact absurd h1 h2
  · exact absurd h2 h1
  · rfl

theorem implUn_yes (t : ByteArray) (n : Nat) (w : World) (hn : t.size = n + 4) (hl : n ≤ 20000) (ht : Hid (Tab w)) (hg : Hid (IsSeal t)) :
    Calls Tryd.prog 12 #[.string t] w fun e w' => e = .returned (.tuple #[.string (t.extract 0 n), .bool true]) ∧ Below w.heap.size w w' :=
  (implUn_mid t n w hn hl ht).mono fun e w' h => ⟨unAns_same h.1.out (.inl ⟨hg.out, rfl⟩), h.2⟩
theorem implUn_no (t : ByteArray) (n : Nat) (w : World) (hn : t.size = n + 4) (hl : n ≤ 20000) (ht : Hid (Tab w)) (hg : Hid (¬ IsSeal t)) :
    Calls Tryd.prog 12 #[.string t] w fun e w' => e = .returned (.tuple #[.string ByteArray.empty, .bool false]) ∧ Below w.heap.size w w' :=
  (implUn_mid t n w hn hl ht).mono fun e w' h => ⟨unAns_same h.1.out (.inr ⟨hg.out, rfl⟩), h.2⟩
theorem specUn_yes (t : ByteArray) (n : Nat) (w : World) (hn : t.size = n + 4) (hl : n ≤ 20000) (hg : Hid (IsSeal t)) :
    Calls Tryd.prog 18 #[.string t] w fun e w' => e = .returned (.tuple #[.string (t.extract 0 n), .bool true]) ∧ Below w.heap.size w w' :=
  (specUn_mid t n w hn hl).mono fun e w' h => ⟨unAns_same h.1.out (.inl ⟨hg.out, rfl⟩), h.2⟩
theorem specUn_no (t : ByteArray) (n : Nat) (w : World) (hn : t.size = n + 4) (hl : n ≤ 20000) (hg : Hid (¬ IsSeal t)) :
    Calls Tryd.prog 18 #[.string t] w fun e w' => e = .returned (.tuple #[.string ByteArray.empty, .bool false]) ∧ Below w.heap.size w w' :=
  (specUn_mid t n w hn hl).mono fun e w' h => ⟨unAns_same h.1.out (.inr ⟨hg.out, rfl⟩), h.2⟩

set_option maxRecDepth 100000 in
set_option maxHeartbeats 1000000 in
theorem lawUn (t : ByteArray) (w : World) (hs : t.size ≤ maxLen) (ht : Hid (Tab w)) :
    Calls Tryd.prog 7 #[.string t] w fun e w' => e = .returned (.bool true) ∧ Below w.heap.size w w' := by
  unfold maxLen at hs
  by_cases hl : 1048576 < t.size
  · go_enter Tryd.func7, Tryd.ntmps7
    go_wp2
    go_ret
    exact ⟨rfl, Below.refl _ _⟩
  · by_cases hl2 : t.size < 4
    · go_enter Tryd.func7, Tryd.ntmps7
      go_wp2_with (first | (go_at_call 18; refine (specUn_short t _ hl2).mono ?_; rintro e w1 ⟨rfl, hb1⟩) | (go_at_call 12; refine (implUn_short t _ hl2).mono ?_; rintro e w2 ⟨rfl, hb2⟩))
      go_ret
      exact ⟨rfl, hb1.trans (hb2.mono hb1.size)⟩
    · by_cases hl3 : 20004 < t.size
      · go_enter Tryd.func7, Tryd.ntmps7
        go_wp2_with (first | (go_at_call 18; refine (specUn_long t _ hl3 (by omega)).mono ?_; rintro e w1 ⟨rfl, hb1⟩) | (go_at_call 12; refine (implUn_long t _ hl3 (by omega)).mono ?_; rintro e w2 ⟨rfl, hb2⟩))
        go_ret
        exact ⟨rfl, hb1.trans (hb2.mono hb1.size)⟩
      · obtain ⟨n, hn⟩ : ∃ n, n = t.size - 4 := ⟨_, rfl⟩
        have hn1 : Hid (t.size = n + 4) := by show _ = _; omega
        have hn2 : n ≤ 20000 := by omega
        clear hn
        by_cases hg : IsSeal t
        · have HG : Hid (IsSeal t) := hg
          clear hg
          go_enter Tryd.func7, Tryd.ntmps7
          go_wp2_with (first | (go_at_call 18; refine (specUn_yes t n _ hn1 hn2 HG).mono ?_; rintro e w1 ⟨rfl, hb1⟩) | (go_at_call 12; refine (implUn_yes t n _ hn1 hn2 (show Hid (Tab _) from ht.out.below hb1) HG).mono ?_; rintro e w2 ⟨rfl, hb2⟩))
          go_ret
          exact ⟨rfl, hb1.trans (hb2.mono hb1.size)⟩
        · have HG : Hid (¬ IsSeal t) := hg
          clear hg
          go_enter Tryd.func7, Tryd.ntmps7
          go_wp2_with (first | (go_at_call 18; refine (specUn_no t n _ hn1 hn2 HG).mono ?_; rintro e w1 ⟨rfl, hb1⟩) | (go_at_call 12; refine (implUn_no t n _ hn1 hn2 (show Hid (Tab _) from ht.out.below hb1) HG).mono ?_; rintro e w2 ⟨rfl, hb2⟩))
          go_ret
          exact ⟨rfl, hb1.trans (hb2.mono hb1.size)⟩
end Go.Proofs.YtpjghggbiikglaaDoor
