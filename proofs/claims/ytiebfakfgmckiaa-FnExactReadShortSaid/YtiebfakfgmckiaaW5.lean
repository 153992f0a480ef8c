/- The walks over strings.Clone and ReadShort, of the program and of the specification, and the law on ReadShort. -/
import Derived.Test.YtiebfakfgmckiaaL2
import Derived.Lib.Strings
import Derived.Lib.BufferWrite
import Derived.Lib.UnsafeStr
import Derived.Laws.MakeOwn
namespace Go.Proofs.Ytiebfakfgmckiaa
open Go.RowKit Pl
set_option linter.unusedVariables false

theorem Try.cells5 : Try.prog.cellsOf 5 = 1 := by kernel_rfl

set_option maxHeartbeats 1000000 in
set_option maxRecDepth 100000 in
theorem cloneLite (s : ByteArray) (w : World) (hlim : s.size ≤ 1048576) :
    Calls Try.prog 31 #[.string s] w fun e w' => e = .returned (.string s) ∧ Below w.heap.size w w' := by
  by_cases h0 : s.size = 0
  · obtain rfl : s = ⟨#[]⟩ := ByteArray.ext (Array.eq_empty_of_size_eq_zero h0)
    go_enter Try.func31, Try.ntmps31
    go_wp2
    go_ret
    exact ⟨rfl, Below.refl _ _⟩
  · obtain ⟨i0, hi, hz0, hz1, hz2⟩ := info_parts Try.info5
    have hinfo : (Try.prog.info? 5).map (·.size) = some 1 := by rw [hi]; simp [hz1]
    obtain ⟨M, hM⟩ : ∃ M, M = madeCells (Value.int .u8 0).cells (((s.size : Nat) : Int).toNat * i0.size) := ⟨_, rfl⟩
    have hMs : M.size = s.size := by rw [hM, size_madeCells, hz1]; simp
    have hmk : ∀ W : World, (Instr.makeSlice 36 (.int .i64 (s.size : Int)) (.int .i64 (s.size : Int))).run Try.prog W = .ok (.slice (some ⟨W.heap.size, 0, none⟩) s.size s.size) (W.alloc (.cells M 5)) := fun W => by
      have h := run_make (P := Try.prog) W 36 5 i0 (.int .u8 0) Try.underlying36 hi hz0 .i64 .i64 (s.size : Int) (s.size : Int) (by omega) (by omega) (by rw [hz2]; omega) (by omega)
      rw [← hM] at h
      simpa using h
    clear hM
    have hcp := Lib.run_copy_row_string (P := Try.prog) (w.alloc (.cells M 5)) 36 9 3 5 w.heap.size 0 s.size s.size s M 5 Try.underlying36 hinfo (heap_alloc_new w _) (Nat.le_refl _) (by omega)
    obtain ⟨Y, hY⟩ : ∃ Y, Y = (M.toList.take 0 ++ Lib.byteCells s.data.toList ++ M.toList.drop (0 + s.size)).toArray := ⟨_, rfl⟩
    rw [← hY] at hcp
    have hYl : Y.toList = Lib.byteCells s.data.toList := by
      rw [hY, List.toList_toArray, List.take_zero, List.nil_append, List.drop_of_length_le (by rw [Array.length_toList]; omega), List.append_nil]
    have hYs : Y.size = s.size := by rw [← Array.length_toList, hYl, Lib.byteCells_length, ← Lib.size_eq]
    have hgY : ((w.alloc (.cells M 5)).setRow w.heap.size Y).heap[w.heap.size]? = some (.cells Y 5 (0, 0)) := setRow_heap _ _ M _ 5 (0, 0) (heap_alloc_new w _)
    have hne : s.data.toList ≠ [] := fun e => h0 (by rw [Lib.size_eq, e]; rfl)
    have hUS := Lib.run_unsafeString_row (P := Try.prog) ((w.alloc (.cells M 5)).setRow w.heap.size Y) 42 3 9 5 Try.underlying42 Try.cells5 w.heap.size Y.size (by unfold World.shape?; rw [hgY]) s.data.toList hne (by rw [← Lib.size_eq]; omega) (by rw [← Lib.size_eq]; omega)
      (fun j x hx => Lib.cells_of_row hgY Y.size j _ (by rw [List.take_of_length_le (by rw [Array.length_toList]; exact Nat.le_refl _), hYl]; simp [Lib.byteCells, hx]))
    rw [← Lib.size_eq] at hUS
    clear hY
    go_enter Try.func31, Try.ntmps31
    go_wp2
    go_ret
    have hb1 : Below w.heap.size w (w.alloc (.cells M 5)) := (Below.refl _ w).alloc (Nat.le_refl _) _
    have hb2 : Below w.heap.size (w.alloc (.cells M 5)) ((w.alloc (.cells M 5)).setRow w.heap.size Y) := ⟨rfl, rfl, rfl, by simp, fun k hk => setRow_other _ _ _ _ (by omega)⟩
    exact ⟨rfl, Lib.below_freeze (hb1.trans hb2) (p := ⟨w.heap.size, 0, none⟩) (Nat.le_refl _) _⟩

set_option maxHeartbeats 400000 in
theorem clone_any (s : ByteArray) (w : World) (hlim : s.size ≤ 1048576) :
    Calls Try.prog 26 #[.string s] w fun e w' => e = .returned (.string s) ∧ Below w.heap.size w w' := by
  go_enter Try.func26, Try.ntmps26
  go_wp2_with (first | (go_at_call 31; refine (cloneLite s _ hlim).mono ?_; rintro e w1 ⟨rfl, hb1⟩))
  go_ret
  exact ⟨rfl, hb1⟩

theorem rvGo_le : ∀ (f : Nat) (l : List UInt8) (fst : Bool) (n sc i m j : Nat), rvGo f l fst n sc i = some (m, j) → m ≤ 1000000000 ∧ j ≤ i + l.length ∧ i < j := by
  intro f
  induction f with
  | zero => intro l fst n sc i m j h; simp [rvGo] at h
  | succ f ih =>
    intro l fst n sc i m j h
    cases l with
    | nil => simp [rvGo] at h
    | cons c cs =>
      rw [rvGo] at h
      by_cases h1 : 127 < c.toNat
      · rw [if_pos h1] at h
        have := ih _ _ _ _ _ _ _ h
        simp only [List.length_cons]
        omega
      · rw [if_neg h1] at h
        by_cases h2 : (c.toNat = 0 ∧ fst = false) ∨ 1000000000 < n + c.toNat % 128 * sc
        · rw [if_pos h2] at h
          cases h
        · rw [if_neg h2] at h
          simp only [Option.some.injEq, Prod.mk.injEq] at h
          obtain ⟨rfl, rfl⟩ := h
          simp only [List.length_cons]
          exact ⟨Nat.le_of_not_lt fun h3 => h2 (.inr h3), by omega, by omega⟩

theorem rv_le {s : ByteArray} {A n i : Nat} (hA : A ≤ s.size) (h : rv s A = some (n, i)) : n ≤ 1000000000 ∧ i ≤ s.size ∧ A < i := by
  have := rvGo_le _ _ _ _ _ _ _ _ h
  have e : s.data.toList.length = s.size := rfl
  rw [List.length_drop, e] at this
  omega

set_option maxHeartbeats 400000 in
theorem specRs_none (s : ByteArray) (A : Nat) (w : World) (hs : s.size ≤ 1048576) (hA : A ≤ s.size) (h : Hid (rv s A = none)) :
    Calls Try.prog 16 #[.string s, .int .i64 A] w fun e w' => e = .returned (.tuple #[.string ByteArray.empty, .int .i64 0, .bool false]) ∧ Below w.heap.size w w' := by
  go_enter Try.func16, Try.ntmps16
  go_wp2_with (first | (go_at_call 12; refine (specRv_none s A _ (by omega) hA h.out).mono ?_; rintro e w1 ⟨rfl, hb1⟩))
  go_ret3
  exact ⟨rfl, hb1⟩
set_option maxHeartbeats 400000 in
theorem implRs_none (s : ByteArray) (A : Nat) (w : World) (hs : s.size ≤ 1048576) (hA : A ≤ s.size) (h : Hid (rv s A = none)) :
    Calls Try.prog 17 #[.string s, .int .i64 A] w fun e w' => e = .returned (.tuple #[.string ByteArray.empty, .int .i64 0, .bool false]) ∧ Below w.heap.size w w' := by
  go_enter Try.func17, Try.ntmps17
  go_wp2_with (first | (go_at_call 13; refine (implRv_none s A _ (by omega) hA h.out).mono ?_; rintro e w1 ⟨rfl, rfl⟩))
  go_ret3
  exact ⟨rfl, Below.refl _ _⟩
set_option maxHeartbeats 400000 in
theorem specRs_far (s : ByteArray) (a : Int) (w : World) (ha : a < 0 ∨ s.size < a) :
    Calls Try.prog 16 #[.string s, .int .i64 a] w fun e w' => e = .returned (.tuple #[.string ByteArray.empty, .int .i64 0, .bool false]) ∧ Below w.heap.size w w' := by
  go_enter Try.func16, Try.ntmps16
  go_wp2_with (first | (go_at_call 12; refine (specRv_far s a _ ha).mono ?_; rintro e w1 ⟨rfl, rfl⟩))
  go_ret3
  exact ⟨rfl, Below.refl _ _⟩
set_option maxHeartbeats 400000 in
theorem implRs_far (s : ByteArray) (a : Int) (w : World) (hs : s.size ≤ 1048576) (ha : a < 0 ∨ s.size < a) :
    Calls Try.prog 17 #[.string s, .int .i64 a] w fun e w' => e = .returned (.tuple #[.string ByteArray.empty, .int .i64 0, .bool false]) ∧ Below w.heap.size w w' := by
  go_enter Try.func17, Try.ntmps17
  go_wp2_with (first | (go_at_call 13; refine (implRv_far s a _ hs ha).mono ?_; rintro e w1 ⟨rfl, rfl⟩))
  go_ret3
  exact ⟨rfl, Below.refl _ _⟩
set_option maxHeartbeats 400000 in
theorem specRs_bad (s : ByteArray) (A n i : Nat) (w : World) (hs : s.size ≤ 1048576) (hA : A ≤ s.size) (h : Hid (rv s A = some (n, i))) (hi : i ≤ s.size) (hn : n ≤ 1000000000) (hbad : 20000 < n ∨ s.size < i + n) :
    Calls Try.prog 16 #[.string s, .int .i64 A] w fun e w' => e = .returned (.tuple #[.string ByteArray.empty, .int .i64 0, .bool false]) ∧ Below w.heap.size w w' := by
  by_cases h1 : 20000 < n
  · go_enter Try.func16, Try.ntmps16
    go_wp2_with (first | (go_at_call 12; refine (specRv_some s A n i _ (by omega) hA h.out).mono ?_; rintro e w1 ⟨rfl, hb1⟩))
    go_ret3
    exact ⟨rfl, hb1⟩
  · have h2 : s.size < i + n := by omega
    clear hbad
    go_enter Try.func16, Try.ntmps16
    go_wp2_with (first | (go_at_call 12; refine (specRv_some s A n i _ (by omega) hA h.out).mono ?_; rintro e w1 ⟨rfl, hb1⟩))
    go_ret3
    exact ⟨rfl, hb1⟩
set_option maxHeartbeats 400000 in
theorem implRs_bad (s : ByteArray) (A n i : Nat) (w : World) (hs : s.size ≤ 1048576) (hA : A ≤ s.size) (h : Hid (rv s A = some (n, i))) (hi : i ≤ s.size) (hn : n ≤ 1000000000) (hbad : 20000 < n ∨ s.size < i + n) :
    Calls Try.prog 17 #[.string s, .int .i64 A] w fun e w' => e = .returned (.tuple #[.string ByteArray.empty, .int .i64 0, .bool false]) ∧ Below w.heap.size w w' := by
  by_cases h1 : 20000 < n
  · go_enter Try.func17, Try.ntmps17
    go_wp2_with (first | (go_at_call 13; refine (implRv_some s A n i _ (by omega) hA h.out).mono ?_; rintro e w1 ⟨rfl, rfl⟩))
    go_ret3
    exact ⟨rfl, Below.refl _ _⟩
  · have h2 : s.size < i + n := by omega
    clear hbad
    go_enter Try.func17, Try.ntmps17
    go_wp2_with (first | (go_at_call 13; refine (implRv_some s A n i _ (by omega) hA h.out).mono ?_; rintro e w1 ⟨rfl, rfl⟩))
    go_ret3
    exact ⟨rfl, Below.refl _ _⟩
set_option maxHeartbeats 400000 in
theorem specRs_good (s : ByteArray) (A n i : Nat) (w : World) (hs : s.size ≤ 1048576) (hA : A ≤ s.size) (h : Hid (rv s A = some (n, i))) (hn : n ≤ 20000) (hi : i + n ≤ s.size) :
    Calls Try.prog 16 #[.string s, .int .i64 A] w fun e w' => e = .returned (.tuple #[.string (s.extract i (i + n)), .int .i64 ((i : Int) + (n : Int)), .bool true]) ∧ Below w.heap.size w w' := by
  go_enter Try.func16, Try.ntmps16
  go_wp2_with (first | (go_at_call 12; refine (specRv_some s A n i _ (by omega) hA h.out).mono ?_; rintro e w1 ⟨rfl, hb1⟩))
  go_ret3
  exact ⟨rfl, hb1⟩
set_option maxHeartbeats 400000 in
theorem implRs_good (s : ByteArray) (A n i : Nat) (w : World) (hs : s.size ≤ 1048576) (hA : A ≤ s.size) (h : Hid (rv s A = some (n, i))) (hn : n ≤ 20000) (hi : i + n ≤ s.size) :
    Calls Try.prog 17 #[.string s, .int .i64 A] w fun e w' => e = .returned (.tuple #[.string (s.extract i (i + n)), .int .i64 ((i : Int) + (n : Int)), .bool true]) ∧ Below w.heap.size w w' := by
  have hex : (s.extract i (i + n)).size ≤ 1048576 := by rw [ByteArray.size_extract]; omega
  go_enter Try.func17, Try.ntmps17
  go_wp2_with (first | (go_at_call 13; refine (implRv_some s A n i _ (by omega) hA h.out).mono ?_; rintro e w1 ⟨rfl, rfl⟩) | (go_at_call 26; refine (clone_any _ _ hex).mono ?_; rintro e w2 ⟨rfl, hb2⟩))
  go_ret3
  exact ⟨rfl, hb2⟩

set_option maxHeartbeats 400000 in
theorem lawRs (s : ByteArray) (a : Int) (w : World) (hs : s.size ≤ maxLen) :
    Calls Try.prog 6 #[.string s, .int .i64 a] w fun e w' => e = .returned (.bool true) ∧ Below w.heap.size w w' := by
  unfold maxLen at hs
  by_cases hl : 1048576 < s.size
  · go_enter Try.func6, Try.ntmps6
    go_wp2
    go_ret
    exact ⟨rfl, Below.refl _ _⟩
  · have hs2 : s.size ≤ 1048576 := by omega
    by_cases ha : 0 ≤ a ∧ a ≤ s.size
    · obtain ⟨A, rfl⟩ : ∃ A : Nat, a = A := ⟨a.toNat, by omega⟩
      have hA : A ≤ s.size := by omega
      clear ha
      rcases hr : rv s A with _ | ⟨n, i⟩
      · have HR : Hid (rv s A = none) := hr
        clear hr
        go_enter Try.func6, Try.ntmps6
        go_wp2_with (first | (go_at_call 16; refine (specRs_none s A _ hs2 hA HR).mono ?_; rintro e w1 ⟨rfl, hb1⟩) | (go_at_call 17; refine (implRs_none s A _ hs2 hA HR).mono ?_; rintro e w2 ⟨rfl, hb2⟩))
        go_ret
        exact ⟨rfl, hb1.trans (hb2.mono hb1.size)⟩
      · obtain ⟨hn, hi, _⟩ := rv_le hA hr
        have HR : Hid (rv s A = some (n, i)) := hr
        clear hr
        by_cases hg : n ≤ 20000 ∧ i + n ≤ s.size
        · obtain ⟨hg1, hg2⟩ := hg
          go_enter Try.func6, Try.ntmps6
          go_wp2_with (first | (go_at_call 16; refine (specRs_good s A n i _ hs2 hA HR hg1 hg2).mono ?_; rintro e w1 ⟨rfl, hb1⟩) | (go_at_call 17; refine (implRs_good s A n i _ hs2 hA HR hg1 hg2).mono ?_; rintro e w2 ⟨rfl, hb2⟩))
          go_ret
          exact ⟨rfl, hb1.trans (hb2.mono hb1.size)⟩
        · have hbad : 20000 < n ∨ s.size < i + n := by omega
          clear hg
          go_enter Try.func6, Try.ntmps6
          go_wp2_with (first | (go_at_call 16; refine (specRs_bad s A n i _ hs2 hA HR hi hn hbad).mono ?_; rintro e w1 ⟨rfl, hb1⟩) | (go_at_call 17; refine (implRs_bad s A n i _ hs2 hA HR hi hn hbad).mono ?_; rintro e w2 ⟨rfl, hb2⟩))
          go_ret
          exact ⟨rfl, hb1.trans (hb2.mono hb1.size)⟩
    · have ha' : a < 0 ∨ s.size < a := by omega
      clear ha
      go_enter Try.func6, Try.ntmps6
      go_wp2_with (first | (go_at_call 16; refine (specRs_far s a _ ha').mono ?_; rintro e w1 ⟨rfl, hb1⟩) | (go_at_call 17; refine (implRs_far s a _ hs2 ha').mono ?_; rintro e w2 ⟨rfl, hb2⟩))
      go_ret
      exact ⟨rfl, hb1.trans (hb2.mono hb1.size)⟩
end Go.Proofs.Ytiebfakfgmckiaa
