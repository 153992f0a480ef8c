/- The walks over ShortText, of the program and of the specification, and the law on it. -/
import Derived.Test.YtiebfakfgmckiaaW1
namespace Go.Proofs.Ytiebfakfgmckiaa
open Go.RowKit Pl
set_option linter.unusedVariables false

theorem varS_size (N : Nat) (h : N ≤ 68719476736) : (varS N).size ≤ 68719476737 := by
  rw [varS, strOfNums_size]
  have := varI_length N
  omega

set_option maxHeartbeats 400000 in
theorem specShort_in (s : ByteArray) (w : World) (hs : s.size ≤ 20000) :
    Calls Try.prog 14 #[.string s] w fun e w' => e = .returned (.tuple #[.string (varS s.size ++ s), .bool true]) ∧ Below w.heap.size w w' := by
  have hv := varS_size s.size (by omega)
  go_enter Try.func14, Try.ntmps14
  go_wp2_with (first | (go_at_call 25; refine (l01Var_any _ _ (by omega)).mono ?_; rintro e w1 ⟨rfl, hb1⟩))
  go_ret2
  exact ⟨rfl, hb1⟩

set_option maxHeartbeats 400000 in
theorem implShort_in (s : ByteArray) (w : World) (hs : s.size ≤ 20000) :
    Calls Try.prog 15 #[.string s] w fun e w' => e = .returned (.tuple #[.string (varS s.size ++ s), .bool true]) ∧ Below w.heap.size w w' := by
  have hv := varS_size s.size (by omega)
  go_enter Try.func15, Try.ntmps15
  go_wp2_with (first | (go_at_call 11; refine (implVar_yes _ _ (by omega)).mono ?_; rintro e w1 ⟨rfl, hb1⟩))
  go_ret2
  exact ⟨rfl, hb1⟩

set_option maxHeartbeats 400000 in
theorem specShort_out (s : ByteArray) (w : World) (hs : 20000 < s.size) :
    Calls Try.prog 14 #[.string s] w fun e w' => e = .returned (.tuple #[.string ByteArray.empty, .bool false]) ∧ w' = w := by
  go_enter Try.func14, Try.ntmps14
  go_wp2
  go_ret2
  exact ⟨rfl, rfl⟩

set_option maxHeartbeats 400000 in
theorem implShort_out (s : ByteArray) (w : World) (hs : 20000 < s.size) :
    Calls Try.prog 15 #[.string s] w fun e w' => e = .returned (.tuple #[.string ByteArray.empty, .bool false]) ∧ w' = w := by
  go_enter Try.func15, Try.ntmps15
  go_wp2
  go_ret2
  exact ⟨rfl, rfl⟩

set_option maxHeartbeats 400000 in
theorem lawShort (s : ByteArray) (w : World) (hs : s.size ≤ maxLen) :
    Calls Try.prog 5 #[.string s] w fun e w' => e = .returned (.bool true) ∧ Below w.heap.size w w' := by
  unfold maxLen at hs
  by_cases hl : 1048576 < s.size
  · go_enter Try.func5, Try.ntmps5
    go_wp2
    go_ret
    exact ⟨rfl, Below.refl _ _⟩
  · by_cases ha : s.size ≤ 20000
    · go_enter Try.func5, Try.ntmps5
      go_wp2_with (first | (go_at_call 14; refine (specShort_in s _ ha).mono ?_; rintro e w1 ⟨rfl, hb1⟩) | (go_at_call 15; refine (implShort_in s _ ha).mono ?_; rintro e w2 ⟨rfl, hb2⟩))
      go_ret
      exact ⟨rfl, hb1.trans (hb2.mono hb1.size)⟩
    · have ha' : 20000 < s.size := by omega
      clear ha
      go_enter Try.func5, Try.ntmps5
      go_wp2_with (first | (go_at_call 14; refine (specShort_out s _ ha').mono ?_; rintro e w1 ⟨rfl, rfl⟩) | (go_at_call 15; refine (implShort_out s _ ha').mono ?_; rintro e w2 ⟨rfl, rfl⟩))
      go_ret
      exact ⟨rfl, Below.refl _ _⟩
end Go.Proofs.Ytiebfakfgmckiaa
