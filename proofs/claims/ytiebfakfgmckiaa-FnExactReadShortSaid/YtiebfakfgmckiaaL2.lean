/- The law on ReadVar. -/
import Derived.Test.YtiebfakfgmckiaaW2
import Derived.Test.YtiebfakfgmckiaaW3
namespace Go.Proofs.Ytiebfakfgmckiaa
open Go.RowKit Pl
set_option linter.unusedVariables false

theorem specRv_some (s : ByteArray) (A n i : Nat) (w : World) (hs : s.size ≤ 1048576) (hA : A ≤ s.size) (h : rv s A = some (n, i)) :
    Calls Try.prog 12 #[.string s, .int .i64 A] w fun e w' => e = .returned (.tuple #[.int .i64 n, .int .i64 i, .bool true]) ∧ Below w.heap.size w w' := by
  have := specRv_in s A w hs hA
  rw [h] at this
  exact this
theorem specRv_none (s : ByteArray) (A : Nat) (w : World) (hs : s.size ≤ 1048576) (hA : A ≤ s.size) (h : rv s A = none) :
    Calls Try.prog 12 #[.string s, .int .i64 A] w fun e w' => e = .returned (.tuple #[.int .i64 0, .int .i64 0, .bool false]) ∧ Below w.heap.size w w' := by
  have := specRv_in s A w hs hA
  rw [h] at this
  exact this
theorem implRv_some (s : ByteArray) (A n i : Nat) (w : World) (hs : s.size ≤ 1048576) (hA : A ≤ s.size) (h : rv s A = some (n, i)) :
    Calls Try.prog 13 #[.string s, .int .i64 A] w fun e w' => e = .returned (.tuple #[.int .i64 n, .int .i64 i, .bool true]) ∧ w' = w := by
  have := implRv_in s A w hs hA
  rw [h] at this
  exact this
theorem implRv_none (s : ByteArray) (A : Nat) (w : World) (hs : s.size ≤ 1048576) (hA : A ≤ s.size) (h : rv s A = none) :
    Calls Try.prog 13 #[.string s, .int .i64 A] w fun e w' => e = .returned (.tuple #[.int .i64 0, .int .i64 0, .bool false]) ∧ w' = w := by
  have := implRv_in s A w hs hA
  rw [h] at this
  exact this
theorem specRv_far (s : ByteArray) (a : Int) (w : World) (ha : a < 0 ∨ s.size < a) :
    Calls Try.prog 12 #[.string s, .int .i64 a] w fun e w' => e = .returned (.tuple #[.int .i64 0, .int .i64 0, .bool false]) ∧ w' = w := specRv_out s a w ha
theorem implRv_far (s : ByteArray) (a : Int) (w : World) (hs : s.size ≤ 1048576) (ha : a < 0 ∨ s.size < a) :
    Calls Try.prog 13 #[.string s, .int .i64 a] w fun e w' => e = .returned (.tuple #[.int .i64 0, .int .i64 0, .bool false]) ∧ w' = w := implRv_out s a w hs ha

set_option maxHeartbeats 400000 in
theorem lawRv (s : ByteArray) (a : Int) (w : World) (hs : s.size ≤ maxLen) :
    Calls Try.prog 4 #[.string s, .int .i64 a] w fun e w' => e = .returned (.bool true) ∧ Below w.heap.size w w' := by
  unfold maxLen at hs
  by_cases hl : 1048576 < s.size
  · go_enter Try.func4, Try.ntmps4
    go_wp2
    go_ret
    exact ⟨rfl, Below.refl _ _⟩
  · by_cases ha : 0 ≤ a ∧ a ≤ s.size
    · obtain ⟨A, rfl⟩ : ∃ A : Nat, a = A := ⟨a.toNat, by omega⟩
      have hA : A ≤ s.size := by omega
      clear ha
      rcases hr : rv s A with _ | ⟨n, i⟩
      · have HR : Hid (rv s A = none) := hr
        clear hr
        go_enter Try.func4, Try.ntmps4
        go_wp2_with (first | (go_at_call 12; refine (specRv_none s A _ (by omega) hA HR.out).mono ?_; rintro e w1 ⟨rfl, hb1⟩) | (go_at_call 13; refine (implRv_none s A _ (by omega) hA HR.out).mono ?_; rintro e w2 ⟨rfl, rfl⟩))
        go_ret
        exact ⟨rfl, hb1⟩
      · have HR : Hid (rv s A = some (n, i)) := hr
        clear hr
        go_enter Try.func4, Try.ntmps4
        go_wp2_with (first | (go_at_call 12; refine (specRv_some s A n i _ (by omega) hA HR.out).mono ?_; rintro e w1 ⟨rfl, hb1⟩) | (go_at_call 13; refine (implRv_some s A n i _ (by omega) hA HR.out).mono ?_; rintro e w2 ⟨rfl, rfl⟩))
        go_ret
        exact ⟨rfl, hb1⟩
    · have ha' : a < 0 ∨ s.size < a := by omega
      clear ha
      go_enter Try.func4, Try.ntmps4
      go_wp2_with (first | (go_at_call 12; refine (specRv_far s a _ ha').mono ?_; rintro e w1 ⟨rfl, rfl⟩) | (go_at_call 13; refine (implRv_far s a _ (by omega) ha').mono ?_; rintro e w2 ⟨rfl, rfl⟩))
      go_ret
      exact ⟨rfl, Below.refl _ _⟩
end Go.Proofs.Ytiebfakfgmckiaa
