/- The walks over the digits in base 128: l01Var and VarText of the specification, VarText of the program. -/
import Derived.Test.YtiebfakfgmckiaaChecked
import Derived.Test.YtiebfakfgmckiaaPlain
import Derived.Test.YtiebfakfgmckiaaOwn
import Derived.WalkKit
import Derived.WalkSpells
import Derived.WalkLawsBesides
namespace Go.Proofs.Ytiebfakfgmckiaa
open Go.RowKit Pl
set_option linter.unusedVariables false

theorem Try.info5 : (Try.prog.info? 5).map (fun i => (i.zero, i.size, i.bytes)) = some (some (.int .u8 0), 1, 1) := by kernel_rfl

set_option maxHeartbeats 400000 in
theorem l01Var_any (N : Nat) (w : World) (hN : N ≤ 68719476736) :
    Calls Try.prog 25 #[.int .i64 N] w fun e w' => e = .returned (.string (varS N)) ∧ Below w.heap.size w w' := by
  go_enter Try.func25, Try.ntmps25
  go_wp2
  go_loopw [0, 3] (fun n v wr => ∃ (m : Nat) (xs : List Int), n = .int .i64 m ∧ Hid (VarSt N m xs) ∧ m ≤ N ∧ xs.length ≤ N ∧ OwnB wr w.heap.size 5 v xs ∧ Below w.heap.size w wr) (fun n _ _ => (intOf n).toNat)
  case atStart => exact ⟨N, [], rfl, varSt_start N, by omega, by simp, OwnB.made w _ 5 #[] 0 (Nat.le_refl _) (by decide) rfl, (Below.refl _ _).alloc (Nat.le_refl _) _⟩
  case round =>
    obtain ⟨m, xs, rfl, hst, hm, hx, hown, hb⟩ := hrel
    have hsz := hb.size
    by_cases hm1 : 127 < m
    · go_wp2_with (first | (at_builtin; refine wpList_push rfl _ _ 36 5 rfl Try.underlying36 Try.info5 w.heap.size _ xs rfl hown _ rfl (by omega) (by omega) ?_; intro v1 w1 hown1 hb1))
      go_roundw
      case rel =>
        have h2 := varSt_step hst.out hm1
        exact ⟨m / 128, _, by go_num, h2, by omega, by have := h2.2.2; omega, hown1, hb.trans hb1⟩
      case measure => simp [intOf]; omega
    · go_wp2_with (first | (at_builtin; refine wpList_push rfl _ _ 36 5 rfl Try.underlying36 Try.info5 w.heap.size _ xs rfl hown _ rfl (by omega) (by omega) ?_; intro v1 w1 hown1 hb1; have hcv := conv_own Try.underlying36 Try.underlying5 Try.underlying9 hown1))
      go_ret
      exact ⟨by rw [← varSt_end hst.out hm1]; rfl, hb.trans hb1⟩

theorem l01Var_at (a : Int) (w : World) (h0 : 0 ≤ a) (h1 : a ≤ 68719476736) :
    Calls Try.prog 25 #[.int .i64 a] w fun e w' => e = .returned (.string (varS a.toNat)) ∧ Below w.heap.size w w' := by
  obtain ⟨N, rfl⟩ : ∃ N : Nat, a = N := ⟨a.toNat, by omega⟩
  exact l01Var_any N w (by omega)

set_option maxHeartbeats 400000 in
theorem l01In_yes (x a b : Int) (w : World) (h1 : a ≤ x) (h2 : x ≤ b) :
    Calls Try.prog 24 #[.int .i64 x, .int .i64 a, .int .i64 b] w fun e w' => e = .returned (.bool true) ∧ w' = w := by
  go_enter Try.func24, Try.ntmps24
  go_wp2
  go_ret
  exact ⟨rfl, rfl⟩

set_option maxHeartbeats 400000 in
theorem l01In_no (x a b : Int) (w : World) (h : x < a ∨ b < x) :
    Calls Try.prog 24 #[.int .i64 x, .int .i64 a, .int .i64 b] w fun e w' => e = .returned (.bool false) ∧ w' = w := by
  by_cases h1 : x < a
  · go_enter Try.func24, Try.ntmps24
    go_wp2
    go_ret
    exact ⟨rfl, rfl⟩
  · have h2 : b < x := by omega
    have h1' : a ≤ x := by omega
    clear h
    go_enter Try.func24, Try.ntmps24
    go_wp2
    go_ret
    exact ⟨by simp; omega, rfl⟩

set_option maxHeartbeats 400000 in
theorem specVar_yes (N : Nat) (w : World) (hN : N ≤ 1000000000) :
    Calls Try.prog 10 #[.int .i64 N] w fun e w' => e = .returned (.tuple #[.string (varS N), .bool true]) ∧ Below w.heap.size w w' := by
  go_enter Try.func10, Try.ntmps10
  go_wp2_with (first | (go_at_call 24; refine (l01In_yes _ _ _ _ (by omega) (by omega)).mono ?_; rintro e w' ⟨rfl, rfl⟩) | (go_at_call 25; refine (l01Var_any _ _ (by omega)).mono ?_; rintro e w' ⟨rfl, hb⟩))
  go_ret2
  exact ⟨rfl, hb⟩

set_option maxHeartbeats 400000 in
theorem specVar_no (n : Int) (w : World) (hN : n < 0 ∨ 1000000000 < n) :
    Calls Try.prog 10 #[.int .i64 n] w fun e w' => e = .returned (.tuple #[.string ByteArray.empty, .bool false]) ∧ w' = w := by
  go_enter Try.func10, Try.ntmps10
  go_wp2_with (first | (go_at_call 24; refine (l01In_no _ _ _ _ (by omega)).mono ?_; rintro e w' ⟨rfl, rfl⟩))
  go_ret2
  exact ⟨rfl, rfl⟩

set_option maxHeartbeats 400000 in
theorem implVar_yes (N : Nat) (w : World) (hN : N ≤ 1000000000) :
    Calls Try.prog 11 #[.int .i64 N] w fun e w' => e = .returned (.tuple #[.string (varS N), .bool true]) ∧ Below w.heap.size w w' := by
  go_enter Try.func11, Try.ntmps11
  go_wp2_with (first | (at_make; refine wpList_makeB rfl _ _ 36 5 rfl Try.underlying36 Try.info5 w.heap.size _ _ _ 5 rfl rfl (by omega) (by omega) (Nat.le_refl _) ?_; intro v0 w0 hown0 hb0))
  go_loopw [0, 4] (fun n v wr => ∃ (m : Nat) (xs : List Int), n = .int .i64 m ∧ Hid (VarSt N m xs) ∧ m ≤ N ∧ xs.length ≤ N ∧ OwnB wr w.heap.size 5 v xs ∧ Below w.heap.size w wr) (fun n _ _ => (intOf n).toNat)
  case atStart => exact ⟨N, [], rfl, varSt_start N, by omega, by simp, hown0, hb0⟩
  case round =>
    obtain ⟨m, xs, rfl, hst, hm, hx, hown, hb⟩ := hrel
    have hsz := hb.size
    by_cases hm1 : 127 < m
    · go_wp2_with (first | (at_builtin; refine wpList_push rfl _ _ 36 5 rfl Try.underlying36 Try.info5 w.heap.size _ xs rfl hown _ rfl (by omega) (by omega) ?_; intro v1 w1 hown1 hb1))
      go_roundw
      case rel =>
        have h2 := varSt_step hst.out hm1
        exact ⟨m / 128, _, by go_num, h2, by omega, by have := h2.2.2; omega, hown1, hb.trans hb1⟩
      case measure => simp [intOf]; omega
    · go_wp2_with (first | (at_builtin; refine wpList_push rfl _ _ 36 5 rfl Try.underlying36 Try.info5 w.heap.size _ xs rfl hown _ rfl (by omega) (by omega) ?_; intro v1 w1 hown1 hb1; have hcv := conv_own Try.underlying36 Try.underlying5 Try.underlying9 hown1))
      go_ret2
      exact ⟨by rw [← varSt_end hst.out hm1]; rfl, hb.trans hb1⟩

set_option maxHeartbeats 400000 in
theorem implVar_no (n : Int) (w : World) (hN : n < 0 ∨ 1000000000 < n) :
    Calls Try.prog 11 #[.int .i64 n] w fun e w' => e = .returned (.tuple #[.string ByteArray.empty, .bool false]) ∧ w' = w := by
  by_cases h1 : n < 0
  · go_enter Try.func11, Try.ntmps11
    go_wp2
    go_ret2
    exact ⟨rfl, rfl⟩
  · have h2 : 1000000000 < n := by omega
    clear hN
    go_enter Try.func11, Try.ntmps11
    go_wp2
    go_ret2
    exact ⟨rfl, rfl⟩

set_option maxHeartbeats 400000 in
theorem lawVar (n : Int) (w : World) :
    Calls Try.prog 3 #[.int .i64 n] w fun e w' => e = .returned (.bool true) ∧ Below w.heap.size w w' := by
  by_cases h : 0 ≤ n ∧ n ≤ 1000000000
  · obtain ⟨N, rfl⟩ : ∃ N : Nat, n = N := ⟨n.toNat, by omega⟩
    have hN : N ≤ 1000000000 := by omega
    clear h
    go_enter Try.func3, Try.ntmps3
    go_wp2_with (first | (go_at_call 10; refine (specVar_yes _ _ (by omega)).mono ?_; rintro e w1 ⟨rfl, hb1⟩) | (go_at_call 11; refine (implVar_yes _ _ (by omega)).mono ?_; rintro e w2 ⟨rfl, hb2⟩))
    go_ret
    exact ⟨rfl, hb1.trans (hb2.mono hb1.size)⟩
  · have h' : n < 0 ∨ 1000000000 < n := by omega
    clear h
    go_enter Try.func3, Try.ntmps3
    go_wp2_with (first | (go_at_call 10; refine (specVar_no _ _ (by omega)).mono ?_; rintro e w1 ⟨rfl, rfl⟩) | (go_at_call 11; refine (implVar_no _ _ (by omega)).mono ?_; rintro e w2 ⟨rfl, rfl⟩))
    go_ret
    exact ⟨rfl, Below.refl _ _⟩

end Go.Proofs.Ytiebfakfgmckiaa
