/- The walks over ReadVar of the specification. -/
import Derived.Test.YtfefjkldjaabbaaV1
import Derived.Test.YtfefjkldjaabbaaWn
import Derived.Deep.RegionHeld3
import Derived.Deep.QuietTactic
import Derived.BigQuiet
namespace Go.Proofs.Ytfefjkldjaabbaa
open Go.RowKit Pl
set_option linter.unusedVariables false

set_option maxHeartbeats 400000 in
theorem l01In_yes (x a b : Int) (w : World) (h1 : a ≤ x) (h2 : x ≤ b) :
    Calls Try.prog 41 #[.int .i64 x, .int .i64 a, .int .i64 b] w fun e w' => e = .returned (.bool true) ∧ w' = w := in_is w (by simp; omega)

theorem below_drewN {B : Nat} {a w : World} (h : Below B a w) (n : Nat) : Below B a (w.drewN n) := h.trans ⟨rfl, rfl, rfl, Nat.le_refl _, fun _ _ => rfl⟩

set_option maxRecDepth 100000 in
set_option maxHeartbeats 4000000 in
theorem specRv_in (s : ByteArray) (A : Nat) (w : World) (hs : s.size ≤ 1048576) (hA : A ≤ s.size) :
    Calls Try.prog 62 #[.string s, .int .i64 A] w fun e w' => e = .returned (rvT (rv s A)) ∧ Below w.heap.size w w' := by
  go_enter Try.func62, Try.ntmps62
  go_wp2_with (first | (go_at_call 41; refine (l01In_yes _ _ _ _ (by omega) (by omega)).mono ?_; rintro e w' ⟨rfl, rfl⟩))
  go_loop [7, 8, 9] (fun n sc i => ∃ k m S : Nat, A + k ≤ s.size ∧ n = .int .i64 m ∧ m < S ∧ sc = .int .i64 S ∧ i = .int .i64 ((A + k : Nat) : Int) ∧ PowS k S ∧ Hid (RvSt s A k m S) ∧ Hid (Dig s A k m S)) (fun _ _ i => s.size - (intOf i).toNat)
  case atStart => exact ⟨0, 0, 1, by omega, rfl, by decide, rfl, rfl, .inl ⟨rfl, rfl⟩, rvSt_start s A, dig_start s A⟩
  case round =>
    obtain ⟨k, m, S, hk2, rfl, hm, rfl, rfl, hp, hst, hdg⟩ := hrel
    by_cases hlt : A + k < s.size ∧ k < 5
    · obtain ⟨hlt, hk5⟩ := hlt
      have hb : (s[A + k]'hlt).toNat < 256 := UInt8.toNat_lt _
      rcases hp with ⟨rfl, rfl⟩ | ⟨rfl, rfl⟩ | ⟨rfl, rfl⟩ | ⟨rfl, rfl⟩ | ⟨rfl, rfl⟩ | ⟨rfl, rfl⟩
      · -- digit 0
        simp only [Nat.add_zero] at hb
        by_cases hc : 127 < (s[A]'(show A < s.size by omega)).toNat
        · go_wp2
          go_round
          case rel => exact digNext hst.out hdg.out (by omega) hlt (by first | omega | (simp only [Nat.add_zero]; omega)) hm (by simp [PowS]) (by first | go_num | (simp only [Nat.add_zero]; go_num)) (by go_num) (by go_num)
          case measure => simp [intOf]; omega
        · generalize hcc : (s[A]'(show A < s.size by omega)).toNat = c at *
          have hcd : (s[A + 0]'hlt).toNat = c := hcc
          by_cases hg : 1000000000 < m + c % 128
          · exfalso; omega
          · have hd : decide (1000000000 < (m : Int) + (c : Int) % 128) = false := by simp; omega
            have hw1 : IntKind.i64.wrap ((A : Int) + 1) = (A : Int) + 1 := by rw [IntKind.wrap_i64]; omega
            have hi1 : (A : Int) + 1 ≤ (s.size : Int) := by omega
            have hi2 : (A : Int) ≤ (A : Int) + 1 := by omega
            have hi3 : (0 : Int) ≤ (A : Int) := by omega
            go_wp2
            go_region_held3 (fun _ => True) (trivial) (first | (go_at_call 42; refine (l01Var_at _ _ (by omega) (by omega)).mono ?_; rintro e w1 ⟨rfl, hb1⟩))
            go_wp2
            · have ht : (!(varS ((m : Int) + (c : Int) % 128).toNat).toList == (s.extract A ((A : Int) + 1).toNat).toList) = true := by assumption
              have ht2 := (cmp_test hdg.out hlt hcd (by omega) (by omega) (by omega)).1 ht
              go_ret3
              exact ⟨rvT_bad (rvSt_bad hst.out (by omega) hlt (by rw [hcd]; omega) (.inl (by rw [hcd]; exact ht2))), (Below.refl _ _).drew.trans hb1⟩
            · have ht : (!(varS ((m : Int) + (c : Int) % 128).toNat).toList == (s.extract A ((A : Int) + 1).toNat).toList) = false := by assumption
              have ht2 : ¬ (c = 0 ∧ 0 < 0) := cmp_test_no hdg.out hlt hcd (by omega) (by omega) (by omega) ht
              go_ret3
              exact ⟨rvT_good (rvSt_good hst.out (by omega) hlt (by rw [hcd]; omega) (by rw [hcd]; exact ht2) (by rw [hcd]; omega)) (by rw [hcd]; omega) (by omega), (Below.refl _ _).drew.trans hb1⟩
      · -- digit 1
        by_cases hc : 127 < (s[A + 1]'hlt).toNat
        · go_wp2
          go_round
          case rel => exact digNext hst.out hdg.out (by omega) hlt (by first | omega | (simp only [Nat.add_zero]; omega)) hm (by simp [PowS]) (by first | go_num | (simp only [Nat.add_zero]; go_num)) (by go_num) (by go_num)
          case measure => simp [intOf]; omega
        · generalize hcc : (s[A + 1]'hlt).toNat = c at *
          have hcd : (s[A + 1]'hlt).toNat = c := hcc
          by_cases hg : 1000000000 < m + c % 128 * 128
          · exfalso; omega
          · have hd : decide (1000000000 < (m : Int) + (c : Int) % 128 * 128) = false := by simp; omega
            have hw1 : IntKind.i64.wrap ((A : Int) + 1 + 1) = (A : Int) + 1 + 1 := by rw [IntKind.wrap_i64]; omega
            have hi1 : (A : Int) + 1 + 1 ≤ (s.size : Int) := by omega
            have hi2 : (A : Int) ≤ (A : Int) + 1 + 1 := by omega
            have hi3 : (0 : Int) ≤ (A : Int) := by omega
            go_wp2
            go_region_held3 (fun _ => True) (trivial) (first | (go_at_call 42; refine (l01Var_at _ _ (by omega) (by omega)).mono ?_; rintro e w1 ⟨rfl, hb1⟩))
            go_wp2
            · have ht : (!(varS ((m : Int) + (c : Int) % 128 * 128).toNat).toList == (s.extract A ((A : Int) + 1 + 1).toNat).toList) = true := by assumption
              have ht2 := (cmp_test hdg.out hlt hcd (by omega) (by omega) (by omega)).1 ht
              go_ret3
              exact ⟨rvT_bad (rvSt_bad hst.out (by omega) hlt (by rw [hcd]; omega) (.inl (by rw [hcd]; exact ht2))), (Below.refl _ _).drew.trans hb1⟩
            · have ht : (!(varS ((m : Int) + (c : Int) % 128 * 128).toNat).toList == (s.extract A ((A : Int) + 1 + 1).toNat).toList) = false := by assumption
              have ht2 : ¬ (c = 0 ∧ 0 < 1) := cmp_test_no hdg.out hlt hcd (by omega) (by omega) (by omega) ht
              go_ret3
              exact ⟨rvT_good (rvSt_good hst.out (by omega) hlt (by rw [hcd]; omega) (by rw [hcd]; exact ht2) (by rw [hcd]; omega)) (by rw [hcd]; omega) (by omega), (Below.refl _ _).drew.trans hb1⟩
      · -- digit 2
        by_cases hc : 127 < (s[A + 2]'hlt).toNat
        · go_wp2
          go_round
          case rel => exact digNext hst.out hdg.out (by omega) hlt (by first | omega | (simp only [Nat.add_zero]; omega)) hm (by simp [PowS]) (by first | go_num | (simp only [Nat.add_zero]; go_num)) (by go_num) (by go_num)
          case measure => simp [intOf]; omega
        · generalize hcc : (s[A + 2]'hlt).toNat = c at *
          have hcd : (s[A + 2]'hlt).toNat = c := hcc
          by_cases hg : 1000000000 < m + c % 128 * 16384
          · exfalso; omega
          · have hd : decide (1000000000 < (m : Int) + (c : Int) % 128 * 16384) = false := by simp; omega
            have hw1 : IntKind.i64.wrap ((A : Int) + 2 + 1) = (A : Int) + 2 + 1 := by rw [IntKind.wrap_i64]; omega
            have hi1 : (A : Int) + 2 + 1 ≤ (s.size : Int) := by omega
            have hi2 : (A : Int) ≤ (A : Int) + 2 + 1 := by omega
            have hi3 : (0 : Int) ≤ (A : Int) := by omega
            go_wp2
            go_region_held3 (fun _ => True) (trivial) (first | (go_at_call 42; refine (l01Var_at _ _ (by omega) (by omega)).mono ?_; rintro e w1 ⟨rfl, hb1⟩))
            go_wp2
            · have ht : (!(varS ((m : Int) + (c : Int) % 128 * 16384).toNat).toList == (s.extract A ((A : Int) + 2 + 1).toNat).toList) = true := by assumption
              have ht2 := (cmp_test hdg.out hlt hcd (by omega) (by omega) (by omega)).1 ht
              go_ret3
              exact ⟨rvT_bad (rvSt_bad hst.out (by omega) hlt (by rw [hcd]; omega) (.inl (by rw [hcd]; exact ht2))), (Below.refl _ _).drew.trans hb1⟩
            · have ht : (!(varS ((m : Int) + (c : Int) % 128 * 16384).toNat).toList == (s.extract A ((A : Int) + 2 + 1).toNat).toList) = false := by assumption
              have ht2 : ¬ (c = 0 ∧ 0 < 2) := cmp_test_no hdg.out hlt hcd (by omega) (by omega) (by omega) ht
              go_ret3
              exact ⟨rvT_good (rvSt_good hst.out (by omega) hlt (by rw [hcd]; omega) (by rw [hcd]; exact ht2) (by rw [hcd]; omega)) (by rw [hcd]; omega) (by omega), (Below.refl _ _).drew.trans hb1⟩
      · -- digit 3
        by_cases hc : 127 < (s[A + 3]'hlt).toNat
        · go_wp2
          go_round
          case rel => exact digNext hst.out hdg.out (by omega) hlt (by first | omega | (simp only [Nat.add_zero]; omega)) hm (by simp [PowS]) (by first | go_num | (simp only [Nat.add_zero]; go_num)) (by go_num) (by go_num)
          case measure => simp [intOf]; omega
        · generalize hcc : (s[A + 3]'hlt).toNat = c at *
          have hcd : (s[A + 3]'hlt).toNat = c := hcc
          by_cases hg : 1000000000 < m + c % 128 * 2097152
          · exfalso; omega
          · have hd : decide (1000000000 < (m : Int) + (c : Int) % 128 * 2097152) = false := by simp; omega
            have hw1 : IntKind.i64.wrap ((A : Int) + 3 + 1) = (A : Int) + 3 + 1 := by rw [IntKind.wrap_i64]; omega
            have hi1 : (A : Int) + 3 + 1 ≤ (s.size : Int) := by omega
            have hi2 : (A : Int) ≤ (A : Int) + 3 + 1 := by omega
            have hi3 : (0 : Int) ≤ (A : Int) := by omega
            go_wp2
            go_region_held3 (fun _ => True) (trivial) (first | (go_at_call 42; refine (l01Var_at _ _ (by omega) (by omega)).mono ?_; rintro e w1 ⟨rfl, hb1⟩))
            go_wp2
            · have ht : (!(varS ((m : Int) + (c : Int) % 128 * 2097152).toNat).toList == (s.extract A ((A : Int) + 3 + 1).toNat).toList) = true := by assumption
              have ht2 := (cmp_test hdg.out hlt hcd (by omega) (by omega) (by omega)).1 ht
              go_ret3
              exact ⟨rvT_bad (rvSt_bad hst.out (by omega) hlt (by rw [hcd]; omega) (.inl (by rw [hcd]; exact ht2))), (Below.refl _ _).drew.trans hb1⟩
            · have ht : (!(varS ((m : Int) + (c : Int) % 128 * 2097152).toNat).toList == (s.extract A ((A : Int) + 3 + 1).toNat).toList) = false := by assumption
              have ht2 : ¬ (c = 0 ∧ 0 < 3) := cmp_test_no hdg.out hlt hcd (by omega) (by omega) (by omega) ht
              go_ret3
              exact ⟨rvT_good (rvSt_good hst.out (by omega) hlt (by rw [hcd]; omega) (by rw [hcd]; exact ht2) (by rw [hcd]; omega)) (by rw [hcd]; omega) (by omega), (Below.refl _ _).drew.trans hb1⟩
      · -- digit 4
        by_cases hc : 127 < (s[A + 4]'hlt).toNat
        · go_wp2
          go_round
          case rel => exact digNext hst.out hdg.out (by omega) hlt (by first | omega | (simp only [Nat.add_zero]; omega)) hm (by simp [PowS]) (by first | go_num | (simp only [Nat.add_zero]; go_num)) (by go_num) (by go_num)
          case measure => simp [intOf]; omega
        · generalize hcc : (s[A + 4]'hlt).toNat = c at *
          have hcd : (s[A + 4]'hlt).toNat = c := hcc
          by_cases hg : 1000000000 < m + c % 128 * 268435456
          · have hd : decide (1000000000 < (m : Int) + (c : Int) % 128 * 268435456) = true := by simp; omega
            go_wp2
            go_quiet (fail)
            go_wp2
            go_ret3
            exact ⟨rvT_bad (rvSt_bad hst.out (by omega) hlt (by rw [hcd]; omega) (by rw [hcd]; omega)), below_drewN (Below.refl _ _) _⟩
          · have hd : decide (1000000000 < (m : Int) + (c : Int) % 128 * 268435456) = false := by simp; omega
            have hw1 : IntKind.i64.wrap ((A : Int) + 4 + 1) = (A : Int) + 4 + 1 := by rw [IntKind.wrap_i64]; omega
            have hi1 : (A : Int) + 4 + 1 ≤ (s.size : Int) := by omega
            have hi2 : (A : Int) ≤ (A : Int) + 4 + 1 := by omega
            have hi3 : (0 : Int) ≤ (A : Int) := by omega
            go_wp2
            go_region_held3 (fun _ => True) (trivial) (first | (go_at_call 42; refine (l01Var_at _ _ (by omega) (by omega)).mono ?_; rintro e w1 ⟨rfl, hb1⟩))
            go_wp2
            · have ht : (!(varS ((m : Int) + (c : Int) % 128 * 268435456).toNat).toList == (s.extract A ((A : Int) + 4 + 1).toNat).toList) = true := by assumption
              have ht2 := (cmp_test hdg.out hlt hcd (by omega) (by omega) (by omega)).1 ht
              go_ret3
              exact ⟨rvT_bad (rvSt_bad hst.out (by omega) hlt (by rw [hcd]; omega) (.inl (by rw [hcd]; exact ht2))), (Below.refl _ _).drew.trans hb1⟩
            · have ht : (!(varS ((m : Int) + (c : Int) % 128 * 268435456).toNat).toList == (s.extract A ((A : Int) + 4 + 1).toNat).toList) = false := by assumption
              have ht2 : ¬ (c = 0 ∧ 0 < 4) := cmp_test_no hdg.out hlt hcd (by omega) (by omega) (by omega) ht
              go_ret3
              exact ⟨rvT_good (rvSt_good hst.out (by omega) hlt (by rw [hcd]; omega) (by rw [hcd]; exact ht2) (by rw [hcd]; omega)) (by rw [hcd]; omega) (by omega), (Below.refl _ _).drew.trans hb1⟩
      · exfalso; omega
    · have hend : s.size ≤ A + k ∨ 5 ≤ k := by omega
      unfold PowS at hp
      go_wp2
      all_goals
        go_ret3
        exact ⟨rvT_bad (rvSt_out hst.out (by omega)), Below.refl _ _⟩

theorem specRv_some (s : ByteArray) (A n i : Nat) (w : World) (hs : s.size ≤ 1048576) (hA : A ≤ s.size) (h : rv s A = some (n, i)) :
    Calls Try.prog 62 #[.string s, .int .i64 A] w fun e w' => e = .returned (.tuple #[.int .i64 n, .int .i64 i, .bool true]) ∧ Below w.heap.size w w' := by
  have := specRv_in s A w hs hA
  rw [h] at this
  exact this
theorem specRv_none (s : ByteArray) (A : Nat) (w : World) (hs : s.size ≤ 1048576) (hA : A ≤ s.size) (h : rv s A = none) :
    Calls Try.prog 62 #[.string s, .int .i64 A] w fun e w' => e = .returned (.tuple #[.int .i64 0, .int .i64 0, .bool false]) ∧ Below w.heap.size w w' := by
  have := specRv_in s A w hs hA
  rw [h] at this
  exact this
end Go.Proofs.Ytfefjkldjaabbaa
