/- The walks over ReadVar, of the program and of the specification. -/
import Derived.Test.YtiebfakfgmckiaaW1
import Derived.Test.YtiebfakfgmckiaaRv
namespace Go.Proofs.Ytiebfakfgmckiaa
open Go.RowKit Pl
set_option linter.unusedVariables false

set_option maxHeartbeats 1000000 in
theorem implRv_in (s : ByteArray) (A : Nat) (w : World) (hs : s.size ≤ 1048576) (hA : A ≤ s.size) :
    Calls Try.prog 13 #[.string s, .int .i64 A] w fun e w' => e = .returned (rvT (rv s A)) ∧ w' = w := by
  go_enter Try.func13, Try.ntmps13
  go_wp2
  all_goals
    go_loop [7, 8, 9] (fun n sc i => ∃ k m S : Nat, A + k ≤ s.size ∧ n = .int .i64 m ∧ m < S ∧ sc = .int .i64 S ∧ i = .int .i64 ((A + k : Nat) : Int) ∧ PowS k S ∧ Hid (RvSt s A k m S)) (fun _ _ i => s.size - (intOf i).toNat)
    case atStart => exact ⟨0, 0, 1, by omega, rfl, by decide, rfl, rfl, .inl ⟨rfl, rfl⟩, rvSt_start s A⟩
    case round =>
      obtain ⟨k, m, S, hk2, rfl, hm, rfl, rfl, hp, hst⟩ := hrel
      by_cases hlt : A + k < s.size ∧ k < 5
      · obtain ⟨hlt, hk5⟩ := hlt
        have hb : (s[A + k]'hlt).toNat < 256 := UInt8.toNat_lt _
        rcases hp with ⟨rfl, rfl⟩ | ⟨rfl, rfl⟩ | ⟨rfl, rfl⟩ | ⟨rfl, rfl⟩ | ⟨rfl, rfl⟩ | ⟨rfl, rfl⟩
        all_goals first | (exfalso; omega) | (simp only [Nat.add_zero] at hb) | skip
        all_goals go_wp2
        all_goals first
          | (go_round
             case rel => exact rvNext hst.out (by omega) hlt (by first | omega | (simp only [Nat.add_zero]; omega)) hm (by simp [PowS]) (by first | go_num | (simp only [Nat.add_zero]; go_num)) (by go_num) (by go_num)
             case measure => simp [intOf]; omega)
          | (go_ret3; exact ⟨rvT_bad (rvSt_bad hst.out (by omega) hlt (by first | omega | (simp only [Nat.add_zero]; omega)) (by first | omega | (simp only [Nat.add_zero]; omega))), rfl⟩)
          | (go_ret3; exact ⟨rvT_good (rvSt_good hst.out (by omega) hlt (by first | omega | (simp only [Nat.add_zero]; omega)) (by first | omega | (simp only [Nat.add_zero]; omega)) (by first | omega | (simp only [Nat.add_zero]; omega))) (by first | omega | (simp only [Nat.add_zero]; omega)) (by omega), rfl⟩)
      · have hend : s.size ≤ A + k ∨ 5 ≤ k := by omega
        unfold PowS at hp
        go_wp2
        go_ret3
        exact ⟨rvT_bad (rvSt_out hst.out (by omega)), rfl⟩

set_option maxHeartbeats 400000 in
theorem implRv_out (s : ByteArray) (a : Int) (w : World) (hs : s.size ≤ 1048576) (ha : a < 0 ∨ s.size < a) :
    Calls Try.prog 13 #[.string s, .int .i64 a] w fun e w' => e = .returned (rvT none) ∧ w' = w := by
  by_cases h1 : a < 0
  · go_enter Try.func13, Try.ntmps13
    go_wp2
    go_ret3
    exact ⟨rfl, rfl⟩
  · have h2 : s.size < a := by omega
    clear ha
    go_enter Try.func13, Try.ntmps13
    go_wp2
    go_ret3
    exact ⟨rfl, rfl⟩
end Go.Proofs.Ytiebfakfgmckiaa
