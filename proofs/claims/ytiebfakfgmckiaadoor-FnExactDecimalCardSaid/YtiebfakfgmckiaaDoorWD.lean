/- The walks over Decimal, of the program and of the specification, and the law on Decimal. -/
import Derived.Test.YtiebfakfgmckiaaDoorChecked
import Derived.Test.YtiebfakfgmckiaaDoorNum
import Derived.Test.YtiebfakfgmckiaaDoorItoa
import Derived.WalkKit
import Derived.WalkSpells
import Derived.WalkLawsBesides
namespace Go.Proofs.YtiebfakfgmckiaaDoor
open Go.RowKit Pl
set_option linter.unusedVariables false

theorem ret_int {k : IntKind} {a b : Int} (h : a = b) : Ending.returned (.int k a) = .returned (.int k b) := by rw [h]

set_option maxHeartbeats 400000 in
theorem fig_any (x : Int) (w : World) (h0 : 0 ≤ x) (h1 : x < 16) :
    Calls Tryd.prog 12 #[.int .i64 x] w fun e w' => e = .returned (.int .u8 (figI x.toNat)) ∧ w' = w := by
  by_cases h : x < 10
  · go_enter Tryd.func12, Tryd.ntmps12
    go_wp2
    go_ret
    exact ⟨ret_int (by rw [figI, if_pos (by omega)]; omega), rfl⟩
  · go_enter Tryd.func12, Tryd.ntmps12
    go_wp2
    go_ret
    exact ⟨ret_int (by rw [figI, if_neg (by omega)]; omega), rfl⟩

theorem strOf_one {w : World} {b : Int} : (convert 31 9 (.slice (some ⟨w.heap.size, 0, none⟩) 1 1)).run Tryd.prog (w.alloc (.cells #[.int .u8 b] 5)) = .ok (.string (strOfNums [b])) (w.alloc (.cells #[.int .u8 b] 5)) := by
  refine run_convert_bytes_arg _ 31 5 Tryd.underlying31 Tryd.underlying5 w.heap.size 0 1 1 [b] rfl ?_ 9 Tryd.underlying9
  intro i hi
  obtain rfl : i = 0 := by omega
  simp

set_option maxRecDepth 100000 in
set_option maxHeartbeats 1000000 in
theorem dec_pos (N : Nat) (w : World) (hN : N ≤ 9223372036854775807) (h0 : 0 < N) :
    Calls Tryd.prog 5 #[.int .i64 N] w fun e w' => e = .returned (.string (strOfNums (decL N))) ∧ Below w.heap.size w w' := by
  have hN0 : ((N : Int) == 0) = false := by simp; omega
  have hN1 : decide ((N : Int) < 0) = false := by simp
  go_enter Tryd.func5, Tryd.ntmps5
  go_wp2
  go_loopw [0, 4] (fun n v wr => ∃ (m : Nat) (xs : List Int), n = .int .i64 m ∧ m ≤ N ∧ v = .string (strOfNums xs) ∧ xs.length + m ≤ N ∧ Hid (decR m ++ xs = decR N) ∧ Below w.heap.size w wr) (fun n _ _ => (intOf n).toNat)
  case atStart => exact ⟨N, [], rfl, Nat.le_refl _, rfl, by simp, List.append_nil _, Below.refl _ _⟩
  case round =>
    obtain ⟨m, xs, rfl, hm, rfl, hx, hst, hb⟩ := hrel
    have hsz := hb.size
    have hss := strOfNums_size xs
    by_cases hm0 : m = 0
    · subst hm0
      go_wp2
      go_ret
      have e1 : decR N = xs := by rw [← hst.out, decR_zero]; rfl
      exact ⟨by rw [decL, if_neg (by omega), e1]; rfl, hb⟩
    · have hmp : 0 < m := by omega
      have hs1 : ∀ b : Int, (strOfNums [b]).size = 1 := fun b => rfl
      have hnn : ¬ 9223372036854775807 < 1 + xs.length := by omega
      have hone := fun b => strOf_one (w := wr) (b := b)
      go_wp2_with (first | (go_at_call 12; refine (fig_any _ _ (by omega) (by omega)).mono ?_; rintro e w1 ⟨rfl, rfl⟩))
      go_roundw
      case rel =>
        refine ⟨m / 10, figI (m % 10) :: xs, by go_num, by omega, ?_, by simp; omega, ?_, hb.alloc hsz _⟩
        · rw [strOfNums_append]; rfl
        · show decR (m / 10) ++ figI (m % 10) :: xs = decR N
          rw [← hst.out, decR_pos hm0, figI, if_pos (by omega)]
          simp
      case measure => simp [intOf]; omega

set_option maxHeartbeats 400000 in
theorem dec_zero (w : World) :
    Calls Tryd.prog 5 #[.int .i64 0] w fun e w' => e = .returned (.string (strOfNums (decL 0))) ∧ Below w.heap.size w w' := by
  go_enter Tryd.func5, Tryd.ntmps5
  go_wp2
  go_ret
  exact ⟨rfl, Below.refl _ _⟩

set_option maxRecDepth 100000 in
set_option maxHeartbeats 1000000 in
theorem dec_neg (N : Nat) (w : World) (hN : N ≤ 9223372036854775808) (h0 : 0 < N) :
    Calls Tryd.prog 5 #[.int .i64 (-(N : Int))] w fun e w' => e = .returned (.string (strOfNums (45 :: decR N))) ∧ Below w.heap.size w w' := by
  have hN0 : ((-(N : Int)) == 0) = false := by simp; omega
  have hN1 : decide (-(N : Int) < 0) = true := by simp; omega
  go_enter Tryd.func5, Tryd.ntmps5
  go_wp2
  go_loopw [0, 4] (fun n v wr => ∃ (m : Nat) (xs : List Int), n = .int .i64 (-(m : Int)) ∧ m ≤ N ∧ v = .string (strOfNums xs) ∧ Hid (decR m ++ xs = decR N) ∧ Below w.heap.size w wr) (fun n _ _ => (-(intOf n)).toNat)
  case atStart => exact ⟨N, [], rfl, Nat.le_refl _, rfl, List.append_nil _, Below.refl _ _⟩
  case round =>
    obtain ⟨m, xs, rfl, hm, rfl, hst, hb⟩ := hrel
    have hsz := hb.size
    have hss := strOfNums_size xs
    have hxl : xs.length ≤ 20 := by
      have h1 := congrArg List.length hst.out
      rw [List.length_append] at h1
      have h2 := decR_len20 hN
      omega
    have hnn : ¬ 9223372036854775807 < 1 + xs.length := by omega
    by_cases hm0 : m = 0
    · subst hm0
      go_wp2
      go_ret
      have e1 : decR N = xs := by rw [← hst.out, decR_zero]; rfl
      refine ⟨?_, hb⟩
      rw [e1, show strOfNums (45 :: xs) = (⟨#[45]⟩ : ByteArray) ++ strOfNums xs from (strOfNums_append [45] xs).symm]
      rfl
    · have hmp : 0 < m := by omega
      have hs1 : ∀ b : Int, (strOfNums [b]).size = 1 := fun b => rfl
      have hone := fun b => strOf_one (w := wr) (b := b)
      have hz : (-(m : Int) == 0) = false := by simp; omega
      by_cases hd : m % 10 = 0
      all_goals
        go_wp2_with (first | (go_at_call 12; refine (fig_any _ _ (by omega) (by omega)).mono ?_; rintro e w1 ⟨rfl, rfl⟩))
        go_roundw
        case rel =>
          refine ⟨m / 10, figI (m % 10) :: xs, by go_num, by omega, ?_, ?_, hb.alloc hsz _⟩
          · show Value.string _ = Value.string (strOfNums ([figI (m % 10)] ++ xs))
            rw [← strOfNums_append]
            try rw [show (-((m : Int) % 10)).toNat = m % 10 from by omega]
          · show decR (m / 10) ++ figI (m % 10) :: xs = decR N
            rw [← hst.out, decR_pos hm0, figI, if_pos (by omega)]
            simp
        case measure => simp [intOf]; omega

set_option maxHeartbeats 400000 in
theorem implDec (n : Int) (w : World) (h0 : -9223372036854775808 ≤ n) (h1 : n ≤ 9223372036854775807) (htab : Hid (Lib.TabIs Tryd.prog w "internal/strconv.uint64pow10" .u64 Lib.pow10Tab)) :
    Calls Tryd.prog 6 #[.int .i64 n] w fun e w' => e = .returned (.string ⟨(Lib.itoa n).toArray⟩) ∧ Below w.heap.size w w' := by
  go_enter Tryd.func6, Tryd.ntmps6
  go_wp2_with (first | (go_at_call 13; refine (itoa_below_call n h0 h1 _ htab.out).mono ?_; rintro e w1 ⟨rfl, hb1⟩))
  go_ret
  exact ⟨rfl, hb1⟩

theorem specDec (n : Int) (w : World) (h0 : -9223372036854775808 ≤ n) (h1 : n ≤ 9223372036854775807) :
    Calls Tryd.prog 5 #[.int .i64 n] w fun e w' => e = .returned (.string ⟨(Lib.itoa n).toArray⟩) ∧ Below w.heap.size w w' := by
  by_cases h : n < 0
  · obtain ⟨N, rfl⟩ : ∃ N : Nat, n = -(N : Int) := ⟨n.natAbs, by omega⟩
    rw [itoa_below N (by omega)]
    exact dec_neg N w (by omega) (by omega)
  · obtain ⟨N, rfl⟩ : ∃ N : Nat, n = (N : Int) := ⟨n.toNat, by omega⟩
    rw [itoa_pos N]
    by_cases hz : N = 0
    · subst hz; exact dec_zero w
    · exact dec_pos N w (by omega) (by omega)

set_option maxHeartbeats 400000 in
theorem lawDec (n : Int) (w : World) (h0 : -9223372036854775808 ≤ n) (h1 : n ≤ 9223372036854775807) (htab : Hid (∀ w', Below w.heap.size w w' → Lib.TabIs Tryd.prog w' "internal/strconv.uint64pow10" .u64 Lib.pow10Tab)) :
    Calls Tryd.prog 3 #[.int .i64 n] w fun e w' => e = .returned (.bool true) ∧ Below w.heap.size w w' := by
  go_enter Tryd.func3, Tryd.ntmps3
  go_wp2_with (first | (go_at_call 5; refine (specDec n _ h0 h1).mono ?_; rintro e w1 ⟨rfl, hb1⟩) | (go_at_call 6; refine (implDec n _ h0 h1 (htab.out _ hb1)).mono ?_; rintro e w2 ⟨rfl, hb2⟩))
  go_ret
  exact ⟨rfl, hb1.trans (hb2.mono hb1.size)⟩
end Go.Proofs.YtiebfakfgmckiaaDoor
