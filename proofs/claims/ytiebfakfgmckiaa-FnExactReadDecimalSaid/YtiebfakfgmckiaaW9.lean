/- The walks over ReadDecimal, of the program and of the specification, and the law on it. -/
import Derived.Test.YtiebfakfgmckiaaW7
import Derived.Test.YtiebfakfgmckiaaDec
import Derived.Test.YtiebfakfgmckiaaW6
namespace Go.Proofs.Ytiebfakfgmckiaa
open Go.RowKit Pl
set_option linter.unusedVariables false

theorem strOfNums_append (xs ys : List Int) : strOfNums xs ++ strOfNums ys = strOfNums (xs ++ ys) := by
  unfold strOfNums
  rw [ByteArray.mk_append_mk, List.map_append]

theorem strOf_one {w : World} {b : Int} : (convert 36 9 (.slice (some ⟨w.heap.size, 0, none⟩) 1 1)).run Try.prog (w.alloc (.cells #[.int .u8 b] 5)) = .ok (.string (strOfNums [b])) (w.alloc (.cells #[.int .u8 b] 5)) := by
  refine run_convert_bytes_arg _ 36 5 Try.underlying36 Try.underlying5 w.heap.size 0 1 1 [b] rfl ?_ 9 Try.underlying9
  intro i hi
  obtain rfl : i = 0 := by omega
  simp

set_option maxRecDepth 100000 in
set_option maxHeartbeats 1000000 in
theorem dec_pos (N : Nat) (w : World) (hN : N ≤ 9999999999) (h0 : 0 < N) :
    Calls Try.prog 30 #[.int .i64 N] w fun e w' => e = .returned (.string (decS N)) ∧ Below w.heap.size w w' := by
  have hN0 : ((N : Int) == 0) = false := by simp; omega
  have hN1 : decide ((N : Int) < 0) = false := by simp
  go_enter Try.func30, Try.ntmps30
  go_wp2
  go_loopw [0, 4] (fun n v wr => ∃ (m : Nat) (xs : List Int), n = .int .i64 m ∧ m ≤ N ∧ v = .string (strOfNums xs) ∧ xs.length + m ≤ N ∧ Hid (decR m ++ xs = decR N) ∧ Below w.heap.size w wr) (fun n _ _ => (intOf n).toNat)
  case atStart => exact ⟨N, [], rfl, Nat.le_refl _, rfl, by simp, List.append_nil _, Below.refl _ _⟩
  case round =>
    obtain ⟨m, xs, rfl, hm, rfl, hx, hst, hb⟩ := hrel
    have hsz := hb.size
    have hss := strOfNums_size xs
    by_cases hm0 : m = 0
    · subst hm0
      go_wp2
      go_ret
      have e1 : decR N = xs := by rw [← hst.out, decR_zero]; rfl
      exact ⟨by rw [decS, decL, if_neg (by omega), e1]; rfl, hb⟩
    · have hmp : 0 < m := by omega
      have hs1 : ∀ b : Int, (strOfNums [b]).size = 1 := fun b => rfl
      have hnn : ¬ 9223372036854775807 < 1 + xs.length := by omega
      have hone := fun b => strOf_one (w := wr) (b := b)
      go_wp2_with (first | (go_at_call 27; refine (fig_any _ _ (by omega) (by omega)).mono ?_; rintro e w1 ⟨rfl, rfl⟩))
      go_roundw
      case rel =>
        refine ⟨m / 10, figI (m % 10) :: xs, by go_num, by omega, ?_, by simp; omega, ?_, hb.alloc hsz _⟩
        · rw [strOfNums_append]; rfl
        · show decR (m / 10) ++ figI (m % 10) :: xs = decR N
          rw [← hst.out, decR_pos hm0, figI, if_pos (by omega)]
          simp
      case measure => simp [intOf]; omega

set_option maxHeartbeats 400000 in
theorem dec_zero (w : World) :
    Calls Try.prog 30 #[.int .i64 0] w fun e w' => e = .returned (.string (decS 0)) ∧ Below w.heap.size w w' := by
  go_enter Try.func30, Try.ntmps30
  go_wp2
  go_ret
  exact ⟨rfl, Below.refl _ _⟩

theorem dec_any (N : Nat) (w : World) (hN : N ≤ 9999999999) :
    Calls Try.prog 30 #[.int .i64 N] w fun e w' => e = .returned (.string (decS N)) ∧ Below w.heap.size w w' := by
  by_cases h : N = 0
  · subst h; exact dec_zero w
  · exact dec_pos N w hN (by omega)

/-- when ReadDecimal takes the text. -/
def DecOk (s : ByteArray) : Prop := AllFig false s s.size ∧ dv s s.size ≤ 1000000000 ∧ ∃ h0 : 0 < s.size, ¬ ((s[0]'h0).toNat = 48 ∧ 1 < s.size)

set_option maxRecDepth 100000 in
set_option maxHeartbeats 1000000 in
theorem specRd_any (s : ByteArray) (w : World) (hs : s.size ≤ 10) :
    Calls Try.prog 22 #[.string s] w fun e w' => Below w.heap.size w w' ∧
      ((DecOk s ∧ e = .returned (.tuple #[.int .i64 (dv s s.size), .bool true])) ∨ (¬ DecOk s ∧ e = .returned (.tuple #[.int .i64 0, .bool false]))) := by
  go_enter Try.func22, Try.ntmps22
  go_wp2
  go_loop [4, 5] (fun n i => ∃ k : Nat, k ≤ s.size ∧ i = .int .i64 k ∧ n = .int .i64 (dv s k) ∧ Hid (AllFig false s k)) (fun _ i => s.size - (intOf i).toNat)
  case atStart => exact ⟨0, by omega, rfl, rfl, allFig_zero false s⟩
  case round =>
    obtain ⟨k, hk, rfl, rfl, hall⟩ := hrel
    have hd := dv_le hk hall.out (by omega)
    by_cases hlt : k < s.size
    · have hc : (s[k]'hlt).toNat < 256 := UInt8.toNat_lt _
      have HST : Hid (dv s (k + 1) = 10 * dv s k + ((s[k]'hlt).toNat - 48)) := dv_step s k hlt
      by_cases hf : 48 ≤ (s[k]'hlt).toNat ∧ (s[k]'hlt).toNat ≤ 57
      · obtain ⟨hf1, hf2⟩ := hf
        go_wp2
        go_round
        case rel =>
          have hst := HST.out
          exact ⟨k + 1, by omega, by go_num, by rw [hst]; go_num, allFig_step hall.out hlt (fig_digit hf1 hf2).1⟩
        case measure => simp [intOf]; omega
      · have hno : Hid (¬ DecOk s) := fun h => by
          have := (figVal_dec (h.1 k hlt hlt)).2
          omega
        rcases (show (s[k]'hlt).toNat < 48 ∨ 57 < (s[k]'hlt).toNat by omega) with h1 | h1
        all_goals
          clear hf
          go_wp2
          go_ret2
          exact ⟨Below.refl _ _, .inr ⟨hno.out, rfl⟩⟩
    · obtain rfl : k = s.size := by omega
      by_cases hbig : 1000000000 < dv s s.size
      · have hno : Hid (¬ DecOk s) := fun h => by
          have := h.2.1
          omega
        go_wp2
        go_ret2
        exact ⟨Below.refl _ _, .inr ⟨hno.out, rfl⟩⟩
      · by_cases hok : ∃ h0 : 0 < s.size, ¬ ((s[0]'h0).toNat = 48 ∧ 1 < s.size)
        · have HOK : Hid (DecOk s) := ⟨hall.out, by omega, hok⟩
          obtain ⟨h0, hok⟩ := hok
          have hcmp := dec_same hall.out h0 hok
          clear hok
          go_wp2_with (first | (go_at_call 30; refine (dec_any _ _ hd).mono ?_; rintro e w1 ⟨rfl, hb1⟩))
          go_ret2
          exact ⟨hb1, .inl ⟨HOK.out, rfl⟩⟩
        · have hno : Hid (¬ DecOk s) := fun h => hok h.2.2
          have hcmp := dec_other (s := s) (by
            by_cases h0 : s.size = 0
            · exact .inl h0
            · refine .inr ⟨by omega, Classical.byContradiction fun h => hok ⟨by omega, h⟩⟩) (dv s s.size)
          clear hok
          go_wp2_with (first | (go_at_call 30; refine (dec_any _ _ hd).mono ?_; rintro e w1 ⟨rfl, hb1⟩))
          go_ret2
          exact ⟨hb1, .inr ⟨hno.out, rfl⟩⟩
end Go.Proofs.Ytiebfakfgmckiaa
