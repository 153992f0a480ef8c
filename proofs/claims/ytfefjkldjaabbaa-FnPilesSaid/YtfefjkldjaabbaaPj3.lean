/- Joined texts: V1 Wn. -/
import Derived.Test.YtfefjkldjaabbaaChecked
import Derived.Test.YtfefjkldjaabbaaPj1
import Derived.Test.YtfefjkldjaabbaaPj2
import Derived.Laws.BytesArg
import Derived.Below
import Derived.WalkKit
import Derived.WalkSpells
import Derived.WalkLawsBesides
/- The walks over VarText and ReadVar of the program, over the digits of the specification, and over one byte as a text. -/
namespace Go.Proofs.Ytfefjkldjaabbaa
open Go.RowKit Pl
set_option linter.unusedVariables false

theorem Try.info5 : (Try.prog.info? 5).map (fun i => (i.zero, i.size, i.bytes)) = some (some (.int .u8 0), 1, 1) := by kernel_rfl

set_option maxHeartbeats 400000 in
theorem implVar_yes (N : Nat) (w : World) (hN : N ≤ 1000000000) :
    Calls Try.prog 51 #[.int .i64 N] w fun e w' => e = .returned (.tuple #[.string (varS N), .bool true]) ∧ Below w.heap.size w w' := by
  go_enter Try.func51, Try.ntmps51
  go_wp2_with (first | (at_make; refine wpList_makeB rfl _ _ 22 5 rfl Try.underlying22 Try.info5 w.heap.size _ _ _ 5 rfl rfl (by omega) (by omega) (Nat.le_refl _) ?_; intro v0 w0 hown0 hb0))
  go_loopw [0, 4] (fun n v wr => ∃ (m : Nat) (xs : List Int), n = .int .i64 m ∧ Hid (VarSt N m xs) ∧ m ≤ N ∧ xs.length ≤ N ∧ OwnB wr w.heap.size 5 v xs ∧ Below w.heap.size w wr) (fun n _ _ => (intOf n).toNat)
  case atStart => exact ⟨N, [], rfl, varSt_start N, by omega, by simp, hown0, hb0⟩
  case round =>
    obtain ⟨m, xs, rfl, hst, hm, hx, hown, hb⟩ := hrel
    have hsz := hb.size
    by_cases hm1 : 127 < m
    · go_wp2_with (first | (at_builtin; refine wpList_push rfl _ _ 22 5 rfl Try.underlying22 Try.info5 w.heap.size _ xs rfl hown _ rfl (by omega) (by omega) ?_; intro v1 w1 hown1 hb1))
      go_roundw
      case rel =>
        have h2 := varSt_step hst.out hm1
        exact ⟨m / 128, _, by go_num, h2, by omega, by have := h2.2.2; omega, hown1, hb.trans hb1⟩
      case measure => simp [intOf]; omega
    · go_wp2_with (first | (at_builtin; refine wpList_push rfl _ _ 22 5 rfl Try.underlying22 Try.info5 w.heap.size _ xs rfl hown _ rfl (by omega) (by omega) ?_; intro v1 w1 hown1 hb1; have hcv := conv_own Try.underlying22 Try.underlying5 Try.underlying9 hown1))
      go_ret2
      exact ⟨by rw [← varSt_end hst.out hm1]; rfl, hb.trans hb1⟩

set_option maxHeartbeats 1000000 in
theorem implRv_in (s : ByteArray) (A : Nat) (w : World) (hs : s.size ≤ 1048576) (hA : A ≤ s.size) :
    Calls Try.prog 64 #[.string s, .int .i64 A] w fun e w' => e = .returned (rvT (rv s A)) ∧ w' = w := by
  go_enter Try.func64, Try.ntmps64
  go_wp2
  all_goals
    go_loop [7, 8, 9] (fun n sc i => ∃ k m S : Nat, A + k ≤ s.size ∧ n = .int .i64 m ∧ m < S ∧ sc = .int .i64 S ∧ i = .int .i64 ((A + k : Nat) : Int) ∧ PowS k S ∧ Hid (RvSt s A k m S)) (fun _ _ i => s.size - (intOf i).toNat)
    case atStart => exact ⟨0, 0, 1, by omega, rfl, by decide, rfl, rfl, .inl ⟨rfl, rfl⟩, rvSt_start s A⟩
    case round =>
      obtain ⟨k, m, S, hk2, rfl, hm, rfl, rfl, hp, hst⟩ := hrel
      by_cases hlt : A + k < s.size ∧ k < 5
      · obtain ⟨hlt, hk5⟩ := hlt
        have hb : (s[A + k]'hlt).toNat < 256 := UInt8.toNat_lt _
        rcases hp with ⟨rfl, rfl⟩ | ⟨rfl, rfl⟩ | ⟨rfl, rfl⟩ | ⟨rfl, rfl⟩ | ⟨rfl, rfl⟩ | ⟨rfl, rfl⟩
        all_goals first | (exfalso; omega) | (simp only [Nat.add_zero] at hb) | skip
        all_goals go_wp2
        all_goals first
          | (go_round
             case rel => exact rvNext hst.out (by omega) hlt (by first | omega | (simp only [Nat.add_zero]; omega)) hm (by simp [PowS]) (by first | go_num | (simp only [Nat.add_zero]; go_num)) (by go_num) (by go_num)
             case measure => simp [intOf]; omega)
          | (go_ret3; exact ⟨rvT_bad (rvSt_bad hst.out (by omega) hlt (by first | omega | (simp only [Nat.add_zero]; omega)) (by first | omega | (simp only [Nat.add_zero]; omega))), rfl⟩)
          | (go_ret3; exact ⟨rvT_good (rvSt_good hst.out (by omega) hlt (by first | omega | (simp only [Nat.add_zero]; omega)) (by first | omega | (simp only [Nat.add_zero]; omega)) (by first | omega | (simp only [Nat.add_zero]; omega))) (by first | omega | (simp only [Nat.add_zero]; omega)) (by omega), rfl⟩)
      · have hend : s.size ≤ A + k ∨ 5 ≤ k := by omega
        unfold PowS at hp
        go_wp2
        go_ret3
        exact ⟨rvT_bad (rvSt_out hst.out (by omega)), rfl⟩

theorem implRv_some (s : ByteArray) (A n i : Nat) (w : World) (hs : s.size ≤ 1048576) (hA : A ≤ s.size) (h : rv s A = some (n, i)) :
    Calls Try.prog 64 #[.string s, .int .i64 A] w fun e w' => e = .returned (.tuple #[.int .i64 n, .int .i64 i, .bool true]) ∧ w' = w := by
  have := implRv_in s A w hs hA
  rw [h] at this
  exact this
theorem varS_size (N : Nat) (h : N ≤ 68719476736) : (varS N).size ≤ 68719476737 := by
  rw [varS, strOfNums_size]
  have := varI_length N
  omega


set_option maxHeartbeats 400000 in
theorem l01Var_any (N : Nat) (w : World) (hN : N ≤ 68719476736) :
    Calls Try.prog 42 #[.int .i64 N] w fun e w' => e = .returned (.string (varS N)) ∧ Below w.heap.size w w' := by
  go_enter Try.func42, Try.ntmps42
  go_wp2
  go_loopw [0, 3] (fun n v wr => ∃ (m : Nat) (xs : List Int), n = .int .i64 m ∧ Hid (VarSt N m xs) ∧ m ≤ N ∧ xs.length ≤ N ∧ OwnB wr w.heap.size 5 v xs ∧ Below w.heap.size w wr) (fun n _ _ => (intOf n).toNat)
  case atStart => exact ⟨N, [], rfl, varSt_start N, by omega, by simp, OwnB.made w _ 5 #[] 0 (Nat.le_refl _) (by decide) rfl, (Below.refl _ _).alloc (Nat.le_refl _) _⟩
  case round =>
    obtain ⟨m, xs, rfl, hst, hm, hx, hown, hb⟩ := hrel
    have hsz := hb.size
    by_cases hm1 : 127 < m
    · go_wp2_with (first | (at_builtin; refine wpList_push rfl _ _ 22 5 rfl Try.underlying22 Try.info5 w.heap.size _ xs rfl hown _ rfl (by omega) (by omega) ?_; intro v1 w1 hown1 hb1))
      go_roundw
      case rel =>
        have h2 := varSt_step hst.out hm1
        exact ⟨m / 128, _, by go_num, h2, by omega, by have := h2.2.2; omega, hown1, hb.trans hb1⟩
      case measure => simp [intOf]; omega
    · go_wp2_with (first | (at_builtin; refine wpList_push rfl _ _ 22 5 rfl Try.underlying22 Try.info5 w.heap.size _ xs rfl hown _ rfl (by omega) (by omega) ?_; intro v1 w1 hown1 hb1; have hcv := conv_own Try.underlying22 Try.underlying5 Try.underlying9 hown1))
      go_ret
      exact ⟨by rw [← varSt_end hst.out hm1]; rfl, hb.trans hb1⟩

theorem l01Var_at (a : Int) (w : World) (h0 : 0 ≤ a) (h1 : a ≤ 68719476736) :
    Calls Try.prog 42 #[.int .i64 a] w fun e w' => e = .returned (.string (varS a.toNat)) ∧ Below w.heap.size w w' := by
  obtain ⟨N, rfl⟩ : ∃ N : Nat, a = N := ⟨a.toNat, by omega⟩
  exact l01Var_any N w (by omega)


theorem implRv_none (s : ByteArray) (A : Nat) (w : World) (hs : s.size ≤ 1048576) (hA : A ≤ s.size) (h : rv s A = none) :
    Calls Try.prog 64 #[.string s, .int .i64 A] w fun e w' => e = .returned (.tuple #[.int .i64 0, .int .i64 0, .bool false]) ∧ w' = w := by
  have := implRv_in s A w hs hA
  rw [h] at this
  exact this

theorem conv_one {w : World} {a : Int} : (convert 22 9 (.slice (some ⟨w.heap.size, 0, none⟩) 1 1)).run Try.prog (w.alloc (.cells #[.int .u8 a] 5)) = .ok (.string (strOfNums [a])) (w.alloc (.cells #[.int .u8 a] 5)) := by
  refine run_convert_bytes_arg (P := Try.prog) _ 22 5 Try.underlying22 Try.underlying5 w.heap.size 0 1 1 [a] rfl (fun i hi => ?_) 9 Try.underlying9
  obtain rfl : i = 0 := by omega
  rw [cell_of_row _ w.heap.size (0 + 0) _ 5 (0, 0) (heap_alloc_new w _)]
  rfl

set_option maxHeartbeats 400000 in
theorem varOf_any (N : Nat) (w : World) (hN : N ≤ 1000000000) :
    Calls Try.prog 40 #[.int .i64 N] w fun e w' => e = .returned (.string (varS N)) ∧ Below w.heap.size w w' := by
  go_enter Try.func40, Try.ntmps40
  go_wp2_with (first | (go_at_call 51; refine (implVar_yes N _ hN).mono ?_; rintro e w1 ⟨rfl, hb1⟩))
  go_ret
  exact ⟨rfl, hb1⟩

end Go.Proofs.Ytfefjkldjaabbaa

/- The walks over the tests whether a number lies between two others, of the program and of the specification. -/
namespace Go.Proofs.Ytfefjkldjaabbaa
open Go.RowKit
set_option linter.unusedVariables false

theorem in_any (n a b : Int) (w : World) : Calls Try.prog 41 #[.int .i64 n, .int .i64 a, .int .i64 b] w fun e w' => e = .returned (.bool (decide (a ≤ n ∧ n ≤ b))) ∧ w' = w := by
  by_cases h1 : a ≤ n
  · by_cases h2 : n ≤ b
    · have hd : decide (a ≤ n ∧ n ≤ b) = true := by simp; omega
      rw [hd]
      go_enter Try.func41, Try.ntmps41
      go_wp2
      go_ret
      exact ⟨rfl, rfl⟩
    · have hd : decide (a ≤ n ∧ n ≤ b) = false := by simp; omega
      rw [hd]
      go_enter Try.func41, Try.ntmps41
      go_wp2
      go_ret
      exact ⟨rfl, rfl⟩
  · have hd : decide (a ≤ n ∧ n ≤ b) = false := by simp; omega
    rw [hd]
    go_enter Try.func41, Try.ntmps41
    go_wp2
    go_ret
    exact ⟨rfl, rfl⟩

theorem within_any (n a b : Int) (w : World) : Calls Try.prog 37 #[.int .i64 n, .int .i64 a, .int .i64 b] w fun e w' => e = .returned (.bool (decide (a ≤ n ∧ n ≤ b))) ∧ w' = w := by
  by_cases h1 : a ≤ n
  · by_cases h2 : n ≤ b
    · have hd : decide (a ≤ n ∧ n ≤ b) = true := by simp; omega
      rw [hd]
      go_enter Try.func37, Try.ntmps37
      go_wp2
      go_ret
      exact ⟨rfl, rfl⟩
    · have hd : decide (a ≤ n ∧ n ≤ b) = false := by simp; omega
      rw [hd]
      go_enter Try.func37, Try.ntmps37
      go_wp2
      go_ret
      exact ⟨rfl, rfl⟩
  · have hd : decide (a ≤ n ∧ n ≤ b) = false := by simp; omega
    rw [hd]
    go_enter Try.func37, Try.ntmps37
    go_wp2
    go_ret
    exact ⟨rfl, rfl⟩

theorem in_is {n a b : Int} {r : Bool} (w : World) (h : decide (a ≤ n ∧ n ≤ b) = r) : Calls Try.prog 41 #[.int .i64 n, .int .i64 a, .int .i64 b] w fun e w' => e = .returned (.bool r) ∧ w' = w := by
  rw [← h]; exact in_any n a b w
theorem within_is {n a b : Int} {r : Bool} (w : World) (h : decide (a ≤ n ∧ n ≤ b) = r) : Calls Try.prog 37 #[.int .i64 n, .int .i64 a, .int .i64 b] w fun e w' => e = .returned (.bool r) ∧ w' = w := by
  rw [← h]; exact within_any n a b w
end Go.Proofs.Ytfefjkldjaabbaa

