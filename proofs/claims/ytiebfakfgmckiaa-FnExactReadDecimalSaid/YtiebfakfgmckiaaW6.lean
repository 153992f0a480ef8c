/- The walks over Hex, of the program and of the specification, and the law on Hex. -/
import Derived.Test.YtiebfakfgmckiaaW1
import Derived.Test.YtiebfakfgmckiaaStep
import Derived.Deep.RegionHeld3
namespace Go.Proofs.Ytiebfakfgmckiaa
open Go.RowKit Pl
set_option linter.unusedVariables false

theorem ret_int {k : IntKind} {a b : Int} (h : a = b) : Ending.returned (.int k a) = .returned (.int k b) := by rw [h]

set_option maxHeartbeats 400000 in
theorem fig_any (x : Int) (w : World) (h0 : 0 ≤ x) (h1 : x < 16) :
    Calls Try.prog 27 #[.int .i64 x] w fun e w' => e = .returned (.int .u8 (figI x.toNat)) ∧ w' = w := by
  by_cases h : x < 10
  · go_enter Try.func27, Try.ntmps27
    go_wp2
    go_ret
    exact ⟨ret_int (by rw [figI, if_pos (by omega)]; omega), rfl⟩
  · go_enter Try.func27, Try.ntmps27
    go_wp2
    go_ret
    exact ⟨ret_int (by rw [figI, if_neg (by omega)]; omega), rfl⟩

set_option maxRecDepth 100000 in
set_option maxHeartbeats 1000000 in
theorem specHex_in (s : ByteArray) (w : World) (hs : s.size ≤ 20000) :
    Calls Try.prog 18 #[.string s] w fun e w' => e = .returned (.tuple #[.string (hexS s), .bool true]) ∧ Below w.heap.size w w' := by
  go_enter Try.func18, Try.ntmps18
  go_wp2
  go_loopw [4, 5] (fun v i wr => ∃ k : Nat, k ≤ s.size ∧ i = .int .i64 k ∧ OwnB wr w.heap.size 5 v (hexI (s.data.toList.take k)) ∧ Below w.heap.size w wr) (fun _ i _ => s.size - (intOf i).toNat)
  case atStart => exact ⟨0, by omega, rfl, OwnB.made w _ 5 #[] 0 (Nat.le_refl _) (by decide) rfl, (Below.refl _ _).alloc (Nat.le_refl _) _⟩
  case round =>
    obtain ⟨k, hk, rfl, hown, hb⟩ := hrel
    have hsz := hb.size
    by_cases hlt : k < s.size
    · have hc : (s[k]'hlt).toNat < 256 := UInt8.toNat_lt _
      have hl : (hexI (s.data.toList.take k)).length ≤ 2 * s.size := by rw [hexI_length, List.length_take]; omega
      have hq1 : (0 : Int) ≤ (k : Int) := by omega
      have hq2 : (k : Int) < (s.size : Int) := by omega
      have hw1 : IntKind.i64.wrap ((s[k]'hlt).toNat : Int) = ((s[k]'hlt).toNat : Int) := by rw [IntKind.wrap_i64]; omega
      have hw2 : IntKind.i64.wrap (((s[k]'hlt).toNat : Int) / 16) = ((s[k]'hlt).toNat : Int) / 16 := by rw [IntKind.wrap_i64]; omega
      have hw3 : IntKind.i64.wrap (((s[k]'hlt).toNat : Int) % 16) = ((s[k]'hlt).toNat : Int) % 16 := by rw [IntKind.wrap_i64]; omega
      have hw4 : ((s[k]'hlt).toNat : Int).tmod 16 = ((s[k]'hlt).toNat : Int) % 16 := Int.tmod_eq_emod_of_nonneg (by omega)
      go_wp2
      go_region_held3 (fun _ => True) (trivial) (first | (refine step_pushB (by rfl) _ _ 36 5 (by rfl) Try.underlying36 Try.info5 w.heap.size _ (hexI (s.data.toList.take k)) (by rfl) (hown.alloc _).drew [figI (((s[k]'hlt).toNat : Int) / 16).toNat, figI (((s[k]'hlt).toNat : Int) % 16).toNat] _ 2 2 (by rfl) rfl (World.news_of_block (heap_alloc_new wr _)) (by omega) (by simp; omega) ?_; intro v1 w1 hown1 hb1) | (go_at_call 27; refine (fig_any _ _ (by omega) (by omega)).mono ?_; rintro e w1 ⟨rfl, rfl⟩))
      all_goals
        go_wp2
        go_roundw
        case rel =>
          have e1 : (((s[k]'hlt).toNat : Int) / 16).toNat = (s[k]'hlt).toNat / 16 := by omega
          have e2 : (((s[k]'hlt).toNat : Int) % 16).toNat = (s[k]'hlt).toNat % 16 := by omega
          rw [e1, e2] at hown1
          exact ⟨k + 1, by omega, by go_num, by rw [hexI_snoc s k hlt]; exact hown1, ((hb.alloc hsz _).drew).trans hb1⟩
        case measure => simp [intOf]; omega
    · have hcv := conv_own Try.underlying36 Try.underlying5 Try.underlying9 hown
      go_wp2
      go_ret2
      exact ⟨by rw [List.take_of_length_le (by simpa using hlt)]; rfl, hb⟩

theorem figs_at (x : Nat) (h : x < 16) : (((⟨#[48, 49, 50, 51, 52, 53, 54, 55, 56, 57, 97, 98, 99, 100, 101, 102]⟩ : ByteArray)[x]'(by simpa [ByteArray.size] using h)).toNat : Int) = figI x := by
  have : ∀ y : Fin 16, (((⟨#[48, 49, 50, 51, 52, 53, 54, 55, 56, 57, 97, 98, 99, 100, 101, 102]⟩ : ByteArray)[y.val]'(by simp [ByteArray.size])).toNat : Int) = figI y.val := by decide
  exact this ⟨x, h⟩

theorem idx16 (x : Int) (w : World) (h0 : 0 ≤ x) (h1 : x < 16) :
    (Instr.index 9 (.string ⟨#[48, 49, 50, 51, 52, 53, 54, 55, 56, 57, 97, 98, 99, 100, 101, 102]⟩) (.int .u8 x)).run Try.prog w = .ok (.int .u8 (figI x.toNat)) w := by
  have hx : x.toNat < 16 := by omega
  rw [run_index_string w 9 _ .u8 x Try.underlying9]
  have hb : 0 ≤ x ∧ x < ((⟨#[48, 49, 50, 51, 52, 53, 54, 55, 56, 57, 97, 98, 99, 100, 101, 102]⟩ : ByteArray).size : Int) := ⟨h0, by simpa [ByteArray.size] using h1⟩
  rw [dif_pos hb, figs_at x.toNat hx]

set_option maxRecDepth 100000 in
set_option maxHeartbeats 1000000 in
theorem implHex_in (s : ByteArray) (w : World) (hs : s.size ≤ 20000) :
    Calls Try.prog 19 #[.string s] w fun e w' => e = .returned (.tuple #[.string (hexS s), .bool true]) ∧ Below w.heap.size w w' := by
  go_enter Try.func19, Try.ntmps19
  go_wp2_with (first | (at_make; refine wpList_makeB rfl _ _ 36 5 rfl Try.underlying36 Try.info5 w.heap.size _ _ _ (2 * s.size) rfl rfl (by omega) (by omega) (Nat.le_refl _) ?_; intro v0 w0 hown0 hb0))
  go_loopw [4, 5] (fun v i wr => ∃ k : Nat, k ≤ s.size ∧ i = .int .i64 k ∧ OwnB wr w.heap.size 5 v (hexI (s.data.toList.take k)) ∧ Below w.heap.size w wr) (fun _ i _ => s.size - (intOf i).toNat)
  case atStart => exact ⟨0, by omega, rfl, hown0, hb0⟩
  case round =>
    obtain ⟨k, hk, rfl, hown, hb⟩ := hrel
    have hsz := hb.size
    by_cases hlt : k < s.size
    · have hc : (s[k]'hlt).toNat < 256 := UInt8.toNat_lt _
      have hl : (hexI (s.data.toList.take k)).length ≤ 2 * s.size := by rw [hexI_length, List.length_take]; omega
      have hq1 : (0 : Int) ≤ (k : Int) := by omega
      have hq2 : (k : Int) < (s.size : Int) := by omega
      have hw1 : ((s[k]'hlt).toNat : Int).tdiv 16 = ((s[k]'hlt).toNat : Int) / 16 := Int.tdiv_eq_ediv_of_nonneg (by omega)
      have hw2 : ((s[k]'hlt).toNat : Int).tmod 16 = ((s[k]'hlt).toNat : Int) % 16 := Int.tmod_eq_emod_of_nonneg (by omega)
      have hw3 : IntKind.u8.wrap (((s[k]'hlt).toNat : Int) / 16) = ((s[k]'hlt).toNat : Int) / 16 := by rw [IntKind.wrap_u8]; omega
      have hw4 : IntKind.u8.wrap (((s[k]'hlt).toNat : Int) % 16) = ((s[k]'hlt).toNat : Int) % 16 := by rw [IntKind.wrap_u8]; omega
      have hx1 := fun W => idx16 (((s[k]'hlt).toNat : Int) / 16) W (by omega) (by omega)
      have hx2 := fun W => idx16 (((s[k]'hlt).toNat : Int) % 16) W (by omega) (by omega)
      go_wp2
      go_region_held3 (fun _ => True) (trivial) ((refine step_pushB (by rfl) _ _ 36 5 (by rfl) Try.underlying36 Try.info5 w.heap.size _ (hexI (s.data.toList.take k)) (by rfl) (hown.alloc _).drew [figI (((s[k]'hlt).toNat : Int) / 16).toNat, figI (((s[k]'hlt).toNat : Int) % 16).toNat] _ 2 2 (by rfl) rfl (World.news_of_block (heap_alloc_new wr _)) (by omega) (by simp; omega) ?_; intro v1 w1 hown1 hb1))
      all_goals
        go_wp2
        go_roundw
        case rel =>
          have e1 : (((s[k]'hlt).toNat : Int) / 16).toNat = (s[k]'hlt).toNat / 16 := by omega
          have e2 : (((s[k]'hlt).toNat : Int) % 16).toNat = (s[k]'hlt).toNat % 16 := by omega
          rw [e1, e2] at hown1
          exact ⟨k + 1, by omega, by go_num, by rw [hexI_snoc s k hlt]; exact hown1, ((hb.alloc hsz _).drew).trans hb1⟩
        case measure => simp [intOf]; omega
    · have hcv := conv_own Try.underlying36 Try.underlying5 Try.underlying9 hown
      go_wp2
      go_ret2
      exact ⟨by rw [List.take_of_length_le (by simpa using hlt)]; rfl, hb⟩

set_option maxHeartbeats 400000 in
theorem specHex_out (s : ByteArray) (w : World) (hs : 20000 < s.size) :
    Calls Try.prog 18 #[.string s] w fun e w' => e = .returned (.tuple #[.string ByteArray.empty, .bool false]) ∧ w' = w := by
  go_enter Try.func18, Try.ntmps18
  go_wp2
  go_ret2
  exact ⟨rfl, rfl⟩

set_option maxHeartbeats 400000 in
theorem implHex_out (s : ByteArray) (w : World) (hs : 20000 < s.size) :
    Calls Try.prog 19 #[.string s] w fun e w' => e = .returned (.tuple #[.string ByteArray.empty, .bool false]) ∧ w' = w := by
  go_enter Try.func19, Try.ntmps19
  go_wp2
  go_ret2
  exact ⟨rfl, rfl⟩

set_option maxHeartbeats 400000 in
theorem lawHex (s : ByteArray) (w : World) (hs : s.size ≤ maxLen) :
    Calls Try.prog 7 #[.string s] w fun e w' => e = .returned (.bool true) ∧ Below w.heap.size w w' := by
  unfold maxLen at hs
  by_cases hl : 1048576 < s.size
  · go_enter Try.func7, Try.ntmps7
    go_wp2
    go_ret
    exact ⟨rfl, Below.refl _ _⟩
  · by_cases ha : s.size ≤ 20000
    · go_enter Try.func7, Try.ntmps7
      go_wp2_with (first | (go_at_call 18; refine (specHex_in s _ ha).mono ?_; rintro e w1 ⟨rfl, hb1⟩) | (go_at_call 19; refine (implHex_in s _ ha).mono ?_; rintro e w2 ⟨rfl, hb2⟩))
      go_ret
      exact ⟨rfl, hb1.trans (hb2.mono hb1.size)⟩
    · have ha' : 20000 < s.size := by omega
      clear ha
      go_enter Try.func7, Try.ntmps7
      go_wp2_with (first | (go_at_call 18; refine (specHex_out s _ ha').mono ?_; rintro e w1 ⟨rfl, rfl⟩) | (go_at_call 19; refine (implHex_out s _ ha').mono ?_; rintro e w2 ⟨rfl, rfl⟩))
      go_ret
      exact ⟨rfl, Below.refl _ _⟩
end Go.Proofs.Ytiebfakfgmckiaa
