/- The law on cuts, walked. -/
import Derived.Test.YtjjaklhpdckppaaD3
namespace Go.Proofs.Ytjjaklhpdckppaa
open Go.RowKit Pl
set_option linter.unusedVariables false

set_option maxRecDepth 100000 in
set_option maxHeartbeats 4000000 in
theorem lawCuts (W : World) (n cap : Nat) (ao : Option Addr) (hk : Hid (CodeAt W W.heap.size ao n)) :
    Calls Try.prog 3 #[.slice ao n cap] W fun e w' => e = .returned (.bool true) ∧ Below W.heap.size W w' := by
  by_cases hn : n ≤ 1048576
  · have hbig : decide (1048576 < (n : Int)) = false := by simp; omega
    go_enter Try.func3, Try.ntmps3
    go_wp2_with (first | (go_at_call 5; refine (big_any _ n cap ao false hbig).mono ?_; rintro e w1 ⟨rfl, rfl⟩) | (go_at_call 6; refine (drawCut _ n cap ao hn hk).mono ?_; rintro e w2 ⟨⟨s, v, zs, rfl, hs, hl, hown⟩, hb2⟩))
    obtain ⟨us, hus⟩ : ∃ us, us = pieces s (cutsL s.size zs) := ⟨_, rfl⟩
    have hul0 := pieces_len s (cutsL s.size zs)
    have hul1 := cutsL_length s.size zs
    rw [← hus] at hul0
    have HUS : Hid (pieces s (cutsL s.size zs) = us) := hus.symm
    have HCAT : Hid (catL us = s) := by rw [hus]; exact cat_cuts s zs
    have hu1 : 1 ≤ us.length := by omega
    have hu2 : us.length ≤ zs.length + 1 := by omega
    clear hus hul0 hul1
    have hc := implCutV w2 _ v s zs hown.out (by omega) (by omega)
    rw [HUS.out] at hc
    go_wp2_with fail
    refine hc.mono ?_
    rintro e w3 ⟨u, rfl, hu, hb3⟩
    clear hc
    have hown3 : Hid (OwnI w3 (w1.heap.size + 1) v zs) := hown.out.stays hb3 (fun k hk => (hown.out.lt k hk).2)
    have hB3 : Hid (Below w1.heap.size w1 w3) := hb2.trans (hb3.mono hb2.size)
    have hu3 : Hid (OwnS w3 w2.heap.size u us) := hu
    obtain ⟨gu, capu, rfl, _, hgu, hcu0, _⟩ := hu.some (by omega)
    have hcu : Hid (∀ j, (hj : j < us.length) → w3.cell? ⟨gu, j, none⟩ = some (.string us[j])) := hcu0
    clear hcu0 hu hb3 hb2 hown
    obtain ⟨aov, capv, rfl, _⟩ := hown3.out.ints
    go_wp2
    go_loop [6, 7] (fun t i => ∃ k : Nat, k ≤ us.length ∧ i = .int .i64 k ∧ t = .string (catL (us.take k))) (fun _ i => us.length - (intOf i).toNat)
    case atStart => exact ⟨0, by omega, rfl, rfl⟩
    case round =>
      obtain ⟨k, hk1, rfl, rfl⟩ := hrel
      by_cases hlt : k < us.length
      · have hce := hcu.out k hlt
        have HN : Hid (catL (us.take (k + 1)) = catL (us.take k) ++ us[k]) := catL_take hlt
        have hlim : (catL (us.take k) ++ us[k]).size < 12 := by
          rw [← HN.out]
          have := catL_take_size us (k + 1)
          rw [HCAT.out] at this
          omega
        rw [ByteArray.size_append] at hlim
        generalize us[k] = t at *
        generalize catL (us.take k) = a at *
        go_wp2
        go_round
        case rel => exact ⟨k + 1, by omega, by go_num, by rw [HN.out]⟩
        case measure => simp [intOf]; omega
      · obtain rfl : k = us.length := by omega
        rw [List.take_length, HCAT.out]
        have hsame : (s.toList == s.toList) = true := by simp
        have X9 := specCutV w3 _ _ s zs hown3.out (by omega) (by omega)
        rw [HUS.out] at X9
        have X8 : ∀ (w4 : World) (u4 : Value), OwnS w4 w3.heap.size u4 us → Below w3.heap.size w3 w4 → Calls Try.prog 8 #[.slice (some ⟨gu, 0, none⟩) us.length capu, u4] w4 fun e w' => e = .returned (.bool true) ∧ Below w4.heap.size w4 w' := fun w4 u4 h4 hb4 =>
          same_same _ _ us _ _ w4 (hu3.out.stays hb4 (fun k hk => (hu3.out.lt k hk).2)) h4 (by omega)
        go_wp2_with (first | (go_at_call 9; refine X9.mono ?_; rintro e w4 ⟨u4, rfl, hu4, hb4⟩) | (go_at_call 8; refine (X8 w4 u4 hu4 hb4).mono ?_; rintro e w5 ⟨rfl, hb5⟩))
        go_ret
        exact ⟨rfl, hB3.out.trans ((hb4.trans (hb5.mono hb4.size)).mono hB3.out.size)⟩
  · have hbig : decide (1048576 < (n : Int)) = true := by simp; omega
    go_enter Try.func3, Try.ntmps3
    go_wp2_with (first | (go_at_call 5; refine (big_any _ n cap ao true hbig).mono ?_; rintro e w1 ⟨rfl, rfl⟩))
    go_ret
    exact ⟨rfl, Below.refl _ _⟩
end Go.Proofs.Ytjjaklhpdckppaa
