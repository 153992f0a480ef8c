/- The walk over the program's Decimal. -/
import Derived.Test.YtbnbobkhfafbkaaDoorV5
import Derived.Test.YtbnbobkhfafbkaaDoorIt
import Derived.Test.YtbnbobkhfafbkaaDoorIta
namespace Go.Proofs.YtbnbobkhfafbkaaDoor
open Go.RowKit Pl
set_option linter.unusedVariables false

set_option maxHeartbeats 400000 in
theorem implDec (n : Nat) (w : World) (hn : n ≤ 1000000000) (htab : Hid (Lib.TabIs Tryd.prog w "internal/strconv.uint64pow10" .u64 Lib.pow10Tab)) :
    Calls Tryd.prog 9 #[.int .i64 n] w fun e w' => e = .returned (.string (decS n)) ∧ Below w.heap.size w w' := by
  have hc := fun w h => itoa_below_call (n : Int) (by omega) (by omega) w h
  rw [itoa_pos n] at hc
  go_enter Tryd.func9, Tryd.ntmps9
  go_wp2_with (first | (go_at_call 18; refine (hc _ htab.out).mono ?_; rintro e w1 ⟨rfl, hb1⟩))
  go_ret
  exact ⟨rfl, hb1⟩

theorem implRd_dec (n : Nat) (w : World) (hn : n ≤ 1000000000) :
    Calls Tryd.prog 8 #[.string (decS n)] w fun e w' => e = .returned (.tuple #[.int .i64 n, .bool true]) ∧ Below w.heap.size w w' := by
  obtain ⟨h1, h2⟩ := decS_size n hn
  have h := implRd_ok (decS n) w h2 ⟨allFig_dec n, by rw [dv_dec]; exact hn, h1, dec_head n h1⟩
  rw [dv_dec] at h
  exact h
end Go.Proofs.YtbnbobkhfafbkaaDoor
