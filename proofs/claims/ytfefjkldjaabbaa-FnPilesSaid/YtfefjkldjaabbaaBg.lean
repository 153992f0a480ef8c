/- The walks over the test for too many drawn bytes and over two lists of texts compared. -/
import Derived.Test.YtfefjkldjaabbaaD1
import Derived.Test.YtfefjkldjaabbaaOwS
import Derived.BigQuiet
namespace Go.Proofs.Ytfefjkldjaabbaa
open Go.RowKit Pl
set_option linter.unusedVariables false

set_option maxRecDepth 100000 in
set_option maxHeartbeats 1000000 in
theorem big_any (w : World) (n cap : Nat) (ao : Option Addr) (b : Bool) (hb : decide (1048576 < (n : Int)) = b) :
    Calls Try.prog 9 #[.slice ao n cap] w fun e w' => e = .returned (.bool b) ∧ w' = w := by
  go_enter Try.func9, Try.ntmps9
  go_wp2
  go_ret
  exact ⟨by rw [← hb]; rfl, rfl⟩

set_option maxRecDepth 100000 in
set_option maxHeartbeats 1000000 in
theorem sameT_any (a1 a2 : Option Addr) (c1 c2 : Nat) (ss : List ByteArray) (w : World) (h1 : Hid (TextsAt w a1 ss)) (h2 : Hid (TextsAt w a2 ss)) (hl : ss.length ≤ 1048577) :
    Calls Try.prog 14 #[.slice a1 ss.length c1, .slice a2 ss.length c2] w fun e w' => e = .returned (.bool true) ∧ Below w.heap.size w w' := by
  go_enter Try.func14, Try.ntmps14
  go_wp2
  go_loopw [5] (fun i wr => ∃ k : Nat, k ≤ ss.length ∧ i = .int .i64 k ∧ Below w.heap.size w wr) (fun i _ => ss.length - (intOf i).toNat)
  case atStart => exact ⟨0, by omega, rfl, Below.refl _ _⟩
  case round =>
    obtain ⟨k, hk, rfl, hb⟩ := hrel
    by_cases hlt : k < ss.length
    · obtain ⟨b1, o1, rfl, hb1, hc1⟩ := h1.out.stays hb k hlt
      obtain ⟨b2, o2, rfl, hb2, hc2⟩ := h2.out.stays hb k hlt
      have hq1 : (0 : Int) ≤ (k : Int) := by omega
      have hq2 : (k : Int) < (ss.length : Int) := by omega
      go_wp2
      go_quiet (fail)
      go_wp2
      go_roundw
      case rel => exact ⟨k + 1, by omega, by go_num, below_drewN hb _⟩
      case measure => simp [intOf]; omega
    · go_wp2
      go_ret
      exact ⟨rfl, hb⟩
end Go.Proofs.Ytfefjkldjaabbaa
