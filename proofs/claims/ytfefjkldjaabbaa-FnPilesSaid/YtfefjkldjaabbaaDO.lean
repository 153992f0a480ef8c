/- The walk over a draw that is met once in so many. -/
import Derived.Test.YtfefjkldjaabbaaD1
namespace Go.Proofs.Ytfefjkldjaabbaa
open Go.RowKit Pl
set_option linter.unusedVariables false

set_option maxRecDepth 100000 in
set_option maxHeartbeats 1000000 in
theorem once_any (w0 w : World) (B g n cap m : Nat) (ao : Option Addr) (hn : n ≤ 1048576) (hB : B ≤ g) (hm0 : 0 < m) (hm : m ≤ 256) (hd : Hid (Drw w0 w B g ao n cap)) :
    Calls Try.prog 33 #[.pointer (some ⟨g, 0, none⟩), .int .i64 m] w fun e w' => (∃ b : Bool, e = .returned (.bool b)) ∧ Hid (Drw w0 w' B g ao n cap) := by
  go_enter Try.func33, Try.ntmps33
  go_wp2_with (first | (go_at_call 32; refine (below_small w0 _ B g n cap m ao hn hB hm0 hm (by assumption)).mono ?_; rintro e w1 ⟨⟨x, hx, rfl⟩, hd1⟩))
  go_ret
  exact ⟨⟨_, rfl⟩, hd1⟩

end Go.Proofs.Ytfefjkldjaabbaa
