/- The walk over the program's ReadShort. -/
import Derived.Test.YtbnbobkhfafbkaaDoorV1
import Derived.Test.YtbnbobkhfafbkaaDoorCl
namespace Go.Proofs.YtbnbobkhfafbkaaDoor
open Go.RowKit Pl
set_option linter.unusedVariables false

set_option maxHeartbeats 400000 in
theorem implRs_good (s : ByteArray) (A n i : Nat) (w : World) (hs : s.size ≤ 1048576) (hA : A ≤ s.size) (h : Hid (rv s A = some (n, i))) (hn : n ≤ 20000) (hi : i + n ≤ s.size) :
    Calls Tryd.prog 12 #[.string s, .int .i64 A] w fun e w' => e = .returned (.tuple #[.string (s.extract i (i + n)), .int .i64 ((i : Int) + (n : Int)), .bool true]) ∧ Below w.heap.size w w' := by
  have hex : (s.extract i (i + n)).size ≤ 1048576 := by rw [ByteArray.size_extract]; omega
  go_enter Tryd.func12, Tryd.ntmps12
  go_wp2_with (first | (go_at_call 7; refine (implRv_some s A n i _ (by omega) hA h.out).mono ?_; rintro e w1 ⟨rfl, rfl⟩) | (go_at_call 23; refine (clone_any _ _ hex).mono ?_; rintro e w2 ⟨rfl, hb2⟩))
  go_ret3
  exact ⟨rfl, hb2⟩

end Go.Proofs.YtbnbobkhfafbkaaDoor
