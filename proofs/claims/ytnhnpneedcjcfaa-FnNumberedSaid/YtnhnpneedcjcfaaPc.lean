/- A drawn place. -/
import Derived.Test.YtnhnpneedcjcfaaDy
namespace Go.Proofs.Ytnhnpneedcjcfaa
open Go.RowKit Pl
set_option linter.unusedVariables false

set_option maxRecDepth 100000 in
set_option maxHeartbeats 1000000 in
theorem place_any (w0 w : World) (B g n cap k : Nat) (ao : Option Addr) (hn : n ≤ 1048576) (hB : B ≤ g) (hk0 : 0 < k) (hk : k ≤ 256) (hd : Hid (Drw w0 w B g ao n cap)) :
    Calls Try.prog 64 #[.pointer (some ⟨g, 0, none⟩), .int .i64 k] w fun e w' => (∃ z : Int, e = .returned (.int .i64 z)) ∧ Hid (Drw w0 w' B g ao n cap) := by
  have hr5 : ∀ (w : World) (a b c d e : Int), Hid (RowI (w.alloc (.cells #[.int .i64 a, .int .i64 b, .int .i64 c, .int .i64 d, .int .i64 e] 3)) w.heap.size 5) := fun w a b c d e => rowI_new w [a, b, c, d, e] 5 rfl
  have hw1 : IntKind.i64.wrap ((k : Int) + 1) = (k : Int) + 1 := by rw [IntKind.wrap_i64]; omega
  go_enter Try.func64, Try.ntmps64
  go_wp2_with fail
  refine (once_any w0 _ B g n cap 15 ao hn hB (by omega) (by omega) hd).mono ?_
  rintro e w1 ⟨⟨b, rfl⟩, hd1⟩
  have hg1 := hd1.out.lt
  cases b with
  | true =>
    have R1 := hr5 w1 (-1) (k : Int) ((k : Int) + 1) 9223372036854775807 (-9223372036854775808)
    have D1 : Hid (Drw w0 (w1.alloc (.cells #[.int .i64 (-1), .int .i64 k, .int .i64 ((k : Int) + 1), .int .i64 9223372036854775807, .int .i64 (-9223372036854775808)] 3)) B g ao n cap) := hd1.out.alloc hB _
    have hS : w1.heap.size < (w1.alloc (.cells #[.int .i64 (-1), .int .i64 k, .int .i64 ((k : Int) + 1), .int .i64 9223372036854775807, .int .i64 (-9223372036854775808)] 3)).heap.size := by simp
    go_wp2_with fail
    generalize w1.alloc (.cells #[.int .i64 (-1), .int .i64 k, .int .i64 ((k : Int) + 1), .int .i64 9223372036854775807, .int .i64 (-9223372036854775808)] 3) = W1 at *
    refine (pickInt_any w0 _ B g n cap w1.heap.size 5 ao hn hB (by omega) (by omega) hS (by omega) R1 D1).mono ?_
    rintro e w2 ⟨⟨z, rfl⟩, hd2⟩
    go_wp2_with fail
    go_ret
    exact ⟨⟨z, rfl⟩, hd2⟩
  | false =>
    go_wp2_with fail
    refine (below_small w0 _ B g n cap k ao hn hB hk0 hk hd1).mono ?_
    rintro e w2 ⟨⟨z, hz, rfl⟩, hd2⟩
    go_wp2_with fail
    go_ret
    exact ⟨⟨z, rfl⟩, hd2⟩
end Go.Proofs.Ytnhnpneedcjcfaa
