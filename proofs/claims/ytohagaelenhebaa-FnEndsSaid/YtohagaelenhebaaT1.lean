/- The walks over what the law on Receive uses of parcels. -/
import Derived.Test.YtohagaelenhebaaR1
namespace Go.Proofs.Ytohagaelenhebaa
open Go.RowKit Pl
set_option linter.unusedVariables false

set_option maxRecDepth 100000 in
set_option maxHeartbeats 2000000 in
theorem szParcel_any (num ack : Int) (s : ByteArray) (r : Nat) (w : World) (hr : r ≤ 1048576) (hs : s.size ≤ maxLen) :
    Calls Try.prog 36 #[.agg #[.int .i64 num, .int .i64 ack, .string s], .int .i64 r] w fun e w' => (e = .returned (.int .i64 (-1)) ∨ ∃ n : Nat, e = .returned (.int .i64 n) ∧ Hid (n + s.size = r)) ∧ Below w.heap.size w w' := by
  have hb0 : Hid (Below w.heap.size w (w.alloc (.cells #[.int .i64 num, .int .i64 ack, .string s] 54))) := (Below.refl _ _).alloc (Nat.le_refl _) _
  unfold maxLen at hs
  by_cases h : s.size ≤ r
  · have ww : IntKind.i64.wrap ((r : Int) - (s.size : Int)) = ((r - s.size : Nat) : Int) := by rw [IntKind.wrap_i64]; omega
    generalize hk : r - s.size = k at *
    have hd : decide ((k : Int) < 0) = false := by simp
    go_enter Try.func36, Try.ntmps36
    go_wp2_with fail
    go_ret
    exact ⟨.inr ⟨k, rfl, by show k + s.size = r; omega⟩, hb0.out⟩
  · have ww : IntKind.i64.wrap ((r : Int) - (s.size : Int)) = (r : Int) - (s.size : Int) := by rw [IntKind.wrap_i64]; omega
    have hd : decide ((r : Int) - (s.size : Int) < 0) = true := by simp; omega
    go_enter Try.func36, Try.ntmps36
    go_wp2_with fail
    go_ret
    exact ⟨.inl rfl, hb0.out⟩

set_option maxRecDepth 100000 in
set_option maxHeartbeats 2000000 in
theorem toParcel_any (num ack : Int) (s : ByteArray) (w : World) :
    Calls Try.prog 37 #[.agg #[.int .i64 num, .int .i64 ack, .string s]] w fun e w' => e = .returned (.agg #[.int .i64 num, .int .i64 ack, .string s]) ∧ Below w.heap.size w w' := by
  go_enter Try.func37, Try.ntmps37
  go_wp2_with fail
  have P0 : PcC (((w.alloc (Obj.cells #[Value.int IntKind.i64 num, Value.int IntKind.i64 ack, Value.string s] 54)).alloc (Obj.cells #[Value.int IntKind.i64 num, Value.int IntKind.i64 ack, Value.string s] 41)).alloc (Obj.cells #[Value.int IntKind.i64 num, Value.int IntKind.i64 ack, Value.string s] 41)) 41 (w.heap.size + 1) num ack s := by
    have := (PcC.new (w.alloc (Obj.cells #[Value.int IntKind.i64 num, Value.int IntKind.i64 ack, Value.string s] 54)) 41 num ack s).below ((Below.refl _ _).alloc (Nat.le_refl _) (Obj.cells #[Value.int IntKind.i64 num, Value.int IntKind.i64 ack, Value.string s] 41))
    simpa using this
  obtain ⟨p0, p1, p2⟩ := P0.cells
  refine bodyPost_ret (v := .agg #[.int .i64 num, .int .i64 ack, .string s]) (by simp [results, Try.results37, go_sem, p0, p1, p2]) rfl ?_
  exact ⟨rfl, (((Below.refl _ _).alloc (Nat.le_refl _) _).alloc (by simp) _).alloc (by simp; omega) _⟩
end Go.Proofs.Ytohagaelenhebaa
