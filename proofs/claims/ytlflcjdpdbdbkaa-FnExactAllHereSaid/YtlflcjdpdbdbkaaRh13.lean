/- Both BundleOk, told of a bundle whose list is read. -/
import Derived.Test.YtlflcjdpdbdbkaaHb
namespace Go.Proofs.Ytlflcjdpdbdbkaa
open Go.RowKit Pl
set_option linter.unusedVariables false

theorem bundleOk_r (f n o : Int) (s : Sv) (ts : List It) (w : World) (hx : Hid (RIt w s ts)) (hl : ts.length ≤ 1048576) :
    Calls Try.prog 9 #[.agg #[.int .i64 f, .int .i64 n, .int .i64 o, .slice s.a s.n s.c]] w fun e w' => e = .returned (.bool (bunB f n o ts)) ∧ Below w.heap.size w w' := by
  have h := bundleOk_any f n o s.a s.c ts w hx.out.2 hl
  rw [← hx.out.1] at h
  exact h
theorem spBundleOk_r (f n o : Int) (s : Sv) (ts : List It) (w : World) (hx : Hid (RIt w s ts)) (hl : ts.length ≤ 1048576) :
    Calls Try.prog 7 #[.agg #[.int .i64 f, .int .i64 n, .int .i64 o, .slice s.a s.n s.c]] w fun e w' => e = .returned (.bool (bunB f n o ts)) ∧ Below w.heap.size w w' := by
  have h := spBundleOk_any f n o s.a s.c ts w hx.out.2 hl
  rw [← hx.out.1] at h
  exact h
end Go.Proofs.Ytlflcjdpdbdbkaa
