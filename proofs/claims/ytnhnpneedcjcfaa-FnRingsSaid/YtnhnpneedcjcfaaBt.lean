/- A token that is built of its first fields, or of none. -/
import Derived.Test.YtnhnpneedcjcfaaRs
namespace Go.Proofs.Ytnhnpneedcjcfaa
open Go.RowKit Pl
set_option linter.unusedVariables false

theorem bt0 : Try.prog.built 30 [] = some #[.int .i64 0, .int .i64 0, .int .i64 0, .int .i64 0, .int .i64 0, .slice none 0 0] := by kernel_rfl
theorem bt2 (x y : Int) : Try.prog.built 30 [(0, .int .i64 x), (1, .int .i64 y)] = some #[.int .i64 x, .int .i64 y, .int .i64 0, .int .i64 0, .int .i64 0, .slice none 0 0] := by kernel_rfl
theorem wpList_bt0 {ops : Array Oper} {rest : List Oper} {o : Oper} {a : Act} {w : World} {Q : Exit → Act → World → Prop} (hg : o.guard = none) (ho : o.op = .build 30 #[])
    (h : wpList Try.prog ops Q rest (a.put o.dst (.agg #[.int .i64 0, .int .i64 0, .int .i64 0, .int .i64 0, .int .i64 0, .slice none 0 0])) w) : wpList Try.prog ops Q (o :: rest) a w := by
  refine wpList_build hg 30 _ ho (by simp [bt0]) ?_
  simpa [bt0] using h
theorem wpList_bt2 {ops : Array Oper} {rest : List Oper} {o : Oper} {a : Act} {w : World} {Q : Exit → Act → World → Prop} (hg : o.guard = none) (p0 p1 : Operand) (ho : o.op = .build 30 #[(0, p0), (1, p1)]) (x y : Int) (h0 : a.eval p0 = .int .i64 x) (h1 : a.eval p1 = .int .i64 y)
    (h : wpList Try.prog ops Q rest (a.put o.dst (.agg #[.int .i64 x, .int .i64 y, .int .i64 0, .int .i64 0, .int .i64 0, .slice none 0 0])) w) : wpList Try.prog ops Q (o :: rest) a w := by
  refine wpList_build hg 30 _ ho (by simp [h0, h1, bt2]) ?_
  simpa [h0, h1, bt2] using h
end Go.Proofs.Ytnhnpneedcjcfaa
