/- The walks over VarText and ReadVar of the program, over the digits of the specification, and over one byte as a text. -/
import Derived.Test.YtlflcjdpdbdbkaaChecked
import Derived.Test.YtlflcjdpdbdbkaaOwn
import Derived.Test.YtlflcjdpdbdbkaaPk
import Derived.Laws.BytesArg
import Derived.Below
import Derived.WalkKit
import Derived.WalkSpells
import Derived.WalkLawsBesides
namespace Go.Proofs.Ytlflcjdpdbdbkaa
open Go.RowKit Pl
set_option linter.unusedVariables false

theorem Try.info5 : (Try.prog.info? 5).map (fun i => (i.zero, i.size, i.bytes)) = some (some (.int .u8 0), 1, 1) := by kernel_rfl

theorem varS_size (N : Nat) (h : N ≤ 68719476736) : (varS N).size ≤ 68719476737 := by
  rw [varS, strOfNums_size]
  have := varI_length N
  omega


theorem conv_one {w : World} {a : Int} : (convert 86 9 (.slice (some ⟨w.heap.size, 0, none⟩) 1 1)).run Try.prog (w.alloc (.cells #[.int .u8 a] 5)) = .ok (.string (strOfNums [a])) (w.alloc (.cells #[.int .u8 a] 5)) := by
  refine run_convert_bytes_arg (P := Try.prog) _ 86 5 Try.underlying86 Try.underlying5 w.heap.size 0 1 1 [a] rfl (fun i hi => ?_) 9 Try.underlying9
  obtain rfl : i = 0 := by omega
  rw [cell_of_row _ w.heap.size (0 + 0) _ 5 (0, 0) (heap_alloc_new w _)]
  rfl

end Go.Proofs.Ytlflcjdpdbdbkaa
