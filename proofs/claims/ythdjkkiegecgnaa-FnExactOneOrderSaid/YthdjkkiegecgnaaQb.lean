/- A drawn region that only reads and calls, walked operation by operation: a callee that leaves what was there. -/
import Derived.Test.YthdjkkiegecgnaaJ2
import Derived.Test.YthdjkkiegecgnaaXm
import Derived.BigQuiet
namespace Go.Proofs.Ythdjkkiegecgnaa
open Go.RowKit Pl
set_option linter.unusedVariables false

theorem q_callB {P : Program} {W : World} {o : Oper} {a : Act} {K : Act → Prop} (v : Value) (f : FuncId) (args : Array Value) (h : ∀ w, Below W.heap.size W w → (execOp a.eval o).run P w = .ok (.enter f args) w)
    (hc : ∀ w, Below W.heap.size W w → Calls P f args w fun e w' => e = .returned v ∧ Below w.heap.size w w') (hk : K (a.put o.dst v)) : o.quiet P a (fun w' => Below W.heap.size W w') K :=
  q_call v f args h (fun w hw => (hc w hw).mono fun e w' ⟨he, hb⟩ => ⟨he, hw.trans (hb.mono hw.size)⟩) hk
end Go.Proofs.Ythdjkkiegecgnaa
