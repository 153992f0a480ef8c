/- Joined texts: CPe. -/
import Derived.Test.YthdjkkiegecgnaaGreatCq10
import Derived.Deep.RegionLaw
namespace Go.Proofs.YthdjkkiegecgnaaGreat.Pl
open Go Go.RowKit
set_option linter.unusedVariables false
theorem grown_after {W w':World} {o:Obj} {row:Option Nat} (h:(W.alloc o).grownBy w' row):W.grownBy w' row:=by
 have h1:W.grownBy (W.alloc o) row:=World.grownBy_alloc W o row
 exact⟨h.os.trans h1.os,h.tape.trans h1.tape,h.output.trans h1.output,Nat.le_trans h1.size h.size,fun k hk hne=>(h.block k (Nat.lt_of_lt_of_le hk h1.size) hne).trans (h1.block k hk hne)⟩
section
variable {P : Program} {W : World} {B H : Nat} {v : Value} {ops : Array Oper} {rest : List Oper} {o : Oper} {a : Act} {Q : Exit → Act → World → Prop}
end
end Go.Proofs.YthdjkkiegecgnaaGreat.Pl
namespace Go.Proofs.YthdjkkiegecgnaaGreat
open Go.RowKit Pl
set_option linter.unusedVariables false
theorem sl_tokne {w:World} {B g:Nat} {v:Value} {ts:List It} {cs:Array Value} {T:TypeId} (h:SlI w B v ts) (hu:w.heap[g]?=some (.cells cs T (0,0))) (hT:T≠41):v.ownBlock≠some g:=by
 intro e
 rcases h.2 with⟨hn,_⟩|⟨k,off,cap,cur,rfl,hbg,hk,rest⟩
 ·subst hn;cases e
 ·cases e
  rw[hk]at hu
  simp at hu
  exact hT hu.2.symm
end Go.Proofs.YthdjkkiegecgnaaGreat
