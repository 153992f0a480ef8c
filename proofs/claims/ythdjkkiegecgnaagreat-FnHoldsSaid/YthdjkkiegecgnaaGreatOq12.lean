/- Joined texts: CPe. -/
import Derived.Test.YthdjkkiegecgnaaGreatOq10
import Derived.Deep.RegionLaw
namespace Go.Proofs.YthdjkkiegecgnaaGreat.Pl
open Go Go.RowKit
set_option linter.unusedVariables false
theorem src_new{P:Program}{W:World}{e e' tx:TypeId}{size H:Nat}(hk:P.underlying tx=some (.slice e'))(hH:W.heap.size=H)(news:List Value)(hl:news.length=size)(h1: ∀u∈news,u.oneCell'=true):
  Src P size tx (.slice (some ⟨H,0,none⟩) 1 1) 1 news (W.alloc (.cells news.toArray e)):=by
 subst hH
 refine Src.ofSlice _ hk ⟨W.heap.size,0,none⟩ 1 1 news (by rw[hl,Nat.one_mul]) (fun j u hu=>?_) h1
 have ha:(⟨W.heap.size,0,none⟩:Addr).add j=⟨W.heap.size,j,none⟩:=by unfold Addr.add;split<;>simp_all
 rw[ha,cell_of_row _ W.heap.size j _ e (0,0) (heap_alloc_new W _)]
 simpa using hu
theorem qFi{W w':World}{o:Obj}{row:Option Nat}(h:(W.alloc o).grownBy w' row):W.grownBy w' row:=by
 have h1:W.grownBy (W.alloc o) row:=World.grownBy_alloc W o row
 exact⟨h.os.trans h1.os,h.tape.trans h1.tape,h.output.trans h1.output,Nat.le_trans h1.size h.size,fun k hk hne=>(h.block k (Nat.lt_of_lt_of_le hk h1.size) hne).trans (h1.block k hk hne)⟩
section
variable {P : Program} {W : World} {B H : Nat} {v : Value} {ops : Array Oper} {rest : List Oper} {o : Oper} {a : Act} {Q : Exit → Act → World → Prop}
theorem wp_pushE{e t:TypeId}{size n:Nat}{xs:List Value}{K:Act→World→Prop}(s x:Operand)(ho:o.op=.call {callee:=.builtin .append,args:=#[s,x],argTypes:=#[t,t]})(z:Value)(bytes:Nat)
  (ht:P.underlying t=some (.slice e)) (hinfo:(P.info? e).map (fun i=>(i.zero,i.size,i.bytes))=some (some z,size,bytes)) (hzs:z.cells.size=size) (hs:a.eval s=v) (h:Sl W e size B v n xs) (news:List Value) (hnl:news.length=size) (h1: ∀u∈news,u.oneCell'=true)
  (hH:W.heap.size=H) (hx:a.eval x=.slice (some ⟨H,0,none⟩) 1 1) (hn:n<4000000) (hby:bytes≤1000) (hB:B≤W.heap.size)
  (hh: ∀v' w',Sl w' e size B v' (n+1) (xs++news)→W.grownBy w' v.ownBlock→K (a.put o.dst v') w'):o.wp P a (W.alloc (.cells news.toArray e)) K Q:=by
 refine qEq s x t ho z bytes ht hinfo hzs hs (h.alloc _) _ 1 news hx (src_new ht hH news hnl h1) (by unfold maxLen;omega) ?_ (by simp;omega) ?_
 ·have:(n+1) * bytes≤4000000 * 1000:=Nat.mul_le_mul (by omega) hby
  omega
 ·intro v' w' h2 h3 h4
  exact hh v' w' h2 (qFi h3)
end
end Go.Proofs.YthdjkkiegecgnaaGreat.Pl
namespace Go.Proofs.YthdjkkiegecgnaaGreat
open Go.RowKit Pl
set_option linter.unusedVariables false
theorem step_pushIt{W:World}{B H:Nat}{v:Value}{ops:Array Oper}{o:Oper}{a:Act}{Q:Exit→Act→World→Prop}{K:Act→World→Prop}{E:Prop}(hgd:o.guard=none)(s x:Operand)(t:TypeId)(ho:o.op=.call {callee:=.builtin .append,args:=#[s,x],argTypes:=#[t,t]})
  (ht:Tryz.prog.underlying t=some (.slice 41)) (ts:List It) (hs:a.eval s=v) (h:SlI W B v ts) (y:It)
  (hH:W.heap.size=H) (hx:a.eval x=.slice (some ⟨H,0,none⟩) 1 1) (hn:ts.length<4000000) (hB:B≤W.heap.size)
  (hh: ∀v' w',SlI w' B v' (ts++[y])→W.grownBy w' v.ownBlock→K (a.put o.dst v') w'):
  if Region.wanted o (yielded ops a.tmps)=true then Oper.wp Tryz.prog o a (W.alloc (.cells #[.int .i64 y.1,.int .i64 y.2.1,.int .i64 y.2.2.1,.string y.2.2.2] 41)) K Q else E:=by
 rw[if_pos (by simp[Region.wanted,hgd])]
 refine wp_pushE s x ho (.agg #[.int .i64 0,.int .i64 0,.int .i64 0,.string ⟨#[]⟩]) 40 ht Tryz.infoI rfl hs h (cels [y]) rfl qDk hH hx hn (by omega) hB fun v' w' h2 h3=>hh v' w' ?_ h3
 unfold SlI
 rw[List.length_append,qCe]
 exact h2
theorem qFr{w:World}{B g:Nat}{v:Value}{ts:List It}{cs:Array Value}{T:TypeId}(h:SlI w B v ts)(hu:w.heap[g]? =some (.cells cs T (0,0)))(hT:T≠41):v.ownBlock≠some g:=by
 intro e
 rcases h.2 with⟨hn,_⟩|⟨k,off,cap,cur,rfl,hbg,hk,rest⟩
 ·subst hn;cases e
 ·cases e
  rw[hk]at hu
  simp at hu
  exact hT hu.2.symm
end Go.Proofs.YthdjkkiegecgnaaGreat
