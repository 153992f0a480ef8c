/- Joined texts: CCa CMr CMf. -/
import Derived.Test.YthdjkkiegecgnaaGreatOq5
import Derived.Laws.AppendOwnNone
import Derived.Test.YthdjkkiegecgnaaGreatOq1
import Derived.BigQuiet
import Derived.RegionTactic
set_option maxRecDepth 100000
set_option maxHeartbeats 16000000
namespace Go.Proofs.YthdjkkiegecgnaaGreat
open Go.RowKit Pl
set_option linter.unusedVariables false
structure Stp (p:Prop):Prop where
 out:p
theorem Stp.here{p:Prop}(h:Stp p):p:=h.out
theorem Stp.go{p:Prop}(h:p):Stp p:=⟨h⟩
theorem qFd{P:Program}{w:World}{ops:Array Oper}{rest:List Oper}{o:Oper}{a:Act}{Q:Exit→Act→World→Prop}
  (hgd:o.guard=none) (s x:Operand) (t:TypeId) (ho:o.op=.call {callee:=.builtin .append,args:=#[s,x],argTypes:=#[t,t]})
  (ht:P.underlying t=some (.slice 3)) (hinfo:(P.info? 3).map (fun i=>(i.zero,i.size,i.bytes))=some (some (.int .i64 0),1,8))
  (B:Nat) (v:Value) (xs:List Int) (hs:a.eval s=v) (hown:OwnI w B v xs)
  (B2:Nat) (u:Value) (ys:List Int) (hx:a.eval x=u) (hu:OwnI w B2 u ys) (hn:xs.length+ys.length<4000000) (hB:B≤w.heap.size)
  (h: ∀v' w',OwnI w' B v' (xs++ys)→w.grownBy w' v.ownBlock→wpList P ops Q rest (a.put o.dst v') w'):
  wpList P ops Q (o::rest) a w:=by
 obtain⟨i0,hi,hz0,hz1,hz2⟩:=info_parts hinfo
 have hcells:=fun(g:Nat) (hg:u.ownBlock=some g)=>World.ownsRow.cells hu hg
 rcases hu.2 with⟨rfl,h0⟩|⟨g,cap,cur,rfl,_⟩
 ·have e:ys=[]:=List.eq_nil_of_length_eq_zero h0
  subst e
  refine wpList_append_own_none hgd s x t ho B 3 i0 1 ht hi v xs.length (xs.map (Value.int .i64)) hs hown hx ?_
  exact h v w (by rw[List.append_nil];exact hown) (World.grownBy.refl _ _)
 ·refine wpList_append_own _ hgd s x t ho B 3 i0 (.int .i64 0) 1 8 ht hi hz0 hz1 hz2 rfl (by decide) v xs.length (xs.map (Value.int .i64)) hs hown ⟨g,0,none⟩ ys.length cap (ys.map (Value.int .i64)) hx (by simp) (fun j u hj=>hcells g rfl j u hj) ?_ (by unfold maxLen;omega) (by omega) hB ?_
  ·intro u hu'
   obtain⟨y,_,rfl⟩:=List.mem_map.1 hu'
   rfl
  ·intro v' w' hown' hg _
   exact h v' w' (by simpa [OwnI] using hown') hg
theorem qEn(c r q a b:Int)(u:Value)(ws:List Int)(B0:Nat)(w:World)(h:Hid (OwnI w B0 u ws))(hl:ws.length≤1048576):
  Calls Tryz.prog 60 #[.agg #[.int .i64 c,.int .i64 r,.int .i64 q,.int .i64 a,.int .i64 b,u]] w fun e w'=>∃v,e=.returned (.agg #[.int .i64 c,.int .i64 r,.int .i64 q,.int .i64 a,.int .i64 b,v])∧OwnI w' w.heap.size v ws∧Below w.heap.size w w':=by
 obtain⟨ao,cap,hu⟩:=h.out.form
 have hn1:(w.alloc (.cells #[.int .i64 c,.int .i64 r,.int .i64 q,.int .i64 a,.int .i64 b,u] 30)).heap.size=w.heap.size+1:=by simp
 have hn2:((w.alloc (.cells #[.int .i64 c,.int .i64 r,.int .i64 q,.int .i64 a,.int .i64 b,u] 30)).alloc (.cells #[.int .i64 0,.int .i64 0,.int .i64 0,.int .i64 0,.int .i64 0,.slice none 0 0] 30)).heap.size=w.heap.size+2:=by simp
 have HA:Hid (TokAt (((w.alloc (.cells #[.int .i64 c,.int .i64 r,.int .i64 q,.int .i64 a,.int .i64 b,u] 30)).alloc (.cells #[.int .i64 0,.int .i64 0,.int .i64 0,.int .i64 0,.int .i64 0,.slice none 0 0] 30)).alloc (.cells #[] 3)) w.heap.size c r q a b u):=by
  have h:=heap_alloc_new w (.cells #[.int .i64 c,.int .i64 r,.int .i64 q,.int .i64 a,.int .i64 b,u] 30)
  exact TokAt.stays (B:=w.heap.size+1) h (((Below.refl _ _).alloc (by rw[hn1];exact Nat.le_refl _) _).alloc (by rw[hn2];omega) _) (by omega)
 have HR:Hid (TokAt (((w.alloc (.cells #[.int .i64 c,.int .i64 r,.int .i64 q,.int .i64 a,.int .i64 b,u] 30)).alloc (.cells #[.int .i64 0,.int .i64 0,.int .i64 0,.int .i64 0,.int .i64 0,.slice none 0 0] 30)).alloc (.cells #[] 3)) (w.heap.size+1) 0 0 0 0 0 (.slice none 0 0)):=by
  have h:=heap_alloc_new (w.alloc (.cells #[.int .i64 c,.int .i64 r,.int .i64 q,.int .i64 a,.int .i64 b,u] 30)) (.cells #[.int .i64 0,.int .i64 0,.int .i64 0,.int .i64 0,.int .i64 0,.slice none 0 0] 30)
  rw[hn1]at h
  exact TokAt.stays (B:=w.heap.size+2) h ((Below.refl _ _).alloc (by rw[hn2];exact Nat.le_refl _) _) (by omega)
 have HO:Hid (OwnI (((w.alloc (.cells #[.int .i64 c,.int .i64 r,.int .i64 q,.int .i64 a,.int .i64 b,u] 30)).alloc (.cells #[.int .i64 0,.int .i64 0,.int .i64 0,.int .i64 0,.int .i64 0,.slice none 0 0] 30)).alloc (.cells #[] 3)) w.heap.size (.slice (some ⟨w.heap.size+2,0,none⟩) 0 0) []):=by
  have h:=OwnI.made ((w.alloc (.cells #[.int .i64 c,.int .i64 r,.int .i64 q,.int .i64 a,.int .i64 b,u] 30)).alloc (.cells #[.int .i64 0,.int .i64 0,.int .i64 0,.int .i64 0,.int .i64 0,.slice none 0 0] 30)) w.heap.size (by rw[hn2];omega)
  rw[hn2]at h
  exact h
 have HB:Hid (Below w.heap.size w (((w.alloc (.cells #[.int .i64 c,.int .i64 r,.int .i64 q,.int .i64 a,.int .i64 b,u] 30)).alloc (.cells #[.int .i64 0,.int .i64 0,.int .i64 0,.int .i64 0,.int .i64 0,.slice none 0 0] 30)).alloc (.cells #[] 3))):=(((Below.refl _ _).alloc (Nat.le_refl _) _).alloc (by simp) _).alloc (by simp;omega) _
 have HU:Hid (OwnI (((w.alloc (.cells #[.int .i64 c,.int .i64 r,.int .i64 q,.int .i64 a,.int .i64 b,u] 30)).alloc (.cells #[.int .i64 0,.int .i64 0,.int .i64 0,.int .i64 0,.int .i64 0,.slice none 0 0] 30)).alloc (.cells #[] 3)) B0 u ws):=((h.out.alloc _).alloc _).alloc _
 have hsz:w.heap.size≤(((w.alloc (.cells #[.int .i64 c,.int .i64 r,.int .i64 q,.int .i64 a,.int .i64 b,u] 30)).alloc (.cells #[.int .i64 0,.int .i64 0,.int .i64 0,.int .i64 0,.int .i64 0,.slice none 0 0] 30)).alloc (.cells #[] 3)).heap.size:=HB.out.size
 obtain⟨a0,a1,a2,a3,a4,a5⟩:=HA.out.cells
 have hU:Hid (u=.slice ao ws.length cap):=hu
 clear h hn1 hn2 hu a0 a1 a2 a3 a4
 go_enter Tryz.func60,Tryz.ntmps60
 go_wp2_with (first|(at_builtin;refine qFd rfl _ _ 24 rfl Tryz.underlying24 Tryz.info3' w.heap.size _ [] rfl HO.out B0 _ ws rfl HU.out (by simp;omega) hsz ?_;intro v1 w1 hv1 hg1;have hs1:Hid (World.grownBy _ w1 (some (w.heap.size+2))):=hg1;have ht1:Hid (OwnI w1 w.heap.size v1 ws):=hv1;clear hv1 hg1;refine Stp.here ?_))
 refine Stp.go ?_
 have hv1:=ht1.out
 have hg1:=hs1.out
 generalize (((w.alloc (.cells #[.int .i64 c,.int .i64 r,.int .i64 q,.int .i64 a,.int .i64 b,u] 30)).alloc (.cells #[.int .i64 0,.int .i64 0,.int .i64 0,.int .i64 0,.int .i64 0,.slice none 0 0] 30)).alloc (.cells #[] 3))=W at *
 have A1:Hid (TokAt w1 w.heap.size c r q a b u):=(hg1.block _ HA.out.lt (fun e=>by simp at e)).trans HA.out
 have R1:Hid (TokAt w1 (w.heap.size+1) 0 0 0 0 0 (.slice none 0 0)):=(hg1.block _ HR.out.lt (fun e=>by simp at e)).trans HR.out
 have B1:Hid (Below w.heap.size w w1):=HB.out.grown hg1 hsz (fun k hk=>by simp at hk;omega)
 have V1:Hid (OwnI w1 w.heap.size v1 ws):=hv1
 obtain⟨ao',cap',rfl⟩:=hv1.form
 clear hs1 ht1 hv1 hg1 HA HR HB HO HU hsz a5 hU
 have c5:=A1.out.cells.2.2.2.2.2
 have f5:=A1.out.frozen 5
 have T2:=(TurnAt.refl w.heap.size w1).setCell 5 (.slice ao' ws.length cap')
 have R2:=Ag (R1.out.turn T2 (by omega))
 have O2:Hid (TokAt (w1.setCell ⟨w.heap.size,5,none⟩ (.slice ao' ws.length cap')) w.heap.size c r q a b (.slice ao' ws.length cap')):=A1.out.set5 _
 obtain⟨B2,V2⟩:=cy2 (B1.out.trans (T2.below (by omega))) (qAg V1.out A1.out T2)
 clear T2 R1 A1 B1 V1
 obtain⟨o0,o1,o2,o3,o4,o5⟩:=O2.out.cells
 obtain⟨r0,r1,r2,r3,r4,r5⟩:=R2.out.cells
 have z0:=R2.out.frozen 0
 have z1:=R2.out.frozen 1
 have z2:=R2.out.frozen 2
 have z3:=R2.out.frozen 3
 have z4:=R2.out.frozen 4
 have z5:=R2.out.frozen 5
 have R3:TokAt _ (w.heap.size+1) c r q a b (.slice ao' ws.length cap'):=R2.out.agg c r q a b (.slice ao' ws.length cap')
 have T3:=((((((TurnAt.refl (w.heap.size+1) (w1.setCell ⟨w.heap.size,5,none⟩ (.slice ao' ws.length cap'))).setCell 0 (.int .i64 c)).setCell 1 (.int .i64 r)).setCell 2 (.int .i64 q)).setCell 3 (.int .i64 a)).setCell 4 (.int .i64 b)).setCell 5 (.slice ao' ws.length cap')
 have V3:=qAg V2.out R2.out T3
 have B3:=B2.out.trans (T3.below (by omega))
 clear T3 R2 O2 B2 V2
 go_wp2_with fail
 generalize ((((((((w1.setCell ⟨w.heap.size,5,none⟩ (.slice ao' ws.length cap')).setCell ⟨w.heap.size+1,0,none⟩ (.int .i64 c)).setCell ⟨w.heap.size+1,1,none⟩ (.int .i64 r)).setCell ⟨w.heap.size+1,2,none⟩ (.int .i64 q)).setCell ⟨w.heap.size+1,3,none⟩ (.int .i64 a)).setCell ⟨w.heap.size+1,4,none⟩ (.int .i64 b)).setCell ⟨w.heap.size+1,5,none⟩ (.slice ao' ws.length cap')))=W3 at *
 obtain⟨q0,q1,q2,q3,q4,q5⟩:=R3.cells
 refine bodyPost_ret (v:=.agg #[.int .i64 c,.int .i64 r,.int .i64 q,.int .i64 a,.int .i64 b,.slice ao' ws.length cap']) (by simp[results,Tryz.results60,go_sem,q0,q1,q2,q3,q4,q5]) rfl ?_
 exact⟨_,rfl,V3,B3⟩
theorem qBr(c r q a b:Int)(u:Value)(ws:List Int)(B0:Nat)(w:World)(h:Hid (OwnI w B0 u ws))(hl:ws.length≤1048576):
  Calls Tryz.prog 69 #[.agg #[.int .i64 c,.int .i64 r,.int .i64 q,.int .i64 a,.int .i64 b,u]] w fun e w'=>∃v,e=.returned (.agg #[.int .i64 c,.int .i64 r,.int .i64 q,.int .i64 a,.int .i64 b,v])∧OwnI w' w.heap.size v ws∧Below w.heap.size w w':=by
 obtain⟨ao,cap,hu⟩:=h.out.form
 have hn1:(w.alloc (.cells #[.int .i64 c,.int .i64 r,.int .i64 q,.int .i64 a,.int .i64 b,u] 30)).heap.size=w.heap.size+1:=by simp
 have hn2:((w.alloc (.cells #[.int .i64 c,.int .i64 r,.int .i64 q,.int .i64 a,.int .i64 b,u] 30)).alloc (.cells #[.int .i64 0,.int .i64 0,.int .i64 0,.int .i64 0,.int .i64 0,.slice none 0 0] 30)).heap.size=w.heap.size+2:=by simp
 have HA:Hid (TokAt (((w.alloc (.cells #[.int .i64 c,.int .i64 r,.int .i64 q,.int .i64 a,.int .i64 b,u] 30)).alloc (.cells #[.int .i64 0,.int .i64 0,.int .i64 0,.int .i64 0,.int .i64 0,.slice none 0 0] 30)).alloc (.cells #[] 3)) w.heap.size c r q a b u):=by
  have h:=heap_alloc_new w (.cells #[.int .i64 c,.int .i64 r,.int .i64 q,.int .i64 a,.int .i64 b,u] 30)
  exact TokAt.stays (B:=w.heap.size+1) h (((Below.refl _ _).alloc (by rw[hn1];exact Nat.le_refl _) _).alloc (by rw[hn2];omega) _) (by omega)
 have HR:Hid (TokAt (((w.alloc (.cells #[.int .i64 c,.int .i64 r,.int .i64 q,.int .i64 a,.int .i64 b,u] 30)).alloc (.cells #[.int .i64 0,.int .i64 0,.int .i64 0,.int .i64 0,.int .i64 0,.slice none 0 0] 30)).alloc (.cells #[] 3)) (w.heap.size+1) 0 0 0 0 0 (.slice none 0 0)):=by
  have h:=heap_alloc_new (w.alloc (.cells #[.int .i64 c,.int .i64 r,.int .i64 q,.int .i64 a,.int .i64 b,u] 30)) (.cells #[.int .i64 0,.int .i64 0,.int .i64 0,.int .i64 0,.int .i64 0,.slice none 0 0] 30)
  rw[hn1]at h
  exact TokAt.stays (B:=w.heap.size+2) h ((Below.refl _ _).alloc (by rw[hn2];exact Nat.le_refl _) _) (by omega)
 have HO:Hid (OwnI (((w.alloc (.cells #[.int .i64 c,.int .i64 r,.int .i64 q,.int .i64 a,.int .i64 b,u] 30)).alloc (.cells #[.int .i64 0,.int .i64 0,.int .i64 0,.int .i64 0,.int .i64 0,.slice none 0 0] 30)).alloc (.cells #[] 3)) w.heap.size (.slice (some ⟨w.heap.size+2,0,none⟩) 0 0) []):=by
  have h:=OwnI.made ((w.alloc (.cells #[.int .i64 c,.int .i64 r,.int .i64 q,.int .i64 a,.int .i64 b,u] 30)).alloc (.cells #[.int .i64 0,.int .i64 0,.int .i64 0,.int .i64 0,.int .i64 0,.slice none 0 0] 30)) w.heap.size (by rw[hn2];omega)
  rw[hn2]at h
  exact h
 have HB:Hid (Below w.heap.size w (((w.alloc (.cells #[.int .i64 c,.int .i64 r,.int .i64 q,.int .i64 a,.int .i64 b,u] 30)).alloc (.cells #[.int .i64 0,.int .i64 0,.int .i64 0,.int .i64 0,.int .i64 0,.slice none 0 0] 30)).alloc (.cells #[] 3))):=(((Below.refl _ _).alloc (Nat.le_refl _) _).alloc (by simp) _).alloc (by simp;omega) _
 have HU:Hid (OwnI (((w.alloc (.cells #[.int .i64 c,.int .i64 r,.int .i64 q,.int .i64 a,.int .i64 b,u] 30)).alloc (.cells #[.int .i64 0,.int .i64 0,.int .i64 0,.int .i64 0,.int .i64 0,.slice none 0 0] 30)).alloc (.cells #[] 3)) B0 u ws):=((h.out.alloc _).alloc _).alloc _
 have hsz:w.heap.size≤(((w.alloc (.cells #[.int .i64 c,.int .i64 r,.int .i64 q,.int .i64 a,.int .i64 b,u] 30)).alloc (.cells #[.int .i64 0,.int .i64 0,.int .i64 0,.int .i64 0,.int .i64 0,.slice none 0 0] 30)).alloc (.cells #[] 3)).heap.size:=HB.out.size
 obtain⟨a0,a1,a2,a3,a4,a5⟩:=HA.out.cells
 have hU:Hid (u=.slice ao ws.length cap):=hu
 clear h hn1 hn2 hu a0 a1 a2 a3 a4
 go_enter Tryz.func69,Tryz.ntmps69
 go_wp2_with (first|(at_builtin;refine qFd rfl _ _ 24 rfl Tryz.underlying24 Tryz.info3' w.heap.size _ [] rfl HO.out B0 _ ws rfl HU.out (by simp;omega) hsz ?_;intro v1 w1 hv1 hg1;have hs1:Hid (World.grownBy _ w1 (some (w.heap.size+2))):=hg1;have ht1:Hid (OwnI w1 w.heap.size v1 ws):=hv1;clear hv1 hg1;refine Stp.here ?_))
 refine Stp.go ?_
 have hv1:=ht1.out
 have hg1:=hs1.out
 generalize (((w.alloc (.cells #[.int .i64 c,.int .i64 r,.int .i64 q,.int .i64 a,.int .i64 b,u] 30)).alloc (.cells #[.int .i64 0,.int .i64 0,.int .i64 0,.int .i64 0,.int .i64 0,.slice none 0 0] 30)).alloc (.cells #[] 3))=W at *
 have A1:Hid (TokAt w1 w.heap.size c r q a b u):=(hg1.block _ HA.out.lt (fun e=>by simp at e)).trans HA.out
 have R1:Hid (TokAt w1 (w.heap.size+1) 0 0 0 0 0 (.slice none 0 0)):=(hg1.block _ HR.out.lt (fun e=>by simp at e)).trans HR.out
 have B1:Hid (Below w.heap.size w w1):=HB.out.grown hg1 hsz (fun k hk=>by simp at hk;omega)
 have V1:Hid (OwnI w1 w.heap.size v1 ws):=hv1
 obtain⟨ao',cap',rfl⟩:=hv1.form
 clear hs1 ht1 hv1 hg1 HA HR HB HO HU hsz a5 hU
 have c5:=A1.out.cells.2.2.2.2.2
 have f5:=A1.out.frozen 5
 have T2:=(TurnAt.refl w.heap.size w1).setCell 5 (.slice ao' ws.length cap')
 have R2:=Ag (R1.out.turn T2 (by omega))
 have O2:Hid (TokAt (w1.setCell ⟨w.heap.size,5,none⟩ (.slice ao' ws.length cap')) w.heap.size c r q a b (.slice ao' ws.length cap')):=A1.out.set5 _
 obtain⟨B2,V2⟩:=cy2 (B1.out.trans (T2.below (by omega))) (qAg V1.out A1.out T2)
 clear T2 R1 A1 B1 V1
 obtain⟨o0,o1,o2,o3,o4,o5⟩:=O2.out.cells
 obtain⟨r0,r1,r2,r3,r4,r5⟩:=R2.out.cells
 have z0:=R2.out.frozen 0
 have z1:=R2.out.frozen 1
 have z2:=R2.out.frozen 2
 have z3:=R2.out.frozen 3
 have z4:=R2.out.frozen 4
 have z5:=R2.out.frozen 5
 have R3:TokAt _ (w.heap.size+1) c r q a b (.slice ao' ws.length cap'):=R2.out.agg c r q a b (.slice ao' ws.length cap')
 have T3:=((((((TurnAt.refl (w.heap.size+1) (w1.setCell ⟨w.heap.size,5,none⟩ (.slice ao' ws.length cap'))).setCell 0 (.int .i64 c)).setCell 1 (.int .i64 r)).setCell 2 (.int .i64 q)).setCell 3 (.int .i64 a)).setCell 4 (.int .i64 b)).setCell 5 (.slice ao' ws.length cap')
 have V3:=qAg V2.out R2.out T3
 have B3:=B2.out.trans (T3.below (by omega))
 clear T3 R2 O2 B2 V2
 go_wp2_with fail
 generalize ((((((((w1.setCell ⟨w.heap.size,5,none⟩ (.slice ao' ws.length cap')).setCell ⟨w.heap.size+1,0,none⟩ (.int .i64 c)).setCell ⟨w.heap.size+1,1,none⟩ (.int .i64 r)).setCell ⟨w.heap.size+1,2,none⟩ (.int .i64 q)).setCell ⟨w.heap.size+1,3,none⟩ (.int .i64 a)).setCell ⟨w.heap.size+1,4,none⟩ (.int .i64 b)).setCell ⟨w.heap.size+1,5,none⟩ (.slice ao' ws.length cap')))=W3 at *
 obtain⟨q0,q1,q2,q3,q4,q5⟩:=R3.cells
 refine bodyPost_ret (v:=.agg #[.int .i64 c,.int .i64 r,.int .i64 q,.int .i64 a,.int .i64 b,.slice ao' ws.length cap']) (by simp[results,Tryz.results69,go_sem,q0,q1,q2,q3,q4,q5]) rfl ?_
 exact⟨_,rfl,V3,B3⟩
def MkAt(w:World)(g:Nat)(d u:Int):Prop:=w.heap[g]? =some (.cells #[.int .i64 d,.int .i64 u] 151 (0,0))
theorem MkAt.cells{w:World}{g:Nat}{d u:Int}(h:MkAt w g d u):w.cell? ⟨g,0,none⟩=some (.int .i64 d)∧w.cell? ⟨g,1,none⟩=some (.int .i64 u):=
 ⟨by rw[cell_of_row w g 0 _ 151 (0,0) h];rfl,by rw[cell_of_row w g 1 _ 151 (0,0) h];rfl⟩
theorem TokAt.set3{w:World}{g:Nat}{c r q a b:Int}{v:Value}(h:TokAt w g c r q a b v)(x:Int):TokAt (w.setCell ⟨g,3,none⟩ (.int .i64 x)) g c r q x b v:=by
 have:=heap_setCell_same w g 3 _ 30 (.int .i64 x) h
 unfold TokAt;rw[this];rfl
theorem TokAt.set4{w:World}{g:Nat}{c r q a b:Int}{v:Value}(h:TokAt w g c r q a b v)(x:Int):TokAt (w.setCell ⟨g,4,none⟩ (.int .i64 x)) g c r q a x v:=by
 have:=heap_setCell_same w g 4 _ 30 (.int .i64 x) h
 unfold TokAt;rw[this];rfl
theorem TokAt.drewN{w:World}{g:Nat}{c r q a b:Int}{v:Value}(h:TokAt w g c r q a b v)(n:Nat):TokAt (w.drewN n) g c r q a b v:=by
 unfold TokAt;rw[World.heap_drewN];exact h
theorem keep_drewN{g:Nat}{w w':World}(h:KeepBut g w w')(n:Nat):KeepBut g w (w'.drewN n):=h.trans ((TurnAt.refl g w').drewN n).keep
theorem lower_no(d u c r q a b:Int)(v:Value)(g:Nat)(w:World)(h:Hid (TokAt w g c r q a b v))(hu:a≤u):
  Calls Tryz.prog 129 #[.agg #[.int .i64 d,.int .i64 u],.pointer (some ⟨g,0,none⟩)] w fun e w'=>e=.returned (.bool false)∧Below w.heap.size w w':=by
 have HM:Hid (MkAt (w.alloc (.cells #[.int .i64 d,.int .i64 u] 151)) w.heap.size d u):=heap_alloc_new w _
 have HB:=Ag (bA w (.cells #[.int .i64 d,.int .i64 u] 151))
 have HT:=Ag (h.out.stays HB.out h.out.lt)
 obtain⟨m0,m1⟩:=HM.out.cells
 obtain⟨t0,t1,t2,t3,t4,t5⟩:=HT.out.cells
 clear h HM t0 t1 t2 t4 t5
 go_enter Tryz.func129,Tryz.ntmps129
 go_wp2_with fail
 generalize w.alloc (.cells #[.int .i64 d,.int .i64 u] 151)=W at *
 go_quiet (fail)
 go_wp2_with fail
 go_ret
 exact⟨rfl,qAx HB.out _⟩
theorem lower_yes(d u c r q a b:Int)(v:Value)(g:Nat)(w:World)(h:Hid (TokAt w g c r q a b v))(hu:u<a):
  Calls Tryz.prog 129 #[.agg #[.int .i64 d,.int .i64 u],.pointer (some ⟨g,0,none⟩)] w fun e w'=>e=.returned (.bool true)∧TokAt w' g c r q u d v∧KeepBut g w w':=by
 have HM:Hid (MkAt (w.alloc (.cells #[.int .i64 d,.int .i64 u] 151)) w.heap.size d u):=heap_alloc_new w _
 have HB:=Ag (bA w (.cells #[.int .i64 d,.int .i64 u] 151))
 have HT:=Ag (h.out.stays HB.out h.out.lt)
 obtain⟨m0,m1⟩:=HM.out.cells
 obtain⟨t0,t1,t2,t3,t4,t5⟩:=HT.out.cells
 have hu': ¬a≤u:=by omega
 have z3:=HT.out.frozen 3
 have z4:=HT.out.frozen 4
 have hg:=h.out.lt
 have hne: ¬w.heap.size=g:=by omega
 clear h HM t0 t1 t2 t5
 go_enter Tryz.func129,Tryz.ntmps129
 go_wp2_with fail
 generalize w.alloc (.cells #[.int .i64 d,.int .i64 u] 151)=W at *
 go_quiet (fail)
 go_wp2_with fail
 go_region
 go_wp2_with fail
 go_ret
 exact⟨rfl,((HT.out.drewN _).set3 u).set4 d,(qAc HB.out).trans ((((TurnAt.refl g W).drewN _).setCell 3 _).setCell 4 _).keep⟩
theorem raise_no(d u c r q a b:Int)(v:Value)(g:Nat)(w:World)(h:Hid (TokAt w g c r q a b v))(hu: ¬b=d):
  Calls Tryz.prog 130 #[.agg #[.int .i64 d,.int .i64 u],.pointer (some ⟨g,0,none⟩)] w fun e w'=>e=.returned (.bool false)∧Below w.heap.size w w':=by
 have HM:Hid (MkAt (w.alloc (.cells #[.int .i64 d,.int .i64 u] 151)) w.heap.size d u):=heap_alloc_new w _
 have HB:=Ag (bA w (.cells #[.int .i64 d,.int .i64 u] 151))
 have HT:=Ag (h.out.stays HB.out h.out.lt)
 obtain⟨m0,m1⟩:=HM.out.cells
 obtain⟨t0,t1,t2,t3,t4,t5⟩:=HT.out.cells
 clear h HM t0 t1 t2 t3 t5
 go_enter Tryz.func130,Tryz.ntmps130
 go_wp2_with fail
 generalize w.alloc (.cells #[.int .i64 d,.int .i64 u] 151)=W at *
 go_quiet (fail)
 go_wp2_with fail
 go_ret
 exact⟨rfl,qAx HB.out _⟩
theorem raise_up(u c r q a b:Int)(v:Value)(g:Nat)(w:World)(h:Hid (TokAt w g c r q a b v))(hu:q<u):
  Calls Tryz.prog 130 #[.agg #[.int .i64 b,.int .i64 u],.pointer (some ⟨g,0,none⟩)] w fun e w'=>e=.returned (.bool true)∧TokAt w' g c r q q 0 v∧KeepBut g w w':=by
 have HM:Hid (MkAt (w.alloc (.cells #[.int .i64 b,.int .i64 u] 151)) w.heap.size b u):=heap_alloc_new w _
 have HB:=Ag (bA w (.cells #[.int .i64 b,.int .i64 u] 151))
 have HT:=Ag (h.out.stays HB.out h.out.lt)
 obtain⟨m0,m1⟩:=HM.out.cells
 obtain⟨t0,t1,t2,t3,t4,t5⟩:=HT.out.cells
 have z3:=HT.out.frozen 3
 have z4:=HT.out.frozen 4
 have hg:=h.out.lt
 have hne: ¬w.heap.size=g:=by omega
 have hu2: ¬u≤q:=by omega
 clear h HM t0 t1 t5
 go_enter Tryz.func130,Tryz.ntmps130
 go_wp2_with fail
 generalize w.alloc (.cells #[.int .i64 b,.int .i64 u] 151)=W at *
 go_quiet (fail)
 go_wp2_with fail
 go_region
 go_wp2_with fail
 have T1:Hid (TokAt ((W.drewN (nq+1)).setCell ⟨g,3,none⟩ (.int .i64 q)) g c r q q b v):=(HT.out.drewN _).set3 q
 have K1:Hid (KeepBut g w ((W.drewN (nq+1)).setCell ⟨g,3,none⟩ (.int .i64 q))):=(qAc HB.out).trans (((TurnAt.refl g W).drewN _).setCell 3 _).keep
 clear HT HB m0 m1 t2 t3 t4 z3 z4
 have y4:=T1.out.frozen 4
 obtain⟨s0,s1,s2,s3,s4,s5⟩:=T1.out.cells
 clear s0 s1 s5
 generalize (W.drewN (nq+1)).setCell ⟨g,3,none⟩ (.int .i64 q)=W1 at *
 go_quiet (fail)
 go_wp2_with fail
 go_ret
 exact⟨rfl,(T1.out.drewN _).set4 0,K1.out.trans (((TurnAt.refl g W1).drewN _).setCell 4 _).keep⟩
theorem raise_at(u c r a b:Int)(v:Value)(g:Nat)(w:World)(h:Hid (TokAt w g c r u a b v)):
  Calls Tryz.prog 130 #[.agg #[.int .i64 b,.int .i64 u],.pointer (some ⟨g,0,none⟩)] w fun e w'=>e=.returned (.bool true)∧TokAt w' g c r u u 0 v∧KeepBut g w w':=by
 have HM:Hid (MkAt (w.alloc (.cells #[.int .i64 b,.int .i64 u] 151)) w.heap.size b u):=heap_alloc_new w _
 have HB:=Ag (bA w (.cells #[.int .i64 b,.int .i64 u] 151))
 have HT:=Ag (h.out.stays HB.out h.out.lt)
 obtain⟨m0,m1⟩:=HM.out.cells
 obtain⟨t0,t1,t2,t3,t4,t5⟩:=HT.out.cells
 have z3:=HT.out.frozen 3
 have z4:=HT.out.frozen 4
 have hg:=h.out.lt
 have hne: ¬w.heap.size=g:=by omega
 clear h HM t0 t1 t5
 go_enter Tryz.func130,Tryz.ntmps130
 go_wp2_with fail
 generalize w.alloc (.cells #[.int .i64 b,.int .i64 u] 151)=W at *
 go_quiet (fail)
 go_wp2_with fail
 go_region
 go_wp2_with fail
 have T1:Hid (TokAt ((W.drewN (nq+1)).setCell ⟨g,3,none⟩ (.int .i64 u)) g c r u u b v):=(HT.out.drewN _).set3 u
 have K1:Hid (KeepBut g w ((W.drewN (nq+1)).setCell ⟨g,3,none⟩ (.int .i64 u))):=(qAc HB.out).trans (((TurnAt.refl g W).drewN _).setCell 3 _).keep
 clear HT HB m0 m1 t2 t3 t4 z3 z4
 have y4:=T1.out.frozen 4
 obtain⟨s0,s1,s2,s3,s4,s5⟩:=T1.out.cells
 clear s0 s1 s5
 generalize (W.drewN (nq+1)).setCell ⟨g,3,none⟩ (.int .i64 u)=W1 at *
 go_quiet (fail)
 go_wp2_with fail
 go_ret
 exact⟨rfl,(T1.out.drewN _).set4 0,K1.out.trans (((TurnAt.refl g W1).drewN _).setCell 4 _).keep⟩
theorem raise_in(u c r q a b:Int)(v:Value)(g:Nat)(w:World)(h:Hid (TokAt w g c r q a b v))(hu:u<q):
  Calls Tryz.prog 130 #[.agg #[.int .i64 b,.int .i64 u],.pointer (some ⟨g,0,none⟩)] w fun e w'=>e=.returned (.bool true)∧TokAt w' g c r q u b v∧KeepBut g w w':=by
 have HM:Hid (MkAt (w.alloc (.cells #[.int .i64 b,.int .i64 u] 151)) w.heap.size b u):=heap_alloc_new w _
 have HB:=Ag (bA w (.cells #[.int .i64 b,.int .i64 u] 151))
 have HT:=Ag (h.out.stays HB.out h.out.lt)
 obtain⟨m0,m1⟩:=HM.out.cells
 obtain⟨t0,t1,t2,t3,t4,t5⟩:=HT.out.cells
 have z3:=HT.out.frozen 3
 have z4:=HT.out.frozen 4
 have hg:=h.out.lt
 have hne: ¬w.heap.size=g:=by omega
 have hu2: ¬q<u:=by omega
 have hu3: ¬u=q:=by omega
 clear h HM t0 t1 t5
 go_enter Tryz.func130,Tryz.ntmps130
 go_wp2_with fail
 generalize w.alloc (.cells #[.int .i64 b,.int .i64 u] 151)=W at *
 go_quiet (fail)
 go_wp2_with fail
 go_region
 go_wp2_with fail
 have T1:Hid (TokAt ((W.drewN (nq+1)).setCell ⟨g,3,none⟩ (.int .i64 u)) g c r q u b v):=(HT.out.drewN _).set3 u
 have K1:Hid (KeepBut g w ((W.drewN (nq+1)).setCell ⟨g,3,none⟩ (.int .i64 u))):=(qAc HB.out).trans (((TurnAt.refl g W).drewN _).setCell 3 _).keep
 clear HT HB m0 m1 t2 t3 t4 z3 z4
 have y4:=T1.out.frozen 4
 obtain⟨s0,s1,s2,s3,s4,s5⟩:=T1.out.cells
 clear s0 s1 s5
 generalize (W.drewN (nq+1)).setCell ⟨g,3,none⟩ (.int .i64 u)=W1 at *
 go_quiet (fail)
 go_wp2_with fail
 go_ret
 exact⟨rfl,T1.out.drewN _,keep_drewN K1.out _⟩
theorem raise_yes(d u c r q a b:Int)(v:Value)(g:Nat)(w:World)(h:Hid (TokAt w g c r q a b v))(hu:b=d):
  Calls Tryz.prog 130 #[.agg #[.int .i64 d,.int .i64 u],.pointer (some ⟨g,0,none⟩)] w fun e w'=>e=.returned (.bool true)∧TokAt w' g c r q (min u q) (if min u q=q then 0 else b) v∧KeepBut g w w':=by
 subst hu
 by_cases h1:q<u
 ·rw[show min u q=q by omega,if_pos rfl]
  exact raise_up u c r q a b v g w h h1
 ·by_cases h2:u=q
  ·subst h2
   rw[show min u u=u by omega,if_pos rfl]
   exact raise_at u c r a b v g w h
  ·rw[show min u q=u by omega,if_neg h2]
   exact raise_in u c r q a b v g w h (by omega)
def RlAt(w:World)(g:Nat)(d u:Int):Prop:=w.heap[g]? =some (.cells #[.func (Fn.func 129) #[.agg #[.int .i64 d,.int .i64 u]] #[],.func (Fn.func 130) #[.agg #[.int .i64 d,.int .i64 u]] #[]] 187 (0,0))
theorem RlAt.cells{w:World}{g:Nat}{d u:Int}(h:RlAt w g d u):w.cell? ⟨g,0,none⟩=some (.func (Fn.func 129) #[.agg #[.int .i64 d,.int .i64 u]] #[])∧w.cell? ⟨g,1,none⟩=some (.func (Fn.func 130) #[.agg #[.int .i64 d,.int .i64 u]] #[]):=
 ⟨by rw[cell_of_row w g 0 _ 187 (0,0) h];rfl,by rw[cell_of_row w g 1 _ 187 (0,0) h];rfl⟩
theorem RlAt.lt{w:World}{g:Nat}{d u:Int}(h:RlAt w g d u):g<w.heap.size:=(Array.getElem?_eq_some_iff.1 h).1
theorem RlAt.keep{w w':World}{g k:Nat}{d u:Int}(h:RlAt w g d u)(hk:KeepBut k w w')(hg:g≠k):RlAt w' g d u:=(hk.block g h.lt hg).trans h
def aruM(q a b d u:Int):Int:=if u<a then u else if b=d then min u q else a
def byM(q a b d u:Int):Int:=if u<a then d else if b=d then(if min u q=q then 0 else b)else b
theorem follow_low(d u c r q a b:Int)(v:Value)(g G:Nat)(w:World)(h:Hid (TokAt w g c r q a b v))(hr:Hid (RlAt w G d u))(hu:u<a):
  Calls Tryz.prog 128 #[.pointer (some ⟨g,0,none⟩),.slice (some ⟨G,0,none⟩) 2 2] w fun e w'=>(∃x,e=.returned x)∧TokAt w' g c r q u d v∧KeepBut g w w':=by
 obtain⟨r0,r1⟩:=hr.out.cells
 go_enter Tryz.func128,Tryz.ntmps128
 go_wp2_with fail
 refine wp_loop_rounds 1 ?_
 rw[rounds_succ]
 go_wp2_with fail
 refine(lower_yes d u c r q a b v g w h hu).mono ?_
 rintro e w1 ⟨rfl,ht1,hk1⟩
 have T1:Hid (TokAt w1 g c r q u d v):=ht1
 have K1:Hid (KeepBut g w w1):=hk1
 clear ht1 hk1
 go_wp2_with fail
 refine bodyPost_ret (results_none rfl _ _ _) rfl ?_
 exact⟨⟨_,rfl⟩,T1.out,K1.out⟩
theorem follow_up(d u c r q a b A' D':Int)(hA:Hid (A'=min u q))(hD:Hid (D'=if min u q=q then 0 else b))(v:Value)(g G:Nat)(w:World)(h:Hid (TokAt w g c r q a b v))(hr:Hid (RlAt w G d u))(hu:a≤u)(hd:b=d):
  Calls Tryz.prog 128 #[.pointer (some ⟨g,0,none⟩),.slice (some ⟨G,0,none⟩) 2 2] w fun e w'=>(∃x,e=.returned x)∧TokAt w' g c r q A' D' v∧KeepBut g w w':=by
 obtain⟨r0,r1⟩:=hr.out.cells
 go_enter Tryz.func128,Tryz.ntmps128
 go_wp2_with fail
 refine wp_loop_rounds 2 ?_
 rw[rounds_succ]
 go_wp2_with fail
 refine(lower_no d u c r q a b v g w h hu).mono ?_
 rintro e w1 ⟨rfl,hb1⟩
 have T1:=Ag (h.out.stays hb1 h.out.lt)
 have R1:Hid (RlAt w1 G d u):=(hb1.block G hr.out.lt).trans hr.out
 have K1:Hid (KeepBut g w w1):=qAc hb1
 clear r0 r1 hb1
 obtain⟨r0,r1⟩:=R1.out.cells
 go_wp2_with fail
 rw[rounds_succ]
 go_wp2_with fail
 refine(raise_yes d u c r q a b v g w1 T1 hd).mono ?_
 rintro e w2 ⟨rfl,ht2,hk2⟩
 rw[←hD.out,←hA.out]at ht2
 have T2:Hid (TokAt w2 g c r q A' D' v):=ht2
 have K2:=Ag (K1.out.trans hk2)
 clear ht2 hk2 r0 r1
 go_wp2_with fail
 refine bodyPost_ret (results_none rfl _ _ _) rfl ?_
 exact⟨⟨_,rfl⟩,T2.out,K2.out⟩
theorem follow_no(d u c r q a b:Int)(v:Value)(g G:Nat)(w:World)(h:Hid (TokAt w g c r q a b v))(hr:Hid (RlAt w G d u))(hu:a≤u)(hd: ¬b=d):
  Calls Tryz.prog 128 #[.pointer (some ⟨g,0,none⟩),.slice (some ⟨G,0,none⟩) 2 2] w fun e w'=>(∃x,e=.returned x)∧TokAt w' g c r q a b v∧KeepBut g w w':=by
 obtain⟨r0,r1⟩:=hr.out.cells
 go_enter Tryz.func128,Tryz.ntmps128
 go_wp2_with fail
 refine wp_loop_rounds 3 ?_
 rw[rounds_succ]
 go_wp2_with fail
 refine(lower_no d u c r q a b v g w h hu).mono ?_
 rintro e w1 ⟨rfl,hb1⟩
 have T1:=Ag (h.out.stays hb1 h.out.lt)
 have R1:Hid (RlAt w1 G d u):=(hb1.block G hr.out.lt).trans hr.out
 have K1:Hid (KeepBut g w w1):=qAc hb1
 clear r0 r1 hb1
 obtain⟨r0,r1⟩:=R1.out.cells
 go_wp2_with fail
 rw[rounds_succ]
 go_wp2_with fail
 refine(raise_no d u c r q a b v g w1 T1 hd).mono ?_
 rintro e w2 ⟨rfl,hb2⟩
 obtain⟨T2,K2⟩:=cy2 (T1.out.stays hb2 T1.out.lt) (K1.out.trans (qAc hb2))
 clear hb2 r0 r1
 go_wp2_with fail
 rw[rounds_succ]
 go_wp2_with fail
 go_end0
 exact⟨⟨_,rfl⟩,T2.out,K2.out⟩
theorem follow_any(d u c r q a b:Int)(v:Value)(g G:Nat)(w:World)(h:Hid (TokAt w g c r q a b v))(hr:Hid (RlAt w G d u)):
  Calls Tryz.prog 128 #[.pointer (some ⟨g,0,none⟩),.slice (some ⟨G,0,none⟩) 2 2] w fun e w'=>(∃x,e=.returned x)∧TokAt w' g c r q (aruM q a b d u) (byM q a b d u) v∧KeepBut g w w':=by
 unfold aruM byM
 by_cases h1:u<a
 ·rw[if_pos h1,if_pos h1];exact follow_low d u c r q a b v g G w h hr h1
 ·rw[if_neg h1,if_neg h1]
  by_cases h2:b=d
  ·rw[if_pos h2,if_pos h2];exact follow_up d u c r q a b _ _ rfl rfl v g G w h hr (by omega) h2
  ·rw[if_neg h2,if_neg h2];exact follow_no d u c r q a b v g G w h hr (by omega) h2
end Go.Proofs.YthdjkkiegecgnaaGreat
