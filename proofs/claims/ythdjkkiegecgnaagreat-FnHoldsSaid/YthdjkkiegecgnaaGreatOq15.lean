/- Joined texts: CWr CWt CPb CWl CShm CSm CCp CWk CKt CMn CMw CMs1 CTm CEm CLmn CCt1 CMb CMo CMp CMq1 CMq CMb2. -/
import Derived.Test.YthdjkkiegecgnaaGreatOq13
import Derived.Test.YthdjkkiegecgnaaGreatOq10
import Derived.Test.YthdjkkiegecgnaaGreatOq5
import Derived.Test.YthdjkkiegecgnaaGreatOq14
import Derived.Test.YthdjkkiegecgnaaGreatOq1
import Derived.Test.YthdjkkiegecgnaaGreatOq9
import Derived.Laws.MakeOwn
import Derived.BigQuiet
import Derived.Deep.QuietTactic
set_option maxRecDepth 100000
set_option maxHeartbeats 16000000
namespace Go.Proofs.YthdjkkiegecgnaaGreat
open Go.RowKit Pl
set_option linter.unusedSimpArgs false
set_option linter.unusedVariables false
theorem qDr{w w':World}(h:w'=w):Below w.heap.size w w':=by subst h;exact Below.refl _ _
section
variable {w : World} {v : Value}
theorem ringOk_r(i:Int)(ms:List Int)(h:Hid (RI w v ms))(hl:ms.length≤1048576):Calls Tryz.prog 94 #[.agg #[.int .i64 i,v]] w fun e w'=>e=.returned (.bool (qAy i ms))∧Below w.heap.size w w':=by
 obtain⟨ao,cap,rfl,hx⟩:=h.out;exact ringOk_any i ao cap ms w hx hl
theorem qBk(i:Int)(ms:List Int)(h:Hid (RI w v ms))(hl:ms.length≤1048576):Calls Tryz.prog 131 #[.agg #[.int .i64 i,v]] w fun e w'=>e=.returned (.bool (qAy i ms))∧Below w.heap.size w w':=by
 obtain⟨ao,cap,rfl,hx⟩:=h.out;exact qDg i ao cap ms w hx hl
theorem contains_r(ms:List Int)(d:Int)(h:Hid (RI w v ms))(hl:ms.length≤1048576):Calls Tryz.prog 137 #[v,.int .i64 d] w fun e w'=>e=.returned (.bool (inB ms d))∧Below w.heap.size w w':=by
 obtain⟨ao,cap,rfl,hx⟩:=h.out;exact(qGs ao cap ms d w hx hl).mono fun e w' ⟨a,b⟩=>⟨a,qDr b⟩
theorem qKs(ms:List Int)(d:Int)(h:Hid (RI w v ms))(hl:ms.length≤1048576):Calls Tryz.prog 132 #[v,.int .i64 d] w fun e w'=>e=.returned (.bool (inB ms d))∧Below w.heap.size w w':=by
 obtain⟨ao,cap,rfl,hx⟩:=h.out;exact(lin_any ao cap ms d w hx hl).mono fun e w' ⟨a,b⟩=>⟨a,qDr b⟩
theorem qEh(c r q a b:Int)(ws:List Int)(h:Hid (RI w v ws))(hl:ws.length≤1048576):Calls Tryz.prog 15 #[.agg #[.int .i64 c,.int .i64 r,.int .i64 q,.int .i64 a,.int .i64 b,v]] w fun e w'=>e=.returned (.bool (tkB c r q a b ws))∧Below w.heap.size w w':=by
 obtain⟨ao,cap,rfl,hx⟩:=h.out;exact qBv c r q a b ao cap ws w hx hl
theorem qFe(c r q a b:Int)(ws:List Int)(h:Hid (RI w v ws))(hl:ws.length≤1048576):Calls Tryz.prog 63 #[.agg #[.int .i64 c,.int .i64 r,.int .i64 q,.int .i64 a,.int .i64 b,v]] w fun e w'=>e=.returned (.bool (tkB c r q a b ws))∧Below w.heap.size w w':=by
 obtain⟨ao,cap,rfl,hx⟩:=h.out;exact qAv c r q a b ao cap ws w hx hl
theorem itemsOk_r(ts:List It)(h:Hid (RIt w v ts))(hl:ts.length≤1048576):Calls Tryz.prog 72 #[v] w fun e w'=>e=.returned (.bool (iGo 0 ts))∧Below w.heap.size w w':=by
 obtain⟨ao,cap,rfl,hx⟩:=h.out;exact itemsOk_any ao cap ts w hx hl
theorem spItemsOk_r(ts:List It)(h:Hid (RIt w v ts))(hl:ts.length≤1048576):Calls Tryz.prog 133 #[v] w fun e w'=>e=.returned (.bool (iGo 0 ts))∧Below w.heap.size w w':=by
 obtain⟨ao,cap,rfl,hx⟩:=h.out;exact qFp ao cap ts w hx hl
theorem aru_r(ts:List It)(h:Hid (RIt w v ts))(hl:ts.length≤1048576):Calls Tryz.prog 59 #[v] w fun e w'=>e=.returned (.int .i64 (aruP ts:Nat))∧Below w.heap.size w w':=by
 obtain⟨ao,cap,rfl,hx⟩:=h.out;exact aru_any ao cap ts w hx hl
theorem aruOf_r(ts:List It)(h:Hid (RIt w v ts))(hl:ts.length≤1048576):Calls Tryz.prog 70 #[v] w fun e w'=>e=.returned (.int .i64 (aruP ts:Nat))∧Below w.heap.size w w':=by
 obtain⟨ao,cap,rfl,hx⟩:=h.out;exact aruOf_any ao cap ts w hx hl
theorem qKj(ts:List It)(h:Hid (RIt w v ts))(hl:ts.length≤1048576):Calls Tryz.prog 17 #[v] w fun e w'=>e=.returned (.int .i64 (aruP ts:Nat))∧Below w.heap.size w w':=by
 obtain⟨ao,cap,rfl,hx⟩:=h.out;exact qHh ao cap ts w hx hl
theorem qGt(n a b:Int)(w:World):Calls Tryz.prog 74 #[.int .i64 n,.int .i64 a,.int .i64 b] w fun e w'=>e=.returned (.bool (decide (a≤n∧n≤b)))∧Below w.heap.size w w':=(qFz n a b w).mono fun e w' ⟨x,y⟩=>⟨x,qDr y⟩
theorem in_b(n a b:Int)(w:World):Calls Tryz.prog 80 #[.int .i64 n,.int .i64 a,.int .i64 b] w fun e w'=>e=.returned (.bool (decide (a≤n∧n≤b)))∧Below w.heap.size w w':=(qEe n a b w).mono fun e w' ⟨x,y⟩=>⟨x,qDr y⟩
end
theorem qBz{P:Program}{w:World}{o:Oper}{a:Act}{K:Act→World→Prop}{Q:Exit→Act→World→Prop}
  (s x:Operand) (t:TypeId) (ho:o.op=.call {callee:=.builtin .append,args:=#[s,x],argTypes:=#[t,t]})
  (ht:P.underlying t=some (.slice 3)) (hinfo:(P.info? 3).map (fun i=>(i.zero,i.size,i.bytes))=some (some (.int .i64 0),1,8))
  (B:Nat) (v:Value) (xs:List Int) (hs:a.eval s=v) (hown:OwnI w B v xs)
  (u:Value) (ys:List Int) (hx:a.eval x=u) (hu:RI w u ys) (hn:xs.length+ys.length<4000000) (hB:B≤w.heap.size) (hv:v≠ .slice none 0 0)
  (h: ∀v' w',OwnI w' B v' (xs++ys)→w.grownBy w' v.ownBlock→K (a.put o.dst v') w'):o.wp P a w K Q:=by
 obtain⟨i0,hi,hz0,hz1,hz2⟩:=info_parts hinfo
 obtain⟨ao,cap,rfl,hr⟩:=hu
 have hcat: ∀(ad:Addr),ao=some ad→(∀j u,(ys.map (Value.int .i64))[j]? =some u→w.cell? (ad.add j)=some u)→o.wp P a w K Q:=by
  intro ad had hcell
  subst had
  refine wp_append_own w s x t ho B 3 i0 (.int .i64 0) 1 8 ht hi hz0 hz1 hz2 rfl (by decide) v xs.length (xs.map (Value.int .i64)) hs hown ad ys.length cap (ys.map (Value.int .i64)) hx (by simp) hcell ?_ (by unfold maxLen;omega) (by omega) hB ?_
  ·intro u hu'
   obtain⟨y,_,rfl⟩:=List.mem_map.1 hu'
   rfl
  ·intro v' w' hown' hg _
   exact h v' w' (by simpa [OwnI] using hown') hg
 by_cases h0:0<ys.length
 ·obtain⟨b,off,rfl,_,_⟩:=hr 0 h0
  refine hcat ⟨b,off,none⟩ rfl fun j u hj=>?_
  have hjl:j<ys.length:=by have:=(List.getElem?_eq_some_iff.1 hj).1;simpa using this
  obtain⟨b',off',e,_,hc⟩:=hr j hjl
  simp at e
  obtain⟨rfl,rfl⟩:=e
  rw[Addr.add_lit,hc]
  simp[hjl]at hj
  rw[hj]
 ·have e:ys=[]:=List.eq_nil_of_length_eq_zero (by omega)
  subst e
  cases ao with
  |some ad=>exact hcat ad rfl fun j u hj=>by simp at hj
  |none=>
   have hc0:=h v w (by rw[List.append_nil];exact hown) (World.grownBy.refl _ _)
   rcases hown.2 with⟨hv0,_⟩|⟨g,cp,cur,hvv,_⟩
   ·exact absurd hv0 hv
   ·have hs':Sl w 3 1 B v xs.length (xs.map (Value.int .i64)):=Sl.ofOwn hown
    have hsrc:Src P i0.size t (.slice none 0 cap) 0 [] w:=Src.ofNil _ ht cap
    subst hvv
    have hroom:xs.length+0≤cp:=by
     rcases hs'.2 with⟨h1,_⟩|⟨g',off',cap',cur',h1,_,_,hle,_⟩
     ·cases h1
     ·simp at h1;omega
    unfold Oper.wp execOp
    have hr:=run_append_room_src (P:=P) w t t o.type 3 i0 ht hi g 0 xs.length cp (.slice none 0 cap) 0 [] hsrc hroom (fun j hj=>by simp at hj) (fun j hj=>by simp at hj)
    simp only[ho,resolve,invoke,builtin,Sem.run_bind,Sem.run_pure,Result.andThen_ok,List.map_toArray,List.map_cons,List.map_nil,hs,hx,List.length_nil,hr]
    exact hc0
theorem qCz{P:Program}{w:World}{ops:Array Oper}{rest:List Oper}{o:Oper}{a:Act}{Q:Exit→Act→World→Prop}
  (hgd:o.guard=none) (s x:Operand) (t:TypeId) (ho:o.op=.call {callee:=.builtin .append,args:=#[s,x],argTypes:=#[t,t]})
  (ht:P.underlying t=some (.slice 3)) (hinfo:(P.info? 3).map (fun i=>(i.zero,i.size,i.bytes))=some (some (.int .i64 0),1,8))
  (B:Nat) (v:Value) (xs:List Int) (hs:a.eval s=v) (hown:OwnI w B v xs)
  (u:Value) (ys:List Int) (hx:a.eval x=u) (hu:RI w u ys) (hn:xs.length+ys.length<4000000) (hB:B≤w.heap.size) (hv:v≠ .slice none 0 0)
  (h: ∀v' w',OwnI w' B v' (xs++ys)→w.grownBy w' v.ownBlock→wpList P ops Q rest (a.put o.dst v') w'):
  wpList P ops Q (o::rest) a w:=
 wpList_plain hgd fun _ hK=>qBz s x t ho ht hinfo B v xs hs hown u ys hx hu hn hB hv fun v' w' h1 h2=>hK _ _ (h v' w' h1 h2)
theorem wp_catT{P:Program}{w:World}{o:Oper}{a:Act}{K:Act→World→Prop}{Q:Exit→Act→World→Prop}
  (s x:Operand) (t:TypeId) (ho:o.op=.call {callee:=.builtin .append,args:=#[s,x],argTypes:=#[t,t]})
  (ht:P.underlying t=some (.slice 9)) (hinfo:(P.info? 9).map (fun i=>(i.zero,i.size,i.bytes))=some (some (.string ⟨#[]⟩),1,16))
  (B:Nat) (v:Value) (xs:List ByteArray) (hs:a.eval s=v) (hown:OwnS w B v xs)
  (u:Value) (ys:List ByteArray) (hx:a.eval x=u) (hu:RT w u ys) (hn:xs.length+ys.length<4000000) (hB:B≤w.heap.size) (hv:v≠ .slice none 0 0)
  (h: ∀v' w',OwnS w' B v' (xs++ys)→w.grownBy w' v.ownBlock→K (a.put o.dst v') w'):o.wp P a w K Q:=by
 obtain⟨i0,hi,hz0,hz1,hz2⟩:=info_parts hinfo
 obtain⟨ao,cap,rfl,hr⟩:=hu
 have hcat: ∀(ad:Addr),ao=some ad→(∀j u,(ys.map Value.string)[j]? =some u→w.cell? (ad.add j)=some u)→o.wp P a w K Q:=by
  intro ad had hcell
  subst had
  refine wp_append_own w s x t ho B 9 i0 (.string ⟨#[]⟩) 1 16 ht hi hz0 hz1 hz2 rfl (by decide) v xs.length (xs.map Value.string) hs hown ad ys.length cap (ys.map Value.string) hx (by simp) hcell ?_ (by unfold maxLen;omega) (by omega) hB ?_
  ·intro u hu'
   obtain⟨y,_,rfl⟩:=List.mem_map.1 hu'
   rfl
  ·intro v' w' hown' hg _
   exact h v' w' (by simpa [OwnS] using hown') hg
 by_cases h0:0<ys.length
 ·obtain⟨b,off,rfl,_,_⟩:=hr 0 h0
  refine hcat ⟨b,off,none⟩ rfl fun j u hj=>?_
  have hjl:j<ys.length:=by have:=(List.getElem?_eq_some_iff.1 hj).1;simpa using this
  obtain⟨b',off',e,_,hc⟩:=hr j hjl
  simp at e
  obtain⟨rfl,rfl⟩:=e
  rw[Addr.add_lit,hc]
  simp[hjl]at hj
  rw[hj]
 ·have e:ys=[]:=List.eq_nil_of_length_eq_zero (by omega)
  subst e
  cases ao with
  |some ad=>exact hcat ad rfl fun j u hj=>by simp at hj
  |none=>
   have hc0:=h v w (by rw[List.append_nil];exact hown) (World.grownBy.refl _ _)
   rcases hown.2 with⟨hv0,_⟩|⟨g,cp,cur,hvv,_⟩
   ·exact absurd hv0 hv
   ·have hs':Sl w 9 1 B v xs.length (xs.map Value.string):=Sl.ofOwn hown
    have hsrc:Src P i0.size t (.slice none 0 cap) 0 [] w:=Src.ofNil _ ht cap
    subst hvv
    have hroom:xs.length+0≤cp:=by
     rcases hs'.2 with⟨h1,_⟩|⟨g',off',cap',cur',h1,_,_,hle,_⟩
     ·cases h1
     ·simp at h1;omega
    unfold Oper.wp execOp
    have hr:=run_append_room_src (P:=P) w t t o.type 9 i0 ht hi g 0 xs.length cp (.slice none 0 cap) 0 [] hsrc hroom (fun j hj=>by simp at hj) (fun j hj=>by simp at hj)
    simp only[ho,resolve,invoke,builtin,Sem.run_bind,Sem.run_pure,Result.andThen_ok,List.map_toArray,List.map_cons,List.map_nil,hs,hx,List.length_nil,hr]
    exact hc0
theorem qGy{P:Program}{w:World}{ops:Array Oper}{rest:List Oper}{o:Oper}{a:Act}{Q:Exit→Act→World→Prop}
  (hgd:o.guard=none) (s x:Operand) (t:TypeId) (ho:o.op=.call {callee:=.builtin .append,args:=#[s,x],argTypes:=#[t,t]})
  (ht:P.underlying t=some (.slice 9)) (hinfo:(P.info? 9).map (fun i=>(i.zero,i.size,i.bytes))=some (some (.string ⟨#[]⟩),1,16))
  (B:Nat) (v:Value) (xs:List ByteArray) (hs:a.eval s=v) (hown:OwnS w B v xs)
  (u:Value) (ys:List ByteArray) (hx:a.eval x=u) (hu:RT w u ys) (hn:xs.length+ys.length<4000000) (hB:B≤w.heap.size) (hv:v≠ .slice none 0 0)
  (h: ∀v' w',OwnS w' B v' (xs++ys)→w.grownBy w' v.ownBlock→wpList P ops Q rest (a.put o.dst v') w'):
  wpList P ops Q (o::rest) a w:=
 wpList_plain hgd fun _ hK=>wp_catT s x t ho ht hinfo B v xs hs hown u ys hx hu hn hB hv fun v' w' h1 h2=>hK _ _ (h v' w' h1 h2)
theorem qAz{w:World}{o:Oper}{a:Act}{K:Act→World→Prop}{Q:Exit→Act→World→Prop}
  (s x:Operand) (t:TypeId) (ho:o.op=.call {callee:=.builtin .append,args:=#[s,x],argTypes:=#[t,t]})
  (ht:Tryz.prog.underlying t=some (.slice 41)) (B:Nat) (v:Value) (xs:List It) (hs:a.eval s=v) (hown:SlI w B v xs)
  (u:Value) (ys:List It) (hx:a.eval x=u) (hu:RIt w u ys) (hn:xs.length+ys.length≤2097152) (hB:B≤w.heap.size)
  (h: ∀v' w',SlI w' B v' (xs++ys)→w.grownBy w' v.ownBlock→(v'.ownBlock=v.ownBlock∨v'.ownBlock=some w.heap.size)→K (a.put o.dst v') w'):o.wp Tryz.prog a w K Q:=by
 obtain⟨ao,cap,rfl,hr⟩:=hu
 refine qEq s x t ho _ 40 ht Tryz.infoI rfl hs hown _ ys.length (cels ys) hx (src_items t ht cap hr) (by unfold maxLen;omega) (by omega) hB ?_
 intro v' w' h1 h2 h3
 refine h v' w' ?_ h2 h3
 unfold SlI
 rw[List.length_append,qCe]
 exact h1
theorem qCs{w:World}{ops:Array Oper}{rest:List Oper}{o:Oper}{a:Act}{Q:Exit→Act→World→Prop}
  (hgd:o.guard=none) (s x:Operand) (t:TypeId) (ho:o.op=.call {callee:=.builtin .append,args:=#[s,x],argTypes:=#[t,t]})
  (ht:Tryz.prog.underlying t=some (.slice 41)) (B:Nat) (v:Value) (xs:List It) (hs:a.eval s=v) (hown:SlI w B v xs)
  (u:Value) (ys:List It) (hx:a.eval x=u) (hu:RIt w u ys) (hn:xs.length+ys.length≤2097152) (hB:B≤w.heap.size)
  (h: ∀v' w',SlI w' B v' (xs++ys)→w.grownBy w' v.ownBlock→(v'.ownBlock=v.ownBlock∨v'.ownBlock=some w.heap.size)→wpList Tryz.prog ops Q rest (a.put o.dst v') w'):wpList Tryz.prog ops Q (o::rest) a w:=
 wpList_plain hgd fun _ hK=>qAz s x t ho ht B v xs hs hown u ys hx hu hn hB fun v' w' h1 h2 h3=>hK _ _ (h v' w' h1 h2 h3)
theorem qEg{P:Program}{w:World}{ops:Array Oper}{rest:List Oper}{o:Oper}{a:Act}{Q:Exit→Act→World→Prop}(t n:Nat)(ps:Array (Nat × Operand))(ho:o.op=.buildSlice t n ps)(h:Stp (wpList P ops Q (o::rest) a w)):wpList P ops Q (o::rest) a w:=h.out
section
variable {P : Program} {w : World}
theorem qFb(base:Nat)(t ty e:TypeId)(i:TypeInfo)(z:Value)(size bytes:Nat)(ht:P.underlying t=some (.slice e))(hi:P.info? e=some i)(hz:i.zero=some z)
  (hsize:i.size=size) (hby:i.bytes=bytes) (hzs:z.cells.size=size) (hsz:0<size)
  (v:Value) (n:Nat) (xs:List Value) (hown:w.ownsRow base e size v n xs)
  (a:Addr) (m c:Nat) (news:List Value) (hl:news.length=m * size) (hnews: ∀j u,news[j]? =some u→w.cell? (a.add j)=some u) (h1: ∀u∈news,u.oneCell'=true)
  (h63:n+m≤maxLen) (hbytes:(n+m) * bytes≤140737488355328) (hbase:base≤w.heap.size):
  ∃v' w',(Builtin.append_ #[t,t] ty #[v,.slice (some a) m c]).run P w=.ok v' w'∧w'.ownsRow base e size v' (n+m) (xs++news)∧w.grownBy w' v.ownBlock∧(v'.ownBlock=v.ownBlock∨v'.ownBlock=some w.heap.size):=by
 obtain⟨v',w',hr,h2,h3,_⟩:=run_append_own (P:=P) w base t ty e i z size bytes ht hi hz hsize hby hzs hsz v n xs hown a m c news hl hnews h1 h63 hbytes hbase
 obtain⟨v2,w2,hr2,_,_,h4⟩:=qFg (P:=P) t t ty i z bytes ht hi hz hsize hby hzs (Sl.ofOwn hown) (.slice (some a) m c) m news (Src.ofSlice _ ht a m c news hl hnews h1) h63 hbytes hbase
 rw[hr]at hr2
 cases hr2
 exact⟨v',w',hr,h2,h3,h4⟩
end
section
variable {P : Program} {w : World} {ops : Array Oper} {rest : List Oper} {o : Oper} {a : Act} {Q : Exit → Act → World → Prop} {K : Act → World → Prop}
theorem wp_pushIb(s x:Operand)(t:TypeId)(ho:o.op=.call {callee:=.builtin .append,args:=#[s,x],argTypes:=#[t,t]})
  (ht:P.underlying t=some (.slice 3)) (hinfo:(P.info? 3).map (fun i=>(i.zero,i.size,i.bytes))=some (some (.int .i64 0),1,8))
  (B:Nat) (v:Value) (xs:List Int) (hs:a.eval s=v) (hown:OwnI w B v xs) (b:Int)
  (hx:a.eval x=.slice (some ⟨w.heap.size,0,none⟩) 1 1) (hn:xs.length<4000000) (hB:B≤w.heap.size)
  (h: ∀v' w',OwnI w' B v' (xs++[b])→(w.alloc (.cells #[.int .i64 b] 3)).grownBy w' v.ownBlock→(v'.ownBlock=v.ownBlock∨v'.ownBlock=some (w.heap.size+1))→K (a.put o.dst v') w'):
  o.wp P a (w.alloc (.cells #[.int .i64 b] 3)) K Q:=by
 obtain⟨i0,hi,hz0,hz1,hz2⟩:=info_parts hinfo
 obtain⟨v',w',hr,h2,h3,h4⟩:=qFb (P:=P) B t o.type 3 i0 (.int .i64 0) 1 8 ht hi hz0 hz1 hz2 rfl (by decide) v xs.length (xs.map (Value.int .i64)) (World.ownsRow.alloc hown (.cells #[.int .i64 b] 3)) ⟨w.heap.size,0,none⟩ 1 1 [.int .i64 b] rfl (by
  intro j u hj
  match j,hj with
  |0,hj=>simp at hj;subst hj;simp[Addr.add]) (by intro u hu;simp at hu;subst hu;rfl) (by unfold maxLen;omega) (by omega) (by simp;omega)
 unfold Oper.wp execOp
 simp only[ho,resolve,invoke,builtin,Sem.run_bind,Sem.run_pure,Result.andThen_ok,List.map_toArray,List.map_cons,List.map_nil,hs,hx,hr]
 exact h v' w' (by simpa [OwnI] using h2) h3 (by simpa using h4)
theorem qKe(hgd:o.guard=none)(s x:Operand)(t:TypeId)(ho:o.op=.call {callee:=.builtin .append,args:=#[s,x],argTypes:=#[t,t]})
  (ht:P.underlying t=some (.slice 3)) (hinfo:(P.info? 3).map (fun i=>(i.zero,i.size,i.bytes))=some (some (.int .i64 0),1,8))
  (B:Nat) (v:Value) (xs:List Int) (hs:a.eval s=v) (hown:OwnI w B v xs) (b:Int)
  (hx:a.eval x=.slice (some ⟨w.heap.size,0,none⟩) 1 1) (hn:xs.length<4000000) (hB:B≤w.heap.size)
  (h: ∀v' w',OwnI w' B v' (xs++[b])→(w.alloc (.cells #[.int .i64 b] 3)).grownBy w' v.ownBlock→(v'.ownBlock=v.ownBlock∨v'.ownBlock=some (w.heap.size+1))→wpList P ops Q rest (a.put o.dst v') w'):
  wpList P ops Q (o::rest) a (w.alloc (.cells #[.int .i64 b] 3)):=
 wpList_plain hgd fun _ hK=>wp_pushIb s x t ho ht hinfo B v xs hs hown b hx hn hB fun v' w' h1 h2 h3=>hK _ _ (h v' w' h1 h2 h3)
theorem wp_pushSb(s x:Operand)(t:TypeId)(ho:o.op=.call {callee:=.builtin .append,args:=#[s,x],argTypes:=#[t,t]})
  (ht:P.underlying t=some (.slice 9)) (hinfo:(P.info? 9).map (fun i=>(i.zero,i.size,i.bytes))=some (some (.string ⟨#[]⟩),1,16))
  (B:Nat) (v:Value) (xs:List ByteArray) (hs:a.eval s=v) (hown:OwnS w B v xs) (b:ByteArray)
  (hx:a.eval x=.slice (some ⟨w.heap.size,0,none⟩) 1 1) (hn:xs.length<4000000) (hB:B≤w.heap.size)
  (h: ∀v' w',OwnS w' B v' (xs++[b])→(w.alloc (.cells #[.string b] 9)).grownBy w' v.ownBlock→(v'.ownBlock=v.ownBlock∨v'.ownBlock=some (w.heap.size+1))→K (a.put o.dst v') w'):
  o.wp P a (w.alloc (.cells #[.string b] 9)) K Q:=by
 obtain⟨i0,hi,hz0,hz1,hz2⟩:=info_parts hinfo
 obtain⟨v',w',hr,h2,h3,h4⟩:=qFb (P:=P) B t o.type 9 i0 (.string ⟨#[]⟩) 1 16 ht hi hz0 hz1 hz2 rfl (by decide) v xs.length (xs.map Value.string) (World.ownsRow.alloc hown (.cells #[.string b] 9)) ⟨w.heap.size,0,none⟩ 1 1 [.string b] rfl (by
  intro j u hj
  match j,hj with
  |0,hj=>simp at hj;subst hj;simp[Addr.add]) (by intro u hu;simp at hu;subst hu;rfl) (by unfold maxLen;omega) (by omega) (by simp;omega)
 unfold Oper.wp execOp
 simp only[ho,resolve,invoke,builtin,Sem.run_bind,Sem.run_pure,Result.andThen_ok,List.map_toArray,List.map_cons,List.map_nil,hs,hx,hr]
 exact h v' w' (by simpa [OwnS] using h2) h3 (by simpa using h4)
theorem qKd(hgd:o.guard=none)(s x:Operand)(t:TypeId)(ho:o.op=.call {callee:=.builtin .append,args:=#[s,x],argTypes:=#[t,t]})
  (ht:P.underlying t=some (.slice 9)) (hinfo:(P.info? 9).map (fun i=>(i.zero,i.size,i.bytes))=some (some (.string ⟨#[]⟩),1,16))
  (B:Nat) (v:Value) (xs:List ByteArray) (hs:a.eval s=v) (hown:OwnS w B v xs) (b:ByteArray)
  (hx:a.eval x=.slice (some ⟨w.heap.size,0,none⟩) 1 1) (hn:xs.length<4000000) (hB:B≤w.heap.size)
  (h: ∀v' w',OwnS w' B v' (xs++[b])→(w.alloc (.cells #[.string b] 9)).grownBy w' v.ownBlock→(v'.ownBlock=v.ownBlock∨v'.ownBlock=some (w.heap.size+1))→wpList P ops Q rest (a.put o.dst v') w'):
  wpList P ops Q (o::rest) a (w.alloc (.cells #[.string b] 9)):=
 wpList_plain hgd fun _ hK=>wp_pushSb s x t ho ht hinfo B v xs hs hown b hx hn hB fun v' w' h1 h2 h3=>hK _ _ (h v' w' h1 h2 h3)
end
def SlN(w:World)(T size B:Nat)(v:Value)(rs:List (List Value)):Prop:=Sl w T size B v rs.length rs.flatten∧∀r∈rs,r.length=size∧∀u∈r,u.oneCell'=true
theorem qKz{s:Nat}: ∀{rs:List (List Value)},(∀r∈rs,r.length=s)→rs.flatten.length=rs.length * s:=by
 intro rs
 induction rs with
 |nil=>intro _;simp
 |cons r rs ih=>
  intro h
  rw[List.flatten_cons,List.length_append,List.length_cons,ih fun r hr=>h r (List.mem_cons_of_mem _ hr),h r (List.mem_cons_self ..),Nat.add_mul]
  omega
theorem qHt{s:Nat}: ∀{rs:List (List Value)} (k:Nat),(∀r∈rs,r.length=s)→rs.flatten.drop (k * s)=(rs.drop k).flatten:=by
 intro rs
 induction rs with
 |nil=>intro k _;simp
 |cons r rs ih=>
  intro k h
  cases k with
  |zero=>simp
  |succ k=>
   have hr:=h r (List.mem_cons_self ..)
   rw[List.flatten_cons,List.drop_succ_cons,←ih k fun r hr=>h r (List.mem_cons_of_mem _ hr),Nat.add_mul,List.drop_append,List.drop_eq_nil_of_le (by omega),List.nil_append]
   congr 1;omega
theorem flat_take{s:Nat}: ∀{rs:List (List Value)} (k:Nat),(∀r∈rs,r.length=s)→rs.flatten.take (k * s)=(rs.take k).flatten:=by
 intro rs
 induction rs with
 |nil=>intro k _;simp
 |cons r rs ih=>
  intro k h
  cases k with
  |zero=>simp
  |succ k=>
   have hr:=h r (List.mem_cons_self ..)
   rw[List.flatten_cons,List.take_succ_cons,List.flatten_cons,←ih k fun r hr=>h r (List.mem_cons_of_mem _ hr),Nat.add_mul,List.take_append,List.take_of_length_le (by omega)]
   congr 2;omega
theorem flat_row{s:Nat}{rs:List (List Value)}(h: ∀r∈rs,r.length=s){i:Nat}(hi:i<rs.length):(rs.flatten.drop (i * s)).take s=rs[i]:=by
 rw[qHt i h,List.drop_eq_getElem_cons hi,List.flatten_cons,List.take_append,List.take_of_length_le (by rw[h _ (List.getElem_mem hi)];exact Nat.le_refl _),h _ (List.getElem_mem hi)]
 simp
theorem flat_set{s:Nat}{rs:List (List Value)}(h: ∀r∈rs,r.length=s){i:Nat}(hi:i<rs.length)(r:List Value)(hr:r.length=s):rs.flatten.take (i * s)++r++rs.flatten.drop (i * s+r.length)=(rs.set i r).flatten:=by
 rw[hr,show i * s+s=(i+1) * s by rw[Nat.add_mul];omega,flat_take i h,qHt (i+1) h,List.set_eq_take_append_cons_drop,if_pos hi,List.flatten_append,List.flatten_cons]
 simp
section
variable {w w' : World} {T size B : Nat} {v : Value} {rs : List (List Value)}
theorem SlN.lens(h:SlN w T size B v rs): ∀r∈rs,r.length=size:=fun r hr=>(h.2 r hr).1
theorem SlN.ones(h:SlN w T size B v rs): ∀u∈rs.flatten,u.oneCell'=true:=fun u hu=>by
 obtain⟨r,hr,hu⟩:=List.mem_flatten.1 hu
 exact(h.2 r hr).2 u hu
theorem SlN.form(h:SlN w T size B v rs): ∃s:Sv,v=.slice s.a s.n s.c∧s.n=rs.length:=by
 obtain⟨a,c,e⟩:=h.1.form
 exact⟨⟨a,rs.length,c⟩,e,rfl⟩
theorem SlN.lt(h:SlN w T size B v rs): ∀k,v.ownBlock=some k→B≤k∧k<w.heap.size:=h.1.lt
theorem SlN.keep(h:SlN w T size B v rs)(hk: ∀k,v.ownBlock=some k→k<w.heap.size→w'.heap[k]? =w.heap[k]?):SlN w' T size B v rs:=⟨h.1.keep hk,h.2⟩
theorem SlN.below(h:SlN w T size B v rs)(hb:Below w.heap.size w w'):SlN w' T size B v rs:=⟨h.1.below hb,h.2⟩
theorem SlN.down{B':Nat}(h:SlN w T size B v rs)(hB:B'≤B):SlN w T size B' v rs:=⟨h.1.down hB,h.2⟩
theorem SlN.kept{row:Option Nat}(h:SlN w T size B v rs)(hg:w.grownBy w' row)(hne: ∀k,v.ownBlock=some k→some k≠row):SlN w' T size B v rs:=⟨h.1.kept hg hne,h.2⟩
theorem SlN.nil(w:World)(T size B:Nat):SlN w T size B (.slice none 0 0) []:=⟨Sl.zero w T size B,fun r hr=>by cases hr⟩
theorem SlN.made(w:World)(T size B:Nat)(hb:B≤w.heap.size):SlN (w.alloc (.cells #[] T)) T size B (.slice (some ⟨w.heap.size,0,none⟩) 0 0) []:=⟨Sl.made w T size B hb,fun r hr=>by cases hr⟩
theorem SlN.one(w:World)(T size B:Nat)(r:List Value)(hr:r.length=size)(h1:r.all (·.oneCell')=true)(hb:B≤w.heap.size):SlN (w.alloc (.cells r.toArray T)) T size B (.slice (some ⟨w.heap.size,0,none⟩) 1 1) [r]:=
 ⟨⟨by simp[hr],.inr ⟨w.heap.size,0,1,r.toArray,rfl,hb,heap_alloc_new w _,Nat.le_refl _,by unfold maxLen;omega,by simp[hr],fun j hj=>by simp⟩⟩,fun x hx=>by simp at hx;subst hx;exact⟨hr,List.all_eq_true.1 h1⟩⟩
theorem SlN.blk(h:SlN w T size B v rs){k:Nat}(hk:v.ownBlock=some k): ∃cs,w.heap[k]? =some (.cells cs T (0,0)):=by
 rcases h.1.2 with⟨rfl,_⟩|⟨g,off,cap,cur,rfl,_,hg,_⟩
 ·cases hk
 ·cases hk;exact⟨_,hg⟩
theorem SlN.box_ne{g T':Nat}{cs:List Value}(h:SlN w T size B v rs)(hB:Bx w g T' cs)(hT:T'≠T): ∀k,v.ownBlock=some k→k≠g:=fun k hk he=>by
 subst he
 obtain⟨c,hc⟩:=h.blk hk
 unfold Bx at hB
 rw[hc]at hB
 simp at hB
 exact hT hB.2.symm
theorem SlN.keepb{g T':Nat}{cs:List Value}(h:SlN w T size B v rs)(hB:Bx w g T' cs)(hk:KeepBut g w w')(hT:T'≠T):SlN w' T size B v rs:=
 h.keep fun k hb hlt=>hk.block k hlt (h.box_ne hB hT k hb)
theorem SlN.read(h:SlN w T size B v rs){i:Nat}(hi:i<rs.length):
  ∃g off cap,v=.slice (some ⟨g,off,none⟩) rs.length cap∧B≤g∧g<w.heap.size∧w.rangeAt g (off+i * size) rs[i]:=by
 obtain⟨g,off,cap,hv,hb,hlt,hc,_⟩:=h.1.read (by omega)
 refine⟨g,off,cap,hv,hb,hlt,fun j u hu=>?_⟩
 have hj:j<size:=by rw[←h.lens _ (List.getElem_mem hi)];exact(List.getElem?_eq_some_iff.1 hu).1
 have h2:=flat_row h.lens hi
 rw[←h2,List.getElem?_take,if_pos hj,List.getElem?_drop]at hu
 have:=hc _ u hu
 rw[←Nat.add_assoc]at this
 exact this
theorem SlN.src{P:Program}{tx e':TypeId}(h:SlN w T size B v rs)(hk:P.underlying tx=some (.slice e')):Src P size tx v rs.length rs.flatten w:=h.1.src hk h.ones
theorem src_row{P:Program}(w:World)(t:TypeId)(ht:P.underlying t=some (.slice T))(r:List Value)(hr:r.length=size)(h1: ∀u∈r,u.oneCell'=true):Src P size t (.slice (some ⟨w.heap.size,0,none⟩) 1 1) 1 r (w.alloc (.cells r.toArray T)):=by
 refine Src.ofSlice _ ht ⟨w.heap.size,0,none⟩ 1 1 r (by omega) (fun j u hu=>?_) h1
 rw[Addr.add_lit,Nat.zero_add,cell_of_row _ _ _ _ T (0,0) (heap_alloc_new w _)]
 simpa using hu
theorem SlN.snoc{P:Program}{w1:World}{v':Value}{r:List Value}(h:SlN w T size B v rs)(hs:Sl w1 T size B v' (rs.length+1) (rs.flatten++r))(hr:r.length=size)(h1: ∀u∈r,u.oneCell'=true):SlN w1 T size B v' (rs++[r]):=by
 refine⟨?_,fun x hx=>?_⟩
 ·rw[List.length_append,List.flatten_append]
  simpa using hs
 ·rcases List.mem_append.1 hx with hx|hx
  ·exact h.2 x hx
  ·simp at hx;subst hx;exact⟨hr,h1⟩
end
section
variable {P : Program} {w : World} {ops : Array Oper} {rest : List Oper} {o : Oper} {a : Act} {Q : Exit → Act → World → Prop} {K : Act → World → Prop}
theorem qDf{T size:Nat}(hgd:o.guard=none)(s x:Operand)(t:TypeId)(ho:o.op=.call {callee:=.builtin .append,args:=#[s,x],argTypes:=#[t,t]})
  (z:Value) (bytes:Nat) (ht:P.underlying t=some (.slice T)) (hinfo:(P.info? T).map (fun i=>(i.zero,i.size,i.bytes))=some (some z,size,bytes)) (hzs:z.cells.size=size) (hby:bytes≤400)
  (B:Nat) (v:Value) (rs:List (List Value)) (hs:a.eval s=v) (hown:SlN w T size B v rs) (r:List Value) (hr:r.length=size) (h1:r.all (·.oneCell')=true)
  (hx:a.eval x=.slice (some ⟨w.heap.size,0,none⟩) 1 1) (hn:rs.length≤1048576) (hB:B≤w.heap.size)
  (h: ∀v' w',SlN w' T size B v' (rs++[r])→w.grownBy w' v.ownBlock→Below B w w'→(v'.ownBlock=v.ownBlock∨v'.ownBlock=some (w.heap.size+1))→wpList P ops Q rest (a.put o.dst v') w'):
  wpList P ops Q (o::rest) a (w.alloc (.cells r.toArray T)):=by
 have h1': ∀u∈r,u.oneCell'=true:=List.all_eq_true.1 h1
 refine qCp hgd s x t ho z bytes ht hinfo hzs hs (Sl.alloc hown.1 _) _ 1 r hx (src_row w t ht r hr h1') (by unfold maxLen;omega) (Nat.le_trans (Nat.mul_le_mul (by omega:rs.length+1≤1048577) hby) (by decide)) (by simp;omega) ?_
 intro v' w' h3 h2 h4
 have hg:w.grownBy w' v.ownBlock:=⟨h2.os,h2.tape,h2.output,Nat.le_trans (by simp) h2.size,fun k hk hne=>(h2.block k (by simp;omega) hne).trans (heap_alloc_old w _ hk)⟩
 refine h v' w' (hown.snoc (P:=P) h3 hr h1') hg ?_ ?_
 ·exact((Below.refl B w).alloc hB _).grown h2 (by simp;omega) (fun k hk=>(Sl.lt hown.1 k hk).1)
 ·simpa using h4
theorem qFc{T size:Nat}(hgd:o.guard=none)(s x:Operand)(t:TypeId)(ho:o.op=.call {callee:=.builtin .append,args:=#[s,x],argTypes:=#[t,t]})
  (z:Value) (bytes:Nat) (ht:P.underlying t=some (.slice T)) (hinfo:(P.info? T).map (fun i=>(i.zero,i.size,i.bytes))=some (some z,size,bytes)) (hzs:z.cells.size=size) (hby:bytes≤400)
  (B:Nat) (v:Value) (rs:List (List Value)) (hs:a.eval s=v) (hown:SlN w T size B v rs) (B':Nat) (u:Value) (qs:List (List Value)) (hx:a.eval x=u) (hu:SlN w T size B' u qs)
  (hn:rs.length+qs.length≤1048577) (hB:B≤w.heap.size)
  (h: ∀v' w',SlN w' T size B v' (rs++qs)→w.grownBy w' v.ownBlock→Below B w w'→(v'.ownBlock=v.ownBlock∨v'.ownBlock=some w.heap.size)→wpList P ops Q rest (a.put o.dst v') w'):
  wpList P ops Q (o::rest) a w:=by
 refine qCp hgd s x t ho z bytes ht hinfo hzs hs hown.1 _ qs.length qs.flatten hx (hu.src ht) (by unfold maxLen;omega) (Nat.le_trans (Nat.mul_le_mul hn hby) (by decide)) hB ?_
 intro v' w' h3 h2 h4
 refine h v' w' ⟨by rw[List.length_append,List.flatten_append];exact h3,fun r hr=>?_⟩ h2 ((Below.refl B w).grown h2 hB (fun k hk=>(Sl.lt hown.1 k hk).1)) h4
 rcases List.mem_append.1 hr with hr|hr
 ·exact hown.2 r hr
 ·exact hu.2 r hr
theorem SlN.stored{T size B:Nat}{g off cap i:Nat}{rs:List (List Value)}(h:SlN w T size B (.slice (some ⟨g,off,none⟩) rs.length cap) rs)(hi:i<rs.length)(r:List Value)(hr:r.length=size)(h1: ∀u∈r,u.oneCell'=true):
  w.there g (off+i * size) r.length∧SlN (w.setCells g (off+i * size) r) T size B (.slice (some ⟨g,off,none⟩) rs.length cap) (rs.set i r)∧TurnAt g w (w.setCells g (off+i * size) r):=by
 rcases h.1.2 with⟨hv,_⟩|⟨g',off',cap',cur,hv,hb,hg,hc,hm,hs,ht⟩
 ·simp at hv
 simp at hv
 obtain⟨⟨rfl,rfl⟩,rfl⟩:=hv
 have hle:i * size+size≤rs.length * size:=by
  have:(i+1) * size≤rs.length * size:=Nat.mul_le_mul_right _ hi
  rw[Nat.add_mul]at this;omega
 have hcs:rs.length * size≤cap * size:=Nat.mul_le_mul_right _ hc
 have hin:off+i * size+r.length≤cur.size:=by omega
 refine⟨fun j hj=>⟨?_,frozen_of_row w g _ _ T hg⟩,⟨?_,fun x hx=>?_⟩,qCu r w g _⟩
 ·rw[cell_of_row w g _ _ T (0,0) hg,Array.getElem?_eq_getElem (by omega)];rfl
 ·obtain⟨cur',q1,q2,q3,q4⟩:=qFs r w g (off+i * size) cur T hg hin
  have hbx:Bx w g T cur.toList:=by unfold Bx;simpa using hg
  have hbx2:=qCv r w g (off+i * size) T cur.toList hbx (by simpa using hin)
  have he:cur'=(cur.toList.take (off+i * size)++r++cur.toList.drop (off+i * size+r.length)).toArray:=by
   unfold Bx at hbx2
   rw[q1]at hbx2
   simpa using hbx2
  have hfl:(rs.set i r).flatten=rs.flatten.take (i * size)++r++rs.flatten.drop (i * size+r.length):=(flat_set h.lens hi r hr).symm
  refine⟨by rw[qKz (s:=size)];intro x hx;rcases List.mem_or_eq_of_mem_set hx with hx|rfl;exact h.lens x hx;exact hr,.inr ⟨g,off,cap,cur',by simp,hb,q1,by simpa using hc,hm,by omega,fun j hj=>?_⟩⟩
  rw[List.length_set]at hj
  have hfr:rs.flatten.length=rs.length * size:=qKz h.lens
  by_cases hj1:j<i * size
  ·rw[q3 _ (by omega),ht j hj,hfl,List.append_assoc,List.getElem?_append_left (by rw[List.length_take];omega),List.getElem?_take,if_pos hj1]
  ·by_cases hj2:j<i * size+r.length
   ·have h5:=q4 (j - i * size) (by omega)
    rw[show off+i * size+(j - i * size)=off+j by omega]at h5
    rw[h5,hfl,List.append_assoc,List.getElem?_append_right (by rw[List.length_take];omega),List.getElem?_append_left (by rw[List.length_take];omega),List.length_take]
    congr 1;omega
   ·have h6:cur'[off+j]? =cur[off+j]? :=by
     rw[he]
     simp only[List.getElem?_toArray]
     rw[List.getElem?_append_right (by simp[List.length_take];omega),List.getElem?_drop,←Array.getElem?_toList]
     congr 1
     simp[List.length_take];omega
    rw[h6,ht j hj,hfl,List.append_assoc,List.getElem?_append_right (by rw[List.length_take];omega),List.getElem?_append_right (by rw[List.length_take];omega),List.getElem?_drop,List.length_take]
    congr 1;omega
 ·rcases List.mem_or_eq_of_mem_set hx with hx|rfl
  ·exact h.2 x hx
  ·exact⟨hr,h1⟩
theorem wpList_stN{T size B:Nat}(hgd:o.guard=none)(ty:TypeId)(x y:Operand)(ho:o.op=.store ty x y){g off cap i:Nat}{rs:List (List Value)}(hown:SlN w T size B (.slice (some ⟨g,off,none⟩) rs.length cap) rs)(hi:i<rs.length)
  (hx:a.eval x=.pointer (some ⟨g,off+i * size,none⟩)) (r:List Value) (hy:a.eval y=.agg r.toArray) (hr:r.length=size) (h1:r.all (·.oneCell')=true) (hinf:(P.info? ty).map (·.size)=some r.length)
  (h: ∀w',SlN w' T size B (.slice (some ⟨g,off,none⟩) rs.length cap) (rs.set i r)→TurnAt g w w'→wpList P ops Q rest (a.put o.dst undef) w'):wpList P ops Q (o::rest) a w:=by
 obtain⟨h2,h3,h4⟩:=hown.stored hi r hr (List.all_eq_true.1 h1)
 refine wpList_store_mid hgd ty x y ho g (off+i * size) r.toArray hx hy (by simpa using h2) (by simpa using hinf) (all_oneCell_toArray (List.all_eq_true.1 h1)) ?_
 exact h _ (by simpa using h3) (by simpa using h4)
end
theorem slnAt(w:World)(T size B z:Nat)(hb:B≤w.heap.size)(h:w.heap.size=z):SlN (w.alloc (.cells #[] T)) T size B (.slice (some ⟨z,0,none⟩) 0 0) []:=h ▸ SlN.made w T size B hb
def Left(L n:Nat)(e:Ending):Prop:=e=.returned (.int .i64 (-1))∨ ∃z:Nat,e=.returned (.int .i64 z)∧z+n=L
theorem RI.len{w:World}{s:Sv}{xs:List Int}(h:RI w s.v xs):s.n=xs.length:=by
 obtain⟨ao,cap,h1,_⟩:=h;unfold Sv.v at h1;simp at h1;exact h1.2.1
theorem RT.len{w:World}{s:Sv}{xs:List ByteArray}(h:RT w s.v xs):s.n=xs.length:=by
 obtain⟨ao,cap,h1,_⟩:=h;unfold Sv.v at h1;simp at h1;exact h1.2.1
theorem RIt.len{w:World}{s:Sv}{xs:List It}(h:RIt w s.v xs):s.n=xs.length:=by
 obtain⟨ao,cap,h1,_⟩:=h;unfold Sv.v at h1;simp at h1;exact h1.2.1
structure MtL (m:Mt):Prop where
 ms:m.ms.length≤9223372036854775807
 its:m.its.length≤9223372036854775807
 lv:m.lv.length≤9223372036854775807
 tx:m.tx.length≤9223372036854775807
 ws:m.la.ws.length≤9223372036854775807
 it: ∀x∈m.its,x.2.2.2.size≤9223372036854775807
 te: ∀x∈m.tx,x.size≤9223372036854775807
def LeftM(m:Mt)(e:Ending):Prop:=e=.returned (.int .i64 (-1))∨ ∃z:Nat,e=.returned (.int .i64 z)∧MtS m∧z≤1048576
structure MtP (w:World) (m:Mt) (v:Mv):Prop where
 ms:OwnI w 0 v.ms.v m.ms
 its:SlI w 0 v.its.v m.its
 lv:OwnI w 0 v.lv.v m.lv
 tx:OwnS w 0 v.tx.v m.tx
 ws:OwnI w 0 v.ws.v m.la.ws
theorem MtO.p{w:World}{B:Nat}{m:Mt}{v:Mv}(h:MtO w B m v):MtP w m v:=⟨h.ms.down (Nat.zero_le _),h.its.down (Nat.zero_le _),h.lv.down (Nat.zero_le _),h.tx.down (Nat.zero_le _),h.ws.down (Nat.zero_le _)⟩
theorem MtP.r{w:World}{m:Mt}{v:Mv}(h:MtP w m v):MtR w m v:=⟨h.ms.ri,h.its.rit,h.lv.ri,h.tx.rt,h.ws.ri⟩
theorem MtP.keep{w w':World}{m:Mt}{v:Mv}(h:MtP w m v)(hk: ∀k,v.own k→k<w.heap.size→w'.heap[k]? =w.heap[k]?):MtP w' m v:=
 ⟨h.ms.keep fun k a b=>hk k (.inl a) b,h.its.keep fun k a b=>hk k (.inr (.inl a)) b,h.lv.keep fun k a b=>hk k (.inr (.inr (.inl a))) b,h.tx.keep' fun k a b=>hk k (.inr (.inr (.inr (.inl a)))) b,h.ws.keep fun k a b=>hk k (.inr (.inr (.inr (.inr a)))) b⟩
theorem MtP.later{w w':World}{m:Mt}{v:Mv}(h:MtP w m v)(hb:Below w.heap.size w w'):MtP w' m v:=h.keep fun k _ hk=>hb.block k hk
theorem Pl.OwnI.sv{w:World}{B:Nat}{v:Value}{xs:List Int}(h:OwnI w B v xs): ∃s:Sv,v=.slice s.a s.n s.c:=by obtain⟨a,c,h1⟩:=h.form;exact⟨⟨a,xs.length,c⟩,h1⟩
theorem Pl.OwnS.sv{w:World}{B:Nat}{v:Value}{xs:List ByteArray}(h:OwnS w B v xs): ∃s:Sv,v=.slice s.a s.n s.c:=by obtain⟨a,c,h1⟩:=h.form;exact⟨⟨a,xs.length,c⟩,h1⟩
theorem SlI.sv{w:World}{B:Nat}{v:Value}{xs:List It}(h:SlI w B v xs): ∃s:Sv,v=.slice s.a s.n s.c:=by obtain⟨a,c,h1⟩:=Sl.form h;exact⟨⟨a,xs.length,c⟩,h1⟩
theorem qDz(c r q a b:Int)(s:Sv)(ws:List Int)(w:World)(h:Hid (OwnI w 0 s.v ws))(hl:ws.length≤1048576):
  Calls Tryz.prog 69 #[.agg #[.int .i64 c,.int .i64 r,.int .i64 q,.int .i64 a,.int .i64 b,.slice s.a s.n s.c]] w fun e w'=>∃u:Sv,e=.returned (.agg #[.int .i64 c,.int .i64 r,.int .i64 q,.int .i64 a,.int .i64 b,.slice u.a u.n u.c])∧OwnI w' w.heap.size u.v ws∧Below w.heap.size w w':=
 (qBr c r q a b s.v ws 0 w h hl).mono fun e w' ⟨v,x,y,z⟩=>by obtain⟨u,rfl⟩:=y.sv;exact⟨u,x,y,z⟩
theorem copyTok_s(c r q a b:Int)(s:Sv)(ws:List Int)(w:World)(h:Hid (OwnI w 0 s.v ws))(hl:ws.length≤1048576):
  Calls Tryz.prog 60 #[.agg #[.int .i64 c,.int .i64 r,.int .i64 q,.int .i64 a,.int .i64 b,.slice s.a s.n s.c]] w fun e w'=>∃u:Sv,e=.returned (.agg #[.int .i64 c,.int .i64 r,.int .i64 q,.int .i64 a,.int .i64 b,.slice u.a u.n u.c])∧OwnI w' w.heap.size u.v ws∧Below w.heap.size w w':=
 (qEn c r q a b s.v ws 0 w h hl).mono fun e w' ⟨v,x,y,z⟩=>by obtain⟨u,rfl⟩:=y.sv;exact⟨u,x,y,z⟩
theorem qCm(m:Mt)(v:Mv)(w:World)(h:Hid (MtP w m v))(hs:Hid (MtS m)):
  Calls Tryz.prog 61 #[.agg #[.int .i64 m.id,.int .i64 m.rid,.slice v.ms.a v.ms.n v.ms.c,.slice v.its.a v.its.n v.its.c,.slice v.lv.a v.lv.n v.lv.c,.slice v.tx.a v.tx.n v.tx.c,.int .i64 m.rd,.int .i64 m.se,.int .i64 m.li,.int .i64 m.he,.int .i64 m.la.c,.int .i64 m.la.r,.int .i64 m.la.q,.int .i64 m.la.a,.int .i64 m.la.b,.slice v.ws.a v.ws.n v.ws.c]] w fun e w'=>∃u:Mv,e=.returned (.agg #[.int .i64 m.id,.int .i64 m.rid,.slice u.ms.a u.ms.n u.ms.c,.slice u.its.a u.its.n u.its.c,.slice u.lv.a u.lv.n u.lv.c,.slice u.tx.a u.tx.n u.tx.c,.int .i64 m.rd,.int .i64 m.se,.int .i64 m.li,.int .i64 m.he,.int .i64 m.la.c,.int .i64 m.la.r,.int .i64 m.la.q,.int .i64 m.la.a,.int .i64 m.la.b,.slice u.ws.a u.ws.n u.ws.c])∧MtO w' w.heap.size m u∧Below w.heap.size w w':=by
 have hn1:(w.alloc (.cells #[.int .i64 m.id,.int .i64 m.rid,.slice v.ms.a v.ms.n v.ms.c,.slice v.its.a v.its.n v.its.c,.slice v.lv.a v.lv.n v.lv.c,.slice v.tx.a v.tx.n v.tx.c,.int .i64 m.rd,.int .i64 m.se,.int .i64 m.li,.int .i64 m.he,.int .i64 m.la.c,.int .i64 m.la.r,.int .i64 m.la.q,.int .i64 m.la.a,.int .i64 m.la.b,.slice v.ws.a v.ws.n v.ws.c] 32)).heap.size=w.heap.size+1:=by simp
 have HA:Hid (MtB ((w.alloc (.cells #[.int .i64 m.id,.int .i64 m.rid,.slice v.ms.a v.ms.n v.ms.c,.slice v.its.a v.its.n v.its.c,.slice v.lv.a v.lv.n v.lv.c,.slice v.tx.a v.tx.n v.tx.c,.int .i64 m.rd,.int .i64 m.se,.int .i64 m.li,.int .i64 m.he,.int .i64 m.la.c,.int .i64 m.la.r,.int .i64 m.la.q,.int .i64 m.la.a,.int .i64 m.la.b,.slice v.ws.a v.ws.n v.ws.c] 32)).alloc (.cells #[.int .i64 0,.int .i64 0,.slice none 0 0,.slice none 0 0,.slice none 0 0,.slice none 0 0,.int .i64 0,.int .i64 0,.int .i64 0,.int .i64 0,.int .i64 0,.int .i64 0,.int .i64 0,.int .i64 0,.int .i64 0,.slice none 0 0] 32)) w.heap.size 32 m v):=by
  have h:=Bx.new w 32 [.int .i64 m.id,.int .i64 m.rid,.slice v.ms.a v.ms.n v.ms.c,.slice v.its.a v.its.n v.its.c,.slice v.lv.a v.lv.n v.lv.c,.slice v.tx.a v.tx.n v.tx.c,.int .i64 m.rd,.int .i64 m.se,.int .i64 m.li,.int .i64 m.he,.int .i64 m.la.c,.int .i64 m.la.r,.int .i64 m.la.q,.int .i64 m.la.a,.int .i64 m.la.b,.slice v.ws.a v.ws.n v.ws.c]
  exact h.stays (B:=w.heap.size+1) ((Below.refl _ _).alloc (by rw[hn1];exact Nat.le_refl _) _) (by omega)
 have HR:Hid (Bx ((w.alloc (.cells #[.int .i64 m.id,.int .i64 m.rid,.slice v.ms.a v.ms.n v.ms.c,.slice v.its.a v.its.n v.its.c,.slice v.lv.a v.lv.n v.lv.c,.slice v.tx.a v.tx.n v.tx.c,.int .i64 m.rd,.int .i64 m.se,.int .i64 m.li,.int .i64 m.he,.int .i64 m.la.c,.int .i64 m.la.r,.int .i64 m.la.q,.int .i64 m.la.a,.int .i64 m.la.b,.slice v.ws.a v.ws.n v.ws.c] 32)).alloc (.cells #[.int .i64 0,.int .i64 0,.slice none 0 0,.slice none 0 0,.slice none 0 0,.slice none 0 0,.int .i64 0,.int .i64 0,.int .i64 0,.int .i64 0,.int .i64 0,.int .i64 0,.int .i64 0,.int .i64 0,.int .i64 0,.slice none 0 0] 32)) (w.heap.size+1) 32 [.int .i64 0,.int .i64 0,.slice none 0 0,.slice none 0 0,.slice none 0 0,.slice none 0 0,.int .i64 0,.int .i64 0,.int .i64 0,.int .i64 0,.int .i64 0,.int .i64 0,.int .i64 0,.int .i64 0,.int .i64 0,.slice none 0 0]):=by
  have h:=Bx.new (w.alloc (.cells #[.int .i64 m.id,.int .i64 m.rid,.slice v.ms.a v.ms.n v.ms.c,.slice v.its.a v.its.n v.its.c,.slice v.lv.a v.lv.n v.lv.c,.slice v.tx.a v.tx.n v.tx.c,.int .i64 m.rd,.int .i64 m.se,.int .i64 m.li,.int .i64 m.he,.int .i64 m.la.c,.int .i64 m.la.r,.int .i64 m.la.q,.int .i64 m.la.a,.int .i64 m.la.b,.slice v.ws.a v.ws.n v.ws.c] 32)) 32 [.int .i64 0,.int .i64 0,.slice none 0 0,.slice none 0 0,.slice none 0 0,.slice none 0 0,.int .i64 0,.int .i64 0,.int .i64 0,.int .i64 0,.int .i64 0,.int .i64 0,.int .i64 0,.int .i64 0,.int .i64 0,.slice none 0 0]
  rw[hn1]at h
  exact h
 have HB:Hid (Below w.heap.size w ((w.alloc (.cells #[.int .i64 m.id,.int .i64 m.rid,.slice v.ms.a v.ms.n v.ms.c,.slice v.its.a v.its.n v.its.c,.slice v.lv.a v.lv.n v.lv.c,.slice v.tx.a v.tx.n v.tx.c,.int .i64 m.rd,.int .i64 m.se,.int .i64 m.li,.int .i64 m.he,.int .i64 m.la.c,.int .i64 m.la.r,.int .i64 m.la.q,.int .i64 m.la.a,.int .i64 m.la.b,.slice v.ws.a v.ws.n v.ws.c] 32)).alloc (.cells #[.int .i64 0,.int .i64 0,.slice none 0 0,.slice none 0 0,.slice none 0 0,.slice none 0 0,.int .i64 0,.int .i64 0,.int .i64 0,.int .i64 0,.int .i64 0,.int .i64 0,.int .i64 0,.int .i64 0,.int .i64 0,.slice none 0 0] 32))):=((Below.refl _ _).alloc (Nat.le_refl _) _).alloc (by simp) _
 clear hn1
 go_enter Tryz.func61,Tryz.ntmps61
 go_wp2_with (first|(refine qEg _ _ _ rfl ?_))
 generalize (w.alloc (.cells #[.int .i64 m.id,.int .i64 m.rid,.slice v.ms.a v.ms.n v.ms.c,.slice v.its.a v.its.n v.its.c,.slice v.lv.a v.lv.n v.lv.c,.slice v.tx.a v.tx.n v.tx.c,.int .i64 m.rd,.int .i64 m.se,.int .i64 m.li,.int .i64 m.he,.int .i64 m.la.c,.int .i64 m.la.r,.int .i64 m.la.q,.int .i64 m.la.a,.int .i64 m.la.b,.slice v.ws.a v.ws.n v.ws.c] 32)).alloc (.cells #[.int .i64 0,.int .i64 0,.slice none 0 0,.slice none 0 0,.slice none 0 0,.slice none 0 0,.int .i64 0,.int .i64 0,.int .i64 0,.int .i64 0,.int .i64 0,.int .i64 0,.int .i64 0,.int .i64 0,.int .i64 0,.slice none 0 0] 32)=W at *
 refine Stp.go ?_
 have zB1:w.heap.size≤W.heap.size:=HB.out.size
 have HA2:Hid (Bx (W.alloc (.cells #[] 3)) w.heap.size 32 [.int .i64 m.id,.int .i64 m.rid,.slice v.ms.a v.ms.n v.ms.c,.slice v.its.a v.its.n v.its.c,.slice v.lv.a v.lv.n v.lv.c,.slice v.tx.a v.tx.n v.tx.c,.int .i64 m.rd,.int .i64 m.se,.int .i64 m.li,.int .i64 m.he,.int .i64 m.la.c,.int .i64 m.la.r,.int .i64 m.la.q,.int .i64 m.la.a,.int .i64 m.la.b,.slice v.ws.a v.ws.n v.ws.c]):=HA.out.later ((Below.refl _ _).alloc (Nat.le_refl _) _)
 have SR:Hid (RI (W.alloc (.cells #[] 3)) (.slice v.ms.a v.ms.n v.ms.c) m.ms):=(h.out.ms.ri).stays (HB.out.trans (((Below.refl _ _).alloc (Nat.le_refl _) _).mono zB1))
 have OW:Hid (OwnI (W.alloc (.cells #[] 3)) W.heap.size (.slice (some ⟨W.heap.size,0,none⟩) 0 0) []):=OwnI.made W W.heap.size (Nat.le_refl _)
 go_wp2_with (first|(refine qAt rfl 24 _ rfl w.heap.size 2 rfl 32 _ HA2.out (.slice v.ms.a v.ms.n v.ms.c) rfl _ Tryz.underlying24 rfl ?_)|(at_builtin;refine qCz rfl _ _ 24 rfl Tryz.underlying24 Tryz.info3' W.heap.size (.slice (some ⟨W.heap.size,0,none⟩) 0 0) [] rfl OW.out (.slice v.ms.a v.ms.n v.ms.c) m.ms rfl SR.out (by have:=hs.out.ms;simp;omega) (Nat.le_of_lt (by simp)) (fun h=>by cases h) ?_;intro v1 w1 ho hg;have Xms:Hid (OwnI w1 W.heap.size v1 m.ms):=ho;have G1:Hid ((W.alloc (.cells #[] 3)).grownBy w1 (some W.heap.size)):=hg;clear ho hg;refine Stp.here ?_))
 refine Stp.go ?_
 obtain⟨ums,hf1⟩:=Xms.out.sv
 subst hf1
 have K1a:Hid (KeepBut w.heap.size W w1):=qBy G1.out
 obtain⟨HA,HR⟩:=cy2 (HA.out.afterGrown G1.out) (HR.out.afterGrown G1.out)
 have HB:Hid (Below w.heap.size w w1):=qCf HB.out HB.out.size G1.out
 clear HA2 SR OW G1
 go_wp2_with (first|(refine qAe rfl 24 _ _ rfl w.heap.size 2 rfl 32 _ HA.out (.slice ums.a ums.n ums.c) rfl (by simp) rfl Tryz.sizeNs (mX m.id m.rid ums v.its v.lv v.tx m.rd m.se m.li m.he m.la.c m.la.r m.la.q m.la.a m.la.b v.ws) rfl ?_;intro s1 OB TB;refine Stp.here ?_))
 refine Stp.go ?_
 have BX1:=Ag (HA.out)
 have K1b:Hid (KeepBut w.heap.size w1 s1):=TB.keep
 obtain⟨HR,HB,HA⟩:=cy3 (HR.out.turn TB (by omega)) (HB.out.trans (TB.below (Nat.le_refl _))) OB
 clear OB TB
 have zB2:w.heap.size≤s1.heap.size:=HB.out.size
 have HA2:Hid (Bx (s1.alloc (.cells #[] 41)) w.heap.size 32 [.int .i64 m.id,.int .i64 m.rid,.slice ums.a ums.n ums.c,.slice v.its.a v.its.n v.its.c,.slice v.lv.a v.lv.n v.lv.c,.slice v.tx.a v.tx.n v.tx.c,.int .i64 m.rd,.int .i64 m.se,.int .i64 m.li,.int .i64 m.he,.int .i64 m.la.c,.int .i64 m.la.r,.int .i64 m.la.q,.int .i64 m.la.a,.int .i64 m.la.b,.slice v.ws.a v.ws.n v.ws.c]):=HA.out.later ((Below.refl _ _).alloc (Nat.le_refl _) _)
 have SR:Hid (RIt (s1.alloc (.cells #[] 41)) (.slice v.its.a v.its.n v.its.c) m.its):=(h.out.its.rit).stays (HB.out.trans (((Below.refl _ _).alloc (Nat.le_refl _) _).mono zB2))
 have OW:Hid (SlI (s1.alloc (.cells #[] 41)) s1.heap.size (.slice (some ⟨s1.heap.size,0,none⟩) 0 0) []):=SlI.made s1 s1.heap.size (Nat.le_refl _)
 go_wp2_with (first|(refine qAt rfl 27 _ rfl w.heap.size 3 rfl 32 _ HA2.out (.slice v.its.a v.its.n v.its.c) rfl _ Tryz.underlying27 rfl ?_)|(at_builtin;refine qCs rfl _ _ 27 rfl Tryz.underlying27 s1.heap.size (.slice (some ⟨s1.heap.size,0,none⟩) 0 0) [] rfl OW.out (.slice v.its.a v.its.n v.its.c) m.its rfl SR.out (by have:=hs.out.its;simp;omega) (Nat.le_of_lt (by simp)) ?_;intro v2 w2 ho hg _;have Xits:Hid (SlI w2 s1.heap.size v2 m.its):=ho;have G2:Hid ((s1.alloc (.cells #[] 41)).grownBy w2 (some s1.heap.size)):=hg;clear ho hg;refine Stp.here ?_))
 refine Stp.go ?_
 obtain⟨uits,hf2⟩:=Xits.out.sv
 subst hf2
 have K2a:Hid (KeepBut w.heap.size s1 w2):=qBy G2.out
 obtain⟨HA,HR⟩:=cy2 (HA.out.afterGrown G2.out) (HR.out.afterGrown G2.out)
 have HB:Hid (Below w.heap.size w w2):=qCf HB.out HB.out.size G2.out
 clear HA2 SR OW G2
 go_wp2_with (first|(refine qAe rfl 27 _ _ rfl w.heap.size 3 rfl 32 _ HA.out (.slice uits.a uits.n uits.c) rfl (by simp) rfl Tryz.sizeIs (mX m.id m.rid ums uits v.lv v.tx m.rd m.se m.li m.he m.la.c m.la.r m.la.q m.la.a m.la.b v.ws) rfl ?_;intro s2 OB TB;refine Stp.here ?_))
 refine Stp.go ?_
 have BX2:=Ag (HA.out)
 have K2b:Hid (KeepBut w.heap.size w2 s2):=TB.keep
 obtain⟨HR,HB,HA⟩:=cy3 (HR.out.turn TB (by omega)) (HB.out.trans (TB.below (Nat.le_refl _))) OB
 clear OB TB
 have zB3:w.heap.size≤s2.heap.size:=HB.out.size
 have HA2:Hid (Bx (s2.alloc (.cells #[] 3)) w.heap.size 32 [.int .i64 m.id,.int .i64 m.rid,.slice ums.a ums.n ums.c,.slice uits.a uits.n uits.c,.slice v.lv.a v.lv.n v.lv.c,.slice v.tx.a v.tx.n v.tx.c,.int .i64 m.rd,.int .i64 m.se,.int .i64 m.li,.int .i64 m.he,.int .i64 m.la.c,.int .i64 m.la.r,.int .i64 m.la.q,.int .i64 m.la.a,.int .i64 m.la.b,.slice v.ws.a v.ws.n v.ws.c]):=HA.out.later ((Below.refl _ _).alloc (Nat.le_refl _) _)
 have SR:Hid (RI (s2.alloc (.cells #[] 3)) (.slice v.lv.a v.lv.n v.lv.c) m.lv):=(h.out.lv.ri).stays (HB.out.trans (((Below.refl _ _).alloc (Nat.le_refl _) _).mono zB3))
 have OW:Hid (OwnI (s2.alloc (.cells #[] 3)) s2.heap.size (.slice (some ⟨s2.heap.size,0,none⟩) 0 0) []):=OwnI.made s2 s2.heap.size (Nat.le_refl _)
 go_wp2_with (first|(refine qAt rfl 24 _ rfl w.heap.size 4 rfl 32 _ HA2.out (.slice v.lv.a v.lv.n v.lv.c) rfl _ Tryz.underlying24 rfl ?_)|(at_builtin;refine qCz rfl _ _ 24 rfl Tryz.underlying24 Tryz.info3' s2.heap.size (.slice (some ⟨s2.heap.size,0,none⟩) 0 0) [] rfl OW.out (.slice v.lv.a v.lv.n v.lv.c) m.lv rfl SR.out (by have:=hs.out.lv;simp;omega) (Nat.le_of_lt (by simp)) (fun h=>by cases h) ?_;intro v3 w3 ho hg;have Xlv:Hid (OwnI w3 s2.heap.size v3 m.lv):=ho;have G3:Hid ((s2.alloc (.cells #[] 3)).grownBy w3 (some s2.heap.size)):=hg;clear ho hg;refine Stp.here ?_))
 refine Stp.go ?_
 obtain⟨ulv,hf3⟩:=Xlv.out.sv
 subst hf3
 have K3a:Hid (KeepBut w.heap.size s2 w3):=qBy G3.out
 obtain⟨HA,HR⟩:=cy2 (HA.out.afterGrown G3.out) (HR.out.afterGrown G3.out)
 have HB:Hid (Below w.heap.size w w3):=qCf HB.out HB.out.size G3.out
 clear HA2 SR OW G3
 go_wp2_with (first|(refine qAe rfl 24 _ _ rfl w.heap.size 4 rfl 32 _ HA.out (.slice ulv.a ulv.n ulv.c) rfl (by simp) rfl Tryz.sizeNs (mX m.id m.rid ums uits ulv v.tx m.rd m.se m.li m.he m.la.c m.la.r m.la.q m.la.a m.la.b v.ws) rfl ?_;intro s3 OB TB;refine Stp.here ?_))
 refine Stp.go ?_
 have BX3:=Ag (HA.out)
 have K3b:Hid (KeepBut w.heap.size w3 s3):=TB.keep
 obtain⟨HR,HB,HA⟩:=cy3 (HR.out.turn TB (by omega)) (HB.out.trans (TB.below (Nat.le_refl _))) OB
 clear OB TB
 have zB4:w.heap.size≤s3.heap.size:=HB.out.size
 have HA2:Hid (Bx (s3.alloc (.cells #[] 9)) w.heap.size 32 [.int .i64 m.id,.int .i64 m.rid,.slice ums.a ums.n ums.c,.slice uits.a uits.n uits.c,.slice ulv.a ulv.n ulv.c,.slice v.tx.a v.tx.n v.tx.c,.int .i64 m.rd,.int .i64 m.se,.int .i64 m.li,.int .i64 m.he,.int .i64 m.la.c,.int .i64 m.la.r,.int .i64 m.la.q,.int .i64 m.la.a,.int .i64 m.la.b,.slice v.ws.a v.ws.n v.ws.c]):=HA.out.later ((Below.refl _ _).alloc (Nat.le_refl _) _)
 have SR:Hid (RT (s3.alloc (.cells #[] 9)) (.slice v.tx.a v.tx.n v.tx.c) m.tx):=(h.out.tx.rt).stays (HB.out.trans (((Below.refl _ _).alloc (Nat.le_refl _) _).mono zB4))
 have OW:Hid (OwnS (s3.alloc (.cells #[] 9)) s3.heap.size (.slice (some ⟨s3.heap.size,0,none⟩) 0 0) []):=OwnS.made s3 s3.heap.size (Nat.le_refl _)
 go_wp2_with (first|(refine qAt rfl 28 _ rfl w.heap.size 5 rfl 32 _ HA2.out (.slice v.tx.a v.tx.n v.tx.c) rfl _ Tryz.underlying28 rfl ?_)|(at_builtin;refine qGy rfl _ _ 28 rfl Tryz.underlying28 Tryz.info9 s3.heap.size (.slice (some ⟨s3.heap.size,0,none⟩) 0 0) [] rfl OW.out (.slice v.tx.a v.tx.n v.tx.c) m.tx rfl SR.out (by have:=hs.out.tx;simp;omega) (Nat.le_of_lt (by simp)) (fun h=>by cases h) ?_;intro v4 w4 ho hg;have Xtx:Hid (OwnS w4 s3.heap.size v4 m.tx):=ho;have G4:Hid ((s3.alloc (.cells #[] 9)).grownBy w4 (some s3.heap.size)):=hg;clear ho hg;refine Stp.here ?_))
 refine Stp.go ?_
 obtain⟨utx,hf4⟩:=Xtx.out.sv
 subst hf4
 have K4a:Hid (KeepBut w.heap.size s3 w4):=qBy G4.out
 obtain⟨HA,HR⟩:=cy2 (HA.out.afterGrown G4.out) (HR.out.afterGrown G4.out)
 have HB:Hid (Below w.heap.size w w4):=qCf HB.out HB.out.size G4.out
 clear HA2 SR OW G4
 go_wp2_with (first|(refine qAe rfl 28 _ _ rfl w.heap.size 5 rfl 32 _ HA.out (.slice utx.a utx.n utx.c) rfl (by simp) rfl Tryz.sizeTs (mX m.id m.rid ums uits ulv utx m.rd m.se m.li m.he m.la.c m.la.r m.la.q m.la.a m.la.b v.ws) rfl ?_;intro s4 OB TB;refine Stp.here ?_))
 refine Stp.go ?_
 have BX4:=Ag (HA.out)
 have K4b:Hid (KeepBut w.heap.size w4 s4):=TB.keep
 obtain⟨HR,HB,HA⟩:=cy3 (HR.out.turn TB (by omega)) (HB.out.trans (TB.below (Nat.le_refl _))) OB
 clear OB TB
 have zB5:w.heap.size≤s4.heap.size:=HB.out.size
 go_wp2_with (first|(refine qAb rfl 30 _ rfl w.heap.size 10 rfl 32 _ HA.out (tX m.la.c m.la.r m.la.q m.la.a m.la.b v.ws) rfl _ Tryz.underlying30 rfl Tryz.sizeT ?_))
 refine(qDz m.la.c m.la.r m.la.q m.la.a m.la.b v.ws m.la.ws _ (h.out.ws.stays HB.out (fun k hk=>(h.out.ws.lt k hk).2)) hs.out.ws).mono ?_
 rintro e w5 ⟨uws,rfl,ho,b⟩
 have Xws:Hid (OwnI w5 s4.heap.size uws.v m.la.ws):=ho
 have K5a:Hid (KeepBut w.heap.size s4 w5):=qAc b
 obtain⟨HA,HR,HB⟩:=cy3 (HA.out.later b) (HR.out.later b) (qAa HB.out b)
 clear ho b
 have BX5:=Ag (HA.out)
 go_wp2_with (first|(refine qCk rfl 30 _ _ rfl w.heap.size 10 rfl 32 _ HA.out (tX m.la.c m.la.r m.la.q m.la.a m.la.b uws) rfl (by simp) Tryz.sizeT rfl (mX m.id m.rid ums uits ulv utx m.rd m.se m.li m.he m.la.c m.la.r m.la.q m.la.a m.la.b uws) rfl ?_;intro s5 OB TB;have K5b:Hid (KeepBut w.heap.size w5 s5):=TB.keep;have HR:=Ag (HR.out.turn TB (by omega));have HB:=Ag (HB.out.trans (TB.below (Nat.le_refl _)));have HA:=Ag OB;clear OB TB)|(refine qAb rfl 32 _ rfl w.heap.size 0 rfl 32 _ HA.out (mX m.id m.rid ums uits ulv utx m.rd m.se m.li m.he m.la.c m.la.r m.la.q m.la.a m.la.b uws) rfl _ Tryz.underlying32 rfl Tryz.sizeM ?_)|(refine qAd rfl 32 _ _ rfl (w.heap.size+1) rfl 32 _ HR.out (mX m.id m.rid ums uits ulv utx m.rd m.se m.li m.he m.la.c m.la.r m.la.q m.la.a m.la.b uws) rfl rfl Tryz.sizeM rfl ?_;intro wz RZ TZ))
 have BZ:=HB.out.trans (TZ.below (by omega))
 refine bodyPost_ret (qBd Tryz.results61 (w.heap.size+1) 32 (mX m.id m.rid ums uits ulv utx m.rd m.se m.li m.he m.la.c m.la.r m.la.q m.la.a m.la.b uws) _ rfl RZ Tryz.underlying32 rfl Tryz.sizeM) rfl ?_
 have Yms:=(Xms.out.keepb BX1.out ((((K1b.out.trans (K2a.out.trans K2b.out)).trans (K3a.out.trans K3b.out)).trans (K4a.out.trans K4b.out)).trans (K5a.out.trans K5b.out)) (by decide)).past HR.out TZ (by decide)
 have Yits:=(Xits.out.keepb BX2.out (((K2b.out.trans (K3a.out.trans K3b.out)).trans (K4a.out.trans K4b.out)).trans (K5a.out.trans K5b.out)) (by decide)).past HR.out TZ (by decide)
 have Ylv:=(Xlv.out.keepb BX3.out ((K3b.out.trans (K4a.out.trans K4b.out)).trans (K5a.out.trans K5b.out)) (by decide)).past HR.out TZ (by decide)
 have Ytx:=(Xtx.out.keepb BX4.out (K4b.out.trans (K5a.out.trans K5b.out)) (by decide)).past HR.out TZ (by decide)
 have Yws:=(Xws.out.keepb BX5.out K5b.out (by decide)).past HR.out TZ (by decide)
 have ga1:=K1a.out.size
 have gb1:=K1b.out.size
 have ga2:=K2a.out.size
 have gb2:=K2b.out.size
 have ga3:=K3a.out.size
 have gb3:=K3b.out.size
 have ga4:=K4a.out.size
 have gb4:=K4b.out.size
 have ga5:=K5a.out.size
 have gb5:=K5b.out.size
 refine⟨⟨ums,uits,ulv,utx,uws⟩,rfl,⟨Yms.down (by omega),Yits.down (by omega),Ylv.down (by omega),Ytx.down (by omega),Yws.down (by omega),?_,?_,?_⟩,BZ⟩
 ·exact fun k h1 h2=>by have:=(Xms.out.lt k h1).2;have:=(Xlv.out.lt k h2).1;omega
 ·exact fun k h1 h2=>by have:=(Xms.out.lt k h1).2;have:=(Xws.out.lt k h2).1;omega
 ·exact fun k h1 h2=>by have:=(Xlv.out.lt k h1).2;have:=(Xws.out.lt k h2).1;omega
structure Fl where
 to:Int
 tk:Bool
 t:Tok
 x:It
def mcel(e:Mt × Mv):List Value:=(mX e.1.id e.1.rid e.2.ms e.2.its e.2.lv e.2.tx e.1.rd e.1.se e.1.li e.1.he e.1.la.c e.1.la.r e.1.la.q e.1.la.a e.1.la.b e.2.ws)
def fcel(e:Fl × Sv):List Value:=[.int .i64 e.1.to,.bool e.1.tk,.int .i64 e.1.t.c,.int .i64 e.1.t.r,.int .i64 e.1.t.q,.int .i64 e.1.t.a,.int .i64 e.1.t.b,.slice e.2.a e.2.n e.2.c,.int .i64 e.1.x.1,.int .i64 e.1.x.2.1,.int .i64 e.1.x.2.2.1,.string e.1.x.2.2.2]
def hcel(e:List It × Sv):List Value:=[.slice e.2.a e.2.n e.2.c]
def MsP(w:World)(B:Nat)(v:Value)(es:List (Mt × Mv)):Prop:=SlN w 32 16 B v (es.map mcel)∧∀e∈es,MtP w e.1 e.2
def FsP(w:World)(B:Nat)(v:Value)(es:List (Fl × Sv)):Prop:=SlN w 68 12 B v (es.map fcel)∧∀e∈es,OwnI w 0 e.2.v e.1.t.ws
def HsP(w:World)(B:Nat)(v:Value)(es:List (List It × Sv)):Prop:=SlN w 27 1 B v (es.map hcel)∧∀e∈es,SlI w 0 e.2.v e.1
structure Wv where
 rid:Int
 ms:List Int
 mv:Sv
 ma:List (Mt × Mv)
 mav:Sv
 fl:List (Fl × Sv)
 flv:Sv
 he:List (List It × Sv)
 hev:Sv
 sa:List It
 sav:Sv
def Wv.cells(k:Wv):List Value:=[.int .i64 k.rid,.slice k.mv.a k.mv.n k.mv.c,.slice k.mav.a k.mav.n k.mav.c,.slice k.flv.a k.flv.n k.flv.c,.slice k.hev.a k.hev.n k.hev.c,.slice k.sav.a k.sav.n k.sav.c]
structure WkP (w:World) (k:Wv):Prop where
 ring:OwnI w 0 k.mv.v k.ms
 ma:MsP w 0 k.mav.v k.ma
 fl:FsP w 0 k.flv.v k.fl
 he:HsP w 0 k.hev.v k.he
 sa:SlI w 0 k.sav.v k.sa
section
variable {w w' : World} {B : Nat} {v : Value}
theorem MtP.keepb{m:Mt}{u:Mv}{g T:Nat}{cs:List Value}(h:MtP w m u)(hB:Bx w g T cs)(hk:KeepBut g w w')(h3:T≠3)(h9:T≠9)(hi:T≠41):MtP w' m u:=
 ⟨h.ms.keepb hB hk h3,h.its.keepb hB hk hi,h.lv.keepb hB hk h3,h.tx.keepb hB hk h9,h.ws.keepb hB hk h3⟩
theorem MsP.below{es:List (Mt × Mv)}(h:MsP w B v es)(hb:Below w.heap.size w w'):MsP w' B v es:=⟨h.1.below hb,fun e he=>(h.2 e he).later hb⟩
theorem FsP.below{es:List (Fl × Sv)}(h:FsP w B v es)(hb:Below w.heap.size w w'):FsP w' B v es:=⟨h.1.below hb,fun e he=>(h.2 e he).keep fun k _ hk=>hb.block k hk⟩
theorem HsP.below{es:List (List It × Sv)}(h:HsP w B v es)(hb:Below w.heap.size w w'):HsP w' B v es:=⟨h.1.below hb,fun e he=>(h.2 e he).below hb⟩
theorem MsP.down{B':Nat}{es:List (Mt × Mv)}(h:MsP w B v es)(hB:B'≤B):MsP w B' v es:=⟨h.1.down hB,h.2⟩
theorem FsP.down{B':Nat}{es:List (Fl × Sv)}(h:FsP w B v es)(hB:B'≤B):FsP w B' v es:=⟨h.1.down hB,h.2⟩
theorem HsP.down{B':Nat}{es:List (List It × Sv)}(h:HsP w B v es)(hB:B'≤B):HsP w B' v es:=⟨h.1.down hB,h.2⟩
theorem MsP.keepb{es:List (Mt × Mv)}{g:Nat}{cs:List Value}(h:MsP w B v es)(hB:Bx w g 56 cs)(hk:KeepBut g w w'):MsP w' B v es:=⟨h.1.keepb hB hk (by decide),fun e he=>(h.2 e he).keepb hB hk (by decide) (by decide) (by decide)⟩
theorem FsP.keepb{es:List (Fl × Sv)}{g:Nat}{cs:List Value}(h:FsP w B v es)(hB:Bx w g 56 cs)(hk:KeepBut g w w'):FsP w' B v es:=⟨h.1.keepb hB hk (by decide),fun e he=>(h.2 e he).keepb hB hk (by decide)⟩
theorem HsP.keepb{es:List (List It × Sv)}{g:Nat}{cs:List Value}(h:HsP w B v es)(hB:Bx w g 56 cs)(hk:KeepBut g w w'):HsP w' B v es:=⟨h.1.keepb hB hk (by decide),fun e he=>(h.2 e he).keepb hB hk (by decide)⟩
theorem WkP.below{k:Wv}(h:WkP w k)(hb:Below w.heap.size w w'):WkP w' k:=⟨h.ring.keep fun k _ hk=>hb.block k hk,h.ma.below hb,h.fl.below hb,h.he.below hb,h.sa.below hb⟩
theorem WkP.keepb{k:Wv}{g:Nat}{cs:List Value}(h:WkP w k)(hB:Bx w g 56 cs)(hk:KeepBut g w w'):WkP w' k:=
 ⟨h.ring.keepb hB hk (by decide),h.ma.keepb hB hk,h.fl.keepb hB hk,h.he.keepb hB hk,h.sa.keepb hB hk (by decide)⟩
end
theorem Tryz.infoMt:(Tryz.prog.info? 32).map (fun i=>(i.zero,i.size,i.bytes))=some (some (.agg #[.int .i64 0,.int .i64 0,.slice none 0 0,.slice none 0 0,.slice none 0 0,.slice none 0 0,.int .i64 0,.int .i64 0,.int .i64 0,.int .i64 0,.int .i64 0,.int .i64 0,.int .i64 0,.int .i64 0,.int .i64 0,.slice none 0 0]),16,208):=by kernel_rfl
theorem Tryz.infoFl:(Tryz.prog.info? 68).map (fun i=>(i.zero,i.size,i.bytes))=some (some (.agg #[.int .i64 0,.bool false,.int .i64 0,.int .i64 0,.int .i64 0,.int .i64 0,.int .i64 0,.slice none 0 0,.int .i64 0,.int .i64 0,.int .i64 0,.string ⟨#[]⟩]),12,120):=by kernel_rfl
theorem Tryz.sizeWk:(Tryz.prog.info? 56).map (·.size)=some 6:=by kernel_rfl
theorem Tryz.sizeMts:(Tryz.prog.info? 52).map (·.size)=some 1:=by kernel_rfl
theorem Tryz.sizeFls:(Tryz.prog.info? 53).map (·.size)=some 1:=by kernel_rfl
theorem Tryz.sizeIss:(Tryz.prog.info? 54).map (·.size)=some 1:=by kernel_rfl
theorem Tryz.infoIt:(Tryz.prog.info? 27).map (fun i=>(i.zero,i.size,i.bytes))=some (some (.slice none 0 0),1,24):=by kernel_rfl
theorem Tryz.sizeFl:(Tryz.prog.info? 68).map (·.size)=some 12:=by kernel_rfl
structure KeepTy (S:Nat→Prop) (w w':World):Prop where
 os:w'.os=w.os
 tape:w'.tape=w.tape
 output:w'.output=w.output
 size:w.heap.size≤w'.heap.size
 block: ∀k,k<w.heap.size→(∀cs T z,w.heap[k]? =some (.cells cs T z)→¬S T)→w'.heap[k]? =w.heap[k]?
section
variable {S : Nat → Prop} {w w' w'' : World}
theorem KeepTy.refl(S:Nat→Prop)(w:World):KeepTy S w w:=⟨rfl,rfl,rfl,Nat.le_refl _,fun _ _ _=>rfl⟩
theorem KeepTy.trans(h:KeepTy S w w')(k:KeepTy S w' w''):KeepTy S w w'':=
 ⟨k.os.trans h.os,k.tape.trans h.tape,k.output.trans h.output,Nat.le_trans h.size k.size,fun b hb ht=>by
  have h1:=h.block b hb ht
  exact(k.block b (Nat.lt_of_lt_of_le hb h.size) (fun cs T z hc=>ht cs T z (h1 ▸ hc))).trans h1⟩
theorem KeepTy.ofGrown{row:Option Nat}(h:w.grownBy w' row)(hT: ∀k,row=some k→∃cs T z,w.heap[k]? =some (.cells cs T z)∧S T):KeepTy S w w':=
 ⟨h.os,h.tape,h.output,h.size,fun k hk ht=>h.block k hk fun e=>by
  obtain⟨cs,T,z,h1,h2⟩:=hT k e.symm
  exact ht cs T z h1 h2⟩
theorem KeepTy.ofTurn{g T:Nat}{cs:List Value}(hB:Bx w g T cs)(h:TurnAt g w w')(hT:S T):KeepTy S w w':=
 ⟨h.os,h.tape,h.output,Nat.le_of_eq h.size.symm,fun k hk ht=>h.block k fun e=>by subst e;exact ht _ T _ hB hT⟩
theorem KeepTy.ofKeepBut{g T:Nat}{cs:List Value}(hB:Bx w g T cs)(h:KeepBut g w w')(hT:S T):KeepTy S w w':=
 ⟨h.os,h.tape,h.output,h.size,fun k hk ht=>h.block k hk fun e=>by subst e;exact ht _ T _ hB hT⟩
theorem KeepTy.ofPush{T size B:Nat}{v:Value}{rs:List (List Value)}(hs:SlN w T size B v rs)(h:w.grownBy w' v.ownBlock)(hT:S T):KeepTy S w w':=
 .ofGrown h fun k hk=>by obtain⟨cs,hc⟩:=hs.blk hk;exact⟨cs,T,_,hc,hT⟩
theorem Bx.kt{g T:Nat}{cs:List Value}(h:Bx w g T cs)(k:KeepTy S w w')(hS: ¬S T):Bx w' g T cs:=(k.block g h.lt fun cs' T' z hc=>by
 unfold Bx at h;rw[h]at hc;simp at hc;rw[←hc.2.1];exact hS).trans h
theorem SlN.kt{T size B:Nat}{v:Value}{rs:List (List Value)}(h:SlN w T size B v rs)(k:KeepTy S w w')(hS: ¬S T):SlN w' T size B v rs:=
 h.keep fun b hb hlt=>k.block b hlt fun cs T' z hc=>by
  obtain⟨cs',hc'⟩:=h.blk hb
  rw[hc']at hc;simp at hc;rw[←hc.2.1];exact hS
theorem SlI.kt{B:Nat}{v:Value}{ts:List It}(h:SlI w B v ts)(k:KeepTy S w w')(hS: ¬S 41):SlI w' B v ts:=
 h.keep fun b hb hlt=>k.block b hlt fun cs T' z hc=>by
  obtain⟨cs',hc'⟩:=qAp h hb
  rw[hc']at hc;simp at hc;rw[←hc.2.1];exact hS
theorem Pl.OwnI.kt{B:Nat}{v:Value}{xs:List Int}(h:OwnI w B v xs)(k:KeepTy S w w')(hS: ¬S 3):OwnI w' B v xs:=
 h.keep fun b hb hlt=>k.block b hlt fun cs T' z hc=>by
  obtain⟨cs',hc'⟩:=qBn h hb
  rw[hc']at hc;simp at hc;rw[←hc.2.1];exact hS
theorem Pl.OwnS.kt{B:Nat}{v:Value}{xs:List ByteArray}(h:OwnS w B v xs)(k:KeepTy S w w')(hS: ¬S 9):OwnS w' B v xs:=
 h.keep' fun b hb hlt=>k.block b hlt fun cs T' z hc=>by
  obtain⟨cs',hc'⟩:=qGv h hb
  rw[hc']at hc;simp at hc;rw[←hc.2.1];exact hS
theorem MtP.kt{m:Mt}{u:Mv}(h:MtP w m u)(k:KeepTy S w w')(h3: ¬S 3)(h9: ¬S 9)(hi: ¬S 41):MtP w' m u:=
 ⟨h.ms.kt k h3,h.its.kt k hi,h.lv.kt k h3,h.tx.kt k h9,h.ws.kt k h3⟩
end
def wkT(T:Nat):Prop:=T=32∨T=27∨T=56∨T=68
theorem isMember_any(id i:Int)(v:Value)(ms:List Int)(w:World)(h:Hid (RI w v ms))(hl:ms.length≤1048576):
  Calls Tryz.prog 71 #[.int .i64 id,.agg #[.int .i64 i,v]] w fun e w'=>e=.returned (.bool (qAy i ms&&inB ms id))∧Below w.heap.size w w':=by
 obtain⟨HB,HL⟩:=cy2 (Bx.new w 26 [.int .i64 i,v]) (bA w (.cells #[.int .i64 i,v] 26))
 have HX:=Ag (h.out.stays HL.out)
 clear h
 go_enter Tryz.func71,Tryz.ntmps71
 go_wp2_with fail
 generalize w.alloc (.cells #[.int .i64 i,v] 26)=W at *
 refine(ringOk_r i ms HX hl).mono ?_
 rintro e w1 ⟨rfl,b1⟩
 obtain⟨B1,X1⟩:=cy2 (qAa HL.out b1) (HX.out.stays b1)
 have c0:w1.cell? ⟨w.heap.size,0,none⟩=some (.int .i64 i):=(HB.out.later b1).cell 0
 have c1:w1.cell? ⟨w.heap.size,1,none⟩=some v:=(HB.out.later b1).cell 1
 clear HB HL HX b1
 obtain⟨R,hR⟩: ∃R,qAy i ms=R:=⟨_,rfl⟩
 rw[hR]
 have HR:Hid (qAy i ms=R):=hR
 clear hR
 cases R with
 |false=>
  go_wp2_with fail
  go_ret
  exact⟨by rw[HR.out];rfl,B1.out⟩
 |true=>
  go_wp2_with fail
  refine(contains_r ms id X1 hl).mono ?_
  rintro e w2 ⟨rfl,b2⟩
  have B2:=Ag (qAa B1.out b2)
  clear b2
  go_wp2_with fail
  go_ret
  exact⟨by rw[HR.out];rfl,B2.out⟩
theorem copyRing_any(i:Int)(v:Value)(ms:List Int)(w:World)(h:Hid (RI w v ms))(hl:ms.length≤1048576):
  Calls Tryz.prog 95 #[.agg #[.int .i64 i,v]] w fun e w'=>∃v',e=.returned (.agg #[.int .i64 i,v'])∧OwnI w' w.heap.size v' ms∧Below w.heap.size w w':=by
 have hn1:(w.alloc (.cells #[.int .i64 i,v] 26)).heap.size=w.heap.size+1:=by simp
 have hn2:((w.alloc (.cells #[.int .i64 i,v] 26)).alloc (.cells #[.int .i64 0,.slice none 0 0] 26)).heap.size=w.heap.size+2:=by simp
 have HA:Hid (Bx (((w.alloc (.cells #[.int .i64 i,v] 26)).alloc (.cells #[.int .i64 0,.slice none 0 0] 26)).alloc (.cells #[] 3)) w.heap.size 26 [.int .i64 i,v]):=by
  have h:=Bx.new w 26 [.int .i64 i,v]
  exact h.stays (B:=w.heap.size+1) (((Below.refl _ _).alloc (by rw[hn1];exact Nat.le_refl _) _).alloc (by rw[hn2];omega) _) (by omega)
 have HR:Hid (Bx (((w.alloc (.cells #[.int .i64 i,v] 26)).alloc (.cells #[.int .i64 0,.slice none 0 0] 26)).alloc (.cells #[] 3)) (w.heap.size+1) 26 [.int .i64 0,.slice none 0 0]):=by
  have h:=Bx.new (w.alloc (.cells #[.int .i64 i,v] 26)) 26 [.int .i64 0,.slice none 0 0]
  rw[hn1]at h
  exact h.stays (B:=w.heap.size+2) ((Below.refl _ _).alloc (by rw[hn2];exact Nat.le_refl _) _) (by omega)
 have HO:Hid (OwnI (((w.alloc (.cells #[.int .i64 i,v] 26)).alloc (.cells #[.int .i64 0,.slice none 0 0] 26)).alloc (.cells #[] 3)) w.heap.size (.slice (some ⟨w.heap.size+2,0,none⟩) 0 0) []):=by
  have h:=OwnI.made ((w.alloc (.cells #[.int .i64 i,v] 26)).alloc (.cells #[.int .i64 0,.slice none 0 0] 26)) w.heap.size (by rw[hn2];omega)
  rw[hn2]at h
  exact h
 have HB:Hid (Below w.heap.size w (((w.alloc (.cells #[.int .i64 i,v] 26)).alloc (.cells #[.int .i64 0,.slice none 0 0] 26)).alloc (.cells #[] 3))):=(((Below.refl _ _).alloc (Nat.le_refl _) _).alloc (by simp) _).alloc (by simp;omega) _
 have HU:=Ag (h.out.stays HB.out)
 have hsz:w.heap.size≤(((w.alloc (.cells #[.int .i64 i,v] 26)).alloc (.cells #[.int .i64 0,.slice none 0 0] 26)).alloc (.cells #[] 3)).heap.size:=HB.out.size
 have a1:=HA.out.cell 1
 clear h hn1 hn2
 go_enter Tryz.func95,Tryz.ntmps95
 go_wp2_with (first|(at_builtin;refine qCz rfl _ _ 24 rfl Tryz.underlying24 Tryz.info3' w.heap.size (.slice (some ⟨w.heap.size+2,0,none⟩) 0 0) [] rfl HO.out _ ms rfl HU.out (by simp;omega) hsz (fun h=>by cases h) ?_;intro v1 w1 hv1 hg1;have hs1:Hid (World.grownBy _ w1 (some (w.heap.size+2))):=hg1;have ht1:Hid (OwnI w1 w.heap.size v1 ms):=hv1;clear hv1 hg1;refine Stp.here ?_))
 refine Stp.go ?_
 have hv1:=ht1.out
 have hg1:=hs1.out
 obtain⟨ao1,cap1,hf1⟩:=hv1.form
 subst hf1
 generalize (((w.alloc (.cells #[.int .i64 i,v] 26)).alloc (.cells #[.int .i64 0,.slice none 0 0] 26)).alloc (.cells #[] 3))=W at *
 have A1:Hid (Bx w1 w.heap.size 26 [.int .i64 i,v]):=HA.out.grown hg1 (by simp)
 have R1:Hid (Bx w1 (w.heap.size+1) 26 [.int .i64 0,.slice none 0 0]):=HR.out.grown hg1 (by simp)
 have B1:Hid (Below w.heap.size w w1):=HB.out.grown hg1 hsz (fun k hk=>by simp at hk;omega)
 have V1:Hid (OwnI w1 w.heap.size (.slice ao1 ms.length cap1) ms):=hv1
 clear hs1 ht1 hv1 hg1 HA HR HB HO HU hsz a1
 have c1:=A1.out.cell 1
 have f1:=A1.out.frozen 1
 have T2:=(TurnAt.refl w.heap.size w1).setCell 1 (.slice ao1 ms.length cap1)
 have O2:Hid (Bx (w1.setCell ⟨w.heap.size,1,none⟩ (.slice ao1 ms.length cap1)) w.heap.size 26 [.int .i64 i,.slice ao1 ms.length cap1]):=A1.out.set 1 (.slice ao1 ms.length cap1)
 obtain⟨R2,B2⟩:=cy2 (R1.out.turn T2 (by omega)) (B1.out.trans (T2.below (by omega)))
 have V2:Hid (OwnI (w1.setCell ⟨w.heap.size,1,none⟩ (.slice ao1 ms.length cap1)) w.heap.size (.slice ao1 ms.length cap1) ms):=V1.out.keep fun k hk _=>T2.block k (fun e=>qCn V1.out A1.out (by decide) (e ▸ hk))
 have o0:=O2.out.cell 0
 have o1:=O2.out.cell 1
 have r0:=R2.out.cell 0
 have r1:=R2.out.cell 1
 have z0:=R2.out.frozen 0
 have z1:=R2.out.frozen 1
 have R3:Bx _ (w.heap.size+1) 26 [.int .i64 i,.slice ao1 ms.length cap1]:=(R2.out.set 0 (.int .i64 i)).set 1 (.slice ao1 ms.length cap1)
 have T3:=((TurnAt.refl (w.heap.size+1) (w1.setCell ⟨w.heap.size,1,none⟩ (.slice ao1 ms.length cap1))).setCell 0 (.int .i64 i)).setCell 1 (.slice ao1 ms.length cap1)
 have B3:=B2.out.trans (T3.below (by omega))
 have V3:=V2.out.keep fun k hk _=>T3.block k (fun e=>qCn V2.out R2.out (by decide) (e ▸ hk))
 clear T2 T3 R1 A1 B1 V1 V2 R2 O2 B2
 go_wp2_with fail
 generalize ((w1.setCell ⟨w.heap.size,1,none⟩ (.slice ao1 ms.length cap1)).setCell ⟨w.heap.size+1,0,none⟩ (.int .i64 i)).setCell ⟨w.heap.size+1,1,none⟩ (.slice ao1 ms.length cap1)=W3 at *
 have q0:=R3.cell 0
 have q1:=R3.cell 1
 refine bodyPost_ret (v:=.agg #[.int .i64 i,.slice ao1 ms.length cap1]) (by simp[results,Tryz.results95,go_sem,q0,q1]) rfl ?_
 exact⟨_,rfl,V3,B3⟩
def newM(id i:Int)(ms:List Int):Mt:=⟨id,i,ms,[],[],[],0,0,0,0,zTok⟩
theorem qFn(id i:Int)(s:Sv)(ms:List Int)(w:World)(h:Hid (RI w s.v ms))(hl:ms.length≤1048576)(hr:Hid (qAy i ms=true))(hi:Hid (inB ms id=true)):
  Calls Tryz.prog 153 #[.int .i64 id,.agg #[.int .i64 i,.slice s.a s.n s.c]] w fun e w'=>∃u:Sv,e=.returned (.tuple #[.agg #[.int .i64 id,.int .i64 i,.slice u.a u.n u.c,.slice none 0 0,.slice none 0 0,.slice none 0 0,.int .i64 0,.int .i64 0,.int .i64 0,.int .i64 0,.int .i64 0,.int .i64 0,.int .i64 0,.int .i64 0,.int .i64 0,.slice none 0 0],.bool true])∧OwnI w' w.heap.size u.v ms∧Below w.heap.size w w':=by
 obtain⟨HA,HR,HB⟩:=en2 w 26 [.int .i64 i,.slice s.a s.n s.c] 32 [.int .i64 0,.int .i64 0,.slice none 0 0,.slice none 0 0,.slice none 0 0,.slice none 0 0,.int .i64 0,.int .i64 0,.int .i64 0,.int .i64 0,.int .i64 0,.int .i64 0,.int .i64 0,.int .i64 0,.int .i64 0,.slice none 0 0]
 have HX:=Ag (h.out.stays HB.out)
 clear h
 go_enter Tryz.func153,Tryz.ntmps153
 go_wp2_with fail
 generalize ((w.alloc (.cells #[.int .i64 i,.slice s.a s.n s.c] 26)).alloc (.cells #[.int .i64 0,.int .i64 0,.slice none 0 0,.slice none 0 0,.slice none 0 0,.slice none 0 0,.int .i64 0,.int .i64 0,.int .i64 0,.int .i64 0,.int .i64 0,.int .i64 0,.int .i64 0,.int .i64 0,.int .i64 0,.slice none 0 0] 32))=W at *
 refine(qBk i ms HX hl).mono ?_
 rintro e w1 ⟨rfl,b1⟩
 rw[hr.out]
 obtain⟨A1,R1,B1,X1⟩:=cy4 (HA.out.later b1) (HR.out.later b1) (qAa HB.out b1) (HX.out.stays b1)
 have a1:=A1.out.cell 1
 clear HA HR HB HX b1 hr
 go_wp2_with fail
 refine(qKs ms id X1 hl).mono ?_
 rintro e w2 ⟨rfl,b2⟩
 rw[hi.out]
 obtain⟨A2,R2,B2,X2⟩:=cy4 (A1.out.later b2) (R1.out.later b2) (qAa B1.out b2) (X1.out.stays b2)
 clear A1 R1 B1 X1 a1 b2 hi
 have HH:Hid (∀w',Below w2.heap.size w2 w'→(w'.cell? ⟨w.heap.size,0,none⟩=some (.int .i64 i)∧w'.cell? ⟨w.heap.size,1,none⟩=some (.slice s.a s.n s.c))∧Hid (Below w2.heap.size w2 w')):=fun w' hb=>⟨⟨(A2.out.later hb).cell 0,(A2.out.later hb).cell 1⟩,hb⟩
 have HI:=HH.out w2.drew (Below.refl _ _).drew
 have HJ:=HH.out (w2.alloc (.cells #[] 3)).drew ((Below.refl _ _).alloc (Nat.le_refl _) _).drew
 have OW:Hid (OwnI (w2.alloc (.cells #[] 3)).drew w2.heap.size (.slice (some ⟨w2.heap.size,0,none⟩) 0 0) []):=OwnI.made w2 w2.heap.size (Nat.le_refl _)
 have XX:Hid (RI (w2.alloc (.cells #[] 3)).drew s.v ms):=X2.out.stays ((Below.refl _ _).alloc (Nat.le_refl _) _).drew
 have RR:Hid (Bx (w2.alloc (.cells #[] 3)).drew (w.heap.size+1) 32 [.int .i64 0,.int .i64 0,.slice none 0 0,.slice none 0 0,.slice none 0 0,.slice none 0 0,.int .i64 0,.int .i64 0,.int .i64 0,.int .i64 0,.int .i64 0,.int .i64 0,.int .i64 0,.int .i64 0,.int .i64 0,.slice none 0 0]):=R2.out.later ((Below.refl _ _).alloc (Nat.le_refl _) _).drew
 have gne:Hid (w.heap.size+1<w2.heap.size):=R2.out.lt
 go_wp2_with fail
 refine wp_region_held_drew (S:=fun w'=>(w'.cell? ⟨w.heap.size,0,none⟩=some (.int .i64 i)∧w'.cell? ⟨w.heap.size,1,none⟩=some (.slice s.a s.n s.c))) (by kernel_rfl) HI.1 (fun Ah=>?_)
 refine tkQ 0 rfl (by kernel_rfl) (by rfl) (fun _ _=>by simp only[Aa,Ab,Ac];go_simp;try with_reducible rfl) Ah ?_ fun _ _ _ h=>h
 try simp only[Act.put,Aa,Ab,Ac,Ad,Ae,Af]
 refine tkQ 1 rfl (by kernel_rfl) (by rfl) (fun _ _=>by simp only[Aa,Ab,Ac];go_simp;try with_reducible rfl) Ah ?_ fun _ _ _ h=>h
 try simp only[Act.put,Aa,Ab,Ac,Ad,Ae,Af]
 refine tkQ 2 rfl (by kernel_rfl) (by rfl) (fun _ _=>by simp only[Aa,Ab,Ac];go_simp;try with_reducible rfl) Ah ?_ fun _ _ _ h=>h
 try simp only[Act.put,Aa,Ab,Ac,Ad,Ae,Af]
 refine tkQ 4 rfl (by kernel_rfl) (by rfl) (fun _ _=>by simp only[Aa,Ab,Ac];go_simp;try with_reducible rfl) Ah ?_ fun _ _ _ h=>h
 try simp only[Act.put,Aa,Ab,Ac,Ad,Ae,Af]
 refine tkQ 5 rfl (by kernel_rfl) (by rfl) (fun _ _=>by simp only[Aa,Ab,Ac];go_simp;try with_reducible rfl) Ah ?_ fun _ _ _ h=>h
 try simp only[Act.put,Aa,Ab,Ac,Ad,Ae,Af]
 refine wpAnyH_ready (rs:=[3]) (by kernel_rfl) (by simp) ?_
 refine AllReadyH.cons (i:=3) rfl (fun K hK=>?_) AllReadyH.nil
 rw[if_pos (by rfl)]
 simp only[Aa,Ab,Ac]
 go_simp
 refine hK.out _ _ (HJ.1) (fun Ah=>?_)
 clear hK K
 try simp only[Act.put,Aa,Ab,Ac,Ad,Ae,Af]
 refine wpAnyH_ready (rs:=[6]) (by kernel_rfl) (by simp) ?_
 refine AllReadyH.cons (i:=6) rfl (fun K hK=>?_) AllReadyH.nil
 rw[if_pos (by rfl)]
 simp only[Aa,Ab,Ac]
 refine qBz _ _ 24 rfl Tryz.underlying24 Tryz.info3' w2.heap.size (.slice (some ⟨w2.heap.size,0,none⟩) 0 0) [] (by rfl) OW.out (.slice s.a s.n s.c) ms (by rfl) XX.out (by simp;omega) (Nat.le_of_lt (by simp)) (fun h=>by cases h) ?_
 intro v3 w3 hv3 hg3
 obtain⟨ao3,cap3,hf3⟩:=hv3.form
 subst hf3
 have V3:Hid (OwnI w3 w2.heap.size (.slice ao3 ms.length cap3) ms):=hv3
 have L3:Hid (Below w2.heap.size w2 w3):=(((Below.refl w2.heap.size w2).alloc (Nat.le_refl _) _).drew).grown hg3 (Nat.le_of_lt (by simp)) (fun k hk=>by cases hk;exact Nat.le_refl _)
 have HK3:=HH.out w3 L3.out
 have R3:=Ag (R2.out.later L3.out)
 refine hK.out _ _ (HK3.1) (fun Ah=>?_)
 clear hK K
 try simp only[Act.put,Aa,Ab,Ac,Ad,Ae,Af]
 clear hv3 hg3
 refine tkQ 7 rfl (by kernel_rfl) (by rfl) (fun _ _=>by simp only[Aa,Ab,Ac];go_simp;try with_reducible rfl) Ah ?_ fun _ _ _ h=>h
 try simp only[Act.put,Aa,Ab,Ac,Ad,Ae,Af]
 refine tkQ 8 rfl (by kernel_rfl) (by rfl) (fun _ _=>by simp only[Aa,Ab,Ac];go_simp;try with_reducible rfl) Ah ?_ fun _ _ _ h=>h
 try simp only[Act.put,Aa,Ab,Ac,Ad,Ae,Af]
 refine wpAnyH_ready (rs:=[9]) (by kernel_rfl) (by simp) ?_
 refine AllReadyH.cons (i:=9) rfl (fun K hK=>?_) AllReadyH.nil
 rw[if_pos (by rfl)]
 simp only[Aa,Ab,Ac]
 refine qAm 32 _ _ rfl (w.heap.size+1) (by rfl) 32 _ R3.out [.int .i64 id,.int .i64 i,.slice ao3 ms.length cap3,.slice none 0 0,.slice none 0 0,.slice none 0 0,.int .i64 0,.int .i64 0,.int .i64 0,.int .i64 0,.int .i64 0,.int .i64 0,.int .i64 0,.int .i64 0,.int .i64 0,.slice none 0 0] (by rfl) rfl Tryz.sizeM rfl ?_
 intro w4 R4 T4
 refine hK.out _ _ (⟨((A2.out.later L3.out).turn T4 (by omega)).cell 0,((A2.out.later L3.out).turn T4 (by omega)).cell 1⟩) (fun Ah=>?_)
 clear hK K
 try simp only[Act.put,Aa,Ab,Ac,Ad,Ae,Af]
 refine tkQ 10 rfl (by kernel_rfl) (by rfl) (fun _ _=>by simp only[Aa,Ab,Ac];go_simp;try with_reducible rfl) Ah ?_ fun _ _ _ h=>h
 try simp only[Act.put,Aa,Ab,Ac,Ad,Ae,Af]
 refine wpAnyH_done (by kernel_rfl) ?_ _
 have B4:=(qAa B2.out L3.out).trans (T4.below (by omega))
 have V4:=(V3.out.down B2.out.size).keep fun k hk _=>T4.block k (fun e=>qCn V3.out R3.out (by decide) (e ▸ hk))
 clear HI HJ HK3 T4 HH Ah
 go_wp2_with fail
 refine bodyPost_ret (qBu Tryz.results153 (w.heap.size+1) 32 [.int .i64 id,.int .i64 i,.slice ao3 ms.length cap3,.slice none 0 0,.slice none 0 0,.slice none 0 0,.int .i64 0,.int .i64 0,.int .i64 0,.int .i64 0,.int .i64 0,.int .i64 0,.int .i64 0,.int .i64 0,.int .i64 0,.slice none 0 0] _ rfl R4 Tryz.underlying32 rfl Tryz.sizeM) rfl ?_
 exact⟨⟨ao3,ms.length,cap3⟩,rfl,V4,B4⟩
def markM(K:Nat)(m:Mt):Mt:=
 ⟨m.id,m.rid,marks K m.ms.length,mkI (K+m.ms.length) m.its.length,marks (K+m.ms.length+4 * m.its.length) m.lv.length,mkT (K+m.ms.length+4 * m.its.length+m.lv.length) m.tx.length,m.rd,m.se,m.li,m.he,
  ⟨m.la.c,m.la.r,m.la.q,m.la.a,m.la.b,marks (K+m.ms.length+4 * m.its.length+m.lv.length+m.tx.length) m.la.ws.length⟩⟩
def endM(K:Nat)(m:Mt):Nat:=K+m.ms.length+4 * m.its.length+m.lv.length+m.tx.length+m.la.ws.length
theorem own_nilS(w:World)(B:Nat):OwnS w B (.slice none 0 0) []:=⟨by simp,.inl ⟨rfl,rfl⟩⟩
theorem own_nilIt(w:World)(B:Nat):SlI w B (.slice none 0 0) []:=Sl.zero w 41 4 B
theorem mto_new{w:World}{B:Nat}(id i:Int){ms:List Int}{u:Sv}(h:OwnI w B u.v ms):MtO w B (newM id i ms) ⟨u,zSv,zSv,zSv,zSv⟩:=
 ⟨h,own_nilIt w B,qEa w B,own_nilS w B,qEa w B,ap_none' _ 0 0,ap_none' _ 0 0,ap_none _ 0 0⟩
def newP(id i:Int)(ms:List Int):Mt:=if(qAy i ms&&inB ms id)=true then newM id i ms else zMt
theorem qLc(ao:Option Addr)(cap:Nat)(ts:List ByteArray)(w:World)(hx:Hid (TextsAt w ao ts))(hl:ts.length≤1048576)(hs:Hid (∀x∈ts,x.size≤1048576)):
  Calls Tryz.prog 119 #[.slice ao ts.length cap] w fun e w'=>∃v,e=.returned v∧OwnS w' w.heap.size v ts∧Below w.heap.size w w':=by
 obtain⟨i0,hi,hz0,hz1,hz2⟩:=info_parts Tryz.info9
 obtain⟨W,hmk,own,hgr⟩:=run_make_own (P:=Tryz.prog) w w.heap.size 28 9 i0 _ 1 Tryz.underlying28 hi hz0 hz1 .i64 .i64 ts.length (by rw[hz2];omega) (by unfold maxLen;omega) (Nat.le_refl _)
 have S0:Hid (OwnS W w.heap.size (.slice (some ⟨w.heap.size,0,none⟩) 0 ts.length) []):=own
 have B0:Hid (Below w.heap.size w W):=qHr hgr
 clear own hgr hi hz0 hz1 hz2
 go_enter Tryz.func119,Tryz.ntmps119
 go_wp2
 go_loopw [3,11] (fun v i wr=>∃(k:Nat),k≤ts.length∧i=.int .i64 k∧Hid (OwnS wr w.heap.size v (ts.take k))∧Hid (Below w.heap.size w wr)) (fun _ i _=>ts.length - (intOf i).toNat)
 case atStart=>exact⟨0,Nat.zero_le _,rfl,S0,B0⟩
 case round=>
  clear S0 B0 hmk
  obtain⟨k,hk,rfl,hS,hb⟩:=hrel
  by_cases hlt:k<ts.length
  ·obtain⟨b,off,rfl,hbb,h0⟩:=hx.out.stays hb.out k hlt
   have hsz:=hs.out _ (List.getElem_mem hlt)
   have HP:Hid (∃x:ByteArray,x=ts[k]):=⟨_,rfl⟩
   obtain⟨tx,hp⟩:=HP.out
   rw[←hp]at h0 hsz
   have HQ:Hid (tx=ts[k]):=hp
   clear hp HP
   go_wp2_with fail
   clear h0
   refine(qHy tx _ hsz).mono ?_
   rintro e w1 ⟨rfl,hb1⟩
   have S1:OwnS w1 w.heap.size u3 (ts.take k):=ownS_later hS.out hb1
   have B1:Below w.heap.size w w1:=hb.out.trans (hb1.mono hb.out.size)
   have z1:=B1.size
   have hlk:(ts.take k).length<4000000:=by rw[List.length_take];omega
   clear hb1 hS
   go_wp2_with (at_builtin;refine wpList_pushS rfl _ _ 28 rfl Tryz.underlying28 Tryz.info9 w.heap.size u3 (ts.take k) rfl S1 tx rfl hlk z1 ?_;intro v2 w2 S2 b2)
   have S2:Hid (OwnS w2 w.heap.size v2 (ts.take (k+1))):=by
    rw[List.take_succ_eq_append_getElem hlt,←HQ.out]
    exact S2
   have B2:Hid (Below w.heap.size w w2):=B1.trans b2
   go_roundw
   case rel=>exact⟨k+1,by omega,by go_num,S2,B2⟩
   case measure=>simp[intOf];omega
  ·obtain rfl:k=ts.length:=by omega
   go_wp2_with fail
   go_ret
   exact⟨_,rfl,by have:=hS.out;rwa [List.take_length]at this,hb.out⟩
theorem qHx(s:Sv)(ts:List It)(w:World)(h:Hid (RIt w s.v ts))(hl:ts.length≤1048576)(hs:Hid (∀x∈ts,x.2.2.2.size≤1048576)):
  Calls Tryz.prog 118 #[.slice s.a s.n s.c] w fun e w'=>∃u:Sv,e=.returned (.slice u.a u.n u.c)∧SlI w' w.heap.size u.v ts∧Below w.heap.size w w':=by
 obtain⟨ao,cap,h1,h2⟩:=h.out;unfold Sv.v at h1;rw[h1]
 exact(qFx ao cap ts w h2 hl hs).mono fun e w' ⟨v,a,b,c⟩=>by obtain⟨u,rfl⟩:=b.sv;exact⟨u,a,b,c⟩
theorem copyTexts_s(s:Sv)(ts:List ByteArray)(w:World)(h:Hid (RT w s.v ts))(hl:ts.length≤1048576)(hs:Hid (∀x∈ts,x.size≤1048576)):
  Calls Tryz.prog 119 #[.slice s.a s.n s.c] w fun e w'=>∃u:Sv,e=.returned (.slice u.a u.n u.c)∧OwnS w' w.heap.size u.v ts∧Below w.heap.size w w':=by
 obtain⟨ao,cap,h1,h2⟩:=h.out;unfold Sv.v at h1;rw[h1]
 exact(qLc ao cap ts w h2 hl hs).mono fun e w' ⟨v,a,b,c⟩=>by obtain⟨u,rfl⟩:=b.sv;exact⟨u,a,b,c⟩
theorem copyRing_s(i:Int)(s:Sv)(ms:List Int)(w:World)(h:Hid (RI w s.v ms))(hl:ms.length≤1048576):
  Calls Tryz.prog 95 #[.agg #[.int .i64 i,.slice s.a s.n s.c]] w fun e w'=>∃u:Sv,e=.returned (.agg #[.int .i64 i,.slice u.a u.n u.c])∧OwnI w' w.heap.size u.v ms∧Below w.heap.size w w':=
 (copyRing_any i s.v ms w h hl).mono fun e w' ⟨v,a,b,c⟩=>by obtain⟨u,rfl⟩:=b.sv;exact⟨u,a,b,c⟩
def MbB(w:World)(g:Nat)(m:Mt)(u:Mv)(it:Sv):Prop:=Bx w g 96 [.slice u.its.a u.its.n u.its.c,.int .i64 m.id,.int .i64 m.rid,.slice u.ms.a u.ms.n u.ms.c,.slice it.a it.n it.c,.slice u.lv.a u.lv.n u.lv.c,.slice u.tx.a u.tx.n u.tx.c,.int .i64 m.rd,.int .i64 m.se,.int .i64 m.li,.int .i64 m.he,.int .i64 m.la.c,.int .i64 m.la.r,.int .i64 m.la.q,.int .i64 m.la.a,.int .i64 m.la.b,.slice u.ws.a u.ws.n u.ws.c]
theorem mate_any(m:Mt)(u:Mv)(it:Sv)(g:Nat)(w:World)(h:Hid (MbB w g m u it)):
  Calls Tryz.prog 53 #[.pointer (some ⟨g,0,none⟩)] w fun e w'=>e=.returned (.agg #[.int .i64 m.id,.int .i64 m.rid,.slice u.ms.a u.ms.n u.ms.c,.slice u.its.a u.its.n u.its.c,.slice u.lv.a u.lv.n u.lv.c,.slice u.tx.a u.tx.n u.tx.c,.int .i64 m.rd,.int .i64 m.se,.int .i64 m.li,.int .i64 m.he,.int .i64 m.la.c,.int .i64 m.la.r,.int .i64 m.la.q,.int .i64 m.la.a,.int .i64 m.la.b,.slice u.ws.a u.ws.n u.ws.c])∧MbB w' g m u u.its∧KeepBut g w w':=by
 have HG:Hid (Bx (w.alloc (.cells zzM.toArray 32)) g 96 [.slice u.its.a u.its.n u.its.c,.int .i64 m.id,.int .i64 m.rid,.slice u.ms.a u.ms.n u.ms.c,.slice it.a it.n it.c,.slice u.lv.a u.lv.n u.lv.c,.slice u.tx.a u.tx.n u.tx.c,.int .i64 m.rd,.int .i64 m.se,.int .i64 m.li,.int .i64 m.he,.int .i64 m.la.c,.int .i64 m.la.r,.int .i64 m.la.q,.int .i64 m.la.a,.int .i64 m.la.b,.slice u.ws.a u.ws.n u.ws.c]):=h.out.later ((Below.refl _ _).alloc (Nat.le_refl _) _)
 have HR:=Ag (Bx.new w 32 [.int .i64 0,.int .i64 0,.slice none 0 0,.slice none 0 0,.slice none 0 0,.slice none 0 0,.int .i64 0,.int .i64 0,.int .i64 0,.int .i64 0,.int .i64 0,.int .i64 0,.int .i64 0,.int .i64 0,.int .i64 0,.slice none 0 0])
 have HK:Hid (KeepBut g w (w.alloc (.cells zzM.toArray 32))):=qAc ((Below.refl _ _).alloc (Nat.le_refl _) _)
 have zg:g<w.heap.size:=Bx.lt h.out
 go_enter Tryz.func53,Tryz.ntmps53
 go_wp2_with (first|(refine qAt rfl 94 _ rfl g 0 rfl 96 _ HG.out (.slice u.its.a u.its.n u.its.c) rfl _ Tryz.underlying94 rfl ?_)|(refine qAe rfl 27 _ _ rfl g 4 rfl 96 _ HG.out (.slice u.its.a u.its.n u.its.c) rfl (by simp) rfl Tryz.sizeIs [.slice u.its.a u.its.n u.its.c,.int .i64 m.id,.int .i64 m.rid,.slice u.ms.a u.ms.n u.ms.c,.slice u.its.a u.its.n u.its.c,.slice u.lv.a u.lv.n u.lv.c,.slice u.tx.a u.tx.n u.tx.c,.int .i64 m.rd,.int .i64 m.se,.int .i64 m.li,.int .i64 m.he,.int .i64 m.la.c,.int .i64 m.la.r,.int .i64 m.la.q,.int .i64 m.la.a,.int .i64 m.la.b,.slice u.ws.a u.ws.n u.ws.c] rfl ?_;intro w1 OB TB;have HR:=Ag (HR.out.turn TB (by omega));have HK:=Ag (HK.out.trans TB.keep);have HG1:=Ag OB;clear OB TB)|(refine qAb rfl 32 _ rfl g 1 rfl 96 _ HG1.out (mC m u) rfl _ Tryz.underlying32 rfl Tryz.sizeM ?_)|(refine qAd rfl 32 _ _ rfl w.heap.size rfl 32 _ HR.out (mC m u) rfl rfl Tryz.sizeM rfl ?_;intro wz RZ TZ))
 refine bodyPost_ret (qBd Tryz.results53 w.heap.size 32 (mC m u) _ rfl RZ Tryz.underlying32 rfl Tryz.sizeM) rfl ?_
 refine⟨rfl,HG1.out.turn TZ (by omega),?_⟩
 have k1:=HK.out
 exact⟨TZ.os.trans k1.os,TZ.tape.trans k1.tape,TZ.output.trans k1.output,Nat.le_trans k1.size (Nat.le_of_eq TZ.size.symm),fun k hk hne=>(TZ.block k (by omega)).trans (k1.block k hk hne)⟩
def fitB(ts:List ByteArray):Bool:=ts.all fun t=>decide (t.size≤60)
theorem qFw{ts:List ByteArray}:fitB ts=true↔ ∀t∈ts,t.size≤60:=by
 unfold fitB
 simp[List.all_eq_true]
theorem fitB_step{ts:List ByteArray}{k:Nat}(h: ∀t∈ts.take k,t.size≤60)(hk:k<ts.length)(hs:ts[k].size≤60): ∀t∈ts.take (k+1),t.size≤60:=by
 intro t ht
 rw[List.take_succ_eq_append_getElem hk]at ht
 rcases List.mem_append.1 ht with h1|h1
 ·exact h t h1
 ·simp at h1;subst h1;exact hs
theorem fitB_bad{ts:List ByteArray}{k:Nat}(hk:k<ts.length)(hs:60<ts[k].size):fitB ts=false:=by
 cases h:fitB ts with
 |false=>rfl
 |true=>have:=qFw.1 h _ (List.getElem_mem hk);omega
theorem fitB_all{ts:List ByteArray}{k:Nat}(h: ∀t∈ts.take k,t.size≤60)(hk:ts.length≤k):fitB ts=true:=by
 rw[List.take_of_length_le hk]at h
 exact qFw.2 h
def lvB(l:Int):Bool:=decide (1≤l∧l≤2)
def lvsB(lv:List Int):Bool:=lv.all lvB
def sayB(lv:List Int)(tx:List ByteArray):Bool:=decide (tx.length≤20)&&(decide (lv.length=tx.length)&&(lvsB lv&&fitB tx))
theorem fits_any(ao:Option Addr)(cap:Nat)(ts:List ByteArray)(w:World)(hx:Hid (TextsAt w ao ts))(hl:ts.length≤1048576):
  Calls Tryz.prog 139 #[.slice ao ts.length cap] w fun e w'=>e=.returned (.bool (fitB ts))∧w'=w:=by
 go_enter Tryz.func139,Tryz.ntmps139
 go_wp2
 go_loop [7] (fun i=>∃k:Nat,k≤ts.length∧i=.int .i64 k∧Hid (∀t∈ts.take k,t.size≤60)) (fun i=>ts.length - (intOf i).toNat)
 case atStart=>exact⟨0,Nat.zero_le _,rfl,fun t ht=>by simp at ht⟩
 case round=>
  obtain⟨k,hk,rfl,hst⟩:=hrel
  by_cases hlt:k<ts.length
  ·obtain⟨b,off,rfl,hbb,hc⟩:=hx.out k hlt
   obtain⟨x,ht⟩: ∃x,x=ts[k]:=⟨_,rfl⟩
   rw[←ht]at hc
   have HT:Hid (x=ts[k]):=ht
   clear ht
   by_cases h1:60<x.size
   ·have hd:decide (60<(x.size:Int))=true:=by simp;omega
    go_wp2
    go_ret
    exact⟨by rw[fitB_bad hlt (by rw[←HT.out];exact h1)];rfl,rfl⟩
   ·have hd:decide (60<(x.size:Int))=false:=by simp;omega
    go_wp2
    go_round
    case rel=>exact⟨k+1,by omega,by go_num,fitB_step hst.out hlt (by rw[←HT.out];omega)⟩
    case measure=>simp[intOf];omega
  ·go_wp2
   go_ret
   exact⟨by rw[fitB_all hst.out (by omega)];rfl,rfl⟩
theorem isLevel_any(l:Int)(w:World):Calls Tryz.prog 138 #[.int .i64 l] w fun e w'=>e=.returned (.bool (lvB l))∧w'=w:=by
 unfold lvB
 by_cases h1:l=1
 ·subst h1
  go_enter Tryz.func138,Tryz.ntmps138
  go_wp2
  go_ret
  exact⟨rfl,rfl⟩
 ·by_cases h2:l=2
  ·subst h2
   go_enter Tryz.func138,Tryz.ntmps138
   go_wp2
   go_ret
   exact⟨rfl,rfl⟩
  ·have h3:decide (1≤l∧l≤2)=false:=by simp;omega
   have HD:Hid (decide (1≤l∧l≤2)=false):=h3
   have k1:(l==1)=false:=by simp;exact h1
   have k2:(l==2)=false:=by simp;exact h2
   clear h3 h1 h2
   go_enter Tryz.func138,Tryz.ntmps138
   go_wp2
   go_ret
   exact⟨by rw[HD.out];rfl,rfl⟩
theorem filt_next{lv:List Int}{k:Nat}(hk:k<lv.length):(lv.take (k+1)).filter lvB=(lv.take k).filter lvB++if lvB lv[k]=true then[lv[k]]else[]:=by
 rw[List.take_succ_eq_append_getElem hk,List.filter_append]
 congr 1
 by_cases h:lvB lv[k]=true<;>simp[h]
theorem keptI_any(ao:Option Addr)(cap:Nat)(lv:List Int)(w:World)(hx:Hid (IntsAt w ao lv))(hl:lv.length≤1048576):
  Calls Tryz.prog 123 #[.slice ao lv.length cap,.func (Fn.func 138) #[] #[]] w fun e w'=>∃v,e=.returned v∧OwnI w' w.heap.size v (lv.filter lvB)∧Below w.heap.size w w':=by
 have S0:Hid (OwnI (w.alloc (.cells #[] 3)) w.heap.size (.slice (some ⟨w.heap.size,0,none⟩) 0 0) []):=OwnI.made w w.heap.size (Nat.le_refl _)
 have B0:=Ag (bA w (.cells #[] 3))
 go_enter Tryz.func123,Tryz.ntmps123
 go_wp2
 go_loopw [5,11] (fun v i wr=>∃(k:Nat),k≤lv.length∧i=.int .i64 k∧Hid (OwnI wr w.heap.size v ((lv.take k).filter lvB))∧Hid (Below w.heap.size w wr)) (fun _ i _=>lv.length - (intOf i).toNat)
 case atStart=>exact⟨0,Nat.zero_le _,rfl,S0,B0⟩
 case round=>
  clear S0 B0
  obtain⟨k,hk,rfl,hS,hb⟩:=hrel
  by_cases hlt:k<lv.length
  ·obtain⟨bb,off,rfl,hbb,h0⟩:=hx.out.stays hb.out k hlt
   have hst:=filt_next hlt
   have HP:Hid (∃x:Int,x=lv[k]):=⟨_,rfl⟩
   obtain⟨x,hp⟩:=HP.out
   rw[←hp]at h0 hst
   have HST:Hid _:=hst
   clear hp HP hst
   have S1:=hS.out
   have B1:=hb.out
   have z1:=B1.size
   have hlk:((lv.take k).filter lvB).length≤1048576:=Nat.le_trans (List.length_filter_le _ _) (by rw[List.length_take];omega)
   go_wp2_with fail
   refine(isLevel_any x _).mono ?_
   rintro e w1 ⟨rfl,rfl⟩
   obtain⟨R,hR⟩: ∃R,lvB x=R:=⟨_,rfl⟩
   rw[hR]
   have HR:Hid (lvB x=R):=hR
   have S1:Hid _:=S1
   have B1:Hid _:=B1
   clear hR hS hb h0
   cases R with
   |true=>
    have HLS:Hid ((lv.take (k+1)).filter lvB=(lv.take k).filter lvB++[x]):=by
     have:=HST.out
     rwa [if_pos HR.out]at this
    clear HST
    go_wp2_with (at_builtin;refine qBm rfl _ _ 24 rfl Tryz.underlying24 Tryz.info3' w.heap.size u5 _ rfl S1.out x rfl (by omega) z1 ?_;intro v2 w2 o2 b2)
    have S2:Hid (OwnI w2 w.heap.size v2 ((lv.take (k+1)).filter lvB)):=by
     rw[HLS.out]
     exact o2
    have B2:=Ag (B1.out.trans b2)
    go_roundw
    case rel=>exact⟨k+1,by omega,by go_num,S2,B2⟩
    case measure=>simp[intOf];omega
   |false=>
    have HLS:Hid ((lv.take (k+1)).filter lvB=(lv.take k).filter lvB):=by
     have:=HST.out
     rwa [if_neg (by rw[HR.out];simp),List.append_nil]at this
    clear HST
    have S2:=S1.out
    rw[←HLS.out]at S2
    have S3:Hid _:=S2
    clear S2
    go_wp2_with fail
    go_roundw
    case rel=>exact⟨k+1,by omega,by go_num,S3.out,B1⟩
    case measure=>simp[intOf];omega
  ·obtain rfl:k=lv.length:=by omega
   go_wp2_with fail
   go_ret
   exact⟨_,rfl,by have:=hS.out;rw[List.take_length]at this;exact this,hb.out⟩
theorem filt_all{lv:List Int}:(lv.filter lvB).length=lv.length↔lvsB lv=true:=by
 unfold lvsB
 rw[List.length_filter_eq_length_iff,List.all_eq_true]
theorem toSay_any(s u:Sv)(lv:List Int)(tx:List ByteArray)(w:World)(hx:Hid (RI w s.v lv))(hy:Hid (RT w u.v tx))(hl:lv.length≤1048576)(ht:tx.length≤1048576):
  Calls Tryz.prog 73 #[.slice s.a s.n s.c,.slice u.a u.n u.c] w fun e w'=>e=.returned (.bool (sayB lv tx))∧Below w.heap.size w w':=by
 obtain⟨ao,cap,e1,h1⟩:=hx.out
 obtain⟨at_,ct,e2,h2⟩:=hy.out
 unfold Sv.v at e1 e2
 rw[e1,e2]
 clear e1 e2 hx hy
 have X1:Hid (IntsAt w ao lv):=h1
 have Y1:Hid (TextsAt w at_ tx):=h2
 clear h1 h2
 unfold sayB
 by_cases c1:tx.length≤20
 ·rw[decide_eq_true c1]
  have d1:(tx.length:Int)≤20:=by omega
  by_cases c2:lv.length=tx.length
  ·rw[decide_eq_true c2]
   have C2:Hid (lv.length=tx.length):=c2
   have d2:((lv.length:Int)==(tx.length:Int))=true:=by simp;omega
   clear c2
   go_enter Tryz.func73,Tryz.ntmps73
   go_wp2_with fail
   refine(keptI_any ao cap lv w X1 hl).mono ?_
   rintro e w1 ⟨v1,rfl,o1,b1⟩
   obtain⟨ao1,cap1,hf⟩:=o1.form
   subst hf
   have Y2:=Ag (Y1.out.stays b1)
   have B1:Hid (Below w.heap.size w w1):=b1
   clear o1 b1
   by_cases c3:(lv.filter lvB).length=lv.length
   ·have E3:Hid (lvsB lv=true):=filt_all.1 c3
    have d3:(((lv.filter lvB).length:Int)==(lv.length:Int))=true:=by simp;omega
    clear c3
    go_wp2_with fail
    refine(fits_any at_ ct tx w1 Y2 ht).mono ?_
    rintro e w2 ⟨rfl,rfl⟩
    go_wp2_with fail
    go_ret
    exact⟨by rw[E3.out];rfl,B1.out⟩
   ·have E3:Hid (lvsB lv=false):=by
     cases h:lvsB lv with
     |false=>rfl
     |true=>exact absurd (filt_all.2 h) c3
    have d3:(((lv.filter lvB).length:Int)==(lv.length:Int))=false:=by simp;omega
    clear c3
    go_wp2_with fail
    go_ret
    exact⟨by rw[E3.out];rfl,B1.out⟩
  ·rw[decide_eq_false c2]
   have d2:((lv.length:Int)==(tx.length:Int))=false:=by simp;omega
   clear c2
   go_enter Tryz.func73,Tryz.ntmps73
   go_wp2_with fail
   go_ret
   exact⟨rfl,Below.refl _ _⟩
 ·rw[decide_eq_false c1]
  have d1: ¬(tx.length:Int)≤20:=by omega
  go_enter Tryz.func73,Tryz.ntmps73
  go_wp2_with fail
  go_ret
  exact⟨rfl,Below.refl _ _⟩
def ntB(c r q a b:Int)(ws:List Int):Bool:=(c==0)&&((r==0)&&((q==0)&&((a==0)&&((b==0)&&((ws.length:Int)==0)))))
theorem noToken_any(c r q a b:Int)(s:Sv)(ws:List Int)(w:World)(hn:Hid (s.n=ws.length)):
  Calls Tryz.prog 75 #[.agg #[.int .i64 c,.int .i64 r,.int .i64 q,.int .i64 a,.int .i64 b,.slice s.a s.n s.c]] w fun e w'=>e=.returned (.bool (ntB c r q a b ws))∧Below w.heap.size w w':=by
 unfold ntB
 rw[←hn.out]
 clear hn
 have HL:=Ag (bA w (.cells #[.int .i64 c,.int .i64 r,.int .i64 q,.int .i64 a,.int .i64 b,.slice s.a s.n s.c] 30))
 obtain⟨R0,k0⟩: ∃R,(c==0)=R:=⟨_,rfl⟩
 rw[k0]
 cases R0 with
 |false=>
  go_enter Tryz.func75,Tryz.ntmps75
  go_wp2_with fail
  go_ret
  exact⟨rfl,HL.out⟩
 |true=>
  obtain⟨R1,k1⟩: ∃R,(r==0)=R:=⟨_,rfl⟩
  rw[k1]
  cases R1 with
  |false=>
   go_enter Tryz.func75,Tryz.ntmps75
   go_wp2_with fail
   go_ret
   exact⟨rfl,HL.out⟩
  |true=>
   obtain⟨R2,k2⟩: ∃R,(q==0)=R:=⟨_,rfl⟩
   rw[k2]
   cases R2 with
   |false=>
    go_enter Tryz.func75,Tryz.ntmps75
    go_wp2_with fail
    go_ret
    exact⟨rfl,HL.out⟩
   |true=>
    obtain⟨R3,k3⟩: ∃R,(a==0)=R:=⟨_,rfl⟩
    rw[k3]
    cases R3 with
    |false=>
     go_enter Tryz.func75,Tryz.ntmps75
     go_wp2_with fail
     go_ret
     exact⟨rfl,HL.out⟩
    |true=>
     obtain⟨R4,k4⟩: ∃R,(b==0)=R:=⟨_,rfl⟩
     rw[k4]
     cases R4 with
     |false=>
      go_enter Tryz.func75,Tryz.ntmps75
      go_wp2_with fail
      go_ret
      exact⟨rfl,HL.out⟩
     |true=>
      obtain⟨R5,k5⟩: ∃R,((s.n:Int)==0)=R:=⟨_,rfl⟩
      rw[k5]
      cases R5 with
      |false=>
       go_enter Tryz.func75,Tryz.ntmps75
       go_wp2_with fail
       go_ret
       exact⟨rfl,HL.out⟩
      |true=>
       go_enter Tryz.func75,Tryz.ntmps75
       go_wp2_with fail
       go_ret
       exact⟨rfl,HL.out⟩
theorem sameInts_nil(s:Sv)(w:World):Calls Tryz.prog 211 #[.slice s.a s.n s.c,.slice none 0 0] w fun e w'=>e=.returned (.bool ((s.n:Int)==0))∧w'=w:=by
 obtain⟨sa,sn,sc⟩:=s
 by_cases h:sn=0
 ·subst h
  go_enter Tryz.func211,Tryz.ntmps211
  go_wp2
  refine wp_loop_rounds 1 ?_
  rw[rounds_succ]
  go_wp2
  go_ret
  exact⟨rfl,rfl⟩
 ·have k:((sn:Int)==0)=false:=by simp;omega
  have K:Hid (((sn:Int)==0)=false):=k
  have k2:((sn:Int) !=0)=true:=by simp;omega
  clear h k
  go_enter Tryz.func211,Tryz.ntmps211
  go_wp2
  go_ret
  exact⟨by rw[K.out];rfl,rfl⟩
theorem sameZero_any(c r q a b:Int)(s:Sv)(w:World):
  Calls Tryz.prog 174 #[.agg #[.int .i64 c,.int .i64 r,.int .i64 q,.int .i64 a,.int .i64 b,.slice s.a s.n s.c],.agg #[.int .i64 0,.int .i64 0,.int .i64 0,.int .i64 0,.int .i64 0,.slice none 0 0]] w fun e w'=>e=.returned (.bool ((c==0)&&((r==0)&&((q==0)&&((a==0)&&((b==0)&&((s.n:Int)==0)))))))∧Below w.heap.size w w':=by
 have HL:Hid (Below w.heap.size w ((w.alloc (.cells #[.int .i64 c,.int .i64 r,.int .i64 q,.int .i64 a,.int .i64 b,.slice s.a s.n s.c] 30)).alloc (.cells zzT.toArray 30))):=((Below.refl _ _).alloc (Nat.le_refl _) _).alloc (by simp) _
 obtain⟨R0,k0⟩: ∃R,(c==0)=R:=⟨_,rfl⟩
 rw[k0]
 cases R0 with
 |false=>
  go_enter Tryz.func174,Tryz.ntmps174
  go_wp2_with fail
  go_ret
  exact⟨rfl,HL.out⟩
 |true=>
  obtain⟨R1,k1⟩: ∃R,(r==0)=R:=⟨_,rfl⟩
  rw[k1]
  cases R1 with
  |false=>
   go_enter Tryz.func174,Tryz.ntmps174
   go_wp2_with fail
   go_ret
   exact⟨rfl,HL.out⟩
  |true=>
   obtain⟨R2,k2⟩: ∃R,(q==0)=R:=⟨_,rfl⟩
   rw[k2]
   cases R2 with
   |false=>
    go_enter Tryz.func174,Tryz.ntmps174
    go_wp2_with fail
    go_ret
    exact⟨rfl,HL.out⟩
   |true=>
    obtain⟨R3,k3⟩: ∃R,(a==0)=R:=⟨_,rfl⟩
    rw[k3]
    cases R3 with
    |false=>
     go_enter Tryz.func174,Tryz.ntmps174
     go_wp2_with fail
     go_ret
     exact⟨rfl,HL.out⟩
    |true=>
     obtain⟨R4,k4⟩: ∃R,(b==0)=R:=⟨_,rfl⟩
     rw[k4]
     cases R4 with
     |false=>
      go_enter Tryz.func174,Tryz.ntmps174
      go_wp2_with fail
      go_ret
      exact⟨rfl,HL.out⟩
     |true=>
      go_enter Tryz.func174,Tryz.ntmps174
      go_wp2_with fail
      refine(sameInts_nil s _).mono ?_
      rintro e w1 ⟨rfl,rfl⟩
      go_wp2_with fail
      go_ret
      exact⟨rfl,HL.out⟩
theorem qJa(c r q a b:Int)(s:Sv)(ws:List Int)(w:World)(hn:Hid (s.n=ws.length)):
  Calls Tryz.prog 135 #[.agg #[.int .i64 c,.int .i64 r,.int .i64 q,.int .i64 a,.int .i64 b,.slice s.a s.n s.c]] w fun e w'=>e=.returned (.bool (ntB c r q a b ws))∧Below w.heap.size w w':=by
 unfold ntB
 rw[←hn.out]
 clear hn
 go_enter Tryz.func135,Tryz.ntmps135
 go_wp2_with fail
 refine(sameZero_any c r q a b s _).mono ?_
 rintro e w1 ⟨rfl,b1⟩
 go_wp2_with fail
 go_ret
 exact⟨rfl,((Below.refl _ _).alloc (Nat.le_refl _) _).trans (b1.mono (by simp))⟩
def SaySt(lv:List Int)(tx:List ByteArray)(k:Nat):Prop:=(∀t∈tx.take k,t.size≤60)∧∀l∈lv.take k,lvB l=true
theorem say_step{lv:List Int}{tx:List ByteArray}{k:Nat}(h:SaySt lv tx k)(h1:k<lv.length)(h2:k<tx.length)(hl:lvB lv[k]=true)(ht:tx[k].size≤60):SaySt lv tx (k+1):=by
 refine⟨fitB_step h.1 h2 ht,fun l hm=>?_⟩
 rw[List.take_succ_eq_append_getElem h1]at hm
 rcases List.mem_append.1 hm with h3|h3
 ·exact h.2 l h3
 ·simp at h3;subst h3;exact hl
theorem say_bad1{lv:List Int}{tx:List ByteArray}{k:Nat}(h1:k<lv.length)(hl:lvB lv[k]=false):sayB lv tx=false:=by
 have:lvsB lv=false:=by
  cases h:lvsB lv with
  |false=>rfl
  |true=>unfold lvsB at h;have:=List.all_eq_true.1 h _ (List.getElem_mem h1);rw[hl]at this;cases this
 unfold sayB;rw[this];simp
theorem say_bad2{lv:List Int}{tx:List ByteArray}{k:Nat}(h1:k<tx.length)(hl:60<tx[k].size):sayB lv tx=false:=by
 unfold sayB;rw[fitB_bad h1 hl];simp
theorem say_end{lv:List Int}{tx:List ByteArray}{k:Nat}(h:SaySt lv tx k)(hk: ¬(k<tx.length∧k<lv.length)):sayB lv tx=(decide (tx.length≤20)&&decide (lv.length=tx.length)):=by
 unfold sayB
 by_cases he:lv.length=tx.length
 ·have h1:=fitB_all (k:=k) h.1 (by omega)
  have h2:lvsB lv=true:=by
   unfold lvsB
   have:=h.2
   rw[List.take_of_length_le (by omega)]at this
   exact List.all_eq_true.2 this
  rw[h1,h2];simp
 ·simp[he]
theorem tenTexts_any(s u:Sv)(lv:List Int)(tx:List ByteArray)(w:World)(hx:Hid (RI w s.v lv))(hy:Hid (RT w u.v tx))(hl:lv.length≤1048576)(ht:tx.length≤1048576):
  Calls Tryz.prog 134 #[.slice s.a s.n s.c,.slice u.a u.n u.c] w fun e w'=>e=.returned (.bool (sayB lv tx))∧w'=w:=by
 obtain⟨ao,cap,e1,h1⟩:=hx.out
 obtain⟨at_,ct,e2,h2⟩:=hy.out
 unfold Sv.v at e1 e2
 rw[e1,e2]
 clear e1 e2 hx hy
 have X1:Hid (IntsAt w ao lv):=h1
 have Y1:Hid (TextsAt w at_ tx):=h2
 clear h1 h2
 go_enter Tryz.func134,Tryz.ntmps134
 go_wp2
 go_loop [5] (fun i=>∃k:Nat,k≤tx.length∧i=.int .i64 k∧Hid (SaySt lv tx k)) (fun i=>tx.length - (intOf i).toNat)
 case atStart=>exact⟨0,Nat.zero_le _,rfl,⟨fun t h=>by simp at h,fun t h=>by simp at h⟩⟩
 case round=>
  obtain⟨k,hk,rfl,hst⟩:=hrel
  by_cases hlt:k<tx.length
  ·have i1:(k:Int)<(tx.length:Int):=by omega
   by_cases hlv:k<lv.length
   ·have i2:(k:Int)<(lv.length:Int):=by omega
    obtain⟨b,off,rfl,hbb,hc⟩:=Y1.out k hlt
    obtain⟨b',off',rfl,hbb',hc'⟩:=X1.out k hlv
    obtain⟨x,hx⟩: ∃x,x=tx[k]:=⟨_,rfl⟩
    obtain⟨l,hll⟩: ∃l,l=lv[k]:=⟨_,rfl⟩
    rw[←hx]at hc
    rw[←hll]at hc'
    have HX:Hid (x=tx[k]):=hx
    have HV:Hid (l=lv[k]):=hll
    clear hx hll
    go_wp2_with fail
    refine(qEe l 1 2 w).mono ?_
    rintro e w1 ⟨rfl,rfl⟩
    obtain⟨R,hR⟩: ∃R,decide (1≤l∧l≤2)=R:=⟨_,rfl⟩
    rw[hR]
    have HR:Hid (lvB l=R):=hR
    clear hR
    cases R with
    |false=>
     go_wp2_with fail
     go_ret
     exact⟨by rw[say_bad1 hlv (by rw[←HV.out];exact HR.out)];rfl,rfl⟩
    |true=>
     by_cases h60:60<x.size
     ·have hd:decide (60<(x.size:Int))=true:=by simp;omega
      go_wp2_with fail
      go_ret
      exact⟨by rw[say_bad2 hlt (by rw[←HX.out];exact h60)];rfl,rfl⟩
     ·have hd:decide (60<(x.size:Int))=false:=by simp;omega
      go_wp2_with fail
      go_round
      case rel=>exact⟨k+1,by omega,by go_num,say_step hst.out hlv hlt (by rw[←HV.out];exact HR.out) (by rw[←HX.out];omega)⟩
      case measure=>simp[intOf];omega
   ·have i2: ¬(k:Int)<(lv.length:Int):=by omega
    have HE:Hid (sayB lv tx=(decide (tx.length≤20)&&decide (lv.length=tx.length))):=say_end hst.out (by omega)
    have c2:((lv.length:Int)==(tx.length:Int))=false:=by simp;omega
    have C2:Hid (decide (lv.length=tx.length)=false):=(by simp;omega:decide (lv.length=tx.length)=false)
    by_cases c1:tx.length≤20
    ·have d1:(tx.length:Int)≤20:=by omega
     go_wp2_with fail
     go_ret
     exact⟨by rw[HE.out,C2.out];simp,rfl⟩
    ·have d1: ¬(tx.length:Int)≤20:=by omega
     go_wp2_with fail
     go_ret
     exact⟨by rw[HE.out,C2.out];simp,rfl⟩
  ·have i1: ¬(k:Int)<(tx.length:Int):=by omega
   have HE:Hid (sayB lv tx=(decide (tx.length≤20)&&decide (lv.length=tx.length))):=say_end hst.out (by omega)
   by_cases c1:tx.length≤20
   ·have d1:(tx.length:Int)≤20:=by omega
    have D1:Hid (decide (tx.length≤20)=true):=(by simp;omega:decide (tx.length≤20)=true)
    by_cases c2:lv.length=tx.length
    ·have k2:((lv.length:Int)==(tx.length:Int))=true:=by simp;omega
     have C2:Hid (decide (lv.length=tx.length)=true):=(by simp;omega:decide (lv.length=tx.length)=true)
     clear c2
     go_wp2_with fail
     go_ret
     exact⟨by rw[HE.out,C2.out,D1.out];rfl,rfl⟩
    ·have k2:((lv.length:Int)==(tx.length:Int))=false:=by simp;omega
     have C2:Hid (decide (lv.length=tx.length)=false):=(by simp;omega:decide (lv.length=tx.length)=false)
     clear c2
     go_wp2_with fail
     go_ret
     exact⟨by rw[HE.out,C2.out];simp,rfl⟩
   ·have d1: ¬(tx.length:Int)≤20:=by omega
    have D1:Hid (decide (tx.length≤20)=false):=(by simp;omega:decide (tx.length≤20)=false)
    go_wp2_with fail
    go_ret
    exact⟨by rw[HE.out,D1.out];rfl,rfl⟩
def Mt.ok(m:Mt):Bool:=qAy m.rid m.ms&&(inB m.ms m.id&&(iGo 0 m.its&&(sayB m.lv m.tx&&(decide (0≤m.rd∧m.rd≤1000000000)&&(decide (0≤m.se∧m.se≤60)&&(decide (0≤m.li∧m.li≤((aruP m.its:Nat):Int))&&(decide (0≤m.he∧m.he≤((aruP m.its:Nat):Int))&&(ntB m.la.c m.la.r m.la.q m.la.a m.la.b m.la.ws||tkB m.la.c m.la.r m.la.q m.la.a m.la.b m.la.ws))))))))
theorem qCi(m:Mt):m.ok=((qAy m.rid m.ms&&inB m.ms m.id)&&(iGo 0 m.its&&(sayB m.lv m.tx&&(decide (0≤m.rd∧m.rd≤1000000000)&&(decide (0≤m.se∧m.se≤60)&&(decide (0≤m.li∧m.li≤((aruP m.its:Nat):Int))&&(decide (0≤m.he∧m.he≤((aruP m.its:Nat):Int))&&(ntB m.la.c m.la.r m.la.q m.la.a m.la.b m.la.ws||tkB m.la.c m.la.r m.la.q m.la.a m.la.b m.la.ws)))))))):=by
 unfold Mt.ok
 rw[Bool.and_assoc]
theorem qDv(m:Mt)(v:Mv)(w:World)(h:Hid (MtR w m v))(hs:Hid (MtS m)):
  Calls Tryz.prog 14 #[.agg #[.int .i64 m.id,.int .i64 m.rid,.slice v.ms.a v.ms.n v.ms.c,.slice v.its.a v.its.n v.its.c,.slice v.lv.a v.lv.n v.lv.c,.slice v.tx.a v.tx.n v.tx.c,.int .i64 m.rd,.int .i64 m.se,.int .i64 m.li,.int .i64 m.he,.int .i64 m.la.c,.int .i64 m.la.r,.int .i64 m.la.q,.int .i64 m.la.a,.int .i64 m.la.b,.slice v.ws.a v.ws.n v.ws.c]] w fun e w'=>e=.returned (.bool m.ok)∧Below w.heap.size w w':=by
 have HA:Hid (MtB (w.alloc (.cells #[.int .i64 m.id,.int .i64 m.rid,.slice v.ms.a v.ms.n v.ms.c,.slice v.its.a v.its.n v.its.c,.slice v.lv.a v.lv.n v.lv.c,.slice v.tx.a v.tx.n v.tx.c,.int .i64 m.rd,.int .i64 m.se,.int .i64 m.li,.int .i64 m.he,.int .i64 m.la.c,.int .i64 m.la.r,.int .i64 m.la.q,.int .i64 m.la.a,.int .i64 m.la.b,.slice v.ws.a v.ws.n v.ws.c] 32)) w.heap.size 32 m v):=Bx.new w 32 _
 have HL:=Ag (bA w (.cells #[.int .i64 m.id,.int .i64 m.rid,.slice v.ms.a v.ms.n v.ms.c,.slice v.its.a v.its.n v.its.c,.slice v.lv.a v.lv.n v.lv.c,.slice v.tx.a v.tx.n v.tx.c,.int .i64 m.rd,.int .i64 m.se,.int .i64 m.li,.int .i64 m.he,.int .i64 m.la.c,.int .i64 m.la.r,.int .i64 m.la.q,.int .i64 m.la.a,.int .i64 m.la.b,.slice v.ws.a v.ws.n v.ws.c] 32))
 have HR:=Ag (h.out.stays HL.out)
 have LW:Hid (v.ws.n=m.la.ws.length):=RI.len h.out.ws
 obtain⟨⟨c0,c1,c2,c3,c4,c5⟩,⟨c6,c7,c8,c9⟩,c10,c11,c12,c13,c14,c15⟩:=HA.out.cells
 clear h
 go_enter Tryz.func14,Tryz.ntmps14
 go_wp2_with fail
 clear c0 c1 c2 c3 c4 c5 c6 c7 c8 c9 c10 c11 c12 c13 c14 c15
 generalize w.alloc (.cells #[.int .i64 m.id,.int .i64 m.rid,.slice v.ms.a v.ms.n v.ms.c,.slice v.its.a v.its.n v.its.c,.slice v.lv.a v.lv.n v.lv.c,.slice v.tx.a v.tx.n v.tx.c,.int .i64 m.rd,.int .i64 m.se,.int .i64 m.li,.int .i64 m.he,.int .i64 m.la.c,.int .i64 m.la.r,.int .i64 m.la.q,.int .i64 m.la.a,.int .i64 m.la.b,.slice v.ws.a v.ws.n v.ws.c] 32)=W at *
 refine(aruOf_r m.its (show Hid (RIt W v.its.v m.its)from HR.out.its) hs.out.its).mono ?_
 rintro e w1 ⟨rfl,b⟩
 have HA:Hid (MtB w1 w.heap.size 32 m v):=Bx.later HA.out b
 obtain⟨HR,HL⟩:=cy2 (HR.out.stays b) (qAa HL.out b)
 clear b
 obtain⟨⟨c0,c1,c2,c3,c4,c5⟩,⟨c6,c7,c8,c9⟩,c10,c11,c12,c13,c14,c15⟩:=HA.out.cells
 go_wp2_with fail
 clear c0 c1 c2 c3 c4 c5 c6 c7 c8 c9 c10 c11 c12 c13 c14 c15
 refine(isMember_any m.id m.rid v.ms.v m.ms _ HR.out.ms hs.out.ms).mono ?_
 rintro e w2 ⟨rfl,b⟩
 have HA:Hid (MtB w2 w.heap.size 32 m v):=Bx.later HA.out b
 obtain⟨HR,HL⟩:=cy2 (HR.out.stays b) (qAa HL.out b)
 clear b
 obtain⟨R,hR⟩: ∃R,(qAy m.rid m.ms&&inB m.ms m.id)=R:=⟨_,rfl⟩
 rw[hR]
 have K0:Hid ((qAy m.rid m.ms&&inB m.ms m.id)=R):=hR
 clear hR
 cases R with
 |false=>
  obtain⟨⟨c0,c1,c2,c3,c4,c5⟩,⟨c6,c7,c8,c9⟩,c10,c11,c12,c13,c14,c15⟩:=HA.out.cells
  go_wp2_with fail
  go_ret
  exact⟨by rw[qCi,K0.out];rfl,HL.out⟩
 |true=>
  obtain⟨⟨c0,c1,c2,c3,c4,c5⟩,⟨c6,c7,c8,c9⟩,c10,c11,c12,c13,c14,c15⟩:=HA.out.cells
  go_wp2_with fail
  clear c0 c1 c2 c3 c4 c5 c6 c7 c8 c9 c10 c11 c12 c13 c14 c15
  refine(itemsOk_r m.its HR.out.its hs.out.its).mono ?_
  rintro e w3 ⟨rfl,b⟩
  have HA:Hid (MtB w3 w.heap.size 32 m v):=Bx.later HA.out b
  obtain⟨HR,HL⟩:=cy2 (HR.out.stays b) (qAa HL.out b)
  clear b
  obtain⟨R2,hR⟩: ∃R,(iGo 0 m.its)=R:=⟨_,rfl⟩
  rw[hR]
  have K2:Hid ((iGo 0 m.its)=R2):=hR
  clear hR
  cases R2 with
  |false=>
   obtain⟨⟨c0,c1,c2,c3,c4,c5⟩,⟨c6,c7,c8,c9⟩,c10,c11,c12,c13,c14,c15⟩:=HA.out.cells
   go_wp2_with fail
   go_ret
   exact⟨by rw[qCi,K0.out,K2.out];rfl,HL.out⟩
  |true=>
   obtain⟨⟨c0,c1,c2,c3,c4,c5⟩,⟨c6,c7,c8,c9⟩,c10,c11,c12,c13,c14,c15⟩:=HA.out.cells
   go_wp2_with fail
   clear c0 c1 c2 c3 c4 c5 c6 c7 c8 c9 c10 c11 c12 c13 c14 c15
   refine(toSay_any v.lv v.tx m.lv m.tx _ HR.out.lv HR.out.tx hs.out.lv hs.out.tx).mono ?_
   rintro e w4 ⟨rfl,b⟩
   have HA:Hid (MtB w4 w.heap.size 32 m v):=Bx.later HA.out b
   obtain⟨HR,HL⟩:=cy2 (HR.out.stays b) (qAa HL.out b)
   clear b
   obtain⟨R3,hR⟩: ∃R,(sayB m.lv m.tx)=R:=⟨_,rfl⟩
   rw[hR]
   have K3:Hid ((sayB m.lv m.tx)=R3):=hR
   clear hR
   cases R3 with
   |false=>
    obtain⟨⟨c0,c1,c2,c3,c4,c5⟩,⟨c6,c7,c8,c9⟩,c10,c11,c12,c13,c14,c15⟩:=HA.out.cells
    go_wp2_with fail
    go_ret
    exact⟨by rw[qCi,K0.out,K2.out,K3.out];rfl,HL.out⟩
   |true=>
    obtain⟨⟨c0,c1,c2,c3,c4,c5⟩,⟨c6,c7,c8,c9⟩,c10,c11,c12,c13,c14,c15⟩:=HA.out.cells
    go_wp2_with fail
    clear c0 c1 c2 c3 c4 c5 c6 c7 c8 c9 c10 c11 c12 c13 c14 c15
    refine(qGt m.rd 0 1000000000 _).mono ?_
    rintro e w5 ⟨rfl,b⟩
    have HA:Hid (MtB w5 w.heap.size 32 m v):=Bx.later HA.out b
    obtain⟨HR,HL⟩:=cy2 (HR.out.stays b) (qAa HL.out b)
    clear b
    obtain⟨R4,hR⟩: ∃R,(decide (0≤m.rd∧m.rd≤1000000000))=R:=⟨_,rfl⟩
    rw[hR]
    have K4:Hid ((decide (0≤m.rd∧m.rd≤1000000000))=R4):=hR
    clear hR
    cases R4 with
    |false=>
     obtain⟨⟨c0,c1,c2,c3,c4,c5⟩,⟨c6,c7,c8,c9⟩,c10,c11,c12,c13,c14,c15⟩:=HA.out.cells
     go_wp2_with fail
     go_ret
     exact⟨by rw[qCi,K0.out,K2.out,K3.out,K4.out];rfl,HL.out⟩
    |true=>
     obtain⟨⟨c0,c1,c2,c3,c4,c5⟩,⟨c6,c7,c8,c9⟩,c10,c11,c12,c13,c14,c15⟩:=HA.out.cells
     go_wp2_with fail
     clear c0 c1 c2 c3 c4 c5 c6 c7 c8 c9 c10 c11 c12 c13 c14 c15
     refine(qGt m.se 0 60 _).mono ?_
     rintro e w6 ⟨rfl,b⟩
     have HA:Hid (MtB w6 w.heap.size 32 m v):=Bx.later HA.out b
     obtain⟨HR,HL⟩:=cy2 (HR.out.stays b) (qAa HL.out b)
     clear b
     obtain⟨R5,hR⟩: ∃R,(decide (0≤m.se∧m.se≤60))=R:=⟨_,rfl⟩
     rw[hR]
     have K5:Hid ((decide (0≤m.se∧m.se≤60))=R5):=hR
     clear hR
     cases R5 with
     |false=>
      obtain⟨⟨c0,c1,c2,c3,c4,c5⟩,⟨c6,c7,c8,c9⟩,c10,c11,c12,c13,c14,c15⟩:=HA.out.cells
      go_wp2_with fail
      go_ret
      exact⟨by rw[qCi,K0.out,K2.out,K3.out,K4.out,K5.out];rfl,HL.out⟩
     |true=>
      obtain⟨⟨c0,c1,c2,c3,c4,c5⟩,⟨c6,c7,c8,c9⟩,c10,c11,c12,c13,c14,c15⟩:=HA.out.cells
      go_wp2_with fail
      clear c0 c1 c2 c3 c4 c5 c6 c7 c8 c9 c10 c11 c12 c13 c14 c15
      refine(qGt m.li 0 ((aruP m.its:Nat):Int) _).mono ?_
      rintro e w7 ⟨rfl,b⟩
      have HA:Hid (MtB w7 w.heap.size 32 m v):=Bx.later HA.out b
      obtain⟨HR,HL⟩:=cy2 (HR.out.stays b) (qAa HL.out b)
      clear b
      obtain⟨R6,hR⟩: ∃R,(decide (0≤m.li∧m.li≤((aruP m.its:Nat):Int)))=R:=⟨_,rfl⟩
      rw[hR]
      have K6:Hid ((decide (0≤m.li∧m.li≤((aruP m.its:Nat):Int)))=R6):=hR
      clear hR
      cases R6 with
      |false=>
       obtain⟨⟨c0,c1,c2,c3,c4,c5⟩,⟨c6,c7,c8,c9⟩,c10,c11,c12,c13,c14,c15⟩:=HA.out.cells
       go_wp2_with fail
       go_ret
       exact⟨by rw[qCi,K0.out,K2.out,K3.out,K4.out,K5.out,K6.out];rfl,HL.out⟩
      |true=>
       obtain⟨⟨c0,c1,c2,c3,c4,c5⟩,⟨c6,c7,c8,c9⟩,c10,c11,c12,c13,c14,c15⟩:=HA.out.cells
       go_wp2_with fail
       clear c0 c1 c2 c3 c4 c5 c6 c7 c8 c9 c10 c11 c12 c13 c14 c15
       refine(qGt m.he 0 ((aruP m.its:Nat):Int) _).mono ?_
       rintro e w8 ⟨rfl,b⟩
       have HA:Hid (MtB w8 w.heap.size 32 m v):=Bx.later HA.out b
       obtain⟨HR,HL⟩:=cy2 (HR.out.stays b) (qAa HL.out b)
       clear b
       obtain⟨R7,hR⟩: ∃R,(decide (0≤m.he∧m.he≤((aruP m.its:Nat):Int)))=R:=⟨_,rfl⟩
       rw[hR]
       have K7:Hid ((decide (0≤m.he∧m.he≤((aruP m.its:Nat):Int)))=R7):=hR
       clear hR
       cases R7 with
       |false=>
        obtain⟨⟨c0,c1,c2,c3,c4,c5⟩,⟨c6,c7,c8,c9⟩,c10,c11,c12,c13,c14,c15⟩:=HA.out.cells
        go_wp2_with fail
        go_ret
        exact⟨by rw[qCi,K0.out,K2.out,K3.out,K4.out,K5.out,K6.out,K7.out];rfl,HL.out⟩
       |true=>
        obtain⟨⟨c0,c1,c2,c3,c4,c5⟩,⟨c6,c7,c8,c9⟩,c10,c11,c12,c13,c14,c15⟩:=HA.out.cells
        go_wp2_with fail
        clear c0 c1 c2 c3 c4 c5 c6 c7 c8 c9 c10 c11 c12 c13 c14 c15
        refine(noToken_any m.la.c m.la.r m.la.q m.la.a m.la.b v.ws m.la.ws _ LW).mono ?_
        rintro e w9 ⟨rfl,b⟩
        have HA:Hid (MtB w9 w.heap.size 32 m v):=Bx.later HA.out b
        obtain⟨HR,HL⟩:=cy2 (HR.out.stays b) (qAa HL.out b)
        clear b
        obtain⟨R8,hR⟩: ∃R,(ntB m.la.c m.la.r m.la.q m.la.a m.la.b m.la.ws)=R:=⟨_,rfl⟩
        rw[hR]
        have K8:Hid ((ntB m.la.c m.la.r m.la.q m.la.a m.la.b m.la.ws)=R8):=hR
        clear hR
        cases R8 with
        |true=>
         obtain⟨⟨c0,c1,c2,c3,c4,c5⟩,⟨c6,c7,c8,c9⟩,c10,c11,c12,c13,c14,c15⟩:=HA.out.cells
         go_wp2_with fail
         go_ret
         exact⟨by rw[qCi,K0.out,K2.out,K3.out,K4.out,K5.out,K6.out,K7.out,K8.out];rfl,HL.out⟩
        |false=>
         obtain⟨⟨c0,c1,c2,c3,c4,c5⟩,⟨c6,c7,c8,c9⟩,c10,c11,c12,c13,c14,c15⟩:=HA.out.cells
         go_wp2_with fail
         clear c0 c1 c2 c3 c4 c5 c6 c7 c8 c9 c10 c11 c12 c13 c14 c15
         refine(qEh m.la.c m.la.r m.la.q m.la.a m.la.b m.la.ws HR.out.ws hs.out.ws).mono ?_
         rintro e w10 ⟨rfl,b⟩
         have HA:Hid (MtB w10 w.heap.size 32 m v):=Bx.later HA.out b
         obtain⟨HR,HL⟩:=cy2 (HR.out.stays b) (qAa HL.out b)
         clear b
         go_wp2_with fail
         go_ret
         exact⟨by rw[qCi,K0.out,K2.out,K3.out,K4.out,K5.out,K6.out,K7.out,K8.out];rfl,HL.out⟩
theorem qCg(m:Mt)(v:Mv)(w:World)(h:Hid (MtR w m v))(hs:Hid (MtS m)):
  Calls Tryz.prog 62 #[.agg #[.int .i64 m.id,.int .i64 m.rid,.slice v.ms.a v.ms.n v.ms.c,.slice v.its.a v.its.n v.its.c,.slice v.lv.a v.lv.n v.lv.c,.slice v.tx.a v.tx.n v.tx.c,.int .i64 m.rd,.int .i64 m.se,.int .i64 m.li,.int .i64 m.he,.int .i64 m.la.c,.int .i64 m.la.r,.int .i64 m.la.q,.int .i64 m.la.a,.int .i64 m.la.b,.slice v.ws.a v.ws.n v.ws.c]] w fun e w'=>e=.returned (.bool m.ok)∧Below w.heap.size w w':=by
 have HA:Hid (MtB (w.alloc (.cells #[.int .i64 m.id,.int .i64 m.rid,.slice v.ms.a v.ms.n v.ms.c,.slice v.its.a v.its.n v.its.c,.slice v.lv.a v.lv.n v.lv.c,.slice v.tx.a v.tx.n v.tx.c,.int .i64 m.rd,.int .i64 m.se,.int .i64 m.li,.int .i64 m.he,.int .i64 m.la.c,.int .i64 m.la.r,.int .i64 m.la.q,.int .i64 m.la.a,.int .i64 m.la.b,.slice v.ws.a v.ws.n v.ws.c] 32)) w.heap.size 32 m v):=Bx.new w 32 _
 have HL:=Ag (bA w (.cells #[.int .i64 m.id,.int .i64 m.rid,.slice v.ms.a v.ms.n v.ms.c,.slice v.its.a v.its.n v.its.c,.slice v.lv.a v.lv.n v.lv.c,.slice v.tx.a v.tx.n v.tx.c,.int .i64 m.rd,.int .i64 m.se,.int .i64 m.li,.int .i64 m.he,.int .i64 m.la.c,.int .i64 m.la.r,.int .i64 m.la.q,.int .i64 m.la.a,.int .i64 m.la.b,.slice v.ws.a v.ws.n v.ws.c] 32))
 have HR:=Ag (h.out.stays HL.out)
 have LW:Hid (v.ws.n=m.la.ws.length):=RI.len h.out.ws
 obtain⟨⟨c0,c1,c2,c3,c4,c5⟩,⟨c6,c7,c8,c9⟩,c10,c11,c12,c13,c14,c15⟩:=HA.out.cells
 clear h
 go_enter Tryz.func62,Tryz.ntmps62
 go_wp2_with fail
 clear c0 c1 c2 c3 c4 c5 c6 c7 c8 c9 c10 c11 c12 c13 c14 c15
 generalize w.alloc (.cells #[.int .i64 m.id,.int .i64 m.rid,.slice v.ms.a v.ms.n v.ms.c,.slice v.its.a v.its.n v.its.c,.slice v.lv.a v.lv.n v.lv.c,.slice v.tx.a v.tx.n v.tx.c,.int .i64 m.rd,.int .i64 m.se,.int .i64 m.li,.int .i64 m.he,.int .i64 m.la.c,.int .i64 m.la.r,.int .i64 m.la.q,.int .i64 m.la.a,.int .i64 m.la.b,.slice v.ws.a v.ws.n v.ws.c] 32)=W at *
 refine(qBk m.rid m.ms (show Hid (RI W v.ms.v m.ms)from HR.out.ms) hs.out.ms).mono ?_
 rintro e w1 ⟨rfl,b⟩
 have HA:Hid (MtB w1 w.heap.size 32 m v):=Bx.later HA.out b
 obtain⟨HR,HL⟩:=cy2 (HR.out.stays b) (qAa HL.out b)
 clear b
 obtain⟨R0,hR⟩: ∃R,(qAy m.rid m.ms)=R:=⟨_,rfl⟩
 rw[hR]
 have K0:Hid ((qAy m.rid m.ms)=R0):=hR
 clear hR
 cases R0 with
 |false=>
  obtain⟨⟨c0,c1,c2,c3,c4,c5⟩,⟨c6,c7,c8,c9⟩,c10,c11,c12,c13,c14,c15⟩:=HA.out.cells
  go_wp2_with fail
  go_ret
  exact⟨by unfold Mt.ok;rw[K0.out];rfl,HL.out⟩
 |true=>
  obtain⟨⟨c0,c1,c2,c3,c4,c5⟩,⟨c6,c7,c8,c9⟩,c10,c11,c12,c13,c14,c15⟩:=HA.out.cells
  go_wp2_with fail
  clear c0 c1 c2 c3 c4 c5 c6 c7 c8 c9 c10 c11 c12 c13 c14 c15
  refine(qKs m.ms m.id HR.out.ms hs.out.ms).mono ?_
  rintro e w2 ⟨rfl,b⟩
  have HA:Hid (MtB w2 w.heap.size 32 m v):=Bx.later HA.out b
  obtain⟨HR,HL⟩:=cy2 (HR.out.stays b) (qAa HL.out b)
  clear b
  obtain⟨R1,hR⟩: ∃R,(inB m.ms m.id)=R:=⟨_,rfl⟩
  rw[hR]
  have K1:Hid ((inB m.ms m.id)=R1):=hR
  clear hR
  cases R1 with
  |false=>
   obtain⟨⟨c0,c1,c2,c3,c4,c5⟩,⟨c6,c7,c8,c9⟩,c10,c11,c12,c13,c14,c15⟩:=HA.out.cells
   go_wp2_with fail
   go_ret
   exact⟨by unfold Mt.ok;rw[K0.out,K1.out];rfl,HL.out⟩
  |true=>
   obtain⟨⟨c0,c1,c2,c3,c4,c5⟩,⟨c6,c7,c8,c9⟩,c10,c11,c12,c13,c14,c15⟩:=HA.out.cells
   go_wp2_with fail
   clear c0 c1 c2 c3 c4 c5 c6 c7 c8 c9 c10 c11 c12 c13 c14 c15
   refine(spItemsOk_r m.its HR.out.its hs.out.its).mono ?_
   rintro e w3 ⟨rfl,b⟩
   have HA:Hid (MtB w3 w.heap.size 32 m v):=Bx.later HA.out b
   obtain⟨HR,HL⟩:=cy2 (HR.out.stays b) (qAa HL.out b)
   clear b
   obtain⟨R2,hR⟩: ∃R,(iGo 0 m.its)=R:=⟨_,rfl⟩
   rw[hR]
   have K2:Hid ((iGo 0 m.its)=R2):=hR
   clear hR
   cases R2 with
   |false=>
    obtain⟨⟨c0,c1,c2,c3,c4,c5⟩,⟨c6,c7,c8,c9⟩,c10,c11,c12,c13,c14,c15⟩:=HA.out.cells
    go_wp2_with fail
    go_ret
    exact⟨by unfold Mt.ok;rw[K0.out,K1.out,K2.out];rfl,HL.out⟩
   |true=>
    obtain⟨⟨c0,c1,c2,c3,c4,c5⟩,⟨c6,c7,c8,c9⟩,c10,c11,c12,c13,c14,c15⟩:=HA.out.cells
    go_wp2_with fail
    clear c0 c1 c2 c3 c4 c5 c6 c7 c8 c9 c10 c11 c12 c13 c14 c15
    refine(show Calls Tryz.prog 134 #[.slice v.lv.a v.lv.n v.lv.c,.slice v.tx.a v.tx.n v.tx.c] _ (fun e w'=>e=.returned (.bool (sayB m.lv m.tx))∧Below _ _ w')from(tenTexts_any v.lv v.tx m.lv m.tx _ HR.out.lv HR.out.tx hs.out.lv hs.out.tx).mono fun e w' ⟨x,y⟩=>⟨x,qDr y⟩).mono ?_
    rintro e w4 ⟨rfl,b⟩
    have HA:Hid (MtB w4 w.heap.size 32 m v):=Bx.later HA.out b
    obtain⟨HR,HL⟩:=cy2 (HR.out.stays b) (qAa HL.out b)
    clear b
    obtain⟨R3,hR⟩: ∃R,(sayB m.lv m.tx)=R:=⟨_,rfl⟩
    rw[hR]
    have K3:Hid ((sayB m.lv m.tx)=R3):=hR
    clear hR
    cases R3 with
    |false=>
     obtain⟨⟨c0,c1,c2,c3,c4,c5⟩,⟨c6,c7,c8,c9⟩,c10,c11,c12,c13,c14,c15⟩:=HA.out.cells
     go_wp2_with fail
     go_ret
     exact⟨by unfold Mt.ok;rw[K0.out,K1.out,K2.out,K3.out];rfl,HL.out⟩
    |true=>
     obtain⟨⟨c0,c1,c2,c3,c4,c5⟩,⟨c6,c7,c8,c9⟩,c10,c11,c12,c13,c14,c15⟩:=HA.out.cells
     go_wp2_with fail
     clear c0 c1 c2 c3 c4 c5 c6 c7 c8 c9 c10 c11 c12 c13 c14 c15
     refine(in_b m.rd 0 1000000000 _).mono ?_
     rintro e w5 ⟨rfl,b⟩
     have HA:Hid (MtB w5 w.heap.size 32 m v):=Bx.later HA.out b
     obtain⟨HR,HL⟩:=cy2 (HR.out.stays b) (qAa HL.out b)
     clear b
     obtain⟨R4,hR⟩: ∃R,(decide (0≤m.rd∧m.rd≤1000000000))=R:=⟨_,rfl⟩
     rw[hR]
     have K4:Hid ((decide (0≤m.rd∧m.rd≤1000000000))=R4):=hR
     clear hR
     cases R4 with
     |false=>
      obtain⟨⟨c0,c1,c2,c3,c4,c5⟩,⟨c6,c7,c8,c9⟩,c10,c11,c12,c13,c14,c15⟩:=HA.out.cells
      go_wp2_with fail
      go_ret
      exact⟨by unfold Mt.ok;rw[K0.out,K1.out,K2.out,K3.out,K4.out];rfl,HL.out⟩
     |true=>
      obtain⟨⟨c0,c1,c2,c3,c4,c5⟩,⟨c6,c7,c8,c9⟩,c10,c11,c12,c13,c14,c15⟩:=HA.out.cells
      go_wp2_with fail
      clear c0 c1 c2 c3 c4 c5 c6 c7 c8 c9 c10 c11 c12 c13 c14 c15
      refine(in_b m.se 0 60 _).mono ?_
      rintro e w6 ⟨rfl,b⟩
      have HA:Hid (MtB w6 w.heap.size 32 m v):=Bx.later HA.out b
      obtain⟨HR,HL⟩:=cy2 (HR.out.stays b) (qAa HL.out b)
      clear b
      obtain⟨R5,hR⟩: ∃R,(decide (0≤m.se∧m.se≤60))=R:=⟨_,rfl⟩
      rw[hR]
      have K5:Hid ((decide (0≤m.se∧m.se≤60))=R5):=hR
      clear hR
      cases R5 with
      |false=>
       obtain⟨⟨c0,c1,c2,c3,c4,c5⟩,⟨c6,c7,c8,c9⟩,c10,c11,c12,c13,c14,c15⟩:=HA.out.cells
       go_wp2_with fail
       go_ret
       exact⟨by unfold Mt.ok;rw[K0.out,K1.out,K2.out,K3.out,K4.out,K5.out];rfl,HL.out⟩
      |true=>
       obtain⟨⟨c0,c1,c2,c3,c4,c5⟩,⟨c6,c7,c8,c9⟩,c10,c11,c12,c13,c14,c15⟩:=HA.out.cells
       go_wp2_with fail
       clear c0 c1 c2 c3 c4 c5 c6 c7 c8 c9 c10 c11 c12 c13 c14 c15
       refine(qKj m.its HR.out.its hs.out.its).mono ?_
       rintro e w7 ⟨rfl,b⟩
       have HA:Hid (MtB w7 w.heap.size 32 m v):=Bx.later HA.out b
       obtain⟨HR,HL⟩:=cy2 (HR.out.stays b) (qAa HL.out b)
       clear b
       obtain⟨⟨c0,c1,c2,c3,c4,c5⟩,⟨c6,c7,c8,c9⟩,c10,c11,c12,c13,c14,c15⟩:=HA.out.cells
       go_wp2_with fail
       clear c0 c1 c2 c3 c4 c5 c6 c7 c8 c9 c10 c11 c12 c13 c14 c15
       refine(in_b m.li 0 ((aruP m.its:Nat):Int) _).mono ?_
       rintro e w8 ⟨rfl,b⟩
       have HA:Hid (MtB w8 w.heap.size 32 m v):=Bx.later HA.out b
       obtain⟨HR,HL⟩:=cy2 (HR.out.stays b) (qAa HL.out b)
       clear b
       obtain⟨R6,hR⟩: ∃R,(decide (0≤m.li∧m.li≤((aruP m.its:Nat):Int)))=R:=⟨_,rfl⟩
       rw[hR]
       have K6:Hid ((decide (0≤m.li∧m.li≤((aruP m.its:Nat):Int)))=R6):=hR
       clear hR
       cases R6 with
       |false=>
        obtain⟨⟨c0,c1,c2,c3,c4,c5⟩,⟨c6,c7,c8,c9⟩,c10,c11,c12,c13,c14,c15⟩:=HA.out.cells
        go_wp2_with fail
        go_ret
        exact⟨by unfold Mt.ok;rw[K0.out,K1.out,K2.out,K3.out,K4.out,K5.out,K6.out];rfl,HL.out⟩
       |true=>
        obtain⟨⟨c0,c1,c2,c3,c4,c5⟩,⟨c6,c7,c8,c9⟩,c10,c11,c12,c13,c14,c15⟩:=HA.out.cells
        go_wp2_with fail
        clear c0 c1 c2 c3 c4 c5 c6 c7 c8 c9 c10 c11 c12 c13 c14 c15
        refine(in_b m.he 0 ((aruP m.its:Nat):Int) _).mono ?_
        rintro e w9 ⟨rfl,b⟩
        have HA:Hid (MtB w9 w.heap.size 32 m v):=Bx.later HA.out b
        obtain⟨HR,HL⟩:=cy2 (HR.out.stays b) (qAa HL.out b)
        clear b
        obtain⟨R7,hR⟩: ∃R,(decide (0≤m.he∧m.he≤((aruP m.its:Nat):Int)))=R:=⟨_,rfl⟩
        rw[hR]
        have K7:Hid ((decide (0≤m.he∧m.he≤((aruP m.its:Nat):Int)))=R7):=hR
        clear hR
        cases R7 with
        |false=>
         obtain⟨⟨c0,c1,c2,c3,c4,c5⟩,⟨c6,c7,c8,c9⟩,c10,c11,c12,c13,c14,c15⟩:=HA.out.cells
         go_wp2_with fail
         go_ret
         exact⟨by unfold Mt.ok;rw[K0.out,K1.out,K2.out,K3.out,K4.out,K5.out,K6.out,K7.out];rfl,HL.out⟩
        |true=>
         obtain⟨⟨c0,c1,c2,c3,c4,c5⟩,⟨c6,c7,c8,c9⟩,c10,c11,c12,c13,c14,c15⟩:=HA.out.cells
         go_wp2_with fail
         clear c0 c1 c2 c3 c4 c5 c6 c7 c8 c9 c10 c11 c12 c13 c14 c15
         refine(qJa m.la.c m.la.r m.la.q m.la.a m.la.b v.ws m.la.ws _ LW).mono ?_
         rintro e w10 ⟨rfl,b⟩
         have HA:Hid (MtB w10 w.heap.size 32 m v):=Bx.later HA.out b
         obtain⟨HR,HL⟩:=cy2 (HR.out.stays b) (qAa HL.out b)
         clear b
         obtain⟨R8,hR⟩: ∃R,(ntB m.la.c m.la.r m.la.q m.la.a m.la.b m.la.ws)=R:=⟨_,rfl⟩
         rw[hR]
         have K8:Hid ((ntB m.la.c m.la.r m.la.q m.la.a m.la.b m.la.ws)=R8):=hR
         clear hR
         cases R8 with
         |true=>
          obtain⟨⟨c0,c1,c2,c3,c4,c5⟩,⟨c6,c7,c8,c9⟩,c10,c11,c12,c13,c14,c15⟩:=HA.out.cells
          go_wp2_with fail
          go_ret
          exact⟨by unfold Mt.ok;rw[K0.out,K1.out,K2.out,K3.out,K4.out,K5.out,K6.out,K7.out,K8.out];rfl,HL.out⟩
         |false=>
          obtain⟨⟨c0,c1,c2,c3,c4,c5⟩,⟨c6,c7,c8,c9⟩,c10,c11,c12,c13,c14,c15⟩:=HA.out.cells
          go_wp2_with fail
          clear c0 c1 c2 c3 c4 c5 c6 c7 c8 c9 c10 c11 c12 c13 c14 c15
          refine(qFe m.la.c m.la.r m.la.q m.la.a m.la.b m.la.ws HR.out.ws hs.out.ws).mono ?_
          rintro e w11 ⟨rfl,b⟩
          have HA:Hid (MtB w11 w.heap.size 32 m v):=Bx.later HA.out b
          obtain⟨HR,HL⟩:=cy2 (HR.out.stays b) (qAa HL.out b)
          clear b
          go_wp2_with fail
          go_ret
          exact⟨by unfold Mt.ok;rw[K0.out,K1.out,K2.out,K3.out,K4.out,K5.out,K6.out,K7.out,K8.out];rfl,HL.out⟩
theorem qAr{w w':World}{B:Nat}{v:Value}{ss:List Int}(h:OwnI w B v ss)(hb:Below w.heap.size w w'):OwnI w' B v ss:=h.stays hb (fun k hk=>(h.lt k hk).2)
theorem own_keep{w w':World}{B g:Nat}{v:Value}{xs:List Int}{c r q a b:Int}{u:Value}(h:OwnI w B v xs)(hu:TokAt w g c r q a b u)(ht:KeepBut g w w'):OwnI w' B v xs:=by
 refine⟨h.1,?_⟩
 rcases h.2 with hn|⟨k,cap,cur,rfl,hbg,hk,rest⟩
 ·exact .inl hn
 ·have hne:k≠g:=by
   rintro rfl
   unfold TokAt at hu
   rw[hk]at hu
   simp at hu
  exact .inr ⟨k,cap,cur,rfl,hbg,(ht.block k (Array.getElem?_eq_some_iff.1 hk).1 hne).trans hk,rest⟩
def qJt(c r q a b:Int)(ws:List Int)(d u:Int):Bool:=tkB c r q a b ws&&(decide (1≤d∧d≤5)&&decide (0≤u))
def qEy(c r q a b:Int)(ws:List Int)(d u:Int):Int:=if qJt c r q a b ws d u then aruM q a b d u else a
def qEx(c r q a b:Int)(ws:List Int)(d u:Int):Int:=if qJt c r q a b ws d u then byM q a b d u else b
theorem mark_0(c r q a b d u:Int)(u0:Value)(ws:List Int)(B0:Nat)(w:World)(h:Hid (OwnI w B0 u0 ws))(hl:ws.length≤1048576)(ht:Hid (tkB c r q a b ws=false)):
  Calls Tryz.prog 58 #[.agg #[.int .i64 c,.int .i64 r,.int .i64 q,.int .i64 a,.int .i64 b,u0],.int .i64 d,.int .i64 u] w fun e w'=>∃v,e=.returned (.agg #[.int .i64 c,.int .i64 r,.int .i64 q,.int .i64 a,.int .i64 b,v])∧OwnI w' w.heap.size v ws∧Below w.heap.size w w':=by
 obtain⟨HA,HR,HB,HU⟩:=enT w c r q a b u0 B0 ws h.out
 clear h
 go_enter Tryz.func58,Tryz.ntmps58
 go_wp2_with fail
 generalize ((w.alloc (.cells #[.int .i64 c,.int .i64 r,.int .i64 q,.int .i64 a,.int .i64 b,u0] 30)).alloc (.cells #[.int .i64 0,.int .i64 0,.int .i64 0,.int .i64 0,.int .i64 0,.slice none 0 0] 30))=W at *
 have hWs:w.heap.size≤W.heap.size:=HB.out.size
 have hWr:w.heap.size+1<W.heap.size:=HR.out.lt
 refine(qEn c r q a b u0 ws B0 W HU hl).mono ?_
 rintro e w1 ⟨v1,rfl,hv1,hb1⟩
 obtain⟨ao1,cap1,hf1⟩:=hv1.form
 subst hf1
 have O1:Hid (TokAt (w1.alloc (.cells #[.int .i64 c,.int .i64 r,.int .i64 q,.int .i64 a,.int .i64 b,.slice ao1 ws.length cap1] 30)) w1.heap.size c r q a b (.slice ao1 ws.length cap1)):=heap_alloc_new w1 _
 have E1:Below W.heap.size W (w1.alloc (.cells #[.int .i64 c,.int .i64 r,.int .i64 q,.int .i64 a,.int .i64 b,.slice ao1 ws.length cap1] 30)):=hb1.alloc hb1.size _
 obtain⟨A1,R1⟩:=cy2 (HA.out.stays E1 HA.out.lt) (HR.out.stays E1 HR.out.lt)
 have V1:Hid (OwnI (w1.alloc (.cells #[.int .i64 c,.int .i64 r,.int .i64 q,.int .i64 a,.int .i64 b,.slice ao1 ws.length cap1] 30)) w.heap.size (.slice ao1 ws.length cap1) ws):=(hv1.alloc _).down hWs
 obtain⟨B1,U1⟩:=cy2 (HB.out.trans (E1.mono hWs)) (HU.out.stays E1 (fun k hk=>(HU.out.lt k hk).2))
 have hgO:w.heap.size+1<w1.heap.size:=Nat.lt_of_lt_of_le hWr hb1.size
 obtain⟨s0,s1,s2,s3,s4,s5⟩:=A1.out.cells
 clear hv1 hb1 E1 HA HR HU HB hWs hWr
 go_wp2_with fail
 generalize w1.alloc (.cells #[.int .i64 c,.int .i64 r,.int .i64 q,.int .i64 a,.int .i64 b,.slice ao1 ws.length cap1] 30)=W1 at *
 generalize w1.heap.size=gO at *
 obtain⟨ao0,cap0,hu0,hx0⟩:=U1.out.ints
 have X1:Hid (IntsAt W1 ao0 ws):=hx0
 subst hu0
 refine(qBv c r q a b ao0 cap0 ws _ X1 hl).mono ?_
 rintro e w2 ⟨rfl,hb2⟩
 obtain⟨OO,RR,LL,BB⟩:=cy4 (O1.out.stays hb2 O1.out.lt) (R1.out.stays hb2 R1.out.lt) (qAr V1.out hb2) (B1.out.trans (hb2.mono B1.out.size))
 clear hb2 O1 R1 V1 B1 A1 U1 X1 hx0 s0 s1 s2 s3 s4 s5
 rw[ht.out]
 clear ht
 obtain⟨x0,x1,x2,x3,x4,x5⟩:=OO.out.cells
 obtain⟨y0,y1,y2,y3,y4,y5⟩:=RR.out.cells
 have m0:=RR.out.frozen 0
 have m1:=RR.out.frozen 1
 have m2:=RR.out.frozen 2
 have m3:=RR.out.frozen 3
 have m4:=RR.out.frozen 4
 have m5:=RR.out.frozen 5
 go_wp2_with fail
 have R3:TokAt _ (w.heap.size+1) c r q a b (.slice ao1 ws.length cap1):=RR.out.agg c r q a b (.slice ao1 ws.length cap1)
 have T3:=((((((TurnAt.refl (w.heap.size+1) w2).setCell 0 (.int .i64 c)).setCell 1 (.int .i64 r)).setCell 2 (.int .i64 q)).setCell 3 (.int .i64 a)).setCell 4 (.int .i64 b)).setCell 5 (.slice ao1 ws.length cap1)
 have V3:=qAg LL.out RR.out T3
 have B3:=BB.out.trans (T3.below (by omega))
 clear T3
 generalize ((((((w2.setCell ⟨w.heap.size+1,0,none⟩ (.int .i64 c)).setCell ⟨w.heap.size+1,1,none⟩ (.int .i64 r)).setCell ⟨w.heap.size+1,2,none⟩ (.int .i64 q)).setCell ⟨w.heap.size+1,3,none⟩ (.int .i64 a)).setCell ⟨w.heap.size+1,4,none⟩ (.int .i64 b)).setCell ⟨w.heap.size+1,5,none⟩ (.slice ao1 ws.length cap1))=W3 at *
 obtain⟨q0,q1,q2,q3,q4,q5⟩:=R3.cells
 refine bodyPost_ret (v:=.agg #[.int .i64 c,.int .i64 r,.int .i64 q,.int .i64 a,.int .i64 b,.slice ao1 ws.length cap1]) (by simp[results,Tryz.results58,go_sem,q0,q1,q2,q3,q4,q5]) rfl ?_
 exact⟨_,rfl,V3,B3⟩
theorem mark_1(c r q a b d u:Int)(u0:Value)(ws:List Int)(B0:Nat)(w:World)(h:Hid (OwnI w B0 u0 ws))(hl:ws.length≤1048576)(ht:Hid (tkB c r q a b ws=true))(hd:decide (1≤d∧d≤5)=false):
  Calls Tryz.prog 58 #[.agg #[.int .i64 c,.int .i64 r,.int .i64 q,.int .i64 a,.int .i64 b,u0],.int .i64 d,.int .i64 u] w fun e w'=>∃v,e=.returned (.agg #[.int .i64 c,.int .i64 r,.int .i64 q,.int .i64 a,.int .i64 b,v])∧OwnI w' w.heap.size v ws∧Below w.heap.size w w':=by
 obtain⟨HA,HR,HB,HU⟩:=enT w c r q a b u0 B0 ws h.out
 clear h
 go_enter Tryz.func58,Tryz.ntmps58
 go_wp2_with fail
 generalize ((w.alloc (.cells #[.int .i64 c,.int .i64 r,.int .i64 q,.int .i64 a,.int .i64 b,u0] 30)).alloc (.cells #[.int .i64 0,.int .i64 0,.int .i64 0,.int .i64 0,.int .i64 0,.slice none 0 0] 30))=W at *
 have hWs:w.heap.size≤W.heap.size:=HB.out.size
 have hWr:w.heap.size+1<W.heap.size:=HR.out.lt
 refine(qEn c r q a b u0 ws B0 W HU hl).mono ?_
 rintro e w1 ⟨v1,rfl,hv1,hb1⟩
 obtain⟨ao1,cap1,hf1⟩:=hv1.form
 subst hf1
 have O1:Hid (TokAt (w1.alloc (.cells #[.int .i64 c,.int .i64 r,.int .i64 q,.int .i64 a,.int .i64 b,.slice ao1 ws.length cap1] 30)) w1.heap.size c r q a b (.slice ao1 ws.length cap1)):=heap_alloc_new w1 _
 have E1:Below W.heap.size W (w1.alloc (.cells #[.int .i64 c,.int .i64 r,.int .i64 q,.int .i64 a,.int .i64 b,.slice ao1 ws.length cap1] 30)):=hb1.alloc hb1.size _
 obtain⟨A1,R1⟩:=cy2 (HA.out.stays E1 HA.out.lt) (HR.out.stays E1 HR.out.lt)
 have V1:Hid (OwnI (w1.alloc (.cells #[.int .i64 c,.int .i64 r,.int .i64 q,.int .i64 a,.int .i64 b,.slice ao1 ws.length cap1] 30)) w.heap.size (.slice ao1 ws.length cap1) ws):=(hv1.alloc _).down hWs
 obtain⟨B1,U1⟩:=cy2 (HB.out.trans (E1.mono hWs)) (HU.out.stays E1 (fun k hk=>(HU.out.lt k hk).2))
 have hgO:w.heap.size+1<w1.heap.size:=Nat.lt_of_lt_of_le hWr hb1.size
 obtain⟨s0,s1,s2,s3,s4,s5⟩:=A1.out.cells
 clear hv1 hb1 E1 HA HR HU HB hWs hWr
 go_wp2_with fail
 generalize w1.alloc (.cells #[.int .i64 c,.int .i64 r,.int .i64 q,.int .i64 a,.int .i64 b,.slice ao1 ws.length cap1] 30)=W1 at *
 generalize w1.heap.size=gO at *
 obtain⟨ao0,cap0,hu0,hx0⟩:=U1.out.ints
 have X1:Hid (IntsAt W1 ao0 ws):=hx0
 subst hu0
 refine(qBv c r q a b ao0 cap0 ws _ X1 hl).mono ?_
 rintro e w2 ⟨rfl,hb2⟩
 obtain⟨OO,RR,LL,BB⟩:=cy4 (O1.out.stays hb2 O1.out.lt) (R1.out.stays hb2 R1.out.lt) (qAr V1.out hb2) (B1.out.trans (hb2.mono B1.out.size))
 clear hb2 O1 R1 V1 B1 A1 U1 X1 hx0 s0 s1 s2 s3 s4 s5
 rw[ht.out]
 clear ht
 go_wp2_with fail
 refine(qAi _ hd).mono ?_
 rintro e w3 ⟨rfl,rfl⟩
 obtain⟨x0,x1,x2,x3,x4,x5⟩:=OO.out.cells
 obtain⟨y0,y1,y2,y3,y4,y5⟩:=RR.out.cells
 have m0:=RR.out.frozen 0
 have m1:=RR.out.frozen 1
 have m2:=RR.out.frozen 2
 have m3:=RR.out.frozen 3
 have m4:=RR.out.frozen 4
 have m5:=RR.out.frozen 5
 go_wp2_with fail
 have R3:TokAt _ (w.heap.size+1) c r q a b (.slice ao1 ws.length cap1):=RR.out.agg c r q a b (.slice ao1 ws.length cap1)
 have T3:=((((((TurnAt.refl (w.heap.size+1) w3).setCell 0 (.int .i64 c)).setCell 1 (.int .i64 r)).setCell 2 (.int .i64 q)).setCell 3 (.int .i64 a)).setCell 4 (.int .i64 b)).setCell 5 (.slice ao1 ws.length cap1)
 have V3:=qAg LL.out RR.out T3
 have B3:=BB.out.trans (T3.below (by omega))
 clear T3
 generalize ((((((w3.setCell ⟨w.heap.size+1,0,none⟩ (.int .i64 c)).setCell ⟨w.heap.size+1,1,none⟩ (.int .i64 r)).setCell ⟨w.heap.size+1,2,none⟩ (.int .i64 q)).setCell ⟨w.heap.size+1,3,none⟩ (.int .i64 a)).setCell ⟨w.heap.size+1,4,none⟩ (.int .i64 b)).setCell ⟨w.heap.size+1,5,none⟩ (.slice ao1 ws.length cap1))=W3 at *
 obtain⟨q0,q1,q2,q3,q4,q5⟩:=R3.cells
 refine bodyPost_ret (v:=.agg #[.int .i64 c,.int .i64 r,.int .i64 q,.int .i64 a,.int .i64 b,.slice ao1 ws.length cap1]) (by simp[results,Tryz.results58,go_sem,q0,q1,q2,q3,q4,q5]) rfl ?_
 exact⟨_,rfl,V3,B3⟩
theorem mark_2(c r q a b d u:Int)(u0:Value)(ws:List Int)(B0:Nat)(w:World)(h:Hid (OwnI w B0 u0 ws))(hl:ws.length≤1048576)(ht:Hid (tkB c r q a b ws=true))(hd:decide (1≤d∧d≤5)=true)(hu:u<0):
  Calls Tryz.prog 58 #[.agg #[.int .i64 c,.int .i64 r,.int .i64 q,.int .i64 a,.int .i64 b,u0],.int .i64 d,.int .i64 u] w fun e w'=>∃v,e=.returned (.agg #[.int .i64 c,.int .i64 r,.int .i64 q,.int .i64 a,.int .i64 b,v])∧OwnI w' w.heap.size v ws∧Below w.heap.size w w':=by
 obtain⟨HA,HR,HB,HU⟩:=enT w c r q a b u0 B0 ws h.out
 clear h
 go_enter Tryz.func58,Tryz.ntmps58
 go_wp2_with fail
 generalize ((w.alloc (.cells #[.int .i64 c,.int .i64 r,.int .i64 q,.int .i64 a,.int .i64 b,u0] 30)).alloc (.cells #[.int .i64 0,.int .i64 0,.int .i64 0,.int .i64 0,.int .i64 0,.slice none 0 0] 30))=W at *
 have hWs:w.heap.size≤W.heap.size:=HB.out.size
 have hWr:w.heap.size+1<W.heap.size:=HR.out.lt
 refine(qEn c r q a b u0 ws B0 W HU hl).mono ?_
 rintro e w1 ⟨v1,rfl,hv1,hb1⟩
 obtain⟨ao1,cap1,hf1⟩:=hv1.form
 subst hf1
 have O1:Hid (TokAt (w1.alloc (.cells #[.int .i64 c,.int .i64 r,.int .i64 q,.int .i64 a,.int .i64 b,.slice ao1 ws.length cap1] 30)) w1.heap.size c r q a b (.slice ao1 ws.length cap1)):=heap_alloc_new w1 _
 have E1:Below W.heap.size W (w1.alloc (.cells #[.int .i64 c,.int .i64 r,.int .i64 q,.int .i64 a,.int .i64 b,.slice ao1 ws.length cap1] 30)):=hb1.alloc hb1.size _
 obtain⟨A1,R1⟩:=cy2 (HA.out.stays E1 HA.out.lt) (HR.out.stays E1 HR.out.lt)
 have V1:Hid (OwnI (w1.alloc (.cells #[.int .i64 c,.int .i64 r,.int .i64 q,.int .i64 a,.int .i64 b,.slice ao1 ws.length cap1] 30)) w.heap.size (.slice ao1 ws.length cap1) ws):=(hv1.alloc _).down hWs
 obtain⟨B1,U1⟩:=cy2 (HB.out.trans (E1.mono hWs)) (HU.out.stays E1 (fun k hk=>(HU.out.lt k hk).2))
 have hgO:w.heap.size+1<w1.heap.size:=Nat.lt_of_lt_of_le hWr hb1.size
 obtain⟨s0,s1,s2,s3,s4,s5⟩:=A1.out.cells
 clear hv1 hb1 E1 HA HR HU HB hWs hWr
 go_wp2_with fail
 generalize w1.alloc (.cells #[.int .i64 c,.int .i64 r,.int .i64 q,.int .i64 a,.int .i64 b,.slice ao1 ws.length cap1] 30)=W1 at *
 generalize w1.heap.size=gO at *
 obtain⟨ao0,cap0,hu0,hx0⟩:=U1.out.ints
 have X1:Hid (IntsAt W1 ao0 ws):=hx0
 subst hu0
 refine(qBv c r q a b ao0 cap0 ws _ X1 hl).mono ?_
 rintro e w2 ⟨rfl,hb2⟩
 obtain⟨OO,RR,LL,BB⟩:=cy4 (O1.out.stays hb2 O1.out.lt) (R1.out.stays hb2 R1.out.lt) (qAr V1.out hb2) (B1.out.trans (hb2.mono B1.out.size))
 clear hb2 O1 R1 V1 B1 A1 U1 X1 hx0 s0 s1 s2 s3 s4 s5
 rw[ht.out]
 clear ht
 go_wp2_with fail
 refine(qAi _ hd).mono ?_
 rintro e w3 ⟨rfl,rfl⟩
 obtain⟨x0,x1,x2,x3,x4,x5⟩:=OO.out.cells
 obtain⟨y0,y1,y2,y3,y4,y5⟩:=RR.out.cells
 have m0:=RR.out.frozen 0
 have m1:=RR.out.frozen 1
 have m2:=RR.out.frozen 2
 have m3:=RR.out.frozen 3
 have m4:=RR.out.frozen 4
 have m5:=RR.out.frozen 5
 go_wp2_with fail
 have R3:TokAt _ (w.heap.size+1) c r q a b (.slice ao1 ws.length cap1):=RR.out.agg c r q a b (.slice ao1 ws.length cap1)
 have T3:=((((((TurnAt.refl (w.heap.size+1) w3).setCell 0 (.int .i64 c)).setCell 1 (.int .i64 r)).setCell 2 (.int .i64 q)).setCell 3 (.int .i64 a)).setCell 4 (.int .i64 b)).setCell 5 (.slice ao1 ws.length cap1)
 have V3:=qAg LL.out RR.out T3
 have B3:=BB.out.trans (T3.below (by omega))
 clear T3
 generalize ((((((w3.setCell ⟨w.heap.size+1,0,none⟩ (.int .i64 c)).setCell ⟨w.heap.size+1,1,none⟩ (.int .i64 r)).setCell ⟨w.heap.size+1,2,none⟩ (.int .i64 q)).setCell ⟨w.heap.size+1,3,none⟩ (.int .i64 a)).setCell ⟨w.heap.size+1,4,none⟩ (.int .i64 b)).setCell ⟨w.heap.size+1,5,none⟩ (.slice ao1 ws.length cap1))=W3 at *
 obtain⟨q0,q1,q2,q3,q4,q5⟩:=R3.cells
 refine bodyPost_ret (v:=.agg #[.int .i64 c,.int .i64 r,.int .i64 q,.int .i64 a,.int .i64 b,.slice ao1 ws.length cap1]) (by simp[results,Tryz.results58,go_sem,q0,q1,q2,q3,q4,q5]) rfl ?_
 exact⟨_,rfl,V3,B3⟩
theorem mark_3(c r q a b d u:Int)(u0:Value)(ws:List Int)(B0:Nat)(w:World)(h:Hid (OwnI w B0 u0 ws))(hl:ws.length≤1048576)(ht:Hid (tkB c r q a b ws=true))(hd:decide (1≤d∧d≤5)=true)(hu: ¬u<0):
  Calls Tryz.prog 58 #[.agg #[.int .i64 c,.int .i64 r,.int .i64 q,.int .i64 a,.int .i64 b,u0],.int .i64 d,.int .i64 u] w fun e w'=>∃v,e=.returned (.agg #[.int .i64 c,.int .i64 r,.int .i64 q,.int .i64 (aruM q a b d u),.int .i64 (byM q a b d u),v])∧OwnI w' w.heap.size v ws∧Below w.heap.size w w':=by
 obtain⟨HA,HR,HB,HU⟩:=enT w c r q a b u0 B0 ws h.out
 clear h
 go_enter Tryz.func58,Tryz.ntmps58
 go_wp2_with fail
 generalize ((w.alloc (.cells #[.int .i64 c,.int .i64 r,.int .i64 q,.int .i64 a,.int .i64 b,u0] 30)).alloc (.cells #[.int .i64 0,.int .i64 0,.int .i64 0,.int .i64 0,.int .i64 0,.slice none 0 0] 30))=W at *
 have hWs:w.heap.size≤W.heap.size:=HB.out.size
 have hWr:w.heap.size+1<W.heap.size:=HR.out.lt
 refine(qEn c r q a b u0 ws B0 W HU hl).mono ?_
 rintro e w1 ⟨v1,rfl,hv1,hb1⟩
 obtain⟨ao1,cap1,hf1⟩:=hv1.form
 subst hf1
 have O1:Hid (TokAt (w1.alloc (.cells #[.int .i64 c,.int .i64 r,.int .i64 q,.int .i64 a,.int .i64 b,.slice ao1 ws.length cap1] 30)) w1.heap.size c r q a b (.slice ao1 ws.length cap1)):=heap_alloc_new w1 _
 have E1:Below W.heap.size W (w1.alloc (.cells #[.int .i64 c,.int .i64 r,.int .i64 q,.int .i64 a,.int .i64 b,.slice ao1 ws.length cap1] 30)):=hb1.alloc hb1.size _
 obtain⟨A1,R1⟩:=cy2 (HA.out.stays E1 HA.out.lt) (HR.out.stays E1 HR.out.lt)
 have V1:Hid (OwnI (w1.alloc (.cells #[.int .i64 c,.int .i64 r,.int .i64 q,.int .i64 a,.int .i64 b,.slice ao1 ws.length cap1] 30)) w.heap.size (.slice ao1 ws.length cap1) ws):=(hv1.alloc _).down hWs
 obtain⟨B1,U1⟩:=cy2 (HB.out.trans (E1.mono hWs)) (HU.out.stays E1 (fun k hk=>(HU.out.lt k hk).2))
 have hgO:w.heap.size+1<w1.heap.size:=Nat.lt_of_lt_of_le hWr hb1.size
 obtain⟨s0,s1,s2,s3,s4,s5⟩:=A1.out.cells
 clear hv1 hb1 E1 HA HR HU HB hWs hWr
 go_wp2_with fail
 generalize w1.alloc (.cells #[.int .i64 c,.int .i64 r,.int .i64 q,.int .i64 a,.int .i64 b,.slice ao1 ws.length cap1] 30)=W1 at *
 generalize w1.heap.size=gO at *
 obtain⟨ao0,cap0,hu0,hx0⟩:=U1.out.ints
 have X1:Hid (IntsAt W1 ao0 ws):=hx0
 subst hu0
 refine(qBv c r q a b ao0 cap0 ws _ X1 hl).mono ?_
 rintro e w2 ⟨rfl,hb2⟩
 obtain⟨OO,RR,LL,BB⟩:=cy4 (O1.out.stays hb2 O1.out.lt) (R1.out.stays hb2 R1.out.lt) (qAr V1.out hb2) (B1.out.trans (hb2.mono B1.out.size))
 clear hb2 O1 R1 V1 B1 A1 U1 X1 hx0 s0 s1 s2 s3 s4 s5
 rw[ht.out]
 clear ht
 go_wp2_with fail
 refine(qAi _ hd).mono ?_
 rintro e w3 ⟨rfl,rfl⟩
 have K1:Below w3.heap.size w3 ((w3.alloc (.cells #[.int .i64 d,.int .i64 u] 151)).alloc (.cells #[.func (Fn.func 129) #[.agg #[.int .i64 d,.int .i64 u]] #[],.func (Fn.func 130) #[.agg #[.int .i64 d,.int .i64 u]] #[]] 187)):=((Below.refl _ _).alloc (Nat.le_refl _) _).alloc (by simp) _
 have M1:Hid (MkAt (w3.alloc (.cells #[.int .i64 d,.int .i64 u] 151)) w3.heap.size d u):=heap_alloc_new w3 _
 have L1:Hid (RlAt ((w3.alloc (.cells #[.int .i64 d,.int .i64 u] 151)).alloc (.cells #[.func (Fn.func 129) #[.agg #[.int .i64 d,.int .i64 u]] #[],.func (Fn.func 130) #[.agg #[.int .i64 d,.int .i64 u]] #[]] 187)) (w3.heap.size+1) d u):=by
  have h:=heap_alloc_new (w3.alloc (.cells #[.int .i64 d,.int .i64 u] 151)) (.cells #[.func (Fn.func 129) #[.agg #[.int .i64 d,.int .i64 u]] #[],.func (Fn.func 130) #[.agg #[.int .i64 d,.int .i64 u]] #[]] 187)
  rw[show(w3.alloc (.cells #[.int .i64 d,.int .i64 u] 151)).heap.size=w3.heap.size+1 by simp]at h
  exact h
 obtain⟨k0,k1⟩:=M1.out.cells
 obtain⟨P1,P2,P3,P4⟩:=cy4 (OO.out.stays K1 OO.out.lt) (RR.out.stays K1 RR.out.lt) (qAr LL.out K1) (BB.out.trans (K1.mono BB.out.size))
 clear OO RR LL BB K1
 go_wp2_with fail
 generalize (w3.alloc (.cells #[.int .i64 d,.int .i64 u] 151)).alloc (.cells #[.func (Fn.func 129) #[.agg #[.int .i64 d,.int .i64 u]] #[],.func (Fn.func 130) #[.agg #[.int .i64 d,.int .i64 u]] #[]] 187)=W4 at *
 refine(follow_any d u c r q a b (.slice ao1 ws.length cap1) gO (w3.heap.size+1) W4 P1 L1).mono ?_
 rintro e w5 ⟨⟨xr,rfl⟩,ht5,hk5⟩
 have OO:Hid (TokAt w5 gO c r q (aruM q a b d u) (byM q a b d u) (.slice ao1 ws.length cap1)):=ht5
 have RR:Hid (TokAt w5 (w.heap.size+1) 0 0 0 0 0 (.slice none 0 0)):=(hk5.block _ P2.out.lt (by omega)).trans P2.out
 have LL:Hid (OwnI w5 w.heap.size (.slice ao1 ws.length cap1) ws):=own_keep P3.out P1.out hk5
 have BB:=Ag (P4.out.trans (hk5.below (by omega) P4.out.size))
 clear ht5 hk5 P1 P2 P3 P4 L1 M1 k0 k1
 obtain⟨A',hA'⟩: ∃A':Int,A'=aruM q a b d u:=⟨_,rfl⟩
 obtain⟨D',hD'⟩: ∃D':Int,D'=byM q a b d u:=⟨_,rfl⟩
 rw[←hA',←hD']at OO
 have HA':Hid (A'=aruM q a b d u):=hA'
 have HD':Hid (D'=byM q a b d u):=hD'
 clear hA' hD'
 obtain⟨x0,x1,x2,x3,x4,x5⟩:=OO.out.cells
 obtain⟨y0,y1,y2,y3,y4,y5⟩:=RR.out.cells
 have m0:=RR.out.frozen 0
 have m1:=RR.out.frozen 1
 have m2:=RR.out.frozen 2
 have m3:=RR.out.frozen 3
 have m4:=RR.out.frozen 4
 have m5:=RR.out.frozen 5
 go_wp2_with fail
 have R3:TokAt _ (w.heap.size+1) c r q A' D' (.slice ao1 ws.length cap1):=RR.out.agg c r q A' D' (.slice ao1 ws.length cap1)
 have T3:=((((((TurnAt.refl (w.heap.size+1) w5).setCell 0 (.int .i64 c)).setCell 1 (.int .i64 r)).setCell 2 (.int .i64 q)).setCell 3 (.int .i64 A')).setCell 4 (.int .i64 D')).setCell 5 (.slice ao1 ws.length cap1)
 have V3:=qAg LL.out RR.out T3
 have B3:=BB.out.trans (T3.below (by omega))
 clear T3
 generalize ((((((w5.setCell ⟨w.heap.size+1,0,none⟩ (.int .i64 c)).setCell ⟨w.heap.size+1,1,none⟩ (.int .i64 r)).setCell ⟨w.heap.size+1,2,none⟩ (.int .i64 q)).setCell ⟨w.heap.size+1,3,none⟩ (.int .i64 A')).setCell ⟨w.heap.size+1,4,none⟩ (.int .i64 D')).setCell ⟨w.heap.size+1,5,none⟩ (.slice ao1 ws.length cap1))=W3 at *
 obtain⟨q0,q1,q2,q3,q4,q5⟩:=R3.cells
 refine bodyPost_ret (v:=.agg #[.int .i64 c,.int .i64 r,.int .i64 q,.int .i64 A',.int .i64 D',.slice ao1 ws.length cap1]) (by simp[results,Tryz.results58,go_sem,q0,q1,q2,q3,q4,q5]) rfl ?_
 exact⟨_,by rw[←HA'.out,←HD'.out],V3,B3⟩
theorem spMark_0(c r q a b d u:Int)(u0:Value)(ws:List Int)(B0:Nat)(w:World)(h:Hid (OwnI w B0 u0 ws))(hl:ws.length≤1048576)(ht:Hid (tkB c r q a b ws=false)):
  Calls Tryz.prog 67 #[.agg #[.int .i64 c,.int .i64 r,.int .i64 q,.int .i64 a,.int .i64 b,u0],.int .i64 d,.int .i64 u] w fun e w'=>∃v,e=.returned (.agg #[.int .i64 c,.int .i64 r,.int .i64 q,.int .i64 a,.int .i64 b,v])∧OwnI w' w.heap.size v ws∧Below w.heap.size w w':=by
 obtain⟨HA,HR,HB,HU⟩:=enT w c r q a b u0 B0 ws h.out
 clear h
 go_enter Tryz.func67,Tryz.ntmps67
 go_wp2_with fail
 generalize ((w.alloc (.cells #[.int .i64 c,.int .i64 r,.int .i64 q,.int .i64 a,.int .i64 b,u0] 30)).alloc (.cells #[.int .i64 0,.int .i64 0,.int .i64 0,.int .i64 0,.int .i64 0,.slice none 0 0] 30))=W at *
 have hWs:w.heap.size≤W.heap.size:=HB.out.size
 have hWr:w.heap.size+1<W.heap.size:=HR.out.lt
 refine(qBr c r q a b u0 ws B0 W HU hl).mono ?_
 rintro e w1 ⟨v1,rfl,hv1,hb1⟩
 obtain⟨ao1,cap1,hf1⟩:=hv1.form
 subst hf1
 have O1:Hid (TokAt (w1.alloc (.cells #[.int .i64 c,.int .i64 r,.int .i64 q,.int .i64 a,.int .i64 b,.slice ao1 ws.length cap1] 30)) w1.heap.size c r q a b (.slice ao1 ws.length cap1)):=heap_alloc_new w1 _
 have E1:Below W.heap.size W (w1.alloc (.cells #[.int .i64 c,.int .i64 r,.int .i64 q,.int .i64 a,.int .i64 b,.slice ao1 ws.length cap1] 30)):=hb1.alloc hb1.size _
 obtain⟨A1,R1⟩:=cy2 (HA.out.stays E1 HA.out.lt) (HR.out.stays E1 HR.out.lt)
 have V1:Hid (OwnI (w1.alloc (.cells #[.int .i64 c,.int .i64 r,.int .i64 q,.int .i64 a,.int .i64 b,.slice ao1 ws.length cap1] 30)) w.heap.size (.slice ao1 ws.length cap1) ws):=(hv1.alloc _).down hWs
 obtain⟨B1,U1⟩:=cy2 (HB.out.trans (E1.mono hWs)) (HU.out.stays E1 (fun k hk=>(HU.out.lt k hk).2))
 have hgO:w.heap.size+1<w1.heap.size:=Nat.lt_of_lt_of_le hWr hb1.size
 obtain⟨s0,s1,s2,s3,s4,s5⟩:=A1.out.cells
 clear hv1 hb1 E1 HA HR HU HB hWs hWr
 go_wp2_with fail
 generalize w1.alloc (.cells #[.int .i64 c,.int .i64 r,.int .i64 q,.int .i64 a,.int .i64 b,.slice ao1 ws.length cap1] 30)=W1 at *
 generalize w1.heap.size=gO at *
 obtain⟨ao0,cap0,hu0,hx0⟩:=U1.out.ints
 have X1:Hid (IntsAt W1 ao0 ws):=hx0
 subst hu0
 refine(qAv c r q a b ao0 cap0 ws _ X1 hl).mono ?_
 rintro e w2 ⟨rfl,hb2⟩
 obtain⟨OO,RR,LL,BB⟩:=cy4 (O1.out.stays hb2 O1.out.lt) (R1.out.stays hb2 R1.out.lt) (qAr V1.out hb2) (B1.out.trans (hb2.mono B1.out.size))
 clear hb2 O1 R1 V1 B1 A1 U1 X1 hx0 s0 s1 s2 s3 s4 s5
 rw[ht.out]
 clear ht
 obtain⟨x0,x1,x2,x3,x4,x5⟩:=OO.out.cells
 obtain⟨y0,y1,y2,y3,y4,y5⟩:=RR.out.cells
 have m0:=RR.out.frozen 0
 have m1:=RR.out.frozen 1
 have m2:=RR.out.frozen 2
 have m3:=RR.out.frozen 3
 have m4:=RR.out.frozen 4
 have m5:=RR.out.frozen 5
 go_wp2_with fail
 have R3:TokAt _ (w.heap.size+1) c r q a b (.slice ao1 ws.length cap1):=RR.out.agg c r q a b (.slice ao1 ws.length cap1)
 have T3:=((((((TurnAt.refl (w.heap.size+1) w2).setCell 0 (.int .i64 c)).setCell 1 (.int .i64 r)).setCell 2 (.int .i64 q)).setCell 3 (.int .i64 a)).setCell 4 (.int .i64 b)).setCell 5 (.slice ao1 ws.length cap1)
 have V3:=qAg LL.out RR.out T3
 have B3:=BB.out.trans (T3.below (by omega))
 clear T3
 generalize ((((((w2.setCell ⟨w.heap.size+1,0,none⟩ (.int .i64 c)).setCell ⟨w.heap.size+1,1,none⟩ (.int .i64 r)).setCell ⟨w.heap.size+1,2,none⟩ (.int .i64 q)).setCell ⟨w.heap.size+1,3,none⟩ (.int .i64 a)).setCell ⟨w.heap.size+1,4,none⟩ (.int .i64 b)).setCell ⟨w.heap.size+1,5,none⟩ (.slice ao1 ws.length cap1))=W3 at *
 obtain⟨q0,q1,q2,q3,q4,q5⟩:=R3.cells
 refine bodyPost_ret (v:=.agg #[.int .i64 c,.int .i64 r,.int .i64 q,.int .i64 a,.int .i64 b,.slice ao1 ws.length cap1]) (by simp[results,Tryz.results67,go_sem,q0,q1,q2,q3,q4,q5]) rfl ?_
 exact⟨_,rfl,V3,B3⟩
theorem spMark_1(c r q a b d u:Int)(u0:Value)(ws:List Int)(B0:Nat)(w:World)(h:Hid (OwnI w B0 u0 ws))(hl:ws.length≤1048576)(ht:Hid (tkB c r q a b ws=true))(hd:decide (1≤d∧d≤5)=false):
  Calls Tryz.prog 67 #[.agg #[.int .i64 c,.int .i64 r,.int .i64 q,.int .i64 a,.int .i64 b,u0],.int .i64 d,.int .i64 u] w fun e w'=>∃v,e=.returned (.agg #[.int .i64 c,.int .i64 r,.int .i64 q,.int .i64 a,.int .i64 b,v])∧OwnI w' w.heap.size v ws∧Below w.heap.size w w':=by
 obtain⟨HA,HR,HB,HU⟩:=enT w c r q a b u0 B0 ws h.out
 clear h
 go_enter Tryz.func67,Tryz.ntmps67
 go_wp2_with fail
 generalize ((w.alloc (.cells #[.int .i64 c,.int .i64 r,.int .i64 q,.int .i64 a,.int .i64 b,u0] 30)).alloc (.cells #[.int .i64 0,.int .i64 0,.int .i64 0,.int .i64 0,.int .i64 0,.slice none 0 0] 30))=W at *
 have hWs:w.heap.size≤W.heap.size:=HB.out.size
 have hWr:w.heap.size+1<W.heap.size:=HR.out.lt
 refine(qBr c r q a b u0 ws B0 W HU hl).mono ?_
 rintro e w1 ⟨v1,rfl,hv1,hb1⟩
 obtain⟨ao1,cap1,hf1⟩:=hv1.form
 subst hf1
 have O1:Hid (TokAt (w1.alloc (.cells #[.int .i64 c,.int .i64 r,.int .i64 q,.int .i64 a,.int .i64 b,.slice ao1 ws.length cap1] 30)) w1.heap.size c r q a b (.slice ao1 ws.length cap1)):=heap_alloc_new w1 _
 have E1:Below W.heap.size W (w1.alloc (.cells #[.int .i64 c,.int .i64 r,.int .i64 q,.int .i64 a,.int .i64 b,.slice ao1 ws.length cap1] 30)):=hb1.alloc hb1.size _
 obtain⟨A1,R1⟩:=cy2 (HA.out.stays E1 HA.out.lt) (HR.out.stays E1 HR.out.lt)
 have V1:Hid (OwnI (w1.alloc (.cells #[.int .i64 c,.int .i64 r,.int .i64 q,.int .i64 a,.int .i64 b,.slice ao1 ws.length cap1] 30)) w.heap.size (.slice ao1 ws.length cap1) ws):=(hv1.alloc _).down hWs
 obtain⟨B1,U1⟩:=cy2 (HB.out.trans (E1.mono hWs)) (HU.out.stays E1 (fun k hk=>(HU.out.lt k hk).2))
 have hgO:w.heap.size+1<w1.heap.size:=Nat.lt_of_lt_of_le hWr hb1.size
 obtain⟨s0,s1,s2,s3,s4,s5⟩:=A1.out.cells
 clear hv1 hb1 E1 HA HR HU HB hWs hWr
 go_wp2_with fail
 generalize w1.alloc (.cells #[.int .i64 c,.int .i64 r,.int .i64 q,.int .i64 a,.int .i64 b,.slice ao1 ws.length cap1] 30)=W1 at *
 generalize w1.heap.size=gO at *
 obtain⟨ao0,cap0,hu0,hx0⟩:=U1.out.ints
 have X1:Hid (IntsAt W1 ao0 ws):=hx0
 subst hu0
 refine(qAv c r q a b ao0 cap0 ws _ X1 hl).mono ?_
 rintro e w2 ⟨rfl,hb2⟩
 obtain⟨OO,RR,LL,BB⟩:=cy4 (O1.out.stays hb2 O1.out.lt) (R1.out.stays hb2 R1.out.lt) (qAr V1.out hb2) (B1.out.trans (hb2.mono B1.out.size))
 clear hb2 O1 R1 V1 B1 A1 U1 X1 hx0 s0 s1 s2 s3 s4 s5
 rw[ht.out]
 clear ht
 go_wp2_with fail
 refine(qBb _ hd).mono ?_
 rintro e w3 ⟨rfl,rfl⟩
 obtain⟨x0,x1,x2,x3,x4,x5⟩:=OO.out.cells
 obtain⟨y0,y1,y2,y3,y4,y5⟩:=RR.out.cells
 have m0:=RR.out.frozen 0
 have m1:=RR.out.frozen 1
 have m2:=RR.out.frozen 2
 have m3:=RR.out.frozen 3
 have m4:=RR.out.frozen 4
 have m5:=RR.out.frozen 5
 go_wp2_with fail
 have R3:TokAt _ (w.heap.size+1) c r q a b (.slice ao1 ws.length cap1):=RR.out.agg c r q a b (.slice ao1 ws.length cap1)
 have T3:=((((((TurnAt.refl (w.heap.size+1) w3).setCell 0 (.int .i64 c)).setCell 1 (.int .i64 r)).setCell 2 (.int .i64 q)).setCell 3 (.int .i64 a)).setCell 4 (.int .i64 b)).setCell 5 (.slice ao1 ws.length cap1)
 have V3:=qAg LL.out RR.out T3
 have B3:=BB.out.trans (T3.below (by omega))
 clear T3
 generalize ((((((w3.setCell ⟨w.heap.size+1,0,none⟩ (.int .i64 c)).setCell ⟨w.heap.size+1,1,none⟩ (.int .i64 r)).setCell ⟨w.heap.size+1,2,none⟩ (.int .i64 q)).setCell ⟨w.heap.size+1,3,none⟩ (.int .i64 a)).setCell ⟨w.heap.size+1,4,none⟩ (.int .i64 b)).setCell ⟨w.heap.size+1,5,none⟩ (.slice ao1 ws.length cap1))=W3 at *
 obtain⟨q0,q1,q2,q3,q4,q5⟩:=R3.cells
 refine bodyPost_ret (v:=.agg #[.int .i64 c,.int .i64 r,.int .i64 q,.int .i64 a,.int .i64 b,.slice ao1 ws.length cap1]) (by simp[results,Tryz.results67,go_sem,q0,q1,q2,q3,q4,q5]) rfl ?_
 exact⟨_,rfl,V3,B3⟩
theorem spMark_2(c r q a b d u:Int)(u0:Value)(ws:List Int)(B0:Nat)(w:World)(h:Hid (OwnI w B0 u0 ws))(hl:ws.length≤1048576)(ht:Hid (tkB c r q a b ws=true))(hd:decide (1≤d∧d≤5)=true)(hu:u<0):
  Calls Tryz.prog 67 #[.agg #[.int .i64 c,.int .i64 r,.int .i64 q,.int .i64 a,.int .i64 b,u0],.int .i64 d,.int .i64 u] w fun e w'=>∃v,e=.returned (.agg #[.int .i64 c,.int .i64 r,.int .i64 q,.int .i64 a,.int .i64 b,v])∧OwnI w' w.heap.size v ws∧Below w.heap.size w w':=by
 obtain⟨HA,HR,HB,HU⟩:=enT w c r q a b u0 B0 ws h.out
 clear h
 go_enter Tryz.func67,Tryz.ntmps67
 go_wp2_with fail
 generalize ((w.alloc (.cells #[.int .i64 c,.int .i64 r,.int .i64 q,.int .i64 a,.int .i64 b,u0] 30)).alloc (.cells #[.int .i64 0,.int .i64 0,.int .i64 0,.int .i64 0,.int .i64 0,.slice none 0 0] 30))=W at *
 have hWs:w.heap.size≤W.heap.size:=HB.out.size
 have hWr:w.heap.size+1<W.heap.size:=HR.out.lt
 refine(qBr c r q a b u0 ws B0 W HU hl).mono ?_
 rintro e w1 ⟨v1,rfl,hv1,hb1⟩
 obtain⟨ao1,cap1,hf1⟩:=hv1.form
 subst hf1
 have O1:Hid (TokAt (w1.alloc (.cells #[.int .i64 c,.int .i64 r,.int .i64 q,.int .i64 a,.int .i64 b,.slice ao1 ws.length cap1] 30)) w1.heap.size c r q a b (.slice ao1 ws.length cap1)):=heap_alloc_new w1 _
 have E1:Below W.heap.size W (w1.alloc (.cells #[.int .i64 c,.int .i64 r,.int .i64 q,.int .i64 a,.int .i64 b,.slice ao1 ws.length cap1] 30)):=hb1.alloc hb1.size _
 obtain⟨A1,R1⟩:=cy2 (HA.out.stays E1 HA.out.lt) (HR.out.stays E1 HR.out.lt)
 have V1:Hid (OwnI (w1.alloc (.cells #[.int .i64 c,.int .i64 r,.int .i64 q,.int .i64 a,.int .i64 b,.slice ao1 ws.length cap1] 30)) w.heap.size (.slice ao1 ws.length cap1) ws):=(hv1.alloc _).down hWs
 obtain⟨B1,U1⟩:=cy2 (HB.out.trans (E1.mono hWs)) (HU.out.stays E1 (fun k hk=>(HU.out.lt k hk).2))
 have hgO:w.heap.size+1<w1.heap.size:=Nat.lt_of_lt_of_le hWr hb1.size
 obtain⟨s0,s1,s2,s3,s4,s5⟩:=A1.out.cells
 clear hv1 hb1 E1 HA HR HU HB hWs hWr
 go_wp2_with fail
 generalize w1.alloc (.cells #[.int .i64 c,.int .i64 r,.int .i64 q,.int .i64 a,.int .i64 b,.slice ao1 ws.length cap1] 30)=W1 at *
 generalize w1.heap.size=gO at *
 obtain⟨ao0,cap0,hu0,hx0⟩:=U1.out.ints
 have X1:Hid (IntsAt W1 ao0 ws):=hx0
 subst hu0
 refine(qAv c r q a b ao0 cap0 ws _ X1 hl).mono ?_
 rintro e w2 ⟨rfl,hb2⟩
 obtain⟨OO,RR,LL,BB⟩:=cy4 (O1.out.stays hb2 O1.out.lt) (R1.out.stays hb2 R1.out.lt) (qAr V1.out hb2) (B1.out.trans (hb2.mono B1.out.size))
 clear hb2 O1 R1 V1 B1 A1 U1 X1 hx0 s0 s1 s2 s3 s4 s5
 rw[ht.out]
 clear ht
 go_wp2_with fail
 refine(qBb _ hd).mono ?_
 rintro e w3 ⟨rfl,rfl⟩
 obtain⟨x0,x1,x2,x3,x4,x5⟩:=OO.out.cells
 obtain⟨y0,y1,y2,y3,y4,y5⟩:=RR.out.cells
 have m0:=RR.out.frozen 0
 have m1:=RR.out.frozen 1
 have m2:=RR.out.frozen 2
 have m3:=RR.out.frozen 3
 have m4:=RR.out.frozen 4
 have m5:=RR.out.frozen 5
 go_wp2_with fail
 have R3:TokAt _ (w.heap.size+1) c r q a b (.slice ao1 ws.length cap1):=RR.out.agg c r q a b (.slice ao1 ws.length cap1)
 have T3:=((((((TurnAt.refl (w.heap.size+1) w3).setCell 0 (.int .i64 c)).setCell 1 (.int .i64 r)).setCell 2 (.int .i64 q)).setCell 3 (.int .i64 a)).setCell 4 (.int .i64 b)).setCell 5 (.slice ao1 ws.length cap1)
 have V3:=qAg LL.out RR.out T3
 have B3:=BB.out.trans (T3.below (by omega))
 clear T3
 generalize ((((((w3.setCell ⟨w.heap.size+1,0,none⟩ (.int .i64 c)).setCell ⟨w.heap.size+1,1,none⟩ (.int .i64 r)).setCell ⟨w.heap.size+1,2,none⟩ (.int .i64 q)).setCell ⟨w.heap.size+1,3,none⟩ (.int .i64 a)).setCell ⟨w.heap.size+1,4,none⟩ (.int .i64 b)).setCell ⟨w.heap.size+1,5,none⟩ (.slice ao1 ws.length cap1))=W3 at *
 obtain⟨q0,q1,q2,q3,q4,q5⟩:=R3.cells
 refine bodyPost_ret (v:=.agg #[.int .i64 c,.int .i64 r,.int .i64 q,.int .i64 a,.int .i64 b,.slice ao1 ws.length cap1]) (by simp[results,Tryz.results67,go_sem,q0,q1,q2,q3,q4,q5]) rfl ?_
 exact⟨_,rfl,V3,B3⟩
theorem spMark_3(c r q a b d u:Int)(u0:Value)(ws:List Int)(B0:Nat)(w:World)(h:Hid (OwnI w B0 u0 ws))(hl:ws.length≤1048576)(ht:Hid (tkB c r q a b ws=true))(hd:decide (1≤d∧d≤5)=true)(hu: ¬u<0)(h1:u<a):
  Calls Tryz.prog 67 #[.agg #[.int .i64 c,.int .i64 r,.int .i64 q,.int .i64 a,.int .i64 b,u0],.int .i64 d,.int .i64 u] w fun e w'=>∃v,e=.returned (.agg #[.int .i64 c,.int .i64 r,.int .i64 q,.int .i64 u,.int .i64 d,v])∧OwnI w' w.heap.size v ws∧Below w.heap.size w w':=by
 obtain⟨HA,HR,HB,HU⟩:=enT w c r q a b u0 B0 ws h.out
 clear h
 go_enter Tryz.func67,Tryz.ntmps67
 go_wp2_with fail
 generalize ((w.alloc (.cells #[.int .i64 c,.int .i64 r,.int .i64 q,.int .i64 a,.int .i64 b,u0] 30)).alloc (.cells #[.int .i64 0,.int .i64 0,.int .i64 0,.int .i64 0,.int .i64 0,.slice none 0 0] 30))=W at *
 have hWs:w.heap.size≤W.heap.size:=HB.out.size
 have hWr:w.heap.size+1<W.heap.size:=HR.out.lt
 refine(qBr c r q a b u0 ws B0 W HU hl).mono ?_
 rintro e w1 ⟨v1,rfl,hv1,hb1⟩
 obtain⟨ao1,cap1,hf1⟩:=hv1.form
 subst hf1
 have O1:Hid (TokAt (w1.alloc (.cells #[.int .i64 c,.int .i64 r,.int .i64 q,.int .i64 a,.int .i64 b,.slice ao1 ws.length cap1] 30)) w1.heap.size c r q a b (.slice ao1 ws.length cap1)):=heap_alloc_new w1 _
 have E1:Below W.heap.size W (w1.alloc (.cells #[.int .i64 c,.int .i64 r,.int .i64 q,.int .i64 a,.int .i64 b,.slice ao1 ws.length cap1] 30)):=hb1.alloc hb1.size _
 obtain⟨A1,R1⟩:=cy2 (HA.out.stays E1 HA.out.lt) (HR.out.stays E1 HR.out.lt)
 have V1:Hid (OwnI (w1.alloc (.cells #[.int .i64 c,.int .i64 r,.int .i64 q,.int .i64 a,.int .i64 b,.slice ao1 ws.length cap1] 30)) w.heap.size (.slice ao1 ws.length cap1) ws):=(hv1.alloc _).down hWs
 obtain⟨B1,U1⟩:=cy2 (HB.out.trans (E1.mono hWs)) (HU.out.stays E1 (fun k hk=>(HU.out.lt k hk).2))
 have hgO:w.heap.size+1<w1.heap.size:=Nat.lt_of_lt_of_le hWr hb1.size
 obtain⟨s0,s1,s2,s3,s4,s5⟩:=A1.out.cells
 clear hv1 hb1 E1 HA HR HU HB hWs hWr
 go_wp2_with fail
 generalize w1.alloc (.cells #[.int .i64 c,.int .i64 r,.int .i64 q,.int .i64 a,.int .i64 b,.slice ao1 ws.length cap1] 30)=W1 at *
 generalize w1.heap.size=gO at *
 obtain⟨ao0,cap0,hu0,hx0⟩:=U1.out.ints
 have X1:Hid (IntsAt W1 ao0 ws):=hx0
 subst hu0
 refine(qAv c r q a b ao0 cap0 ws _ X1 hl).mono ?_
 rintro e w2 ⟨rfl,hb2⟩
 obtain⟨OO,RR,LL,BB⟩:=cy4 (O1.out.stays hb2 O1.out.lt) (R1.out.stays hb2 R1.out.lt) (qAr V1.out hb2) (B1.out.trans (hb2.mono B1.out.size))
 clear hb2 O1 R1 V1 B1 A1 U1 X1 hx0 s0 s1 s2 s3 s4 s5
 rw[ht.out]
 clear ht
 go_wp2_with fail
 refine(qBb _ hd).mono ?_
 rintro e w3 ⟨rfl,rfl⟩
 obtain⟨x0,x1,x2,x3,x4,x5⟩:=OO.out.cells
 have n3:=OO.out.frozen 3
 have n4:=OO.out.frozen 4
 have O1:Hid (TokAt (w3.setCell ⟨gO,3,none⟩ (.int .i64 u)) gO c r q u b (.slice ao1 ws.length cap1)):=OO.out.set3 u
 have RR1:Hid (TokAt (w3.setCell ⟨gO,3,none⟩ (.int .i64 u)) (w.heap.size+1) 0 0 0 0 0 (.slice none 0 0)):=RR.out.turn ((TurnAt.refl gO w3).setCell 3 _) (by omega)
 have LL1:Hid (OwnI (w3.setCell ⟨gO,3,none⟩ (.int .i64 u)) w.heap.size (.slice ao1 ws.length cap1) ws):=qAg LL.out OO.out ((TurnAt.refl gO w3).setCell 3 _)
 have BB1:Hid (Below w.heap.size w (w3.setCell ⟨gO,3,none⟩ (.int .i64 u))):=BB.out.trans (((TurnAt.refl gO w3).setCell 3 _).below (by omega))
 obtain⟨x10,x11,x12,x13,x14,x15⟩:=O1.out.cells
 have n13:=O1.out.frozen 3
 have n14:=O1.out.frozen 4
 have O2:Hid (TokAt ((w3.setCell ⟨gO,3,none⟩ (.int .i64 u)).setCell ⟨gO,4,none⟩ (.int .i64 d)) gO c r q u d (.slice ao1 ws.length cap1)):=O1.out.set4 d
 have RR2:Hid (TokAt ((w3.setCell ⟨gO,3,none⟩ (.int .i64 u)).setCell ⟨gO,4,none⟩ (.int .i64 d)) (w.heap.size+1) 0 0 0 0 0 (.slice none 0 0)):=RR1.out.turn ((TurnAt.refl gO (w3.setCell ⟨gO,3,none⟩ (.int .i64 u))).setCell 4 _) (by omega)
 have LL2:Hid (OwnI ((w3.setCell ⟨gO,3,none⟩ (.int .i64 u)).setCell ⟨gO,4,none⟩ (.int .i64 d)) w.heap.size (.slice ao1 ws.length cap1) ws):=qAg LL1.out O1.out ((TurnAt.refl gO (w3.setCell ⟨gO,3,none⟩ (.int .i64 u))).setCell 4 _)
 have BB2:Hid (Below w.heap.size w ((w3.setCell ⟨gO,3,none⟩ (.int .i64 u)).setCell ⟨gO,4,none⟩ (.int .i64 d))):=BB1.out.trans (((TurnAt.refl gO (w3.setCell ⟨gO,3,none⟩ (.int .i64 u))).setCell 4 _).below (by omega))
 obtain⟨x20,x21,x22,x23,x24,x25⟩:=O2.out.cells
 have n23:=O2.out.frozen 3
 have n24:=O2.out.frozen 4
 obtain⟨y0,y1,y2,y3,y4,y5⟩:=RR2.out.cells
 have m0:=RR2.out.frozen 0
 have m1:=RR2.out.frozen 1
 have m2:=RR2.out.frozen 2
 have m3:=RR2.out.frozen 3
 have m4:=RR2.out.frozen 4
 have m5:=RR2.out.frozen 5
 go_wp2_with fail
 have R3:TokAt _ (w.heap.size+1) c r q u d (.slice ao1 ws.length cap1):=RR2.out.agg c r q u d (.slice ao1 ws.length cap1)
 have T3:=((((((TurnAt.refl (w.heap.size+1) ((w3.setCell ⟨gO,3,none⟩ (.int .i64 u)).setCell ⟨gO,4,none⟩ (.int .i64 d))).setCell 0 (.int .i64 c)).setCell 1 (.int .i64 r)).setCell 2 (.int .i64 q)).setCell 3 (.int .i64 u)).setCell 4 (.int .i64 d)).setCell 5 (.slice ao1 ws.length cap1)
 have V3:=qAg LL2.out RR2.out T3
 have B3:=BB2.out.trans (T3.below (by omega))
 clear T3
 generalize ((((((((w3.setCell ⟨gO,3,none⟩ (.int .i64 u)).setCell ⟨gO,4,none⟩ (.int .i64 d)).setCell ⟨w.heap.size+1,0,none⟩ (.int .i64 c)).setCell ⟨w.heap.size+1,1,none⟩ (.int .i64 r)).setCell ⟨w.heap.size+1,2,none⟩ (.int .i64 q)).setCell ⟨w.heap.size+1,3,none⟩ (.int .i64 u)).setCell ⟨w.heap.size+1,4,none⟩ (.int .i64 d)).setCell ⟨w.heap.size+1,5,none⟩ (.slice ao1 ws.length cap1))=W3 at *
 obtain⟨q0,q1,q2,q3,q4,q5⟩:=R3.cells
 refine bodyPost_ret (v:=.agg #[.int .i64 c,.int .i64 r,.int .i64 q,.int .i64 u,.int .i64 d,.slice ao1 ws.length cap1]) (by simp[results,Tryz.results67,go_sem,q0,q1,q2,q3,q4,q5]) rfl ?_
 exact⟨_,rfl,V3,B3⟩
theorem spMark_4(c r q a b d u:Int)(u0:Value)(ws:List Int)(B0:Nat)(w:World)(h:Hid (OwnI w B0 u0 ws))(hl:ws.length≤1048576)(ht:Hid (tkB c r q a b ws=true))(hd:decide (1≤d∧d≤5)=true)(hu: ¬u<0)(h1: ¬u<a)(h2:b=d)(h3:q<u):
  Calls Tryz.prog 67 #[.agg #[.int .i64 c,.int .i64 r,.int .i64 q,.int .i64 a,.int .i64 b,u0],.int .i64 d,.int .i64 u] w fun e w'=>∃v,e=.returned (.agg #[.int .i64 c,.int .i64 r,.int .i64 q,.int .i64 q,.int .i64 0,v])∧OwnI w' w.heap.size v ws∧Below w.heap.size w w':=by
 subst h2
 obtain⟨HA,HR,HB,HU⟩:=enT w c r q a b u0 B0 ws h.out
 clear h
 go_enter Tryz.func67,Tryz.ntmps67
 go_wp2_with fail
 generalize ((w.alloc (.cells #[.int .i64 c,.int .i64 r,.int .i64 q,.int .i64 a,.int .i64 b,u0] 30)).alloc (.cells #[.int .i64 0,.int .i64 0,.int .i64 0,.int .i64 0,.int .i64 0,.slice none 0 0] 30))=W at *
 have hWs:w.heap.size≤W.heap.size:=HB.out.size
 have hWr:w.heap.size+1<W.heap.size:=HR.out.lt
 refine(qBr c r q a b u0 ws B0 W HU hl).mono ?_
 rintro e w1 ⟨v1,rfl,hv1,hb1⟩
 obtain⟨ao1,cap1,hf1⟩:=hv1.form
 subst hf1
 have O1:Hid (TokAt (w1.alloc (.cells #[.int .i64 c,.int .i64 r,.int .i64 q,.int .i64 a,.int .i64 b,.slice ao1 ws.length cap1] 30)) w1.heap.size c r q a b (.slice ao1 ws.length cap1)):=heap_alloc_new w1 _
 have E1:Below W.heap.size W (w1.alloc (.cells #[.int .i64 c,.int .i64 r,.int .i64 q,.int .i64 a,.int .i64 b,.slice ao1 ws.length cap1] 30)):=hb1.alloc hb1.size _
 obtain⟨A1,R1⟩:=cy2 (HA.out.stays E1 HA.out.lt) (HR.out.stays E1 HR.out.lt)
 have V1:Hid (OwnI (w1.alloc (.cells #[.int .i64 c,.int .i64 r,.int .i64 q,.int .i64 a,.int .i64 b,.slice ao1 ws.length cap1] 30)) w.heap.size (.slice ao1 ws.length cap1) ws):=(hv1.alloc _).down hWs
 obtain⟨B1,U1⟩:=cy2 (HB.out.trans (E1.mono hWs)) (HU.out.stays E1 (fun k hk=>(HU.out.lt k hk).2))
 have hgO:w.heap.size+1<w1.heap.size:=Nat.lt_of_lt_of_le hWr hb1.size
 obtain⟨s0,s1,s2,s3,s4,s5⟩:=A1.out.cells
 clear hv1 hb1 E1 HA HR HU HB hWs hWr
 go_wp2_with fail
 generalize w1.alloc (.cells #[.int .i64 c,.int .i64 r,.int .i64 q,.int .i64 a,.int .i64 b,.slice ao1 ws.length cap1] 30)=W1 at *
 generalize w1.heap.size=gO at *
 obtain⟨ao0,cap0,hu0,hx0⟩:=U1.out.ints
 have X1:Hid (IntsAt W1 ao0 ws):=hx0
 subst hu0
 refine(qAv c r q a b ao0 cap0 ws _ X1 hl).mono ?_
 rintro e w2 ⟨rfl,hb2⟩
 obtain⟨OO,RR,LL,BB⟩:=cy4 (O1.out.stays hb2 O1.out.lt) (R1.out.stays hb2 R1.out.lt) (qAr V1.out hb2) (B1.out.trans (hb2.mono B1.out.size))
 clear hb2 O1 R1 V1 B1 A1 U1 X1 hx0 s0 s1 s2 s3 s4 s5
 rw[ht.out]
 clear ht
 go_wp2_with fail
 refine(qBb _ hd).mono ?_
 rintro e w3 ⟨rfl,rfl⟩
 obtain⟨x0,x1,x2,x3,x4,x5⟩:=OO.out.cells
 have n3:=OO.out.frozen 3
 have n4:=OO.out.frozen 4
 have O1:Hid (TokAt (w3.setCell ⟨gO,3,none⟩ (.int .i64 u)) gO c r q u b (.slice ao1 ws.length cap1)):=OO.out.set3 u
 have RR1:Hid (TokAt (w3.setCell ⟨gO,3,none⟩ (.int .i64 u)) (w.heap.size+1) 0 0 0 0 0 (.slice none 0 0)):=RR.out.turn ((TurnAt.refl gO w3).setCell 3 _) (by omega)
 have LL1:Hid (OwnI (w3.setCell ⟨gO,3,none⟩ (.int .i64 u)) w.heap.size (.slice ao1 ws.length cap1) ws):=qAg LL.out OO.out ((TurnAt.refl gO w3).setCell 3 _)
 have BB1:Hid (Below w.heap.size w (w3.setCell ⟨gO,3,none⟩ (.int .i64 u))):=BB.out.trans (((TurnAt.refl gO w3).setCell 3 _).below (by omega))
 obtain⟨x10,x11,x12,x13,x14,x15⟩:=O1.out.cells
 have n13:=O1.out.frozen 3
 have n14:=O1.out.frozen 4
 have O2:Hid (TokAt ((w3.setCell ⟨gO,3,none⟩ (.int .i64 u)).setCell ⟨gO,3,none⟩ (.int .i64 q)) gO c r q q b (.slice ao1 ws.length cap1)):=O1.out.set3 q
 have RR2:Hid (TokAt ((w3.setCell ⟨gO,3,none⟩ (.int .i64 u)).setCell ⟨gO,3,none⟩ (.int .i64 q)) (w.heap.size+1) 0 0 0 0 0 (.slice none 0 0)):=RR1.out.turn ((TurnAt.refl gO (w3.setCell ⟨gO,3,none⟩ (.int .i64 u))).setCell 3 _) (by omega)
 have LL2:Hid (OwnI ((w3.setCell ⟨gO,3,none⟩ (.int .i64 u)).setCell ⟨gO,3,none⟩ (.int .i64 q)) w.heap.size (.slice ao1 ws.length cap1) ws):=qAg LL1.out O1.out ((TurnAt.refl gO (w3.setCell ⟨gO,3,none⟩ (.int .i64 u))).setCell 3 _)
 have BB2:Hid (Below w.heap.size w ((w3.setCell ⟨gO,3,none⟩ (.int .i64 u)).setCell ⟨gO,3,none⟩ (.int .i64 q))):=BB1.out.trans (((TurnAt.refl gO (w3.setCell ⟨gO,3,none⟩ (.int .i64 u))).setCell 3 _).below (by omega))
 obtain⟨x20,x21,x22,x23,x24,x25⟩:=O2.out.cells
 have n23:=O2.out.frozen 3
 have n24:=O2.out.frozen 4
 have O3:Hid (TokAt (((w3.setCell ⟨gO,3,none⟩ (.int .i64 u)).setCell ⟨gO,3,none⟩ (.int .i64 q)).setCell ⟨gO,4,none⟩ (.int .i64 0)) gO c r q q 0 (.slice ao1 ws.length cap1)):=O2.out.set4 0
 have RR3:Hid (TokAt (((w3.setCell ⟨gO,3,none⟩ (.int .i64 u)).setCell ⟨gO,3,none⟩ (.int .i64 q)).setCell ⟨gO,4,none⟩ (.int .i64 0)) (w.heap.size+1) 0 0 0 0 0 (.slice none 0 0)):=RR2.out.turn ((TurnAt.refl gO ((w3.setCell ⟨gO,3,none⟩ (.int .i64 u)).setCell ⟨gO,3,none⟩ (.int .i64 q))).setCell 4 _) (by omega)
 have LL3:Hid (OwnI (((w3.setCell ⟨gO,3,none⟩ (.int .i64 u)).setCell ⟨gO,3,none⟩ (.int .i64 q)).setCell ⟨gO,4,none⟩ (.int .i64 0)) w.heap.size (.slice ao1 ws.length cap1) ws):=qAg LL2.out O2.out ((TurnAt.refl gO ((w3.setCell ⟨gO,3,none⟩ (.int .i64 u)).setCell ⟨gO,3,none⟩ (.int .i64 q))).setCell 4 _)
 have BB3:Hid (Below w.heap.size w (((w3.setCell ⟨gO,3,none⟩ (.int .i64 u)).setCell ⟨gO,3,none⟩ (.int .i64 q)).setCell ⟨gO,4,none⟩ (.int .i64 0))):=BB2.out.trans (((TurnAt.refl gO ((w3.setCell ⟨gO,3,none⟩ (.int .i64 u)).setCell ⟨gO,3,none⟩ (.int .i64 q))).setCell 4 _).below (by omega))
 obtain⟨x30,x31,x32,x33,x34,x35⟩:=O3.out.cells
 have n33:=O3.out.frozen 3
 have n34:=O3.out.frozen 4
 obtain⟨y0,y1,y2,y3,y4,y5⟩:=RR3.out.cells
 have m0:=RR3.out.frozen 0
 have m1:=RR3.out.frozen 1
 have m2:=RR3.out.frozen 2
 have m3:=RR3.out.frozen 3
 have m4:=RR3.out.frozen 4
 have m5:=RR3.out.frozen 5
 go_wp2_with fail
 have R3:TokAt _ (w.heap.size+1) c r q q 0 (.slice ao1 ws.length cap1):=RR3.out.agg c r q q 0 (.slice ao1 ws.length cap1)
 have T3:=((((((TurnAt.refl (w.heap.size+1) (((w3.setCell ⟨gO,3,none⟩ (.int .i64 u)).setCell ⟨gO,3,none⟩ (.int .i64 q)).setCell ⟨gO,4,none⟩ (.int .i64 0))).setCell 0 (.int .i64 c)).setCell 1 (.int .i64 r)).setCell 2 (.int .i64 q)).setCell 3 (.int .i64 q)).setCell 4 (.int .i64 0)).setCell 5 (.slice ao1 ws.length cap1)
 have V3:=qAg LL3.out RR3.out T3
 have B3:=BB3.out.trans (T3.below (by omega))
 clear T3
 generalize (((((((((w3.setCell ⟨gO,3,none⟩ (.int .i64 u)).setCell ⟨gO,3,none⟩ (.int .i64 q)).setCell ⟨gO,4,none⟩ (.int .i64 0)).setCell ⟨w.heap.size+1,0,none⟩ (.int .i64 c)).setCell ⟨w.heap.size+1,1,none⟩ (.int .i64 r)).setCell ⟨w.heap.size+1,2,none⟩ (.int .i64 q)).setCell ⟨w.heap.size+1,3,none⟩ (.int .i64 q)).setCell ⟨w.heap.size+1,4,none⟩ (.int .i64 0)).setCell ⟨w.heap.size+1,5,none⟩ (.slice ao1 ws.length cap1))=W3 at *
 obtain⟨q0,q1,q2,q3,q4,q5⟩:=R3.cells
 refine bodyPost_ret (v:=.agg #[.int .i64 c,.int .i64 r,.int .i64 q,.int .i64 q,.int .i64 0,.slice ao1 ws.length cap1]) (by simp[results,Tryz.results67,go_sem,q0,q1,q2,q3,q4,q5]) rfl ?_
 exact⟨_,rfl,V3,B3⟩
theorem spMark_5(c r q a b d u:Int)(u0:Value)(ws:List Int)(B0:Nat)(w:World)(h:Hid (OwnI w B0 u0 ws))(hl:ws.length≤1048576)(ht:Hid (tkB c r q a b ws=true))(hd:decide (1≤d∧d≤5)=true)(hu: ¬u<0)(h1: ¬u<a)(h2:b=d)(h3:u=q):
  Calls Tryz.prog 67 #[.agg #[.int .i64 c,.int .i64 r,.int .i64 q,.int .i64 a,.int .i64 b,u0],.int .i64 d,.int .i64 u] w fun e w'=>∃v,e=.returned (.agg #[.int .i64 c,.int .i64 r,.int .i64 q,.int .i64 u,.int .i64 0,v])∧OwnI w' w.heap.size v ws∧Below w.heap.size w w':=by
 subst h2
 subst h3
 obtain⟨HA,HR,HB,HU⟩:=enT w c r u a b u0 B0 ws h.out
 clear h
 go_enter Tryz.func67,Tryz.ntmps67
 go_wp2_with fail
 generalize ((w.alloc (.cells #[.int .i64 c,.int .i64 r,.int .i64 u,.int .i64 a,.int .i64 b,u0] 30)).alloc (.cells #[.int .i64 0,.int .i64 0,.int .i64 0,.int .i64 0,.int .i64 0,.slice none 0 0] 30))=W at *
 have hWs:w.heap.size≤W.heap.size:=HB.out.size
 have hWr:w.heap.size+1<W.heap.size:=HR.out.lt
 refine(qBr c r u a b u0 ws B0 W HU hl).mono ?_
 rintro e w1 ⟨v1,rfl,hv1,hb1⟩
 obtain⟨ao1,cap1,hf1⟩:=hv1.form
 subst hf1
 have O1:Hid (TokAt (w1.alloc (.cells #[.int .i64 c,.int .i64 r,.int .i64 u,.int .i64 a,.int .i64 b,.slice ao1 ws.length cap1] 30)) w1.heap.size c r u a b (.slice ao1 ws.length cap1)):=heap_alloc_new w1 _
 have E1:Below W.heap.size W (w1.alloc (.cells #[.int .i64 c,.int .i64 r,.int .i64 u,.int .i64 a,.int .i64 b,.slice ao1 ws.length cap1] 30)):=hb1.alloc hb1.size _
 obtain⟨A1,R1⟩:=cy2 (HA.out.stays E1 HA.out.lt) (HR.out.stays E1 HR.out.lt)
 have V1:Hid (OwnI (w1.alloc (.cells #[.int .i64 c,.int .i64 r,.int .i64 u,.int .i64 a,.int .i64 b,.slice ao1 ws.length cap1] 30)) w.heap.size (.slice ao1 ws.length cap1) ws):=(hv1.alloc _).down hWs
 obtain⟨B1,U1⟩:=cy2 (HB.out.trans (E1.mono hWs)) (HU.out.stays E1 (fun k hk=>(HU.out.lt k hk).2))
 have hgO:w.heap.size+1<w1.heap.size:=Nat.lt_of_lt_of_le hWr hb1.size
 obtain⟨s0,s1,s2,s3,s4,s5⟩:=A1.out.cells
 clear hv1 hb1 E1 HA HR HU HB hWs hWr
 go_wp2_with fail
 generalize w1.alloc (.cells #[.int .i64 c,.int .i64 r,.int .i64 u,.int .i64 a,.int .i64 b,.slice ao1 ws.length cap1] 30)=W1 at *
 generalize w1.heap.size=gO at *
 obtain⟨ao0,cap0,hu0,hx0⟩:=U1.out.ints
 have X1:Hid (IntsAt W1 ao0 ws):=hx0
 subst hu0
 refine(qAv c r u a b ao0 cap0 ws _ X1 hl).mono ?_
 rintro e w2 ⟨rfl,hb2⟩
 obtain⟨OO,RR,LL,BB⟩:=cy4 (O1.out.stays hb2 O1.out.lt) (R1.out.stays hb2 R1.out.lt) (qAr V1.out hb2) (B1.out.trans (hb2.mono B1.out.size))
 clear hb2 O1 R1 V1 B1 A1 U1 X1 hx0 s0 s1 s2 s3 s4 s5
 rw[ht.out]
 clear ht
 go_wp2_with fail
 refine(qBb _ hd).mono ?_
 rintro e w3 ⟨rfl,rfl⟩
 obtain⟨x0,x1,x2,x3,x4,x5⟩:=OO.out.cells
 have n3:=OO.out.frozen 3
 have n4:=OO.out.frozen 4
 have O1:Hid (TokAt (w3.setCell ⟨gO,3,none⟩ (.int .i64 u)) gO c r u u b (.slice ao1 ws.length cap1)):=OO.out.set3 u
 have RR1:Hid (TokAt (w3.setCell ⟨gO,3,none⟩ (.int .i64 u)) (w.heap.size+1) 0 0 0 0 0 (.slice none 0 0)):=RR.out.turn ((TurnAt.refl gO w3).setCell 3 _) (by omega)
 have LL1:Hid (OwnI (w3.setCell ⟨gO,3,none⟩ (.int .i64 u)) w.heap.size (.slice ao1 ws.length cap1) ws):=qAg LL.out OO.out ((TurnAt.refl gO w3).setCell 3 _)
 have BB1:Hid (Below w.heap.size w (w3.setCell ⟨gO,3,none⟩ (.int .i64 u))):=BB.out.trans (((TurnAt.refl gO w3).setCell 3 _).below (by omega))
 obtain⟨x10,x11,x12,x13,x14,x15⟩:=O1.out.cells
 have n13:=O1.out.frozen 3
 have n14:=O1.out.frozen 4
 have O2:Hid (TokAt ((w3.setCell ⟨gO,3,none⟩ (.int .i64 u)).setCell ⟨gO,4,none⟩ (.int .i64 0)) gO c r u u 0 (.slice ao1 ws.length cap1)):=O1.out.set4 0
 have RR2:Hid (TokAt ((w3.setCell ⟨gO,3,none⟩ (.int .i64 u)).setCell ⟨gO,4,none⟩ (.int .i64 0)) (w.heap.size+1) 0 0 0 0 0 (.slice none 0 0)):=RR1.out.turn ((TurnAt.refl gO (w3.setCell ⟨gO,3,none⟩ (.int .i64 u))).setCell 4 _) (by omega)
 have LL2:Hid (OwnI ((w3.setCell ⟨gO,3,none⟩ (.int .i64 u)).setCell ⟨gO,4,none⟩ (.int .i64 0)) w.heap.size (.slice ao1 ws.length cap1) ws):=qAg LL1.out O1.out ((TurnAt.refl gO (w3.setCell ⟨gO,3,none⟩ (.int .i64 u))).setCell 4 _)
 have BB2:Hid (Below w.heap.size w ((w3.setCell ⟨gO,3,none⟩ (.int .i64 u)).setCell ⟨gO,4,none⟩ (.int .i64 0))):=BB1.out.trans (((TurnAt.refl gO (w3.setCell ⟨gO,3,none⟩ (.int .i64 u))).setCell 4 _).below (by omega))
 obtain⟨x20,x21,x22,x23,x24,x25⟩:=O2.out.cells
 have n23:=O2.out.frozen 3
 have n24:=O2.out.frozen 4
 obtain⟨y0,y1,y2,y3,y4,y5⟩:=RR2.out.cells
 have m0:=RR2.out.frozen 0
 have m1:=RR2.out.frozen 1
 have m2:=RR2.out.frozen 2
 have m3:=RR2.out.frozen 3
 have m4:=RR2.out.frozen 4
 have m5:=RR2.out.frozen 5
 go_wp2_with fail
 have R3:TokAt _ (w.heap.size+1) c r u u 0 (.slice ao1 ws.length cap1):=RR2.out.agg c r u u 0 (.slice ao1 ws.length cap1)
 have T3:=((((((TurnAt.refl (w.heap.size+1) ((w3.setCell ⟨gO,3,none⟩ (.int .i64 u)).setCell ⟨gO,4,none⟩ (.int .i64 0))).setCell 0 (.int .i64 c)).setCell 1 (.int .i64 r)).setCell 2 (.int .i64 u)).setCell 3 (.int .i64 u)).setCell 4 (.int .i64 0)).setCell 5 (.slice ao1 ws.length cap1)
 have V3:=qAg LL2.out RR2.out T3
 have B3:=BB2.out.trans (T3.below (by omega))
 clear T3
 generalize ((((((((w3.setCell ⟨gO,3,none⟩ (.int .i64 u)).setCell ⟨gO,4,none⟩ (.int .i64 0)).setCell ⟨w.heap.size+1,0,none⟩ (.int .i64 c)).setCell ⟨w.heap.size+1,1,none⟩ (.int .i64 r)).setCell ⟨w.heap.size+1,2,none⟩ (.int .i64 u)).setCell ⟨w.heap.size+1,3,none⟩ (.int .i64 u)).setCell ⟨w.heap.size+1,4,none⟩ (.int .i64 0)).setCell ⟨w.heap.size+1,5,none⟩ (.slice ao1 ws.length cap1))=W3 at *
 obtain⟨q0,q1,q2,q3,q4,q5⟩:=R3.cells
 refine bodyPost_ret (v:=.agg #[.int .i64 c,.int .i64 r,.int .i64 u,.int .i64 u,.int .i64 0,.slice ao1 ws.length cap1]) (by simp[results,Tryz.results67,go_sem,q0,q1,q2,q3,q4,q5]) rfl ?_
 exact⟨_,rfl,V3,B3⟩
theorem spMark_6(c r q a b d u:Int)(u0:Value)(ws:List Int)(B0:Nat)(w:World)(h:Hid (OwnI w B0 u0 ws))(hl:ws.length≤1048576)(ht:Hid (tkB c r q a b ws=true))(hd:decide (1≤d∧d≤5)=true)(hu: ¬u<0)(h1: ¬u<a)(h2:b=d)(h3:u<q):
  Calls Tryz.prog 67 #[.agg #[.int .i64 c,.int .i64 r,.int .i64 q,.int .i64 a,.int .i64 b,u0],.int .i64 d,.int .i64 u] w fun e w'=>∃v,e=.returned (.agg #[.int .i64 c,.int .i64 r,.int .i64 q,.int .i64 u,.int .i64 b,v])∧OwnI w' w.heap.size v ws∧Below w.heap.size w w':=by
 subst h2
 have h4: ¬q<u:=by omega
 have h5: ¬u=q:=by omega
 obtain⟨HA,HR,HB,HU⟩:=enT w c r q a b u0 B0 ws h.out
 clear h
 go_enter Tryz.func67,Tryz.ntmps67
 go_wp2_with fail
 generalize ((w.alloc (.cells #[.int .i64 c,.int .i64 r,.int .i64 q,.int .i64 a,.int .i64 b,u0] 30)).alloc (.cells #[.int .i64 0,.int .i64 0,.int .i64 0,.int .i64 0,.int .i64 0,.slice none 0 0] 30))=W at *
 have hWs:w.heap.size≤W.heap.size:=HB.out.size
 have hWr:w.heap.size+1<W.heap.size:=HR.out.lt
 refine(qBr c r q a b u0 ws B0 W HU hl).mono ?_
 rintro e w1 ⟨v1,rfl,hv1,hb1⟩
 obtain⟨ao1,cap1,hf1⟩:=hv1.form
 subst hf1
 have O1:Hid (TokAt (w1.alloc (.cells #[.int .i64 c,.int .i64 r,.int .i64 q,.int .i64 a,.int .i64 b,.slice ao1 ws.length cap1] 30)) w1.heap.size c r q a b (.slice ao1 ws.length cap1)):=heap_alloc_new w1 _
 have E1:Below W.heap.size W (w1.alloc (.cells #[.int .i64 c,.int .i64 r,.int .i64 q,.int .i64 a,.int .i64 b,.slice ao1 ws.length cap1] 30)):=hb1.alloc hb1.size _
 obtain⟨A1,R1⟩:=cy2 (HA.out.stays E1 HA.out.lt) (HR.out.stays E1 HR.out.lt)
 have V1:Hid (OwnI (w1.alloc (.cells #[.int .i64 c,.int .i64 r,.int .i64 q,.int .i64 a,.int .i64 b,.slice ao1 ws.length cap1] 30)) w.heap.size (.slice ao1 ws.length cap1) ws):=(hv1.alloc _).down hWs
 obtain⟨B1,U1⟩:=cy2 (HB.out.trans (E1.mono hWs)) (HU.out.stays E1 (fun k hk=>(HU.out.lt k hk).2))
 have hgO:w.heap.size+1<w1.heap.size:=Nat.lt_of_lt_of_le hWr hb1.size
 obtain⟨s0,s1,s2,s3,s4,s5⟩:=A1.out.cells
 clear hv1 hb1 E1 HA HR HU HB hWs hWr
 go_wp2_with fail
 generalize w1.alloc (.cells #[.int .i64 c,.int .i64 r,.int .i64 q,.int .i64 a,.int .i64 b,.slice ao1 ws.length cap1] 30)=W1 at *
 generalize w1.heap.size=gO at *
 obtain⟨ao0,cap0,hu0,hx0⟩:=U1.out.ints
 have X1:Hid (IntsAt W1 ao0 ws):=hx0
 subst hu0
 refine(qAv c r q a b ao0 cap0 ws _ X1 hl).mono ?_
 rintro e w2 ⟨rfl,hb2⟩
 obtain⟨OO,RR,LL,BB⟩:=cy4 (O1.out.stays hb2 O1.out.lt) (R1.out.stays hb2 R1.out.lt) (qAr V1.out hb2) (B1.out.trans (hb2.mono B1.out.size))
 clear hb2 O1 R1 V1 B1 A1 U1 X1 hx0 s0 s1 s2 s3 s4 s5
 rw[ht.out]
 clear ht
 go_wp2_with fail
 refine(qBb _ hd).mono ?_
 rintro e w3 ⟨rfl,rfl⟩
 obtain⟨x0,x1,x2,x3,x4,x5⟩:=OO.out.cells
 have n3:=OO.out.frozen 3
 have n4:=OO.out.frozen 4
 have O1:Hid (TokAt (w3.setCell ⟨gO,3,none⟩ (.int .i64 u)) gO c r q u b (.slice ao1 ws.length cap1)):=OO.out.set3 u
 have RR1:Hid (TokAt (w3.setCell ⟨gO,3,none⟩ (.int .i64 u)) (w.heap.size+1) 0 0 0 0 0 (.slice none 0 0)):=RR.out.turn ((TurnAt.refl gO w3).setCell 3 _) (by omega)
 have LL1:Hid (OwnI (w3.setCell ⟨gO,3,none⟩ (.int .i64 u)) w.heap.size (.slice ao1 ws.length cap1) ws):=qAg LL.out OO.out ((TurnAt.refl gO w3).setCell 3 _)
 have BB1:Hid (Below w.heap.size w (w3.setCell ⟨gO,3,none⟩ (.int .i64 u))):=BB.out.trans (((TurnAt.refl gO w3).setCell 3 _).below (by omega))
 obtain⟨x10,x11,x12,x13,x14,x15⟩:=O1.out.cells
 have n13:=O1.out.frozen 3
 have n14:=O1.out.frozen 4
 obtain⟨y0,y1,y2,y3,y4,y5⟩:=RR1.out.cells
 have m0:=RR1.out.frozen 0
 have m1:=RR1.out.frozen 1
 have m2:=RR1.out.frozen 2
 have m3:=RR1.out.frozen 3
 have m4:=RR1.out.frozen 4
 have m5:=RR1.out.frozen 5
 go_wp2_with fail
 have R3:TokAt _ (w.heap.size+1) c r q u b (.slice ao1 ws.length cap1):=RR1.out.agg c r q u b (.slice ao1 ws.length cap1)
 have T3:=((((((TurnAt.refl (w.heap.size+1) (w3.setCell ⟨gO,3,none⟩ (.int .i64 u))).setCell 0 (.int .i64 c)).setCell 1 (.int .i64 r)).setCell 2 (.int .i64 q)).setCell 3 (.int .i64 u)).setCell 4 (.int .i64 b)).setCell 5 (.slice ao1 ws.length cap1)
 have V3:=qAg LL1.out RR1.out T3
 have B3:=BB1.out.trans (T3.below (by omega))
 clear T3
 generalize (((((((w3.setCell ⟨gO,3,none⟩ (.int .i64 u)).setCell ⟨w.heap.size+1,0,none⟩ (.int .i64 c)).setCell ⟨w.heap.size+1,1,none⟩ (.int .i64 r)).setCell ⟨w.heap.size+1,2,none⟩ (.int .i64 q)).setCell ⟨w.heap.size+1,3,none⟩ (.int .i64 u)).setCell ⟨w.heap.size+1,4,none⟩ (.int .i64 b)).setCell ⟨w.heap.size+1,5,none⟩ (.slice ao1 ws.length cap1))=W3 at *
 obtain⟨q0,q1,q2,q3,q4,q5⟩:=R3.cells
 refine bodyPost_ret (v:=.agg #[.int .i64 c,.int .i64 r,.int .i64 q,.int .i64 u,.int .i64 b,.slice ao1 ws.length cap1]) (by simp[results,Tryz.results67,go_sem,q0,q1,q2,q3,q4,q5]) rfl ?_
 exact⟨_,rfl,V3,B3⟩
theorem spMark_7(c r q a b d u:Int)(u0:Value)(ws:List Int)(B0:Nat)(w:World)(h:Hid (OwnI w B0 u0 ws))(hl:ws.length≤1048576)(ht:Hid (tkB c r q a b ws=true))(hd:decide (1≤d∧d≤5)=true)(hu: ¬u<0)(h1: ¬u<a)(h2: ¬b=d):
  Calls Tryz.prog 67 #[.agg #[.int .i64 c,.int .i64 r,.int .i64 q,.int .i64 a,.int .i64 b,u0],.int .i64 d,.int .i64 u] w fun e w'=>∃v,e=.returned (.agg #[.int .i64 c,.int .i64 r,.int .i64 q,.int .i64 a,.int .i64 b,v])∧OwnI w' w.heap.size v ws∧Below w.heap.size w w':=by
 obtain⟨HA,HR,HB,HU⟩:=enT w c r q a b u0 B0 ws h.out
 clear h
 go_enter Tryz.func67,Tryz.ntmps67
 go_wp2_with fail
 generalize ((w.alloc (.cells #[.int .i64 c,.int .i64 r,.int .i64 q,.int .i64 a,.int .i64 b,u0] 30)).alloc (.cells #[.int .i64 0,.int .i64 0,.int .i64 0,.int .i64 0,.int .i64 0,.slice none 0 0] 30))=W at *
 have hWs:w.heap.size≤W.heap.size:=HB.out.size
 have hWr:w.heap.size+1<W.heap.size:=HR.out.lt
 refine(qBr c r q a b u0 ws B0 W HU hl).mono ?_
 rintro e w1 ⟨v1,rfl,hv1,hb1⟩
 obtain⟨ao1,cap1,hf1⟩:=hv1.form
 subst hf1
 have O1:Hid (TokAt (w1.alloc (.cells #[.int .i64 c,.int .i64 r,.int .i64 q,.int .i64 a,.int .i64 b,.slice ao1 ws.length cap1] 30)) w1.heap.size c r q a b (.slice ao1 ws.length cap1)):=heap_alloc_new w1 _
 have E1:Below W.heap.size W (w1.alloc (.cells #[.int .i64 c,.int .i64 r,.int .i64 q,.int .i64 a,.int .i64 b,.slice ao1 ws.length cap1] 30)):=hb1.alloc hb1.size _
 obtain⟨A1,R1⟩:=cy2 (HA.out.stays E1 HA.out.lt) (HR.out.stays E1 HR.out.lt)
 have V1:Hid (OwnI (w1.alloc (.cells #[.int .i64 c,.int .i64 r,.int .i64 q,.int .i64 a,.int .i64 b,.slice ao1 ws.length cap1] 30)) w.heap.size (.slice ao1 ws.length cap1) ws):=(hv1.alloc _).down hWs
 obtain⟨B1,U1⟩:=cy2 (HB.out.trans (E1.mono hWs)) (HU.out.stays E1 (fun k hk=>(HU.out.lt k hk).2))
 have hgO:w.heap.size+1<w1.heap.size:=Nat.lt_of_lt_of_le hWr hb1.size
 obtain⟨s0,s1,s2,s3,s4,s5⟩:=A1.out.cells
 clear hv1 hb1 E1 HA HR HU HB hWs hWr
 go_wp2_with fail
 generalize w1.alloc (.cells #[.int .i64 c,.int .i64 r,.int .i64 q,.int .i64 a,.int .i64 b,.slice ao1 ws.length cap1] 30)=W1 at *
 generalize w1.heap.size=gO at *
 obtain⟨ao0,cap0,hu0,hx0⟩:=U1.out.ints
 have X1:Hid (IntsAt W1 ao0 ws):=hx0
 subst hu0
 refine(qAv c r q a b ao0 cap0 ws _ X1 hl).mono ?_
 rintro e w2 ⟨rfl,hb2⟩
 obtain⟨OO,RR,LL,BB⟩:=cy4 (O1.out.stays hb2 O1.out.lt) (R1.out.stays hb2 R1.out.lt) (qAr V1.out hb2) (B1.out.trans (hb2.mono B1.out.size))
 clear hb2 O1 R1 V1 B1 A1 U1 X1 hx0 s0 s1 s2 s3 s4 s5
 rw[ht.out]
 clear ht
 go_wp2_with fail
 refine(qBb _ hd).mono ?_
 rintro e w3 ⟨rfl,rfl⟩
 obtain⟨x0,x1,x2,x3,x4,x5⟩:=OO.out.cells
 obtain⟨y0,y1,y2,y3,y4,y5⟩:=RR.out.cells
 have m0:=RR.out.frozen 0
 have m1:=RR.out.frozen 1
 have m2:=RR.out.frozen 2
 have m3:=RR.out.frozen 3
 have m4:=RR.out.frozen 4
 have m5:=RR.out.frozen 5
 go_wp2_with fail
 have R3:TokAt _ (w.heap.size+1) c r q a b (.slice ao1 ws.length cap1):=RR.out.agg c r q a b (.slice ao1 ws.length cap1)
 have T3:=((((((TurnAt.refl (w.heap.size+1) w3).setCell 0 (.int .i64 c)).setCell 1 (.int .i64 r)).setCell 2 (.int .i64 q)).setCell 3 (.int .i64 a)).setCell 4 (.int .i64 b)).setCell 5 (.slice ao1 ws.length cap1)
 have V3:=qAg LL.out RR.out T3
 have B3:=BB.out.trans (T3.below (by omega))
 clear T3
 generalize ((((((w3.setCell ⟨w.heap.size+1,0,none⟩ (.int .i64 c)).setCell ⟨w.heap.size+1,1,none⟩ (.int .i64 r)).setCell ⟨w.heap.size+1,2,none⟩ (.int .i64 q)).setCell ⟨w.heap.size+1,3,none⟩ (.int .i64 a)).setCell ⟨w.heap.size+1,4,none⟩ (.int .i64 b)).setCell ⟨w.heap.size+1,5,none⟩ (.slice ao1 ws.length cap1))=W3 at *
 obtain⟨q0,q1,q2,q3,q4,q5⟩:=R3.cells
 refine bodyPost_ret (v:=.agg #[.int .i64 c,.int .i64 r,.int .i64 q,.int .i64 a,.int .i64 b,.slice ao1 ws.length cap1]) (by simp[results,Tryz.results67,go_sem,q0,q1,q2,q3,q4,q5]) rfl ?_
 exact⟨_,rfl,V3,B3⟩
theorem mark_any(c r q a b d u:Int)(u0:Value)(ws:List Int)(B0:Nat)(w:World)(h:Hid (OwnI w B0 u0 ws))(hl:ws.length≤1048576):
  Calls Tryz.prog 58 #[.agg #[.int .i64 c,.int .i64 r,.int .i64 q,.int .i64 a,.int .i64 b,u0],.int .i64 d,.int .i64 u] w fun e w'=>∃v,e=.returned (.agg #[.int .i64 c,.int .i64 r,.int .i64 q,.int .i64 (qEy c r q a b ws d u),.int .i64 (qEx c r q a b ws d u),v])∧OwnI w' w.heap.size v ws∧Below w.heap.size w w':=by
 unfold qEy qEx qJt
 cases ht:tkB c r q a b ws with
 |false=>exact mark_0 c r q a b d u u0 ws B0 w h hl ht
 |true=>
  cases hd:decide (1≤d∧d≤5)with
  |false=>exact mark_1 c r q a b d u u0 ws B0 w h hl ht hd
  |true=>
   by_cases hu:u<0
   ·rw[show decide (0≤u)=false by simp;omega];exact mark_2 c r q a b d u u0 ws B0 w h hl ht hd hu
   ·rw[show decide (0≤u)=true by simp;omega];exact mark_3 c r q a b d u u0 ws B0 w h hl ht hd hu
theorem spMark_any(c r q a b d u:Int)(u0:Value)(ws:List Int)(B0:Nat)(w:World)(h:Hid (OwnI w B0 u0 ws))(hl:ws.length≤1048576):
  Calls Tryz.prog 67 #[.agg #[.int .i64 c,.int .i64 r,.int .i64 q,.int .i64 a,.int .i64 b,u0],.int .i64 d,.int .i64 u] w fun e w'=>∃v,e=.returned (.agg #[.int .i64 c,.int .i64 r,.int .i64 q,.int .i64 (qEy c r q a b ws d u),.int .i64 (qEx c r q a b ws d u),v])∧OwnI w' w.heap.size v ws∧Below w.heap.size w w':=by
 unfold qEy qEx qJt
 cases ht:tkB c r q a b ws with
 |false=>exact spMark_0 c r q a b d u u0 ws B0 w h hl ht
 |true=>
  cases hd:decide (1≤d∧d≤5)with
  |false=>exact spMark_1 c r q a b d u u0 ws B0 w h hl ht hd
  |true=>
   by_cases hu:u<0
   ·rw[show decide (0≤u)=false by simp;omega];exact spMark_2 c r q a b d u u0 ws B0 w h hl ht hd hu
   ·rw[show decide (0≤u)=true by simp;omega]
    simp only[Bool.and_self,if_true]
    unfold aruM byM
    by_cases h1:u<a
    ·rw[if_pos h1,if_pos h1];exact spMark_3 c r q a b d u u0 ws B0 w h hl ht hd hu h1
    ·rw[if_neg h1,if_neg h1]
     by_cases h2:b=d
     ·rw[if_pos h2,if_pos h2]
      by_cases h3:q<u
      ·rw[show min u q=q by omega,if_pos rfl];exact spMark_4 c r q a b d u u0 ws B0 w h hl ht hd hu h1 h2 h3
      ·by_cases h4:u=q
       ·rw[show min u q=u by omega,if_pos h4];exact spMark_5 c r q a b d u u0 ws B0 w h hl ht hd hu h1 h2 h4
       ·rw[show min u q=u by omega,if_neg h4];exact spMark_6 c r q a b d u u0 ws B0 w h hl ht hd hu h1 h2 (by omega)
     ·rw[if_neg h2,if_neg h2];exact spMark_7 c r q a b d u u0 ws B0 w h hl ht hd hu h1 h2
structure MtQ (w:World) (m:Mt) (v:Mv):Prop where
 ms:RI w v.ms.v m.ms
 its:RIt w v.its.v m.its
 lv:RI w v.lv.v m.lv
 tx:RT w v.tx.v m.tx
 ws:OwnI w 0 v.ws.v m.la.ws
theorem MtP.q{w:World}{m:Mt}{v:Mv}(h:MtP w m v):MtQ w m v:=⟨h.ms.ri,h.its.rit,h.lv.ri,h.tx.rt,h.ws⟩
theorem MtQ.r{w:World}{m:Mt}{v:Mv}(h:MtQ w m v):MtR w m v:=⟨h.ms,h.its,h.lv,h.tx,h.ws.ri⟩
theorem MtQ.later{w w':World}{m:Mt}{v:Mv}(h:MtQ w m v)(hb:Below w.heap.size w w'):MtQ w' m v:=⟨h.ms.stays hb,h.its.stays hb,h.lv.stays hb,h.tx.stays hb,h.ws.keep fun k _ hk=>hb.block k hk⟩
theorem qJs(m:Mt)(v:Mv)(w:World)(h:Hid (MtQ w m v))(hs:Hid (MtS m)):
  Calls Tryz.prog 51 #[.agg #[.int .i64 m.id,.int .i64 m.rid,.slice v.ms.a v.ms.n v.ms.c,.slice v.its.a v.its.n v.its.c,.slice v.lv.a v.lv.n v.lv.c,.slice v.tx.a v.tx.n v.tx.c,.int .i64 m.rd,.int .i64 m.se,.int .i64 m.li,.int .i64 m.he,.int .i64 m.la.c,.int .i64 m.la.r,.int .i64 m.la.q,.int .i64 m.la.a,.int .i64 m.la.b,.slice v.ws.a v.ws.n v.ws.c]] w fun e w'=>∃(g:Nat) (u:Mv),e=.returned (.pointer (some ⟨g,0,none⟩))∧MbB w' g m u zSv∧MtO w' w.heap.size m u∧w.heap.size≤g∧Below w.heap.size w w':=by
 have HA:Hid (MtB (w.alloc (.cells #[.int .i64 m.id,.int .i64 m.rid,.slice v.ms.a v.ms.n v.ms.c,.slice v.its.a v.its.n v.its.c,.slice v.lv.a v.lv.n v.lv.c,.slice v.tx.a v.tx.n v.tx.c,.int .i64 m.rd,.int .i64 m.se,.int .i64 m.li,.int .i64 m.he,.int .i64 m.la.c,.int .i64 m.la.r,.int .i64 m.la.q,.int .i64 m.la.a,.int .i64 m.la.b,.slice v.ws.a v.ws.n v.ws.c] 32)) w.heap.size 32 m v):=Bx.new w 32 _
 have HB:=Ag (bA w (.cells #[.int .i64 m.id,.int .i64 m.rid,.slice v.ms.a v.ms.n v.ms.c,.slice v.its.a v.its.n v.its.c,.slice v.lv.a v.lv.n v.lv.c,.slice v.tx.a v.tx.n v.tx.c,.int .i64 m.rd,.int .i64 m.se,.int .i64 m.li,.int .i64 m.he,.int .i64 m.la.c,.int .i64 m.la.r,.int .i64 m.la.q,.int .i64 m.la.a,.int .i64 m.la.b,.slice v.ws.a v.ws.n v.ws.c] 32))
 go_enter Tryz.func51,Tryz.ntmps51
 go_wp2_with fail
 generalize w.alloc (.cells #[.int .i64 m.id,.int .i64 m.rid,.slice v.ms.a v.ms.n v.ms.c,.slice v.its.a v.its.n v.its.c,.slice v.lv.a v.lv.n v.lv.c,.slice v.tx.a v.tx.n v.tx.c,.int .i64 m.rd,.int .i64 m.se,.int .i64 m.li,.int .i64 m.he,.int .i64 m.la.c,.int .i64 m.la.r,.int .i64 m.la.q,.int .i64 m.la.a,.int .i64 m.la.b,.slice v.ws.a v.ws.n v.ws.c] 32)=W at *
 have HA0:Hid (MtB W w.heap.size 32 m v):=HA.out
 have zW:Hid (W.heap.size≥w.heap.size):=HB.out.size
 have SI:Hid (RIt W.drew v.its.v m.its):=h.out.its.stays HB.out.drew
 refine wp_region_held_drew (S:=fun w'=>Below W.heap.size W w') (by kernel_rfl) (Below.refl _ _).drew (fun Ah=>?_)
 refine tkQ 0 rfl (by kernel_rfl) (by rfl) (fun _ _=>by simp only[Aa,Ab,Ac];go_simp;try with_reducible rfl) Ah ?_ fun _ _ _ h=>h
 try simp only[Act.put,Aa,Ab,Ac,Ad,Ae,Af]
 refine tkH (i:=1) (v:=_) rfl (by kernel_rfl) (fun _ _ _ h=>h) (qAf (by rfl) 27 _ rfl w.heap.size 3 rfl 32 _ (fun w hS=>Bx.later HA.out hS) (.slice v.its.a v.its.n v.its.c) rfl _ Tryz.underlying27 rfl) Ah ?_
 try simp only[Act.put,Aa,Ab,Ac,Ad,Ae,Af]
 refine tkH (i:=3) (v:=_) rfl (by kernel_rfl) (fun _ _ _ h=>h) (qBp (by rfl) 32 _ rfl w.heap.size 0 rfl 32 _ (fun w hS=>Bx.later HA.out hS) (mC m v) rfl _ Tryz.underlying32 rfl Tryz.sizeM) Ah ?_
 try simp only[Act.put,Aa,Ab,Ac,Ad,Ae,Af]
 refine wpAnyH_ready (rs:=[2]) (by kernel_rfl) (by simp) ?_
 refine AllReadyH.cons (i:=2) rfl (fun K hK=>?_) AllReadyH.nil
 rw[if_pos (by rfl)]
 simp only[Aa,Ab,Ac]
 go_simp
 refine(qHx v.its m.its _ SI hs.out.its hs.out.it).mono ?_
 rintro e w1 ⟨uits,rfl,o1,b1⟩
 have c1:Below W.heap.size W w1:=(Below.refl W.heap.size W).drew.trans b1
 have Xits:Hid (SlI w1 W.heap.size uits.v m.its):=o1
 refine hK.out _ _ (c1) (fun Ah=>?_)
 clear hK K
 try simp only[Act.put,Aa,Ab,Ac,Ad,Ae,Af]
 refine tkQ 4 rfl (by kernel_rfl) (by rfl) (fun _ _=>by simp only[Aa,Ab,Ac];go_simp;try with_reducible rfl) Ah ?_ fun _ _ _ h=>h
 try simp only[Act.put,Aa,Ab,Ac,Ad,Ae,Af]
 refine wpAnyH_ready (rs:=[5]) (by kernel_rfl) (by simp) ?_
 refine AllReadyH.cons (i:=5) rfl (fun K hK=>?_) AllReadyH.nil
 rw[if_pos (by rfl)]
 simp only[Aa,Ab,Ac]
 go_simp
 refine hK.out _ _ (c1.alloc c1.size _) (fun Ah=>?_)
 clear hK K
 try simp only[Act.put,Aa,Ab,Ac,Ad,Ae,Af]
 refine tkQ 6 rfl (by kernel_rfl) (by rfl) (fun _ _=>by simp only[Aa,Ab,Ac];go_simp;try with_reducible rfl) Ah ?_ fun _ _ _ h=>h
 try simp only[Act.put,Aa,Ab,Ac,Ad,Ae,Af]
 refine wpAnyH_done (by kernel_rfl) ?_ _
 have HG:=Ag (Bx.new w1 96 [.slice uits.a uits.n uits.c,.int .i64 m.id,.int .i64 m.rid,.slice v.ms.a v.ms.n v.ms.c,.slice v.its.a v.its.n v.its.c,.slice v.lv.a v.lv.n v.lv.c,.slice v.tx.a v.tx.n v.tx.c,.int .i64 m.rd,.int .i64 m.se,.int .i64 m.li,.int .i64 m.he,.int .i64 m.la.c,.int .i64 m.la.r,.int .i64 m.la.q,.int .i64 m.la.a,.int .i64 m.la.b,.slice v.ws.a v.ws.n v.ws.c])
 have bb:=bA w1 (.cells #[.slice uits.a uits.n uits.c,.int .i64 m.id,.int .i64 m.rid,.slice v.ms.a v.ms.n v.ms.c,.slice v.its.a v.its.n v.its.c,.slice v.lv.a v.lv.n v.lv.c,.slice v.tx.a v.tx.n v.tx.c,.int .i64 m.rd,.int .i64 m.se,.int .i64 m.li,.int .i64 m.he,.int .i64 m.la.c,.int .i64 m.la.r,.int .i64 m.la.q,.int .i64 m.la.a,.int .i64 m.la.b,.slice v.ws.a v.ws.n v.ws.c] 96)
 have Xits:=Ag (Xits.out.below bb)
 have HA:Hid (MtB (w1.alloc (.cells #[.slice uits.a uits.n uits.c,.int .i64 m.id,.int .i64 m.rid,.slice v.ms.a v.ms.n v.ms.c,.slice v.its.a v.its.n v.its.c,.slice v.lv.a v.lv.n v.lv.c,.slice v.tx.a v.tx.n v.tx.c,.int .i64 m.rd,.int .i64 m.se,.int .i64 m.li,.int .i64 m.he,.int .i64 m.la.c,.int .i64 m.la.r,.int .i64 m.la.q,.int .i64 m.la.a,.int .i64 m.la.b,.slice v.ws.a v.ws.n v.ws.c] 96)) w.heap.size 32 m v):=Bx.later (Bx.later HA.out c1) bb
 have HB:=Ag (qAa (qAa HB.out c1) bb)
 have zg:Hid (w.heap.size<w1.heap.size):=Nat.lt_of_lt_of_le (Bx.lt HA0.out) c1.size
 clear o1 b1 c1 bb Ah SI
 generalize w1.alloc (.cells #[.slice uits.a uits.n uits.c,.int .i64 m.id,.int .i64 m.rid,.slice v.ms.a v.ms.n v.ms.c,.slice v.its.a v.its.n v.its.c,.slice v.lv.a v.lv.n v.lv.c,.slice v.tx.a v.tx.n v.tx.c,.int .i64 m.rd,.int .i64 m.se,.int .i64 m.li,.int .i64 m.he,.int .i64 m.la.c,.int .i64 m.la.r,.int .i64 m.la.q,.int .i64 m.la.a,.int .i64 m.la.b,.slice v.ws.a v.ws.n v.ws.c] 96)=W1 at *
 generalize w1.heap.size=g at *
 have zg:=zg.out
 have HG0:=Ag (HG.out)
 have zW1:Hid (w.heap.size≤W1.heap.size):=HB.out.size
 go_wp2_with (first|(refine qAb rfl 26 _ rfl w.heap.size 1 rfl 32 _ HA.out [.int .i64 m.rid,.slice v.ms.a v.ms.n v.ms.c] rfl _ Tryz.underlying26 rfl Tryz.sizeR ?_))
 refine(copyRing_s m.rid v.ms m.ms _ (h.out.ms.stays HB.out) hs.out.ms).mono ?_
 rintro e w2 ⟨ums,rfl,ho,b⟩
 have Xms:Hid (OwnI w2 W1.heap.size ums.v m.ms):=ho
 have LOms:Hid (W1.heap.size≤w2.heap.size):=b.size
 obtain⟨HA,HG,HB⟩:=cy3 (Bx.later HA.out b) (HG.out.later b) (qAa HB.out b)
 have K1:Hid (KeepBut g W1 w2):=qAc b
 have BXms:=Ag (HG.out)
 clear ho b
 go_wp2_with (first|(refine qCk rfl 26 _ _ rfl g 2 rfl 96 _ HG.out [.int .i64 m.rid,.slice ums.a ums.n ums.c] rfl (by simp) Tryz.sizeR rfl [.slice uits.a uits.n uits.c,.int .i64 m.id,.int .i64 m.rid,.slice ums.a ums.n ums.c,.slice v.its.a v.its.n v.its.c,.slice v.lv.a v.lv.n v.lv.c,.slice v.tx.a v.tx.n v.tx.c,.int .i64 m.rd,.int .i64 m.se,.int .i64 m.li,.int .i64 m.he,.int .i64 m.la.c,.int .i64 m.la.r,.int .i64 m.la.q,.int .i64 m.la.a,.int .i64 m.la.b,.slice v.ws.a v.ws.n v.ws.c] rfl ?_;intro w3 OB TB;have K2:Hid (KeepBut g w2 w3):=TB.keep;have HA:=Ag (Bx.turn HA.out TB (by omega));have HB:=Ag (HB.out.trans (TB.below (by omega)));have HG:=Ag OB;clear OB TB)|(refine qAe rfl 27 _ _ rfl g 4 rfl 96 _ HG.out (.slice none 0 0) rfl (by simp) rfl Tryz.sizeIs [.slice uits.a uits.n uits.c,.int .i64 m.id,.int .i64 m.rid,.slice ums.a ums.n ums.c,.slice none 0 0,.slice v.lv.a v.lv.n v.lv.c,.slice v.tx.a v.tx.n v.tx.c,.int .i64 m.rd,.int .i64 m.se,.int .i64 m.li,.int .i64 m.he,.int .i64 m.la.c,.int .i64 m.la.r,.int .i64 m.la.q,.int .i64 m.la.a,.int .i64 m.la.b,.slice v.ws.a v.ws.n v.ws.c] rfl ?_;intro w4 OB TB;have K3:Hid (KeepBut g w3 w4):=TB.keep;have HA:=Ag (Bx.turn HA.out TB (by omega));have HB:=Ag (HB.out.trans (TB.below (by omega)));have HG:=Ag OB;clear OB TB)|(refine qEg _ _ _ rfl ?_))
 refine Stp.go ?_
 have zB4:w.heap.size≤w4.heap.size:=HB.out.size
 have HA2:Hid (Bx (w4.alloc (.cells #[] 3)) w.heap.size 32 [.int .i64 m.id,.int .i64 m.rid,.slice v.ms.a v.ms.n v.ms.c,.slice v.its.a v.its.n v.its.c,.slice v.lv.a v.lv.n v.lv.c,.slice v.tx.a v.tx.n v.tx.c,.int .i64 m.rd,.int .i64 m.se,.int .i64 m.li,.int .i64 m.he,.int .i64 m.la.c,.int .i64 m.la.r,.int .i64 m.la.q,.int .i64 m.la.a,.int .i64 m.la.b,.slice v.ws.a v.ws.n v.ws.c]):=HA.out.later ((Below.refl _ _).alloc (Nat.le_refl _) _)
 have SR:Hid (RI (w4.alloc (.cells #[] 3)) (.slice v.lv.a v.lv.n v.lv.c) m.lv):=(h.out.lv).stays (HB.out.trans (((Below.refl _ _).alloc (Nat.le_refl _) _).mono zB4))
 have OW:Hid (OwnI (w4.alloc (.cells #[] 3)) w4.heap.size (.slice (some ⟨w4.heap.size,0,none⟩) 0 0) []):=OwnI.made w4 w4.heap.size (Nat.le_refl _)
 go_wp2_with (first|(refine qAt rfl 24 _ rfl w.heap.size 4 rfl 32 _ HA2.out (.slice v.lv.a v.lv.n v.lv.c) rfl _ Tryz.underlying24 rfl ?_)|(at_builtin;refine qCz rfl _ _ 24 rfl Tryz.underlying24 Tryz.info3' w4.heap.size (.slice (some ⟨w4.heap.size,0,none⟩) 0 0) [] rfl OW.out (.slice v.lv.a v.lv.n v.lv.c) m.lv rfl SR.out (by have:=hs.out.lv;simp;omega) (Nat.le_of_lt (by simp)) (fun h=>by cases h) ?_;intro v5 w5 ho hg;have Xlv:Hid (OwnI w5 w4.heap.size v5 m.lv):=ho;have G5:Hid ((w4.alloc (.cells #[] 3)).grownBy w5 (some w4.heap.size)):=hg;clear ho hg;refine Stp.here ?_))
 refine Stp.go ?_
 obtain⟨ulv,hf⟩:=Xlv.out.sv
 subst hf
 have LOlv:Hid (w4.heap.size≤w5.heap.size):=(qBy (g:=g) G5.out).size
 obtain⟨HA,HG⟩:=cy2 (HA.out.afterGrown G5.out) (HG.out.afterGrown G5.out)
 have HB:Hid (Below w.heap.size w w5):=qCf HB.out HB.out.size G5.out
 have K4:Hid (KeepBut g w4 w5):=qBy G5.out
 have BXlv:=Ag (HG.out)
 clear HA2 SR OW G5
 go_wp2_with (first|(refine qAe rfl 24 _ _ rfl g 5 rfl 96 _ HG.out (.slice ulv.a ulv.n ulv.c) rfl (by simp) rfl Tryz.sizeNs [.slice uits.a uits.n uits.c,.int .i64 m.id,.int .i64 m.rid,.slice ums.a ums.n ums.c,.slice none 0 0,.slice ulv.a ulv.n ulv.c,.slice v.tx.a v.tx.n v.tx.c,.int .i64 m.rd,.int .i64 m.se,.int .i64 m.li,.int .i64 m.he,.int .i64 m.la.c,.int .i64 m.la.r,.int .i64 m.la.q,.int .i64 m.la.a,.int .i64 m.la.b,.slice v.ws.a v.ws.n v.ws.c] rfl ?_;intro w6 OB TB;have K5:Hid (KeepBut g w5 w6):=TB.keep;have HA:=Ag (Bx.turn HA.out TB (by omega));have HB:=Ag (HB.out.trans (TB.below (by omega)));have HG:=Ag OB;clear OB TB)|(refine qAt rfl 28 _ rfl w.heap.size 5 rfl 32 _ HA.out (.slice v.tx.a v.tx.n v.tx.c) rfl _ Tryz.underlying28 rfl ?_))
 refine(copyTexts_s v.tx m.tx _ (h.out.tx.stays HB.out) hs.out.tx hs.out.te).mono ?_
 rintro e w7 ⟨utx,rfl,ho,b⟩
 have Xtx:Hid (OwnS w7 w6.heap.size utx.v m.tx):=ho
 have LOtx:Hid (w6.heap.size≤w7.heap.size):=b.size
 obtain⟨HA,HG,HB⟩:=cy3 (Bx.later HA.out b) (HG.out.later b) (qAa HB.out b)
 have K6:Hid (KeepBut g w6 w7):=qAc b
 have BXtx:=Ag (HG.out)
 clear ho b
 go_wp2_with (first|(refine qAe rfl 28 _ _ rfl g 6 rfl 96 _ HG.out (.slice utx.a utx.n utx.c) rfl (by simp) rfl Tryz.sizeTs [.slice uits.a uits.n uits.c,.int .i64 m.id,.int .i64 m.rid,.slice ums.a ums.n ums.c,.slice none 0 0,.slice ulv.a ulv.n ulv.c,.slice utx.a utx.n utx.c,.int .i64 m.rd,.int .i64 m.se,.int .i64 m.li,.int .i64 m.he,.int .i64 m.la.c,.int .i64 m.la.r,.int .i64 m.la.q,.int .i64 m.la.a,.int .i64 m.la.b,.slice v.ws.a v.ws.n v.ws.c] rfl ?_;intro w8 OB TB;have K7:Hid (KeepBut g w7 w8):=TB.keep;have HA:=Ag (Bx.turn HA.out TB (by omega));have HB:=Ag (HB.out.trans (TB.below (by omega)));have HG:=Ag OB;clear OB TB)|(refine qAb rfl 30 _ rfl w.heap.size 10 rfl 32 _ HA.out (tX m.la.c m.la.r m.la.q m.la.a m.la.b v.ws) rfl _ Tryz.underlying30 rfl Tryz.sizeT ?_))
 refine(copyTok_s m.la.c m.la.r m.la.q m.la.a m.la.b v.ws m.la.ws _ (h.out.ws.stays HB.out (fun k hk=>(h.out.ws.lt k hk).2)) hs.out.ws).mono ?_
 rintro e w9 ⟨uws,rfl,ho,b⟩
 have Xws:Hid (OwnI w9 w8.heap.size uws.v m.la.ws):=ho
 have LOws:Hid (w8.heap.size≤w9.heap.size):=b.size
 obtain⟨HA,HG,HB⟩:=cy3 (Bx.later HA.out b) (HG.out.later b) (qAa HB.out b)
 have K8:Hid (KeepBut g w8 w9):=qAc b
 have BXws:=Ag (HG.out)
 clear ho b
 go_wp2_with (first|(refine qCk rfl 30 _ _ rfl g 11 rfl 96 _ HG.out (tX m.la.c m.la.r m.la.q m.la.a m.la.b uws) rfl (by simp) Tryz.sizeT rfl [.slice uits.a uits.n uits.c,.int .i64 m.id,.int .i64 m.rid,.slice ums.a ums.n ums.c,.slice none 0 0,.slice ulv.a ulv.n ulv.c,.slice utx.a utx.n utx.c,.int .i64 m.rd,.int .i64 m.se,.int .i64 m.li,.int .i64 m.he,.int .i64 m.la.c,.int .i64 m.la.r,.int .i64 m.la.q,.int .i64 m.la.a,.int .i64 m.la.b,.slice uws.a uws.n uws.c] rfl ?_;intro wz OB TB;have K9:Hid (KeepBut g w9 wz):=TB.keep;have HA:=Ag (Bx.turn HA.out TB (by omega));have HB:=Ag (HB.out.trans (TB.below (by omega)));have HG:=Ag OB;clear OB TB))
 go_ret
 have Yits:=Xits.out.keepb HG0.out ((((((((K1.out.trans K2.out).trans K3.out).trans K4.out).trans K5.out).trans K6.out).trans K7.out).trans K8.out).trans K9.out) (by decide)
 have Yms:=Xms.out.keepb BXms.out (((((((K2.out.trans K3.out).trans K4.out).trans K5.out).trans K6.out).trans K7.out).trans K8.out).trans K9.out) (by decide)
 have Ylv:=Xlv.out.keepb BXlv.out ((((K5.out.trans K6.out).trans K7.out).trans K8.out).trans K9.out) (by decide)
 have Ytx:=Xtx.out.keepb BXtx.out ((K7.out.trans K8.out).trans K9.out) (by decide)
 have Yws:=Xws.out.keepb BXws.out K9.out (by decide)
 have gK1:=K1.out.size
 have gK2:=K2.out.size
 have gK3:=K3.out.size
 have gK4:=K4.out.size
 have gK5:=K5.out.size
 have gK6:=K6.out.size
 have gK7:=K7.out.size
 have gK8:=K8.out.size
 have gK9:=K9.out.size
 have e1:=LOms.out
 have e2:=LOlv.out
 have e3:=LOtx.out
 have e4:=LOws.out
 have e5:=zW.out
 have e6:=zW1.out
 refine⟨g,⟨ums,uits,ulv,utx,uws⟩,rfl,HG.out,⟨Yms.down (by omega),Yits.down (by omega),Ylv.down (by omega),Ytx.down (by omega),Yws.down (by omega),?_,?_,?_⟩,by omega,HB.out⟩
 ·exact fun k h1 h2=>by have:=(Xms.out.lt k h1).2;have:=(Xlv.out.lt k h2).1;omega
 ·exact fun k h1 h2=>by have:=(Xms.out.lt k h1).2;have:=(Xws.out.lt k h2).1;omega
 ·exact fun k h1 h2=>by have:=(Xlv.out.lt k h1).2;have:=(Xws.out.lt k h2).1;omega
end Go.Proofs.YthdjkkiegecgnaaGreat
