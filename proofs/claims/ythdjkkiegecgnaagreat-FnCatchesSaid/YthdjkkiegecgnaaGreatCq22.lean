/- Joined texts: CHo CFs CSho CWcm CWhe CCu CWcp. -/
import Derived.Test.YthdjkkiegecgnaaGreatCq19
import Derived.Test.YthdjkkiegecgnaaGreatCq21
import Derived.Test.YthdjkkiegecgnaaGreatCq15
import Derived.Test.YthdjkkiegecgnaaGreatCq16
import Derived.Test.YthdjkkiegecgnaaGreatCq17
import Derived.Test.YthdjkkiegecgnaaGreatCq10
import Derived.Test.YthdjkkiegecgnaaGreatCq13
import Derived.Test.YthdjkkiegecgnaaGreatCq18
set_option maxRecDepth 100000
set_option maxHeartbeats 16000000
namespace Go.Proofs.YthdjkkiegecgnaaGreat
open Go.RowKit Pl
set_option linter.unusedSimpArgs false
set_option linter.unusedVariables false
def nxQ (m:Mt) (t:Tok):Int:=numQ t.c t.r t.q t.a t.b t.ws m.id m.lv m.tx
def nxA (m:Mt) (t:Tok):Int:=numA t.c t.r t.q t.a t.b t.ws m.id m.lv m.tx
def nxTok (m:Mt) (t:Tok):Tok:=⟨t.c,t.r+1,nxQ m t,markA t.c t.r (nxQ m t) (nxA m t) t.b t.ws m.id (aruP (m.spoke t).its:Nat),markD t.c t.r (nxQ m t) (nxA m t) t.b t.ws m.id (aruP (m.spoke t).its:Nat),lackP t.ws (m.spoke t).its (nxQ m t)⟩
def Mt.held (m:Mt) (t:Tok):Mt:=⟨m.id,m.rid,m.ms,(m.spoke t).its,(m.spoke t).lv,(m.spoke t).tx,t.r,t.a,lineP m.li m.se (aruP (m.spoke t).its) t.a,m.he,nxTok m t⟩
def saidL (m:Mt) (t:Tok):List It:=giveP t.ws m.its++freshL m t
theorem below_grown_new {B:Nat} {w w':World} {row:Option Nat} (h:w.grownBy w' row) (hr: ∀k,row=some k→B≤k) (hB:B≤w.heap.size):Below B w w':=(Below.refl B w).grown h hB hr
theorem results_btbt {P:Program} {w:World} {fn:Func} {tmps:Array Value} {p q p2 q2:Tmp} {ty ty2:TypeId} (h:fn.results= #[.cell p ty,.tmp q,.cell p2 ty2,.tmp q2]) (g T:Nat) (cs:List Value) (d:TypeDesc) (hp:tmps.getD p undef=.pointer (some ⟨g,0,none⟩)) (hB:Bx w g T cs)
  (hu:P.underlying ty=some d) (hd:d.isRow=true) (hi:(P.info? ty).map (·.size)=some cs.length) (g2 T2:Nat) (cs2:List Value) (d2:TypeDesc) (hp2:tmps.getD p2 undef=.pointer (some ⟨g2,0,none⟩)) (hB2:Bx w g2 T2 cs2)
  (hu2:P.underlying ty2=some d2) (hd2:d2.isRow=true) (hi2:(P.info? ty2).map (·.size)=some cs2.length):(results fn tmps).run P w=.ok (.tuple #[.agg cs.toArray,tmps.getD q undef,.agg cs2.toArray,tmps.getD q2 undef]) w:=by
 have hl:=run_loadVar_mid (P:=P) w g 0 ty cs d (hB.range 0 cs (by simp)) hu hd hi
 have hl2:=run_loadVar_mid (P:=P) w g2 0 ty2 cs2 d2 (hB2.range 0 cs2 (by simp)) hu2 hd2 hi2
 have hp':tmps[p]?.getD undef=.pointer (some ⟨g,0,none⟩):=by simpa using hp
 have hp2':tmps[p2]?.getD undef=.pointer (some ⟨g2,0,none⟩):=by simpa using hp2
 simp[results,h,hp',hp2',asAddr,hl,hl2]
def itF (d:Int):Int→List ByteArray→List It
 |_,[]=>[]
 |q,x::xs=>(q+1,d,1,x)::itF d (q+1) xs
theorem itF_append (d:Int): ∀(xs ys:List ByteArray) (q:Int),itF d q (xs++ys)=itF d q xs++itF d (q+(xs.length:Int)) ys
 | [],ys,q=>by simp[itF]
 |x::xs,ys,q=>by
  rw[List.cons_append,itF,itF,itF_append d xs ys,List.cons_append,List.length_cons]
  congr 2
  congr 1
  omega
theorem itF_mem (d:Int): ∀(xs:List ByteArray) (q:Int) (y:It),y∈itF d q xs→q<y.1∧y.1≤q+(xs.length:Int)∧y.2.1=d∧y.2.2.1=1∧y.2.2.2∈xs
 | [],q,y,h=>by cases h
 |x::xs,q,y,h=>by
  rw[itF]at h
  rcases List.mem_cons.1 h with rfl|h
  ·exact⟨by show q<q+1;omega,by show q+1≤_;rw[List.length_cons];omega,rfl,rfl,List.mem_cons_self ..⟩
  ·obtain⟨h1,h2,h3,h4,h5⟩:=itF_mem d xs (q+1) y h
   exact⟨by omega,by rw[List.length_cons];omega,h3,h4,List.mem_cons_of_mem _ h5⟩
theorem ins1_end {ts:List It} {y:It} (h: ∀x∈ts,x.1<y.1):ins1 ts y=ts++[y]:=by
 unfold ins1
 rw[if_neg (by rw[hasP_false.2 fun x hx he=>by have:=h x hx;omega];simp),List.filter_eq_self.2 fun x hx=>by simpa using h x hx]
 congr 1
 rw[List.filter_eq_nil_iff.2 fun x hx=>by have:=h x hx;simp;omega]
theorem putAll_itF (d:Int): ∀(ys xs:List ByteArray),putAll (itF d 0 xs) (itF d (xs.length:Int) ys)=itF d 0 (xs++ys)
 | [],xs=>by simp[itF,putAll]
 |y::ys,xs=>by
  have h1:ins1 (itF d 0 xs) ((xs.length:Int)+1,d,1,y)=itF d 0 (xs++[y]):=by
   rw[ins1_end fun x hx=>by have:=(itF_mem d xs 0 x hx).2.1;show x.1<(xs.length:Int)+1;omega,itF_append]
   simp[itF]
  have h2:=putAll_itF d ys (xs++[y])
  rw[itF]
  unfold putAll at h2⊢
  rw[List.foldl_cons,h1]
  rw[List.append_assoc]at h2
  simp only[List.length_append,List.length_cons,List.length_nil,List.cons_append,List.nil_append]at h2
  rw[show((xs.length+(0+1):Nat):Int)=(xs.length:Int)+1 by omega]at h2
  exact h2
theorem lvP_one {lv:List Int} (h: ∀l∈lv,l=1) (k:Nat):lvP lv k=1:=by
 unfold lvP
 rw[if_neg]
 intro e
 have:=h 2 (List.mem_of_getElem? e)
 omega
theorem numGo_itF {d:Int} {lv:List Int} (hlv: ∀l∈lv,l=1): ∀(ts:List ByteArray) (q:Int) (k:Nat),k≤3→(∀t∈ts,t.size≤60)→q+3≤60+(k:Int)→numGo d lv q k ts=itF d q (ts.take (3 - k))
 | [],q,k,_,_,_=>by rw[numGo_stop (by simp)];simp[itF]
 |t::ts,q,k,hk,hs,hq=>by
  by_cases h3:k<3
  ·rw[numGo_step ⟨h3,by omega,hs t (List.mem_cons_self ..)⟩,lvP_one hlv,numGo_itF hlv ts (q+1) (k+1) (by omega) (fun x hx=>hs x (List.mem_cons_of_mem _ hx)) (by omega),show 3 - k=(3 - (k+1))+1 by omega,List.take_succ_cons,itF]
  ·rw[numGo_stop (by intro x hx;omega),show 3 - k=0 by omega];simp[itF]
theorem wGo_mem: ∀(ms:List Int) (l q x:Int),wGo l q ms=true→x∈ms→l<x∧x≤q
 | [],l,q,x,_,h=>by cases h
 |y::ms,l,q,x,h,hx=>by
  rw[wGo]at h
  split at h
  ·cases h
  ·rcases List.mem_cons.1 hx with rfl|hx
   ·omega
   ·have:=wGo_mem ms y q x h hx;omega
theorem ring_parts {i:Int} {ms:List Int} (h:ringB i ms=true):(1≤i∧i≤9)∧0<ms.length∧(∀d∈ms,1≤d∧d≤5)∧ms.length≤5:=by
 unfold ringB at h
 simp only[Bool.and_eq_true,decide_eq_true_eq]at h
 refine⟨h.1,h.2.1,fun d hd=>?_,?_⟩
 ·have:=wGo_mem ms 0 5 d h.2.2 hd;omega
 ·have:=wGo_len ms 0 h.2.2 (by omega);omega
structure SI (d i:Int) (ms:List Int) (xs:List ByteArray) (j:Nat) (m:Mt) (t:Tok):Prop where
 id:m.id=d
 rid:m.rid=i
 ms:m.ms=ms
 its:m.its=itF d 0 (xs.take (3 * j))
 lv:m.lv=List.replicate (xs.length - 3 * j) 1
 tx:m.tx=xs.drop (3 * j)
 rd:m.rd=(j:Int)
 se:0≤m.se∧m.se≤60
 li:0≤m.li∧m.li≤((xs.take (3 * j)).length:Int)
 he:m.he=0
 la:(ntB m.la.c m.la.r m.la.q m.la.a m.la.b m.la.ws||tkB m.la.c m.la.r m.la.q m.la.a m.la.b m.la.ws)=true
 t:t=⟨i,(j:Int)+1,((xs.take (3 * j)).length:Int),((xs.take (3 * j)).length:Int),0,[]⟩
 las:m.la.ws=[]
structure SH (d i:Int) (ms:List Int) (xs:List ByteArray):Prop where
 ring:ringB i ms=true
 mem:d∈ms
 len:xs.length≤9
 sz: ∀t∈xs,t.size≤60
section
variable {d i : Int} {ms : List Int} {xs : List ByteArray} {j : Nat} {m : Mt} {t : Tok}
theorem SH.tk (h:SH d i ms xs) (hj:j≤4):tkB i ((j:Int)+1) ((xs.take (3 * j)).length:Int) ((xs.take (3 * j)).length:Int) 0 []=true:=by
 have h1:=(ring_parts h.ring).1
 have h2:=h.len
 have h3:(xs.take (3 * j)).length≤9:=by rw[List.length_take];omega
 unfold tkB wB
 simp only[Bool.and_eq_true,decide_eq_true_eq]
 exact⟨h1,by omega,by omega,by omega,by omega,by simp,rfl⟩
theorem SI.fresh (s:SI d i ms xs j m t) (h:SH d i ms xs) (hj:j≤4):freshL m t=itF d ((xs.take (3 * j)).length:Int) ((xs.drop (3 * j)).take 3):=by
 have hd:=(ring_parts h.ring).2.2.1 d h.mem
 have h2:=h.len
 have h3:(xs.take (3 * j)).length≤9:=by rw[List.length_take];omega
 unfold freshL numL numOk
 rw[s.t,s.id,s.lv,s.tx]
 rw[h.tk hj,decide_eq_true hd]
 simp only[Bool.and_self,if_true]
 exact numGo_itF (fun l hl=>(List.mem_replicate.1 hl).2) _ _ 0 (by omega) (fun t ht=>h.sz t (List.mem_of_mem_drop ht)) (by omega)
theorem take_three (xs:List ByteArray) (j:Nat):xs.take (3 * j)++(xs.drop (3 * j)).take 3=xs.take (3 * (j+1)):=by
 rw[show 3 * (j+1)=3 * j+3 by omega,List.take_add]
theorem SI.items (s:SI d i ms xs j m t) (h:SH d i ms xs) (hj:j≤4):(m.spoke t).its=itF d 0 (xs.take (3 * (j+1))):=by
 show putAll m.its (freshL m t)=_
 rw[s.fresh h hj,s.its,putAll_itF,take_three]
end
def sIts (m:Mt) (t:Tok):List It:=(freshL m t).foldl putP m.its
def sTok (m:Mt) (t:Tok):Tok:=⟨t.c,t.r+1,nxQ m t,markA t.c t.r (nxQ m t) (nxA m t) t.b t.ws m.id (aruP (sIts m t):Nat),markD t.c t.r (nxQ m t) (nxA m t) t.b t.ws m.id (aruP (sIts m t):Nat),slackP t.ws (sIts m t) (nxQ m t)⟩
def Mt.sheld (m:Mt) (t:Tok):Mt:=⟨m.id,m.rid,m.ms,sIts m t,m.lv.drop (freshL m t).length,m.tx.drop (freshL m t).length,t.r,t.a,lineP m.li m.se (aruP (sIts m t)) t.a,m.he,sTok m t⟩
theorem fresh_len (m:Mt) (t:Tok):(freshL m t).length≤3:=numL_len _ _ _ _ _ _ _ _ _
theorem numGo_le {f:Int} {lv:List Int}: ∀(ts:List ByteArray) (q:Int) (k:Nat),(numGo f lv q k ts).length≤ts.length
 | [],q,k=>by rw[numGo_stop (by simp)];simp
 |t::ts,q,k=>by
  by_cases h:k<3∧q<60∧t.size≤60
  ·rw[numGo_step h];have:=numGo_le (f:=f) (lv:=lv) ts (q+1) (k+1);simp;omega
  ·rw[numGo_stop (by simpa using h)];simp
theorem fresh_le (m:Mt) (t:Tok):(freshL m t).length≤m.tx.length:=by
 unfold freshL numL
 split
 ·exact numGo_le _ _ _
 ·simp
theorem sIts_len_go: ∀(L ts:List It),(L.foldl putP ts).length≤ts.length+L.length
 | [],ts=>by simp
 |y::L,ts=>by have h1:=sIts_len_go L (putP ts y);have h2:=putP_len ts y;rw[List.foldl_cons,List.length_cons];omega
theorem sIts_len (m:Mt) (t:Tok):(sIts m t).length≤m.its.length+3:=by have:=sIts_len_go (freshL m t) m.its;have:=fresh_len m t;unfold sIts;omega
theorem foldl_step {L:List It} {k:Nat} (hk:k<L.length) (ts:List It):(L.take (k+1)).foldl putP ts=putP ((L.take k).foldl putP ts) L[k]:=by
 rw[List.take_succ_eq_append_getElem hk,List.foldl_append];rfl
theorem spGive_s (t:Tok) (s u:Sv) (its:List It) (w:World) (hy:Hid (RI w s.v t.ws)) (hx:Hid (RIt w u.v its)) (hl:its.length≤1048576) (hw:t.ws.length≤1048576):
  Calls Tryz.prog 64 #[.agg #[.int .i64 t.c,.int .i64 t.r,.int .i64 t.q,.int .i64 t.a,.int .i64 t.b,.slice s.a s.n s.c],.slice u.a u.n u.c] w fun e w'=>∃v:Sv,e=.returned (.slice v.a v.n v.c)∧SlI w' w.heap.size v.v (giveP t.ws its)∧Below w.heap.size w w':=by
 obtain⟨aw,cw,e1,x1⟩:=hy.out
 obtain⟨ao,cap,e2,x2⟩:=hx.out
 have h:=spGive_any t.c t.r t.q t.a t.b aw cw t.ws ao cap its w x1 x2 hl hw
 rw[←e1,←e2]at h
 refine h.mono ?_
 rintro e w' ⟨v,rfl,o,b⟩
 obtain⟨z,rfl⟩:=o.sv
 exact⟨z,rfl,o,b⟩
theorem spMark_s (c r q a y d u A D:Int) (s:Sv) (ws:List Int) (w:World) (h:Hid (OwnI w 0 s.v ws)) (hl:ws.length≤1048576) (hA:Hid (A=markA c r q a y ws d u)) (hD:Hid (D=markD c r q a y ws d u)):
  Calls Tryz.prog 67 #[.agg #[.int .i64 c,.int .i64 r,.int .i64 q,.int .i64 a,.int .i64 y,.slice s.a s.n s.c],.int .i64 d,.int .i64 u] w fun e w'=>∃z:Sv,e=.returned (.agg #[.int .i64 c,.int .i64 r,.int .i64 q,.int .i64 A,.int .i64 D,.slice z.a z.n z.c])∧OwnI w' w.heap.size z.v ws∧Below w.heap.size w w':=by
 refine(spMark_any c r q a y d u s.v ws 0 w h hl).mono ?_
 rintro e w' ⟨v,rfl,o,b⟩
 obtain⟨z,rfl⟩:=o.sv
 rw[←hA.out,←hD.out]
 exact⟨z,rfl,o,b⟩
theorem spNumber_s (t:Tok) (f Q A:Int) (s l x:Sv) (lv:List Int) (tx:List ByteArray) (w:World) (h:Hid (OwnI w 0 s.v t.ws)) (hl:t.ws.length≤1048576) (hlv:Hid (RI w l.v lv)) (hll:lv.length≤1048576) (htx:Hid (RT w x.v tx)) (hlt:tx.length≤1048576) (hQ:Hid (Q=numQ t.c t.r t.q t.a t.b t.ws f lv tx)) (hA:Hid (A=numA t.c t.r t.q t.a t.b t.ws f lv tx)):
  Calls Tryz.prog 65 #[.agg #[.int .i64 t.c,.int .i64 t.r,.int .i64 t.q,.int .i64 t.a,.int .i64 t.b,.slice s.a s.n s.c],.int .i64 f,.slice l.a l.n l.c,.slice x.a x.n x.c] w fun e w'=>∃(z fr:Sv),e=.returned (.tuple #[.agg #[.int .i64 t.c,.int .i64 t.r,.int .i64 Q,.int .i64 A,.int .i64 t.b,.slice z.a z.n z.c],.slice fr.a fr.n fr.c])∧OwnI w' w.heap.size z.v t.ws∧SlI w' w.heap.size fr.v (numL t.c t.r t.q t.a t.b t.ws f lv tx)∧Below w.heap.size w w':=by
 obtain⟨al,cl,e1,x1⟩:=hlv.out
 obtain⟨at_,ct,e2,x2⟩:=htx.out
 have h:=spNumber_any t.c t.r t.q t.a t.b f s.v t.ws 0 al cl lv at_ ct tx w h hl x1 hll x2 hlt
 rw[←e1,←e2]at h
 refine h.mono ?_
 rintro e w' ⟨v,vi,rfl,o,oi,b⟩
 obtain⟨z,rfl⟩:=o.sv
 obtain⟨fr,rfl⟩:=oi.sv
 rw[←hQ.out,←hA.out]
 exact⟨z,fr,rfl,o,oi,b⟩
theorem spHold_yes (m:Mt) (v:Mv) (t:Tok) (s:Sv) (w:World) (h:Hid (MtP w m v)) (hs:Hid (OwnI w 0 s.v t.ws)) (hl:t.ws.length≤1048576) (hsz:Hid (MtS m)) (hok:Hid (m.ok=true)) (hmay:Hid (mayB m t=true)):
  Calls Tryz.prog 12 #[.agg #[.int .i64 m.id,.int .i64 m.rid,.slice v.ms.a v.ms.n v.ms.c,.slice v.its.a v.its.n v.its.c,.slice v.lv.a v.lv.n v.lv.c,.slice v.tx.a v.tx.n v.tx.c,.int .i64 m.rd,.int .i64 m.se,.int .i64 m.li,.int .i64 m.he,.int .i64 m.la.c,.int .i64 m.la.r,.int .i64 m.la.q,.int .i64 m.la.a,.int .i64 m.la.b,.slice v.ws.a v.ws.n v.ws.c],.agg #[.int .i64 t.c,.int .i64 t.r,.int .i64 t.q,.int .i64 t.a,.int .i64 t.b,.slice s.a s.n s.c]] w fun e w'=>∃(u:Mv) (fs sn:Sv),e=.returned (.tuple #[.agg #[.int .i64 ((m.sheld t).id),.int .i64 ((m.sheld t).rid),.slice u.ms.a u.ms.n u.ms.c,.slice u.its.a u.its.n u.its.c,.slice u.lv.a u.lv.n u.lv.c,.slice u.tx.a u.tx.n u.tx.c,.int .i64 ((m.sheld t).rd),.int .i64 ((m.sheld t).se),.int .i64 ((m.sheld t).li),.int .i64 ((m.sheld t).he),.int .i64 ((m.sheld t).la.c),.int .i64 ((m.sheld t).la.r),.int .i64 ((m.sheld t).la.q),.int .i64 ((m.sheld t).la.a),.int .i64 ((m.sheld t).la.b),.slice u.ws.a u.ws.n u.ws.c],.slice fs.a fs.n fs.c,.agg #[.int .i64 (sTok m t).c,.int .i64 (sTok m t).r,.int .i64 (sTok m t).q,.int .i64 (sTok m t).a,.int .i64 (sTok m t).b,.slice sn.a sn.n sn.c],.bool true])∧MtP w' (m.sheld t) u∧SlI w' 0 fs.v (saidL m t)∧OwnI w' 0 sn.v (sTok m t).ws∧Below w.heap.size w w':=by
 obtain⟨_,_,hIg,hSy,hRd,_,_,_,_⟩:=ok_parts hok.out
 have hmy:=hmay.out
 unfold mayB at hmy
 simp only[Bool.and_eq_true,decide_eq_true_eq]at hmy
 obtain⟨htk,hcr,hr1,hr2⟩:=hmy
 have HTK:Hid (tkB t.c t.r t.q t.a t.b t.ws=true):=htk
 have q1:(t.c==m.rid)=true:=by simpa using hcr
 have q4:(t.c !=m.rid)=false:=by simpa using hcr
 have q2:decide (t.r≤m.rd)=false:=by simp;omega
 have q3:decide (1000000000≤t.r)=false:=by simp;omega
 have hIl:m.its.length≤60:=iGo_short hIg
 have hLT:m.lv.length=m.tx.length∧m.tx.length≤20:=by unfold sayB at hSy;simp only[Bool.and_eq_true,decide_eq_true_eq]at hSy;exact⟨hSy.2.1,hSy.1⟩
 have HLT:Hid (m.lv.length=m.tx.length∧m.tx.length≤20):=hLT
 clear htk hcr hIg hSy hLT
 obtain⟨NQ,hNQ⟩: ∃x,x=nxQ m t:=⟨_,rfl⟩
 have HNQ:Hid (NQ=nxQ m t):=hNQ
 obtain⟨NA,hNA⟩: ∃x,x=nxA m t:=⟨_,rfl⟩
 have HNA:Hid (NA=nxA m t):=hNA
 clear hNQ hNA
 obtain⟨L,hL⟩: ∃x,x=freshL m t:=⟨_,rfl⟩
 have HL:Hid (L=freshL m t):=hL
 have hL3:L.length≤3:=by rw[hL];exact fresh_len m t
 have hLx:L.length≤m.tx.length:=by rw[hL];exact fresh_le m t
 clear hL
 have HSI:Hid (sIts m t=L.foldl putP m.its):=(by rw[HL.out];rfl:_=_)
 obtain⟨IS,hIS⟩: ∃x,x=sIts m t:=⟨_,rfl⟩
 have HIS:Hid (IS=sIts m t):=hIS
 have hISl:IS.length≤1048576:=by have:=sIts_len m t;rw[hIS];omega
 rw[←hIS]at HSI
 clear hIS
 obtain⟨AR,hAR⟩: ∃x:Nat,x=aruP IS:=⟨_,rfl⟩
 have HAR:Hid (AR=aruP IS):=hAR
 clear hAR
 obtain⟨ML,hML⟩: ∃x,x=markA t.c t.r NQ NA t.b t.ws m.id ((AR:Nat):Int):=⟨_,rfl⟩
 have HML:Hid (ML=markA t.c t.r NQ NA t.b t.ws m.id ((AR:Nat):Int)):=hML
 obtain⟨MD,hMD⟩: ∃x,x=markD t.c t.r NQ NA t.b t.ws m.id ((AR:Nat):Int):=⟨_,rfl⟩
 have HMD:Hid (MD=markD t.c t.r NQ NA t.b t.ws m.id ((AR:Nat):Int)):=hMD
 clear hML hMD
 obtain⟨MA,TK,RM,RZT,BW⟩:=en4 w 32 [.int .i64 m.id,.int .i64 m.rid,.slice v.ms.a v.ms.n v.ms.c,.slice v.its.a v.its.n v.its.c,.slice v.lv.a v.lv.n v.lv.c,.slice v.tx.a v.tx.n v.tx.c,.int .i64 m.rd,.int .i64 m.se,.int .i64 m.li,.int .i64 m.he,.int .i64 m.la.c,.int .i64 m.la.r,.int .i64 m.la.q,.int .i64 m.la.a,.int .i64 m.la.b,.slice v.ws.a v.ws.n v.ws.c] 30 [.int .i64 t.c,.int .i64 t.r,.int .i64 t.q,.int .i64 t.a,.int .i64 t.b,.slice s.a s.n s.c] 32 [.int .i64 0,.int .i64 0,.slice none 0 0,.slice none 0 0,.slice none 0 0,.slice none 0 0,.int .i64 0,.int .i64 0,.int .i64 0,.int .i64 0,.int .i64 0,.int .i64 0,.int .i64 0,.int .i64 0,.int .i64 0,.slice none 0 0] 30 [.int .i64 0,.int .i64 0,.int .i64 0,.int .i64 0,.int .i64 0,.slice none 0 0]
 have QM:=hid (h.out.later BW.out)
 have SW:=hid (ownL hs.out BW.out)
 clear h hs
 go_enter Tryz.func12,Tryz.ntmps12
 go_wp2_with (first|(refine wpList_ldG rfl 32 _ rfl w.heap.size 0 rfl 32 _ MA.out [.int .i64 m.id,.int .i64 m.rid,.slice v.ms.a v.ms.n v.ms.c,.slice v.its.a v.its.n v.its.c,.slice v.lv.a v.lv.n v.lv.c,.slice v.tx.a v.tx.n v.tx.c,.int .i64 m.rd,.int .i64 m.se,.int .i64 m.li,.int .i64 m.he,.int .i64 m.la.c,.int .i64 m.la.r,.int .i64 m.la.q,.int .i64 m.la.a,.int .i64 m.la.b,.slice v.ws.a v.ws.n v.ws.c] rfl _ Tryz.underlying32 rfl Tryz.sizeM ?_))
 generalize ((((w.alloc (.cells #[.int .i64 m.id,.int .i64 m.rid,.slice v.ms.a v.ms.n v.ms.c,.slice v.its.a v.its.n v.its.c,.slice v.lv.a v.lv.n v.lv.c,.slice v.tx.a v.tx.n v.tx.c,.int .i64 m.rd,.int .i64 m.se,.int .i64 m.li,.int .i64 m.he,.int .i64 m.la.c,.int .i64 m.la.r,.int .i64 m.la.q,.int .i64 m.la.a,.int .i64 m.la.b,.slice v.ws.a v.ws.n v.ws.c] 32)).alloc (.cells #[.int .i64 t.c,.int .i64 t.r,.int .i64 t.q,.int .i64 t.a,.int .i64 t.b,.slice s.a s.n s.c] 30)).alloc (.cells #[.int .i64 0,.int .i64 0,.slice none 0 0,.slice none 0 0,.slice none 0 0,.slice none 0 0,.int .i64 0,.int .i64 0,.int .i64 0,.int .i64 0,.int .i64 0,.int .i64 0,.int .i64 0,.int .i64 0,.int .i64 0,.slice none 0 0] 32)).alloc (.cells #[.int .i64 0,.int .i64 0,.int .i64 0,.int .i64 0,.int .i64 0,.slice none 0 0] 30))=W at *
 have zW:w.heap.size+3<W.heap.size:=RZT.out.lt
 refine(tenCopy_any m v _ QM hsz).mono ?_
 rintro e w1 ⟨u,rfl,o1,b⟩
 have z_w1:=b.size
 have MA:=hid (MA.out.later b)
 have TK:=hid (TK.out.later b)
 have RM:=hid (RM.out.later b)
 have RZT:=hid (RZT.out.later b)
 have BW:=hid (bl_next BW.out b)
 have QM:=hid (QM.out.later b)
 have SW:=hid (ownL SW.out b)
 clear b
 have MS:Hid (OwnI w1 W.heap.size (u.ms.v) (m.ms)):=o1.ms
 have IT:Hid (SlI w1 W.heap.size (u.its.v) (m.its)):=o1.its
 have LV:Hid (OwnI w1 W.heap.size (u.lv.v) (m.lv)):=o1.lv
 have TX:Hid (OwnS w1 W.heap.size (u.tx.v) (m.tx)):=o1.tx
 clear o1
 have hz:=hid (Bx.new w1 32 [.int .i64 0,.int .i64 0,.slice none 0 0,.slice none 0 0,.slice none 0 0,.slice none 0 0,.int .i64 0,.int .i64 0,.int .i64 0,.int .i64 0,.int .i64 0,.int .i64 0,.int .i64 0,.int .i64 0,.int .i64 0,.slice none 0 0])
 go_wp2_with (first|(refine wpList_stW rfl 32 _ _ rfl w1.heap.size rfl 32 _ hz.out [.int .i64 m.id,.int .i64 m.rid,.slice u.ms.a u.ms.n u.ms.c,.slice u.its.a u.its.n u.its.c,.slice u.lv.a u.lv.n u.lv.c,.slice u.tx.a u.tx.n u.tx.c,.int .i64 m.rd,.int .i64 m.se,.int .i64 m.li,.int .i64 m.he,.int .i64 m.la.c,.int .i64 m.la.r,.int .i64 m.la.q,.int .i64 m.la.a,.int .i64 m.la.b,.slice u.ws.a u.ws.n u.ws.c] rfl rfl Tryz.sizeM rfl ?_;intro w2 OB TB;have b:Below w1.heap.size w1 w2:=((Below.refl _ _).alloc (Nat.le_refl _) _).trans (TB.below (Nat.le_refl _));have G:=hid OB;have z_w2:=b.size;have MA:=hid (MA.out.later b);have TK:=hid (TK.out.later b);have RM:=hid (RM.out.later b);have RZT:=hid (RZT.out.later b);have BW:=hid (bl_next BW.out b);have QM:=hid (QM.out.later b);have SW:=hid (ownL SW.out b);have MS:=hid (ownL MS.out b);have IT:=hid (IT.out.below b);have LV:=hid (ownL LV.out b);have TX:=hid (ownT TX.out b);clear OB TB b;refine Stp.here ?_))
 refine Stp.go ?_
 clear hz
 have zl_G:=G.out.lt
 generalize hg_G:w1.heap.size=g at *
 clear hg_G
 have ZIT:Hid (∀n,u.its.v.ownBlock=some n→n<w2.heap.size):=fun n hn=>(IT.out.lt n hn).2
 have b:=bA w2 (.cells #[] 41)
 have MA:=hid (MA.out.later b)
 have TK:=hid (TK.out.later b)
 have RM:=hid (RM.out.later b)
 have RZT:=hid (RZT.out.later b)
 have BW:=hid (bl_next BW.out b)
 have QM:=hid (QM.out.later b)
 have SW:=hid (ownL SW.out b)
 have MS:=hid (ownL MS.out b)
 have IT:=hid (IT.out.below b)
 have LV:=hid (ownL LV.out b)
 have TX:=hid (ownT TX.out b)
 have G:=hid (G.out.later b)
 clear b
 have SD:Hid (SlI (w2.alloc (.cells #[] 41)) w2.heap.size (.slice (some ⟨w2.heap.size,0,none⟩) 0 0) ([])):=SlI.made w2 w2.heap.size (Nat.le_refl _)
 go_wp2_with (first|(refine wpList_ldG rfl 32 _ rfl w.heap.size 0 rfl 32 _ MA.out [.int .i64 m.id,.int .i64 m.rid,.slice v.ms.a v.ms.n v.ms.c,.slice v.its.a v.its.n v.its.c,.slice v.lv.a v.lv.n v.lv.c,.slice v.tx.a v.tx.n v.tx.c,.int .i64 m.rd,.int .i64 m.se,.int .i64 m.li,.int .i64 m.he,.int .i64 m.la.c,.int .i64 m.la.r,.int .i64 m.la.q,.int .i64 m.la.a,.int .i64 m.la.b,.slice v.ws.a v.ws.n v.ws.c] rfl _ Tryz.underlying32 rfl Tryz.sizeM ?_))
 have zS0:(w2.alloc (.cells #[] 41)).heap.size=w2.heap.size+1:=by simp
 generalize (w2.alloc (.cells #[] 41))=w3 at *
 refine(spMateOk_any m v _ QM.out.r hsz).mono ?_
 rintro e w4 ⟨rfl,b⟩
 have z_w4:=b.size
 have MA:=hid (MA.out.later b)
 have TK:=hid (TK.out.later b)
 have RM:=hid (RM.out.later b)
 have RZT:=hid (RZT.out.later b)
 have BW:=hid (bl_next BW.out b)
 have QM:=hid (QM.out.later b)
 have SW:=hid (ownL SW.out b)
 have MS:=hid (ownL MS.out b)
 have IT:=hid (IT.out.below b)
 have LV:=hid (ownL LV.out b)
 have TX:=hid (ownT TX.out b)
 have G:=hid (G.out.later b)
 have SD:=hid (SD.out.below b)
 clear b
 rw[hok.out]
 clear QM
 go_wp2_with (first|(refine wpList_ldG rfl 30 _ rfl (w.heap.size+1) 0 rfl 30 _ TK.out [.int .i64 t.c,.int .i64 t.r,.int .i64 t.q,.int .i64 t.a,.int .i64 t.b,.slice s.a s.n s.c] rfl _ Tryz.underlying30 rfl Tryz.sizeT ?_))
 refine(spTokenOk_r t.c t.r t.q t.a t.b t.ws (show Hid (RI w4 (.slice s.a s.n s.c) t.ws)from SW.out.ri) hl).mono ?_
 rintro e w5 ⟨rfl,b⟩
 have z_w5:=b.size
 have MA:=hid (MA.out.later b)
 have TK:=hid (TK.out.later b)
 have RM:=hid (RM.out.later b)
 have RZT:=hid (RZT.out.later b)
 have BW:=hid (bl_next BW.out b)
 have SW:=hid (ownL SW.out b)
 have MS:=hid (ownL MS.out b)
 have IT:=hid (IT.out.below b)
 have LV:=hid (ownL LV.out b)
 have TX:=hid (ownT TX.out b)
 have G:=hid (G.out.later b)
 have SD:=hid (SD.out.below b)
 clear b
 rw[HTK.out]
 have c_TK_0:=TK.out.cell 0
 have c_TK_1:=TK.out.cell 1
 have c_MA_1:=MA.out.cell 1
 have c_MA_6:=MA.out.cell 6
 have c_G_3:=G.out.cell 3
 go_wp2_with (first|(refine wpList_ldG rfl 30 _ rfl (w.heap.size+1) 0 rfl 30 _ TK.out [.int .i64 t.c,.int .i64 t.r,.int .i64 t.q,.int .i64 t.a,.int .i64 t.b,.slice s.a s.n s.c] rfl _ Tryz.underlying30 rfl Tryz.sizeT ?_))
 refine(spGive_s t s u.its m.its _ (show Hid (RI w5 s.v t.ws)from SW.out.ri) (show Hid (RIt w5 u.its.v m.its)from IT.out.rit) (by omega) hl).mono ?_
 rintro e w6 ⟨gv,rfl,og,b⟩
 have z_w6:=b.size
 have MA:=hid (MA.out.later b)
 have TK:=hid (TK.out.later b)
 have RM:=hid (RM.out.later b)
 have RZT:=hid (RZT.out.later b)
 have BW:=hid (bl_next BW.out b)
 have SW:=hid (ownL SW.out b)
 have MS:=hid (ownL MS.out b)
 have IT:=hid (IT.out.below b)
 have LV:=hid (ownL LV.out b)
 have TX:=hid (ownT TX.out b)
 have G:=hid (G.out.later b)
 have SD:=hid (SD.out.below b)
 clear b
 clear c_TK_0 c_TK_1 c_MA_1 c_MA_6 c_G_3 q1 q2 q3 q4
 have GV:Hid (SlI w6 w5.heap.size (gv.v) (giveP t.ws m.its)):=og
 clear og
 have hgl:(giveP t.ws m.its).length≤60:=Nat.le_trans (List.length_filter_le _ _) hIl
 have z26:w2.heap.size≤w6.heap.size:=by omega
 go_wp2_with (first|(at_builtin;refine wpList_catIt rfl _ _ 27 rfl Tryz.underlying27 w2.heap.size (.slice (some ⟨w2.heap.size,0,none⟩) 0 0) [] rfl SD.out (.slice gv.a gv.n gv.c) (giveP t.ws m.its) rfl GV.out.rit (by simp;omega) z26 ?_;intro vs w7 os hg _;refine Stp.here ?_))
 refine Stp.go ?_
 obtain⟨sd,hfs⟩:=SlI.sv os
 subst hfs
 rw[List.nil_append]at os
 have KK:KeepTy (fun X=>X=41) w6 w7:=KeepTy.ofGrown hg (fun k hk=>by obtain⟨cs,hc⟩:=own_is_it SD.out hk;exact⟨cs,_,_,hc,rfl⟩)
 have z_w7:=hg.size
 have MA:=hid (MA.out.kt KK (by decide))
 have TK:=hid (TK.out.kt KK (by decide))
 have RM:=hid (RM.out.kt KK (by decide))
 have RZT:=hid (RZT.out.kt KK (by decide))
 have BW:Hid (Below w.heap.size w w7):=BW.out.trans (below_grown_new hg (fun k hk=>by simp[Value.ownBlock]at hk;omega) BW.out.size)
 have SW:=hid (SW.out.kt KK (by decide))
 have MS:=hid (MS.out.kt KK (by decide))
 have IT:Hid (SlI w7 W.heap.size (u.its.v) (m.its)):=IT.out.kept hg (fun n a e=>by have:=ZIT.out n a;simp[Value.ownBlock]at e;omega)
 have LV:=hid (LV.out.kt KK (by decide))
 have TX:=hid (TX.out.kt KK (by decide))
 have G:=hid (G.out.kt KK (by decide))
 clear KK
 clear SD GV
 have SD:Hid (SlI w7 w2.heap.size (sd.v) (giveP t.ws m.its)):=os
 clear os hg
 have ZSD:Hid (∀n,sd.v.ownBlock=some n→w2.heap.size≤n∧n<w7.heap.size):=fun n hn=>SD.out.lt n hn
 have c_MA_0:=MA.out.cell 0
 have c_G_4:=G.out.cell 4
 have c_G_5:=G.out.cell 5
 go_wp2_with (first|(refine wpList_ldG rfl 30 _ rfl (w.heap.size+1) 0 rfl 30 _ TK.out [.int .i64 t.c,.int .i64 t.r,.int .i64 t.q,.int .i64 t.a,.int .i64 t.b,.slice s.a s.n s.c] rfl _ Tryz.underlying30 rfl Tryz.sizeT ?_))
 refine(spNumber_s t m.id NQ NA s u.lv u.tx m.lv m.tx _ SW hl (show Hid (RI w7 u.lv.v m.lv)from LV.out.ri) hsz.out.lv (show Hid (RT w7 u.tx.v m.tx)from TX.out.rt) hsz.out.tx HNQ HNA).mono ?_
 rintro e w8 ⟨nw,fr,rfl,on,of0,b⟩
 have z_w8:=b.size
 have MA:=hid (MA.out.later b)
 have TK:=hid (TK.out.later b)
 have RM:=hid (RM.out.later b)
 have RZT:=hid (RZT.out.later b)
 have BW:=hid (bl_next BW.out b)
 have SW:=hid (ownL SW.out b)
 have MS:=hid (ownL MS.out b)
 have IT:=hid (IT.out.below b)
 have LV:=hid (ownL LV.out b)
 have TX:=hid (ownT TX.out b)
 have G:=hid (G.out.later b)
 have SD:=hid (SD.out.below b)
 clear b
 clear c_MA_0 c_G_4 c_G_5
 clear SW
 have NW:=hid (on.down (Nat.zero_le _))
 have of1:SlI w8 w7.heap.size fr.v (freshL m t):=of0
 rw[←HL.out]at of1
 have FR:Hid (SlI w8 w7.heap.size (fr.v) (L)):=of1
 clear on of0 of1
 have hz:=hid (Bx.new w8 30 [.int .i64 0,.int .i64 0,.int .i64 0,.int .i64 0,.int .i64 0,.slice none 0 0])
 go_wp2_with (first|(refine wpList_stW rfl 30 _ _ rfl w8.heap.size rfl 30 _ hz.out [.int .i64 t.c,.int .i64 t.r,.int .i64 NQ,.int .i64 NA,.int .i64 t.b,.slice nw.a nw.n nw.c] rfl rfl Tryz.sizeT rfl ?_;intro w9 OB TB;have b:Below w8.heap.size w8 w9:=((Below.refl _ _).alloc (Nat.le_refl _) _).trans (TB.below (Nat.le_refl _));have N:=hid OB;have z_w9:=b.size;have MA:=hid (MA.out.later b);have TK:=hid (TK.out.later b);have RM:=hid (RM.out.later b);have RZT:=hid (RZT.out.later b);have BW:=hid (bl_next BW.out b);have MS:=hid (ownL MS.out b);have IT:=hid (IT.out.below b);have LV:=hid (ownL LV.out b);have TX:=hid (ownT TX.out b);have G:=hid (G.out.later b);have SD:=hid (SD.out.below b);have NW:=hid (ownL NW.out b);have FR:=hid (FR.out.below b);clear OB TB b;refine Stp.here ?_))
 refine Stp.go ?_
 clear hz
 have zl_N:=N.out.lt
 generalize hg_N:w8.heap.size=gn at *
 clear hg_N
 have HFN:Hid (fr.n=L.length):=FR.out.len
 have b:=bA w9 (.cells #[] 3)
 have G0:=hid (G.out.later b)
 have cg:=G0.out.cell 4
 have S0:Hid (Sl (w9.alloc (.cells #[] 3)) 3 1 0 (.slice u.lv.a u.lv.n u.lv.c) u.lv.n (m.lv.map (Value.int .i64))):=by show Sl _ _ _ _ _ _ _;have:=Sl.below (LV.out.j.down (Nat.zero_le _)) b;rw[←LV.out.slen]at this;exact this
 have HN0:Hid (u.lv.n=m.lv.length):=LV.out.slen
 have hcut:fr.n≤u.lv.n:=by have h1:=HFN.out;have h2:=HN0.out;have h3:=HLT.out;omega
 have OW:Hid (OwnI (w9.alloc (.cells #[] 3)) w9.heap.size (.slice (some ⟨w9.heap.size,0,none⟩) 0 0) []):=OwnI.made w9 w9.heap.size (Nat.le_refl _)
 have hdl:(m.lv.drop L.length).length≤100:=by rw[List.length_drop];have:=HLT.out;omega
 clear b
 go_wp2_with (first|(with_reducible refine wpList_haltC _ _ _ rfl ?_))
 refine Stp.go ?_
 refine wpList_cutS rfl 24 _ _ rfl Tryz.underlying24 Tryz.size3 rfl rfl S0.out hcut ?_
 intro vc SC
 have RC:Hid (RI (w9.alloc (.cells #[] 3)) vc (m.lv.drop L.length)):=(by rw[←HFN.out];exact cutJ SC HN0.out)
 clear SC
 go_wp2_with (first|(at_builtin;refine wpList_catR rfl _ _ 24 rfl Tryz.underlying24 Tryz.info3' w9.heap.size (.slice (some ⟨w9.heap.size,0,none⟩) 0 0) [] rfl OW.out _ (m.lv.drop L.length) rfl RC.out (by simp only[List.length_nil];omega) (Nat.le_of_lt (by simp)) (fun h=>by cases h) ?_;intro v1 w10 o1 hg1;refine Stp.here ?_))
 refine Stp.go ?_
 obtain⟨lv2,hf1⟩:=o1.sv
 subst hf1
 rw[List.nil_append]at o1
 have b:Below w9.heap.size w9 w10:=below_grown (Below.refl _ _) (Nat.le_refl _) hg1
 clear G0 cg S0 HN0 hcut OW hdl RC hg1
 have z_w10:=b.size
 have MA:=hid (MA.out.later b)
 have TK:=hid (TK.out.later b)
 have RM:=hid (RM.out.later b)
 have RZT:=hid (RZT.out.later b)
 have BW:=hid (bl_next BW.out b)
 have MS:=hid (ownL MS.out b)
 have IT:=hid (IT.out.below b)
 have LV:=hid (ownL LV.out b)
 have TX:=hid (ownT TX.out b)
 have G:=hid (G.out.later b)
 have SD:=hid (SD.out.below b)
 have NW:=hid (ownL NW.out b)
 have FR:=hid (FR.out.below b)
 have N:=hid (N.out.later b)
 clear b
 clear LV
 have LV:=hid (o1.down (Nat.zero_le _))
 clear o1
 go_wp2_with (first|(refine wpList_st1 rfl 24 _ _ rfl g 4 rfl 32 _ G.out (.slice lv2.a lv2.n lv2.c) rfl (by simp) rfl Tryz.sizeNs [.int .i64 m.id,.int .i64 m.rid,.slice u.ms.a u.ms.n u.ms.c,.slice u.its.a u.its.n u.its.c,.slice lv2.a lv2.n lv2.c,.slice u.tx.a u.tx.n u.tx.c,.int .i64 m.rd,.int .i64 m.se,.int .i64 m.li,.int .i64 m.he,.int .i64 m.la.c,.int .i64 m.la.r,.int .i64 m.la.q,.int .i64 m.la.a,.int .i64 m.la.b,.slice u.ws.a u.ws.n u.ws.c] rfl ?_;intro w11 OB TB;have z_w11:w10.heap.size≤w11.heap.size:=Nat.le_of_eq TB.size.symm;have MA:=hid (MA.out.turn TB (by omega));have TK:=hid (TK.out.turn TB (by omega));have RM:=hid (RM.out.turn TB (by omega));have RZT:=hid (RZT.out.turn TB (by omega));have BW:=hid (BW.out.trans (TB.below (by omega)));have MS:=hid (MS.out.past G.out TB (by decide));have IT:=hid (IT.out.past G.out TB (by decide));have TX:=hid (TX.out.past G.out TB (by decide));have SD:=hid (SD.out.past G.out TB (by decide));have NW:=hid (NW.out.past G.out TB (by decide));have FR:=hid (FR.out.past G.out TB (by decide));have N:=hid (N.out.turn TB (by omega));have LV:=hid (LV.out.past G.out TB (by decide));have G:=hid OB;clear OB TB;refine Stp.here ?_))
 refine Stp.go ?_
 have b:=bA w11 (.cells #[] 9)
 have G0:=hid (G.out.later b)
 have cg:=G0.out.cell 5
 have S0:Hid (Sl (w11.alloc (.cells #[] 9)) 9 1 0 (.slice u.tx.a u.tx.n u.tx.c) u.tx.n (m.tx.map Value.string)):=by show Sl _ _ _ _ _ _ _;have:=Sl.below (TX.out.x.down (Nat.zero_le _)) b;rw[←TX.out.slen]at this;exact this
 have HN0:Hid (u.tx.n=m.tx.length):=TX.out.slen
 have hcut:fr.n≤u.tx.n:=by have h1:=HFN.out;have h2:=HN0.out;have h3:=HLT.out;omega
 have OW:Hid (OwnS (w11.alloc (.cells #[] 9)) w11.heap.size (.slice (some ⟨w11.heap.size,0,none⟩) 0 0) []):=OwnS.made w11 w11.heap.size (Nat.le_refl _)
 have hdl:(m.tx.drop L.length).length≤100:=by rw[List.length_drop];have:=HLT.out;omega
 clear b
 go_wp2_with (first|(with_reducible refine wpList_haltC _ _ _ rfl ?_))
 refine Stp.go ?_
 refine wpList_cutS rfl 28 _ _ rfl Tryz.underlying28 Tryz.size9 rfl rfl S0.out hcut ?_
 intro vc SC
 have RC:Hid (RT (w11.alloc (.cells #[] 9)) vc (m.tx.drop L.length)):=(by rw[←HFN.out];exact cutX SC HN0.out)
 clear SC
 go_wp2_with (first|(at_builtin;refine wpList_catT rfl _ _ 28 rfl Tryz.underlying28 Tryz.info9 w11.heap.size (.slice (some ⟨w11.heap.size,0,none⟩) 0 0) [] rfl OW.out _ (m.tx.drop L.length) rfl RC.out (by simp only[List.length_nil];omega) (Nat.le_of_lt (by simp)) (fun h=>by cases h) ?_;intro v1 w12 o1 hg1;refine Stp.here ?_))
 refine Stp.go ?_
 obtain⟨tx2,hf1⟩:=o1.sv
 subst hf1
 rw[List.nil_append]at o1
 have b:Below w11.heap.size w11 w12:=below_grown (Below.refl _ _) (Nat.le_refl _) hg1
 clear G0 cg S0 HN0 hcut OW hdl RC hg1
 have z_w12:=b.size
 have MA:=hid (MA.out.later b)
 have TK:=hid (TK.out.later b)
 have RM:=hid (RM.out.later b)
 have RZT:=hid (RZT.out.later b)
 have BW:=hid (bl_next BW.out b)
 have MS:=hid (ownL MS.out b)
 have IT:=hid (IT.out.below b)
 have TX:=hid (ownT TX.out b)
 have G:=hid (G.out.later b)
 have SD:=hid (SD.out.below b)
 have NW:=hid (ownL NW.out b)
 have FR:=hid (FR.out.below b)
 have N:=hid (N.out.later b)
 have LV:=hid (ownL LV.out b)
 clear b
 clear TX
 have TX:=hid (o1.down (Nat.zero_le _))
 clear o1
 go_wp2_with (first|(refine wpList_st1 rfl 28 _ _ rfl g 5 rfl 32 _ G.out (.slice tx2.a tx2.n tx2.c) rfl (by simp) rfl Tryz.sizeTs [.int .i64 m.id,.int .i64 m.rid,.slice u.ms.a u.ms.n u.ms.c,.slice u.its.a u.its.n u.its.c,.slice lv2.a lv2.n lv2.c,.slice tx2.a tx2.n tx2.c,.int .i64 m.rd,.int .i64 m.se,.int .i64 m.li,.int .i64 m.he,.int .i64 m.la.c,.int .i64 m.la.r,.int .i64 m.la.q,.int .i64 m.la.a,.int .i64 m.la.b,.slice u.ws.a u.ws.n u.ws.c] rfl ?_;intro w13 OB TB;have z_w13:w12.heap.size≤w13.heap.size:=Nat.le_of_eq TB.size.symm;have MA:=hid (MA.out.turn TB (by omega));have TK:=hid (TK.out.turn TB (by omega));have RM:=hid (RM.out.turn TB (by omega));have RZT:=hid (RZT.out.turn TB (by omega));have BW:=hid (BW.out.trans (TB.below (by omega)));have MS:=hid (MS.out.past G.out TB (by decide));have IT:=hid (IT.out.past G.out TB (by decide));have SD:=hid (SD.out.past G.out TB (by decide));have NW:=hid (NW.out.past G.out TB (by decide));have FR:=hid (FR.out.past G.out TB (by decide));have N:=hid (N.out.turn TB (by omega));have LV:=hid (LV.out.past G.out TB (by decide));have TX:=hid (TX.out.past G.out TB (by decide));have G:=hid OB;clear OB TB;refine Stp.here ?_))
 refine Stp.go ?_
 have K0:Hid (KeepBut g w13 w13):=keep_of_below (Below.refl _ _)
 have zg13:=G.out.lt
 go_wp2_with fail
 go_loopw [12] (fun v12 wr=>∃(j:Nat) (n:Sv) (its:List It),j≤L.length∧v12=.int .i64 (j:Int)∧Hid (SlI wr 0 n.v its)∧Hid (its=(L.take j).foldl putP m.its)∧Hid (Bx wr g 32 [.int .i64 m.id,.int .i64 m.rid,.slice u.ms.a u.ms.n u.ms.c,.slice n.a n.n n.c,.slice lv2.a lv2.n lv2.c,.slice tx2.a tx2.n tx2.c,.int .i64 m.rd,.int .i64 m.se,.int .i64 m.li,.int .i64 m.he,.int .i64 m.la.c,.int .i64 m.la.r,.int .i64 m.la.q,.int .i64 m.la.a,.int .i64 m.la.b,.slice u.ws.a u.ws.n u.ws.c])∧Hid (KeepBut g w13 wr)∧Hid (∀x,n.v.ownBlock=some x→x<w2.heap.size∨w7.heap.size≤x)) (fun v12 _=>L.length - (intOf v12).toNat)
 case atStart=>exact⟨0,u.its,m.its,Nat.zero_le _,rfl,SlI.down IT.out (Nat.zero_le _),rfl,G,K0,fun x hx=>.inl (ZIT.out x hx)⟩
 case round=>
  clear K0
  obtain⟨j,n,its,hj,rfl,NI,HE,GG,KK,ZN⟩:=hrel
  have zr:w13.heap.size≤wr.heap.size:=KK.out.size
  have hitl:its.length≤63:=by have h1:=sIts_len_go (L.take j) m.its;have h2:=HE.out;rw[←h2,List.length_take]at h1;omega
  by_cases hlt:j<L.length
  ·have hd:decide ((j:Int)<(fr.n:Int))=true:=by have:=HFN.out;simp;omega
   have FR1:=hid (FR.out.keepb G.out KK.out (by decide))
   obtain⟨gf,fo,hfa,hfb,hfl,hfr⟩:=FR1.out.at hlt
   obtain⟨⟨q0,f0,l0,t0⟩,hy⟩: ∃y:It,L[j]=y:=⟨_,rfl⟩
   rw[hy]at hfr
   have HY:Hid (L[j]=(q0,f0,l0,t0)):=hy
   have HFR:Hid (wr.rangeAt gf (fo+j * 4) [.int .i64 q0,.int .i64 f0,.int .i64 l0,.string t0]):=hfr
   clear hy hfr
   obtain⟨fa,fn,fc⟩:=fr
   simp only at hfa
   subst hfa
   have hjn:j<fn:=by have:=HFN.out;simp at this;omega
   go_wp2_with fail
   have c:Below wr.heap.size wr wr.drew:=(Below.refl _ _).drew
   refine wp_region_heldLast (S:=fun w'=>Below wr.heap.size wr w') _ (by simp) (by kernel_rfl) (by rfl) (by rfl) (by kernel_rfl) (by kernel_rfl) c (fun hHeld=>?_)
   simp only[List.dropLast_cons_cons,List.dropLast_singleton,List.getLast_cons_cons,List.getLast_singleton,List.cons_append,List.nil_append,List.length_cons,List.length_nil]
   refine tkP (i:=0) rfl (by kernel_rfl) (fun _ _ _ h=>h) (by rfl) (fun w hSw=>by simp only[LgT,Lg0,LgS];go_simp;try with_reducible rfl) (by assumption) ?_
   try simp only[Act.put,LgT,Lg0,LgS,LsT,Ls0,LsS]
   refine tkH (i:=1) (v:=_) rfl (by kernel_rfl) (fun _ _ _ h=>h) (ld1_yield (by rfl) 27 _ rfl g 3 rfl 32 _ (fun w hS=>GG.out.later hS) (.slice n.a n.n n.c) rfl _ Tryz.underlying27 rfl) (by assumption) ?_
   try simp only[Act.put,LgT,Lg0,LgS,LsT,Ls0,LsS]
   refine tkP (i:=2) rfl (by kernel_rfl) (fun _ _ _ h=>h) (by rfl) (fun w hSw=>by simp only[LgT,Lg0,LgS];go_simp;try with_reducible rfl) (by assumption) ?_
   try simp only[Act.put,LgT,Lg0,LgS,LsT,Ls0,LsS]
   refine tkP (i:=3) rfl (by kernel_rfl) (fun _ _ _ h=>h) (by rfl) (fun w hSw=>by simp only[LgT,Lg0,LgS];go_simp;try with_reducible rfl) (by assumption) ?_
   try simp only[Act.put,LgT,Lg0,LgS,LsT,Ls0,LsS]
   refine tkP (i:=4) rfl (by kernel_rfl) (fun _ _ _ h=>h) (by rfl) (fun w hSw=>by simp only[LgT,Lg0,LgS];go_simp;try with_reducible rfl) (by assumption) ?_
   try simp only[Act.put,LgT,Lg0,LgS,LsT,Ls0,LsS]
   refine tkH (i:=5) (v:=_) rfl (by kernel_rfl) (fun _ _ _ h=>h) (ldN_yield (by rfl) 41 _ rfl gf (fo+j * 4) (by rfl) [.int .i64 q0,.int .i64 f0,.int .i64 l0,.string t0] (fun w hS=>range_later HFR.out hfl hS) _ Tryz.underlying41 rfl Tryz.sizeI) (by assumption) ?_
   try simp only[Act.put,LsT,Ls0,LsS]
   refine wpAnyH_ready (rs:=[6]) (by kernel_rfl) (by simp) ?_
   refine AllReadyH.cons (i:=6) rfl (fun K hK=>?_) AllReadyH.nil
   rw[if_pos (by rfl)]
   simp only[LgT,Lg0,LgS]
   go_simp
   refine(spPutItem_s n its q0 f0 l0 t0 _ (show Hid (RIt wr.drew n.v its)from NI.out.rit.stays c) (by omega)).mono ?_
   rintro e y1 ⟨p,rfl,op,d1⟩
   have zc:=c.size
   have c1:=bl_next c d1
   refine hK.out _ _ (c1) (fun hHeld=>?_)
   clear hK K
   try simp only[Act.put,LgT,Lg0,LgS,LsT,Ls0,LsS]
   clear d1
   refine tkP (i:=7) rfl (by kernel_rfl) (fun _ _ _ h=>h) (by rfl) (fun w hSw=>by simp only[LgT,Lg0,LgS];go_simp;try with_reducible rfl) (by assumption) ?_
   try simp only[Act.put,LgT,Lg0,LgS,LsT,Ls0,LsS]
   refine tkP (i:=8) rfl (by kernel_rfl) (fun _ _ _ h=>h) (by rfl) (fun w hSw=>by simp only[LgT,Lg0,LgS];go_simp;try with_reducible rfl) (by assumption) ?_
   try simp only[Act.put,LgT,Lg0,LgS,LsT,Ls0,LsS]
   refine wpAnyH_done (by kernel_rfl) ?_ _
   have GG1:=hid (GG.out.later c1)
   refine lastQ_of rfl rfl ?_
   refine wp_st1 27 _ _ rfl g 3 rfl 32 _ GG1.out (.slice p.a p.n p.c) rfl (by simp) rfl Tryz.sizeIs [.int .i64 m.id,.int .i64 m.rid,.slice u.ms.a u.ms.n u.ms.c,.slice p.a p.n p.c,.slice lv2.a lv2.n lv2.c,.slice tx2.a tx2.n tx2.c,.int .i64 m.rd,.int .i64 m.se,.int .i64 m.li,.int .i64 m.he,.int .i64 m.la.c,.int .i64 m.la.r,.int .i64 m.la.q,.int .i64 m.la.a,.int .i64 m.la.b,.slice u.ws.a u.ws.n u.ws.c] rfl ?_
   intro w15 OB TB
   have K5:=hid ((KK.out.trans (keep_of_below c1)).trans TB.keep)
   have P5:Hid (SlI w15 0 p.v (putP its (q0,f0,l0,t0))):=(SlI.down op (Nat.zero_le _)).past GG1.out TB (by decide)
   have Z5:Hid (∀x,p.v.ownBlock=some x→x<w2.heap.size∨w7.heap.size≤x):=fun x hx=>.inr (by have:=(SlI.lt op x hx).1;omega)
   have E5:Hid (putP its (q0,f0,l0,t0)=(L.take (j+1)).foldl putP m.its):=(by rw[foldl_step hlt,HY.out,HE.out]:_=_)
   have G5:=hid OB
   clear OB TB GG GG1 NI op c c1 zc hHeld KK FR1 ZN HFR
   go_wp2_with fail
   go_roundw
   case rel=>exact⟨j+1,p,_,by omega,by go_num,P5,E5,G5,K5,Z5⟩
   case measure=>simp[intOf];omega
  ·have hjL:j=L.length:=by omega
   have hd:decide ((j:Int)<(fr.n:Int))=false:=by have:=HFN.out;simp;omega
   have hd2: ¬j<fr.n:=by have:=HFN.out;omega
   have e:its=IS:=by have h1:=HE.out;rw[hjL,List.take_length]at h1;rw[h1];exact HSI.out.symm
   rw[e]at NI
   clear e HE hjL hitl hlt
   have MA1:=hid (MA.out.keepb KK.out (by omega))
   have TK1:=hid (TK.out.keepb KK.out (by omega))
   have RM1:=hid (RM.out.keepb KK.out (by omega))
   have RZT1:=hid (RZT.out.keepb KK.out (by omega))
   have BW1:=hid (BW.out.trans (KK.out.below (by omega) BW.out.size))
   have MS1:=hid (MS.out.keepb G.out KK.out (by decide))
   have SD1:=hid (SD.out.keepb G.out KK.out (by decide))
   have NW1:=hid (NW.out.keepb G.out KK.out (by decide))
   have FR1:=hid (FR.out.keepb G.out KK.out (by decide))
   have N1:=hid (N.out.keepb KK.out (by omega))
   have LV1:=hid (LV.out.keepb G.out KK.out (by decide))
   have TX1:=hid (TX.out.keepb G.out KK.out (by decide))
   clear KK
   have hsf:(giveP t.ws m.its).length+L.length≤2097152:=by omega
   have z2r:w2.heap.size≤wr.heap.size:=by omega
   go_wp2_with (first|(at_builtin;refine wpList_catIt rfl _ _ 27 rfl Tryz.underlying27 w2.heap.size (.slice sd.a sd.n sd.c) (giveP t.ws m.its) rfl SD1.out (.slice fr.a fr.n fr.c) L rfl FR1.out.rit hsf z2r ?_;intro vs w16 os hg _;refine Stp.here ?_))
   refine Stp.go ?_
   obtain⟨fs,hfs⟩:=SlI.sv os
   subst hfs
   have KK:KeepTy (fun X=>X=41) wr w16:=KeepTy.ofGrown hg (fun k hk=>by obtain⟨cs,hc⟩:=own_is_it SD1.out hk;exact⟨cs,_,_,hc,rfl⟩)
   have z_w16:=hg.size
   have MA1:=hid (MA1.out.kt KK (by decide))
   have TK1:=hid (TK1.out.kt KK (by decide))
   have RM1:=hid (RM1.out.kt KK (by decide))
   have RZT1:=hid (RZT1.out.kt KK (by decide))
   have BW1:Hid (Below w.heap.size w w16):=BW1.out.trans (below_grown_new hg (fun k hk=>by have:=(ZSD.out k hk).1;omega) BW1.out.size)
   have MS1:=hid (MS1.out.kt KK (by decide))
   have NW1:=hid (NW1.out.kt KK (by decide))
   have N1:=hid (N1.out.kt KK (by decide))
   have LV1:=hid (LV1.out.kt KK (by decide))
   have TX1:=hid (TX1.out.kt KK (by decide))
   have GG:=hid (GG.out.kt KK (by decide))
   have NI:Hid (SlI w16 0 (n.v) (IS)):=NI.out.kept hg (fun x a e=>by have h1:=ZN.out x a;have h2:=ZSD.out x e.symm;omega)
   clear KK
   clear SD1 FR1 ZN
   have FZq:Hid (SlI w16 0 (fs.v) (giveP t.ws m.its++L)):=SlI.down os (Nat.zero_le _)
   clear os hg
   have c_GG_3:=GG.out.cell 3
   go_wp2_with fail
   have ARU:Hid (Calls Tryz.prog 17 #[.slice n.a n.n n.c] w16 fun e w'=>e=.returned (.int .i64 ((AR:Nat):Int))∧Below w16.heap.size w16 w'):=(by rw[HAR.out];exact spAru_r (v:=n.v) IS (show Hid (RIt w16 n.v IS)from NI.out.rit) hISl:Calls _ _ _ _ _)
   refine(ARU.out).mono ?_
   rintro e w17 ⟨rfl,b⟩
   have z_w17:=b.size
   have MA1:=hid (MA1.out.later b)
   have TK1:=hid (TK1.out.later b)
   have RM1:=hid (RM1.out.later b)
   have RZT1:=hid (RZT1.out.later b)
   have BW1:=hid (bl_next BW1.out b)
   have MS1:=hid (ownL MS1.out b)
   have NW1:=hid (ownL NW1.out b)
   have N1:=hid (N1.out.later b)
   have LV1:=hid (ownL LV1.out b)
   have TX1:=hid (ownT TX1.out b)
   have GG:=hid (GG.out.later b)
   have NI:=hid (NI.out.below b)
   have FZq:=hid (FZq.out.below b)
   clear b
   clear c_GG_3 ARU
   have c_MA1_0:=MA1.out.cell 0
   go_wp2_with (first|(refine wpList_ldG rfl 30 _ rfl gn 0 rfl 30 _ N1.out [.int .i64 t.c,.int .i64 t.r,.int .i64 NQ,.int .i64 NA,.int .i64 t.b,.slice nw.a nw.n nw.c] rfl _ Tryz.underlying30 rfl Tryz.sizeT ?_))
   refine(spMark_s t.c t.r NQ NA t.b m.id ((AR:Nat):Int) ML MD nw t.ws _ NW1 hl HML HMD).mono ?_
   rintro e w18 ⟨nz,rfl,oz,b⟩
   have z_w18:=b.size
   have MA1:=hid (MA1.out.later b)
   have TK1:=hid (TK1.out.later b)
   have RM1:=hid (RM1.out.later b)
   have RZT1:=hid (RZT1.out.later b)
   have BW1:=hid (bl_next BW1.out b)
   have MS1:=hid (ownL MS1.out b)
   have NW1:=hid (ownL NW1.out b)
   have N1:=hid (N1.out.later b)
   have LV1:=hid (ownL LV1.out b)
   have TX1:=hid (ownT TX1.out b)
   have GG:=hid (GG.out.later b)
   have NI:=hid (NI.out.below b)
   have FZq:=hid (FZq.out.below b)
   clear b
   clear c_MA1_0
   clear NW1
   have NZ:=hid (oz.down (Nat.zero_le _))
   clear oz
   go_wp2_with (first|(refine wpList_stW rfl 30 _ _ rfl gn rfl 30 _ N1.out [.int .i64 t.c,.int .i64 t.r,.int .i64 NQ,.int .i64 ML,.int .i64 MD,.slice nz.a nz.n nz.c] rfl rfl Tryz.sizeT rfl ?_;intro w19 OB TB;have z_w19:w18.heap.size≤w19.heap.size:=Nat.le_of_eq TB.size.symm;have MA1:=hid (MA1.out.turn TB (by omega));have TK1:=hid (TK1.out.turn TB (by omega));have RM1:=hid (RM1.out.turn TB (by omega));have RZT1:=hid (RZT1.out.turn TB (by omega));have BW1:=hid (BW1.out.trans (TB.below (by omega)));have MS1:=hid (MS1.out.past N1.out TB (by decide));have LV1:=hid (LV1.out.past N1.out TB (by decide));have TX1:=hid (TX1.out.past N1.out TB (by decide));have GG:=hid (GG.out.turn TB (by omega));have NI:=hid (NI.out.past N1.out TB (by decide));have FZq:=hid (FZq.out.past N1.out TB (by decide));have NZ:=hid (NZ.out.past N1.out TB (by decide));have N1:=hid OB;clear OB TB;refine Stp.here ?_))
   refine Stp.go ?_
   have c_GG_7:=GG.out.cell 7
   have c_GG_8:=GG.out.cell 8
   have c_TK1_3:=TK1.out.cell 3
   clear MA1
   refine Or.elim (Classical.em (t.a<m.se)) (fun h1=>?p1) (fun h1=>?p2)
   case' p1=>refine Or.elim (Classical.em (((AR:Nat):Int)<t.a)) (fun h2=>?q1) (fun h2=>?q2)
   case' p2=>refine Or.elim (Classical.em (((AR:Nat):Int)<m.se)) (fun h2=>?q3) (fun h2=>?q4)
   case' q1=>refine Or.elim (Classical.em (m.li<((AR:Nat):Int))) (fun h3=>?c1) (fun h3=>?c2)
   case' q2=>refine Or.elim (Classical.em (m.li<t.a)) (fun h3=>?c3) (fun h3=>?c4)
   case' q3=>refine Or.elim (Classical.em (m.li<((AR:Nat):Int))) (fun h3=>?c5) (fun h3=>?c6)
   case' q4=>refine Or.elim (Classical.em (m.li<m.se)) (fun h3=>?c7) (fun h3=>?c8)
   case' c1=>
    have l1:decide (t.a<m.se)=true:=by simpa using h1
    have l2:decide (((AR:Nat):Int)<t.a)=true:=by simpa using h2
    have l3:decide (m.li<((AR:Nat):Int))=true:=by simpa using h3
    have HLI:Hid (lineP m.li m.se ((AR:Nat):Int) t.a=((AR:Nat):Int)):=(by unfold lineP leastP;simp only[h1,h2,h3,if_true,if_false]:_=_)
    clear h1 h2 h3
    go_wp2_with (first|(refine wpList_st1 rfl 3 _ _ rfl g 8 rfl 32 _ GG.out (.int .i64 (((AR:Nat):Int))) rfl (by simp) rfl Tryz.size3 [.int .i64 m.id,.int .i64 m.rid,.slice u.ms.a u.ms.n u.ms.c,.slice n.a n.n n.c,.slice lv2.a lv2.n lv2.c,.slice tx2.a tx2.n tx2.c,.int .i64 m.rd,.int .i64 m.se,.int .i64 (((AR:Nat):Int)),.int .i64 m.he,.int .i64 m.la.c,.int .i64 m.la.r,.int .i64 m.la.q,.int .i64 m.la.a,.int .i64 m.la.b,.slice u.ws.a u.ws.n u.ws.c] rfl ?_;intro w20 OB TB;have z_w20:w19.heap.size≤w20.heap.size:=Nat.le_of_eq TB.size.symm;have TK1:=hid (TK1.out.turn TB (by omega));have RM1:=hid (RM1.out.turn TB (by omega));have RZT1:=hid (RZT1.out.turn TB (by omega));have BW1:=hid (BW1.out.trans (TB.below (by omega)));have MS1:=hid (MS1.out.past GG.out TB (by decide));have N1:=hid (N1.out.turn TB (by omega));have LV1:=hid (LV1.out.past GG.out TB (by decide));have TX1:=hid (TX1.out.past GG.out TB (by decide));have NI:=hid (NI.out.past GG.out TB (by decide));have FZq:=hid (FZq.out.past GG.out TB (by decide));have NZ:=hid (NZ.out.past GG.out TB (by decide));have GG:=hid OB;clear OB TB;refine Stp.here ?_))
    refine Stp.go ?_
    clear c_GG_7 c_GG_8 c_TK1_3 l1 l2 l3
    obtain⟨LI,eLI⟩: ∃LI,LI=((AR:Nat):Int):=⟨_,rfl⟩
    have HLI:Hid (lineP m.li m.se ((AR:Nat):Int) t.a=LI):=(by rw[eLI];exact HLI.out:_=_)
    have GG:Hid (Bx w20 g 32 [.int .i64 m.id,.int .i64 m.rid,.slice u.ms.a u.ms.n u.ms.c,.slice n.a n.n n.c,.slice lv2.a lv2.n lv2.c,.slice tx2.a tx2.n tx2.c,.int .i64 m.rd,.int .i64 m.se,.int .i64 LI,.int .i64 m.he,.int .i64 m.la.c,.int .i64 m.la.r,.int .i64 m.la.q,.int .i64 m.la.a,.int .i64 m.la.b,.slice u.ws.a u.ws.n u.ws.c]):=(by rw[eLI];exact GG.out:Bx _ _ _ _)
    clear eLI
   case' c2=>
    have l1:decide (t.a<m.se)=true:=by simpa using h1
    have l2:decide (((AR:Nat):Int)<t.a)=true:=by simpa using h2
    have l3:decide (m.li<((AR:Nat):Int))=false:=by simpa using h3
    have HLI:Hid (lineP m.li m.se ((AR:Nat):Int) t.a=m.li):=(by unfold lineP leastP;simp only[h1,h2,h3,if_true,if_false]:_=_)
    clear h1 h2 h3
    go_wp2_with (with_reducible refine wpList_haltS _ _ _ rfl ?_)
    refine Stp.go ?_
    clear c_GG_7 c_GG_8 c_TK1_3 l1 l2 l3
    obtain⟨LI,eLI⟩: ∃LI,LI=m.li:=⟨_,rfl⟩
    have HLI:Hid (lineP m.li m.se ((AR:Nat):Int) t.a=LI):=(by rw[eLI];exact HLI.out:_=_)
    have GG:Hid (Bx w19 g 32 [.int .i64 m.id,.int .i64 m.rid,.slice u.ms.a u.ms.n u.ms.c,.slice n.a n.n n.c,.slice lv2.a lv2.n lv2.c,.slice tx2.a tx2.n tx2.c,.int .i64 m.rd,.int .i64 m.se,.int .i64 LI,.int .i64 m.he,.int .i64 m.la.c,.int .i64 m.la.r,.int .i64 m.la.q,.int .i64 m.la.a,.int .i64 m.la.b,.slice u.ws.a u.ws.n u.ws.c]):=(by rw[eLI];exact GG.out:Bx _ _ _ _)
    clear eLI
    have z_w20:w19.heap.size≤w19.heap.size:=Nat.le_refl _
    generalize w19=w20 at *
   case' c3=>
    have l1:decide (t.a<m.se)=true:=by simpa using h1
    have l2:decide (((AR:Nat):Int)<t.a)=false:=by simpa using h2
    have l3:decide (m.li<t.a)=true:=by simpa using h3
    have HLI:Hid (lineP m.li m.se ((AR:Nat):Int) t.a=t.a):=(by unfold lineP leastP;simp only[h1,h2,h3,if_true,if_false]:_=_)
    clear h1 h2 h3
    go_wp2_with (first|(refine wpList_st1 rfl 3 _ _ rfl g 8 rfl 32 _ GG.out (.int .i64 t.a) rfl (by simp) rfl Tryz.size3 [.int .i64 m.id,.int .i64 m.rid,.slice u.ms.a u.ms.n u.ms.c,.slice n.a n.n n.c,.slice lv2.a lv2.n lv2.c,.slice tx2.a tx2.n tx2.c,.int .i64 m.rd,.int .i64 m.se,.int .i64 t.a,.int .i64 m.he,.int .i64 m.la.c,.int .i64 m.la.r,.int .i64 m.la.q,.int .i64 m.la.a,.int .i64 m.la.b,.slice u.ws.a u.ws.n u.ws.c] rfl ?_;intro w20 OB TB;have z_w20:w19.heap.size≤w20.heap.size:=Nat.le_of_eq TB.size.symm;have TK1:=hid (TK1.out.turn TB (by omega));have RM1:=hid (RM1.out.turn TB (by omega));have RZT1:=hid (RZT1.out.turn TB (by omega));have BW1:=hid (BW1.out.trans (TB.below (by omega)));have MS1:=hid (MS1.out.past GG.out TB (by decide));have N1:=hid (N1.out.turn TB (by omega));have LV1:=hid (LV1.out.past GG.out TB (by decide));have TX1:=hid (TX1.out.past GG.out TB (by decide));have NI:=hid (NI.out.past GG.out TB (by decide));have FZq:=hid (FZq.out.past GG.out TB (by decide));have NZ:=hid (NZ.out.past GG.out TB (by decide));have GG:=hid OB;clear OB TB;refine Stp.here ?_))
    refine Stp.go ?_
    clear c_GG_7 c_GG_8 c_TK1_3 l1 l2 l3
    obtain⟨LI,eLI⟩: ∃LI,LI=t.a:=⟨_,rfl⟩
    have HLI:Hid (lineP m.li m.se ((AR:Nat):Int) t.a=LI):=(by rw[eLI];exact HLI.out:_=_)
    have GG:Hid (Bx w20 g 32 [.int .i64 m.id,.int .i64 m.rid,.slice u.ms.a u.ms.n u.ms.c,.slice n.a n.n n.c,.slice lv2.a lv2.n lv2.c,.slice tx2.a tx2.n tx2.c,.int .i64 m.rd,.int .i64 m.se,.int .i64 LI,.int .i64 m.he,.int .i64 m.la.c,.int .i64 m.la.r,.int .i64 m.la.q,.int .i64 m.la.a,.int .i64 m.la.b,.slice u.ws.a u.ws.n u.ws.c]):=(by rw[eLI];exact GG.out:Bx _ _ _ _)
    clear eLI
   case' c4=>
    have l1:decide (t.a<m.se)=true:=by simpa using h1
    have l2:decide (((AR:Nat):Int)<t.a)=false:=by simpa using h2
    have l3:decide (m.li<t.a)=false:=by simpa using h3
    have HLI:Hid (lineP m.li m.se ((AR:Nat):Int) t.a=m.li):=(by unfold lineP leastP;simp only[h1,h2,h3,if_true,if_false]:_=_)
    clear h1 h2 h3
    go_wp2_with (with_reducible refine wpList_haltS _ _ _ rfl ?_)
    refine Stp.go ?_
    clear c_GG_7 c_GG_8 c_TK1_3 l1 l2 l3
    obtain⟨LI,eLI⟩: ∃LI,LI=m.li:=⟨_,rfl⟩
    have HLI:Hid (lineP m.li m.se ((AR:Nat):Int) t.a=LI):=(by rw[eLI];exact HLI.out:_=_)
    have GG:Hid (Bx w19 g 32 [.int .i64 m.id,.int .i64 m.rid,.slice u.ms.a u.ms.n u.ms.c,.slice n.a n.n n.c,.slice lv2.a lv2.n lv2.c,.slice tx2.a tx2.n tx2.c,.int .i64 m.rd,.int .i64 m.se,.int .i64 LI,.int .i64 m.he,.int .i64 m.la.c,.int .i64 m.la.r,.int .i64 m.la.q,.int .i64 m.la.a,.int .i64 m.la.b,.slice u.ws.a u.ws.n u.ws.c]):=(by rw[eLI];exact GG.out:Bx _ _ _ _)
    clear eLI
    have z_w20:w19.heap.size≤w19.heap.size:=Nat.le_refl _
    generalize w19=w20 at *
   case' c5=>
    have l1:decide (t.a<m.se)=false:=by simpa using h1
    have l2:decide (((AR:Nat):Int)<m.se)=true:=by simpa using h2
    have l3:decide (m.li<((AR:Nat):Int))=true:=by simpa using h3
    have HLI:Hid (lineP m.li m.se ((AR:Nat):Int) t.a=((AR:Nat):Int)):=(by unfold lineP leastP;simp only[h1,h2,h3,if_true,if_false]:_=_)
    clear h1 h2 h3
    go_wp2_with (first|(refine wpList_st1 rfl 3 _ _ rfl g 8 rfl 32 _ GG.out (.int .i64 (((AR:Nat):Int))) rfl (by simp) rfl Tryz.size3 [.int .i64 m.id,.int .i64 m.rid,.slice u.ms.a u.ms.n u.ms.c,.slice n.a n.n n.c,.slice lv2.a lv2.n lv2.c,.slice tx2.a tx2.n tx2.c,.int .i64 m.rd,.int .i64 m.se,.int .i64 (((AR:Nat):Int)),.int .i64 m.he,.int .i64 m.la.c,.int .i64 m.la.r,.int .i64 m.la.q,.int .i64 m.la.a,.int .i64 m.la.b,.slice u.ws.a u.ws.n u.ws.c] rfl ?_;intro w20 OB TB;have z_w20:w19.heap.size≤w20.heap.size:=Nat.le_of_eq TB.size.symm;have TK1:=hid (TK1.out.turn TB (by omega));have RM1:=hid (RM1.out.turn TB (by omega));have RZT1:=hid (RZT1.out.turn TB (by omega));have BW1:=hid (BW1.out.trans (TB.below (by omega)));have MS1:=hid (MS1.out.past GG.out TB (by decide));have N1:=hid (N1.out.turn TB (by omega));have LV1:=hid (LV1.out.past GG.out TB (by decide));have TX1:=hid (TX1.out.past GG.out TB (by decide));have NI:=hid (NI.out.past GG.out TB (by decide));have FZq:=hid (FZq.out.past GG.out TB (by decide));have NZ:=hid (NZ.out.past GG.out TB (by decide));have GG:=hid OB;clear OB TB;refine Stp.here ?_))
    refine Stp.go ?_
    clear c_GG_7 c_GG_8 c_TK1_3 l1 l2 l3
    obtain⟨LI,eLI⟩: ∃LI,LI=((AR:Nat):Int):=⟨_,rfl⟩
    have HLI:Hid (lineP m.li m.se ((AR:Nat):Int) t.a=LI):=(by rw[eLI];exact HLI.out:_=_)
    have GG:Hid (Bx w20 g 32 [.int .i64 m.id,.int .i64 m.rid,.slice u.ms.a u.ms.n u.ms.c,.slice n.a n.n n.c,.slice lv2.a lv2.n lv2.c,.slice tx2.a tx2.n tx2.c,.int .i64 m.rd,.int .i64 m.se,.int .i64 LI,.int .i64 m.he,.int .i64 m.la.c,.int .i64 m.la.r,.int .i64 m.la.q,.int .i64 m.la.a,.int .i64 m.la.b,.slice u.ws.a u.ws.n u.ws.c]):=(by rw[eLI];exact GG.out:Bx _ _ _ _)
    clear eLI
   case' c6=>
    have l1:decide (t.a<m.se)=false:=by simpa using h1
    have l2:decide (((AR:Nat):Int)<m.se)=true:=by simpa using h2
    have l3:decide (m.li<((AR:Nat):Int))=false:=by simpa using h3
    have HLI:Hid (lineP m.li m.se ((AR:Nat):Int) t.a=m.li):=(by unfold lineP leastP;simp only[h1,h2,h3,if_true,if_false]:_=_)
    clear h1 h2 h3
    go_wp2_with (with_reducible refine wpList_haltS _ _ _ rfl ?_)
    refine Stp.go ?_
    clear c_GG_7 c_GG_8 c_TK1_3 l1 l2 l3
    obtain⟨LI,eLI⟩: ∃LI,LI=m.li:=⟨_,rfl⟩
    have HLI:Hid (lineP m.li m.se ((AR:Nat):Int) t.a=LI):=(by rw[eLI];exact HLI.out:_=_)
    have GG:Hid (Bx w19 g 32 [.int .i64 m.id,.int .i64 m.rid,.slice u.ms.a u.ms.n u.ms.c,.slice n.a n.n n.c,.slice lv2.a lv2.n lv2.c,.slice tx2.a tx2.n tx2.c,.int .i64 m.rd,.int .i64 m.se,.int .i64 LI,.int .i64 m.he,.int .i64 m.la.c,.int .i64 m.la.r,.int .i64 m.la.q,.int .i64 m.la.a,.int .i64 m.la.b,.slice u.ws.a u.ws.n u.ws.c]):=(by rw[eLI];exact GG.out:Bx _ _ _ _)
    clear eLI
    have z_w20:w19.heap.size≤w19.heap.size:=Nat.le_refl _
    generalize w19=w20 at *
   case' c7=>
    have l1:decide (t.a<m.se)=false:=by simpa using h1
    have l2:decide (((AR:Nat):Int)<m.se)=false:=by simpa using h2
    have l3:decide (m.li<m.se)=true:=by simpa using h3
    have HLI:Hid (lineP m.li m.se ((AR:Nat):Int) t.a=m.se):=(by unfold lineP leastP;simp only[h1,h2,h3,if_true,if_false]:_=_)
    clear h1 h2 h3
    go_wp2_with (first|(refine wpList_st1 rfl 3 _ _ rfl g 8 rfl 32 _ GG.out (.int .i64 m.se) rfl (by simp) rfl Tryz.size3 [.int .i64 m.id,.int .i64 m.rid,.slice u.ms.a u.ms.n u.ms.c,.slice n.a n.n n.c,.slice lv2.a lv2.n lv2.c,.slice tx2.a tx2.n tx2.c,.int .i64 m.rd,.int .i64 m.se,.int .i64 m.se,.int .i64 m.he,.int .i64 m.la.c,.int .i64 m.la.r,.int .i64 m.la.q,.int .i64 m.la.a,.int .i64 m.la.b,.slice u.ws.a u.ws.n u.ws.c] rfl ?_;intro w20 OB TB;have z_w20:w19.heap.size≤w20.heap.size:=Nat.le_of_eq TB.size.symm;have TK1:=hid (TK1.out.turn TB (by omega));have RM1:=hid (RM1.out.turn TB (by omega));have RZT1:=hid (RZT1.out.turn TB (by omega));have BW1:=hid (BW1.out.trans (TB.below (by omega)));have MS1:=hid (MS1.out.past GG.out TB (by decide));have N1:=hid (N1.out.turn TB (by omega));have LV1:=hid (LV1.out.past GG.out TB (by decide));have TX1:=hid (TX1.out.past GG.out TB (by decide));have NI:=hid (NI.out.past GG.out TB (by decide));have FZq:=hid (FZq.out.past GG.out TB (by decide));have NZ:=hid (NZ.out.past GG.out TB (by decide));have GG:=hid OB;clear OB TB;refine Stp.here ?_))
    refine Stp.go ?_
    clear c_GG_7 c_GG_8 c_TK1_3 l1 l2 l3
    obtain⟨LI,eLI⟩: ∃LI,LI=m.se:=⟨_,rfl⟩
    have HLI:Hid (lineP m.li m.se ((AR:Nat):Int) t.a=LI):=(by rw[eLI];exact HLI.out:_=_)
    have GG:Hid (Bx w20 g 32 [.int .i64 m.id,.int .i64 m.rid,.slice u.ms.a u.ms.n u.ms.c,.slice n.a n.n n.c,.slice lv2.a lv2.n lv2.c,.slice tx2.a tx2.n tx2.c,.int .i64 m.rd,.int .i64 m.se,.int .i64 LI,.int .i64 m.he,.int .i64 m.la.c,.int .i64 m.la.r,.int .i64 m.la.q,.int .i64 m.la.a,.int .i64 m.la.b,.slice u.ws.a u.ws.n u.ws.c]):=(by rw[eLI];exact GG.out:Bx _ _ _ _)
    clear eLI
   case' c8=>
    have l1:decide (t.a<m.se)=false:=by simpa using h1
    have l2:decide (((AR:Nat):Int)<m.se)=false:=by simpa using h2
    have l3:decide (m.li<m.se)=false:=by simpa using h3
    have HLI:Hid (lineP m.li m.se ((AR:Nat):Int) t.a=m.li):=(by unfold lineP leastP;simp only[h1,h2,h3,if_true,if_false]:_=_)
    clear h1 h2 h3
    go_wp2_with (with_reducible refine wpList_haltS _ _ _ rfl ?_)
    refine Stp.go ?_
    clear c_GG_7 c_GG_8 c_TK1_3 l1 l2 l3
    obtain⟨LI,eLI⟩: ∃LI,LI=m.li:=⟨_,rfl⟩
    have HLI:Hid (lineP m.li m.se ((AR:Nat):Int) t.a=LI):=(by rw[eLI];exact HLI.out:_=_)
    have GG:Hid (Bx w19 g 32 [.int .i64 m.id,.int .i64 m.rid,.slice u.ms.a u.ms.n u.ms.c,.slice n.a n.n n.c,.slice lv2.a lv2.n lv2.c,.slice tx2.a tx2.n tx2.c,.int .i64 m.rd,.int .i64 m.se,.int .i64 LI,.int .i64 m.he,.int .i64 m.la.c,.int .i64 m.la.r,.int .i64 m.la.q,.int .i64 m.la.a,.int .i64 m.la.b,.slice u.ws.a u.ws.n u.ws.c]):=(by rw[eLI];exact GG.out:Bx _ _ _ _)
    clear eLI
    have z_w20:w19.heap.size≤w19.heap.size:=Nat.le_refl _
    generalize w19=w20 at *
   all_goals(
    have c_TK1_3:=TK1.out.cell 3
    go_wp2_with (first|(refine wpList_st1 rfl 3 _ _ rfl g 7 rfl 32 _ GG.out (.int .i64 t.a) rfl (by simp) rfl Tryz.size3 [.int .i64 m.id,.int .i64 m.rid,.slice u.ms.a u.ms.n u.ms.c,.slice n.a n.n n.c,.slice lv2.a lv2.n lv2.c,.slice tx2.a tx2.n tx2.c,.int .i64 m.rd,.int .i64 t.a,.int .i64 LI,.int .i64 m.he,.int .i64 m.la.c,.int .i64 m.la.r,.int .i64 m.la.q,.int .i64 m.la.a,.int .i64 m.la.b,.slice u.ws.a u.ws.n u.ws.c] rfl ?_;intro w21 OB TB;have z_w21:w20.heap.size≤w21.heap.size:=Nat.le_of_eq TB.size.symm;have TK1:=hid (TK1.out.turn TB (by omega));have RM1:=hid (RM1.out.turn TB (by omega));have RZT1:=hid (RZT1.out.turn TB (by omega));have BW1:=hid (BW1.out.trans (TB.below (by omega)));have MS1:=hid (MS1.out.past GG.out TB (by decide));have N1:=hid (N1.out.turn TB (by omega));have LV1:=hid (LV1.out.past GG.out TB (by decide));have TX1:=hid (TX1.out.past GG.out TB (by decide));have NI:=hid (NI.out.past GG.out TB (by decide));have FZq:=hid (FZq.out.past GG.out TB (by decide));have NZ:=hid (NZ.out.past GG.out TB (by decide));have GG:=hid OB;clear OB TB;refine Stp.here ?_))
    refine Stp.go ?_
    clear c_TK1_3
    have c_GG_3:=GG.out.cell 3
    go_wp2_with (first|(refine wpList_ldG rfl 30 _ rfl gn 0 rfl 30 _ N1.out [.int .i64 t.c,.int .i64 t.r,.int .i64 NQ,.int .i64 ML,.int .i64 MD,.slice nz.a nz.n nz.c] rfl _ Tryz.underlying30 rfl Tryz.sizeT ?_))
    refine(spLacks_any t.c t.r NQ ML MD nz n t.ws IS _ (show Hid (RI w21 nz.v t.ws)from NZ.out.ri) (show Hid (RIt w21 n.v IS)from NI.out.rit) hl hISl).mono ?_
    rintro e w22 ⟨x,rfl,ox,b⟩
    have z_w22:=b.size
    have TK1:=hid (TK1.out.later b)
    have RM1:=hid (RM1.out.later b)
    have RZT1:=hid (RZT1.out.later b)
    have BW1:=hid (bl_next BW1.out b)
    have MS1:=hid (ownL MS1.out b)
    have N1:=hid (N1.out.later b)
    have LV1:=hid (ownL LV1.out b)
    have TX1:=hid (ownT TX1.out b)
    have GG:=hid (GG.out.later b)
    have NI:=hid (NI.out.below b)
    have FZq:=hid (FZq.out.below b)
    have NZ:=hid (ownL NZ.out b)
    clear b
    clear c_GG_3
    clear NZ
    have OX:=hid (ox.down (Nat.zero_le _))
    clear ox
    go_wp2_with (first|(refine wpList_stW rfl 30 _ _ rfl gn rfl 30 _ N1.out [.int .i64 t.c,.int .i64 t.r,.int .i64 NQ,.int .i64 ML,.int .i64 MD,.slice x.a x.n x.c] rfl rfl Tryz.sizeT rfl ?_;intro w23 OB TB;have z_w23:w22.heap.size≤w23.heap.size:=Nat.le_of_eq TB.size.symm;have TK1:=hid (TK1.out.turn TB (by omega));have RM1:=hid (RM1.out.turn TB (by omega));have RZT1:=hid (RZT1.out.turn TB (by omega));have BW1:=hid (BW1.out.trans (TB.below (by omega)));have MS1:=hid (MS1.out.past N1.out TB (by decide));have LV1:=hid (LV1.out.past N1.out TB (by decide));have TX1:=hid (TX1.out.past N1.out TB (by decide));have GG:=hid (GG.out.turn TB (by omega));have NI:=hid (NI.out.past N1.out TB (by decide));have FZq:=hid (FZq.out.past N1.out TB (by decide));have OX:=hid (OX.out.past N1.out TB (by decide));have N1:=hid OB;clear OB TB;refine Stp.here ?_))
    refine Stp.go ?_
    have c_TK1_1:=TK1.out.cell 1
    go_wp2_with (first|(refine wpList_st1 rfl 3 _ _ rfl g 6 rfl 32 _ GG.out (.int .i64 t.r) rfl (by simp) rfl Tryz.size3 [.int .i64 m.id,.int .i64 m.rid,.slice u.ms.a u.ms.n u.ms.c,.slice n.a n.n n.c,.slice lv2.a lv2.n lv2.c,.slice tx2.a tx2.n tx2.c,.int .i64 t.r,.int .i64 t.a,.int .i64 LI,.int .i64 m.he,.int .i64 m.la.c,.int .i64 m.la.r,.int .i64 m.la.q,.int .i64 m.la.a,.int .i64 m.la.b,.slice u.ws.a u.ws.n u.ws.c] rfl ?_;intro w24 OB TB;have z_w24:w23.heap.size≤w24.heap.size:=Nat.le_of_eq TB.size.symm;have TK1:=hid (TK1.out.turn TB (by omega));have RM1:=hid (RM1.out.turn TB (by omega));have RZT1:=hid (RZT1.out.turn TB (by omega));have BW1:=hid (BW1.out.trans (TB.below (by omega)));have MS1:=hid (MS1.out.past GG.out TB (by decide));have N1:=hid (N1.out.turn TB (by omega));have LV1:=hid (LV1.out.past GG.out TB (by decide));have TX1:=hid (TX1.out.past GG.out TB (by decide));have NI:=hid (NI.out.past GG.out TB (by decide));have FZq:=hid (FZq.out.past GG.out TB (by decide));have OX:=hid (OX.out.past GG.out TB (by decide));have GG:=hid OB;clear OB TB;refine Stp.here ?_))
    refine Stp.go ?_
    clear c_TK1_1
    have c_TK1_1:=TK1.out.cell 1
    have hw1:IntKind.i64.wrap (t.r+1)=t.r+1:=by rw[IntKind.wrap_i64];omega
    go_wp2_with (first|(refine wpList_st1 rfl 3 _ _ rfl gn 1 rfl 30 _ N1.out (.int .i64 (t.r+1)) rfl (by simp) rfl Tryz.size3 [.int .i64 t.c,.int .i64 (t.r+1),.int .i64 NQ,.int .i64 ML,.int .i64 MD,.slice x.a x.n x.c] rfl ?_;intro w25 OB TB;have z_w25:w24.heap.size≤w25.heap.size:=Nat.le_of_eq TB.size.symm;have TK1:=hid (TK1.out.turn TB (by omega));have RM1:=hid (RM1.out.turn TB (by omega));have RZT1:=hid (RZT1.out.turn TB (by omega));have BW1:=hid (BW1.out.trans (TB.below (by omega)));have MS1:=hid (MS1.out.past N1.out TB (by decide));have LV1:=hid (LV1.out.past N1.out TB (by decide));have TX1:=hid (TX1.out.past N1.out TB (by decide));have GG:=hid (GG.out.turn TB (by omega));have NI:=hid (NI.out.past N1.out TB (by decide));have FZq:=hid (FZq.out.past N1.out TB (by decide));have OX:=hid (OX.out.past N1.out TB (by decide));have N1:=hid OB;clear OB TB;refine Stp.here ?_))
    refine Stp.go ?_
    clear c_TK1_1 hw1
    go_wp2_with (first|(refine wpList_ldG rfl 30 _ rfl gn 0 rfl 30 _ N1.out [.int .i64 t.c,.int .i64 (t.r+1),.int .i64 NQ,.int .i64 ML,.int .i64 MD,.slice x.a x.n x.c] rfl _ Tryz.underlying30 rfl Tryz.sizeT ?_))
    refine(spCopyTok_s t.c (t.r+1) NQ ML MD x (slackP t.ws IS NQ) _ OX (Nat.le_trans (slackP_len _ _ _) (by decide))).mono ?_
    rintro e w26 ⟨y,rfl,oy,b⟩
    have z_w26:=b.size
    have TK1:=hid (TK1.out.later b)
    have RM1:=hid (RM1.out.later b)
    have RZT1:=hid (RZT1.out.later b)
    have BW1:=hid (bl_next BW1.out b)
    have MS1:=hid (ownL MS1.out b)
    have N1:=hid (N1.out.later b)
    have LV1:=hid (ownL LV1.out b)
    have TX1:=hid (ownT TX1.out b)
    have GG:=hid (GG.out.later b)
    have NI:=hid (NI.out.below b)
    have FZq:=hid (FZq.out.below b)
    have OX:=hid (ownL OX.out b)
    clear b
    have OY:=hid (oy.down (Nat.zero_le _))
    clear oy
    go_wp2_with (first|(refine wpList_stB rfl 30 _ _ rfl g 10 rfl 32 _ GG.out [.int .i64 t.c,.int .i64 (t.r+1),.int .i64 NQ,.int .i64 ML,.int .i64 MD,.slice y.a y.n y.c] rfl (by simp) Tryz.sizeT rfl [.int .i64 m.id,.int .i64 m.rid,.slice u.ms.a u.ms.n u.ms.c,.slice n.a n.n n.c,.slice lv2.a lv2.n lv2.c,.slice tx2.a tx2.n tx2.c,.int .i64 t.r,.int .i64 t.a,.int .i64 LI,.int .i64 m.he,.int .i64 t.c,.int .i64 (t.r+1),.int .i64 NQ,.int .i64 ML,.int .i64 MD,.slice y.a y.n y.c] rfl ?_;intro w27 OB TB;have z_w27:w26.heap.size≤w27.heap.size:=Nat.le_of_eq TB.size.symm;have TK1:=hid (TK1.out.turn TB (by omega));have RM1:=hid (RM1.out.turn TB (by omega));have RZT1:=hid (RZT1.out.turn TB (by omega));have BW1:=hid (BW1.out.trans (TB.below (by omega)));have MS1:=hid (MS1.out.past GG.out TB (by decide));have N1:=hid (N1.out.turn TB (by omega));have LV1:=hid (LV1.out.past GG.out TB (by decide));have TX1:=hid (TX1.out.past GG.out TB (by decide));have NI:=hid (NI.out.past GG.out TB (by decide));have FZq:=hid (FZq.out.past GG.out TB (by decide));have OX:=hid (OX.out.past GG.out TB (by decide));have OY:=hid (OY.out.past GG.out TB (by decide));have GG:=hid OB;clear OB TB;refine Stp.here ?_))
    refine Stp.go ?_
    go_wp2_with fail
    have c27:Below w27.heap.size w27 w27.drew:=(Below.refl _ _).drew
    refine wp_region_held_drew (S:=fun w'=>Bx w' g 32 [.int .i64 m.id,.int .i64 m.rid,.slice u.ms.a u.ms.n u.ms.c,.slice n.a n.n n.c,.slice lv2.a lv2.n lv2.c,.slice tx2.a tx2.n tx2.c,.int .i64 t.r,.int .i64 t.a,.int .i64 LI,.int .i64 m.he,.int .i64 t.c,.int .i64 (t.r+1),.int .i64 NQ,.int .i64 ML,.int .i64 MD,.slice y.a y.n y.c]∧Bx w' gn 30 [.int .i64 t.c,.int .i64 (t.r+1),.int .i64 NQ,.int .i64 ML,.int .i64 MD,.slice x.a x.n x.c]) (by kernel_rfl) ⟨GG.out.later c27,N1.out.later c27⟩ (fun hHeld=>?_)
    refine tkH (i:=0) (v:=_) rfl (by kernel_rfl) (fun _ _ _ h=>h) (ld_yield (by rfl) 32 _ rfl g 0 rfl 32 _ (fun w hS=>hS.1) [.int .i64 m.id,.int .i64 m.rid,.slice u.ms.a u.ms.n u.ms.c,.slice n.a n.n n.c,.slice lv2.a lv2.n lv2.c,.slice tx2.a tx2.n tx2.c,.int .i64 t.r,.int .i64 t.a,.int .i64 LI,.int .i64 m.he,.int .i64 t.c,.int .i64 (t.r+1),.int .i64 NQ,.int .i64 ML,.int .i64 MD,.slice y.a y.n y.c] rfl _ Tryz.underlying32 rfl Tryz.sizeM) (by assumption) ?_
    try simp only[Act.put,LgT,Lg0,LgS,LsT,Ls0,LsS]
    refine tkP (i:=1) rfl (by kernel_rfl) (fun _ _ _ h=>h) (by rfl) (fun w hSw=>by simp only[LgT,Lg0,LgS];go_simp;try with_reducible rfl) (by assumption) ?_
    try simp only[Act.put,LgT,Lg0,LgS,LsT,Ls0,LsS]
    refine tkH (i:=2) (v:=_) rfl (by kernel_rfl) (fun _ _ _ h=>h) (ld_yield (by rfl) 30 _ rfl gn 0 rfl 30 _ (fun w hS=>hS.2) [.int .i64 t.c,.int .i64 (t.r+1),.int .i64 NQ,.int .i64 ML,.int .i64 MD,.slice x.a x.n x.c] rfl _ Tryz.underlying30 rfl Tryz.sizeT) (by assumption) ?_
    try simp only[Act.put,LgT,Lg0,LgS,LsT,Ls0,LsS]
    refine wpAnyH_ready (rs:=[3]) (by kernel_rfl) (by simp) ?_
    refine AllReadyH.cons (i:=3) rfl (fun K hK=>?_) AllReadyH.nil
    rw[if_pos (by rfl)]
    simp only[LgT,Lg0,LgS]
    have TK1:=hid (TK1.out.later c27)
    have RM1:=hid (RM1.out.later c27)
    have RZT1:=hid (RZT1.out.later c27)
    have BW1:=hid (bl_next BW1.out c27)
    have MS1:=hid (ownL MS1.out c27)
    have N1:=hid (N1.out.later c27)
    have LV1:=hid (ownL LV1.out c27)
    have TX1:=hid (ownT TX1.out c27)
    have GG:=hid (GG.out.later c27)
    have NI:=hid (NI.out.below c27)
    have FZq:=hid (FZq.out.below c27)
    have OX:=hid (ownL OX.out c27)
    have OY:=hid (ownL OY.out c27)
    clear c27
    refine wp_stW 32 _ _ rfl (w.heap.size+2) (by rfl) 32 _ RM1.out [.int .i64 m.id,.int .i64 m.rid,.slice u.ms.a u.ms.n u.ms.c,.slice n.a n.n n.c,.slice lv2.a lv2.n lv2.c,.slice tx2.a tx2.n tx2.c,.int .i64 t.r,.int .i64 t.a,.int .i64 LI,.int .i64 m.he,.int .i64 t.c,.int .i64 (t.r+1),.int .i64 NQ,.int .i64 ML,.int .i64 MD,.slice y.a y.n y.c] (by rfl) rfl Tryz.sizeM rfl ?_
    intro w28 k28 t28
    have TK1:=hid (TK1.out.turn t28 (by omega))
    have RZT1:=hid (RZT1.out.turn t28 (by omega))
    have BW1:=hid (BW1.out.trans (t28.below (by omega)))
    have MS1:=hid (MS1.out.past RM1.out t28 (by decide))
    have N1:=hid (N1.out.turn t28 (by omega))
    have LV1:=hid (LV1.out.past RM1.out t28 (by decide))
    have TX1:=hid (TX1.out.past RM1.out t28 (by decide))
    have GG:=hid (GG.out.turn t28 (by omega))
    have NI:=hid (NI.out.past RM1.out t28 (by decide))
    have FZq:=hid (FZq.out.past RM1.out t28 (by decide))
    have OX:=hid (OX.out.past RM1.out t28 (by decide))
    have OY:=hid (OY.out.past RM1.out t28 (by decide))
    have RM1:=hid k28
    refine hK.out _ _ (⟨GG.out,N1.out⟩) (fun hHeld=>?_)
    clear hK K
    try simp only[Act.put,LgT,Lg0,LgS,LsT,Ls0,LsS]
    clear k28 t28
    refine tkP (i:=4) rfl (by kernel_rfl) (fun _ _ _ h=>h) (by rfl) (fun w hSw=>by simp only[LgT,Lg0,LgS];go_simp;try with_reducible rfl) (by assumption) ?_
    try simp only[Act.put,LgT,Lg0,LgS,LsT,Ls0,LsS]
    refine wpAnyH_ready (rs:=[5]) (by kernel_rfl) (by simp) ?_
    refine AllReadyH.cons (i:=5) rfl (fun K hK=>?_) AllReadyH.nil
    rw[if_pos (by rfl)]
    simp only[LgT,Lg0,LgS]
    refine wp_stW 30 _ _ rfl (w.heap.size+3) (by rfl) 30 _ RZT1.out [.int .i64 t.c,.int .i64 (t.r+1),.int .i64 NQ,.int .i64 ML,.int .i64 MD,.slice x.a x.n x.c] (by rfl) rfl Tryz.sizeT rfl ?_
    intro w29 k29 t29
    have TK1:=hid (TK1.out.turn t29 (by omega))
    have RM1:=hid (RM1.out.turn t29 (by omega))
    have BW1:=hid (BW1.out.trans (t29.below (by omega)))
    have MS1:=hid (MS1.out.past RZT1.out t29 (by decide))
    have N1:=hid (N1.out.turn t29 (by omega))
    have LV1:=hid (LV1.out.past RZT1.out t29 (by decide))
    have TX1:=hid (TX1.out.past RZT1.out t29 (by decide))
    have GG:=hid (GG.out.turn t29 (by omega))
    have NI:=hid (NI.out.past RZT1.out t29 (by decide))
    have FZq:=hid (FZq.out.past RZT1.out t29 (by decide))
    have OX:=hid (OX.out.past RZT1.out t29 (by decide))
    have OY:=hid (OY.out.past RZT1.out t29 (by decide))
    have RZT1:=hid k29
    refine hK.out _ _ (⟨GG.out,N1.out⟩) (fun hHeld=>?_)
    clear hK K
    try simp only[Act.put,LgT,Lg0,LgS,LsT,Ls0,LsS]
    clear k29 t29
    refine tkP (i:=6) rfl (by kernel_rfl) (fun _ _ _ h=>h) (by rfl) (fun w hSw=>by simp only[LgT,Lg0,LgS];go_simp;try with_reducible rfl) (by assumption) ?_
    try simp only[Act.put,LgT,Lg0,LgS,LsT,Ls0,LsS]
    refine wpAnyH_done (by kernel_rfl) ?_ _
    go_wp2_with fail
    refine bodyPost_ret (results_btbt Tryz.results12 (w.heap.size+2) 32 [.int .i64 m.id,.int .i64 m.rid,.slice u.ms.a u.ms.n u.ms.c,.slice n.a n.n n.c,.slice lv2.a lv2.n lv2.c,.slice tx2.a tx2.n tx2.c,.int .i64 t.r,.int .i64 t.a,.int .i64 LI,.int .i64 m.he,.int .i64 t.c,.int .i64 (t.r+1),.int .i64 NQ,.int .i64 ML,.int .i64 MD,.slice y.a y.n y.c] _ rfl RM1.out Tryz.underlying32 rfl Tryz.sizeM (w.heap.size+3) 30 [.int .i64 t.c,.int .i64 (t.r+1),.int .i64 NQ,.int .i64 ML,.int .i64 MD,.slice x.a x.n x.c] _ rfl RZT1.out Tryz.underlying30 rfl Tryz.sizeT) rfl ?_
    have hNX:sTok m t=⟨t.c,t.r+1,NQ,ML,MD,slackP t.ws IS NQ⟩:=by unfold sTok;rw[←HNQ.out,←HNA.out,←HIS.out,←HAR.out,←HML.out,←HMD.out]
    have hHE:m.sheld t=⟨m.id,m.rid,m.ms,IS,m.lv.drop L.length,m.tx.drop L.length,t.r,t.a,LI,m.he,⟨t.c,t.r+1,NQ,ML,MD,slackP t.ws IS NQ⟩⟩:=by unfold Mt.sheld;rw[hNX,←HIS.out,←HL.out,←HAR.out,HLI.out]
    refine⟨⟨u.ms,n,lv2,tx2,y⟩,fs,x,?_,?_,?_,?_,BW1.out⟩
    ·rw[hHE,hNX];rfl
    ·rw[hHE];exact⟨MS1.out.down (Nat.zero_le _),NI.out,LV1.out,TX1.out,OY.out⟩
    ·unfold saidL;rw[←HL.out];exact FZq.out
    ·rw[hNX];exact OX.out)
structure Wp where
 rid:Int
 ms:List Int
 ma:List Mt
 fl:List Fl
 he:List (List It)
 sa:List It
def Wv.pl (k:Wv):Wp:=⟨k.rid,k.ms,k.ma.map (·.1),k.fl.map (·.1),k.he.map (·.1),k.sa⟩
theorem wp_ld1 {P:Program} {w:World} {o:Oper} {a:Act} {Q:Exit→Act→World→Prop} {K:Act→World→Prop} (ty:TypeId) (x:Operand) (ho:o.op=.load ty x) (g off:Nat) (hx:a.eval x=.pointer (some ⟨g,off,none⟩)) (T:Nat) (all:List Value) (hB:Bx w g T all) (u:Value) (hu:all[off]?=some u)
  (d:TypeDesc) (ht:P.underlying ty=some d) (hd:d.isRow=false) (h:K (a.put o.dst u) w):o.wp P a w K Q:=by
 unfold Oper.wp execOp
 simp only[ho,hx,Sem.run_bind,run_ld1 hB off u hu ty d ht hd,Result.andThen_ok,Sem.run_pure]
 exact h
theorem range_keep {w w':World} {g h off:Nat} {cs:List Value} (hr:w.rangeAt h off cs) (hl:h<w.heap.size) (k:KeepBut g w w') (hne:h≠g):w'.rangeAt h off cs:=fun j v hv=>by
 have h1:=hr j v hv
 have h2:=k.block h hl hne
 rw[←h1]
 unfold World.cell?
 simp only[h2]
theorem ok_sizes {m:Mt} (h:m.ok=true):MtS m:=by
 obtain⟨hr,_,hi,hs,_,_,_,_,hl⟩:=ok_parts h
 have h1:=(ring_parts hr).2.2.2
 have h2:=iGo_short hi
 unfold sayB at hs
 simp only[Bool.and_eq_true,decide_eq_true_eq]at hs
 obtain⟨s1,s2,s3,s4⟩:=hs
 have hw:m.la.ws.length≤20:=by
  rw[Bool.or_eq_true]at hl
  rcases hl with h|h
  ·unfold ntB at h;simp only[Bool.and_eq_true,beq_iff_eq]at h;omega
  ·unfold tkB wB at h;simp only[Bool.and_eq_true,decide_eq_true_eq]at h;omega
 refine⟨by omega,by omega,by omega,by omega,by omega,fun x hx=>?_,fun x hx=>?_,by omega⟩
 ·have:=((iGo_asc m.its 0 hi).2 x hx).2
  unfold itB at this
  simp only[Bool.and_eq_true,decide_eq_true_eq]at this
  omega
 ·have:=fitB_true.1 s4 x hx
  omega
theorem elCome_item (g:Nat) (k:Wv) (i:Nat) (m:Mt) (v:Mv) (d:Int) (t:Tok) (s:Sv) (q0 f0 l0:Int) (t0:ByteArray) (w:World) (h:Hid (WkB w g k)) (hk:Hid (WkP w k)) (hi:i<k.ma.length) (hm:Hid (k.ma[i]=(m,v))) (hat:Hid (atW (k.ma.map (·.1)) d=(i:Int))) (hok:Hid (m.ok=true)) (hl:k.ma.length≤10) (ht0:t0.size≤1048576):
  Calls Tryz.prog 159 #[.pointer (some ⟨g,0,none⟩),.agg #[.int .i64 d,.bool false,.int .i64 t.c,.int .i64 t.r,.int .i64 t.q,.int .i64 t.a,.int .i64 t.b,.slice s.a s.n s.c,.int .i64 q0,.int .i64 f0,.int .i64 l0,.string t0]] w fun e w'=>e=.returned (.int .i64 0)∧∃(u:Mv) (z:Sv),WkB w' g (k.setM i (m.cat (q0,f0,l0,t0)) u z)∧WkP w' (k.setM i (m.cat (q0,f0,l0,t0)) u z)∧KeepBut g w w':=by
 have zg:g<w.heap.size:=Bx.lt h.out
 have hsz:Hid (MtS m):=ok_sizes hok.out
 have b0:=bA w (.cells #[.int .i64 d,.bool false,.int .i64 t.c,.int .i64 t.r,.int .i64 t.q,.int .i64 t.a,.int .i64 t.b,.slice s.a s.n s.c,.int .i64 q0,.int .i64 f0,.int .i64 l0,.string t0] 68)
 have FB:=hid (Bx.new w 68 [.int .i64 d,.bool false,.int .i64 t.c,.int .i64 t.r,.int .i64 t.q,.int .i64 t.a,.int .i64 t.b,.slice s.a s.n s.c,.int .i64 q0,.int .i64 f0,.int .i64 l0,.string t0])
 have G0:=hid (h.out.later b0)
 have P0:=hid (hk.out.below b0)
 have B0:Hid (Below w.heap.size w (w.alloc (.cells #[.int .i64 d,.bool false,.int .i64 t.c,.int .i64 t.r,.int .i64 t.q,.int .i64 t.a,.int .i64 t.b,.slice s.a s.n s.c,.int .i64 q0,.int .i64 f0,.int .i64 l0,.string t0] 68))):=b0
 have f00:=FB.out.cell 0
 have d0:decide ((i:Int)<0)=false:=by simp
 clear b0 h hk
 go_enter Tryz.func159,Tryz.ntmps159
 go_wp2_with fail
 have zW:w.heap.size<(w.alloc (.cells #[.int .i64 d,.bool false,.int .i64 t.c,.int .i64 t.r,.int .i64 t.q,.int .i64 t.a,.int .i64 t.b,.slice s.a s.n s.c,.int .i64 q0,.int .i64 f0,.int .i64 l0,.string t0] 68)).heap.size:=FB.out.lt
 generalize (w.alloc (.cells #[.int .i64 d,.bool false,.int .i64 t.c,.int .i64 t.r,.int .i64 t.q,.int .i64 t.a,.int .i64 t.b,.slice s.a s.n s.c,.int .i64 q0,.int .i64 f0,.int .i64 l0,.string t0] 68))=W at *
 refine(elAt_any g k d _ G0 P0.out.ma (by omega)).mono ?_
 rintro e w1 ⟨rfl,b⟩
 rw[hat.out]
 have FB:=hid (FB.out.later b)
 have G1:=hid (G0.out.later b)
 have P1:=hid (P0.out.below b)
 have B1:=hid (bl_next B0.out b)
 have z1:=b.size
 clear b G0 P0 B0 f00
 have f1:=FB.out.cell 1
 obtain⟨_,gm,off,ha,_,hgl,hr⟩:=P1.out.ma.row hi
 have HR:Hid (w1.rangeAt gm (off+i * 16) [.int .i64 m.id,.int .i64 m.rid,.slice v.ms.a v.ms.n v.ms.c,.slice v.its.a v.its.n v.its.c,.slice v.lv.a v.lv.n v.lv.c,.slice v.tx.a v.tx.n v.tx.c,.int .i64 m.rd,.int .i64 m.se,.int .i64 m.li,.int .i64 m.he,.int .i64 m.la.c,.int .i64 m.la.r,.int .i64 m.la.q,.int .i64 m.la.a,.int .i64 m.la.b,.slice v.ws.a v.ws.n v.ws.c]):=(by have e:=hm.out;rw[e]at hr;exact hr:World.rangeAt _ _ _ _)
 have hgm:gm≠g:=P1.out.ma.1.box_ne G1.out (by decide) gm (by simp[Sv.v,Value.ownBlock,ha])
 have HMP:Hid (MtP w1 m v):=(by have:=P1.out.ma.2 k.ma[i] (List.getElem_mem hi);rw[hm.out]at this;exact this:MtP _ _ _)
 have G1a:Hid (Bx w1 g 56 [.int .i64 k.rid,.slice k.mv.a k.mv.n k.mv.c,.slice (some ⟨gm,off,none⟩) k.mav.n k.mav.c,.slice k.flv.a k.flv.n k.flv.c,.slice k.hev.a k.hev.n k.hev.c,.slice k.sav.a k.sav.n k.sav.c]):=(by have G2:=G1.out;unfold WkB at G2;rw[ha]at G2;exact G2:Bx _ _ _ _)
 have HMN:Hid (k.mav.n=k.ma.length):=P1.out.ma.len
 have hin:i<k.mav.n:=by have:=HMN.out;omega
 have i0:(0:Int)≤(i:Int):=by omega
 have i1:(i:Int)<(k.mav.n:Int):=by omega
 clear hr ha
 go_wp2_with fail
 clear f1
 have cS:Below w1.heap.size w1 w1.drew:=(Below.refl _ _).drew
 refine wp_region_held_drew (S:=fun w'=>w'.rangeAt gm (off+i * 16) [.int .i64 m.id,.int .i64 m.rid,.slice v.ms.a v.ms.n v.ms.c,.slice v.its.a v.its.n v.its.c,.slice v.lv.a v.lv.n v.lv.c,.slice v.tx.a v.tx.n v.tx.c,.int .i64 m.rd,.int .i64 m.se,.int .i64 m.li,.int .i64 m.he,.int .i64 m.la.c,.int .i64 m.la.r,.int .i64 m.la.q,.int .i64 m.la.a,.int .i64 m.la.b,.slice v.ws.a v.ws.n v.ws.c]∧Bx w' w.heap.size 68 [.int .i64 d,.bool false,.int .i64 t.c,.int .i64 t.r,.int .i64 t.q,.int .i64 t.a,.int .i64 t.b,.slice s.a s.n s.c,.int .i64 q0,.int .i64 f0,.int .i64 l0,.string t0]) (by kernel_rfl) ⟨range_later HR.out hgl cS,FB.out.later cS⟩ (fun hHeld=>?_)
 refine tkP (i:=0) rfl (by kernel_rfl) (fun _ _ _ h=>h) (by rfl) (fun w hSw=>by simp only[LgT,Lg0,LgS];go_simp;try with_reducible rfl) (by assumption) ?_
 try simp only[Act.put,LgT,Lg0,LgS,LsT,Ls0,LsS]
 refine tkP (i:=1) rfl (by kernel_rfl) (fun _ _ _ h=>h) (by rfl) (fun w hSw=>by simp only[LgT,Lg0,LgS];go_simp;try with_reducible rfl) (by assumption) ?_
 try simp only[Act.put,LgT,Lg0,LgS,LsT,Ls0,LsS]
 refine tkP (i:=2) rfl (by kernel_rfl) (fun _ _ _ h=>h) (by rfl) (fun w hSw=>by simp only[LgT,Lg0,LgS];go_simp;try with_reducible rfl) (by assumption) ?_
 try simp only[Act.put,LgT,Lg0,LgS,LsT,Ls0,LsS]
 refine tkP (i:=3) rfl (by kernel_rfl) (fun _ _ _ h=>h) (by rfl) (fun w hSw=>by simp only[LgT,Lg0,LgS];go_simp;try with_reducible rfl) (by assumption) ?_
 try simp only[Act.put,LgT,Lg0,LgS,LsT,Ls0,LsS]
 refine tkP (i:=4) rfl (by kernel_rfl) (fun _ _ _ h=>h) (by rfl) (fun w hSw=>by simp only[LgT,Lg0,LgS];go_simp;try with_reducible rfl) (by assumption) ?_
 try simp only[Act.put,LgT,Lg0,LgS,LsT,Ls0,LsS]
 refine tkP (i:=6) rfl (by kernel_rfl) (fun _ _ _ h=>h) (by rfl) (fun w hSw=>by simp only[LgT,Lg0,LgS];go_simp;try with_reducible rfl) (by assumption) ?_
 try simp only[Act.put,LgT,Lg0,LgS,LsT,Ls0,LsS]
 refine tkP (i:=9) rfl (by kernel_rfl) (fun _ _ _ h=>h) (by rfl) (fun w hSw=>by simp only[LgT,Lg0,LgS];go_simp;try with_reducible rfl) (by assumption) ?_
 try simp only[Act.put,LgT,Lg0,LgS,LsT,Ls0,LsS]
 refine tkH (i:=10) (v:=_) rfl (by kernel_rfl) (fun _ _ _ h=>h) (ld_yield (by rfl) 41 _ rfl w.heap.size 8 rfl 68 _ (fun w hS=>hS.2) [.int .i64 q0,.int .i64 f0,.int .i64 l0,.string t0] rfl _ Tryz.underlying41 rfl Tryz.sizeI) (by assumption) ?_
 try simp only[Act.put,LgT,Lg0,LgS,LsT,Ls0,LsS]
 refine wpAnyH_ready (rs:=[5]) (by kernel_rfl) (by simp) ?_
 refine AllReadyH.cons (i:=5) rfl (fun K hK=>?_) AllReadyH.nil
 rw[if_pos (by rfl)]
 simp only[LgT,Lg0,LgS]
 refine wp_ld1 52 _ rfl g 2 (by rfl) 56 _ (G1a.out.later cS) (.slice (some ⟨gm,off,none⟩) k.mav.n k.mav.c) rfl _ Tryz.underlying52 rfl ?_
 refine hK.out _ _ (⟨range_later HR.out hgl cS,FB.out.later cS⟩) (fun hHeld=>?_)
 clear hK K
 try simp only[Act.put,LgT,Lg0,LgS,LsT,Ls0,LsS]
 refine tkP (i:=7) rfl (by kernel_rfl) (fun _ _ _ h=>h) (by rfl) (fun w hSw=>by simp only[LgT,Lg0,LgS];go_simp;try with_reducible rfl) (by assumption) ?_
 try simp only[Act.put,LgT,Lg0,LgS,LsT,Ls0,LsS]
 refine tkH (i:=8) (v:=_) rfl (by kernel_rfl) (fun _ _ _ h=>h) (ldN_yield (by rfl) 32 _ rfl gm (off+i * 16) (by rfl) [.int .i64 m.id,.int .i64 m.rid,.slice v.ms.a v.ms.n v.ms.c,.slice v.its.a v.its.n v.its.c,.slice v.lv.a v.lv.n v.lv.c,.slice v.tx.a v.tx.n v.tx.c,.int .i64 m.rd,.int .i64 m.se,.int .i64 m.li,.int .i64 m.he,.int .i64 m.la.c,.int .i64 m.la.r,.int .i64 m.la.q,.int .i64 m.la.a,.int .i64 m.la.b,.slice v.ws.a v.ws.n v.ws.c] (fun w hS=>hS.1) _ Tryz.underlying32 rfl Tryz.sizeM) (by assumption) ?_
 try simp only[Act.put,LsT,Ls0,LsS]
 refine wpAnyH_ready (rs:=[11]) (by kernel_rfl) (by simp) ?_
 refine AllReadyH.cons (i:=11) rfl (fun K hK=>?_) AllReadyH.nil
 rw[if_pos (by rfl)]
 simp only[LgT,Lg0,LgS]
 go_simp
 refine(spCatch_any m v q0 f0 l0 t0 _ (show Hid (MtP w1.drew m v)from HMP.out.later cS) hsz ht0).mono ?_
 rintro e w2 ⟨u,rfl,ou,b2⟩
 have c2:=bl_next cS b2
 have MU:=hid (ou.p)
 have G2:=hid (G1.out.later c2)
 have P2:=hid (P1.out.below c2)
 refine hK.out _ _ (⟨range_later HR.out hgl c2,FB.out.later c2⟩) (fun hHeld=>?_)
 clear hK K
 try simp only[Act.put,LgT,Lg0,LgS,LsT,Ls0,LsS]
 clear b2 ou
 refine wpAnyH_ready (rs:=[12]) (by kernel_rfl) (by simp) ?_
 refine AllReadyH.cons (i:=12) rfl (fun K hK=>?_) AllReadyH.nil
 rw[if_pos (by rfl)]
 simp only[LgT,Lg0,LgS]
 go_simp
 refine(elMate_any g k i (m.cat (q0,f0,l0,t0)) u _ G2 P2 MU hi (by omega)).mono ?_
 rintro e w3 ⟨rfl,z,g3,p3,k3⟩
 have c3:KeepBut g w1 w3:=(keep_of_below c2).trans k3
 refine hK.out _ _ (⟨range_keep HR.out hgl c3 hgm,FB.out.keepb c3 (by omega)⟩) (fun hHeld=>?_)
 clear hK K
 try simp only[Act.put,LgT,Lg0,LgS,LsT,Ls0,LsS]
 refine wpAnyH_done (by kernel_rfl) ?_ _
 go_wp2_with fail
 go_ret
 exact⟨rfl,u,z,g3,p3,(keep_of_below B1.out).trans c3⟩
def hearW (p:Wp) (i:Nat) (m:Mt):Wp:=⟨p.rid,p.ms,p.ma.set i m.hadH,p.fl,p.he.set i (p.he.getD i []++m.hear),p.sa⟩
theorem setCells_one (w:World) (g o:Nat) (v:Value):w.setCells g o [v]=w.setCell ⟨g,o,none⟩ v:=rfl
theorem wpList_ldR {P:Program} {w:World} {ops:Array Oper} {rest:List Oper} {o:Oper} {a:Act} {Q:Exit→Act→World→Prop} (hgd:o.guard=none) (ty:TypeId) (x:Operand) (ho:o.op=.load ty x) (g off:Nat) (hx:a.eval x=.pointer (some ⟨g,off,none⟩)) (cs:List Value) (hr:w.rangeAt g off cs)
  (d:TypeDesc) (hu:P.underlying ty=some d) (hd:d.isRow=true) (hi:(P.info? ty).map (·.size)=some cs.length) (h:wpList P ops Q rest (a.put o.dst (.agg cs.toArray)) w):wpList P ops Q (o::rest) a w:=
 wpList_load_mid hgd ty x ho g off hx cs d hr hu hd hi h
theorem elHear_any (g:Nat) (k:Wv) (i:Nat) (m:Mt) (v:Mv) (w:World) (h:Hid (WkB w g k)) (hk:Hid (WkP w k)) (hi:i<k.ma.length) (hm:Hid (k.ma[i]=(m,v))) (hok:Hid (m.ok=true)) (hl:k.ma.length≤10) (hhe:k.he.length=k.ma.length) (hhl:Hid (∀e∈k.he,e.1.length≤1000000)):
  Calls Tryz.prog 157 #[.pointer (some ⟨g,0,none⟩),.int .i64 (i:Int)] w fun e w'=>e=.returned (.tuple #[])∧∃k':Wv,WkB w' g k'∧WkP w' k'∧k'.pl=hearW k.pl i m∧KeepBut g w w':=by
 have zg:g<w.heap.size:=Bx.lt h.out
 have hsz:Hid (MtS m):=ok_sizes hok.out
 obtain⟨_,gm,off,ha,_,hgl,hr⟩:=hk.out.ma.row hi
 have HR:Hid (w.rangeAt gm (off+i * 16) [.int .i64 m.id,.int .i64 m.rid,.slice v.ms.a v.ms.n v.ms.c,.slice v.its.a v.its.n v.its.c,.slice v.lv.a v.lv.n v.lv.c,.slice v.tx.a v.tx.n v.tx.c,.int .i64 m.rd,.int .i64 m.se,.int .i64 m.li,.int .i64 m.he,.int .i64 m.la.c,.int .i64 m.la.r,.int .i64 m.la.q,.int .i64 m.la.a,.int .i64 m.la.b,.slice v.ws.a v.ws.n v.ws.c]):=(by have e:=hm.out;rw[e]at hr;exact hr:World.rangeAt _ _ _ _)
 have HMP:Hid (MtP w m v):=(by have:=hk.out.ma.2 k.ma[i] (List.getElem_mem hi);rw[hm.out]at this;exact this:MtP _ _ _)
 have G1a:Hid (Bx w g 56 [.int .i64 k.rid,.slice k.mv.a k.mv.n k.mv.c,.slice (some ⟨gm,off,none⟩) k.mav.n k.mav.c,.slice k.flv.a k.flv.n k.flv.c,.slice k.hev.a k.hev.n k.hev.c,.slice k.sav.a k.sav.n k.sav.c]):=(by have G2:=h.out;unfold WkB at G2;rw[ha]at G2;exact G2:Bx _ _ _ _)
 have HMN:Hid (k.mav.n=k.ma.length):=hk.out.ma.len
 have HHE:Hid (k.he.length=k.ma.length):=hhe
 have hin:i<k.mav.n:=by have:=HMN.out;omega
 have i0:(0:Int)≤(i:Int):=by omega
 have i1:(i:Int)<(k.mav.n:Int):=by omega
 have hlh:m.hear.length≤60:=by
  obtain⟨_,_,hIg,_,_,_,_,hHe,_⟩:=ok_parts hok.out
  have h1:=hears_len m.its m.li ((aruP m.its:Int) - m.he).toNat m.he
  have h2:=aru_60 hIg
  unfold Mt.hear
  omega
 have c2:=G1a.out.cell 2
 clear hr ha hhe
 go_enter Tryz.func157,Tryz.ntmps157
 go_wp2_with (first|(refine wpList_ldR rfl 32 _ rfl gm (off+i * 16) rfl [.int .i64 m.id,.int .i64 m.rid,.slice v.ms.a v.ms.n v.ms.c,.slice v.its.a v.its.n v.its.c,.slice v.lv.a v.lv.n v.lv.c,.slice v.tx.a v.tx.n v.tx.c,.int .i64 m.rd,.int .i64 m.se,.int .i64 m.li,.int .i64 m.he,.int .i64 m.la.c,.int .i64 m.la.r,.int .i64 m.la.q,.int .i64 m.la.a,.int .i64 m.la.b,.slice v.ws.a v.ws.n v.ws.c] HR.out _ Tryz.underlying32 rfl Tryz.sizeM ?_))
 refine(spHear_yes m v _ HMP hsz hok).mono ?_
 rintro e w1 ⟨u,s,hh,hH,rfl,ou,os,_,b⟩
 have HH:Hid (hh=m.he+m.hear.length):=hH
 have OU:=hid (ou.p)
 have OS:Hid (SlI w1 0 s.v m.hear):=SlI.down os (Nat.zero_le _)
 have G1:=hid (h.out.later b)
 have P1:=hid (hk.out.below b)
 have B1:Hid (Below w.heap.size w w1):=b
 have z1:=b.size
 clear hH ou os b c2
 have hz:=hid (Bx.new w1 32 [.int .i64 0,.int .i64 0,.slice none 0 0,.slice none 0 0,.slice none 0 0,.slice none 0 0,.int .i64 0,.int .i64 0,.int .i64 0,.int .i64 0,.int .i64 0,.int .i64 0,.int .i64 0,.int .i64 0,.int .i64 0,.slice none 0 0])
 go_wp2_with (first|(refine wpList_stW rfl 32 _ _ rfl w1.heap.size rfl 32 _ hz.out [.int .i64 m.id,.int .i64 m.rid,.slice u.ms.a u.ms.n u.ms.c,.slice u.its.a u.its.n u.its.c,.slice u.lv.a u.lv.n u.lv.c,.slice u.tx.a u.tx.n u.tx.c,.int .i64 m.rd,.int .i64 m.se,.int .i64 m.li,.int .i64 hh,.int .i64 m.la.c,.int .i64 m.la.r,.int .i64 m.la.q,.int .i64 m.la.a,.int .i64 m.la.b,.slice u.ws.a u.ws.n u.ws.c] rfl rfl Tryz.sizeM rfl ?_;intro w2 OB TB;have b:Below w1.heap.size w1 w2:=((Below.refl _ _).alloc (Nat.le_refl _) _).trans (TB.below (Nat.le_refl _));have HG:=hid OB;clear OB TB;refine Stp.here ?_))
 refine Stp.go ?_
 have OU:=hid (OU.out.later b)
 have OS:=hid (OS.out.below b)
 have G2:=hid (G1.out.later b)
 have P2:=hid (P1.out.below b)
 have B2:=hid (bl_next B1.out b)
 have z2:=b.size
 clear b hz G1 P1 B1
 generalize w1.heap.size=gx at *
 go_wp2_with (first|(refine wpList_ldG rfl 32 _ rfl gx 0 rfl 32 _ HG.out [.int .i64 m.id,.int .i64 m.rid,.slice u.ms.a u.ms.n u.ms.c,.slice u.its.a u.its.n u.its.c,.slice u.lv.a u.lv.n u.lv.c,.slice u.tx.a u.tx.n u.tx.c,.int .i64 m.rd,.int .i64 m.se,.int .i64 m.li,.int .i64 hh,.int .i64 m.la.c,.int .i64 m.la.r,.int .i64 m.la.q,.int .i64 m.la.a,.int .i64 m.la.b,.slice u.ws.a u.ws.n u.ws.c] rfl _ Tryz.underlying32 rfl Tryz.sizeM ?_))
 have EM:Hid (∀W',WkB W' g k→True):=fun _ _=>trivial
 have eHH:(m.hadH).he=hh:=HH.out.symm
 refine(show Calls Tryz.prog 156 #[.pointer (some ⟨g,0,none⟩),.int .i64 (i:Int),.agg #[.int .i64 m.id,.int .i64 m.rid,.slice u.ms.a u.ms.n u.ms.c,.slice u.its.a u.its.n u.its.c,.slice u.lv.a u.lv.n u.lv.c,.slice u.tx.a u.tx.n u.tx.c,.int .i64 m.rd,.int .i64 m.se,.int .i64 m.li,.int .i64 hh,.int .i64 m.la.c,.int .i64 m.la.r,.int .i64 m.la.q,.int .i64 m.la.a,.int .i64 m.la.b,.slice u.ws.a u.ws.n u.ws.c]] w2 (fun e w'=>e=.returned (.tuple #[])∧∃s:Sv,WkB w' g (k.setM i m.hadH u s)∧WkP w' (k.setM i m.hadH u s)∧KeepBut g w2 w')from by rw[←eHH];exact elMate_any g k i m.hadH u _ G2 P2 OU hi (by omega)).mono ?_
 rintro e w3 ⟨rfl,mz,g3,p3,k3⟩
 have G3:Hid (Bx w3 g 56 [.int .i64 k.rid,.slice k.mv.a k.mv.n k.mv.c,.slice mz.a mz.n mz.c,.slice k.flv.a k.flv.n k.flv.c,.slice k.hev.a k.hev.n k.hev.c,.slice k.sav.a k.sav.n k.sav.c]):=g3
 have P3:Hid (WkP w3 (k.setM i m.hadH u mz)):=p3
 have OS:=hid (SlI.keepb OS.out G2.out k3 (by decide))
 have K3:Hid (KeepBut g w w3):=(keep_of_below B2.out).trans k3
 have z3:=k3.size
 clear g3 p3 k3 HG OU G2 P2 B2 EM eHH
 -- the lists heard, copied
 have b:=bA w3 (.cells #[] 27)
 have S4:Hid (SlN (w3.alloc (.cells #[] 27)) 27 1 w3.heap.size (.slice (some ⟨w3.heap.size,0,none⟩) 0 0) []):=SlN.made w3 27 1 w3.heap.size (Nat.le_refl _)
 have G4:=hid (G3.out.later b)
 have H4:Hid (HsP (w3.alloc (.cells #[] 27)) 0 k.hev.v k.he):=P3.out.he.below b
 have B4:Hid (Below w3.heap.size w3 (w3.alloc (.cells #[] 27))):=b
 have c4:=G4.out.cell 4
 have hll:([]:List (List Value)).length+(k.he.map hcel).length≤1048577:=by have:=HHE.out;simp;omega
 have zW:w3.heap.size≤(w3.alloc (.cells #[] 27)).heap.size:=b.size
 clear b
 go_wp2_with (first|(at_builtin;refine Stp.here ?_))
 refine Stp.go ?_
 generalize w3.alloc (.cells #[] 27)=W4 at *
 refine wpList_catN rfl _ _ 54 rfl _ 24 Tryz.underlying54 Tryz.infoIt rfl (by decide) w3.heap.size (.slice (some ⟨w3.heap.size,0,none⟩) 0 0) [] rfl S4.out 0 (.slice k.hev.a k.hev.n k.hev.c) (k.he.map hcel) rfl H4.out.1 hll zW ?_
 intro v5 w5 s5 g5 b5 _
 rw[List.nil_append]at s5
 have B5:=hid (B4.out.trans b5)
 have hi5:i<(k.he.map hcel).length:=by have:=HHE.out;simp;omega
 have hie:i<k.he.length:=by have:=HHE.out;omega
 obtain⟨gh,oh,ch,hv5,hb5,hl5,hr5⟩:=s5.read hi5
 subst hv5
 have S5:Hid (SlN w5 27 1 w3.heap.size (.slice (some ⟨gh,oh,none⟩) k.he.length ch) (k.he.map hcel)):=(by rw[←List.length_map (f:=hcel)];exact s5:SlN _ _ _ _ _ _)
 obtain⟨⟨eh,sh⟩,hee⟩: ∃e,k.he[i]=e:=⟨_,rfl⟩
 have HEE:Hid (k.he[i]=(eh,sh)):=hee
 have hc5:w5.cell? ⟨gh,oh+i,none⟩=some (.slice sh.a sh.n sh.c):=by have:=range_cell hr5 0 (v:=.slice sh.a sh.n sh.c) (by simp[hee,hcel]);simpa using this
 have HC5:Hid (w5.cell? ⟨gh,oh+i,none⟩=some (.slice sh.a sh.n sh.c)):=hc5
 have E5:Hid (SlI w5 0 sh.v eh):=(by have:=P3.out.he.2 k.he[i] (List.getElem_mem hie);rw[hee]at this;exact this.below B5.out:SlI _ _ _ _)
 have OS:=hid (OS.out.below B5.out)
 have ehl:eh.length≤1000000:=by have:=hhl.out k.he[i] (List.getElem_mem hie);rw[hee]at this;exact this
 clear s5 g5 b5 S4 G4 H4 B4 c4 hll zW hr5 hee
 simp only[List.length_map]
 have i2:(i:Int)<(k.he.length:Int):=by omega
 -- the one list, made longer
 have b:=bA w5 (.cells #[] 41)
 have S6:Hid (SlI (w5.alloc (.cells #[] 41)) w5.heap.size (.slice (some ⟨w5.heap.size,0,none⟩) 0 0) []):=SlI.made w5 w5.heap.size (Nat.le_refl _)
 have E6:=hid (E5.out.below b)
 have hc6:(w5.alloc (.cells #[] 41)).cell? ⟨gh,oh+i,none⟩=some (.slice sh.a sh.n sh.c):=(b.cell (p:=⟨gh,oh+i,none⟩) hl5).trans hc5
 have OS6:=hid (OS.out.below b)
 have zW6:w5.heap.size≤(w5.alloc (.cells #[] 41)).heap.size:=b.size
 have B6:Hid (Below w5.heap.size w5 (w5.alloc (.cells #[] 41))):=b
 clear b hc5
 go_wp2_with (first|(at_builtin;refine Stp.here ?_))
 refine Stp.go ?_
 clear hc6
 generalize w5.alloc (.cells #[] 41)=W6 at *
 refine wpList_catIt rfl _ _ 27 rfl Tryz.underlying27 w5.heap.size (.slice (some ⟨w5.heap.size,0,none⟩) 0 0) [] rfl S6.out (.slice sh.a sh.n sh.c) eh rfl E6.out.rit (by simp;omega) zW6 ?_
 intro v7 w7 s7 g7 _
 rw[List.nil_append]at s7
 have B7:Hid (Below w5.heap.size w5 w7):=B6.out.grown g7 zW6 (fun n hn=>(S6.out.lt n hn).1)
 have S7:Hid (SlI w7 w5.heap.size v7 eh):=s7
 have OS7:=hid (OS.out.below B7.out)
 have zW7:w5.heap.size≤w7.heap.size:=B7.out.size
 clear s7 g7 S6 E6 OS6 B6 zW6
 go_wp2_with (first|(at_builtin;refine Stp.here ?_))
 refine Stp.go ?_
 refine wpList_catIt rfl _ _ 27 rfl Tryz.underlying27 w5.heap.size v7 eh rfl S7.out (.slice s.a s.n s.c) m.hear rfl OS7.out.rit (by omega) zW7 ?_
 intro v8 w8 s8 g8 _
 obtain⟨z8,hz8⟩:=SlI.sv s8
 subst hz8
 have B8:Hid (Below w5.heap.size w5 w8):=B7.out.grown g8 zW7 (fun n hn=>(S7.out.lt n hn).1)
 have S8:Hid (SlI w8 0 z8.v (eh++m.hear)):=SlI.down s8 (Nat.zero_le _)
 have SH8:=hid (S5.out.below B8.out)
 have hc8:w8.cell? ⟨gh,oh+i,none⟩=some (.slice sh.a sh.n sh.c):=(B8.out.cell (p:=⟨gh,oh+i,none⟩) hl5).trans HC5.out
 obtain⟨hth,hst,htn⟩:=SlN.stored (show SlN w8 27 1 w3.heap.size (.slice (some ⟨gh,oh,none⟩) (k.he.map hcel).length ch) (k.he.map hcel) by rw[List.length_map];exact SH8.out) hi5 [.slice z8.a z8.n z8.c] rfl (by simp[Value.oneCell'])
 have hfz:w8.frozen? ⟨gh,oh+i,none⟩=false:=by have:=(hth 0 (by simp)).2;simpa using this
 rw[Nat.mul_one,setCells_one]at hst htn
 have HST:Hid (SlN (w8.setCell ⟨gh,oh+i,none⟩ (.slice z8.a z8.n z8.c)) 27 1 w3.heap.size (.slice (some ⟨gh,oh,none⟩) k.he.length ch) ((k.he.map hcel).set i [.slice z8.a z8.n z8.c])):=(by rw[List.length_map]at hst;exact hst:SlN _ _ _ _ _ _)
 have HTN:Hid (TurnAt gh w8 (w8.setCell ⟨gh,oh+i,none⟩ (.slice z8.a z8.n z8.c))):=htn
 clear s8 g8 hth hst htn
 have B9:=hid ((B5.out.trans (B8.out.mono B5.out.size)).trans (HTN.out.below hb5))
 have S9:Hid (SlI (w8.setCell ⟨gh,oh+i,none⟩ (.slice z8.a z8.n z8.c)) 0 z8.v (eh++m.hear)):=SlI.keep S8.out fun n hn _=>HTN.out.block n (fun e=>by
  obtain⟨cs,hcs⟩:=own_is_it S8.out hn
  obtain⟨cs2,hcs2⟩:=SH8.out.blk (k:=gh) (by simp[Value.ownBlock])
  rw[e,hcs2]at hcs
  simp at hcs)
 have G9:=hid (G3.out.later B9.out)
 go_wp2_with (first|(refine wpList_st1 rfl 54 _ _ rfl g 4 rfl 56 _ G9.out (.slice (some ⟨gh,oh,none⟩) k.he.length ch) rfl (by simp) rfl Tryz.sizeIss [.int .i64 k.rid,.slice k.mv.a k.mv.n k.mv.c,.slice mz.a mz.n mz.c,.slice k.flv.a k.flv.n k.flv.c,.slice (some ⟨gh,oh,none⟩) k.he.length ch,.slice k.sav.a k.sav.n k.sav.c] rfl ?_;intro w9 g9 t9))
 refine bodyPost_end (results_none rfl _ _ _) rfl ?_
 have p:=P3.out.below B9.out
 have P9:WkP (w8.setCell ⟨gh,oh+i,none⟩ (.slice z8.a z8.n z8.c)) ⟨k.rid,k.ms,k.mv,k.ma.set i (m.hadH,u),mz,k.fl,k.flv,k.he.set i (eh++m.hear,z8),⟨some ⟨gh,oh,none⟩,k.he.length,ch⟩,k.sa,k.sav⟩:=by
  refine⟨p.ring,p.ma,p.fl,⟨?_,fun e he=>?_⟩,p.sa⟩
  ·show SlN _ 27 1 0 (.slice (some ⟨gh,oh,none⟩) k.he.length ch) ((k.he.set i (eh++m.hear,z8)).map hcel)
   rw[List.map_set]
   exact SlN.down HST.out (Nat.zero_le _)
  ·rcases List.mem_or_eq_of_mem_set he with he|rfl
   ·exact p.he.2 e he
   ·exact S9.out
 refine⟨rfl,⟨k.rid,k.ms,k.mv,k.ma.set i (m.hadH,u),mz,k.fl,k.flv,k.he.set i (eh++m.hear,z8),⟨some ⟨gh,oh,none⟩,k.he.length,ch⟩,k.sa,k.sav⟩,g9,P9.keepb G9.out t9.keep,?_,K3.out.trans ((keep_of_below B9.out).trans t9.keep)⟩
 simp only[Wv.pl,hearW,List.map_set]
 congr 2
 rw[List.getD_eq_getElem?_getD,List.getElem?_map,List.getElem?_eq_getElem hie,HEE.out]
 rfl
theorem cur_bx {w:World} {T:TypeId} {g n cap:Nat} {ao:Option Addr} (h:CurAt w T g ao n cap): ∃cs,Bx w g T cs:=by
 obtain⟨i,k,_,h2⟩:=h
 exact⟨[.slice ao n cap,.int .i64 i,.int .i64 k],h2⟩
theorem FsP.kt {S:Nat→Prop} {w w':World} {B:Nat} {v:Value} {es:List (Fl × Sv)} (h:FsP w B v es) (k:KeepTy S w w') (h1: ¬S 68) (h3: ¬S 3):FsP w' B v es:=⟨h.1.kt k h1,fun e hh=>(h.2 e hh).kt k h3⟩
theorem WkP.kt {S:Nat→Prop} {w w':World} {q:Wv} (h:WkP w q) (k:KeepTy S w w') (h1: ¬S 32) (h2: ¬S 68) (h3: ¬S 3) (h9: ¬S 9) (hi: ¬S 41) (hj: ¬S 27):WkP w' q:=
 ⟨h.ring.kt k h3,h.ma.kt k h1 h3 h9 hi,h.fl.kt k h2 h3,h.he.kt k hj hi,h.sa.kt k hi⟩
theorem Drw.ty {w0 w w':World} {B g n cap:Nat} {ao:Option Addr} (h:Drw w0 w B g ao n cap) (k:KeepBut g w w'):KeepTy (fun X=>X=141) w w':=by
 obtain⟨cs,hb⟩:=cur_bx h.1
 exact KeepTy.ofKeepBut hb k rfl
theorem Drw.ne {w0 w:World} {B g n cap:Nat} {ao:Option Addr} (h:Drw w0 w B g ao n cap) {q T:Nat} {cs:List Value} (hb:Bx w q T cs) (hT:T≠141):q≠g:=fun e=>by
 subst e
 obtain⟨cs',hb'⟩:=cur_bx h.1
 unfold Bx at hb hb'
 rw[hb']at hb
 simp at hb
 exact hT hb.2.symm
theorem Drw.far {w0 w w':World} {B g q n cap:Nat} {ao:Option Addr} (h:Drw w0 w B g ao n cap) (k:KeepBut q w w') (hq:w0.heap.size≤q) (hg:g<w0.heap.size) (hB:B≤g):Hid (Drw w0 w' B g ao n cap):=h.push (k.below hq h.2.2.size) hg hB
theorem cell_keep {w w':World} {g b j:Nat} {u:Value} (h:w.cell? ⟨b,j,none⟩=some u) (hb:b<w.heap.size) (k:KeepBut g w w') (hne:b≠g):w'.cell? ⟨b,j,none⟩=some u:=by
 rw[←h]
 unfold World.cell?
 rw[k.block b hb hne]
theorem ownI_atC {w:World} {B:Nat} {s:Sv} {xs:List Int} (h:OwnI w B s.v xs) (h0:0<xs.length): ∃mb mo,s.a=Option.some ⟨mb,mo,Option.none⟩∧s.n=xs.length∧∀(j:Nat) (hj:j<xs.length),mb<w.heap.size∧w.cell? ⟨mb,mo+j,Option.none⟩=Option.some (Value.int .i64 xs[j]):=by
 have hn:=h.slen
 obtain⟨ao,c,e,hi⟩:=h.ri
 simp only[Sv.v,Value.slice.injEq]at e
 obtain⟨b,off,e2,_,_⟩:=hi 0 h0
 refine⟨b,off,by rw[e.1,e2],hn,fun j hj=>?_⟩
 rw[e2]at hi
 exact hi.at j hj
structure WkS (k:Wv):Prop where
 ms:k.ms.length≤1048576
 ma:k.ma.length≤10
 mas: ∀e∈k.ma,MtS e.1
 fl:k.fl.length≤1000000
 fls: ∀e∈k.fl,e.1.t.ws.length≤1048576
 he:k.he.length≤10
 hes: ∀e∈k.he,e.1.length≤1000000
 sa:k.sa.length≤1000000
theorem keep_turn_new {g h:Nat} {w a c:World} (k:KeepBut g w a) (t:TurnAt h a c) (hh:w.heap.size≤h):KeepBut g w c:=
 ⟨t.os.trans k.os,t.tape.trans k.tape,t.output.trans k.output,Nat.le_trans k.size (Nat.le_of_eq t.size.symm),fun j hj hne=>(t.block j (by omega)).trans (k.block j hj hne)⟩
theorem ldC_yield {P:Program} {ops:Array Oper} {o:Oper} {a:Act} {S:World→Prop} (hw:Region.wanted o (yielded ops a.tmps)=true) (ty:TypeId) (x:Operand) (ho:o.op=.load ty x) (g off:Nat) (hx:a.eval x=.pointer (some ⟨g,off,none⟩)) (u:Value) (hS: ∀w,S w→w.cell? ⟨g,off,none⟩=some u)
  (d:TypeDesc) (ht:P.underlying ty=some d) (hd:d.isRow=false):YieldsIf P ops S o u a:=
 .inl ⟨hw,fun w hw'=>by
  have hc:=hS w hw'
  have hagg:(isAgg ty).run P w=.ok false w:=by
   unfold isAgg
   rw[Sem.run_bind,run_underlying ht w]
   cases d<;>simp_all
  unfold execOp
  simp[ho,hx,Instr.loadAt,Instr.sureAddr,loadVar,Sem.run_bind,hagg,hc]⟩
theorem FsP.turn {w w':World} {B g:Nat} {v:Value} {es:List (Fl × Sv)} {cs:List Value} (h:FsP w B v es) (hB:Bx w g 68 cs) (t:TurnAt g w w') (hne: ∀q,v.ownBlock=some q→q<g):FsP w' B v es:=
 ⟨h.1.keep fun q hq _=>t.block q (fun e=>by have:=hne q hq;omega),fun e he=>(h.2 e he).past hB t (by decide)⟩
theorem HsP.row {w:World} {B:Nat} {s:Sv} {es:List (List It × Sv)} (h:HsP w B s.v es) {i:Nat} (hi:i<es.length):s.n=es.length∧∃g off,s.a=some ⟨g,off,none⟩∧B≤g∧g<w.heap.size∧w.rangeAt g (off+i * 1) (hcel es[i]):=by
 obtain⟨g,off,c,h1,h2,h3,h4⟩:=h.1.read (i:=i) (by simpa using hi)
 simp only[Sv.v,Value.slice.injEq]at h1
 exact⟨h.len,g,off,h1.1,h2,h3,by simpa using h4⟩
theorem elCopy_any (k:Wv) (w:World) (hk:Hid (WkP w k)) (hs:Hid (WkS k)):
  Calls Tryz.prog 88 #[.agg #[.int .i64 k.rid,.slice k.mv.a k.mv.n k.mv.c,.slice k.mav.a k.mav.n k.mav.c,.slice k.flv.a k.flv.n k.flv.c,.slice k.hev.a k.hev.n k.hev.c,.slice k.sav.a k.sav.n k.sav.c]] w fun e w'=>∃k':Wv,e=.returned (.agg #[.int .i64 k'.rid,.slice k'.mv.a k'.mv.n k'.mv.c,.slice k'.mav.a k'.mav.n k'.mav.c,.slice k'.flv.a k'.flv.n k'.flv.c,.slice k'.hev.a k'.hev.n k'.hev.c,.slice k'.sav.a k'.sav.n k'.sav.c])∧WkP w' k'∧k'.pl=k.pl∧Below w.heap.size w w':=by
 obtain⟨KA,KR,BW⟩:=en2 w 56 [.int .i64 k.rid,.slice k.mv.a k.mv.n k.mv.c,.slice k.mav.a k.mav.n k.mav.c,.slice k.flv.a k.flv.n k.flv.c,.slice k.hev.a k.hev.n k.hev.c,.slice k.sav.a k.sav.n k.sav.c] 56 [.int .i64 0,.slice none 0 0,.slice none 0 0,.slice none 0 0,.slice none 0 0,.slice none 0 0]
 have P0:=hid (hk.out.below BW.out)
 clear hk
 have hsr:=hs.out.ms
 have hss:=hs.out.sa
 go_enter Tryz.func88,Tryz.ntmps88
 go_wp2_with fail
 generalize ((w.alloc (.cells #[.int .i64 k.rid,.slice k.mv.a k.mv.n k.mv.c,.slice k.mav.a k.mav.n k.mav.c,.slice k.flv.a k.flv.n k.flv.c,.slice k.hev.a k.hev.n k.hev.c,.slice k.sav.a k.sav.n k.sav.c] 56)).alloc (.cells #[.int .i64 0,.slice none 0 0,.slice none 0 0,.slice none 0 0,.slice none 0 0,.slice none 0 0] 56))=W at *
 have zW:w.heap.size+1<W.heap.size:=KR.out.lt
 go_cut [3] (fun a3 wx=>∃(go:Nat) (ur us:Sv),a3=.pointer (some ⟨go,0,none⟩)∧Bx wx go 56 [.int .i64 k.rid,.slice ur.a ur.n ur.c,.slice none 0 0,.slice none 0 0,.slice none 0 0,.slice us.a us.n us.c]∧OwnI wx W.heap.size ur.v k.ms∧SlI wx W.heap.size us.v k.sa∧W.heap.size≤go∧Below W.heap.size W wx)
 case first=>
  have c:Below W.heap.size W W.drew:=(Below.refl _ _).drew
  refine wp_region_held_drew (S:=fun w'=>Below W.heap.size W w') (by kernel_rfl) c (fun hHeld=>?_)
  refine tkP (i:=0) rfl (by kernel_rfl) (fun _ _ _ h=>h) (by rfl) (fun w hSw=>by simp only[LgT,Lg0,LgS];go_simp;try with_reducible rfl) (by assumption) ?_
  try simp only[Act.put,LgT,Lg0,LgS,LsT,Ls0,LsS]
  refine tkP (i:=1) rfl (by kernel_rfl) (fun _ _ _ h=>h) (by rfl) (fun w hSw=>by simp only[LgT,Lg0,LgS];go_simp;try with_reducible rfl) (by assumption) ?_
  try simp only[Act.put,LgT,Lg0,LgS,LsT,Ls0,LsS]
  refine tkH (i:=2) (v:=_) rfl (by kernel_rfl) (fun _ _ _ h=>h) (ld1_yield (by rfl) 3 _ rfl w.heap.size 0 rfl 56 _ (fun w hS=>KA.out.later hS) (.int .i64 k.rid) rfl _ Tryz.underlying3 rfl) (by assumption) ?_
  try simp only[Act.put,LgT,Lg0,LgS,LsT,Ls0,LsS]
  refine tkP (i:=4) rfl (by kernel_rfl) (fun _ _ _ h=>h) (by rfl) (fun w hSw=>by simp only[LgT,Lg0,LgS];go_simp;try with_reducible rfl) (by assumption) ?_
  try simp only[Act.put,LgT,Lg0,LgS,LsT,Ls0,LsS]
  refine tkP (i:=5) rfl (by kernel_rfl) (fun _ _ _ h=>h) (by rfl) (fun w hSw=>by simp only[LgT,Lg0,LgS];go_simp;try with_reducible rfl) (by assumption) ?_
  try simp only[Act.put,LgT,Lg0,LgS,LsT,Ls0,LsS]
  refine tkH (i:=6) (v:=_) rfl (by kernel_rfl) (fun _ _ _ h=>h) (ld1_yield (by rfl) 24 _ rfl w.heap.size 1 rfl 56 _ (fun w hS=>KA.out.later hS) (.slice k.mv.a k.mv.n k.mv.c) rfl _ Tryz.underlying24 rfl) (by assumption) ?_
  try simp only[Act.put,LgT,Lg0,LgS,LsT,Ls0,LsS]
  refine tkP (i:=10) rfl (by kernel_rfl) (fun _ _ _ h=>h) (by rfl) (fun w hSw=>by simp only[LgT,Lg0,LgS];go_simp;try with_reducible rfl) (by assumption) ?_
  try simp only[Act.put,LgT,Lg0,LgS,LsT,Ls0,LsS]
  refine tkH (i:=11) (v:=_) rfl (by kernel_rfl) (fun _ _ _ h=>h) (ld1_yield (by rfl) 27 _ rfl w.heap.size 5 rfl 56 _ (fun w hS=>KA.out.later hS) (.slice k.sav.a k.sav.n k.sav.c) rfl _ Tryz.underlying27 rfl) (by assumption) ?_
  try simp only[Act.put,LgT,Lg0,LgS,LsT,Ls0,LsS]
  refine wpAnyH_ready (rs:=[3,9,14]) (by kernel_rfl) (by simp) ?_
  refine(AllReadyH.cons (i:=3) rfl (fun K hK=>?_) (AllReadyH.cons (i:=9) rfl (fun K hK=>?_) (AllReadyH.cons (i:=14) rfl (fun K hK=>?_) AllReadyH.nil)))
  ·skip
   rw[if_pos (by rfl)]
   simp only[LgT,Lg0,LgS]
   go_simp
   have b:=bA W.drew (.cells #[] 3)
   have I0:=hid (owiAt W.drew W.heap.size W.heap.size c.size (by simp))
   have c:=bl_next c b
   refine hK.out _ _ (c) (fun hHeld=>?_)
   clear hK K
   try simp only[Act.put,LgT,Lg0,LgS,LsT,Ls0,LsS]
   clear b
   refine wpAnyH_ready (rs:=[7,9,14]) (by kernel_rfl) (by simp) ?_
   refine(AllReadyH.cons (i:=7) rfl (fun K hK=>?_) (AllReadyH.cons (i:=9) rfl (fun K hK=>?_) (AllReadyH.cons (i:=14) rfl (fun K hK=>?_) AllReadyH.nil)))
   ·skip
    rw[if_pos (by rfl)]
    simp only[LgT,Lg0,LgS]
    refine wp_catR _ _ 24 rfl Tryz.underlying24 Tryz.info3' W.heap.size (.slice (some ⟨W.heap.size,0,none⟩) 0 0) [] (by rfl) I0.out (.slice k.mv.a k.mv.n k.mv.c) k.ms (by rfl) (P0.out.ring.ri.stays c) (by simp;omega) c.size (fun h=>by cases h) ?_
    intro v2 y1 o2 g2
    obtain⟨ur,hu2⟩:=o2.sv
    subst hu2
    rw[List.nil_append]at o2
    have KT:KeepTy (fun X=>X=3) (W.drew.alloc (.cells #[] 3)) y1:=KeepTy.ofGrown g2 (fun j hj=>by obtain⟨cs,hc⟩:=own_is_i I0.out hj;exact⟨cs,_,_,hc,rfl⟩)
    have c:=c.grown g2 c.size (fun j hj=>(I0.out.lt j hj).1)
    have I1:Hid (OwnI y1 W.heap.size (.slice ur.a ur.n ur.c) k.ms):=o2
    refine hK.out _ _ (c) (fun hHeld=>?_)
    clear hK K
    try simp only[Act.put,LgT,Lg0,LgS,LsT,Ls0,LsS]
    clear o2 g2 KT I0
    refine tkP (i:=8) rfl (by kernel_rfl) (fun _ _ _ h=>h) (by rfl) (fun w hSw=>by simp only[LgT,Lg0,LgS];go_simp;try with_reducible rfl) (by assumption) ?_
    try simp only[Act.put,LgT,Lg0,LgS,LsT,Ls0,LsS]
    refine wpAnyH_ready (rs:=[9,14]) (by kernel_rfl) (by simp) ?_
    refine(AllReadyH.cons (i:=9) rfl (fun K hK=>?_) (AllReadyH.cons (i:=14) rfl (fun K hK=>?_) AllReadyH.nil))
    ·skip
     rw[if_pos (by rfl)]
     simp only[LgT,Lg0,LgS]
     go_simp
     have b:=bA y1 (.cells #[] 41)
     have I1:=hid (ownL I1.out b)
     have S0:=hid (sliAt y1 W.heap.size y1.heap.size c.size (by simp))
     have c:=bl_next c b
     refine hK.out _ _ (c) (fun hHeld=>?_)
     clear hK K
     try simp only[Act.put,LgT,Lg0,LgS,LsT,Ls0,LsS]
     clear b
     refine wpAnyH_ready (rs:=[12,14]) (by kernel_rfl) (by simp) ?_
     refine(AllReadyH.cons (i:=12) rfl (fun K hK=>?_) (AllReadyH.cons (i:=14) rfl (fun K hK=>?_) AllReadyH.nil))
     ·skip
      rw[if_pos (by rfl)]
      simp only[LgT,Lg0,LgS]
      refine wp_catIt _ _ 27 rfl Tryz.underlying27 W.heap.size (.slice (some ⟨y1.heap.size,0,none⟩) 0 0) [] (by rfl) S0.out (.slice k.sav.a k.sav.n k.sav.c) k.sa (by rfl) (P0.out.sa.rit.stays c) (by simp;omega) c.size ?_
      intro v3 y2 o3 g3 _
      obtain⟨us,hu3⟩:=SlI.sv o3
      subst hu3
      rw[List.nil_append]at o3
      have KT:KeepTy (fun X=>X=41) (y1.alloc (.cells #[] 41)) y2:=KeepTy.ofGrown g3 (fun j hj=>by obtain⟨cs,hc⟩:=own_is_it S0.out hj;exact⟨cs,_,_,hc,rfl⟩)
      have c:=c.grown g3 c.size (fun j hj=>(S0.out.lt j hj).1)
      have S1:Hid (SlI y2 W.heap.size (.slice us.a us.n us.c) k.sa):=o3
      have I1:=hid (I1.out.kt KT (by decide))
      refine hK.out _ _ (c) (fun hHeld=>?_)
      clear hK K
      try simp only[Act.put,LgT,Lg0,LgS,LsT,Ls0,LsS]
      clear o3 g3 KT S0
      refine tkP (i:=13) rfl (by kernel_rfl) (fun _ _ _ h=>h) (by rfl) (fun w hSw=>by simp only[LgT,Lg0,LgS];go_simp;try with_reducible rfl) (by assumption) ?_
      try simp only[Act.put,LgT,Lg0,LgS,LsT,Ls0,LsS]
      refine wpAnyH_ready (rs:=[14]) (by kernel_rfl) (by simp) ?_
      refine AllReadyH.cons (i:=14) rfl (fun K hK=>?_) AllReadyH.nil
      rw[if_pos (by rfl)]
      simp only[LgT,Lg0,LgS]
      go_simp
      have b:=bA y2 (.cells zzW.toArray 56)
      have I1:=hid (ownL I1.out b)
      have S1:=hid (S1.out.below b)
      have BO:=hid (bxAt y2 56 [.int .i64 0,.slice none 0 0,.slice none 0 0,.slice none 0 0,.slice none 0 0,.slice none 0 0] y2.heap.size (by simp))
      have zo:W.heap.size≤y2.heap.size:=by have h:=c.size;rw[show y2.heap.size=y2.heap.size by simp]at h;exact h
      have c:=bl_next c b
      refine hK.out _ _ (c) (fun hHeld=>?_)
      clear hK K
      try simp only[Act.put,LgT,Lg0,LgS,LsT,Ls0,LsS]
      clear b
      refine wpAnyH_ready (rs:=[15]) (by kernel_rfl) (by simp) ?_
      refine AllReadyH.cons (i:=15) rfl (fun K hK=>?_) AllReadyH.nil
      rw[if_pos (by rfl)]
      simp only[LgT,Lg0,LgS]
      refine wp_stW 56 _ _ rfl y2.heap.size (by rfl) 56 _ BO.out [.int .i64 k.rid,.slice ur.a ur.n ur.c,.slice none 0 0,.slice none 0 0,.slice none 0 0,.slice us.a us.n us.c] (by rfl) rfl Tryz.sizeWk rfl ?_
      intro x1 kb kt
      have I1:=hid (I1.out.past BO.out kt (by decide))
      have S1:=hid (SlI.past S1.out BO.out kt (by decide))
      have c:=c.trans (kt.below zo)
      have BO:=hid kb
      refine hK.out _ _ (c) (fun hHeld=>?_)
      clear hK K
      try simp only[Act.put,LgT,Lg0,LgS,LsT,Ls0,LsS]
      clear kb kt
      refine wpAnyH_done (by kernel_rfl) ?_ _
      try go_wp2_with fail
      go_meet
      exact⟨y2.heap.size,ur,us,rfl,BO.out,I1.out,S1.out,zo,c⟩
     ·skip
      rw[if_pos (by rfl)]
      simp only[LgT,Lg0,LgS]
      go_simp
      have b:Below (y1.alloc (.cells #[] 41)).heap.size (y1.alloc (.cells #[] 41)) ((y1.alloc (.cells #[] 41)).alloc (.cells zzW.toArray 56)):=(Below.refl _ _).alloc (Nat.le_refl _) _
      have I1:=hid (ownL I1.out b)
      have S0:=hid (S0.out.below b)
      have BO:=hid (bxAt (y1.alloc (.cells #[] 41)) 56 [.int .i64 0,.slice none 0 0,.slice none 0 0,.slice none 0 0,.slice none 0 0,.slice none 0 0] (y1.heap.size+1) (by simp))
      have zo:W.heap.size≤(y1.heap.size+1):=by have h:=c.size;rw[show(y1.alloc (.cells #[] 41)).heap.size=(y1.heap.size+1) by simp]at h;exact h
      have c:=bl_next c b
      refine hK.out _ _ (c) (fun hHeld=>?_)
      clear hK K
      try simp only[Act.put,LgT,Lg0,LgS,LsT,Ls0,LsS]
      clear b
      refine wpAnyH_ready (rs:=[12]) (by kernel_rfl) (by simp) ?_
      refine AllReadyH.cons (i:=12) rfl (fun K hK=>?_) AllReadyH.nil
      rw[if_pos (by rfl)]
      simp only[LgT,Lg0,LgS]
      refine wp_catIt _ _ 27 rfl Tryz.underlying27 W.heap.size (.slice (some ⟨y1.heap.size,0,none⟩) 0 0) [] (by rfl) S0.out (.slice k.sav.a k.sav.n k.sav.c) k.sa (by rfl) (P0.out.sa.rit.stays c) (by simp;omega) c.size ?_
      intro v3 y2 o3 g3 _
      obtain⟨us,hu3⟩:=SlI.sv o3
      subst hu3
      rw[List.nil_append]at o3
      have KT:KeepTy (fun X=>X=41) ((y1.alloc (.cells #[] 41)).alloc (.cells zzW.toArray 56)) y2:=KeepTy.ofGrown g3 (fun j hj=>by obtain⟨cs,hc⟩:=own_is_it S0.out hj;exact⟨cs,_,_,hc,rfl⟩)
      have c:=c.grown g3 c.size (fun j hj=>(S0.out.lt j hj).1)
      have S1:Hid (SlI y2 W.heap.size (.slice us.a us.n us.c) k.sa):=o3
      have I1:=hid (I1.out.kt KT (by decide))
      have BO:=hid (BO.out.kt KT (by decide))
      refine hK.out _ _ (c) (fun hHeld=>?_)
      clear hK K
      try simp only[Act.put,LgT,Lg0,LgS,LsT,Ls0,LsS]
      clear o3 g3 KT S0
      refine tkP (i:=13) rfl (by kernel_rfl) (fun _ _ _ h=>h) (by rfl) (fun w hSw=>by simp only[LgT,Lg0,LgS];go_simp;try with_reducible rfl) (by assumption) ?_
      try simp only[Act.put,LgT,Lg0,LgS,LsT,Ls0,LsS]
      refine wpAnyH_ready (rs:=[15]) (by kernel_rfl) (by simp) ?_
      refine AllReadyH.cons (i:=15) rfl (fun K hK=>?_) AllReadyH.nil
      rw[if_pos (by rfl)]
      simp only[LgT,Lg0,LgS]
      refine wp_stW 56 _ _ rfl (y1.heap.size+1) (by rfl) 56 _ BO.out [.int .i64 k.rid,.slice ur.a ur.n ur.c,.slice none 0 0,.slice none 0 0,.slice none 0 0,.slice us.a us.n us.c] (by rfl) rfl Tryz.sizeWk rfl ?_
      intro x1 kb kt
      have I1:=hid (I1.out.past BO.out kt (by decide))
      have S1:=hid (SlI.past S1.out BO.out kt (by decide))
      have c:=c.trans (kt.below zo)
      have BO:=hid kb
      refine hK.out _ _ (c) (fun hHeld=>?_)
      clear hK K
      try simp only[Act.put,LgT,Lg0,LgS,LsT,Ls0,LsS]
      clear kb kt
      refine wpAnyH_done (by kernel_rfl) ?_ _
      try go_wp2_with fail
      go_meet
      exact⟨(y1.heap.size+1),ur,us,rfl,BO.out,I1.out,S1.out,zo,c⟩
    ·skip
     rw[if_pos (by rfl)]
     simp only[LgT,Lg0,LgS]
     go_simp
     have b:=bA y1 (.cells zzW.toArray 56)
     have I1:=hid (ownL I1.out b)
     have BO:=hid (bxAt y1 56 [.int .i64 0,.slice none 0 0,.slice none 0 0,.slice none 0 0,.slice none 0 0,.slice none 0 0] y1.heap.size (by simp))
     have zo:W.heap.size≤y1.heap.size:=by have h:=c.size;rw[show y1.heap.size=y1.heap.size by simp]at h;exact h
     have c:=bl_next c b
     refine hK.out _ _ (c) (fun hHeld=>?_)
     clear hK K
     try simp only[Act.put,LgT,Lg0,LgS,LsT,Ls0,LsS]
     clear b
     refine wpAnyH_ready (rs:=[9]) (by kernel_rfl) (by simp) ?_
     refine AllReadyH.cons (i:=9) rfl (fun K hK=>?_) AllReadyH.nil
     rw[if_pos (by rfl)]
     simp only[LgT,Lg0,LgS]
     go_simp
     have b:Below (y1.alloc (.cells zzW.toArray 56)).heap.size (y1.alloc (.cells zzW.toArray 56)) ((y1.alloc (.cells zzW.toArray 56)).alloc (.cells #[] 41)):=(Below.refl _ _).alloc (Nat.le_refl _) _
     have I1:=hid (ownL I1.out b)
     have BO:=hid (BO.out.later b)
     have S0:=hid (sliAt (y1.alloc (.cells zzW.toArray 56)) W.heap.size (y1.heap.size+1) c.size (by simp))
     have c:=bl_next c b
     refine hK.out _ _ (c) (fun hHeld=>?_)
     clear hK K
     try simp only[Act.put,LgT,Lg0,LgS,LsT,Ls0,LsS]
     clear b
     refine wpAnyH_ready (rs:=[12]) (by kernel_rfl) (by simp) ?_
     refine AllReadyH.cons (i:=12) rfl (fun K hK=>?_) AllReadyH.nil
     rw[if_pos (by rfl)]
     simp only[LgT,Lg0,LgS]
     refine wp_catIt _ _ 27 rfl Tryz.underlying27 W.heap.size (.slice (some ⟨(y1.heap.size+1),0,none⟩) 0 0) [] (by rfl) S0.out (.slice k.sav.a k.sav.n k.sav.c) k.sa (by rfl) (P0.out.sa.rit.stays c) (by simp;omega) c.size ?_
     intro v3 y2 o3 g3 _
     obtain⟨us,hu3⟩:=SlI.sv o3
     subst hu3
     rw[List.nil_append]at o3
     have KT:KeepTy (fun X=>X=41) ((y1.alloc (.cells zzW.toArray 56)).alloc (.cells #[] 41)) y2:=KeepTy.ofGrown g3 (fun j hj=>by obtain⟨cs,hc⟩:=own_is_it S0.out hj;exact⟨cs,_,_,hc,rfl⟩)
     have c:=c.grown g3 c.size (fun j hj=>(S0.out.lt j hj).1)
     have S1:Hid (SlI y2 W.heap.size (.slice us.a us.n us.c) k.sa):=o3
     have I1:=hid (I1.out.kt KT (by decide))
     have BO:=hid (BO.out.kt KT (by decide))
     refine hK.out _ _ (c) (fun hHeld=>?_)
     clear hK K
     try simp only[Act.put,LgT,Lg0,LgS,LsT,Ls0,LsS]
     clear o3 g3 KT S0
     refine tkP (i:=13) rfl (by kernel_rfl) (fun _ _ _ h=>h) (by rfl) (fun w hSw=>by simp only[LgT,Lg0,LgS];go_simp;try with_reducible rfl) (by assumption) ?_
     try simp only[Act.put,LgT,Lg0,LgS,LsT,Ls0,LsS]
     refine wpAnyH_ready (rs:=[15]) (by kernel_rfl) (by simp) ?_
     refine AllReadyH.cons (i:=15) rfl (fun K hK=>?_) AllReadyH.nil
     rw[if_pos (by rfl)]
     simp only[LgT,Lg0,LgS]
     refine wp_stW 56 _ _ rfl y1.heap.size (by rfl) 56 _ BO.out [.int .i64 k.rid,.slice ur.a ur.n ur.c,.slice none 0 0,.slice none 0 0,.slice none 0 0,.slice us.a us.n us.c] (by rfl) rfl Tryz.sizeWk rfl ?_
     intro x1 kb kt
     have I1:=hid (I1.out.past BO.out kt (by decide))
     have S1:=hid (SlI.past S1.out BO.out kt (by decide))
     have c:=c.trans (kt.below zo)
     have BO:=hid kb
     refine hK.out _ _ (c) (fun hHeld=>?_)
     clear hK K
     try simp only[Act.put,LgT,Lg0,LgS,LsT,Ls0,LsS]
     clear kb kt
     refine wpAnyH_done (by kernel_rfl) ?_ _
     try go_wp2_with fail
     go_meet
     exact⟨y1.heap.size,ur,us,rfl,BO.out,I1.out,S1.out,zo,c⟩
   ·skip
    rw[if_pos (by rfl)]
    simp only[LgT,Lg0,LgS]
    go_simp
    have b:Below (W.drew.alloc (.cells #[] 3)).heap.size (W.drew.alloc (.cells #[] 3)) ((W.drew.alloc (.cells #[] 3)).alloc (.cells #[] 41)):=(Below.refl _ _).alloc (Nat.le_refl _) _
    have I0:=hid (ownL I0.out b)
    have S0:=hid (sliAt (W.drew.alloc (.cells #[] 3)) W.heap.size (W.heap.size+1) c.size (by simp))
    have c:=bl_next c b
    refine hK.out _ _ (c) (fun hHeld=>?_)
    clear hK K
    try simp only[Act.put,LgT,Lg0,LgS,LsT,Ls0,LsS]
    clear b
    refine wpAnyH_ready (rs:=[7,14]) (by kernel_rfl) (by simp) ?_
    refine(AllReadyH.cons (i:=7) rfl (fun K hK=>?_) (AllReadyH.cons (i:=14) rfl (fun K hK=>?_) AllReadyH.nil))
    ·skip
     rw[if_pos (by rfl)]
     simp only[LgT,Lg0,LgS]
     refine wp_catR _ _ 24 rfl Tryz.underlying24 Tryz.info3' W.heap.size (.slice (some ⟨W.heap.size,0,none⟩) 0 0) [] (by rfl) I0.out (.slice k.mv.a k.mv.n k.mv.c) k.ms (by rfl) (P0.out.ring.ri.stays c) (by simp;omega) c.size (fun h=>by cases h) ?_
     intro v2 y1 o2 g2
     obtain⟨ur,hu2⟩:=o2.sv
     subst hu2
     rw[List.nil_append]at o2
     have KT:KeepTy (fun X=>X=3) ((W.drew.alloc (.cells #[] 3)).alloc (.cells #[] 41)) y1:=KeepTy.ofGrown g2 (fun j hj=>by obtain⟨cs,hc⟩:=own_is_i I0.out hj;exact⟨cs,_,_,hc,rfl⟩)
     have c:=c.grown g2 c.size (fun j hj=>(I0.out.lt j hj).1)
     have I1:Hid (OwnI y1 W.heap.size (.slice ur.a ur.n ur.c) k.ms):=o2
     have S0:=hid (S0.out.kt KT (by decide))
     refine hK.out _ _ (c) (fun hHeld=>?_)
     clear hK K
     try simp only[Act.put,LgT,Lg0,LgS,LsT,Ls0,LsS]
     clear o2 g2 KT I0
     refine tkP (i:=8) rfl (by kernel_rfl) (fun _ _ _ h=>h) (by rfl) (fun w hSw=>by simp only[LgT,Lg0,LgS];go_simp;try with_reducible rfl) (by assumption) ?_
     try simp only[Act.put,LgT,Lg0,LgS,LsT,Ls0,LsS]
     refine wpAnyH_ready (rs:=[12,14]) (by kernel_rfl) (by simp) ?_
     refine(AllReadyH.cons (i:=12) rfl (fun K hK=>?_) (AllReadyH.cons (i:=14) rfl (fun K hK=>?_) AllReadyH.nil))
     ·skip
      rw[if_pos (by rfl)]
      simp only[LgT,Lg0,LgS]
      refine wp_catIt _ _ 27 rfl Tryz.underlying27 W.heap.size (.slice (some ⟨(W.heap.size+1),0,none⟩) 0 0) [] (by rfl) S0.out (.slice k.sav.a k.sav.n k.sav.c) k.sa (by rfl) (P0.out.sa.rit.stays c) (by simp;omega) c.size ?_
      intro v3 y2 o3 g3 _
      obtain⟨us,hu3⟩:=SlI.sv o3
      subst hu3
      rw[List.nil_append]at o3
      have KT:KeepTy (fun X=>X=41) y1 y2:=KeepTy.ofGrown g3 (fun j hj=>by obtain⟨cs,hc⟩:=own_is_it S0.out hj;exact⟨cs,_,_,hc,rfl⟩)
      have c:=c.grown g3 c.size (fun j hj=>(S0.out.lt j hj).1)
      have S1:Hid (SlI y2 W.heap.size (.slice us.a us.n us.c) k.sa):=o3
      have I1:=hid (I1.out.kt KT (by decide))
      refine hK.out _ _ (c) (fun hHeld=>?_)
      clear hK K
      try simp only[Act.put,LgT,Lg0,LgS,LsT,Ls0,LsS]
      clear o3 g3 KT S0
      refine tkP (i:=13) rfl (by kernel_rfl) (fun _ _ _ h=>h) (by rfl) (fun w hSw=>by simp only[LgT,Lg0,LgS];go_simp;try with_reducible rfl) (by assumption) ?_
      try simp only[Act.put,LgT,Lg0,LgS,LsT,Ls0,LsS]
      refine wpAnyH_ready (rs:=[14]) (by kernel_rfl) (by simp) ?_
      refine AllReadyH.cons (i:=14) rfl (fun K hK=>?_) AllReadyH.nil
      rw[if_pos (by rfl)]
      simp only[LgT,Lg0,LgS]
      go_simp
      have b:=bA y2 (.cells zzW.toArray 56)
      have I1:=hid (ownL I1.out b)
      have S1:=hid (S1.out.below b)
      have BO:=hid (bxAt y2 56 [.int .i64 0,.slice none 0 0,.slice none 0 0,.slice none 0 0,.slice none 0 0,.slice none 0 0] y2.heap.size (by simp))
      have zo:W.heap.size≤y2.heap.size:=by have h:=c.size;rw[show y2.heap.size=y2.heap.size by simp]at h;exact h
      have c:=bl_next c b
      refine hK.out _ _ (c) (fun hHeld=>?_)
      clear hK K
      try simp only[Act.put,LgT,Lg0,LgS,LsT,Ls0,LsS]
      clear b
      refine wpAnyH_ready (rs:=[15]) (by kernel_rfl) (by simp) ?_
      refine AllReadyH.cons (i:=15) rfl (fun K hK=>?_) AllReadyH.nil
      rw[if_pos (by rfl)]
      simp only[LgT,Lg0,LgS]
      refine wp_stW 56 _ _ rfl y2.heap.size (by rfl) 56 _ BO.out [.int .i64 k.rid,.slice ur.a ur.n ur.c,.slice none 0 0,.slice none 0 0,.slice none 0 0,.slice us.a us.n us.c] (by rfl) rfl Tryz.sizeWk rfl ?_
      intro x1 kb kt
      have I1:=hid (I1.out.past BO.out kt (by decide))
      have S1:=hid (SlI.past S1.out BO.out kt (by decide))
      have c:=c.trans (kt.below zo)
      have BO:=hid kb
      refine hK.out _ _ (c) (fun hHeld=>?_)
      clear hK K
      try simp only[Act.put,LgT,Lg0,LgS,LsT,Ls0,LsS]
      clear kb kt
      refine wpAnyH_done (by kernel_rfl) ?_ _
      try go_wp2_with fail
      go_meet
      exact⟨y2.heap.size,ur,us,rfl,BO.out,I1.out,S1.out,zo,c⟩
     ·skip
      rw[if_pos (by rfl)]
      simp only[LgT,Lg0,LgS]
      go_simp
      have b:=bA y1 (.cells zzW.toArray 56)
      have I1:=hid (ownL I1.out b)
      have S0:=hid (S0.out.below b)
      have BO:=hid (bxAt y1 56 [.int .i64 0,.slice none 0 0,.slice none 0 0,.slice none 0 0,.slice none 0 0,.slice none 0 0] y1.heap.size (by simp))
      have zo:W.heap.size≤y1.heap.size:=by have h:=c.size;rw[show y1.heap.size=y1.heap.size by simp]at h;exact h
      have c:=bl_next c b
      refine hK.out _ _ (c) (fun hHeld=>?_)
      clear hK K
      try simp only[Act.put,LgT,Lg0,LgS,LsT,Ls0,LsS]
      clear b
      refine wpAnyH_ready (rs:=[12]) (by kernel_rfl) (by simp) ?_
      refine AllReadyH.cons (i:=12) rfl (fun K hK=>?_) AllReadyH.nil
      rw[if_pos (by rfl)]
      simp only[LgT,Lg0,LgS]
      refine wp_catIt _ _ 27 rfl Tryz.underlying27 W.heap.size (.slice (some ⟨(W.heap.size+1),0,none⟩) 0 0) [] (by rfl) S0.out (.slice k.sav.a k.sav.n k.sav.c) k.sa (by rfl) (P0.out.sa.rit.stays c) (by simp;omega) c.size ?_
      intro v3 y2 o3 g3 _
      obtain⟨us,hu3⟩:=SlI.sv o3
      subst hu3
      rw[List.nil_append]at o3
      have KT:KeepTy (fun X=>X=41) (y1.alloc (.cells zzW.toArray 56)) y2:=KeepTy.ofGrown g3 (fun j hj=>by obtain⟨cs,hc⟩:=own_is_it S0.out hj;exact⟨cs,_,_,hc,rfl⟩)
      have c:=c.grown g3 c.size (fun j hj=>(S0.out.lt j hj).1)
      have S1:Hid (SlI y2 W.heap.size (.slice us.a us.n us.c) k.sa):=o3
      have I1:=hid (I1.out.kt KT (by decide))
      have BO:=hid (BO.out.kt KT (by decide))
      refine hK.out _ _ (c) (fun hHeld=>?_)
      clear hK K
      try simp only[Act.put,LgT,Lg0,LgS,LsT,Ls0,LsS]
      clear o3 g3 KT S0
      refine tkP (i:=13) rfl (by kernel_rfl) (fun _ _ _ h=>h) (by rfl) (fun w hSw=>by simp only[LgT,Lg0,LgS];go_simp;try with_reducible rfl) (by assumption) ?_
      try simp only[Act.put,LgT,Lg0,LgS,LsT,Ls0,LsS]
      refine wpAnyH_ready (rs:=[15]) (by kernel_rfl) (by simp) ?_
      refine AllReadyH.cons (i:=15) rfl (fun K hK=>?_) AllReadyH.nil
      rw[if_pos (by rfl)]
      simp only[LgT,Lg0,LgS]
      refine wp_stW 56 _ _ rfl y1.heap.size (by rfl) 56 _ BO.out [.int .i64 k.rid,.slice ur.a ur.n ur.c,.slice none 0 0,.slice none 0 0,.slice none 0 0,.slice us.a us.n us.c] (by rfl) rfl Tryz.sizeWk rfl ?_
      intro x1 kb kt
      have I1:=hid (I1.out.past BO.out kt (by decide))
      have S1:=hid (SlI.past S1.out BO.out kt (by decide))
      have c:=c.trans (kt.below zo)
      have BO:=hid kb
      refine hK.out _ _ (c) (fun hHeld=>?_)
      clear hK K
      try simp only[Act.put,LgT,Lg0,LgS,LsT,Ls0,LsS]
      clear kb kt
      refine wpAnyH_done (by kernel_rfl) ?_ _
      try go_wp2_with fail
      go_meet
      exact⟨y1.heap.size,ur,us,rfl,BO.out,I1.out,S1.out,zo,c⟩
    ·skip
     rw[if_pos (by rfl)]
     simp only[LgT,Lg0,LgS]
     go_simp
     have b:Below ((W.drew.alloc (.cells #[] 3)).alloc (.cells #[] 41)).heap.size ((W.drew.alloc (.cells #[] 3)).alloc (.cells #[] 41)) (((W.drew.alloc (.cells #[] 3)).alloc (.cells #[] 41)).alloc (.cells zzW.toArray 56)):=(Below.refl _ _).alloc (Nat.le_refl _) _
     have I0:=hid (ownL I0.out b)
     have S0:=hid (S0.out.below b)
     have BO:=hid (bxAt ((W.drew.alloc (.cells #[] 3)).alloc (.cells #[] 41)) 56 [.int .i64 0,.slice none 0 0,.slice none 0 0,.slice none 0 0,.slice none 0 0,.slice none 0 0] (W.heap.size+1+1) (by simp))
     have zo:W.heap.size≤(W.heap.size+1+1):=by have h:=c.size;rw[show((W.drew.alloc (.cells #[] 3)).alloc (.cells #[] 41)).heap.size=(W.heap.size+1+1) by simp]at h;exact h
     have c:=bl_next c b
     refine hK.out _ _ (c) (fun hHeld=>?_)
     clear hK K
     try simp only[Act.put,LgT,Lg0,LgS,LsT,Ls0,LsS]
     clear b
     refine wpAnyH_ready (rs:=[7]) (by kernel_rfl) (by simp) ?_
     refine AllReadyH.cons (i:=7) rfl (fun K hK=>?_) AllReadyH.nil
     rw[if_pos (by rfl)]
     simp only[LgT,Lg0,LgS]
     refine wp_catR _ _ 24 rfl Tryz.underlying24 Tryz.info3' W.heap.size (.slice (some ⟨W.heap.size,0,none⟩) 0 0) [] (by rfl) I0.out (.slice k.mv.a k.mv.n k.mv.c) k.ms (by rfl) (P0.out.ring.ri.stays c) (by simp;omega) c.size (fun h=>by cases h) ?_
     intro v2 y1 o2 g2
     obtain⟨ur,hu2⟩:=o2.sv
     subst hu2
     rw[List.nil_append]at o2
     have KT:KeepTy (fun X=>X=3) (((W.drew.alloc (.cells #[] 3)).alloc (.cells #[] 41)).alloc (.cells zzW.toArray 56)) y1:=KeepTy.ofGrown g2 (fun j hj=>by obtain⟨cs,hc⟩:=own_is_i I0.out hj;exact⟨cs,_,_,hc,rfl⟩)
     have c:=c.grown g2 c.size (fun j hj=>(I0.out.lt j hj).1)
     have I1:Hid (OwnI y1 W.heap.size (.slice ur.a ur.n ur.c) k.ms):=o2
     have S0:=hid (S0.out.kt KT (by decide))
     have BO:=hid (BO.out.kt KT (by decide))
     refine hK.out _ _ (c) (fun hHeld=>?_)
     clear hK K
     try simp only[Act.put,LgT,Lg0,LgS,LsT,Ls0,LsS]
     clear o2 g2 KT I0
     refine tkP (i:=8) rfl (by kernel_rfl) (fun _ _ _ h=>h) (by rfl) (fun w hSw=>by simp only[LgT,Lg0,LgS];go_simp;try with_reducible rfl) (by assumption) ?_
     try simp only[Act.put,LgT,Lg0,LgS,LsT,Ls0,LsS]
     refine wpAnyH_ready (rs:=[12]) (by kernel_rfl) (by simp) ?_
     refine AllReadyH.cons (i:=12) rfl (fun K hK=>?_) AllReadyH.nil
     rw[if_pos (by rfl)]
     simp only[LgT,Lg0,LgS]
     refine wp_catIt _ _ 27 rfl Tryz.underlying27 W.heap.size (.slice (some ⟨(W.heap.size+1),0,none⟩) 0 0) [] (by rfl) S0.out (.slice k.sav.a k.sav.n k.sav.c) k.sa (by rfl) (P0.out.sa.rit.stays c) (by simp;omega) c.size ?_
     intro v3 y2 o3 g3 _
     obtain⟨us,hu3⟩:=SlI.sv o3
     subst hu3
     rw[List.nil_append]at o3
     have KT:KeepTy (fun X=>X=41) y1 y2:=KeepTy.ofGrown g3 (fun j hj=>by obtain⟨cs,hc⟩:=own_is_it S0.out hj;exact⟨cs,_,_,hc,rfl⟩)
     have c:=c.grown g3 c.size (fun j hj=>(S0.out.lt j hj).1)
     have S1:Hid (SlI y2 W.heap.size (.slice us.a us.n us.c) k.sa):=o3
     have I1:=hid (I1.out.kt KT (by decide))
     have BO:=hid (BO.out.kt KT (by decide))
     refine hK.out _ _ (c) (fun hHeld=>?_)
     clear hK K
     try simp only[Act.put,LgT,Lg0,LgS,LsT,Ls0,LsS]
     clear o3 g3 KT S0
     refine tkP (i:=13) rfl (by kernel_rfl) (fun _ _ _ h=>h) (by rfl) (fun w hSw=>by simp only[LgT,Lg0,LgS];go_simp;try with_reducible rfl) (by assumption) ?_
     try simp only[Act.put,LgT,Lg0,LgS,LsT,Ls0,LsS]
     refine wpAnyH_ready (rs:=[15]) (by kernel_rfl) (by simp) ?_
     refine AllReadyH.cons (i:=15) rfl (fun K hK=>?_) AllReadyH.nil
     rw[if_pos (by rfl)]
     simp only[LgT,Lg0,LgS]
     refine wp_stW 56 _ _ rfl (W.heap.size+1+1) (by rfl) 56 _ BO.out [.int .i64 k.rid,.slice ur.a ur.n ur.c,.slice none 0 0,.slice none 0 0,.slice none 0 0,.slice us.a us.n us.c] (by rfl) rfl Tryz.sizeWk rfl ?_
     intro x1 kb kt
     have I1:=hid (I1.out.past BO.out kt (by decide))
     have S1:=hid (SlI.past S1.out BO.out kt (by decide))
     have c:=c.trans (kt.below zo)
     have BO:=hid kb
     refine hK.out _ _ (c) (fun hHeld=>?_)
     clear hK K
     try simp only[Act.put,LgT,Lg0,LgS,LsT,Ls0,LsS]
     clear kb kt
     refine wpAnyH_done (by kernel_rfl) ?_ _
     try go_wp2_with fail
     go_meet
     exact⟨(W.heap.size+1+1),ur,us,rfl,BO.out,I1.out,S1.out,zo,c⟩
   ·skip
    rw[if_pos (by rfl)]
    simp only[LgT,Lg0,LgS]
    go_simp
    have b:Below (W.drew.alloc (.cells #[] 3)).heap.size (W.drew.alloc (.cells #[] 3)) ((W.drew.alloc (.cells #[] 3)).alloc (.cells zzW.toArray 56)):=(Below.refl _ _).alloc (Nat.le_refl _) _
    have I0:=hid (ownL I0.out b)
    have BO:=hid (bxAt (W.drew.alloc (.cells #[] 3)) 56 [.int .i64 0,.slice none 0 0,.slice none 0 0,.slice none 0 0,.slice none 0 0,.slice none 0 0] (W.heap.size+1) (by simp))
    have zo:W.heap.size≤(W.heap.size+1):=by have h:=c.size;rw[show(W.drew.alloc (.cells #[] 3)).heap.size=(W.heap.size+1) by simp]at h;exact h
    have c:=bl_next c b
    refine hK.out _ _ (c) (fun hHeld=>?_)
    clear hK K
    try simp only[Act.put,LgT,Lg0,LgS,LsT,Ls0,LsS]
    clear b
    refine wpAnyH_ready (rs:=[7,9]) (by kernel_rfl) (by simp) ?_
    refine(AllReadyH.cons (i:=7) rfl (fun K hK=>?_) (AllReadyH.cons (i:=9) rfl (fun K hK=>?_) AllReadyH.nil))
    ·skip
     rw[if_pos (by rfl)]
     simp only[LgT,Lg0,LgS]
     refine wp_catR _ _ 24 rfl Tryz.underlying24 Tryz.info3' W.heap.size (.slice (some ⟨W.heap.size,0,none⟩) 0 0) [] (by rfl) I0.out (.slice k.mv.a k.mv.n k.mv.c) k.ms (by rfl) (P0.out.ring.ri.stays c) (by simp;omega) c.size (fun h=>by cases h) ?_
     intro v2 y1 o2 g2
     obtain⟨ur,hu2⟩:=o2.sv
     subst hu2
     rw[List.nil_append]at o2
     have KT:KeepTy (fun X=>X=3) ((W.drew.alloc (.cells #[] 3)).alloc (.cells zzW.toArray 56)) y1:=KeepTy.ofGrown g2 (fun j hj=>by obtain⟨cs,hc⟩:=own_is_i I0.out hj;exact⟨cs,_,_,hc,rfl⟩)
     have c:=c.grown g2 c.size (fun j hj=>(I0.out.lt j hj).1)
     have I1:Hid (OwnI y1 W.heap.size (.slice ur.a ur.n ur.c) k.ms):=o2
     have BO:=hid (BO.out.kt KT (by decide))
     refine hK.out _ _ (c) (fun hHeld=>?_)
     clear hK K
     try simp only[Act.put,LgT,Lg0,LgS,LsT,Ls0,LsS]
     clear o2 g2 KT I0
     refine tkP (i:=8) rfl (by kernel_rfl) (fun _ _ _ h=>h) (by rfl) (fun w hSw=>by simp only[LgT,Lg0,LgS];go_simp;try with_reducible rfl) (by assumption) ?_
     try simp only[Act.put,LgT,Lg0,LgS,LsT,Ls0,LsS]
     refine wpAnyH_ready (rs:=[9]) (by kernel_rfl) (by simp) ?_
     refine AllReadyH.cons (i:=9) rfl (fun K hK=>?_) AllReadyH.nil
     rw[if_pos (by rfl)]
     simp only[LgT,Lg0,LgS]
     go_simp
     have b:=bA y1 (.cells #[] 41)
     have I1:=hid (ownL I1.out b)
     have BO:=hid (BO.out.later b)
     have S0:=hid (sliAt y1 W.heap.size y1.heap.size c.size (by simp))
     have c:=bl_next c b
     refine hK.out _ _ (c) (fun hHeld=>?_)
     clear hK K
     try simp only[Act.put,LgT,Lg0,LgS,LsT,Ls0,LsS]
     clear b
     refine wpAnyH_ready (rs:=[12]) (by kernel_rfl) (by simp) ?_
     refine AllReadyH.cons (i:=12) rfl (fun K hK=>?_) AllReadyH.nil
     rw[if_pos (by rfl)]
     simp only[LgT,Lg0,LgS]
     refine wp_catIt _ _ 27 rfl Tryz.underlying27 W.heap.size (.slice (some ⟨y1.heap.size,0,none⟩) 0 0) [] (by rfl) S0.out (.slice k.sav.a k.sav.n k.sav.c) k.sa (by rfl) (P0.out.sa.rit.stays c) (by simp;omega) c.size ?_
     intro v3 y2 o3 g3 _
     obtain⟨us,hu3⟩:=SlI.sv o3
     subst hu3
     rw[List.nil_append]at o3
     have KT:KeepTy (fun X=>X=41) (y1.alloc (.cells #[] 41)) y2:=KeepTy.ofGrown g3 (fun j hj=>by obtain⟨cs,hc⟩:=own_is_it S0.out hj;exact⟨cs,_,_,hc,rfl⟩)
     have c:=c.grown g3 c.size (fun j hj=>(S0.out.lt j hj).1)
     have S1:Hid (SlI y2 W.heap.size (.slice us.a us.n us.c) k.sa):=o3
     have I1:=hid (I1.out.kt KT (by decide))
     have BO:=hid (BO.out.kt KT (by decide))
     refine hK.out _ _ (c) (fun hHeld=>?_)
     clear hK K
     try simp only[Act.put,LgT,Lg0,LgS,LsT,Ls0,LsS]
     clear o3 g3 KT S0
     refine tkP (i:=13) rfl (by kernel_rfl) (fun _ _ _ h=>h) (by rfl) (fun w hSw=>by simp only[LgT,Lg0,LgS];go_simp;try with_reducible rfl) (by assumption) ?_
     try simp only[Act.put,LgT,Lg0,LgS,LsT,Ls0,LsS]
     refine wpAnyH_ready (rs:=[15]) (by kernel_rfl) (by simp) ?_
     refine AllReadyH.cons (i:=15) rfl (fun K hK=>?_) AllReadyH.nil
     rw[if_pos (by rfl)]
     simp only[LgT,Lg0,LgS]
     refine wp_stW 56 _ _ rfl (W.heap.size+1) (by rfl) 56 _ BO.out [.int .i64 k.rid,.slice ur.a ur.n ur.c,.slice none 0 0,.slice none 0 0,.slice none 0 0,.slice us.a us.n us.c] (by rfl) rfl Tryz.sizeWk rfl ?_
     intro x1 kb kt
     have I1:=hid (I1.out.past BO.out kt (by decide))
     have S1:=hid (SlI.past S1.out BO.out kt (by decide))
     have c:=c.trans (kt.below zo)
     have BO:=hid kb
     refine hK.out _ _ (c) (fun hHeld=>?_)
     clear hK K
     try simp only[Act.put,LgT,Lg0,LgS,LsT,Ls0,LsS]
     clear kb kt
     refine wpAnyH_done (by kernel_rfl) ?_ _
     try go_wp2_with fail
     go_meet
     exact⟨(W.heap.size+1),ur,us,rfl,BO.out,I1.out,S1.out,zo,c⟩
    ·skip
     rw[if_pos (by rfl)]
     simp only[LgT,Lg0,LgS]
     go_simp
     have b:Below ((W.drew.alloc (.cells #[] 3)).alloc (.cells zzW.toArray 56)).heap.size ((W.drew.alloc (.cells #[] 3)).alloc (.cells zzW.toArray 56)) (((W.drew.alloc (.cells #[] 3)).alloc (.cells zzW.toArray 56)).alloc (.cells #[] 41)):=(Below.refl _ _).alloc (Nat.le_refl _) _
     have I0:=hid (ownL I0.out b)
     have BO:=hid (BO.out.later b)
     have S0:=hid (sliAt ((W.drew.alloc (.cells #[] 3)).alloc (.cells zzW.toArray 56)) W.heap.size (W.heap.size+1+1) c.size (by simp))
     have c:=bl_next c b
     refine hK.out _ _ (c) (fun hHeld=>?_)
     clear hK K
     try simp only[Act.put,LgT,Lg0,LgS,LsT,Ls0,LsS]
     clear b
     refine wpAnyH_ready (rs:=[7]) (by kernel_rfl) (by simp) ?_
     refine AllReadyH.cons (i:=7) rfl (fun K hK=>?_) AllReadyH.nil
     rw[if_pos (by rfl)]
     simp only[LgT,Lg0,LgS]
     refine wp_catR _ _ 24 rfl Tryz.underlying24 Tryz.info3' W.heap.size (.slice (some ⟨W.heap.size,0,none⟩) 0 0) [] (by rfl) I0.out (.slice k.mv.a k.mv.n k.mv.c) k.ms (by rfl) (P0.out.ring.ri.stays c) (by simp;omega) c.size (fun h=>by cases h) ?_
     intro v2 y1 o2 g2
     obtain⟨ur,hu2⟩:=o2.sv
     subst hu2
     rw[List.nil_append]at o2
     have KT:KeepTy (fun X=>X=3) (((W.drew.alloc (.cells #[] 3)).alloc (.cells zzW.toArray 56)).alloc (.cells #[] 41)) y1:=KeepTy.ofGrown g2 (fun j hj=>by obtain⟨cs,hc⟩:=own_is_i I0.out hj;exact⟨cs,_,_,hc,rfl⟩)
     have c:=c.grown g2 c.size (fun j hj=>(I0.out.lt j hj).1)
     have I1:Hid (OwnI y1 W.heap.size (.slice ur.a ur.n ur.c) k.ms):=o2
     have S0:=hid (S0.out.kt KT (by decide))
     have BO:=hid (BO.out.kt KT (by decide))
     refine hK.out _ _ (c) (fun hHeld=>?_)
     clear hK K
     try simp only[Act.put,LgT,Lg0,LgS,LsT,Ls0,LsS]
     clear o2 g2 KT I0
     refine tkP (i:=8) rfl (by kernel_rfl) (fun _ _ _ h=>h) (by rfl) (fun w hSw=>by simp only[LgT,Lg0,LgS];go_simp;try with_reducible rfl) (by assumption) ?_
     try simp only[Act.put,LgT,Lg0,LgS,LsT,Ls0,LsS]
     refine wpAnyH_ready (rs:=[12]) (by kernel_rfl) (by simp) ?_
     refine AllReadyH.cons (i:=12) rfl (fun K hK=>?_) AllReadyH.nil
     rw[if_pos (by rfl)]
     simp only[LgT,Lg0,LgS]
     refine wp_catIt _ _ 27 rfl Tryz.underlying27 W.heap.size (.slice (some ⟨(W.heap.size+1+1),0,none⟩) 0 0) [] (by rfl) S0.out (.slice k.sav.a k.sav.n k.sav.c) k.sa (by rfl) (P0.out.sa.rit.stays c) (by simp;omega) c.size ?_
     intro v3 y2 o3 g3 _
     obtain⟨us,hu3⟩:=SlI.sv o3
     subst hu3
     rw[List.nil_append]at o3
     have KT:KeepTy (fun X=>X=41) y1 y2:=KeepTy.ofGrown g3 (fun j hj=>by obtain⟨cs,hc⟩:=own_is_it S0.out hj;exact⟨cs,_,_,hc,rfl⟩)
     have c:=c.grown g3 c.size (fun j hj=>(S0.out.lt j hj).1)
     have S1:Hid (SlI y2 W.heap.size (.slice us.a us.n us.c) k.sa):=o3
     have I1:=hid (I1.out.kt KT (by decide))
     have BO:=hid (BO.out.kt KT (by decide))
     refine hK.out _ _ (c) (fun hHeld=>?_)
     clear hK K
     try simp only[Act.put,LgT,Lg0,LgS,LsT,Ls0,LsS]
     clear o3 g3 KT S0
     refine tkP (i:=13) rfl (by kernel_rfl) (fun _ _ _ h=>h) (by rfl) (fun w hSw=>by simp only[LgT,Lg0,LgS];go_simp;try with_reducible rfl) (by assumption) ?_
     try simp only[Act.put,LgT,Lg0,LgS,LsT,Ls0,LsS]
     refine wpAnyH_ready (rs:=[15]) (by kernel_rfl) (by simp) ?_
     refine AllReadyH.cons (i:=15) rfl (fun K hK=>?_) AllReadyH.nil
     rw[if_pos (by rfl)]
     simp only[LgT,Lg0,LgS]
     refine wp_stW 56 _ _ rfl (W.heap.size+1) (by rfl) 56 _ BO.out [.int .i64 k.rid,.slice ur.a ur.n ur.c,.slice none 0 0,.slice none 0 0,.slice none 0 0,.slice us.a us.n us.c] (by rfl) rfl Tryz.sizeWk rfl ?_
     intro x1 kb kt
     have I1:=hid (I1.out.past BO.out kt (by decide))
     have S1:=hid (SlI.past S1.out BO.out kt (by decide))
     have c:=c.trans (kt.below zo)
     have BO:=hid kb
     refine hK.out _ _ (c) (fun hHeld=>?_)
     clear hK K
     try simp only[Act.put,LgT,Lg0,LgS,LsT,Ls0,LsS]
     clear kb kt
     refine wpAnyH_done (by kernel_rfl) ?_ _
     try go_wp2_with fail
     go_meet
     exact⟨(W.heap.size+1),ur,us,rfl,BO.out,I1.out,S1.out,zo,c⟩
  ·skip
   rw[if_pos (by rfl)]
   simp only[LgT,Lg0,LgS]
   go_simp
   have b:=bA W.drew (.cells #[] 41)
   have S0:=hid (sliAt W.drew W.heap.size W.heap.size c.size (by simp))
   have c:=bl_next c b
   refine hK.out _ _ (c) (fun hHeld=>?_)
   clear hK K
   try simp only[Act.put,LgT,Lg0,LgS,LsT,Ls0,LsS]
   clear b
   refine wpAnyH_ready (rs:=[3,14]) (by kernel_rfl) (by simp) ?_
   refine(AllReadyH.cons (i:=3) rfl (fun K hK=>?_) (AllReadyH.cons (i:=14) rfl (fun K hK=>?_) AllReadyH.nil))
   ·skip
    rw[if_pos (by rfl)]
    simp only[LgT,Lg0,LgS]
    go_simp
    have b:Below (W.drew.alloc (.cells #[] 41)).heap.size (W.drew.alloc (.cells #[] 41)) ((W.drew.alloc (.cells #[] 41)).alloc (.cells #[] 3)):=(Below.refl _ _).alloc (Nat.le_refl _) _
    have S0:=hid (S0.out.below b)
    have I0:=hid (owiAt (W.drew.alloc (.cells #[] 41)) W.heap.size (W.heap.size+1) c.size (by simp))
    have c:=bl_next c b
    refine hK.out _ _ (c) (fun hHeld=>?_)
    clear hK K
    try simp only[Act.put,LgT,Lg0,LgS,LsT,Ls0,LsS]
    clear b
    refine wpAnyH_ready (rs:=[7,14]) (by kernel_rfl) (by simp) ?_
    refine(AllReadyH.cons (i:=7) rfl (fun K hK=>?_) (AllReadyH.cons (i:=14) rfl (fun K hK=>?_) AllReadyH.nil))
    ·skip
     rw[if_pos (by rfl)]
     simp only[LgT,Lg0,LgS]
     refine wp_catR _ _ 24 rfl Tryz.underlying24 Tryz.info3' W.heap.size (.slice (some ⟨(W.heap.size+1),0,none⟩) 0 0) [] (by rfl) I0.out (.slice k.mv.a k.mv.n k.mv.c) k.ms (by rfl) (P0.out.ring.ri.stays c) (by simp;omega) c.size (fun h=>by cases h) ?_
     intro v2 y1 o2 g2
     obtain⟨ur,hu2⟩:=o2.sv
     subst hu2
     rw[List.nil_append]at o2
     have KT:KeepTy (fun X=>X=3) ((W.drew.alloc (.cells #[] 41)).alloc (.cells #[] 3)) y1:=KeepTy.ofGrown g2 (fun j hj=>by obtain⟨cs,hc⟩:=own_is_i I0.out hj;exact⟨cs,_,_,hc,rfl⟩)
     have c:=c.grown g2 c.size (fun j hj=>(I0.out.lt j hj).1)
     have I1:Hid (OwnI y1 W.heap.size (.slice ur.a ur.n ur.c) k.ms):=o2
     have S0:=hid (S0.out.kt KT (by decide))
     refine hK.out _ _ (c) (fun hHeld=>?_)
     clear hK K
     try simp only[Act.put,LgT,Lg0,LgS,LsT,Ls0,LsS]
     clear o2 g2 KT I0
     refine tkP (i:=8) rfl (by kernel_rfl) (fun _ _ _ h=>h) (by rfl) (fun w hSw=>by simp only[LgT,Lg0,LgS];go_simp;try with_reducible rfl) (by assumption) ?_
     try simp only[Act.put,LgT,Lg0,LgS,LsT,Ls0,LsS]
     refine wpAnyH_ready (rs:=[12,14]) (by kernel_rfl) (by simp) ?_
     refine(AllReadyH.cons (i:=12) rfl (fun K hK=>?_) (AllReadyH.cons (i:=14) rfl (fun K hK=>?_) AllReadyH.nil))
     ·skip
      rw[if_pos (by rfl)]
      simp only[LgT,Lg0,LgS]
      refine wp_catIt _ _ 27 rfl Tryz.underlying27 W.heap.size (.slice (some ⟨W.heap.size,0,none⟩) 0 0) [] (by rfl) S0.out (.slice k.sav.a k.sav.n k.sav.c) k.sa (by rfl) (P0.out.sa.rit.stays c) (by simp;omega) c.size ?_
      intro v3 y2 o3 g3 _
      obtain⟨us,hu3⟩:=SlI.sv o3
      subst hu3
      rw[List.nil_append]at o3
      have KT:KeepTy (fun X=>X=41) y1 y2:=KeepTy.ofGrown g3 (fun j hj=>by obtain⟨cs,hc⟩:=own_is_it S0.out hj;exact⟨cs,_,_,hc,rfl⟩)
      have c:=c.grown g3 c.size (fun j hj=>(S0.out.lt j hj).1)
      have S1:Hid (SlI y2 W.heap.size (.slice us.a us.n us.c) k.sa):=o3
      have I1:=hid (I1.out.kt KT (by decide))
      refine hK.out _ _ (c) (fun hHeld=>?_)
      clear hK K
      try simp only[Act.put,LgT,Lg0,LgS,LsT,Ls0,LsS]
      clear o3 g3 KT S0
      refine tkP (i:=13) rfl (by kernel_rfl) (fun _ _ _ h=>h) (by rfl) (fun w hSw=>by simp only[LgT,Lg0,LgS];go_simp;try with_reducible rfl) (by assumption) ?_
      try simp only[Act.put,LgT,Lg0,LgS,LsT,Ls0,LsS]
      refine wpAnyH_ready (rs:=[14]) (by kernel_rfl) (by simp) ?_
      refine AllReadyH.cons (i:=14) rfl (fun K hK=>?_) AllReadyH.nil
      rw[if_pos (by rfl)]
      simp only[LgT,Lg0,LgS]
      go_simp
      have b:=bA y2 (.cells zzW.toArray 56)
      have I1:=hid (ownL I1.out b)
      have S1:=hid (S1.out.below b)
      have BO:=hid (bxAt y2 56 [.int .i64 0,.slice none 0 0,.slice none 0 0,.slice none 0 0,.slice none 0 0,.slice none 0 0] y2.heap.size (by simp))
      have zo:W.heap.size≤y2.heap.size:=by have h:=c.size;rw[show y2.heap.size=y2.heap.size by simp]at h;exact h
      have c:=bl_next c b
      refine hK.out _ _ (c) (fun hHeld=>?_)
      clear hK K
      try simp only[Act.put,LgT,Lg0,LgS,LsT,Ls0,LsS]
      clear b
      refine wpAnyH_ready (rs:=[15]) (by kernel_rfl) (by simp) ?_
      refine AllReadyH.cons (i:=15) rfl (fun K hK=>?_) AllReadyH.nil
      rw[if_pos (by rfl)]
      simp only[LgT,Lg0,LgS]
      refine wp_stW 56 _ _ rfl y2.heap.size (by rfl) 56 _ BO.out [.int .i64 k.rid,.slice ur.a ur.n ur.c,.slice none 0 0,.slice none 0 0,.slice none 0 0,.slice us.a us.n us.c] (by rfl) rfl Tryz.sizeWk rfl ?_
      intro x1 kb kt
      have I1:=hid (I1.out.past BO.out kt (by decide))
      have S1:=hid (SlI.past S1.out BO.out kt (by decide))
      have c:=c.trans (kt.below zo)
      have BO:=hid kb
      refine hK.out _ _ (c) (fun hHeld=>?_)
      clear hK K
      try simp only[Act.put,LgT,Lg0,LgS,LsT,Ls0,LsS]
      clear kb kt
      refine wpAnyH_done (by kernel_rfl) ?_ _
      try go_wp2_with fail
      go_meet
      exact⟨y2.heap.size,ur,us,rfl,BO.out,I1.out,S1.out,zo,c⟩
     ·skip
      rw[if_pos (by rfl)]
      simp only[LgT,Lg0,LgS]
      go_simp
      have b:=bA y1 (.cells zzW.toArray 56)
      have I1:=hid (ownL I1.out b)
      have S0:=hid (S0.out.below b)
      have BO:=hid (bxAt y1 56 [.int .i64 0,.slice none 0 0,.slice none 0 0,.slice none 0 0,.slice none 0 0,.slice none 0 0] y1.heap.size (by simp))
      have zo:W.heap.size≤y1.heap.size:=by have h:=c.size;rw[show y1.heap.size=y1.heap.size by simp]at h;exact h
      have c:=bl_next c b
      refine hK.out _ _ (c) (fun hHeld=>?_)
      clear hK K
      try simp only[Act.put,LgT,Lg0,LgS,LsT,Ls0,LsS]
      clear b
      refine wpAnyH_ready (rs:=[12]) (by kernel_rfl) (by simp) ?_
      refine AllReadyH.cons (i:=12) rfl (fun K hK=>?_) AllReadyH.nil
      rw[if_pos (by rfl)]
      simp only[LgT,Lg0,LgS]
      refine wp_catIt _ _ 27 rfl Tryz.underlying27 W.heap.size (.slice (some ⟨W.heap.size,0,none⟩) 0 0) [] (by rfl) S0.out (.slice k.sav.a k.sav.n k.sav.c) k.sa (by rfl) (P0.out.sa.rit.stays c) (by simp;omega) c.size ?_
      intro v3 y2 o3 g3 _
      obtain⟨us,hu3⟩:=SlI.sv o3
      subst hu3
      rw[List.nil_append]at o3
      have KT:KeepTy (fun X=>X=41) (y1.alloc (.cells zzW.toArray 56)) y2:=KeepTy.ofGrown g3 (fun j hj=>by obtain⟨cs,hc⟩:=own_is_it S0.out hj;exact⟨cs,_,_,hc,rfl⟩)
      have c:=c.grown g3 c.size (fun j hj=>(S0.out.lt j hj).1)
      have S1:Hid (SlI y2 W.heap.size (.slice us.a us.n us.c) k.sa):=o3
      have I1:=hid (I1.out.kt KT (by decide))
      have BO:=hid (BO.out.kt KT (by decide))
      refine hK.out _ _ (c) (fun hHeld=>?_)
      clear hK K
      try simp only[Act.put,LgT,Lg0,LgS,LsT,Ls0,LsS]
      clear o3 g3 KT S0
      refine tkP (i:=13) rfl (by kernel_rfl) (fun _ _ _ h=>h) (by rfl) (fun w hSw=>by simp only[LgT,Lg0,LgS];go_simp;try with_reducible rfl) (by assumption) ?_
      try simp only[Act.put,LgT,Lg0,LgS,LsT,Ls0,LsS]
      refine wpAnyH_ready (rs:=[15]) (by kernel_rfl) (by simp) ?_
      refine AllReadyH.cons (i:=15) rfl (fun K hK=>?_) AllReadyH.nil
      rw[if_pos (by rfl)]
      simp only[LgT,Lg0,LgS]
      refine wp_stW 56 _ _ rfl y1.heap.size (by rfl) 56 _ BO.out [.int .i64 k.rid,.slice ur.a ur.n ur.c,.slice none 0 0,.slice none 0 0,.slice none 0 0,.slice us.a us.n us.c] (by rfl) rfl Tryz.sizeWk rfl ?_
      intro x1 kb kt
      have I1:=hid (I1.out.past BO.out kt (by decide))
      have S1:=hid (SlI.past S1.out BO.out kt (by decide))
      have c:=c.trans (kt.below zo)
      have BO:=hid kb
      refine hK.out _ _ (c) (fun hHeld=>?_)
      clear hK K
      try simp only[Act.put,LgT,Lg0,LgS,LsT,Ls0,LsS]
      clear kb kt
      refine wpAnyH_done (by kernel_rfl) ?_ _
      try go_wp2_with fail
      go_meet
      exact⟨y1.heap.size,ur,us,rfl,BO.out,I1.out,S1.out,zo,c⟩
    ·skip
     rw[if_pos (by rfl)]
     simp only[LgT,Lg0,LgS]
     go_simp
     have b:Below ((W.drew.alloc (.cells #[] 41)).alloc (.cells #[] 3)).heap.size ((W.drew.alloc (.cells #[] 41)).alloc (.cells #[] 3)) (((W.drew.alloc (.cells #[] 41)).alloc (.cells #[] 3)).alloc (.cells zzW.toArray 56)):=(Below.refl _ _).alloc (Nat.le_refl _) _
     have I0:=hid (ownL I0.out b)
     have S0:=hid (S0.out.below b)
     have BO:=hid (bxAt ((W.drew.alloc (.cells #[] 41)).alloc (.cells #[] 3)) 56 [.int .i64 0,.slice none 0 0,.slice none 0 0,.slice none 0 0,.slice none 0 0,.slice none 0 0] (W.heap.size+1+1) (by simp))
     have zo:W.heap.size≤(W.heap.size+1+1):=by have h:=c.size;rw[show((W.drew.alloc (.cells #[] 41)).alloc (.cells #[] 3)).heap.size=(W.heap.size+1+1) by simp]at h;exact h
     have c:=bl_next c b
     refine hK.out _ _ (c) (fun hHeld=>?_)
     clear hK K
     try simp only[Act.put,LgT,Lg0,LgS,LsT,Ls0,LsS]
     clear b
     refine wpAnyH_ready (rs:=[7]) (by kernel_rfl) (by simp) ?_
     refine AllReadyH.cons (i:=7) rfl (fun K hK=>?_) AllReadyH.nil
     rw[if_pos (by rfl)]
     simp only[LgT,Lg0,LgS]
     refine wp_catR _ _ 24 rfl Tryz.underlying24 Tryz.info3' W.heap.size (.slice (some ⟨(W.heap.size+1),0,none⟩) 0 0) [] (by rfl) I0.out (.slice k.mv.a k.mv.n k.mv.c) k.ms (by rfl) (P0.out.ring.ri.stays c) (by simp;omega) c.size (fun h=>by cases h) ?_
     intro v2 y1 o2 g2
     obtain⟨ur,hu2⟩:=o2.sv
     subst hu2
     rw[List.nil_append]at o2
     have KT:KeepTy (fun X=>X=3) (((W.drew.alloc (.cells #[] 41)).alloc (.cells #[] 3)).alloc (.cells zzW.toArray 56)) y1:=KeepTy.ofGrown g2 (fun j hj=>by obtain⟨cs,hc⟩:=own_is_i I0.out hj;exact⟨cs,_,_,hc,rfl⟩)
     have c:=c.grown g2 c.size (fun j hj=>(I0.out.lt j hj).1)
     have I1:Hid (OwnI y1 W.heap.size (.slice ur.a ur.n ur.c) k.ms):=o2
     have S0:=hid (S0.out.kt KT (by decide))
     have BO:=hid (BO.out.kt KT (by decide))
     refine hK.out _ _ (c) (fun hHeld=>?_)
     clear hK K
     try simp only[Act.put,LgT,Lg0,LgS,LsT,Ls0,LsS]
     clear o2 g2 KT I0
     refine tkP (i:=8) rfl (by kernel_rfl) (fun _ _ _ h=>h) (by rfl) (fun w hSw=>by simp only[LgT,Lg0,LgS];go_simp;try with_reducible rfl) (by assumption) ?_
     try simp only[Act.put,LgT,Lg0,LgS,LsT,Ls0,LsS]
     refine wpAnyH_ready (rs:=[12]) (by kernel_rfl) (by simp) ?_
     refine AllReadyH.cons (i:=12) rfl (fun K hK=>?_) AllReadyH.nil
     rw[if_pos (by rfl)]
     simp only[LgT,Lg0,LgS]
     refine wp_catIt _ _ 27 rfl Tryz.underlying27 W.heap.size (.slice (some ⟨W.heap.size,0,none⟩) 0 0) [] (by rfl) S0.out (.slice k.sav.a k.sav.n k.sav.c) k.sa (by rfl) (P0.out.sa.rit.stays c) (by simp;omega) c.size ?_
     intro v3 y2 o3 g3 _
     obtain⟨us,hu3⟩:=SlI.sv o3
     subst hu3
     rw[List.nil_append]at o3
     have KT:KeepTy (fun X=>X=41) y1 y2:=KeepTy.ofGrown g3 (fun j hj=>by obtain⟨cs,hc⟩:=own_is_it S0.out hj;exact⟨cs,_,_,hc,rfl⟩)
     have c:=c.grown g3 c.size (fun j hj=>(S0.out.lt j hj).1)
     have S1:Hid (SlI y2 W.heap.size (.slice us.a us.n us.c) k.sa):=o3
     have I1:=hid (I1.out.kt KT (by decide))
     have BO:=hid (BO.out.kt KT (by decide))
     refine hK.out _ _ (c) (fun hHeld=>?_)
     clear hK K
     try simp only[Act.put,LgT,Lg0,LgS,LsT,Ls0,LsS]
     clear o3 g3 KT S0
     refine tkP (i:=13) rfl (by kernel_rfl) (fun _ _ _ h=>h) (by rfl) (fun w hSw=>by simp only[LgT,Lg0,LgS];go_simp;try with_reducible rfl) (by assumption) ?_
     try simp only[Act.put,LgT,Lg0,LgS,LsT,Ls0,LsS]
     refine wpAnyH_ready (rs:=[15]) (by kernel_rfl) (by simp) ?_
     refine AllReadyH.cons (i:=15) rfl (fun K hK=>?_) AllReadyH.nil
     rw[if_pos (by rfl)]
     simp only[LgT,Lg0,LgS]
     refine wp_stW 56 _ _ rfl (W.heap.size+1+1) (by rfl) 56 _ BO.out [.int .i64 k.rid,.slice ur.a ur.n ur.c,.slice none 0 0,.slice none 0 0,.slice none 0 0,.slice us.a us.n us.c] (by rfl) rfl Tryz.sizeWk rfl ?_
     intro x1 kb kt
     have I1:=hid (I1.out.past BO.out kt (by decide))
     have S1:=hid (SlI.past S1.out BO.out kt (by decide))
     have c:=c.trans (kt.below zo)
     have BO:=hid kb
     refine hK.out _ _ (c) (fun hHeld=>?_)
     clear hK K
     try simp only[Act.put,LgT,Lg0,LgS,LsT,Ls0,LsS]
     clear kb kt
     refine wpAnyH_done (by kernel_rfl) ?_ _
     try go_wp2_with fail
     go_meet
     exact⟨(W.heap.size+1+1),ur,us,rfl,BO.out,I1.out,S1.out,zo,c⟩
   ·skip
    rw[if_pos (by rfl)]
    simp only[LgT,Lg0,LgS]
    go_simp
    have b:Below (W.drew.alloc (.cells #[] 41)).heap.size (W.drew.alloc (.cells #[] 41)) ((W.drew.alloc (.cells #[] 41)).alloc (.cells zzW.toArray 56)):=(Below.refl _ _).alloc (Nat.le_refl _) _
    have S0:=hid (S0.out.below b)
    have BO:=hid (bxAt (W.drew.alloc (.cells #[] 41)) 56 [.int .i64 0,.slice none 0 0,.slice none 0 0,.slice none 0 0,.slice none 0 0,.slice none 0 0] (W.heap.size+1) (by simp))
    have zo:W.heap.size≤(W.heap.size+1):=by have h:=c.size;rw[show(W.drew.alloc (.cells #[] 41)).heap.size=(W.heap.size+1) by simp]at h;exact h
    have c:=bl_next c b
    refine hK.out _ _ (c) (fun hHeld=>?_)
    clear hK K
    try simp only[Act.put,LgT,Lg0,LgS,LsT,Ls0,LsS]
    clear b
    refine wpAnyH_ready (rs:=[3]) (by kernel_rfl) (by simp) ?_
    refine AllReadyH.cons (i:=3) rfl (fun K hK=>?_) AllReadyH.nil
    rw[if_pos (by rfl)]
    simp only[LgT,Lg0,LgS]
    go_simp
    have b:Below ((W.drew.alloc (.cells #[] 41)).alloc (.cells zzW.toArray 56)).heap.size ((W.drew.alloc (.cells #[] 41)).alloc (.cells zzW.toArray 56)) (((W.drew.alloc (.cells #[] 41)).alloc (.cells zzW.toArray 56)).alloc (.cells #[] 3)):=(Below.refl _ _).alloc (Nat.le_refl _) _
    have S0:=hid (S0.out.below b)
    have BO:=hid (BO.out.later b)
    have I0:=hid (owiAt ((W.drew.alloc (.cells #[] 41)).alloc (.cells zzW.toArray 56)) W.heap.size (W.heap.size+1+1) c.size (by simp))
    have c:=bl_next c b
    refine hK.out _ _ (c) (fun hHeld=>?_)
    clear hK K
    try simp only[Act.put,LgT,Lg0,LgS,LsT,Ls0,LsS]
    clear b
    refine wpAnyH_ready (rs:=[7]) (by kernel_rfl) (by simp) ?_
    refine AllReadyH.cons (i:=7) rfl (fun K hK=>?_) AllReadyH.nil
    rw[if_pos (by rfl)]
    simp only[LgT,Lg0,LgS]
    refine wp_catR _ _ 24 rfl Tryz.underlying24 Tryz.info3' W.heap.size (.slice (some ⟨(W.heap.size+1+1),0,none⟩) 0 0) [] (by rfl) I0.out (.slice k.mv.a k.mv.n k.mv.c) k.ms (by rfl) (P0.out.ring.ri.stays c) (by simp;omega) c.size (fun h=>by cases h) ?_
    intro v2 y1 o2 g2
    obtain⟨ur,hu2⟩:=o2.sv
    subst hu2
    rw[List.nil_append]at o2
    have KT:KeepTy (fun X=>X=3) (((W.drew.alloc (.cells #[] 41)).alloc (.cells zzW.toArray 56)).alloc (.cells #[] 3)) y1:=KeepTy.ofGrown g2 (fun j hj=>by obtain⟨cs,hc⟩:=own_is_i I0.out hj;exact⟨cs,_,_,hc,rfl⟩)
    have c:=c.grown g2 c.size (fun j hj=>(I0.out.lt j hj).1)
    have I1:Hid (OwnI y1 W.heap.size (.slice ur.a ur.n ur.c) k.ms):=o2
    have S0:=hid (S0.out.kt KT (by decide))
    have BO:=hid (BO.out.kt KT (by decide))
    refine hK.out _ _ (c) (fun hHeld=>?_)
    clear hK K
    try simp only[Act.put,LgT,Lg0,LgS,LsT,Ls0,LsS]
    clear o2 g2 KT I0
    refine tkP (i:=8) rfl (by kernel_rfl) (fun _ _ _ h=>h) (by rfl) (fun w hSw=>by simp only[LgT,Lg0,LgS];go_simp;try with_reducible rfl) (by assumption) ?_
    try simp only[Act.put,LgT,Lg0,LgS,LsT,Ls0,LsS]
    refine wpAnyH_ready (rs:=[12]) (by kernel_rfl) (by simp) ?_
    refine AllReadyH.cons (i:=12) rfl (fun K hK=>?_) AllReadyH.nil
    rw[if_pos (by rfl)]
    simp only[LgT,Lg0,LgS]
    refine wp_catIt _ _ 27 rfl Tryz.underlying27 W.heap.size (.slice (some ⟨W.heap.size,0,none⟩) 0 0) [] (by rfl) S0.out (.slice k.sav.a k.sav.n k.sav.c) k.sa (by rfl) (P0.out.sa.rit.stays c) (by simp;omega) c.size ?_
    intro v3 y2 o3 g3 _
    obtain⟨us,hu3⟩:=SlI.sv o3
    subst hu3
    rw[List.nil_append]at o3
    have KT:KeepTy (fun X=>X=41) y1 y2:=KeepTy.ofGrown g3 (fun j hj=>by obtain⟨cs,hc⟩:=own_is_it S0.out hj;exact⟨cs,_,_,hc,rfl⟩)
    have c:=c.grown g3 c.size (fun j hj=>(S0.out.lt j hj).1)
    have S1:Hid (SlI y2 W.heap.size (.slice us.a us.n us.c) k.sa):=o3
    have I1:=hid (I1.out.kt KT (by decide))
    have BO:=hid (BO.out.kt KT (by decide))
    refine hK.out _ _ (c) (fun hHeld=>?_)
    clear hK K
    try simp only[Act.put,LgT,Lg0,LgS,LsT,Ls0,LsS]
    clear o3 g3 KT S0
    refine tkP (i:=13) rfl (by kernel_rfl) (fun _ _ _ h=>h) (by rfl) (fun w hSw=>by simp only[LgT,Lg0,LgS];go_simp;try with_reducible rfl) (by assumption) ?_
    try simp only[Act.put,LgT,Lg0,LgS,LsT,Ls0,LsS]
    refine wpAnyH_ready (rs:=[15]) (by kernel_rfl) (by simp) ?_
    refine AllReadyH.cons (i:=15) rfl (fun K hK=>?_) AllReadyH.nil
    rw[if_pos (by rfl)]
    simp only[LgT,Lg0,LgS]
    refine wp_stW 56 _ _ rfl (W.heap.size+1) (by rfl) 56 _ BO.out [.int .i64 k.rid,.slice ur.a ur.n ur.c,.slice none 0 0,.slice none 0 0,.slice none 0 0,.slice us.a us.n us.c] (by rfl) rfl Tryz.sizeWk rfl ?_
    intro x1 kb kt
    have I1:=hid (I1.out.past BO.out kt (by decide))
    have S1:=hid (SlI.past S1.out BO.out kt (by decide))
    have c:=c.trans (kt.below zo)
    have BO:=hid kb
    refine hK.out _ _ (c) (fun hHeld=>?_)
    clear hK K
    try simp only[Act.put,LgT,Lg0,LgS,LsT,Ls0,LsS]
    clear kb kt
    refine wpAnyH_done (by kernel_rfl) ?_ _
    try go_wp2_with fail
    go_meet
    exact⟨(W.heap.size+1),ur,us,rfl,BO.out,I1.out,S1.out,zo,c⟩
  ·skip
   rw[if_pos (by rfl)]
   simp only[LgT,Lg0,LgS]
   go_simp
   have b:=bA W.drew (.cells zzW.toArray 56)
   have BO:=hid (bxAt W.drew 56 [.int .i64 0,.slice none 0 0,.slice none 0 0,.slice none 0 0,.slice none 0 0,.slice none 0 0] W.heap.size (by simp))
   have zo:W.heap.size≤W.heap.size:=by have h:=c.size;rw[show W.drew.heap.size=W.heap.size by simp]at h;exact h
   have c:=bl_next c b
   refine hK.out _ _ (c) (fun hHeld=>?_)
   clear hK K
   try simp only[Act.put,LgT,Lg0,LgS,LsT,Ls0,LsS]
   clear b
   refine wpAnyH_ready (rs:=[3,9]) (by kernel_rfl) (by simp) ?_
   refine(AllReadyH.cons (i:=3) rfl (fun K hK=>?_) (AllReadyH.cons (i:=9) rfl (fun K hK=>?_) AllReadyH.nil))
   ·skip
    rw[if_pos (by rfl)]
    simp only[LgT,Lg0,LgS]
    go_simp
    have b:Below (W.drew.alloc (.cells zzW.toArray 56)).heap.size (W.drew.alloc (.cells zzW.toArray 56)) ((W.drew.alloc (.cells zzW.toArray 56)).alloc (.cells #[] 3)):=(Below.refl _ _).alloc (Nat.le_refl _) _
    have BO:=hid (BO.out.later b)
    have I0:=hid (owiAt (W.drew.alloc (.cells zzW.toArray 56)) W.heap.size (W.heap.size+1) c.size (by simp))
    have c:=bl_next c b
    refine hK.out _ _ (c) (fun hHeld=>?_)
    clear hK K
    try simp only[Act.put,LgT,Lg0,LgS,LsT,Ls0,LsS]
    clear b
    refine wpAnyH_ready (rs:=[7,9]) (by kernel_rfl) (by simp) ?_
    refine(AllReadyH.cons (i:=7) rfl (fun K hK=>?_) (AllReadyH.cons (i:=9) rfl (fun K hK=>?_) AllReadyH.nil))
    ·skip
     rw[if_pos (by rfl)]
     simp only[LgT,Lg0,LgS]
     refine wp_catR _ _ 24 rfl Tryz.underlying24 Tryz.info3' W.heap.size (.slice (some ⟨(W.heap.size+1),0,none⟩) 0 0) [] (by rfl) I0.out (.slice k.mv.a k.mv.n k.mv.c) k.ms (by rfl) (P0.out.ring.ri.stays c) (by simp;omega) c.size (fun h=>by cases h) ?_
     intro v2 y1 o2 g2
     obtain⟨ur,hu2⟩:=o2.sv
     subst hu2
     rw[List.nil_append]at o2
     have KT:KeepTy (fun X=>X=3) ((W.drew.alloc (.cells zzW.toArray 56)).alloc (.cells #[] 3)) y1:=KeepTy.ofGrown g2 (fun j hj=>by obtain⟨cs,hc⟩:=own_is_i I0.out hj;exact⟨cs,_,_,hc,rfl⟩)
     have c:=c.grown g2 c.size (fun j hj=>(I0.out.lt j hj).1)
     have I1:Hid (OwnI y1 W.heap.size (.slice ur.a ur.n ur.c) k.ms):=o2
     have BO:=hid (BO.out.kt KT (by decide))
     refine hK.out _ _ (c) (fun hHeld=>?_)
     clear hK K
     try simp only[Act.put,LgT,Lg0,LgS,LsT,Ls0,LsS]
     clear o2 g2 KT I0
     refine tkP (i:=8) rfl (by kernel_rfl) (fun _ _ _ h=>h) (by rfl) (fun w hSw=>by simp only[LgT,Lg0,LgS];go_simp;try with_reducible rfl) (by assumption) ?_
     try simp only[Act.put,LgT,Lg0,LgS,LsT,Ls0,LsS]
     refine wpAnyH_ready (rs:=[9]) (by kernel_rfl) (by simp) ?_
     refine AllReadyH.cons (i:=9) rfl (fun K hK=>?_) AllReadyH.nil
     rw[if_pos (by rfl)]
     simp only[LgT,Lg0,LgS]
     go_simp
     have b:=bA y1 (.cells #[] 41)
     have I1:=hid (ownL I1.out b)
     have BO:=hid (BO.out.later b)
     have S0:=hid (sliAt y1 W.heap.size y1.heap.size c.size (by simp))
     have c:=bl_next c b
     refine hK.out _ _ (c) (fun hHeld=>?_)
     clear hK K
     try simp only[Act.put,LgT,Lg0,LgS,LsT,Ls0,LsS]
     clear b
     refine wpAnyH_ready (rs:=[12]) (by kernel_rfl) (by simp) ?_
     refine AllReadyH.cons (i:=12) rfl (fun K hK=>?_) AllReadyH.nil
     rw[if_pos (by rfl)]
     simp only[LgT,Lg0,LgS]
     refine wp_catIt _ _ 27 rfl Tryz.underlying27 W.heap.size (.slice (some ⟨y1.heap.size,0,none⟩) 0 0) [] (by rfl) S0.out (.slice k.sav.a k.sav.n k.sav.c) k.sa (by rfl) (P0.out.sa.rit.stays c) (by simp;omega) c.size ?_
     intro v3 y2 o3 g3 _
     obtain⟨us,hu3⟩:=SlI.sv o3
     subst hu3
     rw[List.nil_append]at o3
     have KT:KeepTy (fun X=>X=41) (y1.alloc (.cells #[] 41)) y2:=KeepTy.ofGrown g3 (fun j hj=>by obtain⟨cs,hc⟩:=own_is_it S0.out hj;exact⟨cs,_,_,hc,rfl⟩)
     have c:=c.grown g3 c.size (fun j hj=>(S0.out.lt j hj).1)
     have S1:Hid (SlI y2 W.heap.size (.slice us.a us.n us.c) k.sa):=o3
     have I1:=hid (I1.out.kt KT (by decide))
     have BO:=hid (BO.out.kt KT (by decide))
     refine hK.out _ _ (c) (fun hHeld=>?_)
     clear hK K
     try simp only[Act.put,LgT,Lg0,LgS,LsT,Ls0,LsS]
     clear o3 g3 KT S0
     refine tkP (i:=13) rfl (by kernel_rfl) (fun _ _ _ h=>h) (by rfl) (fun w hSw=>by simp only[LgT,Lg0,LgS];go_simp;try with_reducible rfl) (by assumption) ?_
     try simp only[Act.put,LgT,Lg0,LgS,LsT,Ls0,LsS]
     refine wpAnyH_ready (rs:=[15]) (by kernel_rfl) (by simp) ?_
     refine AllReadyH.cons (i:=15) rfl (fun K hK=>?_) AllReadyH.nil
     rw[if_pos (by rfl)]
     simp only[LgT,Lg0,LgS]
     refine wp_stW 56 _ _ rfl W.heap.size (by rfl) 56 _ BO.out [.int .i64 k.rid,.slice ur.a ur.n ur.c,.slice none 0 0,.slice none 0 0,.slice none 0 0,.slice us.a us.n us.c] (by rfl) rfl Tryz.sizeWk rfl ?_
     intro x1 kb kt
     have I1:=hid (I1.out.past BO.out kt (by decide))
     have S1:=hid (SlI.past S1.out BO.out kt (by decide))
     have c:=c.trans (kt.below zo)
     have BO:=hid kb
     refine hK.out _ _ (c) (fun hHeld=>?_)
     clear hK K
     try simp only[Act.put,LgT,Lg0,LgS,LsT,Ls0,LsS]
     clear kb kt
     refine wpAnyH_done (by kernel_rfl) ?_ _
     try go_wp2_with fail
     go_meet
     exact⟨W.heap.size,ur,us,rfl,BO.out,I1.out,S1.out,zo,c⟩
    ·skip
     rw[if_pos (by rfl)]
     simp only[LgT,Lg0,LgS]
     go_simp
     have b:Below ((W.drew.alloc (.cells zzW.toArray 56)).alloc (.cells #[] 3)).heap.size ((W.drew.alloc (.cells zzW.toArray 56)).alloc (.cells #[] 3)) (((W.drew.alloc (.cells zzW.toArray 56)).alloc (.cells #[] 3)).alloc (.cells #[] 41)):=(Below.refl _ _).alloc (Nat.le_refl _) _
     have I0:=hid (ownL I0.out b)
     have BO:=hid (BO.out.later b)
     have S0:=hid (sliAt ((W.drew.alloc (.cells zzW.toArray 56)).alloc (.cells #[] 3)) W.heap.size (W.heap.size+1+1) c.size (by simp))
     have c:=bl_next c b
     refine hK.out _ _ (c) (fun hHeld=>?_)
     clear hK K
     try simp only[Act.put,LgT,Lg0,LgS,LsT,Ls0,LsS]
     clear b
     refine wpAnyH_ready (rs:=[7]) (by kernel_rfl) (by simp) ?_
     refine AllReadyH.cons (i:=7) rfl (fun K hK=>?_) AllReadyH.nil
     rw[if_pos (by rfl)]
     simp only[LgT,Lg0,LgS]
     refine wp_catR _ _ 24 rfl Tryz.underlying24 Tryz.info3' W.heap.size (.slice (some ⟨(W.heap.size+1),0,none⟩) 0 0) [] (by rfl) I0.out (.slice k.mv.a k.mv.n k.mv.c) k.ms (by rfl) (P0.out.ring.ri.stays c) (by simp;omega) c.size (fun h=>by cases h) ?_
     intro v2 y1 o2 g2
     obtain⟨ur,hu2⟩:=o2.sv
     subst hu2
     rw[List.nil_append]at o2
     have KT:KeepTy (fun X=>X=3) (((W.drew.alloc (.cells zzW.toArray 56)).alloc (.cells #[] 3)).alloc (.cells #[] 41)) y1:=KeepTy.ofGrown g2 (fun j hj=>by obtain⟨cs,hc⟩:=own_is_i I0.out hj;exact⟨cs,_,_,hc,rfl⟩)
     have c:=c.grown g2 c.size (fun j hj=>(I0.out.lt j hj).1)
     have I1:Hid (OwnI y1 W.heap.size (.slice ur.a ur.n ur.c) k.ms):=o2
     have S0:=hid (S0.out.kt KT (by decide))
     have BO:=hid (BO.out.kt KT (by decide))
     refine hK.out _ _ (c) (fun hHeld=>?_)
     clear hK K
     try simp only[Act.put,LgT,Lg0,LgS,LsT,Ls0,LsS]
     clear o2 g2 KT I0
     refine tkP (i:=8) rfl (by kernel_rfl) (fun _ _ _ h=>h) (by rfl) (fun w hSw=>by simp only[LgT,Lg0,LgS];go_simp;try with_reducible rfl) (by assumption) ?_
     try simp only[Act.put,LgT,Lg0,LgS,LsT,Ls0,LsS]
     refine wpAnyH_ready (rs:=[12]) (by kernel_rfl) (by simp) ?_
     refine AllReadyH.cons (i:=12) rfl (fun K hK=>?_) AllReadyH.nil
     rw[if_pos (by rfl)]
     simp only[LgT,Lg0,LgS]
     refine wp_catIt _ _ 27 rfl Tryz.underlying27 W.heap.size (.slice (some ⟨(W.heap.size+1+1),0,none⟩) 0 0) [] (by rfl) S0.out (.slice k.sav.a k.sav.n k.sav.c) k.sa (by rfl) (P0.out.sa.rit.stays c) (by simp;omega) c.size ?_
     intro v3 y2 o3 g3 _
     obtain⟨us,hu3⟩:=SlI.sv o3
     subst hu3
     rw[List.nil_append]at o3
     have KT:KeepTy (fun X=>X=41) y1 y2:=KeepTy.ofGrown g3 (fun j hj=>by obtain⟨cs,hc⟩:=own_is_it S0.out hj;exact⟨cs,_,_,hc,rfl⟩)
     have c:=c.grown g3 c.size (fun j hj=>(S0.out.lt j hj).1)
     have S1:Hid (SlI y2 W.heap.size (.slice us.a us.n us.c) k.sa):=o3
     have I1:=hid (I1.out.kt KT (by decide))
     have BO:=hid (BO.out.kt KT (by decide))
     refine hK.out _ _ (c) (fun hHeld=>?_)
     clear hK K
     try simp only[Act.put,LgT,Lg0,LgS,LsT,Ls0,LsS]
     clear o3 g3 KT S0
     refine tkP (i:=13) rfl (by kernel_rfl) (fun _ _ _ h=>h) (by rfl) (fun w hSw=>by simp only[LgT,Lg0,LgS];go_simp;try with_reducible rfl) (by assumption) ?_
     try simp only[Act.put,LgT,Lg0,LgS,LsT,Ls0,LsS]
     refine wpAnyH_ready (rs:=[15]) (by kernel_rfl) (by simp) ?_
     refine AllReadyH.cons (i:=15) rfl (fun K hK=>?_) AllReadyH.nil
     rw[if_pos (by rfl)]
     simp only[LgT,Lg0,LgS]
     refine wp_stW 56 _ _ rfl W.heap.size (by rfl) 56 _ BO.out [.int .i64 k.rid,.slice ur.a ur.n ur.c,.slice none 0 0,.slice none 0 0,.slice none 0 0,.slice us.a us.n us.c] (by rfl) rfl Tryz.sizeWk rfl ?_
     intro x1 kb kt
     have I1:=hid (I1.out.past BO.out kt (by decide))
     have S1:=hid (SlI.past S1.out BO.out kt (by decide))
     have c:=c.trans (kt.below zo)
     have BO:=hid kb
     refine hK.out _ _ (c) (fun hHeld=>?_)
     clear hK K
     try simp only[Act.put,LgT,Lg0,LgS,LsT,Ls0,LsS]
     clear kb kt
     refine wpAnyH_done (by kernel_rfl) ?_ _
     try go_wp2_with fail
     go_meet
     exact⟨W.heap.size,ur,us,rfl,BO.out,I1.out,S1.out,zo,c⟩
   ·skip
    rw[if_pos (by rfl)]
    simp only[LgT,Lg0,LgS]
    go_simp
    have b:Below (W.drew.alloc (.cells zzW.toArray 56)).heap.size (W.drew.alloc (.cells zzW.toArray 56)) ((W.drew.alloc (.cells zzW.toArray 56)).alloc (.cells #[] 41)):=(Below.refl _ _).alloc (Nat.le_refl _) _
    have BO:=hid (BO.out.later b)
    have S0:=hid (sliAt (W.drew.alloc (.cells zzW.toArray 56)) W.heap.size (W.heap.size+1) c.size (by simp))
    have c:=bl_next c b
    refine hK.out _ _ (c) (fun hHeld=>?_)
    clear hK K
    try simp only[Act.put,LgT,Lg0,LgS,LsT,Ls0,LsS]
    clear b
    refine wpAnyH_ready (rs:=[3]) (by kernel_rfl) (by simp) ?_
    refine AllReadyH.cons (i:=3) rfl (fun K hK=>?_) AllReadyH.nil
    rw[if_pos (by rfl)]
    simp only[LgT,Lg0,LgS]
    go_simp
    have b:Below ((W.drew.alloc (.cells zzW.toArray 56)).alloc (.cells #[] 41)).heap.size ((W.drew.alloc (.cells zzW.toArray 56)).alloc (.cells #[] 41)) (((W.drew.alloc (.cells zzW.toArray 56)).alloc (.cells #[] 41)).alloc (.cells #[] 3)):=(Below.refl _ _).alloc (Nat.le_refl _) _
    have S0:=hid (S0.out.below b)
    have BO:=hid (BO.out.later b)
    have I0:=hid (owiAt ((W.drew.alloc (.cells zzW.toArray 56)).alloc (.cells #[] 41)) W.heap.size (W.heap.size+1+1) c.size (by simp))
    have c:=bl_next c b
    refine hK.out _ _ (c) (fun hHeld=>?_)
    clear hK K
    try simp only[Act.put,LgT,Lg0,LgS,LsT,Ls0,LsS]
    clear b
    refine wpAnyH_ready (rs:=[7]) (by kernel_rfl) (by simp) ?_
    refine AllReadyH.cons (i:=7) rfl (fun K hK=>?_) AllReadyH.nil
    rw[if_pos (by rfl)]
    simp only[LgT,Lg0,LgS]
    refine wp_catR _ _ 24 rfl Tryz.underlying24 Tryz.info3' W.heap.size (.slice (some ⟨(W.heap.size+1+1),0,none⟩) 0 0) [] (by rfl) I0.out (.slice k.mv.a k.mv.n k.mv.c) k.ms (by rfl) (P0.out.ring.ri.stays c) (by simp;omega) c.size (fun h=>by cases h) ?_
    intro v2 y1 o2 g2
    obtain⟨ur,hu2⟩:=o2.sv
    subst hu2
    rw[List.nil_append]at o2
    have KT:KeepTy (fun X=>X=3) (((W.drew.alloc (.cells zzW.toArray 56)).alloc (.cells #[] 41)).alloc (.cells #[] 3)) y1:=KeepTy.ofGrown g2 (fun j hj=>by obtain⟨cs,hc⟩:=own_is_i I0.out hj;exact⟨cs,_,_,hc,rfl⟩)
    have c:=c.grown g2 c.size (fun j hj=>(I0.out.lt j hj).1)
    have I1:Hid (OwnI y1 W.heap.size (.slice ur.a ur.n ur.c) k.ms):=o2
    have S0:=hid (S0.out.kt KT (by decide))
    have BO:=hid (BO.out.kt KT (by decide))
    refine hK.out _ _ (c) (fun hHeld=>?_)
    clear hK K
    try simp only[Act.put,LgT,Lg0,LgS,LsT,Ls0,LsS]
    clear o2 g2 KT I0
    refine tkP (i:=8) rfl (by kernel_rfl) (fun _ _ _ h=>h) (by rfl) (fun w hSw=>by simp only[LgT,Lg0,LgS];go_simp;try with_reducible rfl) (by assumption) ?_
    try simp only[Act.put,LgT,Lg0,LgS,LsT,Ls0,LsS]
    refine wpAnyH_ready (rs:=[12]) (by kernel_rfl) (by simp) ?_
    refine AllReadyH.cons (i:=12) rfl (fun K hK=>?_) AllReadyH.nil
    rw[if_pos (by rfl)]
    simp only[LgT,Lg0,LgS]
    refine wp_catIt _ _ 27 rfl Tryz.underlying27 W.heap.size (.slice (some ⟨(W.heap.size+1),0,none⟩) 0 0) [] (by rfl) S0.out (.slice k.sav.a k.sav.n k.sav.c) k.sa (by rfl) (P0.out.sa.rit.stays c) (by simp;omega) c.size ?_
    intro v3 y2 o3 g3 _
    obtain⟨us,hu3⟩:=SlI.sv o3
    subst hu3
    rw[List.nil_append]at o3
    have KT:KeepTy (fun X=>X=41) y1 y2:=KeepTy.ofGrown g3 (fun j hj=>by obtain⟨cs,hc⟩:=own_is_it S0.out hj;exact⟨cs,_,_,hc,rfl⟩)
    have c:=c.grown g3 c.size (fun j hj=>(S0.out.lt j hj).1)
    have S1:Hid (SlI y2 W.heap.size (.slice us.a us.n us.c) k.sa):=o3
    have I1:=hid (I1.out.kt KT (by decide))
    have BO:=hid (BO.out.kt KT (by decide))
    refine hK.out _ _ (c) (fun hHeld=>?_)
    clear hK K
    try simp only[Act.put,LgT,Lg0,LgS,LsT,Ls0,LsS]
    clear o3 g3 KT S0
    refine tkP (i:=13) rfl (by kernel_rfl) (fun _ _ _ h=>h) (by rfl) (fun w hSw=>by simp only[LgT,Lg0,LgS];go_simp;try with_reducible rfl) (by assumption) ?_
    try simp only[Act.put,LgT,Lg0,LgS,LsT,Ls0,LsS]
    refine wpAnyH_ready (rs:=[15]) (by kernel_rfl) (by simp) ?_
    refine AllReadyH.cons (i:=15) rfl (fun K hK=>?_) AllReadyH.nil
    rw[if_pos (by rfl)]
    simp only[LgT,Lg0,LgS]
    refine wp_stW 56 _ _ rfl W.heap.size (by rfl) 56 _ BO.out [.int .i64 k.rid,.slice ur.a ur.n ur.c,.slice none 0 0,.slice none 0 0,.slice none 0 0,.slice us.a us.n us.c] (by rfl) rfl Tryz.sizeWk rfl ?_
    intro x1 kb kt
    have I1:=hid (I1.out.past BO.out kt (by decide))
    have S1:=hid (SlI.past S1.out BO.out kt (by decide))
    have c:=c.trans (kt.below zo)
    have BO:=hid kb
    refine hK.out _ _ (c) (fun hHeld=>?_)
    clear hK K
    try simp only[Act.put,LgT,Lg0,LgS,LsT,Ls0,LsS]
    clear kb kt
    refine wpAnyH_done (by kernel_rfl) ?_ _
    try go_wp2_with fail
    go_meet
    exact⟨W.heap.size,ur,us,rfl,BO.out,I1.out,S1.out,zo,c⟩
 case rest=>
 obtain⟨go,ur,us,rfl,bo,iu,su,zgo,b⟩:=hcut
 generalize wc=w1 at *
 have BO:Hid (Bx w1 go 56 [.int .i64 k.rid,.slice ur.a ur.n ur.c,.slice none 0 0,.slice none 0 0,.slice none 0 0,.slice us.a us.n us.c]):=bo
 have IU:Hid (OwnI w1 W.heap.size ur.v k.ms):=iu
 have SU:Hid (SlI w1 W.heap.size us.v k.sa):=su
 have B1:=hid (bl_next BW.out b)
 have KA1:=hid (KA.out.later b)
 have KR1:=hid (KR.out.later b)
 have P1:=hid (P0.out.below b)
 have z1:=b.size
 have zgl:=BO.out.lt
 have HMN:Hid (k.mav.n=k.ma.length):=P1.out.ma.len
 have hmn:k.mav.n≤10:=by have h1:=HMN.out;have h2:=hs.out.ma;omega
 clear bo iu su b BW KA KR P0
 go_wp2_with fail
 go_loopw [4] (fun v4 wr=>∃(j:Nat) (mz:Sv) (ma:List (Mt × Mv)),j≤k.mav.n∧v4=.int .i64 (j:Int)∧Hid (Bx wr go 56 [.int .i64 k.rid,.slice ur.a ur.n ur.c,.slice mz.a mz.n mz.c,.slice none 0 0,.slice none 0 0,.slice us.a us.n us.c])∧Hid (MsP wr w1.heap.size mz.v ma)∧Hid (ma.map (·.1)=(k.ma.take j).map (·.1))∧Hid (KeepBut go w1 wr)) (fun v4 _=>k.mav.n - (intOf v4).toNat)
 case atStart=>exact⟨0,zSv,[],Nat.zero_le _,rfl,BO,⟨SlN.nil _ _ _ _,fun e he=>by cases he⟩,rfl,keep_of_below (Below.refl _ _)⟩
 case round=>
  obtain⟨j,mz,ma,hj,rfl,BR,MR,EM,KB⟩:=hrel
  have KAr:=hid (KA1.out.keepb KB.out (by omega))
  have ka2:=KAr.out.cell 2
  have zr:w1.heap.size≤wr.heap.size:=KB.out.size
  by_cases hlt:j<k.mav.n
  ·have hjm:j<k.ma.length:=by have:=HMN.out;omega
   obtain⟨hq1,gm,off,ha,hq2,hgl,hr⟩:=P1.out.ma.row hjm
   clear hq1 hq2
   have hgm:gm≠go:=P1.out.ma.1.box_ne BO.out (by decide) gm (by simp[Sv.v,Value.ownBlock,ha])
   obtain⟨⟨m,v⟩,hm⟩: ∃e,k.ma[j]=e:=⟨_,rfl⟩
   have HM:Hid (k.ma[j]=(m,v)):=hm
   have HR:Hid (w1.rangeAt gm (off+j * 16) [.int .i64 m.id,.int .i64 m.rid,.slice v.ms.a v.ms.n v.ms.c,.slice v.its.a v.its.n v.its.c,.slice v.lv.a v.lv.n v.lv.c,.slice v.tx.a v.tx.n v.tx.c,.int .i64 m.rd,.int .i64 m.se,.int .i64 m.li,.int .i64 m.he,.int .i64 m.la.c,.int .i64 m.la.r,.int .i64 m.la.q,.int .i64 m.la.a,.int .i64 m.la.b,.slice v.ws.a v.ws.n v.ws.c]):=(by rw[hm]at hr;exact hr:World.rangeAt _ _ _ _)
   have HMP:Hid (MtP w1 m v):=(by have:=P1.out.ma.2 k.ma[j] (List.getElem_mem hjm);rw[hm]at this;exact this:MtP _ _ _)
   have HMS:Hid (MtS m):=(by have:=hs.out.mas k.ma[j] (List.getElem_mem hjm);rw[hm]at this;exact this:MtS _)
   have KA1a:Hid (Bx w1 w.heap.size 56 [.int .i64 k.rid,.slice k.mv.a k.mv.n k.mv.c,.slice (some ⟨gm,off,none⟩) k.mav.n k.mav.c,.slice k.flv.a k.flv.n k.flv.c,.slice k.hev.a k.hev.n k.hev.c,.slice k.sav.a k.sav.n k.sav.c]):=(by have e:=KA1.out;rw[ha]at e;exact e:Bx _ _ _ _)
   have hml:(ma.map mcel).length+1≤1048577:=by have e:=congrArg List.length EM.out;simp only[List.length_map,List.length_take]at e⊢;have:=hs.out.ma;omega
   have i0:(0:Int)≤(j:Int):=by omega
   have i1:(j:Int)<(k.mav.n:Int):=by omega
   clear hr ha hm
   go_wp2_with fail
   have c:KeepBut go w1 wr.drew:=KB.out.trans (keep_of_below ((Below.refl _ _).drew))
   have BD:=hid (BR.out.later ((Below.refl _ _).drew))
   refine wp_region_heldLast (S:=fun w'=>Bx w' go 56 [.int .i64 k.rid,.slice ur.a ur.n ur.c,.slice mz.a mz.n mz.c,.slice none 0 0,.slice none 0 0,.slice us.a us.n us.c]∧KeepBut go w1 w') _ (by simp) (by kernel_rfl) (by rfl) (by rfl) (by kernel_rfl) (by kernel_rfl) ⟨BD.out,c⟩ (fun hHeld=>?_)
   simp only[List.dropLast_cons_cons,List.dropLast_singleton,List.getLast_cons_cons,List.getLast_singleton,List.cons_append,List.nil_append,List.length_cons,List.length_nil]
   refine tkP (i:=0) rfl (by kernel_rfl) (fun _ _ _ h=>h) (by rfl) (fun w hSw=>by simp only[LgT,Lg0,LgS];go_simp;try with_reducible rfl) (by assumption) ?_
   try simp only[Act.put,LgT,Lg0,LgS,LsT,Ls0,LsS]
   refine tkH (i:=1) (v:=_) rfl (by kernel_rfl) (fun _ _ _ h=>h) (ld1_yield (by rfl) 52 _ rfl go 2 rfl 56 _ (fun w hS=>hS.1) (.slice mz.a mz.n mz.c) rfl _ Tryz.underlying52 rfl) (by assumption) ?_
   try simp only[Act.put,LgT,Lg0,LgS,LsT,Ls0,LsS]
   refine tkP (i:=2) rfl (by kernel_rfl) (fun _ _ _ h=>h) (by rfl) (fun w hSw=>by simp only[LgT,Lg0,LgS];go_simp;try with_reducible rfl) (by assumption) ?_
   try simp only[Act.put,LgT,Lg0,LgS,LsT,Ls0,LsS]
   refine tkH (i:=3) (v:=_) rfl (by kernel_rfl) (fun _ _ _ h=>h) (ld1_yield (by rfl) 52 _ rfl w.heap.size 2 rfl 56 _ (fun w hS=>KA1a.out.keepb hS.2 (by omega)) (.slice (some ⟨gm,off,none⟩) k.mav.n k.mav.c) rfl _ Tryz.underlying52 rfl) (by assumption) ?_
   try simp only[Act.put,LgT,Lg0,LgS,LsT,Ls0,LsS]
   refine tkP (i:=4) rfl (by kernel_rfl) (fun _ _ _ h=>h) (by rfl) (fun w hSw=>by simp only[LgT,Lg0,LgS];go_simp;try with_reducible rfl) (by assumption) ?_
   try simp only[Act.put,LgT,Lg0,LgS,LsT,Ls0,LsS]
   refine tkP (i:=5) rfl (by kernel_rfl) (fun _ _ _ h=>h) (by rfl) (fun w hSw=>by simp only[LgT,Lg0,LgS];go_simp;try with_reducible rfl) (by assumption) ?_
   try simp only[Act.put,LgT,Lg0,LgS,LsT,Ls0,LsS]
   refine tkH (i:=6) (v:=_) rfl (by kernel_rfl) (fun _ _ _ h=>h) (ldN_yield (by rfl) 32 _ rfl gm (off+j * 16) (by rfl) [.int .i64 m.id,.int .i64 m.rid,.slice v.ms.a v.ms.n v.ms.c,.slice v.its.a v.its.n v.its.c,.slice v.lv.a v.lv.n v.lv.c,.slice v.tx.a v.tx.n v.tx.c,.int .i64 m.rd,.int .i64 m.se,.int .i64 m.li,.int .i64 m.he,.int .i64 m.la.c,.int .i64 m.la.r,.int .i64 m.la.q,.int .i64 m.la.a,.int .i64 m.la.b,.slice v.ws.a v.ws.n v.ws.c] (fun w hS=>range_keep HR.out hgl hS.2 hgm) _ Tryz.underlying32 rfl Tryz.sizeM) (by assumption) ?_
   try simp only[Act.put,LsT,Ls0,LsS]
   refine wpAnyH_ready (rs:=[7]) (by kernel_rfl) (by simp) ?_
   refine AllReadyH.cons (i:=7) rfl (fun K hK=>?_) AllReadyH.nil
   rw[if_pos (by rfl)]
   simp only[LgT,Lg0,LgS]
   go_simp
   refine(tenCopy_any m v _ (show Hid (MtP wr.drew m v)from HMP.out.keepb BO.out c (by decide) (by decide) (by decide)) HMS).mono ?_
   rintro e y1 ⟨u,rfl,ou,b⟩
   have c:KeepBut go w1 y1:=c.trans (keep_of_below b)
   have BD:=hid (BD.out.later b)
   have MY:=hid ((MR.out.below ((Below.refl _ _).drew)).below b)
   have OU:=hid (ou.p)
   refine hK.out _ _ (⟨BD.out,c⟩) (fun hHeld=>?_)
   clear hK K
   try simp only[Act.put,LgT,Lg0,LgS,LsT,Ls0,LsS]
   clear b ou
   refine wpAnyH_ready (rs:=[8]) (by kernel_rfl) (by simp) ?_
   refine AllReadyH.cons (i:=8) rfl (fun K hK=>?_) AllReadyH.nil
   rw[if_pos (by rfl)]
   simp only[LgT,Lg0,LgS]
   go_simp
   have b:=bA y1 (.cells (mC m u).toArray 32)
   have SX:Hid (SlN (y1.alloc (.cells (mC m u).toArray 32)) 32 16 0 (.slice (some ⟨y1.heap.size,0,none⟩) 1 1) [[.int .i64 m.id,.int .i64 m.rid,.slice u.ms.a u.ms.n u.ms.c,.slice u.its.a u.its.n u.its.c,.slice u.lv.a u.lv.n u.lv.c,.slice u.tx.a u.tx.n u.tx.c,.int .i64 m.rd,.int .i64 m.se,.int .i64 m.li,.int .i64 m.he,.int .i64 m.la.c,.int .i64 m.la.r,.int .i64 m.la.q,.int .i64 m.la.a,.int .i64 m.la.b,.slice u.ws.a u.ws.n u.ws.c]]):=SlN.one y1 32 16 0 _ rfl rfl (Nat.zero_le _)
   have c:KeepBut go w1 (y1.alloc (.cells (mC m u).toArray 32)):=c.trans (keep_of_below b)
   have BD:=hid (BD.out.later b)
   have MY:=hid (MY.out.below b)
   have OU:=hid (OU.out.later b)
   refine hK.out _ _ (⟨BD.out,c⟩) (fun hHeld=>?_)
   clear hK K
   try simp only[Act.put,LgT,Lg0,LgS,LsT,Ls0,LsS]
   clear b
   refine wpAnyH_ready (rs:=[9]) (by kernel_rfl) (by simp) ?_
   refine AllReadyH.cons (i:=9) rfl (fun K hK=>?_) AllReadyH.nil
   rw[if_pos (by rfl)]
   simp only[LgT,Lg0,LgS]
   refine wp_catN _ _ 52 rfl _ 208 Tryz.underlying52 Tryz.infoMt rfl (by decide) w1.heap.size (.slice mz.a mz.n mz.c) (ma.map mcel) (by rfl) MY.out.1 0 _ [[.int .i64 m.id,.int .i64 m.rid,.slice u.ms.a u.ms.n u.ms.c,.slice u.its.a u.its.n u.its.c,.slice u.lv.a u.lv.n u.lv.c,.slice u.tx.a u.tx.n u.tx.c,.int .i64 m.rd,.int .i64 m.se,.int .i64 m.li,.int .i64 m.he,.int .i64 m.la.c,.int .i64 m.la.r,.int .i64 m.la.q,.int .i64 m.la.a,.int .i64 m.la.b,.slice u.ws.a u.ws.n u.ws.c]] (by rfl) SX.out hml c.size ?_
   intro v2 y2 s2 g2 b2 _
   obtain⟨nz,hnz,_⟩:=s2.form
   subst hnz
   have KT:KeepTy (fun X=>X=32) (y1.alloc (.cells (mC m u).toArray 32)) y2:=KeepTy.ofPush MY.out.1 g2 rfl
   have MY:Hid (MsP y2 w1.heap.size nz.v (ma++[(m,u)])):=⟨by rw[List.map_append];exact s2,fun e he=>by
    rcases List.mem_append.1 he with he|he
    ·exact(MY.out.2 e he).kt KT (by decide) (by decide) (by decide)
    ·simp at he;subst he;exact OU.out.kt KT (by decide) (by decide) (by decide)⟩
   have BD:=hid (BD.out.kt KT (by decide))
   have c:=keep_base c b2
   refine hK.out _ _ (⟨BD.out,c⟩) (fun hHeld=>?_)
   clear hK K
   try simp only[Act.put,LgT,Lg0,LgS,LsT,Ls0,LsS]
   clear s2 g2 b2 KT SX OU
   refine tkP (i:=10) rfl (by kernel_rfl) (fun _ _ _ h=>h) (by rfl) (fun w hSw=>by simp only[LgT,Lg0,LgS];go_simp;try with_reducible rfl) (by assumption) ?_
   try simp only[Act.put,LgT,Lg0,LgS,LsT,Ls0,LsS]
   refine tkP (i:=11) rfl (by kernel_rfl) (fun _ _ _ h=>h) (by rfl) (fun w hSw=>by simp only[LgT,Lg0,LgS];go_simp;try with_reducible rfl) (by assumption) ?_
   try simp only[Act.put,LgT,Lg0,LgS,LsT,Ls0,LsS]
   refine wpAnyH_done (by kernel_rfl) ?_ _
   refine lastQ_of rfl rfl ?_
   refine wp_st1 52 _ _ rfl go 2 rfl 56 _ BD.out (.slice nz.a nz.n nz.c) rfl (by simp) rfl Tryz.sizeMts [.int .i64 k.rid,.slice ur.a ur.n ur.c,.slice nz.a nz.n nz.c,.slice none 0 0,.slice none 0 0,.slice us.a us.n us.c] rfl ?_
   intro w9 k9 t9
   have G9:=hid k9
   have M9:=hid (MY.out.kt (KeepTy.ofTurn (S:=fun X=>X=56) BD.out t9 rfl) (by decide) (by decide) (by decide) (by decide))
   have E9:Hid ((ma++[(m,u)]).map (·.1)=(k.ma.take (j+1)).map (·.1)):=(by rw[List.map_append,EM.out,List.take_succ_eq_append_getElem hjm,List.map_append,HM.out];rfl:_=_)
   have K9:Hid (KeepBut go w1 w9):=c.trans t9.keep
   clear k9 t9 c BD MY hHeld
   go_wp2_with fail
   go_roundw
   case rel=>exact⟨j+1,nz,_,by omega,by go_num,G9,M9,E9,K9⟩
   case measure=>simp[intOf];omega
  ·have hjn:j=k.ma.length:=by have:=HMN.out;omega
   have EM2:Hid (ma.map (·.1)=k.ma.map (·.1)):=(by have e:=EM.out;rw[hjn,List.take_length]at e;exact e:_=_)
   have KR2:=hid (KR1.out.keepb KB.out (by omega))
   have P2:=hid (P1.out.keepb BO.out KB.out)
   have IU2:=hid (IU.out.keepb BO.out KB.out (by decide))
   have SU2:=hid (SlI.keepb SU.out BO.out KB.out (by decide))
   have MS2:Hid (MsP wr W.heap.size mz.v ma):=MR.out.down z1
   have B2:=hid (B1.out.trans (KB.out.below (by omega) B1.out.size))
   have HFN:Hid (k.flv.n=k.fl.length):=P2.out.fl.len
   have hfn:k.flv.n≤1000000:=by have h1:=HFN.out;have h2:=hs.out.fl;omega
   have hd: ¬j<k.mav.n:=hlt
   clear hjn EM KB KA1 KR1 P1 IU SU BO MR B1 zr
   go_wp2_with fail
   clear ka2
   generalize wr=w2 at *
   have zg2:=BR.out.lt
   go_loopw [5] (fun v5 wr=>∃(j:Nat) (fz:Sv) (fl:List (Fl × Sv)),j≤k.flv.n∧v5=.int .i64 (j:Int)∧Hid (Bx wr go 56 [.int .i64 k.rid,.slice ur.a ur.n ur.c,.slice mz.a mz.n mz.c,.slice fz.a fz.n fz.c,.slice none 0 0,.slice us.a us.n us.c])∧Hid (FsP wr w2.heap.size fz.v fl)∧Hid (fl.map (·.1)=(k.fl.take j).map (·.1))∧Hid (KeepBut go w2 wr)) (fun v5 _=>k.flv.n - (intOf v5).toNat)
   case atStart=>exact⟨0,zSv,[],Nat.zero_le _,rfl,BR,⟨SlN.nil _ _ _ _,fun e he=>by cases he⟩,rfl,keep_of_below (Below.refl _ _)⟩
   case round=>
    obtain⟨j5,fz,fl,hj5,rfl,BF,FR,EF,KB⟩:=hrel
    have zr:w2.heap.size≤wr.heap.size:=KB.out.size
    have KAq:=hid (KAr.out.keepb KB.out (by omega))
    have ka3:=KAq.out.cell 3
    by_cases hlf:j5<k.flv.n
    ·have hjf:j5<k.fl.length:=by have:=HFN.out;omega
     obtain⟨hq1,gf,off,ha,hq2,hgl,hr⟩:=P2.out.fl.row hjf
     clear hq1 hq2
     have hgf:gf≠go:=P2.out.fl.1.box_ne BR.out (by decide) gf (by simp[Sv.v,Value.ownBlock,ha])
     obtain⟨⟨f,fsv⟩,hm⟩: ∃e,k.fl[j5]=e:=⟨_,rfl⟩
     have HM:Hid (k.fl[j5]=(f,fsv)):=hm
     have HR:Hid (wr.rangeAt gf (off+j5 * 12) [.int .i64 f.to,.bool f.tk,.int .i64 f.t.c,.int .i64 f.t.r,.int .i64 f.t.q,.int .i64 f.t.a,.int .i64 f.t.b,.slice fsv.a fsv.n fsv.c,.int .i64 f.x.1,.int .i64 f.x.2.1,.int .i64 f.x.2.2.1,.string f.x.2.2.2]):=(by rw[hm]at hr;exact range_keep hr hgl KB.out hgf:World.rangeAt _ _ _ _)
     have HW:Hid (OwnI wr 0 fsv.v f.t.ws):=(by have:=P2.out.fl.2 k.fl[j5] (List.getElem_mem hjf);rw[hm]at this;exact this.keepb BR.out KB.out (by decide):OwnI _ _ _ _)
     have hws:f.t.ws.length≤1048576:=by have:=hs.out.fls k.fl[j5] (List.getElem_mem hjf);rw[hm]at this;exact this
     have KAa:Hid (Bx wr w.heap.size 56 [.int .i64 k.rid,.slice k.mv.a k.mv.n k.mv.c,.slice k.mav.a k.mav.n k.mav.c,.slice (some ⟨gf,off,none⟩) k.flv.n k.flv.c,.slice k.hev.a k.hev.n k.hev.c,.slice k.sav.a k.sav.n k.sav.c]):=(by have e:=KAq.out;rw[ha]at e;exact e:Bx _ _ _ _)
     have ka3a:=KAa.out.cell 3
     have hfl2:(fl.map fcel).length≤1048576:=by have e:=congrArg List.length EF.out;simp only[List.length_map,List.length_take]at e⊢;have:=hs.out.fl;omega
     have i0:(0:Int)≤(j5:Int):=by omega
     have i1:(j5:Int)<(k.flv.n:Int):=by omega
     have hfne: ∀q,fz.v.ownBlock=some q→q<wr.heap.size:=fun q hq=>(FR.out.1.lt q hq).2
     have HFne:Hid (∀q,fz.v.ownBlock=some q→q<wr.heap.size):=hfne
     have hz:=hid (Bx.new wr 68 [.int .i64 0,.bool false,.int .i64 0,.int .i64 0,.int .i64 0,.int .i64 0,.int .i64 0,.slice none 0 0,.int .i64 0,.int .i64 0,.int .i64 0,.string ⟨#[]⟩])
     clear hr ha hm ka3 hfne
     go_wp2_with (first|(refine wpList_ldR rfl 68 _ rfl gf (off+j5 * 12) rfl [.int .i64 f.to,.bool f.tk,.int .i64 f.t.c,.int .i64 f.t.r,.int .i64 f.t.q,.int .i64 f.t.a,.int .i64 f.t.b,.slice fsv.a fsv.n fsv.c,.int .i64 f.x.1,.int .i64 f.x.2.1,.int .i64 f.x.2.2.1,.string f.x.2.2.2] HR.out _ Tryz.underlying68 rfl Tryz.sizeFl ?_)|(refine wpList_stW rfl 68 _ _ rfl wr.heap.size rfl 68 _ hz.out [.int .i64 f.to,.bool f.tk,.int .i64 f.t.c,.int .i64 f.t.r,.int .i64 f.t.q,.int .i64 f.t.a,.int .i64 f.t.b,.slice fsv.a fsv.n fsv.c,.int .i64 f.x.1,.int .i64 f.x.2.1,.int .i64 f.x.2.2.1,.string f.x.2.2.2] rfl rfl Tryz.sizeFl rfl ?_;intro w3 OB TB;have b:Below wr.heap.size wr w3:=((Below.refl _ _).alloc (Nat.le_refl _) _).trans (TB.below (Nat.le_refl _));have FB:=hid OB;clear OB TB;refine Stp.here ?_))
     refine Stp.go ?_
     have BF:=hid (BF.out.later b)
     have FR:=hid (FR.out.below b)
     have HW:=hid (ownL HW.out b)
     have KB:=hid (KB.out.trans (keep_of_below b))
     have zgx:=FB.out.lt
     clear b hz HR KAq KAa ka3a
     generalize wr.heap.size=gx at *
     go_wp2_with (first|(refine wpList_ldG rfl 30 _ rfl gx 2 rfl 68 _ FB.out [.int .i64 f.t.c,.int .i64 f.t.r,.int .i64 f.t.q,.int .i64 f.t.a,.int .i64 f.t.b,.slice fsv.a fsv.n fsv.c] rfl _ Tryz.underlying30 rfl Tryz.sizeT ?_))
     refine(spCopyTok_s f.t.c f.t.r f.t.q f.t.a f.t.b fsv f.t.ws _ HW hws).mono ?_
     rintro e w4 ⟨y,rfl,oy,b4⟩
     have FB:=hid (FB.out.later b4)
     have BF:=hid (BF.out.later b4)
     have FR:=hid (FR.out.below b4)
     have YW:=hid (oy.down (Nat.zero_le _))
     have KB:=hid (KB.out.trans (keep_of_below b4))
     clear b4 oy HW
     go_wp2_with (first|(refine wpList_stB rfl 30 _ _ rfl gx 2 rfl 68 _ FB.out [.int .i64 f.t.c,.int .i64 f.t.r,.int .i64 f.t.q,.int .i64 f.t.a,.int .i64 f.t.b,.slice y.a y.n y.c] rfl (by simp) Tryz.sizeT rfl [.int .i64 f.to,.bool f.tk,.int .i64 f.t.c,.int .i64 f.t.r,.int .i64 f.t.q,.int .i64 f.t.a,.int .i64 f.t.b,.slice y.a y.n y.c,.int .i64 f.x.1,.int .i64 f.x.2.1,.int .i64 f.x.2.2.1,.string f.x.2.2.2] rfl ?_;intro w5 OB TB;refine Stp.here ?_))
     refine Stp.go ?_
     have FR:=hid (FR.out.turn FB.out TB HFne.out)
     have BF:=hid (BF.out.turn TB (by omega))
     have YW:=hid (YW.out.past FB.out TB (by decide))
     have KB:=hid (keep_turn_new KB.out TB (by omega))
     have FB:=hid OB
     clear OB TB
     have zz5:w2.heap.size≤w5.heap.size:=KB.out.size
     go_wp2_with (first|(refine wpList_ldG rfl 68 _ rfl gx 0 rfl 68 _ FB.out [.int .i64 f.to,.bool f.tk,.int .i64 f.t.c,.int .i64 f.t.r,.int .i64 f.t.q,.int .i64 f.t.a,.int .i64 f.t.b,.slice y.a y.n y.c,.int .i64 f.x.1,.int .i64 f.x.2.1,.int .i64 f.x.2.2.1,.string f.x.2.2.2] rfl _ Tryz.underlying68 rfl Tryz.sizeFl ?_)|(refine wpList_ld1 rfl 53 _ rfl go 3 rfl 56 _ BF.out (.slice fz.a fz.n fz.c) rfl _ Tryz.underlying53 rfl ?_)|(at_builtin;refine wpList_pushN rfl _ _ 53 rfl _ 120 Tryz.underlying53 Tryz.infoFl rfl (by decide) w2.heap.size (.slice fz.a fz.n fz.c) (fl.map fcel) rfl FR.out.1 [.int .i64 f.to,.bool f.tk,.int .i64 f.t.c,.int .i64 f.t.r,.int .i64 f.t.q,.int .i64 f.t.a,.int .i64 f.t.b,.slice y.a y.n y.c,.int .i64 f.x.1,.int .i64 f.x.2.1,.int .i64 f.x.2.2.1,.string f.x.2.2.2] rfl rfl rfl hfl2 zz5 ?_;intro v2 w6 s2 g2 b2 _;refine Stp.here ?_))
     refine Stp.go ?_
     obtain⟨nz,hnz,_⟩:=s2.form
     subst hnz
     have KT:KeepTy (fun X=>X=68) w5 w6:=KeepTy.ofPush FR.out.1 g2 rfl
     have FR:Hid (FsP w6 w2.heap.size nz.v (fl++[(f,y)])):=⟨by rw[List.map_append];exact s2,fun e he=>by
      rcases List.mem_append.1 he with he|he
      ·exact(FR.out.2 e he).kt KT (by decide)
      ·simp at he;subst he;exact YW.out.kt KT (by decide)⟩
     have BF:=hid (BF.out.kt KT (by decide))
     have KB:=hid (keep_base KB.out b2)
     clear s2 g2 b2 KT YW FB
     go_wp2_with (first|(refine wpList_st1 rfl 53 _ _ rfl go 3 rfl 56 _ BF.out (.slice nz.a nz.n nz.c) rfl (by simp) rfl Tryz.sizeFls [.int .i64 k.rid,.slice ur.a ur.n ur.c,.slice mz.a mz.n mz.c,.slice nz.a nz.n nz.c,.slice none 0 0,.slice us.a us.n us.c] rfl ?_;intro w7 OB TB;refine Stp.here ?_))
     refine Stp.go ?_
     have FR:=hid (FR.out.keepb BF.out TB.keep)
     have KB:=hid (KB.out.trans TB.keep)
     have BF:=hid OB
     have E9:Hid ((fl++[(f,y)]).map (·.1)=(k.fl.take (j5+1)).map (·.1)):=(by rw[List.map_append,EF.out,List.take_succ_eq_append_getElem hjf,List.map_append,HM.out];rfl:_=_)
     clear OB TB
     go_wp2_with fail
     go_roundw
     case rel=>exact⟨j5+1,nz,_,by omega,by go_num,BF,FR,E9,KB⟩
     case measure=>simp[intOf];omega
    ·have hjn:j5=k.fl.length:=by have:=HFN.out;omega
     have EF2:Hid (fl.map (·.1)=k.fl.map (·.1)):=(by have e:=EF.out;rw[hjn,List.take_length]at e;exact e:_=_)
     have KR3:=hid (KR2.out.keepb KB.out (by omega))
     have P3:=hid (P2.out.keepb BR.out KB.out)
     have IU3:=hid (IU2.out.keepb BR.out KB.out (by decide))
     have SU3:=hid (SlI.keepb SU2.out BR.out KB.out (by decide))
     have MS3:=hid (MS2.out.keepb BR.out KB.out)
     have FS3:=hid (FR.out.down (Nat.zero_le _))
     have B3:=hid (B2.out.trans (KB.out.below (by omega) B2.out.size))
     have HHN:Hid (k.hev.n=k.he.length):=P3.out.he.len
     have hhn:k.hev.n≤10:=by have h1:=HHN.out;have h2:=hs.out.he;omega
     have hd5: ¬j5<k.flv.n:=hlf
     clear hjn EF KB KAr KR2 P2 IU2 SU2 MS2 BR FR B2 zr HFN
     go_wp2_with fail
     clear ka3
     generalize wr=w3 at *
     have zg3:=BF.out.lt
     have ka4:=KAq.out.cell 4
     go_loopw [7] (fun v7 wr=>∃(j:Nat) (hz:Sv) (he:List (List It × Sv)),j≤k.hev.n∧v7=.int .i64 (j:Int)∧Hid (Bx wr go 56 [.int .i64 k.rid,.slice ur.a ur.n ur.c,.slice mz.a mz.n mz.c,.slice fz.a fz.n fz.c,.slice hz.a hz.n hz.c,.slice us.a us.n us.c])∧Hid (HsP wr w3.heap.size hz.v he)∧Hid (he.map (·.1)=(k.he.take j).map (·.1))∧Hid (KeepBut go w3 wr)) (fun v7 _=>k.hev.n - (intOf v7).toNat)
     case atStart=>exact⟨0,zSv,[],Nat.zero_le _,rfl,BF,⟨SlN.nil _ _ _ _,fun e he=>by cases he⟩,rfl,keep_of_below (Below.refl _ _)⟩
     case round=>
      obtain⟨j7,hz,he,hj7,rfl,BH,HRr,EH,KB⟩:=hrel
      have zr:w3.heap.size≤wr.heap.size:=KB.out.size
      have KAh:=hid (KAq.out.keepb KB.out (by omega))
      have ka5:=KAh.out.cell 4
      by_cases hlh:j7<k.hev.n
      ·have hjh:j7<k.he.length:=by have:=HHN.out;omega
       obtain⟨hq1,gh,off,ha,hq2,hgl,hr⟩:=P3.out.he.row hjh
       clear hq1 hq2
       have hgh:gh≠go:=P3.out.he.1.box_ne BF.out (by decide) gh (by simp[Sv.v,Value.ownBlock,ha])
       obtain⟨⟨xs,xv⟩,hm⟩: ∃e,k.he[j7]=e:=⟨_,rfl⟩
       have HM:Hid (k.he[j7]=(xs,xv)):=hm
       have HR:Hid (w3.rangeAt gh (off+j7 * 1) [.slice xv.a xv.n xv.c]):=(by rw[hm]at hr;exact hr:World.rangeAt _ _ _ _)
       have HX:Hid (SlI w3 0 xv.v xs):=(by have:=P3.out.he.2 k.he[j7] (List.getElem_mem hjh);rw[hm]at this;exact this:SlI _ _ _ _)
       have hxl:xs.length≤1000000:=by have:=hs.out.hes k.he[j7] (List.getElem_mem hjh);rw[hm]at this;exact this
       have KAa:Hid (Bx w3 w.heap.size 56 [.int .i64 k.rid,.slice k.mv.a k.mv.n k.mv.c,.slice k.mav.a k.mav.n k.mav.c,.slice k.flv.a k.flv.n k.flv.c,.slice (some ⟨gh,off,none⟩) k.hev.n k.hev.c,.slice k.sav.a k.sav.n k.sav.c]):=(by have e:=KAq.out;rw[ha]at e;exact e:Bx _ _ _ _)
       have hhl2:(he.map hcel).length+1≤1048577:=by have e:=congrArg List.length EH.out;simp only[List.length_map,List.length_take]at e⊢;have:=hs.out.he;omega
       have i0:(0:Int)≤(j7:Int):=by omega
       have i1:(j7:Int)<(k.hev.n:Int):=by omega
       clear hr ha hm
       go_wp2_with fail
       have c:KeepBut go w3 wr.drew:=KB.out.trans (keep_of_below ((Below.refl _ _).drew))
       have BD:=hid (BH.out.later ((Below.refl _ _).drew))
       have HD:=hid (HRr.out.below ((Below.refl _ _).drew))
       refine wp_region_heldLast (S:=fun w'=>Bx w' go 56 [.int .i64 k.rid,.slice ur.a ur.n ur.c,.slice mz.a mz.n mz.c,.slice fz.a fz.n fz.c,.slice hz.a hz.n hz.c,.slice us.a us.n us.c]∧KeepBut go w3 w') _ (by simp) (by kernel_rfl) (by rfl) (by rfl) (by kernel_rfl) (by kernel_rfl) ⟨BD.out,c⟩ (fun hHeld=>?_)
       simp only[List.dropLast_cons_cons,List.dropLast_singleton,List.getLast_cons_cons,List.getLast_singleton,List.cons_append,List.nil_append,List.length_cons,List.length_nil]
       refine tkP (i:=0) rfl (by kernel_rfl) (fun _ _ _ h=>h) (by rfl) (fun w hSw=>by simp only[LgT,Lg0,LgS];go_simp;try with_reducible rfl) (by assumption) ?_
       try simp only[Act.put,LgT,Lg0,LgS,LsT,Ls0,LsS]
       refine tkH (i:=1) (v:=_) rfl (by kernel_rfl) (fun _ _ _ h=>h) (ld1_yield (by rfl) 54 _ rfl go 4 rfl 56 _ (fun w hS=>hS.1) (.slice hz.a hz.n hz.c) rfl _ Tryz.underlying54 rfl) (by assumption) ?_
       try simp only[Act.put,LgT,Lg0,LgS,LsT,Ls0,LsS]
       refine tkP (i:=3) rfl (by kernel_rfl) (fun _ _ _ h=>h) (by rfl) (fun w hSw=>by simp only[LgT,Lg0,LgS];go_simp;try with_reducible rfl) (by assumption) ?_
       try simp only[Act.put,LgT,Lg0,LgS,LsT,Ls0,LsS]
       refine tkH (i:=4) (v:=_) rfl (by kernel_rfl) (fun _ _ _ h=>h) (ld1_yield (by rfl) 54 _ rfl w.heap.size 4 rfl 56 _ (fun w hS=>KAa.out.keepb hS.2 (by omega)) (.slice (some ⟨gh,off,none⟩) k.hev.n k.hev.c) rfl _ Tryz.underlying54 rfl) (by assumption) ?_
       try simp only[Act.put,LgT,Lg0,LgS,LsT,Ls0,LsS]
       refine tkP (i:=5) rfl (by kernel_rfl) (fun _ _ _ h=>h) (by rfl) (fun w hSw=>by simp only[LgT,Lg0,LgS];go_simp;try with_reducible rfl) (by assumption) ?_
       try simp only[Act.put,LgT,Lg0,LgS,LsT,Ls0,LsS]
       refine tkP (i:=6) rfl (by kernel_rfl) (fun _ _ _ h=>h) (by rfl) (fun w hSw=>by simp only[LgT,Lg0,LgS];go_simp;try with_reducible rfl) (by assumption) ?_
       try simp only[Act.put,LgT,Lg0,LgS,LsT,Ls0,LsS]
       refine tkH (i:=7) (v:=(.slice xv.a xv.n xv.c)) rfl (by kernel_rfl) (fun _ _ _ h=>h) (ldC_yield (by rfl) 27 _ rfl gh (off+j7 * 1) (by first|rfl|(simp;done)|go_simp) (.slice xv.a xv.n xv.c) (fun w hS=>(range_keep HR.out hgl hS.2 hgh 0 _ rfl)) _ Tryz.underlying27 rfl) (by assumption) ?_
       try simp only[Act.put,LsT,Ls0,LsS]
       refine wpAnyH_ready (rs:=[2]) (by kernel_rfl) (by simp) ?_
       refine AllReadyH.cons (i:=2) rfl (fun K hK=>?_) AllReadyH.nil
       rw[if_pos (by rfl)]
       simp only[LgT,Lg0,LgS]
       go_simp
       have b:=bA wr.drew (.cells #[] 41)
       have S0:Hid (SlI (wr.drew.alloc (.cells #[] 41)) w3.heap.size (.slice (some ⟨wr.heap.size,0,none⟩) 0 0) []):=SlI.made wr.drew w3.heap.size c.size
       have c:KeepBut go w3 (wr.drew.alloc (.cells #[] 41)):=c.trans (keep_of_below b)
       have BD:=hid (BD.out.later b)
       have HD:=hid (HD.out.below b)
       refine hK.out _ _ (⟨BD.out,c⟩) (fun hHeld=>?_)
       clear hK K
       try simp only[Act.put,LgT,Lg0,LgS,LsT,Ls0,LsS]
       clear b
       refine wpAnyH_ready (rs:=[8]) (by kernel_rfl) (by simp) ?_
       refine AllReadyH.cons (i:=8) rfl (fun K hK=>?_) AllReadyH.nil
       rw[if_pos (by rfl)]
       simp only[LgT,Lg0,LgS]
       refine wp_catIt _ _ 27 rfl Tryz.underlying27 w3.heap.size (.slice (some ⟨wr.heap.size,0,none⟩) 0 0) [] (by rfl) S0.out (.slice xv.a xv.n xv.c) xs (by rfl) ((HX.out.keepb BF.out c (by decide)).rit) (by simp;omega) c.size ?_
       intro v3 y3 o3 g3 _
       obtain⟨xu,hu3⟩:=SlI.sv o3
       subst hu3
       rw[List.nil_append]at o3
       have KT:KeepTy (fun X=>X=41) (wr.drew.alloc (.cells #[] 41)) y3:=KeepTy.ofGrown g3 (fun j hj=>by obtain⟨cs,hc⟩:=own_is_it S0.out hj;exact⟨cs,_,_,hc,rfl⟩)
       have HN0: ∀q,(Value.slice (some ⟨wr.heap.size,0,none⟩) 0 0).ownBlock=some q→q=wr.heap.size:=fun q hq=>by simp[Value.ownBlock]at hq;exact hq.symm
       have HD:Hid (HsP y3 w3.heap.size hz.v he):=⟨HD.out.1.kt KT (by decide),fun e hee=>SlI.kept (HD.out.2 e hee) g3 (fun q hq e2=>by have h1:=HN0 q e2.symm;have h2:=(Sl.lt (HRr.out.2 e hee) q hq).2;omega)⟩
       have BD:=hid (BD.out.kt KT (by decide))
       have c:KeepBut go w3 y3:=keep_grow c g3 (fun q hq=>by have:=HN0 q hq;omega)
       have OX:Hid (SlI y3 0 xu.v xs):=SlI.down o3 (Nat.zero_le _)
       refine hK.out _ _ (⟨BD.out,c⟩) (fun hHeld=>?_)
       clear hK K
       try simp only[Act.put,LgT,Lg0,LgS,LsT,Ls0,LsS]
       clear o3 g3 KT S0 HN0
       refine wpAnyH_ready (rs:=[9]) (by kernel_rfl) (by simp) ?_
       refine AllReadyH.cons (i:=9) rfl (fun K hK=>?_) AllReadyH.nil
       rw[if_pos (by rfl)]
       simp only[LgT,Lg0,LgS]
       go_simp
       have b:=bA y3 (.cells #[.slice xu.a xu.n xu.c] 27)
       have SX:Hid (SlN (y3.alloc (.cells #[.slice xu.a xu.n xu.c] 27)) 27 1 0 (.slice (some ⟨y3.heap.size,0,none⟩) 1 1) [[.slice xu.a xu.n xu.c]]):=SlN.one y3 27 1 0 _ rfl rfl (Nat.zero_le _)
       have c:KeepBut go w3 (y3.alloc (.cells #[.slice xu.a xu.n xu.c] 27)):=c.trans (keep_of_below b)
       have BD:=hid (BD.out.later b)
       have HD:=hid (HD.out.below b)
       have OX:=hid (OX.out.below b)
       refine hK.out _ _ (⟨BD.out,c⟩) (fun hHeld=>?_)
       clear hK K
       try simp only[Act.put,LgT,Lg0,LgS,LsT,Ls0,LsS]
       clear b
       refine wpAnyH_ready (rs:=[10]) (by kernel_rfl) (by simp) ?_
       refine AllReadyH.cons (i:=10) rfl (fun K hK=>?_) AllReadyH.nil
       rw[if_pos (by rfl)]
       simp only[LgT,Lg0,LgS]
       refine wp_catN _ _ 54 rfl _ 24 Tryz.underlying54 Tryz.infoIt rfl (by decide) w3.heap.size (.slice hz.a hz.n hz.c) (he.map hcel) (by rfl) HD.out.1 0 _ [[.slice xu.a xu.n xu.c]] (by rfl) SX.out hhl2 c.size ?_
       intro v2 y2 s2 g2 b2 _
       obtain⟨nz,hnz,_⟩:=s2.form
       subst hnz
       have KT:KeepTy (fun X=>X=27) (y3.alloc (.cells #[.slice xu.a xu.n xu.c] 27)) y2:=KeepTy.ofPush HD.out.1 g2 rfl
       have HD:Hid (HsP y2 w3.heap.size nz.v (he++[(xs,xu)])):=⟨by rw[List.map_append];exact s2,fun e hee=>by
        rcases List.mem_append.1 hee with hee|hee
        ·exact(HD.out.2 e hee).kt KT (by decide)
        ·simp at hee;subst hee;exact OX.out.kt KT (by decide)⟩
       have BD:=hid (BD.out.kt KT (by decide))
       have c:=keep_base c b2
       refine hK.out _ _ (⟨BD.out,c⟩) (fun hHeld=>?_)
       clear hK K
       try simp only[Act.put,LgT,Lg0,LgS,LsT,Ls0,LsS]
       clear s2 g2 b2 KT SX OX
       refine tkP (i:=11) rfl (by kernel_rfl) (fun _ _ _ h=>h) (by rfl) (fun w hSw=>by simp only[LgT,Lg0,LgS];go_simp;try with_reducible rfl) (by assumption) ?_
       try simp only[Act.put,LgT,Lg0,LgS,LsT,Ls0,LsS]
       refine tkP (i:=12) rfl (by kernel_rfl) (fun _ _ _ h=>h) (by rfl) (fun w hSw=>by simp only[LgT,Lg0,LgS];go_simp;try with_reducible rfl) (by assumption) ?_
       try simp only[Act.put,LgT,Lg0,LgS,LsT,Ls0,LsS]
       refine wpAnyH_done (by kernel_rfl) ?_ _
       refine lastQ_of rfl rfl ?_
       refine wp_st1 54 _ _ rfl go 4 rfl 56 _ BD.out (.slice nz.a nz.n nz.c) rfl (by simp) rfl Tryz.sizeIss [.int .i64 k.rid,.slice ur.a ur.n ur.c,.slice mz.a mz.n mz.c,.slice fz.a fz.n fz.c,.slice nz.a nz.n nz.c,.slice us.a us.n us.c] rfl ?_
       intro w9 k9 t9
       have G9:=hid k9
       have M9:=hid (HD.out.keepb BD.out t9.keep)
       have E9:Hid ((he++[(xs,xu)]).map (·.1)=(k.he.take (j7+1)).map (·.1)):=(by rw[List.map_append,EH.out,List.take_succ_eq_append_getElem hjh,List.map_append,HM.out];rfl:_=_)
       have K9:Hid (KeepBut go w3 w9):=c.trans t9.keep
       clear k9 t9 c BD HD hHeld
       go_wp2_with fail
       go_roundw
       case rel=>exact⟨j7+1,nz,_,by omega,by go_num,G9,M9,E9,K9⟩
       case measure=>simp[intOf];omega
      ·have hjn:j7=k.he.length:=by have:=HHN.out;omega
       have EH2:Hid (he.map (·.1)=k.he.map (·.1)):=(by have e:=EH.out;rw[hjn,List.take_length]at e;exact e:_=_)
       have hd7: ¬j7<k.hev.n:=hlh
       have KR4:=hid (KR3.out.keepb KB.out (by omega))
       have IU4:=hid ((IU3.out.keepb BF.out KB.out (by decide)).down (Nat.zero_le _))
       have SU4:Hid (SlI wr 0 us.v k.sa):=SlI.down (SlI.keepb SU3.out BF.out KB.out (by decide)) (Nat.zero_le _)
       have MS4:=hid ((MS3.out.keepb BF.out KB.out).down (Nat.zero_le _))
       have FS4:=hid (FS3.out.keepb BF.out KB.out)
       have HS4:=hid (HRr.out.down (Nat.zero_le _))
       have B4:=hid (B3.out.trans (KB.out.below (by omega) B3.out.size))
       clear hjn EH KB KAq KAh KR3 P3 IU3 SU3 MS3 FS3 BF HRr B3 zr ka4
       go_wp2_with (first|(refine wpList_ldG rfl 56 _ rfl go 0 rfl 56 _ BH.out [.int .i64 k.rid,.slice ur.a ur.n ur.c,.slice mz.a mz.n mz.c,.slice fz.a fz.n fz.c,.slice hz.a hz.n hz.c,.slice us.a us.n us.c] rfl _ Tryz.underlying56 rfl Tryz.sizeWk ?_)|(refine wpList_stW rfl 56 _ _ rfl (w.heap.size+1) rfl 56 _ KR4.out [.int .i64 k.rid,.slice ur.a ur.n ur.c,.slice mz.a mz.n mz.c,.slice fz.a fz.n fz.c,.slice hz.a hz.n hz.c,.slice us.a us.n us.c] rfl rfl Tryz.sizeWk rfl ?_;intro w9 OB TB;refine Stp.here ?_))
       refine Stp.go ?_
       go_wp2_with fail
       refine bodyPost_ret (results_b Tryz.results88 (w.heap.size+1) 56 [.int .i64 k.rid,.slice ur.a ur.n ur.c,.slice mz.a mz.n mz.c,.slice fz.a fz.n fz.c,.slice hz.a hz.n hz.c,.slice us.a us.n us.c] _ rfl OB Tryz.underlying56 rfl Tryz.sizeWk) rfl ?_
       refine⟨⟨k.rid,k.ms,ur,ma,mz,fl,fz,he,hz,k.sa,us⟩,rfl,⟨IU4.out.past KR4.out TB (by decide),MS4.out.keepb KR4.out TB.keep,FS4.out.keepb KR4.out TB.keep,HS4.out.keepb KR4.out TB.keep,SlI.past SU4.out KR4.out TB (by decide)⟩,?_,B4.out.trans (TB.below (by omega))⟩
       show Wp.mk _ _ _ _ _ _=Wp.mk _ _ _ _ _ _
       rw[EM2.out,EF2.out,EH2.out]
end Go.Proofs.YthdjkkiegecgnaaGreat
