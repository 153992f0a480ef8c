/- Joined texts: CHo CFs CSho CWcm CWhe CCu. -/
import Derived.Test.YthdjkkiegecgnaaGreatOq19
import Derived.Test.YthdjkkiegecgnaaGreatOq21
import Derived.Test.YthdjkkiegecgnaaGreatOq15
import Derived.Test.YthdjkkiegecgnaaGreatOq16
import Derived.Test.YthdjkkiegecgnaaGreatOq17
import Derived.Test.YthdjkkiegecgnaaGreatOq13
import Derived.Test.YthdjkkiegecgnaaGreatOq10
import Derived.Test.YthdjkkiegecgnaaGreatOq18
set_option maxRecDepth 100000
set_option maxHeartbeats 16000000
namespace Go.Proofs.YthdjkkiegecgnaaGreat
open Go.RowKit Pl
set_option linter.unusedSimpArgs false
set_option linter.unusedVariables false
def nxQ(m:Mt)(t:Tok):Int:=numQ t.c t.r t.q t.a t.b t.ws m.id m.lv m.tx
def nxA(m:Mt)(t:Tok):Int:=numA t.c t.r t.q t.a t.b t.ws m.id m.lv m.tx
def qCd(m:Mt)(t:Tok):Tok:=⟨t.c,t.r+1,nxQ m t,qEy t.c t.r (nxQ m t) (nxA m t) t.b t.ws m.id (aruP (m.spoke t).its:Nat),qEx t.c t.r (nxQ m t) (nxA m t) t.b t.ws m.id (aruP (m.spoke t).its:Nat),qEf t.ws (m.spoke t).its (nxQ m t)⟩
def Mt.held(m:Mt)(t:Tok):Mt:=⟨m.id,m.rid,m.ms,(m.spoke t).its,(m.spoke t).lv,(m.spoke t).tx,t.r,t.a,qBs m.li m.se (aruP (m.spoke t).its) t.a,m.he,qCd m t⟩
def qDd(m:Mt)(t:Tok):List It:=qBf t.ws m.its++qBa m t
theorem qGk{g B:Nat}{w w':World}(h:KeepBut g w w')(hg:B≤g)(hB:B≤w.heap.size):Below B w w':=⟨h.os,h.tape,h.output,h.size,fun k hk=>h.block k (by omega) (by omega)⟩
theorem qHp(ws:List Int)(its:List It)(q:Int):(qEf ws its q).length≤20:=by unfold qEf;exact List.length_take_le _ _
theorem qDc{B:Nat}{w w':World}{row:Option Nat}(h:w.grownBy w' row)(hr: ∀k,row=some k→B≤k)(hB:B≤w.heap.size):Below B w w':=(Below.refl B w).grown h hB hr
theorem qBw{P:Program}{w:World}{fn:Func}{tmps:Array Value}{p q p2 q2:Tmp}{ty ty2:TypeId}(h:fn.results= #[.cell p ty,.tmp q,.cell p2 ty2,.tmp q2])(g T:Nat)(cs:List Value)(d:TypeDesc)(hp:tmps.getD p undef=.pointer (some ⟨g,0,none⟩))(hB:Bx w g T cs)
  (hu:P.underlying ty=some d) (hd:d.isRow=true) (hi:(P.info? ty).map (·.size)=some cs.length) (g2 T2:Nat) (cs2:List Value) (d2:TypeDesc) (hp2:tmps.getD p2 undef=.pointer (some ⟨g2,0,none⟩)) (hB2:Bx w g2 T2 cs2)
  (hu2:P.underlying ty2=some d2) (hd2:d2.isRow=true) (hi2:(P.info? ty2).map (·.size)=some cs2.length):(results fn tmps).run P w=.ok (.tuple #[.agg cs.toArray,tmps.getD q undef,.agg cs2.toArray,tmps.getD q2 undef]) w:=by
 have hl:=run_loadVar_mid (P:=P) w g 0 ty cs d (hB.range 0 cs (by simp)) hu hd hi
 have hl2:=run_loadVar_mid (P:=P) w g2 0 ty2 cs2 d2 (hB2.range 0 cs2 (by simp)) hu2 hd2 hi2
 have hp':tmps[p]?.getD undef=.pointer (some ⟨g,0,none⟩):=by simpa using hp
 have hp2':tmps[p2]?.getD undef=.pointer (some ⟨g2,0,none⟩):=by simpa using hp2
 simp[results,h,hp',hp2',asAddr,hl,hl2]
theorem give_s(t:Tok)(s u:Sv)(its:List It)(w:World)(hy:Hid (RI w s.v t.ws))(hx:Hid (RIt w u.v its))(hl:its.length≤1048576)(hw:t.ws.length≤1048576)(hs:Hid (∀x∈its,x.2.2.2.size≤1048576)):
  Calls Tryz.prog 54 #[.agg #[.int .i64 t.c,.int .i64 t.r,.int .i64 t.q,.int .i64 t.a,.int .i64 t.b,.slice s.a s.n s.c],.slice u.a u.n u.c] w fun e w'=>∃v:Sv,e=.returned (.slice v.a v.n v.c)∧SlI w' w.heap.size v.v (qBf t.ws its)∧Below w.heap.size w w':=by
 obtain⟨aw,cw,e1,x1⟩:=hy.out
 obtain⟨ao,cap,e2,x2⟩:=hx.out
 have h:=give_any t.c t.r t.q t.a t.b aw cw t.ws ao cap its w x1 x2 hl hw hs
 rw[←e1,←e2]at h
 refine h.mono ?_
 rintro e w' ⟨v,rfl,o,b⟩
 obtain⟨z,rfl⟩:=o.sv
 exact⟨z,rfl,o,b⟩
theorem mark_s(c r q a b d u:Int)(s:Sv)(ws:List Int)(w:World)(h:Hid (OwnI w 0 s.v ws))(hl:ws.length≤1048576):
  Calls Tryz.prog 58 #[.agg #[.int .i64 c,.int .i64 r,.int .i64 q,.int .i64 a,.int .i64 b,.slice s.a s.n s.c],.int .i64 d,.int .i64 u] w fun e w'=>∃z:Sv,e=.returned (.agg #[.int .i64 c,.int .i64 r,.int .i64 q,.int .i64 (qEy c r q a b ws d u),.int .i64 (qEx c r q a b ws d u),.slice z.a z.n z.c])∧OwnI w' w.heap.size z.v ws∧Below w.heap.size w w':=by
 refine(mark_any c r q a b d u s.v ws 0 w h hl).mono ?_
 rintro e w' ⟨v,rfl,o,b⟩
 obtain⟨z,rfl⟩:=o.sv
 exact⟨z,rfl,o,b⟩
theorem hold_yes(m:Mt)(v:Mv)(t:Tok)(s:Sv)(w:World)(h:Hid (MtQ w m v))(hs:Hid (OwnI w 0 s.v t.ws))(hl:t.ws.length≤1048576)(hsz:Hid (MtS m))(hok:Hid (m.ok=true))(hmay:Hid (mayB m t=true))
  (hA:Hid (Asc m.its)) (hil:m.its.length≤1000000) (hll:Hid (m.lv.length=m.tx.length)) (hts:Hid (∀x∈qBa m t,x.2.2.2.size≤1048576)) (hrd:0≤m.rd∧m.rd≤1000000000) (htr:0≤t.r∧t.r≤999999999) (hpl:(qBc m.its (qBa m t)).length≤1048576) (hgl:(qBf t.ws m.its).length≤1000000):
  Calls Tryz.prog 11 #[.agg #[.int .i64 m.id,.int .i64 m.rid,.slice v.ms.a v.ms.n v.ms.c,.slice v.its.a v.its.n v.its.c,.slice v.lv.a v.lv.n v.lv.c,.slice v.tx.a v.tx.n v.tx.c,.int .i64 m.rd,.int .i64 m.se,.int .i64 m.li,.int .i64 m.he,.int .i64 m.la.c,.int .i64 m.la.r,.int .i64 m.la.q,.int .i64 m.la.a,.int .i64 m.la.b,.slice v.ws.a v.ws.n v.ws.c],.agg #[.int .i64 t.c,.int .i64 t.r,.int .i64 t.q,.int .i64 t.a,.int .i64 t.b,.slice s.a s.n s.c]] w fun e w'=>∃(u:Mv) (fs sn:Sv),e=.returned (.tuple #[.agg #[.int .i64 (m.held t).id,.int .i64 (m.held t).rid,.slice u.ms.a u.ms.n u.ms.c,.slice u.its.a u.its.n u.its.c,.slice u.lv.a u.lv.n u.lv.c,.slice u.tx.a u.tx.n u.tx.c,.int .i64 (m.held t).rd,.int .i64 (m.held t).se,.int .i64 (m.held t).li,.int .i64 (m.held t).he,.int .i64 (m.held t).la.c,.int .i64 (m.held t).la.r,.int .i64 (m.held t).la.q,.int .i64 (m.held t).la.a,.int .i64 (m.held t).la.b,.slice u.ws.a u.ws.n u.ws.c],.slice fs.a fs.n fs.c,.agg #[.int .i64 (qCd m t).c,.int .i64 (qCd m t).r,.int .i64 (qCd m t).q,.int .i64 (qCd m t).a,.int .i64 (qCd m t).b,.slice sn.a sn.n sn.c],.bool true])∧MtC w' w.heap.size (m.held t) u∧SlI w' 0 fs.v (qDd m t)∧OwnI w' 0 sn.v (qCd m t).ws∧Below w.heap.size w w':=by
 obtain⟨MA,TT,RM,RT,BW⟩:=en4 w 32 [.int .i64 m.id,.int .i64 m.rid,.slice v.ms.a v.ms.n v.ms.c,.slice v.its.a v.its.n v.its.c,.slice v.lv.a v.lv.n v.lv.c,.slice v.tx.a v.tx.n v.tx.c,.int .i64 m.rd,.int .i64 m.se,.int .i64 m.li,.int .i64 m.he,.int .i64 m.la.c,.int .i64 m.la.r,.int .i64 m.la.q,.int .i64 m.la.a,.int .i64 m.la.b,.slice v.ws.a v.ws.n v.ws.c] 30 [.int .i64 t.c,.int .i64 t.r,.int .i64 t.q,.int .i64 t.a,.int .i64 t.b,.slice s.a s.n s.c] 32 [.int .i64 0,.int .i64 0,.slice none 0 0,.slice none 0 0,.slice none 0 0,.slice none 0 0,.int .i64 0,.int .i64 0,.int .i64 0,.int .i64 0,.int .i64 0,.int .i64 0,.int .i64 0,.int .i64 0,.int .i64 0,.slice none 0 0] 30 [.int .i64 0,.int .i64 0,.int .i64 0,.int .i64 0,.int .i64 0,.slice none 0 0]
 obtain⟨QM,SW⟩:=cy2 (h.out.later BW.out) (ownL hs.out BW.out)
 clear h hs
 obtain⟨NQ,hNQ⟩: ∃x,x=nxQ m t:=⟨_,rfl⟩
 have HNQ:Hid _:=hNQ
 clear hNQ
 obtain⟨NA,hNA⟩: ∃x,x=nxA m t:=⟨_,rfl⟩
 have HNA:Hid _:=hNA
 clear hNA
 go_enter Tryz.func11,Tryz.ntmps11
 go_wp2_with (first|(refine qAb rfl 32 _ rfl w.heap.size 0 rfl 32 _ MA.out (mC m v) rfl _ Tryz.underlying32 rfl Tryz.sizeM ?_))
 generalize ((((w.alloc (.cells #[.int .i64 m.id,.int .i64 m.rid,.slice v.ms.a v.ms.n v.ms.c,.slice v.its.a v.its.n v.its.c,.slice v.lv.a v.lv.n v.lv.c,.slice v.tx.a v.tx.n v.tx.c,.int .i64 m.rd,.int .i64 m.se,.int .i64 m.li,.int .i64 m.he,.int .i64 m.la.c,.int .i64 m.la.r,.int .i64 m.la.q,.int .i64 m.la.a,.int .i64 m.la.b,.slice v.ws.a v.ws.n v.ws.c] 32)).alloc (.cells #[.int .i64 t.c,.int .i64 t.r,.int .i64 t.q,.int .i64 t.a,.int .i64 t.b,.slice s.a s.n s.c] 30)).alloc (.cells #[.int .i64 0,.int .i64 0,.slice none 0 0,.slice none 0 0,.slice none 0 0,.slice none 0 0,.int .i64 0,.int .i64 0,.int .i64 0,.int .i64 0,.int .i64 0,.int .i64 0,.int .i64 0,.int .i64 0,.int .i64 0,.slice none 0 0] 32)).alloc (.cells #[.int .i64 0,.int .i64 0,.int .i64 0,.int .i64 0,.int .i64 0,.slice none 0 0] 30))=W at *
 have zW:w.heap.size+3<W.heap.size:=RT.out.lt
 refine(qJs m v _ QM hsz).mono ?_
 rintro e w1 ⟨g,u,rfl,g1,o1,zg,b1⟩
 obtain⟨MA,TT,RM,RT,BW,QM,SW,G⟩:=cy8 (MA.out.later b1) (TT.out.later b1) (RM.out.later b1) (RT.out.later b1) (qAa BW.out b1) (QM.out.later b1) (ownL SW.out b1) g1
 have O:Hid (MtO w1 W.heap.size m u):=o1
 have zg1:=G.out.lt
 clear g1 o1 b1
 go_wp2_with (first|(refine qAb rfl 32 _ rfl w.heap.size 0 rfl 32 _ MA.out (mC m v) rfl _ Tryz.underlying32 rfl Tryz.sizeM ?_))
 refine(qDv m v _ (show Hid (MtR w1 m v)from QM.out.r) hsz).mono ?_
 rintro e w2 ⟨rfl,b2⟩
 obtain⟨MA,TT,RM,RT,BW,QM,SW,G⟩:=cy8 (MA.out.later b2) (TT.out.later b2) (RM.out.later b2) (RT.out.later b2) (qAa BW.out b2) (QM.out.later b2) (ownL SW.out b2) (G.out.later b2)
 have O:=Ag (O.out.later b2)
 rw[hok.out]
 clear b2
 go_wp2_with (first|(refine qAb rfl 30 _ rfl (w.heap.size+1) 0 rfl 30 _ TT.out (tX t.c t.r t.q t.a t.b s) rfl _ Tryz.underlying30 rfl Tryz.sizeT ?_))
 refine(qHn m u zSv g t s _ G (show Hid (RI w2 s.v t.ws)from SW.out.ri) hl hrd).mono ?_
 rintro e w3 ⟨rfl,b3⟩
 obtain⟨MA,TT,RM,RT,BW,QM,SW,G⟩:=cy8 (MA.out.later b3) (TT.out.later b3) (RM.out.later b3) (RT.out.later b3) (qAa BW.out b3) (QM.out.later b3) (ownL SW.out b3) (G.out.later b3)
 have O:=Ag (O.out.later b3)
 rw[hmay.out]
 clear b3
 clear QM MA
 go_wp2_with fail
 have c4:Below w3.heap.size w3 w3.drew:=(Below.refl _ _).drew
 refine wp_region_held_drew (S:=fun w'=>Below w3.heap.size w3 w') (by kernel_rfl) c4 (fun Ah=>?_)
 refine tkH (i:=0) (v:=_) rfl (by kernel_rfl) (fun _ _ _ h=>h) (qBp (by rfl) 30 _ rfl (w.heap.size+1) 0 rfl 30 _ (fun w hS=>TT.out.later hS) (tX t.c t.r t.q t.a t.b s) rfl _ Tryz.underlying30 rfl Tryz.sizeT) Ah ?_
 try simp only[Act.put,Aa,Ab,Ac,Ad,Ae,Af]
 refine tkQ 1 rfl (by kernel_rfl) (by rfl) (fun _ _=>by simp only[Aa,Ab,Ac];go_simp;try with_reducible rfl) Ah ?_ fun _ _ _ h=>h
 try simp only[Act.put,Aa,Ab,Ac,Ad,Ae,Af]
 refine tkQ 2 rfl (by kernel_rfl) (by rfl) (fun _ _=>by simp only[Aa,Ab,Ac];go_simp;try with_reducible rfl) Ah ?_ fun _ _ _ h=>h
 try simp only[Act.put,Aa,Ab,Ac,Ad,Ae,Af]
 refine tkQ 3 rfl (by kernel_rfl) (by rfl) (fun _ _=>by simp only[Aa,Ab,Ac];go_simp;try with_reducible rfl) Ah ?_ fun _ _ _ h=>h
 try simp only[Act.put,Aa,Ab,Ac,Ad,Ae,Af]
 refine tkH (i:=4) (v:=_) rfl (by kernel_rfl) (fun _ _ _ h=>h) (qAf (by rfl) 94 _ rfl g 0 rfl 96 _ (fun w hS=>G.out.later hS) (.slice u.its.a u.its.n u.its.c) rfl _ Tryz.underlying94 rfl) Ah ?_
 try simp only[Act.put,Aa,Ab,Ac,Ad,Ae,Af]
 refine wpAnyH_ready (rs:=[5]) (by kernel_rfl) (by simp) ?_
 refine AllReadyH.cons (i:=5) rfl (fun K hK=>?_) AllReadyH.nil
 rw[if_pos (by rfl)]
 simp only[Aa,Ab,Ac]
 go_simp
 refine(give_s t s u.its m.its _ (show Hid (RI w3.drew s.v t.ws)from SW.out.ri.stays c4) (show Hid (RIt w3.drew u.its.v m.its)from O.out.its.rit.stays c4) hsz.out.its hl hsz.out.it).mono ?_
 rintro e w4 ⟨sd,rfl,o4,b4⟩
 have b4:=qAa c4 b4
 refine hK.out _ _ (b4) (fun Ah=>?_)
 clear hK K
 try simp only[Act.put,Aa,Ab,Ac,Ad,Ae,Af]
 refine tkQ 6 rfl (by kernel_rfl) (by rfl) (fun _ _=>by simp only[Aa,Ab,Ac];go_simp;try with_reducible rfl) Ah ?_ fun _ _ _ h=>h
 try simp only[Act.put,Aa,Ab,Ac,Ad,Ae,Af]
 refine wpAnyH_done (by kernel_rfl) ?_ _
 have zsd:Hid (∀k,sd.v.ownBlock=some k→w3.heap.size≤k):=fun k hk=>(SlI.lt o4 k hk).1
 have z3:Hid (∀k,u.its.v.ownBlock=some k→k<w3.heap.size):=fun k hk=>(SlI.lt O.out.its k hk).2
 have zg3:=G.out.lt
 obtain⟨TT,RM,RT,BW,SW,G,O⟩:=cy7 (TT.out.later b4) (RM.out.later b4) (RT.out.later b4) (qAa BW.out b4) (ownL SW.out b4) (G.out.later b4) (O.out.later b4)
 have SD:Hid (SlI w4 0 (sd.v) (qBf t.ws m.its)):=SlI.down o4 (Nat.zero_le _)
 have SD0:=Ag SD
 clear o4 b4 c4 Ah
 go_wp2_with (first|(refine qAb rfl 30 _ rfl (w.heap.size+1) 0 rfl 30 _ TT.out (tX t.c t.r t.q t.a t.b s) rfl _ Tryz.underlying30 rfl Tryz.sizeT ?_))
 refine(speak_any m u zSv g W.heap.size t s _ G O SW hl hsz hA zg hil hll hts).mono ?_
 rintro e w5 ⟨sw,fr,n,lv,tx,rfl,g5,mc,os,of,b5,f5,nb5⟩
 obtain⟨AR,hAR⟩: ∃x:Nat,x=aruP (m.spoke t).its:=⟨_,rfl⟩
 have HAR:Hid _:=hAR
 clear hAR
 obtain⟨LI,hLI⟩: ∃x,x=qBs m.li m.se (aruP (m.spoke t).its) t.a:=⟨_,rfl⟩
 have HLI:Hid _:=hLI
 clear hLI
 rw[show numQ t.c t.r t.q t.a t.b t.ws m.id m.lv m.tx=NQ from HNQ.out.symm,show numA t.c t.r t.q t.a t.b t.ws m.id m.lv m.tx=NA from HNA.out.symm]
 clear SW O
 obtain⟨TT,RM,RT⟩:=cy3 (TT.out.stays b5 (by omega)) (RM.out.stays b5 (by omega)) (RT.out.stays b5 (by omega))
 have SD:Hid (SlI w5 0 (sd.v) (qBf t.ws m.its)):=SD.out.keep fun k hk hlt=>f5 k hlt (by have:=zsd.out k hk;omega) (fun e=>by have:=zsd.out k hk;have:=z3.out k e;omega)
 have BW:=Ag (BW.out.trans (b5.mono (by omega)))
 have zw5:=b5.size
 have zfr:Hid (∀k,fr.v.ownBlock=some k→w4.heap.size≤k):=fun k hk=>(SlI.lt of k hk).1
 have zsdw:Hid (∀k,sd.v.ownBlock=some k→w.heap.size≤k):=fun k hk=>by have:=zsd.out k hk;omega
 have zsd4:Hid (∀k,sd.v.ownBlock=some k→k<w4.heap.size):=fun k hk=>(SlI.lt SD0.out k hk).2
 have G:=Ag g5
 have MS:Hid (OwnI w5 w.heap.size (u.ms.v) (m.ms)):=mc.ms.down (by omega)
 have IT:Hid (SlI w5 w.heap.size (n.v) ((m.spoke t).its)):=SlI.down mc.its (by omega)
 have LV:Hid (SlJ w5 w.heap.size (lv.v) ((m.spoke t).lv)):=Sl.down mc.lv (by omega)
 have TX:Hid (SlX w5 w.heap.size (tx.v) ((m.spoke t).tx)):=Sl.down mc.tx (by omega)
 have OS:=Ag (os.down (Nat.zero_le _))
 have OF:Hid (SlI w5 0 (fr.v) (qBa m t)):=SlI.down of (Nat.zero_le _)
 have APN:Hid (∀k,sd.v.ownBlock=some k→n.v.ownBlock≠some k):=by
  intro k hk e
  have h1:=zsd.out k hk
  have h2:=zsd4.out k hk
  rcases nb5 with e2|⟨nb,e2,z⟩
  ·rw[e2]at e;exact absurd (z3.out k e) (by omega)
  ·rw[e2]at e;simp at e;omega
 clear g5 mc os of b5 f5 zsd z3 SD0 nb5
 have hz:=Ag (Bx.new w5 30 [.int .i64 0,.int .i64 0,.int .i64 0,.int .i64 0,.int .i64 0,.slice none 0 0])
 have zn5:=G.out.lt
 have zr5:w.heap.size+3<w5.heap.size:=RT.out.lt
 go_wp2_with (first|(refine qBg 30 _ _ rfl ?_))
 refine Stp.go ?_
 refine qAd rfl 30 _ _ rfl w5.heap.size rfl 30 _ hz.out (tX t.c t.r NQ NA t.b sw) rfl rfl Tryz.sizeT rfl ?_
 intro w6 kb kt
 have b6:Below w5.heap.size w5 w6:=((Below.refl _ _).alloc (Nat.le_refl _) _).trans (kt.below (Nat.le_refl _))
 obtain⟨TT,RM,RT,BW,SD,G,MS,IT⟩:=cy8 (TT.out.later b6) (RM.out.later b6) (RT.out.later b6) (qAa BW.out b6) (SD.out.below b6) (G.out.later b6) (ownL MS.out b6) (IT.out.below b6)
 obtain⟨LV,TX,OS,OF,NX⟩:=cy5 (LV.out.below b6) (TX.out.below b6) (ownL OS.out b6) (OF.out.below b6) kb
 have a3:=TT.out.cell 3
 clear kb kt b6
 go_wp2_with fail
 clear hz
 generalize w5.heap.size=gn at *
 have hMB:Hid (MbB w6 g (m.spoke t) ⟨u.ms,n,lv,tx,u.ws⟩ zSv):=G.out
 refine(drawLine_any (m.spoke t) ⟨u.ms,n,lv,tx,u.ws⟩ zSv g w.heap.size t.a _ hMB IT hpl).mono ?_
 rintro e w7 ⟨rfl,g7,k7⟩
 have G0:=Ag G
 have KK:KeepTy (fun X=>X=96) w6 w7:=KeepTy.ofKeepBut G.out k7 rfl
 obtain⟨TT,RM,RT,BW,SD,MS,IT,LV⟩:=cy8 (TT.out.kt KK (by decide)) (RM.out.kt KK (by decide)) (RT.out.kt KK (by decide)) (BW.out.trans (qGk k7 (by omega) BW.out.size)) (SD.out.kt KK (by decide)) (MS.out.kt KK (by decide)) (IT.out.kt KK (by decide)) (LV.out.kt KK (by decide))
 obtain⟨TX,OS,OF,NX⟩:=cy4 (TX.out.kt KK (by decide)) (OS.out.kt KK (by decide)) (OF.out.kt KK (by decide)) (NX.out.kt KK (by decide))
 clear KK
 have G:Hid (Bx w7 g 96 [.slice n.a n.n n.c,.int .i64 m.id,.int .i64 m.rid,.slice u.ms.a u.ms.n u.ms.c,.slice zSv.a zSv.n zSv.c,.slice lv.a lv.n lv.c,.slice tx.a tx.n tx.c,.int .i64 m.rd,.int .i64 t.a,.int .i64 LI,.int .i64 m.he,.int .i64 m.la.c,.int .i64 m.la.r,.int .i64 m.la.q,.int .i64 m.la.a,.int .i64 m.la.b,.slice u.ws.a u.ws.n u.ws.c]):=by rw[HLI.out];exact g7
 clear g7 k7 hMB G0 a3
 obtain⟨ML,hML⟩: ∃x,x=qEy t.c t.r NQ NA t.b t.ws m.id ((AR:Nat):Int):=⟨_,rfl⟩
 have HML:Hid _:=hML
 obtain⟨MD,hMD⟩: ∃x,x=qEx t.c t.r NQ NA t.b t.ws m.id ((AR:Nat):Int):=⟨_,rfl⟩
 have HMD:Hid _:=hMD
 have ARU:Hid (∀W',Hid (RIt W' n.v (m.spoke t).its)→Calls Tryz.prog 59 #[.slice n.a n.n n.c] W' fun e w'=>e=.returned (.int .i64 ((AR:Nat):Int))∧Below W'.heap.size W' w'):=fun W' hx=>by rw[HAR.out];exact aru_r (v:=n.v) (m.spoke t).its hx hpl
 have MARK:Hid (∀W',Hid (OwnI W' 0 sw.v t.ws)→Calls Tryz.prog 58 #[.agg #[.int .i64 t.c,.int .i64 t.r,.int .i64 NQ,.int .i64 NA,.int .i64 t.b,.slice sw.a sw.n sw.c],.int .i64 m.id,.int .i64 ((AR:Nat):Int)] W' fun e w'=>∃z:Sv,e=.returned (.agg #[.int .i64 t.c,.int .i64 t.r,.int .i64 NQ,.int .i64 ML,.int .i64 MD,.slice z.a z.n z.c])∧OwnI w' W'.heap.size z.v t.ws∧Below W'.heap.size W' w'):=fun W' hx=>by rw[hML,hMD];exact mark_s t.c t.r NQ NA t.b m.id ((AR:Nat):Int) sw t.ws W' hx hl
 clear hML hMD
 go_wp2_with fail
 have c7:Below w7.heap.size w7 w7.drew:=(Below.refl _ _).drew
 refine qAj (S:=fun w'=>Below w7.heap.size w7 w') _ (by simp) (by kernel_rfl) (by rfl) (by rfl) (by kernel_rfl) (by kernel_rfl) c7 (fun Ah=>?_)
 simp only[List.dropLast_cons_cons,List.dropLast_singleton,List.getLast_cons_cons,List.getLast_singleton,List.cons_append,List.nil_append,List.length_cons,List.length_nil]
 refine tkH (i:=0) (v:=_) rfl (by kernel_rfl) (fun _ _ _ h=>h) (qBp (by rfl) 30 _ rfl gn 0 rfl 30 _ (fun w hS=>NX.out.later hS) (tX t.c t.r NQ NA t.b sw) rfl _ Tryz.underlying30 rfl Tryz.sizeT) Ah ?_
 try simp only[Act.put,Aa,Ab,Ac,Ad,Ae,Af]
 refine tkQ 1 rfl (by kernel_rfl) (by rfl) (fun _ _=>by simp only[Aa,Ab,Ac];go_simp;try with_reducible rfl) Ah ?_ fun _ _ _ h=>h
 try simp only[Act.put,Aa,Ab,Ac,Ad,Ae,Af]
 refine tkQ 2 rfl (by kernel_rfl) (by rfl) (fun _ _=>by simp only[Aa,Ab,Ac];go_simp;try with_reducible rfl) Ah ?_ fun _ _ _ h=>h
 try simp only[Act.put,Aa,Ab,Ac,Ad,Ae,Af]
 refine tkQ 3 rfl (by kernel_rfl) (by rfl) (fun _ _=>by simp only[Aa,Ab,Ac];go_simp;try with_reducible rfl) Ah ?_ fun _ _ _ h=>h
 try simp only[Act.put,Aa,Ab,Ac,Ad,Ae,Af]
 refine tkQ 4 rfl (by kernel_rfl) (by rfl) (fun _ _=>by simp only[Aa,Ab,Ac];go_simp;try with_reducible rfl) Ah ?_ fun _ _ _ h=>h
 try simp only[Act.put,Aa,Ab,Ac,Ad,Ae,Af]
 refine tkH (i:=5) (v:=_) rfl (by kernel_rfl) (fun _ _ _ h=>h) (qAf (by rfl) 3 _ rfl g 1 rfl 96 _ (fun w hS=>G.out.later hS) (.int .i64 m.id) rfl _ Tryz.underlying3 rfl) Ah ?_
 try simp only[Act.put,Aa,Ab,Ac,Ad,Ae,Af]
 refine tkQ 6 rfl (by kernel_rfl) (by rfl) (fun _ _=>by simp only[Aa,Ab,Ac];go_simp;try with_reducible rfl) Ah ?_ fun _ _ _ h=>h
 try simp only[Act.put,Aa,Ab,Ac,Ad,Ae,Af]
 refine tkQ 7 rfl (by kernel_rfl) (by rfl) (fun _ _=>by simp only[Aa,Ab,Ac];go_simp;try with_reducible rfl) Ah ?_ fun _ _ _ h=>h
 try simp only[Act.put,Aa,Ab,Ac,Ad,Ae,Af]
 refine tkQ 8 rfl (by kernel_rfl) (by rfl) (fun _ _=>by simp only[Aa,Ab,Ac];go_simp;try with_reducible rfl) Ah ?_ fun _ _ _ h=>h
 try simp only[Act.put,Aa,Ab,Ac,Ad,Ae,Af]
 refine tkH (i:=9) (v:=_) rfl (by kernel_rfl) (fun _ _ _ h=>h) (qAf (by rfl) 94 _ rfl g 0 rfl 96 _ (fun w hS=>G.out.later hS) (.slice n.a n.n n.c) rfl _ Tryz.underlying94 rfl) Ah ?_
 try simp only[Act.put,Aa,Ab,Ac,Ad,Ae,Af]
 refine tkQ 12 rfl (by kernel_rfl) (by rfl) (fun _ _=>by simp only[Aa,Ab,Ac];go_simp;try with_reducible rfl) Ah ?_ fun _ _ _ h=>h
 try simp only[Act.put,Aa,Ab,Ac,Ad,Ae,Af]
 refine tkQ 13 rfl (by kernel_rfl) (by rfl) (fun _ _=>by simp only[Aa,Ab,Ac];go_simp;try with_reducible rfl) Ah ?_ fun _ _ _ h=>h
 try simp only[Act.put,Aa,Ab,Ac,Ad,Ae,Af]
 refine tkQ 14 rfl (by kernel_rfl) (by rfl) (fun _ _=>by simp only[Aa,Ab,Ac];go_simp;try with_reducible rfl) Ah ?_ fun _ _ _ h=>h
 try simp only[Act.put,Aa,Ab,Ac,Ad,Ae,Af]
 refine tkH (i:=15) (v:=_) rfl (by kernel_rfl) (fun _ _ _ h=>h) (qAf (by rfl) 94 _ rfl g 0 rfl 96 _ (fun w hS=>G.out.later hS) (.slice n.a n.n n.c) rfl _ Tryz.underlying94 rfl) Ah ?_
 try simp only[Act.put,Aa,Ab,Ac,Ad,Ae,Af]
 refine wpAnyH_ready (rs:=[10]) (by kernel_rfl) (by simp) ?_
 refine AllReadyH.cons (i:=10) rfl (fun K hK=>?_) AllReadyH.nil
 rw[if_pos (by rfl)]
 simp only[Aa,Ab,Ac]
 go_simp
 refine(ARU.out _ (show Hid (RIt w7.drew n.v (m.spoke t).its)from IT.out.rit.stays c7)).mono ?_
 rintro e y1 ⟨rfl,d1⟩
 have c8:=qAa c7 d1
 refine hK.out _ _ (c8) (fun Ah=>?_)
 clear hK K
 try simp only[Act.put,Aa,Ab,Ac,Ad,Ae,Af]
 clear d1
 refine wpAnyH_ready (rs:=[11]) (by kernel_rfl) (by simp) ?_
 refine AllReadyH.cons (i:=11) rfl (fun K hK=>?_) AllReadyH.nil
 rw[if_pos (by rfl)]
 simp only[Aa,Ab,Ac]
 go_simp
 refine(MARK.out _ (show Hid (OwnI y1 0 sw.v t.ws)from OS.out.keep fun _ _ hk=>c8.block _ hk)).mono ?_
 rintro e y2 ⟨z,rfl,oz,d2⟩
 have c9:=qAa c8 d2
 refine hK.out _ _ (c9) (fun Ah=>?_)
 clear hK K
 try simp only[Act.put,Aa,Ab,Ac,Ad,Ae,Af]
 clear d2
 refine wpAnyH_ready (rs:=[16]) (by kernel_rfl) (by simp) ?_
 refine AllReadyH.cons (i:=16) rfl (fun K hK=>?_) AllReadyH.nil
 rw[if_pos (by rfl)]
 simp only[Aa,Ab,Ac]
 go_simp
 refine(lacksT_any t.c t.r NQ ML MD z n t.ws (m.spoke t).its _ (show Hid (RI y2 z.v t.ws)from oz.ri) (show Hid (RIt y2 n.v (m.spoke t).its)from IT.out.rit.stays c9) hl hpl).mono ?_
 rintro e w8 ⟨x,rfl,ox,d3⟩
 have c10:=qAa c9 d3
 refine hK.out _ _ (c10) (fun Ah=>?_)
 clear hK K
 try simp only[Act.put,Aa,Ab,Ac,Ad,Ae,Af]
 clear d3
 refine tkQ 17 rfl (by kernel_rfl) (by rfl) (fun _ _=>by simp only[Aa,Ab,Ac];go_simp;try with_reducible rfl) Ah ?_ fun _ _ _ h=>h
 try simp only[Act.put,Aa,Ab,Ac,Ad,Ae,Af]
 refine wpAnyH_done (by kernel_rfl) ?_ _
 obtain⟨TT,RM,RT,BW,SD,G,MS,IT⟩:=cy8 (TT.out.later c10) (RM.out.later c10) (RT.out.later c10) (qAa BW.out c10) (SD.out.below c10) (G.out.later c10) (ownL MS.out c10) (IT.out.below c10)
 obtain⟨LV,TX,OS,OF,NX,OX⟩:=cy6 (LV.out.below c10) (TX.out.below c10) (ownL OS.out c10) (OF.out.below c10) (NX.out.later c10) (ox.down (Nat.zero_le _))
 clear ox oz c7 c8 c9 c10 ARU MARK Ah
 clear OS
 refine qBj rfl rfl ?_
 refine wp_stB 30 _ _ rfl gn 0 rfl 30 _ NX.out (tX t.c t.r NQ ML MD x) rfl (by simp) Tryz.sizeT rfl (tX t.c t.r NQ ML MD x) rfl ?_
 intro w9 k9 t9
 have KK:KeepTy (fun X=>X=30) w8 w9:=KeepTy.ofTurn NX.out t9 rfl
 obtain⟨TT,RM,RT,BW,SD,G,MS,IT⟩:=cy8 (TT.out.turn t9 (by omega)) (RM.out.kt KK (by decide)) (RT.out.turn t9 (by omega)) (BW.out.trans (t9.below (by omega))) (SD.out.kt KK (by decide)) (G.out.kt KK (by decide)) (MS.out.kt KK (by decide)) (IT.out.kt KK (by decide))
 obtain⟨LV,TX,OF,OX⟩:=cy4 (LV.out.kt KK (by decide)) (TX.out.kt KK (by decide)) (OF.out.kt KK (by decide)) (OX.out.kt KK (by decide))
 clear KK
 have NX:=Ag k9
 clear k9 t9
 have hw1:IntKind.i64.wrap (t.r+1)=t.r+1:=by rw[IntKind.wrap_i64];omega
 have n1:=NX.out.cell 1
 go_wp2_with (first|(refine qBg 3 _ _ rfl ?_))
 refine Stp.go ?_
 refine qAe rfl 3 _ _ rfl gn 1 rfl 30 _ NX.out (.int .i64 (t.r+1)) rfl (by simp) rfl Tryz.size3 (tX t.c (t.r+1) NQ ML MD x) rfl ?_
 intro w10 k10 t10
 clear n1
 have KK:KeepTy (fun X=>X=30) w9 w10:=KeepTy.ofTurn NX.out t10 rfl
 obtain⟨TT,RM,RT,BW,SD,G,MS,IT⟩:=cy8 (TT.out.turn t10 (by omega)) (RM.out.kt KK (by decide)) (RT.out.turn t10 (by omega)) (BW.out.trans (t10.below (by omega))) (SD.out.kt KK (by decide)) (G.out.kt KK (by decide)) (MS.out.kt KK (by decide)) (IT.out.kt KK (by decide))
 obtain⟨LV,TX,OF,OX⟩:=cy4 (LV.out.kt KK (by decide)) (TX.out.kt KK (by decide)) (OF.out.kt KK (by decide)) (OX.out.kt KK (by decide))
 clear KK
 have NX:=Ag k10
 clear k10 t10 hw1
 have a1:=TT.out.cell 1
 go_wp2_with (first|(refine qBg 3 _ _ rfl ?_))
 refine Stp.go ?_
 refine qAe rfl 3 _ _ rfl g 7 rfl 96 _ G.out (.int .i64 t.r) rfl (by simp) rfl Tryz.size3 [.slice n.a n.n n.c,.int .i64 m.id,.int .i64 m.rid,.slice u.ms.a u.ms.n u.ms.c,.slice zSv.a zSv.n zSv.c,.slice lv.a lv.n lv.c,.slice tx.a tx.n tx.c,.int .i64 t.r,.int .i64 t.a,.int .i64 LI,.int .i64 m.he,.int .i64 m.la.c,.int .i64 m.la.r,.int .i64 m.la.q,.int .i64 m.la.a,.int .i64 m.la.b,.slice u.ws.a u.ws.n u.ws.c] rfl ?_
 intro w11 k11 t11
 clear a1
 have KK:KeepTy (fun X=>X=96) w10 w11:=KeepTy.ofTurn G.out t11 rfl
 obtain⟨TT,RM,RT,BW,SD,MS,IT,LV⟩:=cy8 (TT.out.kt KK (by decide)) (RM.out.kt KK (by decide)) (RT.out.kt KK (by decide)) (BW.out.trans (t11.below (by omega))) (SD.out.kt KK (by decide)) (MS.out.kt KK (by decide)) (IT.out.kt KK (by decide)) (LV.out.kt KK (by decide))
 obtain⟨TX,OF,NX,OX⟩:=cy4 (TX.out.kt KK (by decide)) (OF.out.kt KK (by decide)) (NX.out.kt KK (by decide)) (OX.out.kt KK (by decide))
 clear KK
 have G:=Ag k11
 clear k11 t11
 go_wp2_with (first|(refine qAb rfl 30 _ rfl gn 0 rfl 30 _ NX.out (tX t.c (t.r+1) NQ ML MD x) rfl _ Tryz.underlying30 rfl Tryz.sizeT ?_))
 refine(copyTok_s t.c (t.r+1) NQ ML MD x (qEf t.ws (m.spoke t).its NQ) _ OX (Nat.le_trans (qHp _ _ _) (by decide))).mono ?_
 have zw11:w.heap.size≤w11.heap.size:=BW.out.size
 rintro e w12 ⟨y,rfl,oy,b12⟩
 obtain⟨TT,RM,RT,BW,SD,G,MS,IT⟩:=cy8 (TT.out.later b12) (RM.out.later b12) (RT.out.later b12) (qAa BW.out b12) (SD.out.below b12) (G.out.later b12) (ownL MS.out b12) (IT.out.below b12)
 obtain⟨LV,TX,OF,NX,OX⟩:=cy5 (LV.out.below b12) (TX.out.below b12) (OF.out.below b12) (NX.out.later b12) (ownL OX.out b12)
 have OY:Hid (OwnI w12 w.heap.size (y.v) (qEf t.ws (m.spoke t).its NQ)):=oy.down zw11
 clear oy b12
 go_wp2_with (first|(refine qBg 30 _ _ rfl ?_))
 refine Stp.go ?_
 refine qCk rfl 30 _ _ rfl g 11 rfl 96 _ G.out (tX t.c (t.r+1) NQ ML MD y) rfl (by simp) Tryz.sizeT rfl [.slice n.a n.n n.c,.int .i64 m.id,.int .i64 m.rid,.slice u.ms.a u.ms.n u.ms.c,.slice zSv.a zSv.n zSv.c,.slice lv.a lv.n lv.c,.slice tx.a tx.n tx.c,.int .i64 t.r,.int .i64 t.a,.int .i64 LI,.int .i64 m.he,.int .i64 t.c,.int .i64 (t.r+1),.int .i64 NQ,.int .i64 ML,.int .i64 MD,.slice y.a y.n y.c] rfl ?_
 intro w13 k13 t13
 have KK:KeepTy (fun X=>X=96) w12 w13:=KeepTy.ofTurn G.out t13 rfl
 obtain⟨TT,RM,RT,BW,SD,MS,IT,LV⟩:=cy8 (TT.out.kt KK (by decide)) (RM.out.kt KK (by decide)) (RT.out.kt KK (by decide)) (BW.out.trans (t13.below (by omega))) (SD.out.kt KK (by decide)) (MS.out.kt KK (by decide)) (IT.out.kt KK (by decide)) (LV.out.kt KK (by decide))
 obtain⟨TX,OF,NX,OX,OY⟩:=cy5 (TX.out.kt KK (by decide)) (OF.out.kt KK (by decide)) (NX.out.kt KK (by decide)) (OX.out.kt KK (by decide)) (OY.out.kt KK (by decide))
 clear KK
 have G:=Ag k13
 clear k13 t13
 go_wp2_with fail
 have c13:Below w13.heap.size w13 w13.drew:=(Below.refl _ _).drew
 refine wp_region_held_drew (S:=fun w'=>Bx w' gn 30 (tX t.c (t.r+1) NQ ML MD x)) (by kernel_rfl) (NX.out.later c13) (fun Ah=>?_)
 refine tkQ 0 rfl (by kernel_rfl) (by rfl) (fun _ _=>by simp only[Aa,Ab,Ac];go_simp;try with_reducible rfl) Ah ?_ fun _ _ _ h=>h
 try simp only[Act.put,Aa,Ab,Ac,Ad,Ae,Af]
 refine tkQ 2 rfl (by kernel_rfl) (by rfl) (fun _ _=>by simp only[Aa,Ab,Ac];go_simp;try with_reducible rfl) Ah ?_ fun _ _ _ h=>h
 try simp only[Act.put,Aa,Ab,Ac,Ad,Ae,Af]
 refine tkQ 3 rfl (by kernel_rfl) (by rfl) (fun _ _=>by simp only[Aa,Ab,Ac];go_simp;try with_reducible rfl) Ah ?_ fun _ _ _ h=>h
 try simp only[Act.put,Aa,Ab,Ac,Ad,Ae,Af]
 refine tkH (i:=5) (v:=_) rfl (by kernel_rfl) (fun _ _ _ h=>h) (qBp (by rfl) 30 _ rfl gn 0 rfl 30 _ (fun w hS=>hS) (tX t.c (t.r+1) NQ ML MD x) rfl _ Tryz.underlying30 rfl Tryz.sizeT) Ah ?_
 try simp only[Act.put,Aa,Ab,Ac,Ad,Ae,Af]
 refine wpAnyH_ready (rs:=[1]) (by kernel_rfl) (by simp) ?_
 refine AllReadyH.cons (i:=1) rfl (fun K hK=>?_) AllReadyH.nil
 rw[if_pos (by rfl)]
 simp only[Aa,Ab,Ac]
 go_simp
 obtain⟨TT,RM,RT,BW,SD,G,MS,IT⟩:=cy8 (TT.out.later c13) (RM.out.later c13) (RT.out.later c13) (qAa BW.out c13) (SD.out.below c13) (G.out.later c13) (ownL MS.out c13) (IT.out.below c13)
 obtain⟨LV,TX,OF,NX,OX,OY⟩:=cy6 (LV.out.below c13) (TX.out.below c13) (OF.out.below c13) (NX.out.later c13) (ownL OX.out c13) (ownL OY.out c13)
 refine(mate_any (⟨m.id,m.rid,m.ms,(m.spoke t).its,(m.spoke t).lv,(m.spoke t).tx,t.r,t.a,LI,m.he,⟨t.c,t.r+1,NQ,ML,MD,qEf t.ws (m.spoke t).its NQ⟩⟩:Mt) (⟨u.ms,n,lv,tx,y⟩:Mv) zSv g _ (show Hid (MbB w13.drew g (⟨m.id,m.rid,m.ms,(m.spoke t).its,(m.spoke t).lv,(m.spoke t).tx,t.r,t.a,LI,m.he,⟨t.c,t.r+1,NQ,ML,MD,qEf t.ws (m.spoke t).its NQ⟩⟩:Mt) (⟨u.ms,n,lv,tx,y⟩:Mv) zSv)from G.out)).mono ?_
 rintro e w14 ⟨rfl,g14,k14⟩
 have KK:KeepTy (fun X=>X=96) w13.drew w14:=KeepTy.ofKeepBut G.out k14 rfl
 obtain⟨TT,RM,RT,BW,SD,MS,IT,LV⟩:=cy8 (TT.out.kt KK (by decide)) (RM.out.kt KK (by decide)) (RT.out.kt KK (by decide)) (BW.out.trans (qGk k14 (by omega) BW.out.size)) (SD.out.kt KK (by decide)) (MS.out.kt KK (by decide)) (IT.out.kt KK (by decide)) (LV.out.kt KK (by decide))
 obtain⟨TX,OF,NX,OX,OY⟩:=cy5 (TX.out.kt KK (by decide)) (OF.out.kt KK (by decide)) (NX.out.kt KK (by decide)) (OX.out.kt KK (by decide)) (OY.out.kt KK (by decide))
 clear KK
 refine hK.out _ _ (NX.out) (fun Ah=>?_)
 clear hK K
 try simp only[Act.put,Aa,Ab,Ac,Ad,Ae,Af]
 clear g14 k14 c13
 refine wpAnyH_ready (rs:=[4]) (by kernel_rfl) (by simp) ?_
 refine AllReadyH.cons (i:=4) rfl (fun K hK=>?_) AllReadyH.nil
 rw[if_pos (by rfl)]
 simp only[Aa,Ab,Ac]
 have hsf:(qBf t.ws m.its).length+(qBa m t).length≤2097152:=by have:=qKq t.c t.r t.q t.a t.b t.ws m.id m.lv m.tx;unfold qBa;omega
 refine qAz _ _ 27 rfl Tryz.underlying27 0 (.slice sd.a sd.n sd.c) (qBf t.ws m.its) (by rfl) SD.out (.slice fr.a fr.n fr.c) (qBa m t) (by rfl) OF.out.rit hsf (Nat.zero_le _) ?_
 intro vv w15 ov gv _
 obtain⟨fs,rfl⟩:=SlI.sv ov
 have KK:KeepTy (fun X=>X=41) w14 w15:=KeepTy.ofGrown gv (fun k hk=>by obtain⟨cs,hc⟩:=qAp SD.out hk;exact⟨cs,_,_,hc,rfl⟩)
 have IT:Hid (SlI w15 w.heap.size (n.v) ((m.spoke t).its)):=IT.out.keep fun k hk hlt=>gv.block k hlt (fun e=>APN.out k e.symm hk)
 obtain⟨TT,RM,RT⟩:=cy3 (TT.out.kt KK (by decide)) (RM.out.kt KK (by decide)) (RT.out.kt KK (by decide))
 have BW:Hid (Below w.heap.size w w15):=BW.out.trans (qDc gv (fun k hk=>by have:=zsdw.out k hk;omega) BW.out.size)
 obtain⟨MS,LV,TX,NX,OX,OY,FSL⟩:=cy7 (MS.out.kt KK (by decide)) (LV.out.kt KK (by decide)) (TX.out.kt KK (by decide)) (NX.out.kt KK (by decide)) (OX.out.kt KK (by decide)) (OY.out.kt KK (by decide)) ov
 refine hK.out _ _ (NX.out) (fun Ah=>?_)
 clear hK K
 try simp only[Act.put,Aa,Ab,Ac,Ad,Ae,Af]
 clear ov gv KK
 refine wpAnyH_ready (rs:=[6]) (by kernel_rfl) (by simp) ?_
 refine AllReadyH.cons (i:=6) rfl (fun K hK=>?_) AllReadyH.nil
 rw[if_pos (by rfl)]
 simp only[Aa,Ab,Ac]
 refine qAm 32 _ _ rfl (w.heap.size+2) (by rfl) 32 _ RM.out (mX m.id m.rid u.ms n lv tx t.r t.a LI m.he t.c (t.r+1) NQ ML MD y) (by rfl) rfl Tryz.sizeM rfl ?_
 intro w16 k16 t16
 have KK:KeepTy (fun X=>X=32) w15 w16:=KeepTy.ofTurn RM.out t16 rfl
 obtain⟨TT,RT,BW,MS,IT,LV,TX,NX⟩:=cy8 (TT.out.kt KK (by decide)) (RT.out.kt KK (by decide)) (BW.out.trans (t16.below (by omega))) (MS.out.kt KK (by decide)) (IT.out.kt KK (by decide)) (LV.out.kt KK (by decide)) (TX.out.kt KK (by decide)) (NX.out.kt KK (by decide))
 obtain⟨OX,OY,FSL⟩:=cy3 (OX.out.kt KK (by decide)) (OY.out.kt KK (by decide)) (FSL.out.kt KK (by decide))
 clear KK
 have RM:=Ag k16
 refine hK.out _ _ (NX.out) (fun Ah=>?_)
 clear hK K
 try simp only[Act.put,Aa,Ab,Ac,Ad,Ae,Af]
 clear k16 t16
 refine tkQ 7 rfl (by kernel_rfl) (by rfl) (fun _ _=>by simp only[Aa,Ab,Ac];go_simp;try with_reducible rfl) Ah ?_ fun _ _ _ h=>h
 try simp only[Act.put,Aa,Ab,Ac,Ad,Ae,Af]
 refine wpAnyH_ready (rs:=[8]) (by kernel_rfl) (by simp) ?_
 refine AllReadyH.cons (i:=8) rfl (fun K hK=>?_) AllReadyH.nil
 rw[if_pos (by rfl)]
 simp only[Aa,Ab,Ac]
 refine qAm 30 _ _ rfl (w.heap.size+3) (by rfl) 30 _ RT.out (tX t.c (t.r+1) NQ ML MD x) (by rfl) rfl Tryz.sizeT rfl ?_
 intro w17 k17 t17
 have KK:KeepTy (fun X=>X=30) w16 w17:=KeepTy.ofTurn RT.out t17 rfl
 obtain⟨TT,RM,BW,MS,IT,LV,TX,NX⟩:=cy8 (TT.out.turn t17 (by omega)) (RM.out.kt KK (by decide)) (BW.out.trans (t17.below (by omega))) (MS.out.kt KK (by decide)) (IT.out.kt KK (by decide)) (LV.out.kt KK (by decide)) (TX.out.kt KK (by decide)) (NX.out.turn t17 (by omega))
 obtain⟨OX,OY,FSL⟩:=cy3 (OX.out.kt KK (by decide)) (OY.out.kt KK (by decide)) (FSL.out.kt KK (by decide))
 clear KK
 have RT:=Ag k17
 refine hK.out _ _ (NX.out) (fun Ah=>?_)
 clear hK K
 try simp only[Act.put,Aa,Ab,Ac,Ad,Ae,Af]
 clear k17 t17
 refine tkQ 9 rfl (by kernel_rfl) (by rfl) (fun _ _=>by simp only[Aa,Ab,Ac];go_simp;try with_reducible rfl) Ah ?_ fun _ _ _ h=>h
 try simp only[Act.put,Aa,Ab,Ac,Ad,Ae,Af]
 refine wpAnyH_done (by kernel_rfl) ?_ _
 go_wp2_with fail
 refine bodyPost_ret (qBw Tryz.results11 (w.heap.size+2) 32 (mX m.id m.rid u.ms n lv tx t.r t.a LI m.he t.c (t.r+1) NQ ML MD y) _ rfl RM.out Tryz.underlying32 rfl Tryz.sizeM (w.heap.size+3) 30 (tX t.c (t.r+1) NQ ML MD x) _ rfl RT.out Tryz.underlying30 rfl Tryz.sizeT) rfl ?_
 have hNX:qCd m t=⟨t.c,t.r+1,NQ,ML,MD,qEf t.ws (m.spoke t).its NQ⟩:=by unfold qCd;rw[←HNQ.out,←HNA.out,←HAR.out,←HML.out,←HMD.out]
 have hHE:m.held t=⟨m.id,m.rid,m.ms,(m.spoke t).its,(m.spoke t).lv,(m.spoke t).tx,t.r,t.a,LI,m.he,⟨t.c,t.r+1,NQ,ML,MD,qEf t.ws (m.spoke t).its NQ⟩⟩:=by unfold Mt.held;rw[hNX,←HLI.out]
 refine⟨⟨u.ms,n,lv,tx,y⟩,fs,x,?_,?_,?_,?_,BW.out⟩
 ·rw[hHE,hNX];rfl
 ·rw[hHE];exact⟨MS.out,IT.out,LV.out,TX.out,OY.out⟩
 ·exact FSL.out
 ·rw[hNX];exact OX.out
def itF(d:Int):Int→List ByteArray→List It
 |_,[]=>[]
 |q,x::xs=>(q+1,d,1,x)::itF d (q+1) xs
theorem qJu(d:Int): ∀(xs ys:List ByteArray) (q:Int),itF d q (xs++ys)=itF d q xs++itF d (q+(xs.length:Int)) ys
 | [],ys,q=>by simp[itF]
 |x::xs,ys,q=>by
  rw[List.cons_append,itF,itF,qJu d xs ys,List.cons_append,List.length_cons]
  congr 2
  congr 1
  omega
theorem itF_mem(d:Int): ∀(xs:List ByteArray) (q:Int) (y:It),y∈itF d q xs→q<y.1∧y.1≤q+(xs.length:Int)∧y.2.1=d∧y.2.2.1=1∧y.2.2.2∈xs
 | [],q,y,h=>by cases h
 |x::xs,q,y,h=>by
  rw[itF]at h
  rcases List.mem_cons.1 h with rfl|h
  ·exact⟨by show q<q+1;omega,by show q+1≤_;rw[List.length_cons];omega,rfl,rfl,List.mem_cons_self ..⟩
  ·obtain⟨h1,h2,h3,h4,h5⟩:=itF_mem d xs (q+1) y h
   exact⟨by omega,by rw[List.length_cons];omega,h3,h4,List.mem_cons_of_mem _ h5⟩
theorem ins1_end{ts:List It}{y:It}(h: ∀x∈ts,x.1<y.1):ins1 ts y=ts++[y]:=by
 unfold ins1
 rw[if_neg (by rw[qDy.2 fun x hx he=>by have:=h x hx;omega];simp),List.filter_eq_self.2 fun x hx=>by simpa using h x hx]
 congr 1
 rw[List.filter_eq_nil_iff.2 fun x hx=>by have:=h x hx;simp;omega]
theorem qJm(d:Int): ∀(ys xs:List ByteArray),qBc (itF d 0 xs) (itF d (xs.length:Int) ys)=itF d 0 (xs++ys)
 | [],xs=>by simp[itF,qBc]
 |y::ys,xs=>by
  have h1:ins1 (itF d 0 xs) ((xs.length:Int)+1,d,1,y)=itF d 0 (xs++[y]):=by
   rw[ins1_end fun x hx=>by have:=(itF_mem d xs 0 x hx).2.1;show x.1<(xs.length:Int)+1;omega,qJu]
   simp[itF]
  have h2:=qJm d ys (xs++[y])
  rw[itF]
  unfold qBc at h2⊢
  rw[List.foldl_cons,h1]
  rw[List.append_assoc]at h2
  simp only[List.length_append,List.length_cons,List.length_nil,List.cons_append,List.nil_append]at h2
  rw[show((xs.length+(0+1):Nat):Int)=(xs.length:Int)+1 by omega]at h2
  exact h2
theorem lvP_one{lv:List Int}(h: ∀l∈lv,l=1)(k:Nat):lvP lv k=1:=by
 unfold lvP
 rw[if_neg]
 intro e
 have:=h 2 (List.mem_of_getElem? e)
 omega
theorem numGo_itF{d:Int}{lv:List Int}(hlv: ∀l∈lv,l=1): ∀(ts:List ByteArray) (q:Int) (k:Nat),k≤3→(∀t∈ts,t.size≤60)→q+3≤60+(k:Int)→qBx d lv q k ts=itF d q (ts.take (3 - k))
 | [],q,k,_,_,_=>by rw[qDt (by simp)];simp[itF]
 |t::ts,q,k,hk,hs,hq=>by
  by_cases h3:k<3
  ·rw[qDu ⟨h3,by omega,hs t (List.mem_cons_self ..)⟩,lvP_one hlv,numGo_itF hlv ts (q+1) (k+1) (by omega) (fun x hx=>hs x (List.mem_cons_of_mem _ hx)) (by omega),show 3 - k=(3 - (k+1))+1 by omega,List.take_succ_cons,itF]
  ·rw[qDt (by intro x hx;omega),show 3 - k=0 by omega];simp[itF]
theorem qHa: ∀(ms:List Int) (l q x:Int),wGo l q ms=true→x∈ms→l<x∧x≤q
 | [],l,q,x,_,h=>by cases h
 |y::ms,l,q,x,h,hx=>by
  rw[wGo]at h
  split at h
  ·cases h
  ·rcases List.mem_cons.1 hx with rfl|hx
   ·omega
   ·have:=qHa ms y q x h hx;omega
theorem qAq{i:Int}{ms:List Int}(h:qAy i ms=true):(1≤i∧i≤9)∧0<ms.length∧(∀d∈ms,1≤d∧d≤5)∧ms.length≤5:=by
 unfold qAy at h
 simp only[Bool.and_eq_true,decide_eq_true_eq]at h
 refine⟨h.1,h.2.1,fun d hd=>?_,?_⟩
 ·have:=qHa ms 0 5 d h.2.2 hd;omega
 ·have:=wGo_len ms 0 h.2.2 (by omega);omega
structure SI (d i:Int) (ms:List Int) (xs:List ByteArray) (j:Nat) (m:Mt) (t:Tok):Prop where
 id:m.id=d
 rid:m.rid=i
 ms:m.ms=ms
 its:m.its=itF d 0 (xs.take (3 * j))
 lv:m.lv=List.replicate (xs.length - 3 * j) 1
 tx:m.tx=xs.drop (3 * j)
 rd:m.rd=(j:Int)
 se:0≤m.se∧m.se≤60
 li:0≤m.li∧m.li≤((xs.take (3 * j)).length:Int)
 he:m.he=0
 la:(ntB m.la.c m.la.r m.la.q m.la.a m.la.b m.la.ws||tkB m.la.c m.la.r m.la.q m.la.a m.la.b m.la.ws)=true
 t:t=⟨i,(j:Int)+1,((xs.take (3 * j)).length:Int),((xs.take (3 * j)).length:Int),0,[]⟩
 las:m.la.ws=[]
structure SH (d i:Int) (ms:List Int) (xs:List ByteArray):Prop where
 ring:qAy i ms=true
 mem:d∈ms
 len:xs.length≤9
 sz: ∀t∈xs,t.size≤60
section
variable {d i : Int} {ms : List Int} {xs : List ByteArray} {j : Nat} {m : Mt} {t : Tok}
theorem SH.tk(h:SH d i ms xs)(hj:j≤4):tkB i ((j:Int)+1) ((xs.take (3 * j)).length:Int) ((xs.take (3 * j)).length:Int) 0 []=true:=by
 have h1:=(qAq h.ring).1
 have h2:=h.len
 have h3:(xs.take (3 * j)).length≤9:=by rw[List.length_take];omega
 unfold tkB wB
 simp only[Bool.and_eq_true,decide_eq_true_eq]
 exact⟨h1,by omega,by omega,by omega,by omega,by simp,rfl⟩
theorem SI.fresh(s:SI d i ms xs j m t)(h:SH d i ms xs)(hj:j≤4):qBa m t=itF d ((xs.take (3 * j)).length:Int) ((xs.drop (3 * j)).take 3):=by
 have hd:=(qAq h.ring).2.2.1 d h.mem
 have h2:=h.len
 have h3:(xs.take (3 * j)).length≤9:=by rw[List.length_take];omega
 unfold qBa numL qEw
 rw[s.t,s.id,s.lv,s.tx]
 rw[h.tk hj,decide_eq_true hd]
 simp only[Bool.and_self,if_true]
 exact numGo_itF (fun l hl=>(List.mem_replicate.1 hl).2) _ _ 0 (by omega) (fun t ht=>h.sz t (List.mem_of_mem_drop ht)) (by omega)
theorem take_three(xs:List ByteArray)(j:Nat):xs.take (3 * j)++(xs.drop (3 * j)).take 3=xs.take (3 * (j+1)):=by
 rw[show 3 * (j+1)=3 * j+3 by omega,List.take_add]
theorem SI.items(s:SI d i ms xs j m t)(h:SH d i ms xs)(hj:j≤4):(m.spoke t).its=itF d 0 (xs.take (3 * (j+1))):=by
 show qBc m.its (qBa m t)=_
 rw[s.fresh h hj,s.its,qJm,take_three]
end
def sIts(m:Mt)(t:Tok):List It:=(qBa m t).foldl putP m.its
def sTok(m:Mt)(t:Tok):Tok:=⟨t.c,t.r+1,nxQ m t,qEy t.c t.r (nxQ m t) (nxA m t) t.b t.ws m.id (aruP (sIts m t):Nat),qEx t.c t.r (nxQ m t) (nxA m t) t.b t.ws m.id (aruP (sIts m t):Nat),qEj t.ws (sIts m t) (nxQ m t)⟩
def Mt.sheld(m:Mt)(t:Tok):Mt:=⟨m.id,m.rid,m.ms,sIts m t,m.lv.drop (qBa m t).length,m.tx.drop (qBa m t).length,t.r,t.a,qBs m.li m.se (aruP (sIts m t)) t.a,m.he,sTok m t⟩
theorem qFv(m:Mt)(t:Tok):(qBa m t).length≤3:=qKq _ _ _ _ _ _ _ _ _
theorem numGo_le{f:Int}{lv:List Int}: ∀(ts:List ByteArray) (q:Int) (k:Nat),(qBx f lv q k ts).length≤ts.length
 | [],q,k=>by rw[qDt (by simp)];simp
 |t::ts,q,k=>by
  by_cases h:k<3∧q<60∧t.size≤60
  ·rw[qDu h];have:=numGo_le (f:=f) (lv:=lv) ts (q+1) (k+1);simp;omega
  ·rw[qDt (by simpa using h)];simp
theorem fresh_le(m:Mt)(t:Tok):(qBa m t).length≤m.tx.length:=by
 unfold qBa numL
 split
 ·exact numGo_le _ _ _
 ·simp
theorem qFf: ∀(L ts:List It),(L.foldl putP ts).length≤ts.length+L.length
 | [],ts=>by simp
 |y::L,ts=>by have h1:=qFf L (putP ts y);have h2:=putP_len ts y;rw[List.foldl_cons,List.length_cons];omega
theorem sIts_len(m:Mt)(t:Tok):(sIts m t).length≤m.its.length+3:=by have:=qFf (qBa m t) m.its;have:=qFv m t;unfold sIts;omega
theorem foldl_step{L:List It}{k:Nat}(hk:k<L.length)(ts:List It):(L.take (k+1)).foldl putP ts=putP ((L.take k).foldl putP ts) L[k]:=by
 rw[List.take_succ_eq_append_getElem hk,List.foldl_append];rfl
theorem spGive_s(t:Tok)(s u:Sv)(its:List It)(w:World)(hy:Hid (RI w s.v t.ws))(hx:Hid (RIt w u.v its))(hl:its.length≤1048576)(hw:t.ws.length≤1048576):
  Calls Tryz.prog 64 #[.agg #[.int .i64 t.c,.int .i64 t.r,.int .i64 t.q,.int .i64 t.a,.int .i64 t.b,.slice s.a s.n s.c],.slice u.a u.n u.c] w fun e w'=>∃v:Sv,e=.returned (.slice v.a v.n v.c)∧SlI w' w.heap.size v.v (qBf t.ws its)∧Below w.heap.size w w':=by
 obtain⟨aw,cw,e1,x1⟩:=hy.out
 obtain⟨ao,cap,e2,x2⟩:=hx.out
 have h:=spGive_any t.c t.r t.q t.a t.b aw cw t.ws ao cap its w x1 x2 hl hw
 rw[←e1,←e2]at h
 refine h.mono ?_
 rintro e w' ⟨v,rfl,o,b⟩
 obtain⟨z,rfl⟩:=o.sv
 exact⟨z,rfl,o,b⟩
theorem spMark_s(c r q a y d u A D:Int)(s:Sv)(ws:List Int)(w:World)(h:Hid (OwnI w 0 s.v ws))(hl:ws.length≤1048576)(hA:Hid (A=qEy c r q a y ws d u))(hD:Hid (D=qEx c r q a y ws d u)):
  Calls Tryz.prog 67 #[.agg #[.int .i64 c,.int .i64 r,.int .i64 q,.int .i64 a,.int .i64 y,.slice s.a s.n s.c],.int .i64 d,.int .i64 u] w fun e w'=>∃z:Sv,e=.returned (.agg #[.int .i64 c,.int .i64 r,.int .i64 q,.int .i64 A,.int .i64 D,.slice z.a z.n z.c])∧OwnI w' w.heap.size z.v ws∧Below w.heap.size w w':=by
 refine(spMark_any c r q a y d u s.v ws 0 w h hl).mono ?_
 rintro e w' ⟨v,rfl,o,b⟩
 obtain⟨z,rfl⟩:=o.sv
 rw[←hA.out,←hD.out]
 exact⟨z,rfl,o,b⟩
theorem spNumber_s(t:Tok)(f Q A:Int)(s l x:Sv)(lv:List Int)(tx:List ByteArray)(w:World)(h:Hid (OwnI w 0 s.v t.ws))(hl:t.ws.length≤1048576)(hlv:Hid (RI w l.v lv))(hll:lv.length≤1048576)(htx:Hid (RT w x.v tx))(hlt:tx.length≤1048576)(hQ:Hid (Q=numQ t.c t.r t.q t.a t.b t.ws f lv tx))(hA:Hid (A=numA t.c t.r t.q t.a t.b t.ws f lv tx)):
  Calls Tryz.prog 65 #[.agg #[.int .i64 t.c,.int .i64 t.r,.int .i64 t.q,.int .i64 t.a,.int .i64 t.b,.slice s.a s.n s.c],.int .i64 f,.slice l.a l.n l.c,.slice x.a x.n x.c] w fun e w'=>∃(z fr:Sv),e=.returned (.tuple #[.agg #[.int .i64 t.c,.int .i64 t.r,.int .i64 Q,.int .i64 A,.int .i64 t.b,.slice z.a z.n z.c],.slice fr.a fr.n fr.c])∧OwnI w' w.heap.size z.v t.ws∧SlI w' w.heap.size fr.v (numL t.c t.r t.q t.a t.b t.ws f lv tx)∧Below w.heap.size w w':=by
 obtain⟨al,cl,e1,x1⟩:=hlv.out
 obtain⟨at_,ct,e2,x2⟩:=htx.out
 have h:=spNumber_any t.c t.r t.q t.a t.b f s.v t.ws 0 al cl lv at_ ct tx w h hl x1 hll x2 hlt
 rw[←e1,←e2]at h
 refine h.mono ?_
 rintro e w' ⟨v,vi,rfl,o,oi,b⟩
 obtain⟨z,rfl⟩:=o.sv
 obtain⟨fr,rfl⟩:=oi.sv
 rw[←hQ.out,←hA.out]
 exact⟨z,fr,rfl,o,oi,b⟩
theorem qJg(m:Mt)(v:Mv)(t:Tok)(s:Sv)(w:World)(h:Hid (MtP w m v))(hs:Hid (OwnI w 0 s.v t.ws))(hl:t.ws.length≤1048576)(hsz:Hid (MtS m))(hok:Hid (m.ok=true))(hmay:Hid (mayB m t=true)):
  Calls Tryz.prog 12 #[.agg #[.int .i64 m.id,.int .i64 m.rid,.slice v.ms.a v.ms.n v.ms.c,.slice v.its.a v.its.n v.its.c,.slice v.lv.a v.lv.n v.lv.c,.slice v.tx.a v.tx.n v.tx.c,.int .i64 m.rd,.int .i64 m.se,.int .i64 m.li,.int .i64 m.he,.int .i64 m.la.c,.int .i64 m.la.r,.int .i64 m.la.q,.int .i64 m.la.a,.int .i64 m.la.b,.slice v.ws.a v.ws.n v.ws.c],.agg #[.int .i64 t.c,.int .i64 t.r,.int .i64 t.q,.int .i64 t.a,.int .i64 t.b,.slice s.a s.n s.c]] w fun e w'=>∃(u:Mv) (fs sn:Sv),e=.returned (.tuple #[.agg #[.int .i64 ((m.sheld t).id),.int .i64 ((m.sheld t).rid),.slice u.ms.a u.ms.n u.ms.c,.slice u.its.a u.its.n u.its.c,.slice u.lv.a u.lv.n u.lv.c,.slice u.tx.a u.tx.n u.tx.c,.int .i64 ((m.sheld t).rd),.int .i64 ((m.sheld t).se),.int .i64 ((m.sheld t).li),.int .i64 ((m.sheld t).he),.int .i64 ((m.sheld t).la.c),.int .i64 ((m.sheld t).la.r),.int .i64 ((m.sheld t).la.q),.int .i64 ((m.sheld t).la.a),.int .i64 ((m.sheld t).la.b),.slice u.ws.a u.ws.n u.ws.c],.slice fs.a fs.n fs.c,.agg #[.int .i64 (sTok m t).c,.int .i64 (sTok m t).r,.int .i64 (sTok m t).q,.int .i64 (sTok m t).a,.int .i64 (sTok m t).b,.slice sn.a sn.n sn.c],.bool true])∧MtP w' (m.sheld t) u∧SlI w' 0 fs.v (qDd m t)∧OwnI w' 0 sn.v (sTok m t).ws∧Below w.heap.size w w':=by
 obtain⟨_,_,hIg,hSy,hRd,_,_,_,_⟩:=qAs hok.out
 have hmy:=hmay.out
 unfold mayB at hmy
 simp only[Bool.and_eq_true,decide_eq_true_eq]at hmy
 obtain⟨htk,hcr,hr1,hr2⟩:=hmy
 have HTK:Hid (tkB t.c t.r t.q t.a t.b t.ws=true):=htk
 have q1:(t.c==m.rid)=true:=by simpa using hcr
 have q4:(t.c !=m.rid)=false:=by simpa using hcr
 have q2:decide (t.r≤m.rd)=false:=by simp;omega
 have q3:decide (1000000000≤t.r)=false:=by simp;omega
 have hIl:m.its.length≤60:=qCt hIg
 have hLT:m.lv.length=m.tx.length∧m.tx.length≤20:=by unfold sayB at hSy;simp only[Bool.and_eq_true,decide_eq_true_eq]at hSy;exact⟨hSy.2.1,hSy.1⟩
 have HLT:Hid (m.lv.length=m.tx.length∧m.tx.length≤20):=hLT
 clear htk hcr hIg hSy hLT
 obtain⟨NQ,hNQ⟩: ∃x,x=nxQ m t:=⟨_,rfl⟩
 have HNQ:Hid (NQ=nxQ m t):=hNQ
 obtain⟨NA,hNA⟩: ∃x,x=nxA m t:=⟨_,rfl⟩
 have HNA:Hid (NA=nxA m t):=hNA
 clear hNQ hNA
 obtain⟨L,hL⟩: ∃x,x=qBa m t:=⟨_,rfl⟩
 have HL:Hid (L=qBa m t):=hL
 have hL3:L.length≤3:=by rw[hL];exact qFv m t
 have hLx:L.length≤m.tx.length:=by rw[hL];exact fresh_le m t
 clear hL
 have HSI:Hid (sIts m t=L.foldl putP m.its):=(by rw[HL.out];rfl:_=_)
 obtain⟨IS,hIS⟩: ∃x,x=sIts m t:=⟨_,rfl⟩
 have HIS:Hid (IS=sIts m t):=hIS
 have hISl:IS.length≤1048576:=by have:=sIts_len m t;rw[hIS];omega
 rw[←hIS]at HSI
 clear hIS
 obtain⟨AR,hAR⟩: ∃x:Nat,x=aruP IS:=⟨_,rfl⟩
 have HAR:Hid (AR=aruP IS):=hAR
 clear hAR
 obtain⟨ML,hML⟩: ∃x,x=qEy t.c t.r NQ NA t.b t.ws m.id ((AR:Nat):Int):=⟨_,rfl⟩
 have HML:Hid (ML=qEy t.c t.r NQ NA t.b t.ws m.id ((AR:Nat):Int)):=hML
 obtain⟨MD,hMD⟩: ∃x,x=qEx t.c t.r NQ NA t.b t.ws m.id ((AR:Nat):Int):=⟨_,rfl⟩
 have HMD:Hid (MD=qEx t.c t.r NQ NA t.b t.ws m.id ((AR:Nat):Int)):=hMD
 clear hML hMD
 obtain⟨MA,TK,RM,RZT,BW⟩:=en4 w 32 [.int .i64 m.id,.int .i64 m.rid,.slice v.ms.a v.ms.n v.ms.c,.slice v.its.a v.its.n v.its.c,.slice v.lv.a v.lv.n v.lv.c,.slice v.tx.a v.tx.n v.tx.c,.int .i64 m.rd,.int .i64 m.se,.int .i64 m.li,.int .i64 m.he,.int .i64 m.la.c,.int .i64 m.la.r,.int .i64 m.la.q,.int .i64 m.la.a,.int .i64 m.la.b,.slice v.ws.a v.ws.n v.ws.c] 30 [.int .i64 t.c,.int .i64 t.r,.int .i64 t.q,.int .i64 t.a,.int .i64 t.b,.slice s.a s.n s.c] 32 [.int .i64 0,.int .i64 0,.slice none 0 0,.slice none 0 0,.slice none 0 0,.slice none 0 0,.int .i64 0,.int .i64 0,.int .i64 0,.int .i64 0,.int .i64 0,.int .i64 0,.int .i64 0,.int .i64 0,.int .i64 0,.slice none 0 0] 30 [.int .i64 0,.int .i64 0,.int .i64 0,.int .i64 0,.int .i64 0,.slice none 0 0]
 obtain⟨QM,SW⟩:=cy2 (h.out.later BW.out) (ownL hs.out BW.out)
 clear h hs
 go_enter Tryz.func12,Tryz.ntmps12
 go_wp2_with (first|(refine qAb rfl 32 _ rfl w.heap.size 0 rfl 32 _ MA.out (mC m v) rfl _ Tryz.underlying32 rfl Tryz.sizeM ?_))
 generalize ((((w.alloc (.cells #[.int .i64 m.id,.int .i64 m.rid,.slice v.ms.a v.ms.n v.ms.c,.slice v.its.a v.its.n v.its.c,.slice v.lv.a v.lv.n v.lv.c,.slice v.tx.a v.tx.n v.tx.c,.int .i64 m.rd,.int .i64 m.se,.int .i64 m.li,.int .i64 m.he,.int .i64 m.la.c,.int .i64 m.la.r,.int .i64 m.la.q,.int .i64 m.la.a,.int .i64 m.la.b,.slice v.ws.a v.ws.n v.ws.c] 32)).alloc (.cells #[.int .i64 t.c,.int .i64 t.r,.int .i64 t.q,.int .i64 t.a,.int .i64 t.b,.slice s.a s.n s.c] 30)).alloc (.cells #[.int .i64 0,.int .i64 0,.slice none 0 0,.slice none 0 0,.slice none 0 0,.slice none 0 0,.int .i64 0,.int .i64 0,.int .i64 0,.int .i64 0,.int .i64 0,.int .i64 0,.int .i64 0,.int .i64 0,.int .i64 0,.slice none 0 0] 32)).alloc (.cells #[.int .i64 0,.int .i64 0,.int .i64 0,.int .i64 0,.int .i64 0,.slice none 0 0] 30))=W at *
 have zW:w.heap.size+3<W.heap.size:=RZT.out.lt
 refine(qCm m v _ QM hsz).mono ?_
 rintro e w1 ⟨u,rfl,o1,b⟩
 have z_w1:=b.size
 obtain⟨MA,TK,RM,RZT,BW,QM,SW⟩:=cy7 (MA.out.later b) (TK.out.later b) (RM.out.later b) (RZT.out.later b) (qAa BW.out b) (QM.out.later b) (ownL SW.out b)
 clear b
 have MS:Hid (OwnI w1 W.heap.size (u.ms.v) (m.ms)):=o1.ms
 have IT:Hid (SlI w1 W.heap.size (u.its.v) (m.its)):=o1.its
 have LV:Hid (OwnI w1 W.heap.size (u.lv.v) (m.lv)):=o1.lv
 have TX:Hid (OwnS w1 W.heap.size (u.tx.v) (m.tx)):=o1.tx
 clear o1
 have hz:=Ag (Bx.new w1 32 [.int .i64 0,.int .i64 0,.slice none 0 0,.slice none 0 0,.slice none 0 0,.slice none 0 0,.int .i64 0,.int .i64 0,.int .i64 0,.int .i64 0,.int .i64 0,.int .i64 0,.int .i64 0,.int .i64 0,.int .i64 0,.slice none 0 0])
 go_wp2_with (first|(refine qAd rfl 32 _ _ rfl w1.heap.size rfl 32 _ hz.out [.int .i64 m.id,.int .i64 m.rid,.slice u.ms.a u.ms.n u.ms.c,.slice u.its.a u.its.n u.its.c,.slice u.lv.a u.lv.n u.lv.c,.slice u.tx.a u.tx.n u.tx.c,.int .i64 m.rd,.int .i64 m.se,.int .i64 m.li,.int .i64 m.he,.int .i64 m.la.c,.int .i64 m.la.r,.int .i64 m.la.q,.int .i64 m.la.a,.int .i64 m.la.b,.slice u.ws.a u.ws.n u.ws.c] rfl rfl Tryz.sizeM rfl ?_;intro w2 OB TB;have b:Below w1.heap.size w1 w2:=((Below.refl _ _).alloc (Nat.le_refl _) _).trans (TB.below (Nat.le_refl _));have G:=Ag OB;have z_w2:=b.size;have MA:=Ag (MA.out.later b);have TK:=Ag (TK.out.later b);have RM:=Ag (RM.out.later b);have RZT:=Ag (RZT.out.later b);have BW:=Ag (qAa BW.out b);have QM:=Ag (QM.out.later b);have SW:=Ag (ownL SW.out b);have MS:=Ag (ownL MS.out b);have IT:=Ag (IT.out.below b);have LV:=Ag (ownL LV.out b);have TX:=Ag (ownT TX.out b);clear OB TB b;refine Stp.here ?_))
 refine Stp.go ?_
 clear hz
 have zl_G:=G.out.lt
 generalize hg_G:w1.heap.size=g at *
 clear hg_G
 have ZIT:Hid (∀n,u.its.v.ownBlock=some n→n<w2.heap.size):=fun n hn=>(IT.out.lt n hn).2
 have b:=bA w2 (.cells #[] 41)
 obtain⟨MA,TK,RM,RZT,BW,QM,SW,MS⟩:=cy8 (MA.out.later b) (TK.out.later b) (RM.out.later b) (RZT.out.later b) (qAa BW.out b) (QM.out.later b) (ownL SW.out b) (ownL MS.out b)
 obtain⟨IT,LV,TX,G⟩:=cy4 (IT.out.below b) (ownL LV.out b) (ownT TX.out b) (G.out.later b)
 clear b
 have SD:Hid (SlI (w2.alloc (.cells #[] 41)) w2.heap.size (.slice (some ⟨w2.heap.size,0,none⟩) 0 0) ([])):=SlI.made w2 w2.heap.size (Nat.le_refl _)
 go_wp2_with (first|(refine qAb rfl 32 _ rfl w.heap.size 0 rfl 32 _ MA.out (mC m v) rfl _ Tryz.underlying32 rfl Tryz.sizeM ?_))
 have zS0:(w2.alloc (.cells #[] 41)).heap.size=w2.heap.size+1:=by simp
 generalize (w2.alloc (.cells #[] 41))=w3 at *
 refine(qCg m v _ QM.out.r hsz).mono ?_
 rintro e w4 ⟨rfl,b⟩
 have z_w4:=b.size
 obtain⟨MA,TK,RM,RZT,BW,QM,SW,MS⟩:=cy8 (MA.out.later b) (TK.out.later b) (RM.out.later b) (RZT.out.later b) (qAa BW.out b) (QM.out.later b) (ownL SW.out b) (ownL MS.out b)
 obtain⟨IT,LV,TX,G,SD⟩:=cy5 (IT.out.below b) (ownL LV.out b) (ownT TX.out b) (G.out.later b) (SD.out.below b)
 clear b
 rw[hok.out]
 clear QM
 go_wp2_with (first|(refine qAb rfl 30 _ rfl (w.heap.size+1) 0 rfl 30 _ TK.out (tX t.c t.r t.q t.a t.b s) rfl _ Tryz.underlying30 rfl Tryz.sizeT ?_))
 refine(qFe t.c t.r t.q t.a t.b t.ws (show Hid (RI w4 (.slice s.a s.n s.c) t.ws)from SW.out.ri) hl).mono ?_
 rintro e w5 ⟨rfl,b⟩
 have z_w5:=b.size
 obtain⟨MA,TK,RM,RZT,BW,SW,MS,IT⟩:=cy8 (MA.out.later b) (TK.out.later b) (RM.out.later b) (RZT.out.later b) (qAa BW.out b) (ownL SW.out b) (ownL MS.out b) (IT.out.below b)
 obtain⟨LV,TX,G,SD⟩:=cy4 (ownL LV.out b) (ownT TX.out b) (G.out.later b) (SD.out.below b)
 clear b
 rw[HTK.out]
 have c_TK_0:=TK.out.cell 0
 have c_TK_1:=TK.out.cell 1
 have c_MA_1:=MA.out.cell 1
 have c_MA_6:=MA.out.cell 6
 have c_G_3:=G.out.cell 3
 go_wp2_with (first|(refine qAb rfl 30 _ rfl (w.heap.size+1) 0 rfl 30 _ TK.out (tX t.c t.r t.q t.a t.b s) rfl _ Tryz.underlying30 rfl Tryz.sizeT ?_))
 refine(spGive_s t s u.its m.its _ (show Hid (RI w5 s.v t.ws)from SW.out.ri) (show Hid (RIt w5 u.its.v m.its)from IT.out.rit) (by omega) hl).mono ?_
 rintro e w6 ⟨gv,rfl,og,b⟩
 have z_w6:=b.size
 obtain⟨MA,TK,RM,RZT,BW,SW,MS,IT⟩:=cy8 (MA.out.later b) (TK.out.later b) (RM.out.later b) (RZT.out.later b) (qAa BW.out b) (ownL SW.out b) (ownL MS.out b) (IT.out.below b)
 obtain⟨LV,TX,G,SD⟩:=cy4 (ownL LV.out b) (ownT TX.out b) (G.out.later b) (SD.out.below b)
 clear b
 clear c_TK_0 c_TK_1 c_MA_1 c_MA_6 c_G_3 q1 q2 q3 q4
 have GV:=Ag og
 clear og
 have hgl:(qBf t.ws m.its).length≤60:=Nat.le_trans (List.length_filter_le _ _) hIl
 have z26:w2.heap.size≤w6.heap.size:=by omega
 go_wp2_with (first|(at_builtin;refine qCs rfl _ _ 27 rfl Tryz.underlying27 w2.heap.size (.slice (some ⟨w2.heap.size,0,none⟩) 0 0) [] rfl SD.out (.slice gv.a gv.n gv.c) (qBf t.ws m.its) rfl GV.out.rit (by simp;omega) z26 ?_;intro vs w7 os hg _;refine Stp.here ?_))
 refine Stp.go ?_
 obtain⟨sd,hfs⟩:=SlI.sv os
 subst hfs
 rw[List.nil_append]at os
 have KK:KeepTy (fun X=>X=41) w6 w7:=KeepTy.ofGrown hg (fun k hk=>by obtain⟨cs,hc⟩:=qAp SD.out hk;exact⟨cs,_,_,hc,rfl⟩)
 have z_w7:=hg.size
 obtain⟨MA,TK,RM,RZT⟩:=cy4 (MA.out.kt KK (by decide)) (TK.out.kt KK (by decide)) (RM.out.kt KK (by decide)) (RZT.out.kt KK (by decide))
 have BW:Hid (Below w.heap.size w w7):=BW.out.trans (qDc hg (fun k hk=>by simp[Value.ownBlock]at hk;omega) BW.out.size)
 obtain⟨SW,MS⟩:=cy2 (SW.out.kt KK (by decide)) (MS.out.kt KK (by decide))
 have IT:Hid (SlI w7 W.heap.size (u.its.v) (m.its)):=IT.out.kept hg (fun n a e=>by have:=ZIT.out n a;simp[Value.ownBlock]at e;omega)
 obtain⟨LV,TX,G⟩:=cy3 (LV.out.kt KK (by decide)) (TX.out.kt KK (by decide)) (G.out.kt KK (by decide))
 clear KK
 clear SD GV
 have SD:=Ag os
 clear os hg
 have ZSD:Hid (∀n,sd.v.ownBlock=some n→w2.heap.size≤n∧n<w7.heap.size):=fun n hn=>SD.out.lt n hn
 have c_MA_0:=MA.out.cell 0
 have c_G_4:=G.out.cell 4
 have c_G_5:=G.out.cell 5
 go_wp2_with (first|(refine qAb rfl 30 _ rfl (w.heap.size+1) 0 rfl 30 _ TK.out (tX t.c t.r t.q t.a t.b s) rfl _ Tryz.underlying30 rfl Tryz.sizeT ?_))
 refine(spNumber_s t m.id NQ NA s u.lv u.tx m.lv m.tx _ SW hl (show Hid (RI w7 u.lv.v m.lv)from LV.out.ri) hsz.out.lv (show Hid (RT w7 u.tx.v m.tx)from TX.out.rt) hsz.out.tx HNQ HNA).mono ?_
 rintro e w8 ⟨nw,fr,rfl,on,of0,b⟩
 have z_w8:=b.size
 obtain⟨MA,TK,RM,RZT,BW,SW,MS,IT⟩:=cy8 (MA.out.later b) (TK.out.later b) (RM.out.later b) (RZT.out.later b) (qAa BW.out b) (ownL SW.out b) (ownL MS.out b) (IT.out.below b)
 obtain⟨LV,TX,G,SD⟩:=cy4 (ownL LV.out b) (ownT TX.out b) (G.out.later b) (SD.out.below b)
 clear b
 clear c_MA_0 c_G_4 c_G_5
 clear SW
 have NW:=Ag (on.down (Nat.zero_le _))
 have of1:SlI w8 w7.heap.size fr.v (qBa m t):=of0
 rw[←HL.out]at of1
 have FR:Hid (SlI w8 w7.heap.size (fr.v) (L)):=of1
 clear on of0 of1
 have hz:=Ag (Bx.new w8 30 [.int .i64 0,.int .i64 0,.int .i64 0,.int .i64 0,.int .i64 0,.slice none 0 0])
 go_wp2_with (first|(refine qAd rfl 30 _ _ rfl w8.heap.size rfl 30 _ hz.out [.int .i64 t.c,.int .i64 t.r,.int .i64 NQ,.int .i64 NA,.int .i64 t.b,.slice nw.a nw.n nw.c] rfl rfl Tryz.sizeT rfl ?_;intro w9 OB TB;have b:Below w8.heap.size w8 w9:=((Below.refl _ _).alloc (Nat.le_refl _) _).trans (TB.below (Nat.le_refl _));have N:=Ag OB;have z_w9:=b.size;have MA:=Ag (MA.out.later b);have TK:=Ag (TK.out.later b);have RM:=Ag (RM.out.later b);have RZT:=Ag (RZT.out.later b);have BW:=Ag (qAa BW.out b);have MS:=Ag (ownL MS.out b);have IT:=Ag (IT.out.below b);have LV:=Ag (ownL LV.out b);have TX:=Ag (ownT TX.out b);have G:=Ag (G.out.later b);have SD:=Ag (SD.out.below b);have NW:=Ag (ownL NW.out b);have FR:=Ag (FR.out.below b);clear OB TB b;refine Stp.here ?_))
 refine Stp.go ?_
 clear hz
 have zl_N:=N.out.lt
 generalize hg_N:w8.heap.size=gn at *
 clear hg_N
 have HFN:Hid (fr.n=L.length):=FR.out.len
 have b:=bA w9 (.cells #[] 3)
 have G0:=Ag (G.out.later b)
 have cg:=G0.out.cell 4
 have S0:Hid (Sl (w9.alloc (.cells #[] 3)) 3 1 0 (.slice u.lv.a u.lv.n u.lv.c) u.lv.n (m.lv.map (Value.int .i64))):=by show Sl _ _ _ _ _ _ _;have:=Sl.below (LV.out.j.down (Nat.zero_le _)) b;rw[←LV.out.slen]at this;exact this
 have HN0:Hid (u.lv.n=m.lv.length):=LV.out.slen
 have hcut:fr.n≤u.lv.n:=by have h1:=HFN.out;have h2:=HN0.out;have h3:=HLT.out;omega
 have OW:Hid (OwnI (w9.alloc (.cells #[] 3)) w9.heap.size (.slice (some ⟨w9.heap.size,0,none⟩) 0 0) []):=OwnI.made w9 w9.heap.size (Nat.le_refl _)
 have hdl:(m.lv.drop L.length).length≤100:=by rw[List.length_drop];have:=HLT.out;omega
 clear b
 go_wp2_with (first|(with_reducible refine qGm _ _ _ rfl ?_))
 refine Stp.go ?_
 refine qGx rfl 24 _ _ rfl Tryz.underlying24 Tryz.size3 rfl rfl S0.out hcut ?_
 intro vc SC
 have RC:Hid (RI (w9.alloc (.cells #[] 3)) vc (m.lv.drop L.length)):=(by rw[←HFN.out];exact cutJ SC HN0.out)
 clear SC
 go_wp2_with (first|(at_builtin;refine qCz rfl _ _ 24 rfl Tryz.underlying24 Tryz.info3' w9.heap.size (.slice (some ⟨w9.heap.size,0,none⟩) 0 0) [] rfl OW.out _ (m.lv.drop L.length) rfl RC.out (by simp only[List.length_nil];omega) (Nat.le_of_lt (by simp)) (fun h=>by cases h) ?_;intro v1 w10 o1 hg1;refine Stp.here ?_))
 refine Stp.go ?_
 obtain⟨lv2,hf1⟩:=o1.sv
 subst hf1
 rw[List.nil_append]at o1
 have b:Below w9.heap.size w9 w10:=qCf (Below.refl _ _) (Nat.le_refl _) hg1
 clear G0 cg S0 HN0 hcut OW hdl RC hg1
 have z_w10:=b.size
 obtain⟨MA,TK,RM,RZT,BW,MS,IT,LV⟩:=cy8 (MA.out.later b) (TK.out.later b) (RM.out.later b) (RZT.out.later b) (qAa BW.out b) (ownL MS.out b) (IT.out.below b) (ownL LV.out b)
 obtain⟨TX,G,SD,NW,FR,N⟩:=cy6 (ownT TX.out b) (G.out.later b) (SD.out.below b) (ownL NW.out b) (FR.out.below b) (N.out.later b)
 clear b
 clear LV
 have LV:=Ag (o1.down (Nat.zero_le _))
 clear o1
 go_wp2_with (first|(refine qAe rfl 24 _ _ rfl g 4 rfl 32 _ G.out (.slice lv2.a lv2.n lv2.c) rfl (by simp) rfl Tryz.sizeNs (mX m.id m.rid u.ms u.its lv2 u.tx m.rd m.se m.li m.he m.la.c m.la.r m.la.q m.la.a m.la.b u.ws) rfl ?_;intro w11 OB TB;have z_w11:w10.heap.size≤w11.heap.size:=Nat.le_of_eq TB.size.symm;have MA:=Ag (MA.out.turn TB (by omega));have TK:=Ag (TK.out.turn TB (by omega));have RM:=Ag (RM.out.turn TB (by omega));have RZT:=Ag (RZT.out.turn TB (by omega));have BW:=Ag (BW.out.trans (TB.below (by omega)));have MS:=Ag (MS.out.past G.out TB (by decide));have IT:=Ag (IT.out.past G.out TB (by decide));have TX:=Ag (TX.out.past G.out TB (by decide));have SD:=Ag (SD.out.past G.out TB (by decide));have NW:=Ag (NW.out.past G.out TB (by decide));have FR:=Ag (FR.out.past G.out TB (by decide));have N:=Ag (N.out.turn TB (by omega));have LV:=Ag (LV.out.past G.out TB (by decide));have G:=Ag OB;clear OB TB;refine Stp.here ?_))
 refine Stp.go ?_
 have b:=bA w11 (.cells #[] 9)
 have G0:=Ag (G.out.later b)
 have cg:=G0.out.cell 5
 have S0:Hid (Sl (w11.alloc (.cells #[] 9)) 9 1 0 (.slice u.tx.a u.tx.n u.tx.c) u.tx.n (m.tx.map Value.string)):=by show Sl _ _ _ _ _ _ _;have:=Sl.below (TX.out.x.down (Nat.zero_le _)) b;rw[←TX.out.slen]at this;exact this
 have HN0:Hid (u.tx.n=m.tx.length):=TX.out.slen
 have hcut:fr.n≤u.tx.n:=by have h1:=HFN.out;have h2:=HN0.out;have h3:=HLT.out;omega
 have OW:Hid (OwnS (w11.alloc (.cells #[] 9)) w11.heap.size (.slice (some ⟨w11.heap.size,0,none⟩) 0 0) []):=OwnS.made w11 w11.heap.size (Nat.le_refl _)
 have hdl:(m.tx.drop L.length).length≤100:=by rw[List.length_drop];have:=HLT.out;omega
 clear b
 go_wp2_with (first|(with_reducible refine qGm _ _ _ rfl ?_))
 refine Stp.go ?_
 refine qGx rfl 28 _ _ rfl Tryz.underlying28 Tryz.size9 rfl rfl S0.out hcut ?_
 intro vc SC
 have RC:Hid (RT (w11.alloc (.cells #[] 9)) vc (m.tx.drop L.length)):=(by rw[←HFN.out];exact cutX SC HN0.out)
 clear SC
 go_wp2_with (first|(at_builtin;refine qGy rfl _ _ 28 rfl Tryz.underlying28 Tryz.info9 w11.heap.size (.slice (some ⟨w11.heap.size,0,none⟩) 0 0) [] rfl OW.out _ (m.tx.drop L.length) rfl RC.out (by simp only[List.length_nil];omega) (Nat.le_of_lt (by simp)) (fun h=>by cases h) ?_;intro v1 w12 o1 hg1;refine Stp.here ?_))
 refine Stp.go ?_
 obtain⟨tx2,hf1⟩:=o1.sv
 subst hf1
 rw[List.nil_append]at o1
 have b:Below w11.heap.size w11 w12:=qCf (Below.refl _ _) (Nat.le_refl _) hg1
 clear G0 cg S0 HN0 hcut OW hdl RC hg1
 have z_w12:=b.size
 obtain⟨MA,TK,RM,RZT,BW,MS,IT,TX⟩:=cy8 (MA.out.later b) (TK.out.later b) (RM.out.later b) (RZT.out.later b) (qAa BW.out b) (ownL MS.out b) (IT.out.below b) (ownT TX.out b)
 obtain⟨G,SD,NW,FR,N,LV⟩:=cy6 (G.out.later b) (SD.out.below b) (ownL NW.out b) (FR.out.below b) (N.out.later b) (ownL LV.out b)
 clear b
 clear TX
 have TX:=Ag (o1.down (Nat.zero_le _))
 clear o1
 go_wp2_with (first|(refine qAe rfl 28 _ _ rfl g 5 rfl 32 _ G.out (.slice tx2.a tx2.n tx2.c) rfl (by simp) rfl Tryz.sizeTs (mX m.id m.rid u.ms u.its lv2 tx2 m.rd m.se m.li m.he m.la.c m.la.r m.la.q m.la.a m.la.b u.ws) rfl ?_;intro w13 OB TB;have z_w13:w12.heap.size≤w13.heap.size:=Nat.le_of_eq TB.size.symm;have MA:=Ag (MA.out.turn TB (by omega));have TK:=Ag (TK.out.turn TB (by omega));have RM:=Ag (RM.out.turn TB (by omega));have RZT:=Ag (RZT.out.turn TB (by omega));have BW:=Ag (BW.out.trans (TB.below (by omega)));have MS:=Ag (MS.out.past G.out TB (by decide));have IT:=Ag (IT.out.past G.out TB (by decide));have SD:=Ag (SD.out.past G.out TB (by decide));have NW:=Ag (NW.out.past G.out TB (by decide));have FR:=Ag (FR.out.past G.out TB (by decide));have N:=Ag (N.out.turn TB (by omega));have LV:=Ag (LV.out.past G.out TB (by decide));have TX:=Ag (TX.out.past G.out TB (by decide));have G:=Ag OB;clear OB TB;refine Stp.here ?_))
 refine Stp.go ?_
 have K0:Hid (KeepBut g w13 w13):=qAc (Below.refl _ _)
 have zg13:=G.out.lt
 go_wp2_with fail
 go_loopw [12] (fun v12 wr=>∃(j:Nat) (n:Sv) (its:List It),j≤L.length∧v12=.int .i64 (j:Int)∧Hid (SlI wr 0 n.v its)∧Hid (its=(L.take j).foldl putP m.its)∧Hid (Bx wr g 32 (mX m.id m.rid u.ms n lv2 tx2 m.rd m.se m.li m.he m.la.c m.la.r m.la.q m.la.a m.la.b u.ws))∧Hid (KeepBut g w13 wr)∧Hid (∀x,n.v.ownBlock=some x→x<w2.heap.size∨w7.heap.size≤x)) (fun v12 _=>L.length - (intOf v12).toNat)
 case atStart=>exact⟨0,u.its,m.its,Nat.zero_le _,rfl,SlI.down IT.out (Nat.zero_le _),rfl,G,K0,fun x hx=>.inl (ZIT.out x hx)⟩
 case round=>
  clear K0
  obtain⟨j,n,its,hj,rfl,NI,HE,GG,KK,ZN⟩:=hrel
  have zr:w13.heap.size≤wr.heap.size:=KK.out.size
  have hitl:its.length≤63:=by have h1:=qFf (L.take j) m.its;have h2:=HE.out;rw[←h2,List.length_take]at h1;omega
  by_cases hlt:j<L.length
  ·have hd:decide ((j:Int)<(fr.n:Int))=true:=by have:=HFN.out;simp;omega
   have FR1:=Ag (FR.out.keepb G.out KK.out (by decide))
   obtain⟨gf,fo,hfa,hfb,hfl,hfr⟩:=FR1.out.at hlt
   obtain⟨⟨q0,f0,l0,t0⟩,hy⟩: ∃y:It,L[j]=y:=⟨_,rfl⟩
   rw[hy]at hfr
   have HY:Hid (L[j]=(q0,f0,l0,t0)):=hy
   have HFR:Hid (wr.rangeAt gf (fo+j * 4) [.int .i64 q0,.int .i64 f0,.int .i64 l0,.string t0]):=hfr
   clear hy hfr
   obtain⟨fa,fn,fc⟩:=fr
   simp only at hfa
   subst hfa
   have hjn:j<fn:=by have:=HFN.out;simp at this;omega
   go_wp2_with fail
   have c:Below wr.heap.size wr wr.drew:=(Below.refl _ _).drew
   refine qAj (S:=fun w'=>Below wr.heap.size wr w') _ (by simp) (by kernel_rfl) (by rfl) (by rfl) (by kernel_rfl) (by kernel_rfl) c (fun Ah=>?_)
   simp only[List.dropLast_cons_cons,List.dropLast_singleton,List.getLast_cons_cons,List.getLast_singleton,List.cons_append,List.nil_append,List.length_cons,List.length_nil]
   refine tkQ 0 rfl (by kernel_rfl) (by rfl) (fun _ _=>by simp only[Aa,Ab,Ac];go_simp;try with_reducible rfl) Ah ?_ fun _ _ _ h=>h
   try simp only[Act.put,Aa,Ab,Ac,Ad,Ae,Af]
   refine tkH (i:=1) (v:=_) rfl (by kernel_rfl) (fun _ _ _ h=>h) (qAf (by rfl) 27 _ rfl g 3 rfl 32 _ (fun w hS=>GG.out.later hS) (.slice n.a n.n n.c) rfl _ Tryz.underlying27 rfl) Ah ?_
   try simp only[Act.put,Aa,Ab,Ac,Ad,Ae,Af]
   refine tkQ 2 rfl (by kernel_rfl) (by rfl) (fun _ _=>by simp only[Aa,Ab,Ac];go_simp;try with_reducible rfl) Ah ?_ fun _ _ _ h=>h
   try simp only[Act.put,Aa,Ab,Ac,Ad,Ae,Af]
   refine tkQ 3 rfl (by kernel_rfl) (by rfl) (fun _ _=>by simp only[Aa,Ab,Ac];go_simp;try with_reducible rfl) Ah ?_ fun _ _ _ h=>h
   try simp only[Act.put,Aa,Ab,Ac,Ad,Ae,Af]
   refine tkQ 4 rfl (by kernel_rfl) (by rfl) (fun _ _=>by simp only[Aa,Ab,Ac];go_simp;try with_reducible rfl) Ah ?_ fun _ _ _ h=>h
   try simp only[Act.put,Aa,Ab,Ac,Ad,Ae,Af]
   refine tkH (i:=5) (v:=_) rfl (by kernel_rfl) (fun _ _ _ h=>h) (qDa (by rfl) 41 _ rfl gf (fo+j * 4) (by rfl) [.int .i64 q0,.int .i64 f0,.int .i64 l0,.string t0] (fun w hS=>qAk HFR.out hfl hS) _ Tryz.underlying41 rfl Tryz.sizeI) Ah ?_
   try simp only[Act.put,Ad,Ae,Af]
   refine wpAnyH_ready (rs:=[6]) (by kernel_rfl) (by simp) ?_
   refine AllReadyH.cons (i:=6) rfl (fun K hK=>?_) AllReadyH.nil
   rw[if_pos (by rfl)]
   simp only[Aa,Ab,Ac]
   go_simp
   refine(qHf n its q0 f0 l0 t0 _ (show Hid (RIt wr.drew n.v its)from NI.out.rit.stays c) (by omega)).mono ?_
   rintro e y1 ⟨p,rfl,op,d1⟩
   have zc:=c.size
   have c1:=qAa c d1
   refine hK.out _ _ (c1) (fun Ah=>?_)
   clear hK K
   try simp only[Act.put,Aa,Ab,Ac,Ad,Ae,Af]
   clear d1
   refine tkQ 7 rfl (by kernel_rfl) (by rfl) (fun _ _=>by simp only[Aa,Ab,Ac];go_simp;try with_reducible rfl) Ah ?_ fun _ _ _ h=>h
   try simp only[Act.put,Aa,Ab,Ac,Ad,Ae,Af]
   refine tkQ 8 rfl (by kernel_rfl) (by rfl) (fun _ _=>by simp only[Aa,Ab,Ac];go_simp;try with_reducible rfl) Ah ?_ fun _ _ _ h=>h
   try simp only[Act.put,Aa,Ab,Ac,Ad,Ae,Af]
   refine wpAnyH_done (by kernel_rfl) ?_ _
   have GG1:=Ag (GG.out.later c1)
   refine qBj rfl rfl ?_
   refine qCy 27 _ _ rfl g 3 rfl 32 _ GG1.out (.slice p.a p.n p.c) rfl (by simp) rfl Tryz.sizeIs (mX m.id m.rid u.ms p lv2 tx2 m.rd m.se m.li m.he m.la.c m.la.r m.la.q m.la.a m.la.b u.ws) rfl ?_
   intro w15 OB TB
   have K5:=Ag ((KK.out.trans (qAc c1)).trans TB.keep)
   have P5:Hid (SlI w15 0 p.v (putP its (q0,f0,l0,t0))):=(SlI.down op (Nat.zero_le _)).past GG1.out TB (by decide)
   have Z5:Hid (∀x,p.v.ownBlock=some x→x<w2.heap.size∨w7.heap.size≤x):=fun x hx=>.inr (by have:=(SlI.lt op x hx).1;omega)
   have E5:Hid (putP its (q0,f0,l0,t0)=(L.take (j+1)).foldl putP m.its):=(by rw[foldl_step hlt,HY.out,HE.out]:_=_)
   have G5:=Ag OB
   clear OB TB GG GG1 NI op c c1 zc Ah KK FR1 ZN HFR
   go_wp2_with fail
   go_roundw
   case rel=>exact⟨j+1,p,_,by omega,by go_num,P5,E5,G5,K5,Z5⟩
   case measure=>simp[intOf];omega
  ·have hjL:j=L.length:=by omega
   have hd:decide ((j:Int)<(fr.n:Int))=false:=by have:=HFN.out;simp;omega
   have hd2: ¬j<fr.n:=by have:=HFN.out;omega
   have e:its=IS:=by have h1:=HE.out;rw[hjL,List.take_length]at h1;rw[h1];exact HSI.out.symm
   rw[e]at NI
   clear e HE hjL hitl hlt
   obtain⟨MA1,TK1,RM1,RZT1,BW1,MS1,SD1,NW1⟩:=cy8 (MA.out.keepb KK.out (by omega)) (TK.out.keepb KK.out (by omega)) (RM.out.keepb KK.out (by omega)) (RZT.out.keepb KK.out (by omega)) (BW.out.trans (KK.out.below (by omega) BW.out.size)) (MS.out.keepb G.out KK.out (by decide)) (SD.out.keepb G.out KK.out (by decide)) (NW.out.keepb G.out KK.out (by decide))
   obtain⟨FR1,N1,LV1,TX1⟩:=cy4 (FR.out.keepb G.out KK.out (by decide)) (N.out.keepb KK.out (by omega)) (LV.out.keepb G.out KK.out (by decide)) (TX.out.keepb G.out KK.out (by decide))
   clear KK
   have hsf:(qBf t.ws m.its).length+L.length≤2097152:=by omega
   have z2r:w2.heap.size≤wr.heap.size:=by omega
   go_wp2_with (first|(at_builtin;refine qCs rfl _ _ 27 rfl Tryz.underlying27 w2.heap.size (.slice sd.a sd.n sd.c) (qBf t.ws m.its) rfl SD1.out (.slice fr.a fr.n fr.c) L rfl FR1.out.rit hsf z2r ?_;intro vs w16 os hg _;refine Stp.here ?_))
   refine Stp.go ?_
   obtain⟨fs,hfs⟩:=SlI.sv os
   subst hfs
   have KK:KeepTy (fun X=>X=41) wr w16:=KeepTy.ofGrown hg (fun k hk=>by obtain⟨cs,hc⟩:=qAp SD1.out hk;exact⟨cs,_,_,hc,rfl⟩)
   have z_w16:=hg.size
   obtain⟨MA1,TK1,RM1,RZT1⟩:=cy4 (MA1.out.kt KK (by decide)) (TK1.out.kt KK (by decide)) (RM1.out.kt KK (by decide)) (RZT1.out.kt KK (by decide))
   have BW1:Hid (Below w.heap.size w w16):=BW1.out.trans (qDc hg (fun k hk=>by have:=(ZSD.out k hk).1;omega) BW1.out.size)
   obtain⟨MS1,NW1,N1,LV1,TX1,GG⟩:=cy6 (MS1.out.kt KK (by decide)) (NW1.out.kt KK (by decide)) (N1.out.kt KK (by decide)) (LV1.out.kt KK (by decide)) (TX1.out.kt KK (by decide)) (GG.out.kt KK (by decide))
   have NI:Hid (SlI w16 0 (n.v) (IS)):=NI.out.kept hg (fun x a e=>by have h1:=ZN.out x a;have h2:=ZSD.out x e.symm;omega)
   clear KK
   clear SD1 FR1 ZN
   have FZq:Hid (SlI w16 0 (fs.v) (qBf t.ws m.its++L)):=SlI.down os (Nat.zero_le _)
   clear os hg
   have c_GG_3:=GG.out.cell 3
   go_wp2_with fail
   have ARU:Hid (Calls Tryz.prog 17 #[.slice n.a n.n n.c] w16 fun e w'=>e=.returned (.int .i64 ((AR:Nat):Int))∧Below w16.heap.size w16 w'):=(by rw[HAR.out];exact qKj (v:=n.v) IS (show Hid (RIt w16 n.v IS)from NI.out.rit) hISl:Calls _ _ _ _ _)
   refine(ARU.out).mono ?_
   rintro e w17 ⟨rfl,b⟩
   have z_w17:=b.size
   obtain⟨MA1,TK1,RM1,RZT1,BW1,MS1,NW1,N1⟩:=cy8 (MA1.out.later b) (TK1.out.later b) (RM1.out.later b) (RZT1.out.later b) (qAa BW1.out b) (ownL MS1.out b) (ownL NW1.out b) (N1.out.later b)
   obtain⟨LV1,TX1,GG,NI,FZq⟩:=cy5 (ownL LV1.out b) (ownT TX1.out b) (GG.out.later b) (NI.out.below b) (FZq.out.below b)
   clear b
   clear c_GG_3 ARU
   have c_MA1_0:=MA1.out.cell 0
   go_wp2_with (first|(refine qAb rfl 30 _ rfl gn 0 rfl 30 _ N1.out (tX t.c t.r NQ NA t.b nw) rfl _ Tryz.underlying30 rfl Tryz.sizeT ?_))
   refine(spMark_s t.c t.r NQ NA t.b m.id ((AR:Nat):Int) ML MD nw t.ws _ NW1 hl HML HMD).mono ?_
   rintro e w18 ⟨nz,rfl,oz,b⟩
   have z_w18:=b.size
   obtain⟨MA1,TK1,RM1,RZT1,BW1,MS1,NW1,N1⟩:=cy8 (MA1.out.later b) (TK1.out.later b) (RM1.out.later b) (RZT1.out.later b) (qAa BW1.out b) (ownL MS1.out b) (ownL NW1.out b) (N1.out.later b)
   obtain⟨LV1,TX1,GG,NI,FZq⟩:=cy5 (ownL LV1.out b) (ownT TX1.out b) (GG.out.later b) (NI.out.below b) (FZq.out.below b)
   clear b
   clear c_MA1_0
   clear NW1
   have NZ:=Ag (oz.down (Nat.zero_le _))
   clear oz
   go_wp2_with (first|(refine qAd rfl 30 _ _ rfl gn rfl 30 _ N1.out (tX t.c t.r NQ ML MD nz) rfl rfl Tryz.sizeT rfl ?_;intro w19 OB TB;have z_w19:w18.heap.size≤w19.heap.size:=Nat.le_of_eq TB.size.symm;have MA1:=Ag (MA1.out.turn TB (by omega));have TK1:=Ag (TK1.out.turn TB (by omega));have RM1:=Ag (RM1.out.turn TB (by omega));have RZT1:=Ag (RZT1.out.turn TB (by omega));have BW1:=Ag (BW1.out.trans (TB.below (by omega)));have MS1:=Ag (MS1.out.past N1.out TB (by decide));have LV1:=Ag (LV1.out.past N1.out TB (by decide));have TX1:=Ag (TX1.out.past N1.out TB (by decide));have GG:=Ag (GG.out.turn TB (by omega));have NI:=Ag (NI.out.past N1.out TB (by decide));have FZq:=Ag (FZq.out.past N1.out TB (by decide));have NZ:=Ag (NZ.out.past N1.out TB (by decide));have N1:=Ag OB;clear OB TB;refine Stp.here ?_))
   refine Stp.go ?_
   have c_GG_7:=GG.out.cell 7
   have c_GG_8:=GG.out.cell 8
   have c_TK1_3:=TK1.out.cell 3
   clear MA1
   refine Or.elim (Classical.em (t.a<m.se)) (fun h1=>?p1) (fun h1=>?p2)
   case' p1=>refine Or.elim (Classical.em (((AR:Nat):Int)<t.a)) (fun h2=>?q1) (fun h2=>?q2)
   case' p2=>refine Or.elim (Classical.em (((AR:Nat):Int)<m.se)) (fun h2=>?q3) (fun h2=>?q4)
   case' q1=>refine Or.elim (Classical.em (m.li<((AR:Nat):Int))) (fun h3=>?c1) (fun h3=>?c2)
   case' q2=>refine Or.elim (Classical.em (m.li<t.a)) (fun h3=>?c3) (fun h3=>?c4)
   case' q3=>refine Or.elim (Classical.em (m.li<((AR:Nat):Int))) (fun h3=>?c5) (fun h3=>?c6)
   case' q4=>refine Or.elim (Classical.em (m.li<m.se)) (fun h3=>?c7) (fun h3=>?c8)
   case' c1=>
    have l1:decide (t.a<m.se)=true:=by simpa using h1
    have l2:decide (((AR:Nat):Int)<t.a)=true:=by simpa using h2
    have l3:decide (m.li<((AR:Nat):Int))=true:=by simpa using h3
    have HLI:Hid (qBs m.li m.se ((AR:Nat):Int) t.a=((AR:Nat):Int)):=(by unfold qBs qDj;simp only[h1,h2,h3,if_true,if_false]:_=_)
    clear h1 h2 h3
    go_wp2_with (first|(refine qAe rfl 3 _ _ rfl g 8 rfl 32 _ GG.out (.int .i64 (((AR:Nat):Int))) rfl (by simp) rfl Tryz.size3 [.int .i64 m.id,.int .i64 m.rid,.slice u.ms.a u.ms.n u.ms.c,.slice n.a n.n n.c,.slice lv2.a lv2.n lv2.c,.slice tx2.a tx2.n tx2.c,.int .i64 m.rd,.int .i64 m.se,.int .i64 (((AR:Nat):Int)),.int .i64 m.he,.int .i64 m.la.c,.int .i64 m.la.r,.int .i64 m.la.q,.int .i64 m.la.a,.int .i64 m.la.b,.slice u.ws.a u.ws.n u.ws.c] rfl ?_;intro w20 OB TB;have z_w20:w19.heap.size≤w20.heap.size:=Nat.le_of_eq TB.size.symm;have TK1:=Ag (TK1.out.turn TB (by omega));have RM1:=Ag (RM1.out.turn TB (by omega));have RZT1:=Ag (RZT1.out.turn TB (by omega));have BW1:=Ag (BW1.out.trans (TB.below (by omega)));have MS1:=Ag (MS1.out.past GG.out TB (by decide));have N1:=Ag (N1.out.turn TB (by omega));have LV1:=Ag (LV1.out.past GG.out TB (by decide));have TX1:=Ag (TX1.out.past GG.out TB (by decide));have NI:=Ag (NI.out.past GG.out TB (by decide));have FZq:=Ag (FZq.out.past GG.out TB (by decide));have NZ:=Ag (NZ.out.past GG.out TB (by decide));have GG:=Ag OB;clear OB TB;refine Stp.here ?_))
    refine Stp.go ?_
    clear c_GG_7 c_GG_8 c_TK1_3 l1 l2 l3
    obtain⟨LI,eLI⟩: ∃LI,LI=((AR:Nat):Int):=⟨_,rfl⟩
    have HLI:Hid (qBs m.li m.se ((AR:Nat):Int) t.a=LI):=(by rw[eLI];exact HLI.out:_=_)
    have GG:Hid (Bx w20 g 32 (mX m.id m.rid u.ms n lv2 tx2 m.rd m.se LI m.he m.la.c m.la.r m.la.q m.la.a m.la.b u.ws)):=(by rw[eLI];exact GG.out:Bx _ _ _ _)
    clear eLI
   case' c2=>
    have l1:decide (t.a<m.se)=true:=by simpa using h1
    have l2:decide (((AR:Nat):Int)<t.a)=true:=by simpa using h2
    have l3:decide (m.li<((AR:Nat):Int))=false:=by simpa using h3
    have HLI:Hid (qBs m.li m.se ((AR:Nat):Int) t.a=m.li):=(by unfold qBs qDj;simp only[h1,h2,h3,if_true,if_false]:_=_)
    clear h1 h2 h3
    go_wp2_with (with_reducible refine qBg _ _ _ rfl ?_)
    refine Stp.go ?_
    clear c_GG_7 c_GG_8 c_TK1_3 l1 l2 l3
    obtain⟨LI,eLI⟩: ∃LI,LI=m.li:=⟨_,rfl⟩
    have HLI:Hid (qBs m.li m.se ((AR:Nat):Int) t.a=LI):=(by rw[eLI];exact HLI.out:_=_)
    have GG:Hid (Bx w19 g 32 (mX m.id m.rid u.ms n lv2 tx2 m.rd m.se LI m.he m.la.c m.la.r m.la.q m.la.a m.la.b u.ws)):=(by rw[eLI];exact GG.out:Bx _ _ _ _)
    clear eLI
    have z_w20:w19.heap.size≤w19.heap.size:=Nat.le_refl _
    generalize w19=w20 at *
   case' c3=>
    have l1:decide (t.a<m.se)=true:=by simpa using h1
    have l2:decide (((AR:Nat):Int)<t.a)=false:=by simpa using h2
    have l3:decide (m.li<t.a)=true:=by simpa using h3
    have HLI:Hid (qBs m.li m.se ((AR:Nat):Int) t.a=t.a):=(by unfold qBs qDj;simp only[h1,h2,h3,if_true,if_false]:_=_)
    clear h1 h2 h3
    go_wp2_with (first|(refine qAe rfl 3 _ _ rfl g 8 rfl 32 _ GG.out (.int .i64 t.a) rfl (by simp) rfl Tryz.size3 (mX m.id m.rid u.ms n lv2 tx2 m.rd m.se t.a m.he m.la.c m.la.r m.la.q m.la.a m.la.b u.ws) rfl ?_;intro w20 OB TB;have z_w20:w19.heap.size≤w20.heap.size:=Nat.le_of_eq TB.size.symm;have TK1:=Ag (TK1.out.turn TB (by omega));have RM1:=Ag (RM1.out.turn TB (by omega));have RZT1:=Ag (RZT1.out.turn TB (by omega));have BW1:=Ag (BW1.out.trans (TB.below (by omega)));have MS1:=Ag (MS1.out.past GG.out TB (by decide));have N1:=Ag (N1.out.turn TB (by omega));have LV1:=Ag (LV1.out.past GG.out TB (by decide));have TX1:=Ag (TX1.out.past GG.out TB (by decide));have NI:=Ag (NI.out.past GG.out TB (by decide));have FZq:=Ag (FZq.out.past GG.out TB (by decide));have NZ:=Ag (NZ.out.past GG.out TB (by decide));have GG:=Ag OB;clear OB TB;refine Stp.here ?_))
    refine Stp.go ?_
    clear c_GG_7 c_GG_8 c_TK1_3 l1 l2 l3
    obtain⟨LI,eLI⟩: ∃LI,LI=t.a:=⟨_,rfl⟩
    have HLI:Hid (qBs m.li m.se ((AR:Nat):Int) t.a=LI):=(by rw[eLI];exact HLI.out:_=_)
    have GG:Hid (Bx w20 g 32 (mX m.id m.rid u.ms n lv2 tx2 m.rd m.se LI m.he m.la.c m.la.r m.la.q m.la.a m.la.b u.ws)):=(by rw[eLI];exact GG.out:Bx _ _ _ _)
    clear eLI
   case' c4=>
    have l1:decide (t.a<m.se)=true:=by simpa using h1
    have l2:decide (((AR:Nat):Int)<t.a)=false:=by simpa using h2
    have l3:decide (m.li<t.a)=false:=by simpa using h3
    have HLI:Hid (qBs m.li m.se ((AR:Nat):Int) t.a=m.li):=(by unfold qBs qDj;simp only[h1,h2,h3,if_true,if_false]:_=_)
    clear h1 h2 h3
    go_wp2_with (with_reducible refine qBg _ _ _ rfl ?_)
    refine Stp.go ?_
    clear c_GG_7 c_GG_8 c_TK1_3 l1 l2 l3
    obtain⟨LI,eLI⟩: ∃LI,LI=m.li:=⟨_,rfl⟩
    have HLI:Hid (qBs m.li m.se ((AR:Nat):Int) t.a=LI):=(by rw[eLI];exact HLI.out:_=_)
    have GG:Hid (Bx w19 g 32 (mX m.id m.rid u.ms n lv2 tx2 m.rd m.se LI m.he m.la.c m.la.r m.la.q m.la.a m.la.b u.ws)):=(by rw[eLI];exact GG.out:Bx _ _ _ _)
    clear eLI
    have z_w20:w19.heap.size≤w19.heap.size:=Nat.le_refl _
    generalize w19=w20 at *
   case' c5=>
    have l1:decide (t.a<m.se)=false:=by simpa using h1
    have l2:decide (((AR:Nat):Int)<m.se)=true:=by simpa using h2
    have l3:decide (m.li<((AR:Nat):Int))=true:=by simpa using h3
    have HLI:Hid (qBs m.li m.se ((AR:Nat):Int) t.a=((AR:Nat):Int)):=(by unfold qBs qDj;simp only[h1,h2,h3,if_true,if_false]:_=_)
    clear h1 h2 h3
    go_wp2_with (first|(refine qAe rfl 3 _ _ rfl g 8 rfl 32 _ GG.out (.int .i64 (((AR:Nat):Int))) rfl (by simp) rfl Tryz.size3 [.int .i64 m.id,.int .i64 m.rid,.slice u.ms.a u.ms.n u.ms.c,.slice n.a n.n n.c,.slice lv2.a lv2.n lv2.c,.slice tx2.a tx2.n tx2.c,.int .i64 m.rd,.int .i64 m.se,.int .i64 (((AR:Nat):Int)),.int .i64 m.he,.int .i64 m.la.c,.int .i64 m.la.r,.int .i64 m.la.q,.int .i64 m.la.a,.int .i64 m.la.b,.slice u.ws.a u.ws.n u.ws.c] rfl ?_;intro w20 OB TB;have z_w20:w19.heap.size≤w20.heap.size:=Nat.le_of_eq TB.size.symm;have TK1:=Ag (TK1.out.turn TB (by omega));have RM1:=Ag (RM1.out.turn TB (by omega));have RZT1:=Ag (RZT1.out.turn TB (by omega));have BW1:=Ag (BW1.out.trans (TB.below (by omega)));have MS1:=Ag (MS1.out.past GG.out TB (by decide));have N1:=Ag (N1.out.turn TB (by omega));have LV1:=Ag (LV1.out.past GG.out TB (by decide));have TX1:=Ag (TX1.out.past GG.out TB (by decide));have NI:=Ag (NI.out.past GG.out TB (by decide));have FZq:=Ag (FZq.out.past GG.out TB (by decide));have NZ:=Ag (NZ.out.past GG.out TB (by decide));have GG:=Ag OB;clear OB TB;refine Stp.here ?_))
    refine Stp.go ?_
    clear c_GG_7 c_GG_8 c_TK1_3 l1 l2 l3
    obtain⟨LI,eLI⟩: ∃LI,LI=((AR:Nat):Int):=⟨_,rfl⟩
    have HLI:Hid (qBs m.li m.se ((AR:Nat):Int) t.a=LI):=(by rw[eLI];exact HLI.out:_=_)
    have GG:Hid (Bx w20 g 32 (mX m.id m.rid u.ms n lv2 tx2 m.rd m.se LI m.he m.la.c m.la.r m.la.q m.la.a m.la.b u.ws)):=(by rw[eLI];exact GG.out:Bx _ _ _ _)
    clear eLI
   case' c6=>
    have l1:decide (t.a<m.se)=false:=by simpa using h1
    have l2:decide (((AR:Nat):Int)<m.se)=true:=by simpa using h2
    have l3:decide (m.li<((AR:Nat):Int))=false:=by simpa using h3
    have HLI:Hid (qBs m.li m.se ((AR:Nat):Int) t.a=m.li):=(by unfold qBs qDj;simp only[h1,h2,h3,if_true,if_false]:_=_)
    clear h1 h2 h3
    go_wp2_with (with_reducible refine qBg _ _ _ rfl ?_)
    refine Stp.go ?_
    clear c_GG_7 c_GG_8 c_TK1_3 l1 l2 l3
    obtain⟨LI,eLI⟩: ∃LI,LI=m.li:=⟨_,rfl⟩
    have HLI:Hid (qBs m.li m.se ((AR:Nat):Int) t.a=LI):=(by rw[eLI];exact HLI.out:_=_)
    have GG:Hid (Bx w19 g 32 (mX m.id m.rid u.ms n lv2 tx2 m.rd m.se LI m.he m.la.c m.la.r m.la.q m.la.a m.la.b u.ws)):=(by rw[eLI];exact GG.out:Bx _ _ _ _)
    clear eLI
    have z_w20:w19.heap.size≤w19.heap.size:=Nat.le_refl _
    generalize w19=w20 at *
   case' c7=>
    have l1:decide (t.a<m.se)=false:=by simpa using h1
    have l2:decide (((AR:Nat):Int)<m.se)=false:=by simpa using h2
    have l3:decide (m.li<m.se)=true:=by simpa using h3
    have HLI:Hid (qBs m.li m.se ((AR:Nat):Int) t.a=m.se):=(by unfold qBs qDj;simp only[h1,h2,h3,if_true,if_false]:_=_)
    clear h1 h2 h3
    go_wp2_with (first|(refine qAe rfl 3 _ _ rfl g 8 rfl 32 _ GG.out (.int .i64 m.se) rfl (by simp) rfl Tryz.size3 (mX m.id m.rid u.ms n lv2 tx2 m.rd m.se m.se m.he m.la.c m.la.r m.la.q m.la.a m.la.b u.ws) rfl ?_;intro w20 OB TB;have z_w20:w19.heap.size≤w20.heap.size:=Nat.le_of_eq TB.size.symm;have TK1:=Ag (TK1.out.turn TB (by omega));have RM1:=Ag (RM1.out.turn TB (by omega));have RZT1:=Ag (RZT1.out.turn TB (by omega));have BW1:=Ag (BW1.out.trans (TB.below (by omega)));have MS1:=Ag (MS1.out.past GG.out TB (by decide));have N1:=Ag (N1.out.turn TB (by omega));have LV1:=Ag (LV1.out.past GG.out TB (by decide));have TX1:=Ag (TX1.out.past GG.out TB (by decide));have NI:=Ag (NI.out.past GG.out TB (by decide));have FZq:=Ag (FZq.out.past GG.out TB (by decide));have NZ:=Ag (NZ.out.past GG.out TB (by decide));have GG:=Ag OB;clear OB TB;refine Stp.here ?_))
    refine Stp.go ?_
    clear c_GG_7 c_GG_8 c_TK1_3 l1 l2 l3
    obtain⟨LI,eLI⟩: ∃LI,LI=m.se:=⟨_,rfl⟩
    have HLI:Hid (qBs m.li m.se ((AR:Nat):Int) t.a=LI):=(by rw[eLI];exact HLI.out:_=_)
    have GG:Hid (Bx w20 g 32 (mX m.id m.rid u.ms n lv2 tx2 m.rd m.se LI m.he m.la.c m.la.r m.la.q m.la.a m.la.b u.ws)):=(by rw[eLI];exact GG.out:Bx _ _ _ _)
    clear eLI
   case' c8=>
    have l1:decide (t.a<m.se)=false:=by simpa using h1
    have l2:decide (((AR:Nat):Int)<m.se)=false:=by simpa using h2
    have l3:decide (m.li<m.se)=false:=by simpa using h3
    have HLI:Hid (qBs m.li m.se ((AR:Nat):Int) t.a=m.li):=(by unfold qBs qDj;simp only[h1,h2,h3,if_true,if_false]:_=_)
    clear h1 h2 h3
    go_wp2_with (with_reducible refine qBg _ _ _ rfl ?_)
    refine Stp.go ?_
    clear c_GG_7 c_GG_8 c_TK1_3 l1 l2 l3
    obtain⟨LI,eLI⟩: ∃LI,LI=m.li:=⟨_,rfl⟩
    have HLI:Hid (qBs m.li m.se ((AR:Nat):Int) t.a=LI):=(by rw[eLI];exact HLI.out:_=_)
    have GG:Hid (Bx w19 g 32 (mX m.id m.rid u.ms n lv2 tx2 m.rd m.se LI m.he m.la.c m.la.r m.la.q m.la.a m.la.b u.ws)):=(by rw[eLI];exact GG.out:Bx _ _ _ _)
    clear eLI
    have z_w20:w19.heap.size≤w19.heap.size:=Nat.le_refl _
    generalize w19=w20 at *
   all_goals(
    have c_TK1_3:=TK1.out.cell 3
    go_wp2_with (first|(refine qAe rfl 3 _ _ rfl g 7 rfl 32 _ GG.out (.int .i64 t.a) rfl (by simp) rfl Tryz.size3 (mX m.id m.rid u.ms n lv2 tx2 m.rd t.a LI m.he m.la.c m.la.r m.la.q m.la.a m.la.b u.ws) rfl ?_;intro w21 OB TB;have z_w21:w20.heap.size≤w21.heap.size:=Nat.le_of_eq TB.size.symm;have TK1:=Ag (TK1.out.turn TB (by omega));have RM1:=Ag (RM1.out.turn TB (by omega));have RZT1:=Ag (RZT1.out.turn TB (by omega));have BW1:=Ag (BW1.out.trans (TB.below (by omega)));have MS1:=Ag (MS1.out.past GG.out TB (by decide));have N1:=Ag (N1.out.turn TB (by omega));have LV1:=Ag (LV1.out.past GG.out TB (by decide));have TX1:=Ag (TX1.out.past GG.out TB (by decide));have NI:=Ag (NI.out.past GG.out TB (by decide));have FZq:=Ag (FZq.out.past GG.out TB (by decide));have NZ:=Ag (NZ.out.past GG.out TB (by decide));have GG:=Ag OB;clear OB TB;refine Stp.here ?_))
    refine Stp.go ?_
    clear c_TK1_3
    have c_GG_3:=GG.out.cell 3
    go_wp2_with (first|(refine qAb rfl 30 _ rfl gn 0 rfl 30 _ N1.out (tX t.c t.r NQ ML MD nz) rfl _ Tryz.underlying30 rfl Tryz.sizeT ?_))
    refine(spLacks_any t.c t.r NQ ML MD nz n t.ws IS _ (show Hid (RI w21 nz.v t.ws)from NZ.out.ri) (show Hid (RIt w21 n.v IS)from NI.out.rit) hl hISl).mono ?_
    rintro e w22 ⟨x,rfl,ox,b⟩
    have z_w22:=b.size
    obtain⟨TK1,RM1,RZT1,BW1,MS1,N1,LV1,TX1⟩:=cy8 (TK1.out.later b) (RM1.out.later b) (RZT1.out.later b) (qAa BW1.out b) (ownL MS1.out b) (N1.out.later b) (ownL LV1.out b) (ownT TX1.out b)
    obtain⟨GG,NI,FZq,NZ⟩:=cy4 (GG.out.later b) (NI.out.below b) (FZq.out.below b) (ownL NZ.out b)
    clear b
    clear c_GG_3
    clear NZ
    have OX:=Ag (ox.down (Nat.zero_le _))
    clear ox
    go_wp2_with (first|(refine qAd rfl 30 _ _ rfl gn rfl 30 _ N1.out (tX t.c t.r NQ ML MD x) rfl rfl Tryz.sizeT rfl ?_;intro w23 OB TB;have z_w23:w22.heap.size≤w23.heap.size:=Nat.le_of_eq TB.size.symm;have TK1:=Ag (TK1.out.turn TB (by omega));have RM1:=Ag (RM1.out.turn TB (by omega));have RZT1:=Ag (RZT1.out.turn TB (by omega));have BW1:=Ag (BW1.out.trans (TB.below (by omega)));have MS1:=Ag (MS1.out.past N1.out TB (by decide));have LV1:=Ag (LV1.out.past N1.out TB (by decide));have TX1:=Ag (TX1.out.past N1.out TB (by decide));have GG:=Ag (GG.out.turn TB (by omega));have NI:=Ag (NI.out.past N1.out TB (by decide));have FZq:=Ag (FZq.out.past N1.out TB (by decide));have OX:=Ag (OX.out.past N1.out TB (by decide));have N1:=Ag OB;clear OB TB;refine Stp.here ?_))
    refine Stp.go ?_
    have c_TK1_1:=TK1.out.cell 1
    go_wp2_with (first|(refine qAe rfl 3 _ _ rfl g 6 rfl 32 _ GG.out (.int .i64 t.r) rfl (by simp) rfl Tryz.size3 (mX m.id m.rid u.ms n lv2 tx2 t.r t.a LI m.he m.la.c m.la.r m.la.q m.la.a m.la.b u.ws) rfl ?_;intro w24 OB TB;have z_w24:w23.heap.size≤w24.heap.size:=Nat.le_of_eq TB.size.symm;have TK1:=Ag (TK1.out.turn TB (by omega));have RM1:=Ag (RM1.out.turn TB (by omega));have RZT1:=Ag (RZT1.out.turn TB (by omega));have BW1:=Ag (BW1.out.trans (TB.below (by omega)));have MS1:=Ag (MS1.out.past GG.out TB (by decide));have N1:=Ag (N1.out.turn TB (by omega));have LV1:=Ag (LV1.out.past GG.out TB (by decide));have TX1:=Ag (TX1.out.past GG.out TB (by decide));have NI:=Ag (NI.out.past GG.out TB (by decide));have FZq:=Ag (FZq.out.past GG.out TB (by decide));have OX:=Ag (OX.out.past GG.out TB (by decide));have GG:=Ag OB;clear OB TB;refine Stp.here ?_))
    refine Stp.go ?_
    clear c_TK1_1
    have c_TK1_1:=TK1.out.cell 1
    have hw1:IntKind.i64.wrap (t.r+1)=t.r+1:=by rw[IntKind.wrap_i64];omega
    go_wp2_with (first|(refine qAe rfl 3 _ _ rfl gn 1 rfl 30 _ N1.out (.int .i64 (t.r+1)) rfl (by simp) rfl Tryz.size3 (tX t.c (t.r+1) NQ ML MD x) rfl ?_;intro w25 OB TB;have z_w25:w24.heap.size≤w25.heap.size:=Nat.le_of_eq TB.size.symm;have TK1:=Ag (TK1.out.turn TB (by omega));have RM1:=Ag (RM1.out.turn TB (by omega));have RZT1:=Ag (RZT1.out.turn TB (by omega));have BW1:=Ag (BW1.out.trans (TB.below (by omega)));have MS1:=Ag (MS1.out.past N1.out TB (by decide));have LV1:=Ag (LV1.out.past N1.out TB (by decide));have TX1:=Ag (TX1.out.past N1.out TB (by decide));have GG:=Ag (GG.out.turn TB (by omega));have NI:=Ag (NI.out.past N1.out TB (by decide));have FZq:=Ag (FZq.out.past N1.out TB (by decide));have OX:=Ag (OX.out.past N1.out TB (by decide));have N1:=Ag OB;clear OB TB;refine Stp.here ?_))
    refine Stp.go ?_
    clear c_TK1_1 hw1
    go_wp2_with (first|(refine qAb rfl 30 _ rfl gn 0 rfl 30 _ N1.out (tX t.c (t.r+1) NQ ML MD x) rfl _ Tryz.underlying30 rfl Tryz.sizeT ?_))
    refine(qDz t.c (t.r+1) NQ ML MD x (qEj t.ws IS NQ) _ OX (Nat.le_trans (qEt _ _ _) (by decide))).mono ?_
    rintro e w26 ⟨y,rfl,oy,b⟩
    have z_w26:=b.size
    obtain⟨TK1,RM1,RZT1,BW1,MS1,N1,LV1,TX1⟩:=cy8 (TK1.out.later b) (RM1.out.later b) (RZT1.out.later b) (qAa BW1.out b) (ownL MS1.out b) (N1.out.later b) (ownL LV1.out b) (ownT TX1.out b)
    obtain⟨GG,NI,FZq,OX⟩:=cy4 (GG.out.later b) (NI.out.below b) (FZq.out.below b) (ownL OX.out b)
    clear b
    have OY:=Ag (oy.down (Nat.zero_le _))
    clear oy
    go_wp2_with (first|(refine qCk rfl 30 _ _ rfl g 10 rfl 32 _ GG.out (tX t.c (t.r+1) NQ ML MD y) rfl (by simp) Tryz.sizeT rfl (mX m.id m.rid u.ms n lv2 tx2 t.r t.a LI m.he t.c (t.r+1) NQ ML MD y) rfl ?_;intro w27 OB TB;have z_w27:w26.heap.size≤w27.heap.size:=Nat.le_of_eq TB.size.symm;have TK1:=Ag (TK1.out.turn TB (by omega));have RM1:=Ag (RM1.out.turn TB (by omega));have RZT1:=Ag (RZT1.out.turn TB (by omega));have BW1:=Ag (BW1.out.trans (TB.below (by omega)));have MS1:=Ag (MS1.out.past GG.out TB (by decide));have N1:=Ag (N1.out.turn TB (by omega));have LV1:=Ag (LV1.out.past GG.out TB (by decide));have TX1:=Ag (TX1.out.past GG.out TB (by decide));have NI:=Ag (NI.out.past GG.out TB (by decide));have FZq:=Ag (FZq.out.past GG.out TB (by decide));have OX:=Ag (OX.out.past GG.out TB (by decide));have OY:=Ag (OY.out.past GG.out TB (by decide));have GG:=Ag OB;clear OB TB;refine Stp.here ?_))
    refine Stp.go ?_
    go_wp2_with fail
    have c27:Below w27.heap.size w27 w27.drew:=(Below.refl _ _).drew
    refine wp_region_held_drew (S:=fun w'=>Bx w' g 32 (mX m.id m.rid u.ms n lv2 tx2 t.r t.a LI m.he t.c (t.r+1) NQ ML MD y)∧Bx w' gn 30 (tX t.c (t.r+1) NQ ML MD x)) (by kernel_rfl) ⟨GG.out.later c27,N1.out.later c27⟩ (fun Ah=>?_)
    refine tkH (i:=0) (v:=_) rfl (by kernel_rfl) (fun _ _ _ h=>h) (qBp (by rfl) 32 _ rfl g 0 rfl 32 _ (fun w hS=>hS.1) (mX m.id m.rid u.ms n lv2 tx2 t.r t.a LI m.he t.c (t.r+1) NQ ML MD y) rfl _ Tryz.underlying32 rfl Tryz.sizeM) Ah ?_
    try simp only[Act.put,Aa,Ab,Ac,Ad,Ae,Af]
    refine tkQ 1 rfl (by kernel_rfl) (by rfl) (fun _ _=>by simp only[Aa,Ab,Ac];go_simp;try with_reducible rfl) Ah ?_ fun _ _ _ h=>h
    try simp only[Act.put,Aa,Ab,Ac,Ad,Ae,Af]
    refine tkH (i:=2) (v:=_) rfl (by kernel_rfl) (fun _ _ _ h=>h) (qBp (by rfl) 30 _ rfl gn 0 rfl 30 _ (fun w hS=>hS.2) (tX t.c (t.r+1) NQ ML MD x) rfl _ Tryz.underlying30 rfl Tryz.sizeT) Ah ?_
    try simp only[Act.put,Aa,Ab,Ac,Ad,Ae,Af]
    refine wpAnyH_ready (rs:=[3]) (by kernel_rfl) (by simp) ?_
    refine AllReadyH.cons (i:=3) rfl (fun K hK=>?_) AllReadyH.nil
    rw[if_pos (by rfl)]
    simp only[Aa,Ab,Ac]
    obtain⟨TK1,RM1,RZT1,BW1,MS1,N1,LV1,TX1⟩:=cy8 (TK1.out.later c27) (RM1.out.later c27) (RZT1.out.later c27) (qAa BW1.out c27) (ownL MS1.out c27) (N1.out.later c27) (ownL LV1.out c27) (ownT TX1.out c27)
    obtain⟨GG,NI,FZq,OX,OY⟩:=cy5 (GG.out.later c27) (NI.out.below c27) (FZq.out.below c27) (ownL OX.out c27) (ownL OY.out c27)
    clear c27
    refine qAm 32 _ _ rfl (w.heap.size+2) (by rfl) 32 _ RM1.out (mX m.id m.rid u.ms n lv2 tx2 t.r t.a LI m.he t.c (t.r+1) NQ ML MD y) (by rfl) rfl Tryz.sizeM rfl ?_
    intro w28 k28 t28
    obtain⟨TK1,RZT1,BW1,MS1,N1,LV1,TX1,GG⟩:=cy8 (TK1.out.turn t28 (by omega)) (RZT1.out.turn t28 (by omega)) (BW1.out.trans (t28.below (by omega))) (MS1.out.past RM1.out t28 (by decide)) (N1.out.turn t28 (by omega)) (LV1.out.past RM1.out t28 (by decide)) (TX1.out.past RM1.out t28 (by decide)) (GG.out.turn t28 (by omega))
    obtain⟨NI,FZq,OX,OY,RM1⟩:=cy5 (NI.out.past RM1.out t28 (by decide)) (FZq.out.past RM1.out t28 (by decide)) (OX.out.past RM1.out t28 (by decide)) (OY.out.past RM1.out t28 (by decide)) k28
    refine hK.out _ _ (⟨GG.out,N1.out⟩) (fun Ah=>?_)
    clear hK K
    try simp only[Act.put,Aa,Ab,Ac,Ad,Ae,Af]
    clear k28 t28
    refine tkQ 4 rfl (by kernel_rfl) (by rfl) (fun _ _=>by simp only[Aa,Ab,Ac];go_simp;try with_reducible rfl) Ah ?_ fun _ _ _ h=>h
    try simp only[Act.put,Aa,Ab,Ac,Ad,Ae,Af]
    refine wpAnyH_ready (rs:=[5]) (by kernel_rfl) (by simp) ?_
    refine AllReadyH.cons (i:=5) rfl (fun K hK=>?_) AllReadyH.nil
    rw[if_pos (by rfl)]
    simp only[Aa,Ab,Ac]
    refine qAm 30 _ _ rfl (w.heap.size+3) (by rfl) 30 _ RZT1.out (tX t.c (t.r+1) NQ ML MD x) (by rfl) rfl Tryz.sizeT rfl ?_
    intro w29 k29 t29
    obtain⟨TK1,RM1,BW1,MS1,N1,LV1,TX1,GG⟩:=cy8 (TK1.out.turn t29 (by omega)) (RM1.out.turn t29 (by omega)) (BW1.out.trans (t29.below (by omega))) (MS1.out.past RZT1.out t29 (by decide)) (N1.out.turn t29 (by omega)) (LV1.out.past RZT1.out t29 (by decide)) (TX1.out.past RZT1.out t29 (by decide)) (GG.out.turn t29 (by omega))
    obtain⟨NI,FZq,OX,OY,RZT1⟩:=cy5 (NI.out.past RZT1.out t29 (by decide)) (FZq.out.past RZT1.out t29 (by decide)) (OX.out.past RZT1.out t29 (by decide)) (OY.out.past RZT1.out t29 (by decide)) k29
    refine hK.out _ _ (⟨GG.out,N1.out⟩) (fun Ah=>?_)
    clear hK K
    try simp only[Act.put,Aa,Ab,Ac,Ad,Ae,Af]
    clear k29 t29
    refine tkQ 6 rfl (by kernel_rfl) (by rfl) (fun _ _=>by simp only[Aa,Ab,Ac];go_simp;try with_reducible rfl) Ah ?_ fun _ _ _ h=>h
    try simp only[Act.put,Aa,Ab,Ac,Ad,Ae,Af]
    refine wpAnyH_done (by kernel_rfl) ?_ _
    go_wp2_with fail
    refine bodyPost_ret (qBw Tryz.results12 (w.heap.size+2) 32 (mX m.id m.rid u.ms n lv2 tx2 t.r t.a LI m.he t.c (t.r+1) NQ ML MD y) _ rfl RM1.out Tryz.underlying32 rfl Tryz.sizeM (w.heap.size+3) 30 (tX t.c (t.r+1) NQ ML MD x) _ rfl RZT1.out Tryz.underlying30 rfl Tryz.sizeT) rfl ?_
    have hNX:sTok m t=⟨t.c,t.r+1,NQ,ML,MD,qEj t.ws IS NQ⟩:=by unfold sTok;rw[←HNQ.out,←HNA.out,←HIS.out,←HAR.out,←HML.out,←HMD.out]
    have hHE:m.sheld t=⟨m.id,m.rid,m.ms,IS,m.lv.drop L.length,m.tx.drop L.length,t.r,t.a,LI,m.he,⟨t.c,t.r+1,NQ,ML,MD,qEj t.ws IS NQ⟩⟩:=by unfold Mt.sheld;rw[hNX,←HIS.out,←HL.out,←HAR.out,HLI.out]
    refine⟨⟨u.ms,n,lv2,tx2,y⟩,fs,x,?_,?_,?_,?_,BW1.out⟩
    ·rw[hHE,hNX];rfl
    ·rw[hHE];exact⟨MS1.out.down (Nat.zero_le _),NI.out,LV1.out,TX1.out,OY.out⟩
    ·unfold qDd;rw[←HL.out];exact FZq.out
    ·rw[hNX];exact OX.out)
structure Wp where
 rid:Int
 ms:List Int
 ma:List Mt
 fl:List Fl
 he:List (List It)
 sa:List It
def Wv.pl(k:Wv):Wp:=⟨k.rid,k.ms,k.ma.map (·.1),k.fl.map (·.1),k.he.map (·.1),k.sa⟩
theorem wp_ld1{P:Program}{w:World}{o:Oper}{a:Act}{Q:Exit→Act→World→Prop}{K:Act→World→Prop}(ty:TypeId)(x:Operand)(ho:o.op=.load ty x)(g off:Nat)(hx:a.eval x=.pointer (some ⟨g,off,none⟩))(T:Nat)(all:List Value)(hB:Bx w g T all)(u:Value)(hu:all[off]? =some u)
  (d:TypeDesc) (ht:P.underlying ty=some d) (hd:d.isRow=false) (h:K (a.put o.dst u) w):o.wp P a w K Q:=by
 unfold Oper.wp execOp
 simp only[ho,hx,Sem.run_bind,run_ld1 hB off u hu ty d ht hd,Result.andThen_ok,Sem.run_pure]
 exact h
theorem qEu{w w':World}{g h off:Nat}{cs:List Value}(hr:w.rangeAt h off cs)(hl:h<w.heap.size)(k:KeepBut g w w')(hne:h≠g):w'.rangeAt h off cs:=fun j v hv=>by
 have h1:=hr j v hv
 have h2:=k.block h hl hne
 rw[←h1]
 unfold World.cell?
 simp only[h2]
theorem qBi{m:Mt}(h:m.ok=true):MtS m:=by
 obtain⟨hr,_,hi,hs,_,_,_,_,hl⟩:=qAs h
 have h1:=(qAq hr).2.2.2
 have h2:=qCt hi
 unfold sayB at hs
 simp only[Bool.and_eq_true,decide_eq_true_eq]at hs
 obtain⟨s1,s2,s3,s4⟩:=hs
 have hw:m.la.ws.length≤20:=by
  rw[Bool.or_eq_true]at hl
  rcases hl with h|h
  ·unfold ntB at h;simp only[Bool.and_eq_true,beq_iff_eq]at h;omega
  ·unfold tkB wB at h;simp only[Bool.and_eq_true,decide_eq_true_eq]at h;omega
 refine⟨by omega,by omega,by omega,by omega,by omega,fun x hx=>?_,fun x hx=>?_,by omega⟩
 ·have:=((qEb m.its 0 hi).2 x hx).2
  unfold itB at this
  simp only[Bool.and_eq_true,decide_eq_true_eq]at this
  omega
 ·have:=qFw.1 s4 x hx
  omega
theorem elCome_item(g:Nat)(k:Wv)(i:Nat)(m:Mt)(v:Mv)(d:Int)(t:Tok)(s:Sv)(q0 f0 l0:Int)(t0:ByteArray)(w:World)(h:Hid (WkB w g k))(hk:Hid (WkP w k))(hi:i<k.ma.length)(hm:Hid (k.ma[i]=(m,v)))(hat:Hid (atW (k.ma.map (·.1)) d=(i:Int)))(hok:Hid (m.ok=true))(hl:k.ma.length≤10)(ht0:t0.size≤1048576):
  Calls Tryz.prog 159 #[.pointer (some ⟨g,0,none⟩),.agg #[.int .i64 d,.bool false,.int .i64 t.c,.int .i64 t.r,.int .i64 t.q,.int .i64 t.a,.int .i64 t.b,.slice s.a s.n s.c,.int .i64 q0,.int .i64 f0,.int .i64 l0,.string t0]] w fun e w'=>e=.returned (.int .i64 0)∧∃(u:Mv) (z:Sv),WkB w' g (k.setM i (m.cat (q0,f0,l0,t0)) u z)∧WkP w' (k.setM i (m.cat (q0,f0,l0,t0)) u z)∧KeepBut g w w':=by
 have zg:g<w.heap.size:=Bx.lt h.out
 have hsz:Hid (MtS m):=qBi hok.out
 have b0:=bA w (.cells #[.int .i64 d,.bool false,.int .i64 t.c,.int .i64 t.r,.int .i64 t.q,.int .i64 t.a,.int .i64 t.b,.slice s.a s.n s.c,.int .i64 q0,.int .i64 f0,.int .i64 l0,.string t0] 68)
 obtain⟨FB,G0,P0,B0⟩:=cy4 (Bx.new w 68 [.int .i64 d,.bool false,.int .i64 t.c,.int .i64 t.r,.int .i64 t.q,.int .i64 t.a,.int .i64 t.b,.slice s.a s.n s.c,.int .i64 q0,.int .i64 f0,.int .i64 l0,.string t0]) (h.out.later b0) (hk.out.below b0) b0
 have f00:=FB.out.cell 0
 have d0:decide ((i:Int)<0)=false:=by simp
 clear b0 h hk
 go_enter Tryz.func159,Tryz.ntmps159
 go_wp2_with fail
 have zW:w.heap.size<(w.alloc (.cells #[.int .i64 d,.bool false,.int .i64 t.c,.int .i64 t.r,.int .i64 t.q,.int .i64 t.a,.int .i64 t.b,.slice s.a s.n s.c,.int .i64 q0,.int .i64 f0,.int .i64 l0,.string t0] 68)).heap.size:=FB.out.lt
 generalize (w.alloc (.cells #[.int .i64 d,.bool false,.int .i64 t.c,.int .i64 t.r,.int .i64 t.q,.int .i64 t.a,.int .i64 t.b,.slice s.a s.n s.c,.int .i64 q0,.int .i64 f0,.int .i64 l0,.string t0] 68))=W at *
 refine(qCj g k d _ G0 P0.out.ma (by omega)).mono ?_
 rintro e w1 ⟨rfl,b⟩
 rw[hat.out]
 obtain⟨FB,G1,P1,B1⟩:=cy4 (FB.out.later b) (G0.out.later b) (P0.out.below b) (qAa B0.out b)
 have z1:=b.size
 clear b G0 P0 B0 f00
 have f1:=FB.out.cell 1
 obtain⟨_,gm,off,ha,_,hgl,hr⟩:=P1.out.ma.row hi
 have HR:Hid (w1.rangeAt gm (off+i * 16) (mC m v)):=(by have e:=hm.out;rw[e]at hr;exact hr:World.rangeAt _ _ _ _)
 have hgm:gm≠g:=P1.out.ma.1.box_ne G1.out (by decide) gm (by simp[Sv.v,Value.ownBlock,ha])
 have HMP:Hid (MtP w1 m v):=(by have:=P1.out.ma.2 k.ma[i] (List.getElem_mem hi);rw[hm.out]at this;exact this:MtP _ _ _)
 have G1a:Hid (Bx w1 g 56 [.int .i64 k.rid,.slice k.mv.a k.mv.n k.mv.c,.slice (some ⟨gm,off,none⟩) k.mav.n k.mav.c,.slice k.flv.a k.flv.n k.flv.c,.slice k.hev.a k.hev.n k.hev.c,.slice k.sav.a k.sav.n k.sav.c]):=(by have G2:=G1.out;unfold WkB at G2;rw[ha]at G2;exact G2:Bx _ _ _ _)
 have HMN:Hid (k.mav.n=k.ma.length):=P1.out.ma.len
 have hin:i<k.mav.n:=by have:=HMN.out;omega
 have i0:(0:Int)≤(i:Int):=by omega
 have i1:(i:Int)<(k.mav.n:Int):=by omega
 clear hr ha
 go_wp2_with fail
 clear f1
 have cS:Below w1.heap.size w1 w1.drew:=(Below.refl _ _).drew
 refine wp_region_held_drew (S:=fun w'=>w'.rangeAt gm (off+i * 16) (mC m v)∧Bx w' w.heap.size 68 [.int .i64 d,.bool false,.int .i64 t.c,.int .i64 t.r,.int .i64 t.q,.int .i64 t.a,.int .i64 t.b,.slice s.a s.n s.c,.int .i64 q0,.int .i64 f0,.int .i64 l0,.string t0]) (by kernel_rfl) ⟨qAk HR.out hgl cS,FB.out.later cS⟩ (fun Ah=>?_)
 refine tkQ 0 rfl (by kernel_rfl) (by rfl) (fun _ _=>by simp only[Aa,Ab,Ac];go_simp;try with_reducible rfl) Ah ?_ fun _ _ _ h=>h
 try simp only[Act.put,Aa,Ab,Ac,Ad,Ae,Af]
 refine tkQ 1 rfl (by kernel_rfl) (by rfl) (fun _ _=>by simp only[Aa,Ab,Ac];go_simp;try with_reducible rfl) Ah ?_ fun _ _ _ h=>h
 try simp only[Act.put,Aa,Ab,Ac,Ad,Ae,Af]
 refine tkQ 2 rfl (by kernel_rfl) (by rfl) (fun _ _=>by simp only[Aa,Ab,Ac];go_simp;try with_reducible rfl) Ah ?_ fun _ _ _ h=>h
 try simp only[Act.put,Aa,Ab,Ac,Ad,Ae,Af]
 refine tkQ 3 rfl (by kernel_rfl) (by rfl) (fun _ _=>by simp only[Aa,Ab,Ac];go_simp;try with_reducible rfl) Ah ?_ fun _ _ _ h=>h
 try simp only[Act.put,Aa,Ab,Ac,Ad,Ae,Af]
 refine tkQ 4 rfl (by kernel_rfl) (by rfl) (fun _ _=>by simp only[Aa,Ab,Ac];go_simp;try with_reducible rfl) Ah ?_ fun _ _ _ h=>h
 try simp only[Act.put,Aa,Ab,Ac,Ad,Ae,Af]
 refine tkQ 6 rfl (by kernel_rfl) (by rfl) (fun _ _=>by simp only[Aa,Ab,Ac];go_simp;try with_reducible rfl) Ah ?_ fun _ _ _ h=>h
 try simp only[Act.put,Aa,Ab,Ac,Ad,Ae,Af]
 refine tkQ 9 rfl (by kernel_rfl) (by rfl) (fun _ _=>by simp only[Aa,Ab,Ac];go_simp;try with_reducible rfl) Ah ?_ fun _ _ _ h=>h
 try simp only[Act.put,Aa,Ab,Ac,Ad,Ae,Af]
 refine tkH (i:=10) (v:=_) rfl (by kernel_rfl) (fun _ _ _ h=>h) (qBp (by rfl) 41 _ rfl w.heap.size 8 rfl 68 _ (fun w hS=>hS.2) [.int .i64 q0,.int .i64 f0,.int .i64 l0,.string t0] rfl _ Tryz.underlying41 rfl Tryz.sizeI) Ah ?_
 try simp only[Act.put,Aa,Ab,Ac,Ad,Ae,Af]
 refine wpAnyH_ready (rs:=[5]) (by kernel_rfl) (by simp) ?_
 refine AllReadyH.cons (i:=5) rfl (fun K hK=>?_) AllReadyH.nil
 rw[if_pos (by rfl)]
 simp only[Aa,Ab,Ac]
 refine wp_ld1 52 _ rfl g 2 (by rfl) 56 _ (G1a.out.later cS) (.slice (some ⟨gm,off,none⟩) k.mav.n k.mav.c) rfl _ Tryz.underlying52 rfl ?_
 refine hK.out _ _ (⟨qAk HR.out hgl cS,FB.out.later cS⟩) (fun Ah=>?_)
 clear hK K
 try simp only[Act.put,Aa,Ab,Ac,Ad,Ae,Af]
 refine tkQ 7 rfl (by kernel_rfl) (by rfl) (fun _ _=>by simp only[Aa,Ab,Ac];go_simp;try with_reducible rfl) Ah ?_ fun _ _ _ h=>h
 try simp only[Act.put,Aa,Ab,Ac,Ad,Ae,Af]
 refine tkH (i:=8) (v:=_) rfl (by kernel_rfl) (fun _ _ _ h=>h) (qDa (by rfl) 32 _ rfl gm (off+i * 16) (by rfl) (mC m v) (fun w hS=>hS.1) _ Tryz.underlying32 rfl Tryz.sizeM) Ah ?_
 try simp only[Act.put,Ad,Ae,Af]
 refine wpAnyH_ready (rs:=[11]) (by kernel_rfl) (by simp) ?_
 refine AllReadyH.cons (i:=11) rfl (fun K hK=>?_) AllReadyH.nil
 rw[if_pos (by rfl)]
 simp only[Aa,Ab,Ac]
 go_simp
 refine(spCatch_any m v q0 f0 l0 t0 _ (show Hid (MtP w1.drew m v)from HMP.out.later cS) hsz ht0).mono ?_
 rintro e w2 ⟨u,rfl,ou,b2⟩
 have c2:=qAa cS b2
 obtain⟨MU,G2,P2⟩:=cy3 (ou.p) (G1.out.later c2) (P1.out.below c2)
 refine hK.out _ _ (⟨qAk HR.out hgl c2,FB.out.later c2⟩) (fun Ah=>?_)
 clear hK K
 try simp only[Act.put,Aa,Ab,Ac,Ad,Ae,Af]
 clear b2 ou
 refine wpAnyH_ready (rs:=[12]) (by kernel_rfl) (by simp) ?_
 refine AllReadyH.cons (i:=12) rfl (fun K hK=>?_) AllReadyH.nil
 rw[if_pos (by rfl)]
 simp only[Aa,Ab,Ac]
 go_simp
 refine(qEv g k i (m.cat (q0,f0,l0,t0)) u _ G2 P2 MU hi (by omega)).mono ?_
 rintro e w3 ⟨rfl,z,g3,p3,k3⟩
 have c3:KeepBut g w1 w3:=(qAc c2).trans k3
 refine hK.out _ _ (⟨qEu HR.out hgl c3 hgm,FB.out.keepb c3 (by omega)⟩) (fun Ah=>?_)
 clear hK K
 try simp only[Act.put,Aa,Ab,Ac,Ad,Ae,Af]
 refine wpAnyH_done (by kernel_rfl) ?_ _
 go_wp2_with fail
 go_ret
 exact⟨rfl,u,z,g3,p3,(qAc B1.out).trans c3⟩
def hearW(p:Wp)(i:Nat)(m:Mt):Wp:=⟨p.rid,p.ms,p.ma.set i m.hadH,p.fl,p.he.set i (p.he.getD i []++m.hear),p.sa⟩
theorem setCells_one(w:World)(g o:Nat)(v:Value):w.setCells g o [v]=w.setCell ⟨g,o,none⟩ v:=rfl
theorem qBt{P:Program}{w:World}{ops:Array Oper}{rest:List Oper}{o:Oper}{a:Act}{Q:Exit→Act→World→Prop}(hgd:o.guard=none)(ty:TypeId)(x:Operand)(ho:o.op=.load ty x)(g off:Nat)(hx:a.eval x=.pointer (some ⟨g,off,none⟩))(cs:List Value)(hr:w.rangeAt g off cs)
  (d:TypeDesc) (hu:P.underlying ty=some d) (hd:d.isRow=true) (hi:(P.info? ty).map (·.size)=some cs.length) (h:wpList P ops Q rest (a.put o.dst (.agg cs.toArray)) w):wpList P ops Q (o::rest) a w:=
 wpList_load_mid hgd ty x ho g off hx cs d hr hu hd hi h
theorem elHear_any(g:Nat)(k:Wv)(i:Nat)(m:Mt)(v:Mv)(w:World)(h:Hid (WkB w g k))(hk:Hid (WkP w k))(hi:i<k.ma.length)(hm:Hid (k.ma[i]=(m,v)))(hok:Hid (m.ok=true))(hl:k.ma.length≤10)(hhe:k.he.length=k.ma.length)(hhl:Hid (∀e∈k.he,e.1.length≤1000000)):
  Calls Tryz.prog 157 #[.pointer (some ⟨g,0,none⟩),.int .i64 (i:Int)] w fun e w'=>e=.returned (.tuple #[])∧∃k':Wv,WkB w' g k'∧WkP w' k'∧k'.pl=hearW k.pl i m∧KeepBut g w w':=by
 have zg:g<w.heap.size:=Bx.lt h.out
 have hsz:Hid (MtS m):=qBi hok.out
 obtain⟨_,gm,off,ha,_,hgl,hr⟩:=hk.out.ma.row hi
 have HR:Hid (w.rangeAt gm (off+i * 16) (mC m v)):=(by have e:=hm.out;rw[e]at hr;exact hr:World.rangeAt _ _ _ _)
 have HMP:Hid (MtP w m v):=(by have:=hk.out.ma.2 k.ma[i] (List.getElem_mem hi);rw[hm.out]at this;exact this:MtP _ _ _)
 have G1a:Hid (Bx w g 56 [.int .i64 k.rid,.slice k.mv.a k.mv.n k.mv.c,.slice (some ⟨gm,off,none⟩) k.mav.n k.mav.c,.slice k.flv.a k.flv.n k.flv.c,.slice k.hev.a k.hev.n k.hev.c,.slice k.sav.a k.sav.n k.sav.c]):=(by have G2:=h.out;unfold WkB at G2;rw[ha]at G2;exact G2:Bx _ _ _ _)
 have HMN:Hid (k.mav.n=k.ma.length):=hk.out.ma.len
 have HHE:Hid (k.he.length=k.ma.length):=hhe
 have hin:i<k.mav.n:=by have:=HMN.out;omega
 have i0:(0:Int)≤(i:Int):=by omega
 have i1:(i:Int)<(k.mav.n:Int):=by omega
 have hlh:m.hear.length≤60:=by
  obtain⟨_,_,hIg,_,_,_,_,hHe,_⟩:=qAs hok.out
  have h1:=qEm m.its m.li ((aruP m.its:Int) - m.he).toNat m.he
  have h2:=aru_60 hIg
  unfold Mt.hear
  omega
 have c2:=G1a.out.cell 2
 clear hr ha hhe
 go_enter Tryz.func157,Tryz.ntmps157
 go_wp2_with (first|(refine qBt rfl 32 _ rfl gm (off+i * 16) rfl (mC m v) HR.out _ Tryz.underlying32 rfl Tryz.sizeM ?_))
 refine(spHear_yes m v _ HMP hsz hok).mono ?_
 rintro e w1 ⟨u,s,hh,hH,rfl,ou,os,_,b⟩
 have HH:Hid (hh=m.he+m.hear.length):=hH
 have OU:=Ag (ou.p)
 have OS:Hid (SlI w1 0 s.v m.hear):=SlI.down os (Nat.zero_le _)
 obtain⟨G1,P1⟩:=cy2 (h.out.later b) (hk.out.below b)
 have B1:Hid (Below w.heap.size w w1):=b
 have z1:=b.size
 clear hH ou os b c2
 have hz:=Ag (Bx.new w1 32 [.int .i64 0,.int .i64 0,.slice none 0 0,.slice none 0 0,.slice none 0 0,.slice none 0 0,.int .i64 0,.int .i64 0,.int .i64 0,.int .i64 0,.int .i64 0,.int .i64 0,.int .i64 0,.int .i64 0,.int .i64 0,.slice none 0 0])
 go_wp2_with (first|(refine qAd rfl 32 _ _ rfl w1.heap.size rfl 32 _ hz.out [.int .i64 m.id,.int .i64 m.rid,.slice u.ms.a u.ms.n u.ms.c,.slice u.its.a u.its.n u.its.c,.slice u.lv.a u.lv.n u.lv.c,.slice u.tx.a u.tx.n u.tx.c,.int .i64 m.rd,.int .i64 m.se,.int .i64 m.li,.int .i64 hh,.int .i64 m.la.c,.int .i64 m.la.r,.int .i64 m.la.q,.int .i64 m.la.a,.int .i64 m.la.b,.slice u.ws.a u.ws.n u.ws.c] rfl rfl Tryz.sizeM rfl ?_;intro w2 OB TB;have b:Below w1.heap.size w1 w2:=((Below.refl _ _).alloc (Nat.le_refl _) _).trans (TB.below (Nat.le_refl _));have HG:=Ag OB;clear OB TB;refine Stp.here ?_))
 refine Stp.go ?_
 obtain⟨OU,OS,G2,P2,B2⟩:=cy5 (OU.out.later b) (OS.out.below b) (G1.out.later b) (P1.out.below b) (qAa B1.out b)
 have z2:=b.size
 clear b hz G1 P1 B1
 generalize w1.heap.size=gx at *
 go_wp2_with (first|(refine qAb rfl 32 _ rfl gx 0 rfl 32 _ HG.out (mX m.id m.rid u.ms u.its u.lv u.tx m.rd m.se m.li hh m.la.c m.la.r m.la.q m.la.a m.la.b u.ws) rfl _ Tryz.underlying32 rfl Tryz.sizeM ?_))
 have EM:Hid (∀W',WkB W' g k→True):=fun _ _=>trivial
 have eHH:(m.hadH).he=hh:=HH.out.symm
 refine(show Calls Tryz.prog 156 #[.pointer (some ⟨g,0,none⟩),.int .i64 (i:Int),.agg #[.int .i64 m.id,.int .i64 m.rid,.slice u.ms.a u.ms.n u.ms.c,.slice u.its.a u.its.n u.its.c,.slice u.lv.a u.lv.n u.lv.c,.slice u.tx.a u.tx.n u.tx.c,.int .i64 m.rd,.int .i64 m.se,.int .i64 m.li,.int .i64 hh,.int .i64 m.la.c,.int .i64 m.la.r,.int .i64 m.la.q,.int .i64 m.la.a,.int .i64 m.la.b,.slice u.ws.a u.ws.n u.ws.c]] w2 (fun e w'=>e=.returned (.tuple #[])∧∃s:Sv,WkB w' g (k.setM i m.hadH u s)∧WkP w' (k.setM i m.hadH u s)∧KeepBut g w2 w')from by rw[←eHH];exact qEv g k i m.hadH u _ G2 P2 OU hi (by omega)).mono ?_
 rintro e w3 ⟨rfl,mz,g3,p3,k3⟩
 have G3:=Ag g3
 have P3:Hid (WkP w3 (k.setM i m.hadH u mz)):=p3
 have OS:=Ag (SlI.keepb OS.out G2.out k3 (by decide))
 have K3:Hid (KeepBut g w w3):=(qAc B2.out).trans k3
 have z3:=k3.size
 clear g3 p3 k3 HG OU G2 P2 B2 EM eHH
 -- the lists heard, copied
 have b:=bA w3 (.cells #[] 27)
 have S4:Hid (SlN (w3.alloc (.cells #[] 27)) 27 1 w3.heap.size (.slice (some ⟨w3.heap.size,0,none⟩) 0 0) []):=SlN.made w3 27 1 w3.heap.size (Nat.le_refl _)
 have G4:=Ag (G3.out.later b)
 have H4:Hid (HsP (w3.alloc (.cells #[] 27)) 0 k.hev.v k.he):=P3.out.he.below b
 have B4:=Ag b
 have c4:=G4.out.cell 4
 have hll:([]:List (List Value)).length+(k.he.map hcel).length≤1048577:=by have:=HHE.out;simp;omega
 have zW:w3.heap.size≤(w3.alloc (.cells #[] 27)).heap.size:=b.size
 clear b
 go_wp2_with (first|(at_builtin;refine Stp.here ?_))
 refine Stp.go ?_
 generalize w3.alloc (.cells #[] 27)=W4 at *
 refine qFc rfl _ _ 54 rfl _ 24 Tryz.underlying54 Tryz.infoIt rfl (by decide) w3.heap.size (.slice (some ⟨w3.heap.size,0,none⟩) 0 0) [] rfl S4.out 0 (.slice k.hev.a k.hev.n k.hev.c) (k.he.map hcel) rfl H4.out.1 hll zW ?_
 intro v5 w5 s5 g5 b5 _
 rw[List.nil_append]at s5
 have B5:=Ag (B4.out.trans b5)
 have hi5:i<(k.he.map hcel).length:=by have:=HHE.out;simp;omega
 have hie:i<k.he.length:=by have:=HHE.out;omega
 obtain⟨gh,oh,ch,hv5,hb5,hl5,hr5⟩:=s5.read hi5
 subst hv5
 have S5:Hid (SlN w5 27 1 w3.heap.size (.slice (some ⟨gh,oh,none⟩) k.he.length ch) (k.he.map hcel)):=(by rw[←List.length_map (f:=hcel)];exact s5:SlN _ _ _ _ _ _)
 obtain⟨⟨eh,sh⟩,hee⟩: ∃e,k.he[i]=e:=⟨_,rfl⟩
 have HEE:Hid (k.he[i]=(eh,sh)):=hee
 have hc5:w5.cell? ⟨gh,oh+i,none⟩=some (.slice sh.a sh.n sh.c):=by have:=qCx hr5 0 (v:=.slice sh.a sh.n sh.c) (by simp[hee,hcel]);simpa using this
 have HC5:Hid (w5.cell? ⟨gh,oh+i,none⟩=some (.slice sh.a sh.n sh.c)):=hc5
 have E5:Hid (SlI w5 0 sh.v eh):=(by have:=P3.out.he.2 k.he[i] (List.getElem_mem hie);rw[hee]at this;exact this.below B5.out:SlI _ _ _ _)
 have OS:=Ag (OS.out.below B5.out)
 have ehl:eh.length≤1000000:=by have:=hhl.out k.he[i] (List.getElem_mem hie);rw[hee]at this;exact this
 clear s5 g5 b5 S4 G4 H4 B4 c4 hll zW hr5 hee
 simp only[List.length_map]
 have i2:(i:Int)<(k.he.length:Int):=by omega
 -- the one list, made longer
 have b:=bA w5 (.cells #[] 41)
 have S6:Hid (SlI (w5.alloc (.cells #[] 41)) w5.heap.size (.slice (some ⟨w5.heap.size,0,none⟩) 0 0) []):=SlI.made w5 w5.heap.size (Nat.le_refl _)
 have E6:=Ag (E5.out.below b)
 have hc6:(w5.alloc (.cells #[] 41)).cell? ⟨gh,oh+i,none⟩=some (.slice sh.a sh.n sh.c):=(b.cell (p:=⟨gh,oh+i,none⟩) hl5).trans hc5
 have OS6:=Ag (OS.out.below b)
 have zW6:w5.heap.size≤(w5.alloc (.cells #[] 41)).heap.size:=b.size
 have B6:=Ag b
 clear b hc5
 go_wp2_with (first|(at_builtin;refine Stp.here ?_))
 refine Stp.go ?_
 clear hc6
 generalize w5.alloc (.cells #[] 41)=W6 at *
 refine qCs rfl _ _ 27 rfl Tryz.underlying27 w5.heap.size (.slice (some ⟨w5.heap.size,0,none⟩) 0 0) [] rfl S6.out (.slice sh.a sh.n sh.c) eh rfl E6.out.rit (by simp;omega) zW6 ?_
 intro v7 w7 s7 g7 _
 rw[List.nil_append]at s7
 have B7:Hid (Below w5.heap.size w5 w7):=B6.out.grown g7 zW6 (fun n hn=>(S6.out.lt n hn).1)
 have S7:Hid (SlI w7 w5.heap.size v7 eh):=s7
 have OS7:=Ag (OS.out.below B7.out)
 have zW7:w5.heap.size≤w7.heap.size:=B7.out.size
 clear s7 g7 S6 E6 OS6 B6 zW6
 go_wp2_with (first|(at_builtin;refine Stp.here ?_))
 refine Stp.go ?_
 refine qCs rfl _ _ 27 rfl Tryz.underlying27 w5.heap.size v7 eh rfl S7.out (.slice s.a s.n s.c) m.hear rfl OS7.out.rit (by omega) zW7 ?_
 intro v8 w8 s8 g8 _
 obtain⟨z8,hz8⟩:=SlI.sv s8
 subst hz8
 have B8:Hid (Below w5.heap.size w5 w8):=B7.out.grown g8 zW7 (fun n hn=>(S7.out.lt n hn).1)
 have S8:Hid (SlI w8 0 z8.v (eh++m.hear)):=SlI.down s8 (Nat.zero_le _)
 have SH8:=Ag (S5.out.below B8.out)
 have hc8:w8.cell? ⟨gh,oh+i,none⟩=some (.slice sh.a sh.n sh.c):=(B8.out.cell (p:=⟨gh,oh+i,none⟩) hl5).trans HC5.out
 obtain⟨hth,hst,htn⟩:=SlN.stored (show SlN w8 27 1 w3.heap.size (.slice (some ⟨gh,oh,none⟩) (k.he.map hcel).length ch) (k.he.map hcel) by rw[List.length_map];exact SH8.out) hi5 [.slice z8.a z8.n z8.c] rfl (by simp[Value.oneCell'])
 have hfz:w8.frozen? ⟨gh,oh+i,none⟩=false:=by have:=(hth 0 (by simp)).2;simpa using this
 rw[Nat.mul_one,setCells_one]at hst htn
 have HST:Hid (SlN (w8.setCell ⟨gh,oh+i,none⟩ (.slice z8.a z8.n z8.c)) 27 1 w3.heap.size (.slice (some ⟨gh,oh,none⟩) k.he.length ch) ((k.he.map hcel).set i [.slice z8.a z8.n z8.c])):=(by rw[List.length_map]at hst;exact hst:SlN _ _ _ _ _ _)
 have HTN:Hid (TurnAt gh w8 (w8.setCell ⟨gh,oh+i,none⟩ (.slice z8.a z8.n z8.c))):=htn
 clear s8 g8 hth hst htn
 have B9:=Ag ((B5.out.trans (B8.out.mono B5.out.size)).trans (HTN.out.below hb5))
 have S9:Hid (SlI (w8.setCell ⟨gh,oh+i,none⟩ (.slice z8.a z8.n z8.c)) 0 z8.v (eh++m.hear)):=SlI.keep S8.out fun n hn _=>HTN.out.block n (fun e=>by
  obtain⟨cs,hcs⟩:=qAp S8.out hn
  obtain⟨cs2,hcs2⟩:=SH8.out.blk (k:=gh) (by simp[Value.ownBlock])
  rw[e,hcs2]at hcs
  simp at hcs)
 have G9:=Ag (G3.out.later B9.out)
 go_wp2_with (first|(refine qAe rfl 54 _ _ rfl g 4 rfl 56 _ G9.out (.slice (some ⟨gh,oh,none⟩) k.he.length ch) rfl (by simp) rfl Tryz.sizeIss [.int .i64 k.rid,.slice k.mv.a k.mv.n k.mv.c,.slice mz.a mz.n mz.c,.slice k.flv.a k.flv.n k.flv.c,.slice (some ⟨gh,oh,none⟩) k.he.length ch,.slice k.sav.a k.sav.n k.sav.c] rfl ?_;intro w9 g9 t9))
 refine bodyPost_end (results_none rfl _ _ _) rfl ?_
 have p:=P3.out.below B9.out
 have P9:WkP (w8.setCell ⟨gh,oh+i,none⟩ (.slice z8.a z8.n z8.c)) ⟨k.rid,k.ms,k.mv,k.ma.set i (m.hadH,u),mz,k.fl,k.flv,k.he.set i (eh++m.hear,z8),⟨some ⟨gh,oh,none⟩,k.he.length,ch⟩,k.sa,k.sav⟩:=by
  refine⟨p.ring,p.ma,p.fl,⟨?_,fun e he=>?_⟩,p.sa⟩
  ·show SlN _ 27 1 0 (.slice (some ⟨gh,oh,none⟩) k.he.length ch) ((k.he.set i (eh++m.hear,z8)).map hcel)
   rw[List.map_set]
   exact SlN.down HST.out (Nat.zero_le _)
  ·rcases List.mem_or_eq_of_mem_set he with he|rfl
   ·exact p.he.2 e he
   ·exact S9.out
 refine⟨rfl,⟨k.rid,k.ms,k.mv,k.ma.set i (m.hadH,u),mz,k.fl,k.flv,k.he.set i (eh++m.hear,z8),⟨some ⟨gh,oh,none⟩,k.he.length,ch⟩,k.sa,k.sav⟩,g9,P9.keepb G9.out t9.keep,?_,K3.out.trans ((qAc B9.out).trans t9.keep)⟩
 simp only[Wv.pl,hearW,List.map_set]
 congr 2
 rw[List.getD_eq_getElem?_getD,List.getElem?_map,List.getElem?_eq_getElem hie,HEE.out]
 rfl
theorem cur_bx{w:World}{T:TypeId}{g n cap:Nat}{ao:Option Addr}(h:CurAt w T g ao n cap): ∃cs,Bx w g T cs:=by
 obtain⟨i,k,_,h2⟩:=h
 exact⟨[.slice ao n cap,.int .i64 i,.int .i64 k],h2⟩
theorem FsP.kt{S:Nat→Prop}{w w':World}{B:Nat}{v:Value}{es:List (Fl × Sv)}(h:FsP w B v es)(k:KeepTy S w w')(h1: ¬S 68)(h3: ¬S 3):FsP w' B v es:=⟨h.1.kt k h1,fun e hh=>(h.2 e hh).kt k h3⟩
theorem WkP.kt{S:Nat→Prop}{w w':World}{q:Wv}(h:WkP w q)(k:KeepTy S w w')(h1: ¬S 32)(h2: ¬S 68)(h3: ¬S 3)(h9: ¬S 9)(hi: ¬S 41)(hj: ¬S 27):WkP w' q:=
 ⟨h.ring.kt k h3,h.ma.kt k h1 h3 h9 hi,h.fl.kt k h2 h3,h.he.kt k hj hi,h.sa.kt k hi⟩
theorem Drw.ty{w0 w w':World}{B g n cap:Nat}{ao:Option Addr}(h:Drw w0 w B g ao n cap)(k:KeepBut g w w'):KeepTy (fun X=>X=141) w w':=by
 obtain⟨cs,hb⟩:=cur_bx h.1
 exact KeepTy.ofKeepBut hb k rfl
theorem Drw.ne{w0 w:World}{B g n cap:Nat}{ao:Option Addr}(h:Drw w0 w B g ao n cap){q T:Nat}{cs:List Value}(hb:Bx w q T cs)(hT:T≠141):q≠g:=fun e=>by
 subst e
 obtain⟨cs',hb'⟩:=cur_bx h.1
 unfold Bx at hb hb'
 rw[hb']at hb
 simp at hb
 exact hT hb.2.symm
theorem Drw.far{w0 w w':World}{B g q n cap:Nat}{ao:Option Addr}(h:Drw w0 w B g ao n cap)(k:KeepBut q w w')(hq:w0.heap.size≤q)(hg:g<w0.heap.size)(hB:B≤g):Hid (Drw w0 w' B g ao n cap):=h.push (k.below hq h.2.2.size) hg hB
theorem qFy{w w':World}{g b j:Nat}{u:Value}(h:w.cell? ⟨b,j,none⟩=some u)(hb:b<w.heap.size)(k:KeepBut g w w')(hne:b≠g):w'.cell? ⟨b,j,none⟩=some u:=by
 rw[←h]
 unfold World.cell?
 rw[k.block b hb hne]
theorem ownI_atC{w:World}{B:Nat}{s:Sv}{xs:List Int}(h:OwnI w B s.v xs)(h0:0<xs.length): ∃mb mo,s.a=Option.some ⟨mb,mo,Option.none⟩∧s.n=xs.length∧∀(j:Nat) (hj:j<xs.length),mb<w.heap.size∧w.cell? ⟨mb,mo+j,Option.none⟩=Option.some (Value.int .i64 xs[j]):=by
 have hn:=h.slen
 obtain⟨ao,c,e,hi⟩:=h.ri
 simp only[Sv.v,Value.slice.injEq]at e
 obtain⟨b,off,e2,_,_⟩:=hi 0 h0
 refine⟨b,off,by rw[e.1,e2],hn,fun j hj=>?_⟩
 rw[e2]at hi
 exact hi.at j hj
end Go.Proofs.YthdjkkiegecgnaaGreat
