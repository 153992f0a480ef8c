/- Joined texts: CTk2 CCtc CTk3 CWc. -/
import Derived.Test.YthdjkkiegecgnaaGreatOq15
import Derived.Test.YthdjkkiegecgnaaGreatOq17
import Derived.Test.YthdjkkiegecgnaaGreatOq13
set_option maxRecDepth 100000
set_option maxHeartbeats 16000000
namespace Go.Proofs.YthdjkkiegecgnaaGreat
open Go.RowKit Pl
set_option linter.unusedSimpArgs false
set_option linter.unusedVariables false
def Mt.putX(m:Mt)(xs:List It):Mt:=⟨m.id,m.rid,m.ms,qBc m.its xs,m.lv,m.tx,m.rd,m.se,m.li,m.he,m.la⟩
def Mv.setI(u:Mv)(s:Sv):Mv:=⟨u.ms,s,u.lv,u.tx,u.ws⟩
structure TakeK (w:World) (g:Nat) (v u:Value) (w':World):Prop where
 os:w'.os=w.os
 tape:w'.tape=w.tape
 output:w'.output=w.output
 size:w.heap.size≤w'.heap.size
 block: ∀k,k<w.heap.size→k≠g→v.ownBlock≠some k→w'.heap[k]? =w.heap[k]?
 o:u.ownBlock=v.ownBlock∨ ∃nb,u.ownBlock=some nb∧w.heap.size≤nb
theorem MtO.past{w w':World}{B g T:Nat}{m:Mt}{v:Mv}{cs:List Value}(h:MtO w B m v)(hB:Bx w g T cs)(ht:TurnAt g w w')(h3:T≠3)(h9:T≠9)(hI:T≠41):MtO w' B m v:=
 ⟨h.ms.past hB ht h3,h.its.past hB ht hI,h.lv.past hB ht h3,h.tx.past hB ht h9,h.ws.past hB ht h3,h.a1,h.a2,h.a3⟩
theorem MtO.keepb{w w':World}{B g T:Nat}{m:Mt}{v:Mv}{cs:List Value}(h:MtO w B m v)(hB:Bx w g T cs)(ht:KeepBut g w w')(h3:T≠3)(h9:T≠9)(hI:T≠41):MtO w' B m v:=
 ⟨h.ms.keepb hB ht h3,h.its.keepb hB ht hI,h.lv.keepb hB ht h3,h.tx.keepb hB ht h9,h.ws.keepb hB ht h3,h.a1,h.a2,h.a3⟩
theorem qKn{w:World}{g:Nat}{q f l:Int}{t:ByteArray}(h:ItAt w g q f l t)(hg:g<w.heap.size):RIt w (Sv.mk (some ⟨g,0,none⟩) 1 1).v [(q,f,l,t)]:=by
 refine⟨_,_,rfl,?_⟩
 intro i hi
 obtain⟨c0,c1,c2,c3⟩:=h.cells
 have:i=0:=by simp at hi;omega
 subst this
 exact⟨g,0,rfl,hg,c0,c1,c2,c3⟩
def Mt.setIt(m:Mt)(ts:List It):Mt:=⟨m.id,m.rid,m.ms,ts,m.lv,m.tx,m.rd,m.se,m.li,m.he,m.la⟩
def Mt.cat(m:Mt)(y:It):Mt:=m.setIt (if m.ok=true then putP m.its y else m.its)
theorem cat_no{m:Mt}{y:It}(h:m.ok=false):m.cat y=m:=by unfold Mt.cat;rw[if_neg (by rw[h];simp)];rfl
theorem cat_yes{m:Mt}{y:It}(h:m.ok=true):m.cat y=m.setIt (putP m.its y):=by unfold Mt.cat;rw[if_pos h]
theorem qHf(s:Sv)(ts:List It)(q f l:Int)(t:ByteArray)(w:World)(h:Hid (RIt w s.v ts))(hl:ts.length≤1048576):
  Calls Tryz.prog 66 #[.slice s.a s.n s.c,.agg #[.int .i64 q,.int .i64 f,.int .i64 l,.string t]] w fun e w'=>∃u:Sv,e=.returned (.slice u.a u.n u.c)∧SlI w' w.heap.size u.v (putP ts (q,f,l,t))∧Below w.heap.size w w':=by
 obtain⟨ao,cap,h1,h2⟩:=h.out;unfold Sv.v at h1;rw[h1]
 exact(qKh ao cap ts q f l t w h2 hl).mono fun e w' ⟨v,a,b,c⟩=>by obtain⟨u,rfl⟩:=b.sv;exact⟨u,a,b,c⟩
theorem spCatch_any(m:Mt)(v:Mv)(q f l:Int)(t:ByteArray)(w:World)(h:Hid (MtP w m v))(hs:Hid (MtS m))(ht:t.size≤1048576):
  Calls Tryz.prog 194 #[.agg #[.int .i64 m.id,.int .i64 m.rid,.slice v.ms.a v.ms.n v.ms.c,.slice v.its.a v.its.n v.its.c,.slice v.lv.a v.lv.n v.lv.c,.slice v.tx.a v.tx.n v.tx.c,.int .i64 m.rd,.int .i64 m.se,.int .i64 m.li,.int .i64 m.he,.int .i64 m.la.c,.int .i64 m.la.r,.int .i64 m.la.q,.int .i64 m.la.a,.int .i64 m.la.b,.slice v.ws.a v.ws.n v.ws.c],.agg #[.int .i64 q,.int .i64 f,.int .i64 l,.string t]] w fun e w'=>∃u:Mv,e=.returned (.agg #[.int .i64 m.id,.int .i64 m.rid,.slice u.ms.a u.ms.n u.ms.c,.slice u.its.a u.its.n u.its.c,.slice u.lv.a u.lv.n u.lv.c,.slice u.tx.a u.tx.n u.tx.c,.int .i64 m.rd,.int .i64 m.se,.int .i64 m.li,.int .i64 m.he,.int .i64 m.la.c,.int .i64 m.la.r,.int .i64 m.la.q,.int .i64 m.la.a,.int .i64 m.la.b,.slice u.ws.a u.ws.n u.ws.c])∧MtO w' w.heap.size (m.cat (q,f,l,t)) u∧Below w.heap.size w w':=by
 obtain⟨HA,HX,HR,HB⟩:=en3 w 32 [.int .i64 m.id,.int .i64 m.rid,.slice v.ms.a v.ms.n v.ms.c,.slice v.its.a v.its.n v.its.c,.slice v.lv.a v.lv.n v.lv.c,.slice v.tx.a v.tx.n v.tx.c,.int .i64 m.rd,.int .i64 m.se,.int .i64 m.li,.int .i64 m.he,.int .i64 m.la.c,.int .i64 m.la.r,.int .i64 m.la.q,.int .i64 m.la.a,.int .i64 m.la.b,.slice v.ws.a v.ws.n v.ws.c] 41 [.int .i64 q,.int .i64 f,.int .i64 l,.string t] 32 [.int .i64 0,.int .i64 0,.slice none 0 0,.slice none 0 0,.slice none 0 0,.slice none 0 0,.int .i64 0,.int .i64 0,.int .i64 0,.int .i64 0,.int .i64 0,.int .i64 0,.int .i64 0,.int .i64 0,.int .i64 0,.slice none 0 0]
 have HP:=Ag (h.out.later HB.out)
 clear h
 go_enter Tryz.func194,Tryz.ntmps194
 go_wp2_with (first|(refine qAb rfl 32 _ rfl w.heap.size 0 rfl 32 _ HA.out (mC m v) rfl _ Tryz.underlying32 rfl Tryz.sizeM ?_))
 generalize (((w.alloc (.cells #[.int .i64 m.id,.int .i64 m.rid,.slice v.ms.a v.ms.n v.ms.c,.slice v.its.a v.its.n v.its.c,.slice v.lv.a v.lv.n v.lv.c,.slice v.tx.a v.tx.n v.tx.c,.int .i64 m.rd,.int .i64 m.se,.int .i64 m.li,.int .i64 m.he,.int .i64 m.la.c,.int .i64 m.la.r,.int .i64 m.la.q,.int .i64 m.la.a,.int .i64 m.la.b,.slice v.ws.a v.ws.n v.ws.c] 32)).alloc (.cells #[.int .i64 q,.int .i64 f,.int .i64 l,.string t] 41)).alloc (.cells #[.int .i64 0,.int .i64 0,.slice none 0 0,.slice none 0 0,.slice none 0 0,.slice none 0 0,.int .i64 0,.int .i64 0,.int .i64 0,.int .i64 0,.int .i64 0,.int .i64 0,.int .i64 0,.int .i64 0,.int .i64 0,.slice none 0 0] 32))=W at *
 have zw:w.heap.size≤W.heap.size:=HB.out.size
 have zr:w.heap.size+2<W.heap.size:=HR.out.lt
 refine(qCm m v _ HP hs).mono ?_
 rintro e w1 ⟨u,rfl,o3,b⟩
 have HO:Hid (MtO w1 W.heap.size m u):=o3
 have z1:=b.size
 clear o3
 obtain⟨HA,HX,HR,HP,HB⟩:=cy5 (HA.out.later b) (HX.out.later b) (HR.out.later b) (HP.out.later b) (qAa HB.out b)
 clear b
 have hz:=Ag (Bx.new w1 32 [.int .i64 0,.int .i64 0,.slice none 0 0,.slice none 0 0,.slice none 0 0,.slice none 0 0,.int .i64 0,.int .i64 0,.int .i64 0,.int .i64 0,.int .i64 0,.int .i64 0,.int .i64 0,.int .i64 0,.int .i64 0,.slice none 0 0])
 go_wp2_with (first|(refine qAd rfl 32 _ _ rfl w1.heap.size rfl 32 _ hz.out [.int .i64 m.id,.int .i64 m.rid,.slice u.ms.a u.ms.n u.ms.c,.slice u.its.a u.its.n u.its.c,.slice u.lv.a u.lv.n u.lv.c,.slice u.tx.a u.tx.n u.tx.c,.int .i64 m.rd,.int .i64 m.se,.int .i64 m.li,.int .i64 m.he,.int .i64 m.la.c,.int .i64 m.la.r,.int .i64 m.la.q,.int .i64 m.la.a,.int .i64 m.la.b,.slice u.ws.a u.ws.n u.ws.c] rfl rfl Tryz.sizeM rfl ?_;intro w4 OB TB;have b:Below w1.heap.size w1 w4:=((Below.refl _ _).alloc (Nat.le_refl _) _).trans (TB.below (Nat.le_refl _));have HG:=Ag OB;have HO:=Ag (HO.out.later b);have z4:=b.size;clear OB TB;refine Stp.here ?_))
 refine Stp.go ?_
 generalize hgg:w1.heap.size=g at *
 clear hz
 obtain⟨HA,HX,HR,HP,HB⟩:=cy5 (HA.out.later (hgg ▸ b)) (HX.out.later (hgg ▸ b)) (HR.out.later (hgg ▸ b)) (HP.out.later (hgg ▸ b)) (qAa HB.out (hgg ▸ b))
 clear b
 clear hgg
 go_wp2_with (first|(refine qAb rfl 32 _ rfl w.heap.size 0 rfl 32 _ HA.out (mC m v) rfl _ Tryz.underlying32 rfl Tryz.sizeM ?_))
 refine(qCg m v _ HP.out.r hs).mono ?_
 rintro e w5 ⟨rfl,b⟩
 obtain⟨HG,HO,HA,HX,HR,HP,HB⟩:=cy7 (HG.out.later b) (HO.out.later b) (HA.out.later b) (HX.out.later b) (HR.out.later b) (HP.out.later b) (qAa HB.out b)
 clear b
 cases hk:m.ok with
 |false=>
  go_wp2_with (first|(refine qAb rfl 32 _ rfl g 0 rfl 32 _ HG.out (mC m u) rfl _ Tryz.underlying32 rfl Tryz.sizeM ?_)|(refine qAd rfl 32 _ _ rfl (w.heap.size+2) rfl 32 _ HR.out (mC m u) rfl rfl Tryz.sizeM rfl ?_;intro wz RZ TZ))
  refine bodyPost_ret (qBd Tryz.results194 (w.heap.size+2) 32 (mC m u) _ rfl RZ Tryz.underlying32 rfl Tryz.sizeM) rfl ?_
  rw[cat_no hk]
  exact⟨u,rfl,(HO.out.past HR.out TZ (by decide) (by decide) (by decide)).down zw,HB.out.trans (TZ.below (by omega))⟩
 |true=>
  have KR:Hid (m.ok=true):=hk
  clear hk
  go_wp2_with (first|(refine qAt rfl 27 _ rfl g 3 rfl 32 _ HG.out (.slice u.its.a u.its.n u.its.c) rfl _ Tryz.underlying27 rfl ?_)|(refine qAb rfl 41 _ rfl (w.heap.size+1) 0 rfl 41 _ HX.out [.int .i64 q,.int .i64 f,.int .i64 l,.string t] rfl _ Tryz.underlying41 rfl Tryz.sizeI ?_))
  refine(qHf u.its m.its q f l t _ HO.out.its.rit (by have:=hs.out.its;omega)).mono ?_
  rintro e w6 ⟨n,rfl,sn,b⟩
  have SN:=Ag sn
  have z5:W.heap.size≤w5.heap.size:=by have:=HG.out.lt;omega
  obtain⟨HG,HO⟩:=cy2 (HG.out.later b) (HO.out.later b)
  clear sn
  obtain⟨HA,HX,HR,HP,HB⟩:=cy5 (HA.out.later b) (HX.out.later b) (HR.out.later b) (HP.out.later b) (qAa HB.out b)
  clear b
  go_wp2_with (first|(refine qAe rfl 27 _ _ rfl g 3 rfl 32 _ HG.out (.slice n.a n.n n.c) rfl (by simp) rfl Tryz.sizeIs (mX m.id m.rid u.ms n u.lv u.tx m.rd m.se m.li m.he m.la.c m.la.r m.la.q m.la.a m.la.b u.ws) rfl ?_;intro w7 OB TB;refine Stp.here ?_))
  refine Stp.go ?_
  obtain⟨HO,SN,HR,HB,HG⟩:=cy5 (HO.out.past HG.out TB (by decide) (by decide) (by decide)) (SN.out.past HG.out TB (by decide)) (HR.out.turn TB (by omega)) (HB.out.trans (TB.below (by omega))) OB
  clear OB TB
  go_wp2_with (first|(refine qAb rfl 32 _ rfl g 0 rfl 32 _ HG.out (mX m.id m.rid u.ms n u.lv u.tx m.rd m.se m.li m.he m.la.c m.la.r m.la.q m.la.a m.la.b u.ws) rfl _ Tryz.underlying32 rfl Tryz.sizeM ?_)|(refine qAd rfl 32 _ _ rfl (w.heap.size+2) rfl 32 _ HR.out (mX m.id m.rid u.ms n u.lv u.tx m.rd m.se m.li m.he m.la.c m.la.r m.la.q m.la.a m.la.b u.ws) rfl rfl Tryz.sizeM rfl ?_;intro wz RZ TZ))
  refine bodyPost_ret (qBd Tryz.results194 (w.heap.size+2) 32 (mX m.id m.rid u.ms n u.lv u.tx m.rd m.se m.li m.he m.la.c m.la.r m.la.q m.la.a m.la.b u.ws) _ rfl RZ Tryz.underlying32 rfl Tryz.sizeM) rfl ?_
  rw[cat_yes KR.out]
  refine⟨⟨u.ms,n,u.lv,u.tx,u.ws⟩,rfl,?_,HB.out.trans (TZ.below (by omega))⟩
  have h:=(HO.out.past HR.out TZ (by decide) (by decide) (by decide)).down zw
  exact⟨h.ms,(SN.out.past HR.out TZ (by decide)).down (by omega),h.lv,h.tx,h.ws,h.a1,h.a2,h.a3⟩
theorem take_its(m:Mt)(u:Mv)(it:Sv)(g B:Nat)(s:Sv)(xs:List It)(w:World)(h:Hid (MbB w g m u it))(ho:Hid (SlI w B u.its.v m.its))(hA:Hid (Asc m.its))(hx:Hid (RIt w s.v xs))(hB:B≤g)(hl:m.its.length+xs.length≤1048576)(hts:Hid (∀x∈xs,x.2.2.2.size≤1048576)):
  Calls Tryz.prog 79 #[.pointer (some ⟨g,0,none⟩),.slice s.a s.n s.c] w fun e w'=>e=.returned (.tuple #[])∧∃n:Sv,MbB w' g (m.putX xs) (u.setI n) it∧SlI w' B n.v (qBc m.its xs)∧TakeK w g u.its.v n.v w'∧Below B w w':=by
 have cl:=Ag (Bx.later h.out (Below.refl _ _).drew)
 have zg:g<w.heap.size:=Bx.lt h.out
 go_enter Tryz.func79,Tryz.ntmps79
 refine qAj (S:=fun w'=>Bx w' g 96 [.slice u.its.a u.its.n u.its.c,.int .i64 m.id,.int .i64 m.rid,.slice u.ms.a u.ms.n u.ms.c,.slice it.a it.n it.c,.slice u.lv.a u.lv.n u.lv.c,.slice u.tx.a u.tx.n u.tx.c,.int .i64 m.rd,.int .i64 m.se,.int .i64 m.li,.int .i64 m.he,.int .i64 m.la.c,.int .i64 m.la.r,.int .i64 m.la.q,.int .i64 m.la.a,.int .i64 m.la.b,.slice u.ws.a u.ws.n u.ws.c]) _ (by simp) (by kernel_rfl) (by rfl) (by rfl) (by kernel_rfl) (by kernel_rfl) cl.out (fun Ah=>?_)
 simp only[List.dropLast_cons_cons,List.dropLast_singleton,List.getLast_cons_cons,List.getLast_singleton,List.cons_append,List.nil_append,List.length_cons,List.length_nil]
 refine tkQ 0 rfl (by kernel_rfl) (by rfl) (fun _ _=>by simp only[Aa,Ab,Ac];go_simp;try with_reducible rfl) Ah ?_ fun _ _ _ h=>h
 try simp only[Act.put,Aa,Ab,Ac,Ad,Ae,Af]
 refine tkQ 1 rfl (by kernel_rfl) (by rfl) (fun _ _=>by simp only[Aa,Ab,Ac];go_simp;try with_reducible rfl) Ah ?_ fun _ _ _ h=>h
 try simp only[Act.put,Aa,Ab,Ac,Ad,Ae,Af]
 refine tkQ 2 rfl (by kernel_rfl) (by rfl) (fun _ _=>by simp only[Aa,Ab,Ac];go_simp;try with_reducible rfl) Ah ?_ fun _ _ _ h=>h
 try simp only[Act.put,Aa,Ab,Ac,Ad,Ae,Af]
 refine tkQ 3 rfl (by kernel_rfl) (by rfl) (fun _ _=>by simp only[Aa,Ab,Ac];go_simp;try with_reducible rfl) Ah ?_ fun _ _ _ h=>h
 try simp only[Act.put,Aa,Ab,Ac,Ad,Ae,Af]
 refine tkH (i:=4) (v:=_) rfl (by kernel_rfl) (fun _ _ _ h=>h) (qAf (by rfl) 94 _ rfl g 0 rfl 96 _ (fun w hS=>hS) (.slice u.its.a u.its.n u.its.c) rfl _ Tryz.underlying94 rfl) Ah ?_
 try simp only[Act.put,Aa,Ab,Ac,Ad,Ae,Af]
 refine tkQ 5 rfl (by kernel_rfl) (by rfl) (fun _ _=>by simp only[Aa,Ab,Ac];go_simp;try with_reducible rfl) Ah ?_ fun _ _ _ h=>h
 try simp only[Act.put,Aa,Ab,Ac,Ad,Ae,Af]
 refine wpAnyH_ready (rs:=[6]) (by kernel_rfl) (by simp) ?_
 refine AllReadyH.cons (i:=6) rfl (fun K hK=>?_) AllReadyH.nil
 rw[if_pos (by rfl)]
 simp only[Aa,Ab,Ac]
 go_simp
 have hxd:Hid (RIt w.drew s.v xs):=RIt.stays hx.out ((Below.refl _ _).drew)
 refine(qHx s xs _ hxd (by omega) hts).mono ?_
 rintro e w1 ⟨c,rfl,oc,b1⟩
 have c1:Below w.heap.size w w1:=(Below.refl w.heap.size w).drew.trans b1
 have z1:=c1.size
 obtain⟨HG,HO⟩:=cy2 (Bx.later h.out c1) (SlI.below ho.out c1)
 have oc:SlI w1 w.heap.size c.v xs:=oc
 obtain⟨lo,lc,hc,hci⟩:=oc.items
 have HCI:Hid (ItemsAt w1 lo xs):=hci
 have HAP:Hid (Apart u.its.v lo):=fun k b off hk e=>by
  have h1:=(SlI.lt ho.out k hk).2
  have h2:=(oc.lt b (by rw[hc,e];rfl)).1
  omega
 obtain⟨ca,cn,cc⟩:=c
 simp only[Sv.v,Value.slice.injEq]at hc
 obtain⟨rfl,rfl,rfl⟩:=hc
 have BK:Hid (Below w.heap.size w w1):=c1
 refine hK.out _ _ (HG.out) (fun Ah=>?_)
 clear hK K
 try simp only[Act.put,Aa,Ab,Ac,Ad,Ae,Af]
 clear b1 c1 oc hci hxd
 refine wpAnyH_ready (rs:=[7]) (by kernel_rfl) (by simp) ?_
 refine AllReadyH.cons (i:=7) rfl (fun K hK=>?_) AllReadyH.nil
 rw[if_pos (by rfl)]
 simp only[Aa,Ab,Ac]
 go_simp
 refine(put2_any u.its.v m.its ca cc xs B _ HO.out hA HCI HAP (by omega) hl).mono ?_
 rintro e w2 ⟨vn,rfl,sn,pk⟩
 obtain⟨n,rfl⟩:=sn.sv
 have SN:=Ag sn
 have PK:Hid (PutK w1 u.its.v (.slice n.a n.n n.c) w2):=pk
 have HG2:Hid (Bx w2 g 96 [.slice u.its.a u.its.n u.its.c,.int .i64 m.id,.int .i64 m.rid,.slice u.ms.a u.ms.n u.ms.c,.slice it.a it.n it.c,.slice u.lv.a u.lv.n u.lv.c,.slice u.tx.a u.tx.n u.tx.c,.int .i64 m.rd,.int .i64 m.se,.int .i64 m.li,.int .i64 m.he,.int .i64 m.la.c,.int .i64 m.la.r,.int .i64 m.la.q,.int .i64 m.la.a,.int .i64 m.la.b,.slice u.ws.a u.ws.n u.ws.c]):=HG.out.grown pk.g (fun e=>qLf HO.out HG.out (by decide) e.symm)
 have zb: ∀k,u.its.v.ownBlock=some k→B≤k:=fun k hk=>(SlI.lt ho.out k hk).1
 have BB:Hid (Below B w w2):=(BK.out.mono (by omega)).grown pk.g (by omega) zb
 have TKK:Hid (TakeK w g u.its.v (.slice n.a n.n n.c) w2):=⟨pk.g.os.trans BK.out.os,pk.g.tape.trans BK.out.tape,pk.g.output.trans BK.out.output,Nat.le_trans z1 pk.g.size,fun k hk _ hn=>(pk.g.block k (by omega) (fun e=>hn e.symm)).trans (BK.out.block k hk),by
  rcases pk.o with e|⟨nb,e,z⟩
  ·exact .inl e
  ·exact .inr ⟨nb,e,by omega⟩⟩
 refine hK.out _ _ (HG2.out) (fun Ah=>?_)
 clear hK K
 try simp only[Act.put,Aa,Ab,Ac,Ad,Ae,Af]
 clear sn pk zb
 refine tkQ 8 rfl (by kernel_rfl) (by rfl) (fun _ _=>by simp only[Aa,Ab,Ac];go_simp;try with_reducible rfl) Ah ?_ fun _ _ _ h=>h
 try simp only[Act.put,Aa,Ab,Ac,Ad,Ae,Af]
 refine tkQ 9 rfl (by kernel_rfl) (by rfl) (fun _ _=>by simp only[Aa,Ab,Ac];go_simp;try with_reducible rfl) Ah ?_ fun _ _ _ h=>h
 try simp only[Act.put,Aa,Ab,Ac,Ad,Ae,Af]
 refine tkQ 10 rfl (by kernel_rfl) (by rfl) (fun _ _=>by simp only[Aa,Ab,Ac];go_simp;try with_reducible rfl) Ah ?_ fun _ _ _ h=>h
 try simp only[Act.put,Aa,Ab,Ac,Ad,Ae,Af]
 refine wpAnyH_done (by kernel_rfl) ?_ _
 refine qBj rfl rfl ?_
 refine qCy 94 _ _ rfl g 0 rfl 96 _ HG2.out (.slice n.a n.n n.c) rfl (by simp) rfl Tryz.sizeSt [.slice n.a n.n n.c,.int .i64 m.id,.int .i64 m.rid,.slice u.ms.a u.ms.n u.ms.c,.slice it.a it.n it.c,.slice u.lv.a u.lv.n u.lv.c,.slice u.tx.a u.tx.n u.tx.c,.int .i64 m.rd,.int .i64 m.se,.int .i64 m.li,.int .i64 m.he,.int .i64 m.la.c,.int .i64 m.la.r,.int .i64 m.la.q,.int .i64 m.la.a,.int .i64 m.la.b,.slice u.ws.a u.ws.n u.ws.c] rfl ?_
 intro w3 OB TB
 go_wp2_with fail
 refine bodyPost_end (results_none rfl _ _ _) rfl ?_
 refine⟨rfl,n,OB,SN.out.past HG2.out TB (by decide),?_,BB.out.trans (TB.below (by omega))⟩
 exact⟨TB.os.trans TKK.out.os,TB.tape.trans TKK.out.tape,TB.output.trans TKK.out.output,Nat.le_trans TKK.out.size (Nat.le_of_eq TB.size.symm),fun k hk hn hv=>(TB.block k hn).trans (TKK.out.block k hk hn hv),TKK.out.o⟩
def SlJ(w:World)(B:Nat)(v:Value)(xs:List Int):Prop:=Sl w 3 1 B v xs.length (xs.map (Value.int .i64))
def SlX(w:World)(B:Nat)(v:Value)(xs:List ByteArray):Prop:=Sl w 9 1 B v xs.length (xs.map Value.string)
section
variable {w w' : World} {B : Nat} {v : Value}
theorem Pl.OwnI.j{xs:List Int}(h:OwnI w B v xs):SlJ w B v xs:=by
 have:=Sl.ofOwn (w:=w) (e:=3) (size:=1) (B:=B) (v:=v) (n:=xs.length) (xs:=xs.map (Value.int .i64)) h
 exact this
theorem Pl.OwnS.x{xs:List ByteArray}(h:OwnS w B v xs):SlX w B v xs:=by
 have:=Sl.ofOwn (w:=w) (e:=9) (size:=1) (B:=B) (v:=v) (n:=xs.length) (xs:=xs.map Value.string) h
 exact this
theorem SlJ.ri{xs:List Int}(h:SlJ w B v xs):RI w v xs:=by
 obtain⟨ao,cap,e⟩:=Sl.form h
 refine⟨ao,cap,e,fun i hi=>?_⟩
 obtain⟨g,off,cap',hv,hb,hlt,hc,_⟩:=Sl.read h (by omega)
 rw[e]at hv
 simp at hv
 exact⟨g,off,hv.1,hlt,hc i _ (by simp[hi])⟩
theorem SlX.rt{xs:List ByteArray}(h:SlX w B v xs):RT w v xs:=by
 obtain⟨ao,cap,e⟩:=Sl.form h
 refine⟨ao,cap,e,fun i hi=>?_⟩
 obtain⟨g,off,cap',hv,hb,hlt,hc,_⟩:=Sl.read h (by omega)
 rw[e]at hv
 simp at hv
 exact⟨g,off,hv.1,hlt,hc i _ (by simp[hi])⟩
theorem Sl.blk{e size n:Nat}{xs:List Value}(h:Sl w e size B v n xs){k:Nat}(hk:v.ownBlock=some k): ∃cs,w.heap[k]? =some (.cells cs e (0,0)):=by
 rcases h.2 with⟨rfl,_⟩|⟨g,off,cap,cur,rfl,_,hg,_⟩
 ·cases hk
 ·cases hk;exact⟨_,hg⟩
theorem Sl.kt{S:Nat→Prop}{e size n:Nat}{xs:List Value}(h:Sl w e size B v n xs)(k:KeepTy S w w')(hS: ¬S e):Sl w' e size B v n xs:=
 h.keep fun b hb hlt=>k.block b hlt fun cs T' z hc=>by
  obtain⟨cs',hc'⟩:=Sl.blk h hb
  rw[hc']at hc;simp at hc;rw[←hc.2.1];exact hS
theorem SlJ.kt{S:Nat→Prop}{xs:List Int}(h:SlJ w B v xs)(k:KeepTy S w w')(hS: ¬S 3):SlJ w' B v xs:=Sl.kt h k hS
theorem SlX.kt{S:Nat→Prop}{xs:List ByteArray}(h:SlX w B v xs)(k:KeepTy S w w')(hS: ¬S 9):SlX w' B v xs:=Sl.kt h k hS
theorem SlJ.sv{xs:List Int}(h:SlJ w B v xs): ∃s:Sv,v=.slice s.a s.n s.c∧s.n=xs.length:=by obtain⟨a,c,h1⟩:=Sl.form h;exact⟨⟨a,xs.length,c⟩,h1,rfl⟩
theorem SlX.sv{xs:List ByteArray}(h:SlX w B v xs): ∃s:Sv,v=.slice s.a s.n s.c∧s.n=xs.length:=by obtain⟨a,c,h1⟩:=Sl.form h;exact⟨⟨a,xs.length,c⟩,h1,rfl⟩
theorem SlJ.below{xs:List Int}(h:SlJ w B v xs)(hb:Below w.heap.size w w'):SlJ w' B v xs:=Sl.below h hb
theorem SlX.below{xs:List ByteArray}(h:SlX w B v xs)(hb:Below w.heap.size w w'):SlX w' B v xs:=Sl.below h hb
theorem TakeK.kt{g:Nat}{u v:Value}{T:Nat}{cs:List Value}{B':Nat}{its:List It}(h:TakeK w g u v w')(hB:Bx w g T cs)(hu:SlI w B' u its):KeepTy (fun X=>X=T∨X=41) w w':=
 ⟨h.os,h.tape,h.output,h.size,fun k hk ht=>h.block k hk (fun e=>by subst e;exact ht _ T _ hB (.inl rfl)) (fun e=>by obtain⟨c,hc⟩:=qAp hu e;exact ht _ 41 _ hc (.inr rfl))⟩
end
section
variable {P : Program} {w : World} {ops : Array Oper} {rest : List Oper} {o : Oper} {a : Act} {Q : Exit → Act → World → Prop}
theorem qGx(hgd:o.guard=none)(t:TypeId)(x y:Operand)(ho:o.op=.slice t x (some y) none none){e size B n cap k:Nat}{ao:Option Addr}{xs:List Value}(ht:P.underlying t=some (.slice e))(hsz:(P.info? e).map (·.size)=some size)
  (hx:a.eval x=.slice ao n cap) (hy:a.eval y=.int .i64 (k:Nat)) (hS:Sl w e size B (.slice ao n cap) n xs) (hk:k≤n) (h: ∀v',Sl w e size B v' (n - k) (xs.drop (k * size))→wpList P ops Q rest (a.put o.dst v') w):wpList P ops Q (o::rest) a w:=by
 have hel:P.elem t=e:=by simp[Program.elem,ht]
 refine wpList_plain hgd fun K hK=>?_
 have hr:(Instr.sliceAt t (.slice ao n cap) (some (.int .i64 (k:Nat))) none none).run P w=.ok (.slice (if cap=k then ao else ao.map (·.add (k * size))) (n - k) (cap - k)) w:=by
  rw[run_sliceAt_slice w t _ _ _ _ (by rw[hel];exact ht),run_slice_l w t ao n cap (by rw[hel];exact ht) .i64 (k:Nat) (by omega) (by omega),hel]
  cases hq:P.info? e with
  |none=>simp[hq]at hsz
  |some i=>
   have hs:i.size=size:=by simpa [hq] using hsz
   simp[sizeOf,typeInfo,hq,hs,sliced]
 unfold Oper.wp execOp
 simp only[ho,hx,hy,Option.map_some,Option.map_none,Sem.run_bind,hr,Result.andThen_ok,Sem.run_pure]
 exact hK _ _ (h _ (Sl.sliced hS hk))
theorem qBg(t:TypeId)(x y:Operand)(ho:o.op=.store t x y)(h:Stp (wpList P ops Q (o::rest) a w)):wpList P ops Q (o::rest) a w:=h.out
end
end Go.Proofs.YthdjkkiegecgnaaGreat
