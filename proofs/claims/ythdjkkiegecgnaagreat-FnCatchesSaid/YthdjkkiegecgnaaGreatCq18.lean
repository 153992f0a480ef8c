/- Joined texts: CTk2 CCtc CTk3 CWc. -/
import Derived.Test.YthdjkkiegecgnaaGreatCq15
import Derived.Test.YthdjkkiegecgnaaGreatCq17
import Derived.Test.YthdjkkiegecgnaaGreatCq13
set_option maxRecDepth 100000
set_option maxHeartbeats 16000000
namespace Go.Proofs.YthdjkkiegecgnaaGreat
open Go.RowKit Pl
set_option linter.unusedSimpArgs false
set_option linter.unusedVariables false
def Mt.putX (m:Mt) (xs:List It):Mt:=⟨m.id,m.rid,m.ms,putAll m.its xs,m.lv,m.tx,m.rd,m.se,m.li,m.he,m.la⟩
def Mv.setI (u:Mv) (s:Sv):Mv:=⟨u.ms,s,u.lv,u.tx,u.ws⟩
structure TakeK (w:World) (g:Nat) (v u:Value) (w':World):Prop where
 os:w'.os=w.os
 tape:w'.tape=w.tape
 output:w'.output=w.output
 size:w.heap.size≤w'.heap.size
 block: ∀k,k<w.heap.size→k≠g→v.ownBlock≠some k→w'.heap[k]?=w.heap[k]?
 o:u.ownBlock=v.ownBlock∨ ∃nb,u.ownBlock=some nb∧w.heap.size≤nb
theorem take_any (m:Mt) (u:Mv) (it:Sv) (g B:Nat) (s:Sv) (xs:List It) (w:World) (h:Hid (MbB w g m u it)) (ho:Hid (MtO w B m u)) (hA:Hid (Asc m.its)) (hx:Hid (RIt w s.v xs)) (hB:B≤g) (hl:m.its.length+xs.length≤1048576) (hts:Hid (∀x∈xs,x.2.2.2.size≤1048576)):
  Calls Tryz.prog 79 #[.pointer (some ⟨g,0,none⟩),.slice s.a s.n s.c] w fun e w'=>e=.returned (.tuple #[])∧∃n:Sv,MbB w' g (m.putX xs) (u.setI n) it∧MtO w' B (m.putX xs) (u.setI n)∧TakeK w g u.its.v n.v w'∧Below B w w':=by
 have cl:=hid (Bx.later h.out (Below.refl _ _).drew)
 have zg:g<w.heap.size:=Bx.lt h.out
 go_enter Tryz.func79,Tryz.ntmps79
 refine wp_region_heldLast (S:=fun w'=>Bx w' g 96 [.slice u.its.a u.its.n u.its.c,.int .i64 m.id,.int .i64 m.rid,.slice u.ms.a u.ms.n u.ms.c,.slice it.a it.n it.c,.slice u.lv.a u.lv.n u.lv.c,.slice u.tx.a u.tx.n u.tx.c,.int .i64 m.rd,.int .i64 m.se,.int .i64 m.li,.int .i64 m.he,.int .i64 m.la.c,.int .i64 m.la.r,.int .i64 m.la.q,.int .i64 m.la.a,.int .i64 m.la.b,.slice u.ws.a u.ws.n u.ws.c]) _ (by simp) (by kernel_rfl) (by rfl) (by rfl) (by kernel_rfl) (by kernel_rfl) cl.out (fun hHeld=>?_)
 simp only[List.dropLast_cons_cons,List.dropLast_singleton,List.getLast_cons_cons,List.getLast_singleton,List.cons_append,List.nil_append,List.length_cons,List.length_nil]
 refine tkP (i:=0) rfl (by kernel_rfl) (fun _ _ _ h=>h) (by rfl) (fun w hSw=>by simp only[LgT,Lg0,LgS];go_simp;try with_reducible rfl) (by assumption) ?_
 try simp only[Act.put,LgT,Lg0,LgS,LsT,Ls0,LsS]
 refine tkP (i:=1) rfl (by kernel_rfl) (fun _ _ _ h=>h) (by rfl) (fun w hSw=>by simp only[LgT,Lg0,LgS];go_simp;try with_reducible rfl) (by assumption) ?_
 try simp only[Act.put,LgT,Lg0,LgS,LsT,Ls0,LsS]
 refine tkP (i:=2) rfl (by kernel_rfl) (fun _ _ _ h=>h) (by rfl) (fun w hSw=>by simp only[LgT,Lg0,LgS];go_simp;try with_reducible rfl) (by assumption) ?_
 try simp only[Act.put,LgT,Lg0,LgS,LsT,Ls0,LsS]
 refine tkP (i:=3) rfl (by kernel_rfl) (fun _ _ _ h=>h) (by rfl) (fun w hSw=>by simp only[LgT,Lg0,LgS];go_simp;try with_reducible rfl) (by assumption) ?_
 try simp only[Act.put,LgT,Lg0,LgS,LsT,Ls0,LsS]
 refine tkH (i:=4) (v:=_) rfl (by kernel_rfl) (fun _ _ _ h=>h) (ld1_yield (by rfl) 94 _ rfl g 0 rfl 96 _ (fun w hS=>hS) (.slice u.its.a u.its.n u.its.c) rfl _ Tryz.underlying94 rfl) (by assumption) ?_
 try simp only[Act.put,LgT,Lg0,LgS,LsT,Ls0,LsS]
 refine tkP (i:=5) rfl (by kernel_rfl) (fun _ _ _ h=>h) (by rfl) (fun w hSw=>by simp only[LgT,Lg0,LgS];go_simp;try with_reducible rfl) (by assumption) ?_
 try simp only[Act.put,LgT,Lg0,LgS,LsT,Ls0,LsS]
 refine wpAnyH_ready (rs:=[6]) (by kernel_rfl) (by simp) ?_
 refine AllReadyH.cons (i:=6) rfl (fun K hK=>?_) AllReadyH.nil
 rw[if_pos (by rfl)]
 simp only[LgT,Lg0,LgS]
 go_simp
 have hxd:Hid (RIt w.drew s.v xs):=RIt.stays hx.out ((Below.refl _ _).drew)
 refine(copyItems_s s xs _ hxd (by omega) hts).mono ?_
 rintro e w1 ⟨c,rfl,oc,b1⟩
 have c1:Below w.heap.size w w1:=(Below.refl w.heap.size w).drew.trans b1
 have z1:=c1.size
 have HG:=hid (Bx.later h.out c1)
 have HO:Hid (MtO w1 B m u):=MtO.later ho.out c1
 have oc:SlI w1 w.heap.size c.v xs:=oc
 obtain⟨lo,lc,hc,hci⟩:=oc.items
 have HCI:Hid (ItemsAt w1 lo xs):=hci
 have HAP:Hid (Apart u.its.v lo):=fun k b off hk e=>by
  have h1:=(ho.out.its.lt k hk).2
  have h2:=(oc.lt b (by rw[hc,e];rfl)).1
  omega
 obtain⟨ca,cn,cc⟩:=c
 simp only[Sv.v,Value.slice.injEq]at hc
 obtain⟨rfl,rfl,rfl⟩:=hc
 have BK:Hid (Below w.heap.size w w1):=c1
 refine hK.out _ _ (HG.out) (fun hHeld=>?_)
 clear hK K
 try simp only[Act.put,LgT,Lg0,LgS,LsT,Ls0,LsS]
 clear b1 c1 oc hci hxd
 refine wpAnyH_ready (rs:=[7]) (by kernel_rfl) (by simp) ?_
 refine AllReadyH.cons (i:=7) rfl (fun K hK=>?_) AllReadyH.nil
 rw[if_pos (by rfl)]
 simp only[LgT,Lg0,LgS]
 go_simp
 refine(put2_any u.its.v m.its ca cc xs B _ HO.out.its hA HCI HAP (by omega) hl).mono ?_
 rintro e w2 ⟨vn,rfl,sn,pk⟩
 obtain⟨n,rfl⟩:=sn.sv
 have SN:Hid (SlI w2 B (.slice n.a n.n n.c) (putAll m.its xs)):=sn
 have PK:Hid (PutK w1 u.its.v (.slice n.a n.n n.c) w2):=pk
 have HG2:Hid (Bx w2 g 96 [.slice u.its.a u.its.n u.its.c,.int .i64 m.id,.int .i64 m.rid,.slice u.ms.a u.ms.n u.ms.c,.slice it.a it.n it.c,.slice u.lv.a u.lv.n u.lv.c,.slice u.tx.a u.tx.n u.tx.c,.int .i64 m.rd,.int .i64 m.se,.int .i64 m.li,.int .i64 m.he,.int .i64 m.la.c,.int .i64 m.la.r,.int .i64 m.la.q,.int .i64 m.la.a,.int .i64 m.la.b,.slice u.ws.a u.ws.n u.ws.c]):=HG.out.grown pk.g (fun e=>bx_it_ne HO.out.its HG.out (by decide) e.symm)
 have P1:Hid (OwnI w2 B u.ms.v m.ms):=HO.out.ms.kept pk.g (fun k a b=>ap_i_it HO.out.ms HO.out.its k a b.symm)
 have P3:Hid (OwnI w2 B u.lv.v m.lv):=HO.out.lv.kept pk.g (fun k a b=>ap_i_it HO.out.lv HO.out.its k a b.symm)
 have P4:Hid (OwnS w2 B u.tx.v m.tx):=ownS_kept HO.out.tx pk.g (fun k a b=>ap_s_it HO.out.tx HO.out.its k a b.symm)
 have P5:Hid (OwnI w2 B u.ws.v m.la.ws):=HO.out.ws.kept pk.g (fun k a b=>ap_i_it HO.out.ws HO.out.its k a b.symm)
 have zb: ∀k,u.its.v.ownBlock=some k→B≤k:=fun k hk=>(ho.out.its.lt k hk).1
 have BB:Hid (Below B w w2):=(BK.out.mono (by omega)).grown pk.g (by omega) zb
 have TKK:Hid (TakeK w g u.its.v (.slice n.a n.n n.c) w2):=⟨pk.g.os.trans BK.out.os,pk.g.tape.trans BK.out.tape,pk.g.output.trans BK.out.output,Nat.le_trans z1 pk.g.size,fun k hk _ hn=>(pk.g.block k (by omega) (fun e=>hn e.symm)).trans (BK.out.block k hk),by
  rcases pk.o with e|⟨nb,e,z⟩
  ·exact .inl e
  ·exact .inr ⟨nb,e,by omega⟩⟩
 refine hK.out _ _ (HG2.out) (fun hHeld=>?_)
 clear hK K
 try simp only[Act.put,LgT,Lg0,LgS,LsT,Ls0,LsS]
 clear sn pk zb
 refine tkP (i:=8) rfl (by kernel_rfl) (fun _ _ _ h=>h) (by rfl) (fun w hSw=>by simp only[LgT,Lg0,LgS];go_simp;try with_reducible rfl) (by assumption) ?_
 try simp only[Act.put,LgT,Lg0,LgS,LsT,Ls0,LsS]
 refine tkP (i:=9) rfl (by kernel_rfl) (fun _ _ _ h=>h) (by rfl) (fun w hSw=>by simp only[LgT,Lg0,LgS];go_simp;try with_reducible rfl) (by assumption) ?_
 try simp only[Act.put,LgT,Lg0,LgS,LsT,Ls0,LsS]
 refine tkP (i:=10) rfl (by kernel_rfl) (fun _ _ _ h=>h) (by rfl) (fun w hSw=>by simp only[LgT,Lg0,LgS];go_simp;try with_reducible rfl) (by assumption) ?_
 try simp only[Act.put,LgT,Lg0,LgS,LsT,Ls0,LsS]
 refine wpAnyH_done (by kernel_rfl) ?_ _
 refine lastQ_of rfl rfl ?_
 refine wp_st1 94 _ _ rfl g 0 rfl 96 _ HG2.out (.slice n.a n.n n.c) rfl (by simp) rfl Tryz.sizeSt [.slice n.a n.n n.c,.int .i64 m.id,.int .i64 m.rid,.slice u.ms.a u.ms.n u.ms.c,.slice it.a it.n it.c,.slice u.lv.a u.lv.n u.lv.c,.slice u.tx.a u.tx.n u.tx.c,.int .i64 m.rd,.int .i64 m.se,.int .i64 m.li,.int .i64 m.he,.int .i64 m.la.c,.int .i64 m.la.r,.int .i64 m.la.q,.int .i64 m.la.a,.int .i64 m.la.b,.slice u.ws.a u.ws.n u.ws.c] rfl ?_
 intro w3 OB TB
 go_wp2_with fail
 refine bodyPost_end (results_none rfl _ _ _) rfl ?_
 refine⟨rfl,n,OB,⟨P1.out.past HG2.out TB (by decide),SN.out.past HG2.out TB (by decide),P3.out.past HG2.out TB (by decide),P4.out.past HG2.out TB (by decide),P5.out.past HG2.out TB (by decide),HO.out.a1,HO.out.a2,HO.out.a3⟩,?_,BB.out.trans (TB.below (by omega))⟩
 exact⟨TB.os.trans TKK.out.os,TB.tape.trans TKK.out.tape,TB.output.trans TKK.out.output,Nat.le_trans TKK.out.size (Nat.le_of_eq TB.size.symm),fun k hk hn hv=>(TB.block k hn).trans (TKK.out.block k hk hn hv),TKK.out.o⟩
theorem MtO.past {w w':World} {B g T:Nat} {m:Mt} {v:Mv} {cs:List Value} (h:MtO w B m v) (hB:Bx w g T cs) (ht:TurnAt g w w') (h3:T≠3) (h9:T≠9) (hI:T≠41):MtO w' B m v:=
 ⟨h.ms.past hB ht h3,h.its.past hB ht hI,h.lv.past hB ht h3,h.tx.past hB ht h9,h.ws.past hB ht h3,h.a1,h.a2,h.a3⟩
theorem MtO.keepb {w w':World} {B g T:Nat} {m:Mt} {v:Mv} {cs:List Value} (h:MtO w B m v) (hB:Bx w g T cs) (ht:KeepBut g w w') (h3:T≠3) (h9:T≠9) (hI:T≠41):MtO w' B m v:=
 ⟨h.ms.keepb hB ht h3,h.its.keepb hB ht hI,h.lv.keepb hB ht h3,h.tx.keepb hB ht h9,h.ws.keepb hB ht h3,h.a1,h.a2,h.a3⟩
theorem one_item {w:World} {g:Nat} {q f l:Int} {t:ByteArray} (h:ItAt w g q f l t) (hg:g<w.heap.size):RIt w (Sv.mk (some ⟨g,0,none⟩) 1 1).v [(q,f,l,t)]:=by
 refine⟨_,_,rfl,?_⟩
 intro i hi
 obtain⟨c0,c1,c2,c3⟩:=h.cells
 have:i=0:=by simp at hi;omega
 subst this
 exact⟨g,0,rfl,hg,c0,c1,c2,c3⟩
def Mt.setIt (m:Mt) (ts:List It):Mt:=⟨m.id,m.rid,m.ms,ts,m.lv,m.tx,m.rd,m.se,m.li,m.he,m.la⟩
def Mt.cat (m:Mt) (y:It):Mt:=m.setIt (if m.ok=true then putP m.its y else m.its)
theorem ok_its {m:Mt} (h:m.ok=true):iGo 0 m.its=true:=by
 unfold Mt.ok at h
 simp only[Bool.and_eq_true]at h
 exact h.2.2.1
theorem cat_no {m:Mt} {y:It} (h:m.ok=false):m.cat y=m:=by unfold Mt.cat;rw[if_neg (by rw[h];simp)];rfl
theorem cat_yes {m:Mt} {y:It} (h:m.ok=true):m.cat y=m.setIt (putP m.its y):=by unfold Mt.cat;rw[if_pos h]
theorem cat_bad {m:Mt} {y:It} (h:m.ok=true) (hy:itB y.1 y.2.1 y.2.2.1 y.2.2.2=false):m.cat y=m:=by rw[cat_yes h];unfold putP;rw[if_neg (by rw[hy];simp)];rfl
theorem cat_put {m:Mt} {y:It} (h:m.ok=true) (hy:itB y.1 y.2.1 y.2.2.1 y.2.2.2=true):m.cat y=m.putX [y]:=by rw[cat_yes h];unfold putP;rw[if_pos ⟨ok_its h,hy⟩];rfl
theorem spPutItem_s (s:Sv) (ts:List It) (q f l:Int) (t:ByteArray) (w:World) (h:Hid (RIt w s.v ts)) (hl:ts.length≤1048576):
  Calls Tryz.prog 66 #[.slice s.a s.n s.c,.agg #[.int .i64 q,.int .i64 f,.int .i64 l,.string t]] w fun e w'=>∃u:Sv,e=.returned (.slice u.a u.n u.c)∧SlI w' w.heap.size u.v (putP ts (q,f,l,t))∧Below w.heap.size w w':=by
 obtain⟨ao,cap,h1,h2⟩:=h.out;unfold Sv.v at h1;rw[h1]
 exact(spPutItem_any ao cap ts q f l t w h2 hl).mono fun e w' ⟨v,a,b,c⟩=>by obtain⟨u,rfl⟩:=b.sv;exact⟨u,a,b,c⟩
theorem spCatch_any (m:Mt) (v:Mv) (q f l:Int) (t:ByteArray) (w:World) (h:Hid (MtP w m v)) (hs:Hid (MtS m)) (ht:t.size≤1048576):
  Calls Tryz.prog 194 #[.agg #[.int .i64 m.id,.int .i64 m.rid,.slice v.ms.a v.ms.n v.ms.c,.slice v.its.a v.its.n v.its.c,.slice v.lv.a v.lv.n v.lv.c,.slice v.tx.a v.tx.n v.tx.c,.int .i64 m.rd,.int .i64 m.se,.int .i64 m.li,.int .i64 m.he,.int .i64 m.la.c,.int .i64 m.la.r,.int .i64 m.la.q,.int .i64 m.la.a,.int .i64 m.la.b,.slice v.ws.a v.ws.n v.ws.c],.agg #[.int .i64 q,.int .i64 f,.int .i64 l,.string t]] w fun e w'=>∃u:Mv,e=.returned (.agg #[.int .i64 m.id,.int .i64 m.rid,.slice u.ms.a u.ms.n u.ms.c,.slice u.its.a u.its.n u.its.c,.slice u.lv.a u.lv.n u.lv.c,.slice u.tx.a u.tx.n u.tx.c,.int .i64 m.rd,.int .i64 m.se,.int .i64 m.li,.int .i64 m.he,.int .i64 m.la.c,.int .i64 m.la.r,.int .i64 m.la.q,.int .i64 m.la.a,.int .i64 m.la.b,.slice u.ws.a u.ws.n u.ws.c])∧MtO w' w.heap.size (m.cat (q,f,l,t)) u∧Below w.heap.size w w':=by
 obtain⟨HA,HX,HR,HB⟩:=en3 w 32 [.int .i64 m.id,.int .i64 m.rid,.slice v.ms.a v.ms.n v.ms.c,.slice v.its.a v.its.n v.its.c,.slice v.lv.a v.lv.n v.lv.c,.slice v.tx.a v.tx.n v.tx.c,.int .i64 m.rd,.int .i64 m.se,.int .i64 m.li,.int .i64 m.he,.int .i64 m.la.c,.int .i64 m.la.r,.int .i64 m.la.q,.int .i64 m.la.a,.int .i64 m.la.b,.slice v.ws.a v.ws.n v.ws.c] 41 [.int .i64 q,.int .i64 f,.int .i64 l,.string t] 32 [.int .i64 0,.int .i64 0,.slice none 0 0,.slice none 0 0,.slice none 0 0,.slice none 0 0,.int .i64 0,.int .i64 0,.int .i64 0,.int .i64 0,.int .i64 0,.int .i64 0,.int .i64 0,.int .i64 0,.int .i64 0,.slice none 0 0]
 have HP:=hid (h.out.later HB.out)
 clear h
 go_enter Tryz.func194,Tryz.ntmps194
 go_wp2_with (first|(refine wpList_ldG rfl 32 _ rfl w.heap.size 0 rfl 32 _ HA.out [.int .i64 m.id,.int .i64 m.rid,.slice v.ms.a v.ms.n v.ms.c,.slice v.its.a v.its.n v.its.c,.slice v.lv.a v.lv.n v.lv.c,.slice v.tx.a v.tx.n v.tx.c,.int .i64 m.rd,.int .i64 m.se,.int .i64 m.li,.int .i64 m.he,.int .i64 m.la.c,.int .i64 m.la.r,.int .i64 m.la.q,.int .i64 m.la.a,.int .i64 m.la.b,.slice v.ws.a v.ws.n v.ws.c] rfl _ Tryz.underlying32 rfl Tryz.sizeM ?_))
 generalize (((w.alloc (.cells #[.int .i64 m.id,.int .i64 m.rid,.slice v.ms.a v.ms.n v.ms.c,.slice v.its.a v.its.n v.its.c,.slice v.lv.a v.lv.n v.lv.c,.slice v.tx.a v.tx.n v.tx.c,.int .i64 m.rd,.int .i64 m.se,.int .i64 m.li,.int .i64 m.he,.int .i64 m.la.c,.int .i64 m.la.r,.int .i64 m.la.q,.int .i64 m.la.a,.int .i64 m.la.b,.slice v.ws.a v.ws.n v.ws.c] 32)).alloc (.cells #[.int .i64 q,.int .i64 f,.int .i64 l,.string t] 41)).alloc (.cells #[.int .i64 0,.int .i64 0,.slice none 0 0,.slice none 0 0,.slice none 0 0,.slice none 0 0,.int .i64 0,.int .i64 0,.int .i64 0,.int .i64 0,.int .i64 0,.int .i64 0,.int .i64 0,.int .i64 0,.int .i64 0,.slice none 0 0] 32))=W at *
 have zw:w.heap.size≤W.heap.size:=HB.out.size
 have zr:w.heap.size+2<W.heap.size:=HR.out.lt
 refine(tenCopy_any m v _ HP hs).mono ?_
 rintro e w1 ⟨u,rfl,o3,b⟩
 have HO:Hid (MtO w1 W.heap.size m u):=o3
 have z1:=b.size
 clear o3
 have HA:=hid (HA.out.later b)
 have HX:=hid (HX.out.later b)
 have HR:=hid (HR.out.later b)
 have HP:=hid (HP.out.later b)
 have HB:=hid (bl_next HB.out b)
 clear b
 have hz:=hid (Bx.new w1 32 [.int .i64 0,.int .i64 0,.slice none 0 0,.slice none 0 0,.slice none 0 0,.slice none 0 0,.int .i64 0,.int .i64 0,.int .i64 0,.int .i64 0,.int .i64 0,.int .i64 0,.int .i64 0,.int .i64 0,.int .i64 0,.slice none 0 0])
 go_wp2_with (first|(refine wpList_stW rfl 32 _ _ rfl w1.heap.size rfl 32 _ hz.out [.int .i64 m.id,.int .i64 m.rid,.slice u.ms.a u.ms.n u.ms.c,.slice u.its.a u.its.n u.its.c,.slice u.lv.a u.lv.n u.lv.c,.slice u.tx.a u.tx.n u.tx.c,.int .i64 m.rd,.int .i64 m.se,.int .i64 m.li,.int .i64 m.he,.int .i64 m.la.c,.int .i64 m.la.r,.int .i64 m.la.q,.int .i64 m.la.a,.int .i64 m.la.b,.slice u.ws.a u.ws.n u.ws.c] rfl rfl Tryz.sizeM rfl ?_;intro w4 OB TB;have b:Below w1.heap.size w1 w4:=((Below.refl _ _).alloc (Nat.le_refl _) _).trans (TB.below (Nat.le_refl _));have HG:=hid OB;have HO:=hid (HO.out.later b);have z4:=b.size;clear OB TB;refine Stp.here ?_))
 refine Stp.go ?_
 generalize hgg:w1.heap.size=g at *
 clear hz
 have HA:=hid (HA.out.later (hgg ▸ b))
 have HX:=hid (HX.out.later (hgg ▸ b))
 have HR:=hid (HR.out.later (hgg ▸ b))
 have HP:=hid (HP.out.later (hgg ▸ b))
 have HB:=hid (bl_next HB.out (hgg ▸ b))
 clear b
 clear hgg
 go_wp2_with (first|(refine wpList_ldG rfl 32 _ rfl w.heap.size 0 rfl 32 _ HA.out [.int .i64 m.id,.int .i64 m.rid,.slice v.ms.a v.ms.n v.ms.c,.slice v.its.a v.its.n v.its.c,.slice v.lv.a v.lv.n v.lv.c,.slice v.tx.a v.tx.n v.tx.c,.int .i64 m.rd,.int .i64 m.se,.int .i64 m.li,.int .i64 m.he,.int .i64 m.la.c,.int .i64 m.la.r,.int .i64 m.la.q,.int .i64 m.la.a,.int .i64 m.la.b,.slice v.ws.a v.ws.n v.ws.c] rfl _ Tryz.underlying32 rfl Tryz.sizeM ?_))
 refine(spMateOk_any m v _ HP.out.r hs).mono ?_
 rintro e w5 ⟨rfl,b⟩
 have HG:=hid (HG.out.later b)
 have HO:=hid (HO.out.later b)
 have HA:=hid (HA.out.later b)
 have HX:=hid (HX.out.later b)
 have HR:=hid (HR.out.later b)
 have HP:=hid (HP.out.later b)
 have HB:=hid (bl_next HB.out b)
 clear b
 cases hk:m.ok with
 |false=>
  go_wp2_with (first|(refine wpList_ldG rfl 32 _ rfl g 0 rfl 32 _ HG.out [.int .i64 m.id,.int .i64 m.rid,.slice u.ms.a u.ms.n u.ms.c,.slice u.its.a u.its.n u.its.c,.slice u.lv.a u.lv.n u.lv.c,.slice u.tx.a u.tx.n u.tx.c,.int .i64 m.rd,.int .i64 m.se,.int .i64 m.li,.int .i64 m.he,.int .i64 m.la.c,.int .i64 m.la.r,.int .i64 m.la.q,.int .i64 m.la.a,.int .i64 m.la.b,.slice u.ws.a u.ws.n u.ws.c] rfl _ Tryz.underlying32 rfl Tryz.sizeM ?_)|(refine wpList_stW rfl 32 _ _ rfl (w.heap.size+2) rfl 32 _ HR.out [.int .i64 m.id,.int .i64 m.rid,.slice u.ms.a u.ms.n u.ms.c,.slice u.its.a u.its.n u.its.c,.slice u.lv.a u.lv.n u.lv.c,.slice u.tx.a u.tx.n u.tx.c,.int .i64 m.rd,.int .i64 m.se,.int .i64 m.li,.int .i64 m.he,.int .i64 m.la.c,.int .i64 m.la.r,.int .i64 m.la.q,.int .i64 m.la.a,.int .i64 m.la.b,.slice u.ws.a u.ws.n u.ws.c] rfl rfl Tryz.sizeM rfl ?_;intro wz RZ TZ))
  refine bodyPost_ret (results_b Tryz.results194 (w.heap.size+2) 32 [.int .i64 m.id,.int .i64 m.rid,.slice u.ms.a u.ms.n u.ms.c,.slice u.its.a u.its.n u.its.c,.slice u.lv.a u.lv.n u.lv.c,.slice u.tx.a u.tx.n u.tx.c,.int .i64 m.rd,.int .i64 m.se,.int .i64 m.li,.int .i64 m.he,.int .i64 m.la.c,.int .i64 m.la.r,.int .i64 m.la.q,.int .i64 m.la.a,.int .i64 m.la.b,.slice u.ws.a u.ws.n u.ws.c] _ rfl RZ Tryz.underlying32 rfl Tryz.sizeM) rfl ?_
  rw[cat_no hk]
  exact⟨u,rfl,(HO.out.past HR.out TZ (by decide) (by decide) (by decide)).down zw,HB.out.trans (TZ.below (by omega))⟩
 |true=>
  have KR:Hid (m.ok=true):=hk
  clear hk
  go_wp2_with (first|(refine wpList_ld1 rfl 27 _ rfl g 3 rfl 32 _ HG.out (.slice u.its.a u.its.n u.its.c) rfl _ Tryz.underlying27 rfl ?_)|(refine wpList_ldG rfl 41 _ rfl (w.heap.size+1) 0 rfl 41 _ HX.out [.int .i64 q,.int .i64 f,.int .i64 l,.string t] rfl _ Tryz.underlying41 rfl Tryz.sizeI ?_))
  refine(spPutItem_s u.its m.its q f l t _ HO.out.its.rit (by have:=hs.out.its;omega)).mono ?_
  rintro e w6 ⟨n,rfl,sn,b⟩
  have SN:Hid (SlI w6 w5.heap.size n.v (putP m.its (q,f,l,t))):=sn
  have z5:W.heap.size≤w5.heap.size:=by have:=HG.out.lt;omega
  have HG:=hid (HG.out.later b)
  have HO:=hid (HO.out.later b)
  clear sn
  have HA:=hid (HA.out.later b)
  have HX:=hid (HX.out.later b)
  have HR:=hid (HR.out.later b)
  have HP:=hid (HP.out.later b)
  have HB:=hid (bl_next HB.out b)
  clear b
  go_wp2_with (first|(refine wpList_st1 rfl 27 _ _ rfl g 3 rfl 32 _ HG.out (.slice n.a n.n n.c) rfl (by simp) rfl Tryz.sizeIs [.int .i64 m.id,.int .i64 m.rid,.slice u.ms.a u.ms.n u.ms.c,.slice n.a n.n n.c,.slice u.lv.a u.lv.n u.lv.c,.slice u.tx.a u.tx.n u.tx.c,.int .i64 m.rd,.int .i64 m.se,.int .i64 m.li,.int .i64 m.he,.int .i64 m.la.c,.int .i64 m.la.r,.int .i64 m.la.q,.int .i64 m.la.a,.int .i64 m.la.b,.slice u.ws.a u.ws.n u.ws.c] rfl ?_;intro w7 OB TB;refine Stp.here ?_))
  refine Stp.go ?_
  have HO:=hid (HO.out.past HG.out TB (by decide) (by decide) (by decide))
  have SN:=hid (SN.out.past HG.out TB (by decide))
  have HR:=hid (HR.out.turn TB (by omega))
  have HB:=hid (HB.out.trans (TB.below (by omega)))
  have HG:=hid OB
  clear OB TB
  go_wp2_with (first|(refine wpList_ldG rfl 32 _ rfl g 0 rfl 32 _ HG.out [.int .i64 m.id,.int .i64 m.rid,.slice u.ms.a u.ms.n u.ms.c,.slice n.a n.n n.c,.slice u.lv.a u.lv.n u.lv.c,.slice u.tx.a u.tx.n u.tx.c,.int .i64 m.rd,.int .i64 m.se,.int .i64 m.li,.int .i64 m.he,.int .i64 m.la.c,.int .i64 m.la.r,.int .i64 m.la.q,.int .i64 m.la.a,.int .i64 m.la.b,.slice u.ws.a u.ws.n u.ws.c] rfl _ Tryz.underlying32 rfl Tryz.sizeM ?_)|(refine wpList_stW rfl 32 _ _ rfl (w.heap.size+2) rfl 32 _ HR.out [.int .i64 m.id,.int .i64 m.rid,.slice u.ms.a u.ms.n u.ms.c,.slice n.a n.n n.c,.slice u.lv.a u.lv.n u.lv.c,.slice u.tx.a u.tx.n u.tx.c,.int .i64 m.rd,.int .i64 m.se,.int .i64 m.li,.int .i64 m.he,.int .i64 m.la.c,.int .i64 m.la.r,.int .i64 m.la.q,.int .i64 m.la.a,.int .i64 m.la.b,.slice u.ws.a u.ws.n u.ws.c] rfl rfl Tryz.sizeM rfl ?_;intro wz RZ TZ))
  refine bodyPost_ret (results_b Tryz.results194 (w.heap.size+2) 32 [.int .i64 m.id,.int .i64 m.rid,.slice u.ms.a u.ms.n u.ms.c,.slice n.a n.n n.c,.slice u.lv.a u.lv.n u.lv.c,.slice u.tx.a u.tx.n u.tx.c,.int .i64 m.rd,.int .i64 m.se,.int .i64 m.li,.int .i64 m.he,.int .i64 m.la.c,.int .i64 m.la.r,.int .i64 m.la.q,.int .i64 m.la.a,.int .i64 m.la.b,.slice u.ws.a u.ws.n u.ws.c] _ rfl RZ Tryz.underlying32 rfl Tryz.sizeM) rfl ?_
  rw[cat_yes KR.out]
  refine⟨⟨u.ms,n,u.lv,u.tx,u.ws⟩,rfl,?_,HB.out.trans (TZ.below (by omega))⟩
  have h:=(HO.out.past HR.out TZ (by decide) (by decide) (by decide)).down zw
  exact⟨h.ms,(SN.out.past HR.out TZ (by decide)).down (by omega),h.lv,h.tx,h.ws,h.a1,h.a2,h.a3⟩
theorem catch_any (m:Mt) (v:Mv) (q f l:Int) (t:ByteArray) (w:World) (h:Hid (MtP w m v)) (hs:Hid (MtS m)) (ht:t.size≤1048576):
  Calls Tryz.prog 19 #[.agg #[.int .i64 m.id,.int .i64 m.rid,.slice v.ms.a v.ms.n v.ms.c,.slice v.its.a v.its.n v.its.c,.slice v.lv.a v.lv.n v.lv.c,.slice v.tx.a v.tx.n v.tx.c,.int .i64 m.rd,.int .i64 m.se,.int .i64 m.li,.int .i64 m.he,.int .i64 m.la.c,.int .i64 m.la.r,.int .i64 m.la.q,.int .i64 m.la.a,.int .i64 m.la.b,.slice v.ws.a v.ws.n v.ws.c],.agg #[.int .i64 q,.int .i64 f,.int .i64 l,.string t]] w fun e w'=>∃u:Mv,e=.returned (.agg #[.int .i64 m.id,.int .i64 m.rid,.slice u.ms.a u.ms.n u.ms.c,.slice u.its.a u.its.n u.its.c,.slice u.lv.a u.lv.n u.lv.c,.slice u.tx.a u.tx.n u.tx.c,.int .i64 m.rd,.int .i64 m.se,.int .i64 m.li,.int .i64 m.he,.int .i64 m.la.c,.int .i64 m.la.r,.int .i64 m.la.q,.int .i64 m.la.a,.int .i64 m.la.b,.slice u.ws.a u.ws.n u.ws.c])∧MtO w' w.heap.size (m.cat (q,f,l,t)) u∧Below w.heap.size w w':=by
 obtain⟨HA,HX,HR,HB⟩:=en3 w 32 [.int .i64 m.id,.int .i64 m.rid,.slice v.ms.a v.ms.n v.ms.c,.slice v.its.a v.its.n v.its.c,.slice v.lv.a v.lv.n v.lv.c,.slice v.tx.a v.tx.n v.tx.c,.int .i64 m.rd,.int .i64 m.se,.int .i64 m.li,.int .i64 m.he,.int .i64 m.la.c,.int .i64 m.la.r,.int .i64 m.la.q,.int .i64 m.la.a,.int .i64 m.la.b,.slice v.ws.a v.ws.n v.ws.c] 41 [.int .i64 q,.int .i64 f,.int .i64 l,.string t] 32 [.int .i64 0,.int .i64 0,.slice none 0 0,.slice none 0 0,.slice none 0 0,.slice none 0 0,.int .i64 0,.int .i64 0,.int .i64 0,.int .i64 0,.int .i64 0,.int .i64 0,.int .i64 0,.int .i64 0,.int .i64 0,.slice none 0 0]
 have HP:=hid (h.out.later HB.out)
 clear h
 go_enter Tryz.func19,Tryz.ntmps19
 go_wp2_with (first|(refine wpList_ldG rfl 32 _ rfl w.heap.size 0 rfl 32 _ HA.out [.int .i64 m.id,.int .i64 m.rid,.slice v.ms.a v.ms.n v.ms.c,.slice v.its.a v.its.n v.its.c,.slice v.lv.a v.lv.n v.lv.c,.slice v.tx.a v.tx.n v.tx.c,.int .i64 m.rd,.int .i64 m.se,.int .i64 m.li,.int .i64 m.he,.int .i64 m.la.c,.int .i64 m.la.r,.int .i64 m.la.q,.int .i64 m.la.a,.int .i64 m.la.b,.slice v.ws.a v.ws.n v.ws.c] rfl _ Tryz.underlying32 rfl Tryz.sizeM ?_))
 generalize (((w.alloc (.cells #[.int .i64 m.id,.int .i64 m.rid,.slice v.ms.a v.ms.n v.ms.c,.slice v.its.a v.its.n v.its.c,.slice v.lv.a v.lv.n v.lv.c,.slice v.tx.a v.tx.n v.tx.c,.int .i64 m.rd,.int .i64 m.se,.int .i64 m.li,.int .i64 m.he,.int .i64 m.la.c,.int .i64 m.la.r,.int .i64 m.la.q,.int .i64 m.la.a,.int .i64 m.la.b,.slice v.ws.a v.ws.n v.ws.c] 32)).alloc (.cells #[.int .i64 q,.int .i64 f,.int .i64 l,.string t] 41)).alloc (.cells #[.int .i64 0,.int .i64 0,.slice none 0 0,.slice none 0 0,.slice none 0 0,.slice none 0 0,.int .i64 0,.int .i64 0,.int .i64 0,.int .i64 0,.int .i64 0,.int .i64 0,.int .i64 0,.int .i64 0,.int .i64 0,.slice none 0 0] 32))=W at *
 have zw:w.heap.size≤W.heap.size:=HB.out.size
 have zr:w.heap.size+2<W.heap.size:=HR.out.lt
 refine(memberOf_any m v _ HP hs).mono ?_
 rintro e w1 ⟨g,u,rfl,hg,o3,zgg,b⟩
 have HG:Hid (MbB w1 g m u zSv):=hg
 have HO:Hid (MtO w1 W.heap.size m u):=o3
 have z1:=b.size
 clear o3 hg
 have HA:=hid (HA.out.later b)
 have HX:=hid (HX.out.later b)
 have HR:=hid (HR.out.later b)
 have HP:=hid (HP.out.later b)
 have HB:=hid (bl_next HB.out b)
 clear b
 go_wp2_with (first|(refine wpList_ldG rfl 32 _ rfl w.heap.size 0 rfl 32 _ HA.out [.int .i64 m.id,.int .i64 m.rid,.slice v.ms.a v.ms.n v.ms.c,.slice v.its.a v.its.n v.its.c,.slice v.lv.a v.lv.n v.lv.c,.slice v.tx.a v.tx.n v.tx.c,.int .i64 m.rd,.int .i64 m.se,.int .i64 m.li,.int .i64 m.he,.int .i64 m.la.c,.int .i64 m.la.r,.int .i64 m.la.q,.int .i64 m.la.a,.int .i64 m.la.b,.slice v.ws.a v.ws.n v.ws.c] rfl _ Tryz.underlying32 rfl Tryz.sizeM ?_))
 refine(mateOk_any m v _ HP.out.r hs).mono ?_
 rintro e w2 ⟨rfl,b⟩
 have HG:Hid (MbB w2 g m u zSv):=Bx.later HG.out b
 have HO:=hid (HO.out.later b)
 have HA:=hid (HA.out.later b)
 have HX:=hid (HX.out.later b)
 have HR:=hid (HR.out.later b)
 have HP:=hid (HP.out.later b)
 have HB:=hid (bl_next HB.out b)
 clear b
 cases hk:m.ok with
 |false=>
  have KC:Hid (m.cat (q,f,l,t)=m):=cat_no hk
  clear hk
  go_wp2_with fail
  refine(mate_any m u zSv g _ HG).mono ?_
  rintro e wa ⟨rfl,hga,ka⟩
  have HR:=hid (HR.out.keepb ka (by omega))
  have HO:=HO.out.keepb HG.out ka (by decide) (by decide) (by decide)
  have HB:=hid (HB.out.trans (ka.below (by omega) HB.out.size))
  clear hga ka HG
  go_wp2_with (first|(refine wpList_stW rfl 32 _ _ rfl (w.heap.size+2) rfl 32 _ HR.out [.int .i64 m.id,.int .i64 m.rid,.slice u.ms.a u.ms.n u.ms.c,.slice u.its.a u.its.n u.its.c,.slice u.lv.a u.lv.n u.lv.c,.slice u.tx.a u.tx.n u.tx.c,.int .i64 m.rd,.int .i64 m.se,.int .i64 m.li,.int .i64 m.he,.int .i64 m.la.c,.int .i64 m.la.r,.int .i64 m.la.q,.int .i64 m.la.a,.int .i64 m.la.b,.slice u.ws.a u.ws.n u.ws.c] rfl rfl Tryz.sizeM rfl ?_;intro wz RZ TZ))
  refine bodyPost_ret (results_b Tryz.results19 (w.heap.size+2) 32 [.int .i64 m.id,.int .i64 m.rid,.slice u.ms.a u.ms.n u.ms.c,.slice u.its.a u.its.n u.its.c,.slice u.lv.a u.lv.n u.lv.c,.slice u.tx.a u.tx.n u.tx.c,.int .i64 m.rd,.int .i64 m.se,.int .i64 m.li,.int .i64 m.he,.int .i64 m.la.c,.int .i64 m.la.r,.int .i64 m.la.q,.int .i64 m.la.a,.int .i64 m.la.b,.slice u.ws.a u.ws.n u.ws.c] _ rfl RZ Tryz.underlying32 rfl Tryz.sizeM) rfl ?_
  rw[KC.out]
  exact⟨u,rfl,(HO.past HR.out TZ (by decide) (by decide) (by decide)).down zw,HB.out.trans (TZ.below (by omega))⟩
 |true=>
  have KR:Hid (m.ok=true):=hk
  clear hk
  go_wp2_with (first|(refine wpList_ldG rfl 41 _ rfl (w.heap.size+1) 0 rfl 41 _ HX.out [.int .i64 q,.int .i64 f,.int .i64 l,.string t] rfl _ Tryz.underlying41 rfl Tryz.sizeI ?_))
  refine(itemOk_any q f l t _).mono ?_
  rintro e w3 ⟨rfl,b⟩
  have HG:Hid (MbB w3 g m u zSv):=Bx.later HG.out b
  have HO:=hid (HO.out.later b)
  have HA:=hid (HA.out.later b)
  have HX:=hid (HX.out.later b)
  have HR:=hid (HR.out.later b)
  have HP:=hid (HP.out.later b)
  have HB:=hid (bl_next HB.out b)
  clear b
  cases hi:itB q f l t with
  |false=>
   have KC:Hid (m.cat (q,f,l,t)=m):=cat_bad KR.out hi
   clear hi
   go_wp2_with fail
   refine(mate_any m u zSv g _ HG).mono ?_
   rintro e wa ⟨rfl,hga,ka⟩
   have HR:=hid (HR.out.keepb ka (by omega))
   have HO:=HO.out.keepb HG.out ka (by decide) (by decide) (by decide)
   have HB:=hid (HB.out.trans (ka.below (by omega) HB.out.size))
   clear hga ka HG
   go_wp2_with (first|(refine wpList_stW rfl 32 _ _ rfl (w.heap.size+2) rfl 32 _ HR.out [.int .i64 m.id,.int .i64 m.rid,.slice u.ms.a u.ms.n u.ms.c,.slice u.its.a u.its.n u.its.c,.slice u.lv.a u.lv.n u.lv.c,.slice u.tx.a u.tx.n u.tx.c,.int .i64 m.rd,.int .i64 m.se,.int .i64 m.li,.int .i64 m.he,.int .i64 m.la.c,.int .i64 m.la.r,.int .i64 m.la.q,.int .i64 m.la.a,.int .i64 m.la.b,.slice u.ws.a u.ws.n u.ws.c] rfl rfl Tryz.sizeM rfl ?_;intro wz RZ TZ))
   refine bodyPost_ret (results_b Tryz.results19 (w.heap.size+2) 32 [.int .i64 m.id,.int .i64 m.rid,.slice u.ms.a u.ms.n u.ms.c,.slice u.its.a u.its.n u.its.c,.slice u.lv.a u.lv.n u.lv.c,.slice u.tx.a u.tx.n u.tx.c,.int .i64 m.rd,.int .i64 m.se,.int .i64 m.li,.int .i64 m.he,.int .i64 m.la.c,.int .i64 m.la.r,.int .i64 m.la.q,.int .i64 m.la.a,.int .i64 m.la.b,.slice u.ws.a u.ws.n u.ws.c] _ rfl RZ Tryz.underlying32 rfl Tryz.sizeM) rfl ?_
   rw[KC.out]
   exact⟨u,rfl,(HO.past HR.out TZ (by decide) (by decide) (by decide)).down zw,HB.out.trans (TZ.below (by omega))⟩
  |true=>
   have KC:Hid (m.cat (q,f,l,t)=m.putX [(q,f,l,t)]):=cat_put KR.out hi
   clear hi
   go_wp2_with (first|(refine wpList_ldG rfl 41 _ rfl (w.heap.size+1) 0 rfl 41 _ HX.out [.int .i64 q,.int .i64 f,.int .i64 l,.string t] rfl _ Tryz.underlying41 rfl Tryz.sizeI ?_))
   have b:=bA w3 (.cells #[.int .i64 q,.int .i64 f,.int .i64 l,.string t] 41)
   have HG:Hid (MbB (w3.alloc (.cells #[.int .i64 q,.int .i64 f,.int .i64 l,.string t] 41)) g m u zSv):=Bx.later HG.out b
   have HO:=hid (HO.out.later b)
   have z4:(w3.alloc (.cells #[.int .i64 q,.int .i64 f,.int .i64 l,.string t] 41)).heap.size=w3.heap.size+1:=by simp
   have I4:Hid (RIt (w3.alloc (.cells #[.int .i64 q,.int .i64 f,.int .i64 l,.string t] 41)) (Sv.mk (some ⟨w3.heap.size,0,none⟩) 1 1).v [(q,f,l,t)]):=one_item (heap_alloc_new w3 _) (by omega)
   have HR:=hid (HR.out.later b)
   have HB:=hid (bl_next HB.out b)
   clear b z4
   generalize w3.alloc (.cells #[.int .i64 q,.int .i64 f,.int .i64 l,.string t] 41)=w4 at *
   refine(take_any m u zSv g W.heap.size (Sv.mk (some ⟨w3.heap.size,0,none⟩) 1 1) [(q,f,l,t)] _ HG HO (iGo_asc _ 0 (ok_its KR.out)).1 I4 zgg (by have:=iGo_short (ok_its KR.out);simp;omega) (fun y hy=>by simp at hy;subst hy;exact ht)).mono ?_
   rintro e w5 ⟨rfl,n,hg5,ho5,tk5,b5⟩
   have HG:Hid (MbB w5 g (m.putX [(q,f,l,t)]) (u.setI n) zSv):=hg5
   have HO:Hid (MtO w5 W.heap.size (m.putX [(q,f,l,t)]) (u.setI n)):=ho5
   generalize u.setI n=u5 at *
   have HR:=hid (Bx.stays HR.out b5 (by omega))
   have HB:=hid (HB.out.trans (b5.mono zw))
   clear hg5 ho5 tk5 b5 I4 HP HA HX
   go_wp2_with fail
   refine(mate_any (m.putX [(q,f,l,t)]) u5 zSv g _ HG).mono ?_
   rintro e wa ⟨rfl,hga,ka⟩
   have HR:=hid (HR.out.keepb ka (by omega))
   have HO:=HO.out.keepb HG.out ka (by decide) (by decide) (by decide)
   have HB:=hid (HB.out.trans (ka.below (by omega) HB.out.size))
   clear hga ka HG
   go_wp2_with (first|(refine wpList_stW rfl 32 _ _ rfl (w.heap.size+2) rfl 32 _ HR.out [.int .i64 m.id,.int .i64 m.rid,.slice u5.ms.a u5.ms.n u5.ms.c,.slice u5.its.a u5.its.n u5.its.c,.slice u5.lv.a u5.lv.n u5.lv.c,.slice u5.tx.a u5.tx.n u5.tx.c,.int .i64 m.rd,.int .i64 m.se,.int .i64 m.li,.int .i64 m.he,.int .i64 m.la.c,.int .i64 m.la.r,.int .i64 m.la.q,.int .i64 m.la.a,.int .i64 m.la.b,.slice u5.ws.a u5.ws.n u5.ws.c] rfl rfl Tryz.sizeM rfl ?_;intro wz RZ TZ))
   refine bodyPost_ret (results_b Tryz.results19 (w.heap.size+2) 32 [.int .i64 m.id,.int .i64 m.rid,.slice u5.ms.a u5.ms.n u5.ms.c,.slice u5.its.a u5.its.n u5.its.c,.slice u5.lv.a u5.lv.n u5.lv.c,.slice u5.tx.a u5.tx.n u5.tx.c,.int .i64 m.rd,.int .i64 m.se,.int .i64 m.li,.int .i64 m.he,.int .i64 m.la.c,.int .i64 m.la.r,.int .i64 m.la.q,.int .i64 m.la.a,.int .i64 m.la.b,.slice u5.ws.a u5.ws.n u5.ws.c] _ rfl RZ Tryz.underlying32 rfl Tryz.sizeM) rfl ?_
   rw[KC.out]
   exact⟨u5,rfl,(HO.past HR.out TZ (by decide) (by decide) (by decide)).down zw,HB.out.trans (TZ.below (by omega))⟩
def SlJ (w:World) (B:Nat) (v:Value) (xs:List Int):Prop:=Sl w 3 1 B v xs.length (xs.map (Value.int .i64))
def SlX (w:World) (B:Nat) (v:Value) (xs:List ByteArray):Prop:=Sl w 9 1 B v xs.length (xs.map Value.string)
section
variable {w w' : World} {B : Nat} {v : Value}
theorem Pl.OwnI.j {xs:List Int} (h:OwnI w B v xs):SlJ w B v xs:=by
 have:=Sl.ofOwn (w:=w) (e:=3) (size:=1) (B:=B) (v:=v) (n:=xs.length) (xs:=xs.map (Value.int .i64)) h
 exact this
theorem Pl.OwnS.x {xs:List ByteArray} (h:OwnS w B v xs):SlX w B v xs:=by
 have:=Sl.ofOwn (w:=w) (e:=9) (size:=1) (B:=B) (v:=v) (n:=xs.length) (xs:=xs.map Value.string) h
 exact this
theorem SlJ.ri {xs:List Int} (h:SlJ w B v xs):RI w v xs:=by
 obtain⟨ao,cap,e⟩:=Sl.form h
 refine⟨ao,cap,e,fun i hi=>?_⟩
 obtain⟨g,off,cap',hv,hb,hlt,hc,_⟩:=Sl.read h (by omega)
 rw[e]at hv
 simp at hv
 exact⟨g,off,hv.1,hlt,hc i _ (by simp[hi])⟩
theorem SlX.rt {xs:List ByteArray} (h:SlX w B v xs):RT w v xs:=by
 obtain⟨ao,cap,e⟩:=Sl.form h
 refine⟨ao,cap,e,fun i hi=>?_⟩
 obtain⟨g,off,cap',hv,hb,hlt,hc,_⟩:=Sl.read h (by omega)
 rw[e]at hv
 simp at hv
 exact⟨g,off,hv.1,hlt,hc i _ (by simp[hi])⟩
theorem Sl.blk {e size n:Nat} {xs:List Value} (h:Sl w e size B v n xs) {k:Nat} (hk:v.ownBlock=some k): ∃cs,w.heap[k]?=some (.cells cs e (0,0)):=by
 rcases h.2 with⟨rfl,_⟩|⟨g,off,cap,cur,rfl,_,hg,_⟩
 ·cases hk
 ·cases hk;exact⟨_,hg⟩
theorem Sl.kt {S:Nat→Prop} {e size n:Nat} {xs:List Value} (h:Sl w e size B v n xs) (k:KeepTy S w w') (hS: ¬S e):Sl w' e size B v n xs:=
 h.keep fun b hb hlt=>k.block b hlt fun cs T' z hc=>by
  obtain⟨cs',hc'⟩:=Sl.blk h hb
  rw[hc']at hc;simp at hc;rw[←hc.2.1];exact hS
theorem SlJ.kt {S:Nat→Prop} {xs:List Int} (h:SlJ w B v xs) (k:KeepTy S w w') (hS: ¬S 3):SlJ w' B v xs:=Sl.kt h k hS
theorem SlX.kt {S:Nat→Prop} {xs:List ByteArray} (h:SlX w B v xs) (k:KeepTy S w w') (hS: ¬S 9):SlX w' B v xs:=Sl.kt h k hS
theorem SlJ.sv {xs:List Int} (h:SlJ w B v xs): ∃s:Sv,v=.slice s.a s.n s.c∧s.n=xs.length:=by obtain⟨a,c,h1⟩:=Sl.form h;exact⟨⟨a,xs.length,c⟩,h1,rfl⟩
theorem SlX.sv {xs:List ByteArray} (h:SlX w B v xs): ∃s:Sv,v=.slice s.a s.n s.c∧s.n=xs.length:=by obtain⟨a,c,h1⟩:=Sl.form h;exact⟨⟨a,xs.length,c⟩,h1,rfl⟩
theorem SlJ.below {xs:List Int} (h:SlJ w B v xs) (hb:Below w.heap.size w w'):SlJ w' B v xs:=Sl.below h hb
theorem SlX.below {xs:List ByteArray} (h:SlX w B v xs) (hb:Below w.heap.size w w'):SlX w' B v xs:=Sl.below h hb
theorem TakeK.kt {g:Nat} {u v:Value} {T:Nat} {cs:List Value} {B':Nat} {its:List It} (h:TakeK w g u v w') (hB:Bx w g T cs) (hu:SlI w B' u its):KeepTy (fun X=>X=T∨X=41) w w':=
 ⟨h.os,h.tape,h.output,h.size,fun k hk ht=>h.block k hk (fun e=>by subst e;exact ht _ T _ hB (.inl rfl)) (fun e=>by obtain⟨c,hc⟩:=own_is_it hu e;exact ht _ 41 _ hc (.inr rfl))⟩
end
section
variable {P : Program} {w : World} {ops : Array Oper} {rest : List Oper} {o : Oper} {a : Act} {Q : Exit → Act → World → Prop}
theorem wpList_cutS (hgd:o.guard=none) (t:TypeId) (x y:Operand) (ho:o.op=.slice t x (some y) none none) {e size B n cap k:Nat} {ao:Option Addr} {xs:List Value} (ht:P.underlying t=some (.slice e)) (hsz:(P.info? e).map (·.size)=some size)
  (hx:a.eval x=.slice ao n cap) (hy:a.eval y=.int .i64 (k:Nat)) (hS:Sl w e size B (.slice ao n cap) n xs) (hk:k≤n) (h: ∀v',Sl w e size B v' (n - k) (xs.drop (k * size))→wpList P ops Q rest (a.put o.dst v') w):wpList P ops Q (o::rest) a w:=by
 have hel:P.elem t=e:=by simp[Program.elem,ht]
 refine wpList_plain hgd fun K hK=>?_
 have hr:(Instr.sliceAt t (.slice ao n cap) (some (.int .i64 (k:Nat))) none none).run P w=.ok (.slice (if cap=k then ao else ao.map (·.add (k * size))) (n - k) (cap - k)) w:=by
  rw[run_sliceAt_slice w t _ _ _ _ (by rw[hel];exact ht),run_slice_l w t ao n cap (by rw[hel];exact ht) .i64 (k:Nat) (by omega) (by omega),hel]
  cases hq:P.info? e with
  |none=>simp[hq]at hsz
  |some i=>
   have hs:i.size=size:=by simpa [hq] using hsz
   simp[sizeOf,typeInfo,hq,hs,sliced]
 unfold Oper.wp execOp
 simp only[ho,hx,hy,Option.map_some,Option.map_none,Sem.run_bind,hr,Result.andThen_ok,Sem.run_pure]
 exact hK _ _ (h _ (Sl.sliced hS hk))
theorem wpList_haltS (t:TypeId) (x y:Operand) (ho:o.op=.store t x y) (h:Stp (wpList P ops Q (o::rest) a w)):wpList P ops Q (o::rest) a w:=h.out
end
end Go.Proofs.YthdjkkiegecgnaaGreat
