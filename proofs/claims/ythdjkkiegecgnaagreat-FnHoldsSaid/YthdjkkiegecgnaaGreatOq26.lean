/- Joined texts: CWcy CWdf CWdg CWin CDip CWnw CWda CDw CZk CRw CWo. -/
import Derived.Test.YthdjkkiegecgnaaGreatOq22
import Derived.Test.YthdjkkiegecgnaaGreatOq24
import Derived.Test.YthdjkkiegecgnaaGreatOq13
import Derived.Test.YthdjkkiegecgnaaGreatOq15
import Derived.Test.YthdjkkiegecgnaaGreatOq1
import Derived.Test.YthdjkkiegecgnaaGreatOq25
import Derived.Test.YthdjkkiegecgnaaGreatOq23
set_option maxRecDepth 100000
set_option maxHeartbeats 16000000
namespace Go.Proofs.YthdjkkiegecgnaaGreat
open Go.RowKit Pl
set_option linter.unusedSimpArgs false
set_option linter.unusedVariables false
def newQ(t:Tok)(l:List It):List It:=l.filter fun x=>decide (t.q<x.1)
def comeT(p:Wp)(i:Nat)(d:Int)(m:Mt)(t:Tok):Wp:=⟨p.rid,p.ms,p.ma.set i (m.sheld t),p.fl++(qCh (p.ma.set i (m.sheld t)) d (qDd m t)).map (·.1)++[⟨qCw p.rid p.ms d,true,sTok m t,zIt⟩],p.he,p.sa++newQ t (qDd m t)⟩
def Wv.setS(k:Wv)(sa:List It)(z:Sv):Wv:=⟨k.rid,k.ms,k.mv,k.ma,k.mav,k.fl,k.flv,k.he,k.hev,sa,z⟩
theorem newP_step{t:Tok}{l:List It}{j:Nat}(hj:j<l.length):newQ t (l.take (j+1))=newQ t (l.take j)++if t.q<l[j].1 then[l[j]]else[]:=by
 unfold newQ
 rw[List.take_succ_eq_append_getElem hj,List.filter_append]
 congr 1
 by_cases h:t.q<l[j].1
 ·simp[h]
 ·simp[h]
theorem newQ_len(t:Tok)(l:List It):(newQ t l).length≤l.length:=List.length_filter_le _ _
theorem said_len{m:Mt}(h:m.ok=true)(t:Tok):(qDd m t).length≤63:=by
 have h1:=qCt (qAs h).2.2.1
 have h2:=qFv m t
 have h3:(qBf t.ws m.its).length≤m.its.length:=List.length_filter_le _ _
 unfold qDd
 rw[List.length_append]
 omega
def comeG(p:Wp)(i:Nat)(d:Int)(m2:Mt)(L2:List It)(t2 t:Tok):Wp:=⟨p.rid,p.ms,p.ma.set i m2,p.fl++(qCh (p.ma.set i m2) d L2).map (·.1)++[⟨qCw p.rid p.ms d,true,t2,zIt⟩],p.he,p.sa++newQ t L2⟩
structure HdR (w:World) (m2:Mt) (u:Mv) (fs:Sv) (L2:List It) (t2:Tok) (sn:Sv):Prop where
 mt:MtP w m2 u
 it:SlI w 0 fs.v L2
 tk:OwnI w 0 sn.v t2.ws
theorem HdR.later{w w':World}{m2:Mt}{u:Mv}{fs:Sv}{L2:List It}{t2:Tok}{sn:Sv}(h:HdR w m2 u fs L2 t2 sn)(b:Below w.heap.size w w'):HdR w' m2 u fs L2 t2 sn:=⟨h.mt.later b,h.it.below b,h.tk.keep fun _ _ hk=>b.block _ hk⟩
theorem HdR.keepb{w w':World}{m2:Mt}{u:Mv}{fs:Sv}{L2:List It}{t2:Tok}{sn:Sv}{g T:Nat}{cs:List Value}(h:HdR w m2 u fs L2 t2 sn)(hB:Bx w g T cs)(k:KeepBut g w w')(h3:T≠3)(h9:T≠9)(hi:T≠41):HdR w' m2 u fs L2 t2 sn:=
 ⟨h.mt.keepb hB k h3 h9 hi,SlI.keepb h.it hB k hi,h.tk.keepb hB k h3⟩
def ComeP(okb:Bool)(g:Nat)(PP:Wp)(w:World)(e:Ending)(w':World):Prop:=
 match okb with
 |false=>e=.returned (.int .i64 1)∧Below w.heap.size w w'
 |true=>e=.returned (.int .i64 0)∧∃k':Wv,WkB w' g k'∧WkP w' k'∧k'.pl=PP∧KeepBut g w w'
theorem qJz(g:Nat)(k:Wv)(i:Nat)(m:Mt)(v:Mv)(d:Int)(t:Tok)(s:Sv)(q0 f0 l0:Int)(t0:ByteArray)(w:World)(h:Hid (WkB w g k))(hk:Hid (WkP w k))(hi:i<k.ma.length)(hm:Hid (k.ma[i]=(m,v)))(hat:Hid (atW (k.ma.map (·.1)) d=(i:Int)))(hok:Hid (m.ok=true))(hl:k.ma.length≤10)(hs:Hid (OwnI w 0 s.v t.ws))(okb:Bool)(m2:Mt)(L2:List It)(t2:Tok)(hH:Hid (∀w9:World,Hid (MtP w9 m v)→Hid (OwnI w9 0 s.v t.ws)→Calls Tryz.prog 12 #[.agg #[.int .i64 m.id,.int .i64 m.rid,.slice v.ms.a v.ms.n v.ms.c,.slice v.its.a v.its.n v.its.c,.slice v.lv.a v.lv.n v.lv.c,.slice v.tx.a v.tx.n v.tx.c,.int .i64 m.rd,.int .i64 m.se,.int .i64 m.li,.int .i64 m.he,.int .i64 m.la.c,.int .i64 m.la.r,.int .i64 m.la.q,.int .i64 m.la.a,.int .i64 m.la.b,.slice v.ws.a v.ws.n v.ws.c],.agg #[.int .i64 t.c,.int .i64 t.r,.int .i64 t.q,.int .i64 t.a,.int .i64 t.b,.slice s.a s.n s.c]] w9 fun e w'=>∃(u:Mv) (fs sn:Sv),e=.returned (.tuple #[.agg #[.int .i64 m2.id,.int .i64 m2.rid,.slice u.ms.a u.ms.n u.ms.c,.slice u.its.a u.its.n u.its.c,.slice u.lv.a u.lv.n u.lv.c,.slice u.tx.a u.tx.n u.tx.c,.int .i64 m2.rd,.int .i64 m2.se,.int .i64 m2.li,.int .i64 m2.he,.int .i64 m2.la.c,.int .i64 m2.la.r,.int .i64 m2.la.q,.int .i64 m2.la.a,.int .i64 m2.la.b,.slice u.ws.a u.ws.n u.ws.c],.slice fs.a fs.n fs.c,.agg #[.int .i64 t2.c,.int .i64 t2.r,.int .i64 t2.q,.int .i64 t2.a,.int .i64 t2.b,.slice sn.a sn.n sn.c],.bool okb])∧(okb=true→HdR w' m2 u fs L2 t2 sn)∧Below w9.heap.size w9 w'))(hLl2:L2.length≤63)(ht2:t2.ws.length≤1048576)(hbig:okb=true→k.ms.length≤1048576∧k.fl.length≤990000∧k.sa.length≤990000):
  Calls Tryz.prog 159 #[.pointer (some ⟨g,0,none⟩),.agg #[.int .i64 d,.bool true,.int .i64 t.c,.int .i64 t.r,.int .i64 t.q,.int .i64 t.a,.int .i64 t.b,.slice s.a s.n s.c,.int .i64 q0,.int .i64 f0,.int .i64 l0,.string t0]] w fun e w'=>ComeP okb g (comeG k.pl i d m2 L2 t2 t) w e w':=by
 have zg:g<w.heap.size:=Bx.lt h.out
 have hsz:Hid (MtS m):=qBi hok.out
 have b0:=bA w (.cells #[.int .i64 d,.bool true,.int .i64 t.c,.int .i64 t.r,.int .i64 t.q,.int .i64 t.a,.int .i64 t.b,.slice s.a s.n s.c,.int .i64 q0,.int .i64 f0,.int .i64 l0,.string t0] 68)
 obtain⟨FB,G0,P0,B0⟩:=cy4 (Bx.new w 68 [.int .i64 d,.bool true,.int .i64 t.c,.int .i64 t.r,.int .i64 t.q,.int .i64 t.a,.int .i64 t.b,.slice s.a s.n s.c,.int .i64 q0,.int .i64 f0,.int .i64 l0,.string t0]) (h.out.later b0) (hk.out.below b0) b0
 have f00:=FB.out.cell 0
 have d0:decide ((i:Int)<0)=false:=by simp
 clear b0 h hk
 go_enter Tryz.func159,Tryz.ntmps159
 go_wp2_with fail
 have zW:w.heap.size<(w.alloc (.cells #[.int .i64 d,.bool true,.int .i64 t.c,.int .i64 t.r,.int .i64 t.q,.int .i64 t.a,.int .i64 t.b,.slice s.a s.n s.c,.int .i64 q0,.int .i64 f0,.int .i64 l0,.string t0] 68)).heap.size:=FB.out.lt
 generalize (w.alloc (.cells #[.int .i64 d,.bool true,.int .i64 t.c,.int .i64 t.r,.int .i64 t.q,.int .i64 t.a,.int .i64 t.b,.slice s.a s.n s.c,.int .i64 q0,.int .i64 f0,.int .i64 l0,.string t0] 68))=W at *
 refine(qCj g k d _ G0 P0.out.ma (by omega)).mono ?_
 rintro e w1 ⟨rfl,b⟩
 rw[hat.out]
 obtain⟨FB,G1,P1,B1⟩:=cy4 (FB.out.later b) (G0.out.later b) (P0.out.below b) (qAa B0.out b)
 have z1:=b.size
 clear b G0 P0 B0 f00
 have f1:=FB.out.cell 1
 obtain⟨_,gm,off,ha,_,hgl,hr⟩:=P1.out.ma.row hi
 have HR:Hid (w1.rangeAt gm (off+i * 16) (mC m v)):=(by have e:=hm.out;rw[e]at hr;exact hr:World.rangeAt _ _ _ _)
 have hgm:gm≠g:=P1.out.ma.1.box_ne G1.out (by decide) gm (by simp[Sv.v,Value.ownBlock,ha])
 have HMP:Hid (MtP w1 m v):=(by have:=P1.out.ma.2 k.ma[i] (List.getElem_mem hi);rw[hm.out]at this;exact this:MtP _ _ _)
 have G1a:Hid (Bx w1 g 56 [.int .i64 k.rid,.slice k.mv.a k.mv.n k.mv.c,.slice (some ⟨gm,off,none⟩) k.mav.n k.mav.c,.slice k.flv.a k.flv.n k.flv.c,.slice k.hev.a k.hev.n k.hev.c,.slice k.sav.a k.sav.n k.sav.c]):=(by have G2:=G1.out;unfold WkB at G2;rw[ha]at G2;exact G2:Bx _ _ _ _)
 have HMN:Hid (k.mav.n=k.ma.length):=P1.out.ma.len
 have hin:i<k.mav.n:=by have:=HMN.out;omega
 have i0:(0:Int)≤(i:Int):=by omega
 have i1:(i:Int)<(k.mav.n:Int):=by omega
 clear hr ha
 go_wp2_with fail
 clear f1
 have HS1:=Ag (ownL hs.out B1.out)
 go_cut [6,7,8,9] (fun a6 a7 a8 a9 wx=>∃(gb gt:Nat) (u:Mv) (fs sn:Sv),a6=.pointer (some ⟨gb,0,none⟩)∧a7=.slice fs.a fs.n fs.c∧a8=.pointer (some ⟨gt,0,none⟩)∧a9=.bool okb∧Bx wx gb 32 (mC m2 u)∧Bx wx gt 30 (tX t2.c t2.r t2.q t2.a t2.b sn)∧(okb=true→HdR wx m2 u fs L2 t2 sn)∧w1.heap.size≤gb∧w1.heap.size≤gt∧Below w1.heap.size w1 wx)
 case first=>
  have c:Below w1.heap.size w1 w1.drew:=(Below.refl _ _).drew
  refine wp_region_held_drew (S:=fun w'=>Below w1.heap.size w1 w') (by kernel_rfl) c (fun Ah=>?_)
  refine tkQ 0 rfl (by kernel_rfl) (by rfl) (fun _ _=>by simp only[Aa,Ab,Ac];go_simp;try with_reducible rfl) Ah ?_ fun _ _ _ h=>h
  try simp only[Act.put,Aa,Ab,Ac,Ad,Ae,Af]
  refine tkQ 1 rfl (by kernel_rfl) (by rfl) (fun _ _=>by simp only[Aa,Ab,Ac];go_simp;try with_reducible rfl) Ah ?_ fun _ _ _ h=>h
  try simp only[Act.put,Aa,Ab,Ac,Ad,Ae,Af]
  refine tkQ 2 rfl (by kernel_rfl) (by rfl) (fun _ _=>by simp only[Aa,Ab,Ac];go_simp;try with_reducible rfl) Ah ?_ fun _ _ _ h=>h
  try simp only[Act.put,Aa,Ab,Ac,Ad,Ae,Af]
  refine tkH (i:=3) (v:=_) rfl (by kernel_rfl) (fun _ _ _ h=>h) (qAf (by rfl) 52 _ rfl g 2 rfl 56 _ (fun w hS=>G1a.out.later hS) (.slice (some ⟨gm,off,none⟩) k.mav.n k.mav.c) rfl _ Tryz.underlying52 rfl) Ah ?_
  try simp only[Act.put,Aa,Ab,Ac,Ad,Ae,Af]
  refine tkQ 4 rfl (by kernel_rfl) (by rfl) (fun _ _=>by simp only[Aa,Ab,Ac];go_simp;try with_reducible rfl) Ah ?_ fun _ _ _ h=>h
  try simp only[Act.put,Aa,Ab,Ac,Ad,Ae,Af]
  refine tkQ 5 rfl (by kernel_rfl) (by rfl) (fun _ _=>by simp only[Aa,Ab,Ac];go_simp;try with_reducible rfl) Ah ?_ fun _ _ _ h=>h
  try simp only[Act.put,Aa,Ab,Ac,Ad,Ae,Af]
  refine tkH (i:=6) (v:=_) rfl (by kernel_rfl) (fun _ _ _ h=>h) (qDa (by rfl) 32 _ rfl gm (off+i * 16) (by rfl) (mC m v) (fun w hS=>qAk HR.out hgl hS) _ Tryz.underlying32 rfl Tryz.sizeM) Ah ?_
  try simp only[Act.put,Ad,Ae,Af]
  refine tkQ 7 rfl (by kernel_rfl) (by rfl) (fun _ _=>by simp only[Aa,Ab,Ac];go_simp;try with_reducible rfl) Ah ?_ fun _ _ _ h=>h
  try simp only[Act.put,Aa,Ab,Ac,Ad,Ae,Af]
  refine tkH (i:=8) (v:=_) rfl (by kernel_rfl) (fun _ _ _ h=>h) (qBp (by rfl) 30 _ rfl w.heap.size 2 rfl 68 _ (fun w hS=>FB.out.later hS) (tX t.c t.r t.q t.a t.b s) rfl _ Tryz.underlying30 rfl Tryz.sizeT) Ah ?_
  try simp only[Act.put,Aa,Ab,Ac,Ad,Ae,Af]
  refine wpAnyH_ready (rs:=[9,15,16]) (by kernel_rfl) (by simp) ?_
  refine(AllReadyH.cons (i:=9) rfl (fun K hK=>?_) (AllReadyH.cons (i:=15) rfl (fun K hK=>?_) (AllReadyH.cons (i:=16) rfl (fun K hK=>?_) AllReadyH.nil)))
  ·skip
   rw[if_pos (by rfl)]
   simp only[Aa,Ab,Ac]
   go_simp
   refine(hH.out _ (show Hid (MtP w1.drew m v)from HMP.out.later c) (show Hid (OwnI w1.drew 0 s.v t.ws)from HS1.out.keep fun _ _ hk=>c.block _ hk)).mono ?_
   rintro e y1 ⟨u,fs,sn,rfl,hc,b⟩
   have HC:Hid (okb=true→HdR y1 m2 u fs L2 t2 sn):=hc
   have c:=qAa c b
   refine hK.out _ _ (c) (fun Ah=>?_)
   clear hK K
   try simp only[Act.put,Aa,Ab,Ac,Ad,Ae,Af]
   clear b hc
   refine tkQ 10 rfl (by kernel_rfl) (by rfl) (fun _ _=>by simp only[Aa,Ab,Ac];go_simp;try with_reducible rfl) Ah ?_ fun _ _ _ h=>h
   try simp only[Act.put,Aa,Ab,Ac,Ad,Ae,Af]
   refine tkQ 11 rfl (by kernel_rfl) (by rfl) (fun _ _=>by simp only[Aa,Ab,Ac];go_simp;try with_reducible rfl) Ah ?_ fun _ _ _ h=>h
   try simp only[Act.put,Aa,Ab,Ac,Ad,Ae,Af]
   refine tkQ 12 rfl (by kernel_rfl) (by rfl) (fun _ _=>by simp only[Aa,Ab,Ac];go_simp;try with_reducible rfl) Ah ?_ fun _ _ _ h=>h
   try simp only[Act.put,Aa,Ab,Ac,Ad,Ae,Af]
   refine tkQ 13 rfl (by kernel_rfl) (by rfl) (fun _ _=>by simp only[Aa,Ab,Ac];go_simp;try with_reducible rfl) Ah ?_ fun _ _ _ h=>h
   try simp only[Act.put,Aa,Ab,Ac,Ad,Ae,Af]
   refine tkQ 14 rfl (by kernel_rfl) (by rfl) (fun _ _=>by simp only[Aa,Ab,Ac];go_simp;try with_reducible rfl) Ah ?_ fun _ _ _ h=>h
   try simp only[Act.put,Aa,Ab,Ac,Ad,Ae,Af]
   refine wpAnyH_ready (rs:=[15,16]) (by kernel_rfl) (by simp) ?_
   refine(AllReadyH.cons (i:=15) rfl (fun K hK=>?_) (AllReadyH.cons (i:=16) rfl (fun K hK=>?_) AllReadyH.nil))
   ·skip
    rw[if_pos (by rfl)]
    simp only[Aa,Ab,Ac]
    go_simp
    have b:=bA y1 (.cells zzM.toArray 32)
    have HC:Hid (okb=true→HdR (y1.alloc (.cells zzM.toArray 32)) m2 u fs L2 t2 sn):=fun e=>(HC.out e).later b
    have BM:=Ag (bxAt y1 32 [.int .i64 0,.int .i64 0,.slice none 0 0,.slice none 0 0,.slice none 0 0,.slice none 0 0,.int .i64 0,.int .i64 0,.int .i64 0,.int .i64 0,.int .i64 0,.int .i64 0,.int .i64 0,.int .i64 0,.int .i64 0,.slice none 0 0] y1.heap.size (by simp))
    have zBM:w1.heap.size≤y1.heap.size:=by have h:=c.size;rw[show y1.heap.size=y1.heap.size by simp]at h;exact h
    have c:=qAa c b
    refine hK.out _ _ (c) (fun Ah=>?_)
    clear hK K
    try simp only[Act.put,Aa,Ab,Ac,Ad,Ae,Af]
    clear b
    refine wpAnyH_ready (rs:=[16]) (by kernel_rfl) (by simp) ?_
    refine AllReadyH.cons (i:=16) rfl (fun K hK=>?_) AllReadyH.nil
    rw[if_pos (by rfl)]
    simp only[Aa,Ab,Ac]
    go_simp
    have b:Below (y1.alloc (.cells zzM.toArray 32)).heap.size (y1.alloc (.cells zzM.toArray 32)) ((y1.alloc (.cells zzM.toArray 32)).alloc (.cells zzT.toArray 30)):=(Below.refl _ _).alloc (Nat.le_refl _) _
    have BM:=Ag (BM.out.later b)
    have HC:Hid (okb=true→HdR ((y1.alloc (.cells zzM.toArray 32)).alloc (.cells zzT.toArray 30)) m2 u fs L2 t2 sn):=fun e=>(HC.out e).later b
    have BT:=Ag (bxAt (y1.alloc (.cells zzM.toArray 32)) 30 [.int .i64 0,.int .i64 0,.int .i64 0,.int .i64 0,.int .i64 0,.slice none 0 0] (y1.heap.size+1) (by simp))
    have zBT:w1.heap.size≤(y1.heap.size+1):=by have h:=c.size;rw[show(y1.alloc (.cells zzM.toArray 32)).heap.size=(y1.heap.size+1) by simp]at h;exact h
    have c:=qAa c b
    refine hK.out _ _ (c) (fun Ah=>?_)
    clear hK K
    try simp only[Act.put,Aa,Ab,Ac,Ad,Ae,Af]
    clear b
    refine wpAnyH_ready (rs:=[17]) (by kernel_rfl) (by simp) ?_
    refine AllReadyH.cons (i:=17) rfl (fun K hK=>?_) AllReadyH.nil
    rw[if_pos (by rfl)]
    simp only[Aa,Ab,Ac]
    refine qAm 32 _ _ rfl y1.heap.size (by rfl) 32 _ BM.out (mC m2 u) (by rfl) rfl Tryz.sizeM rfl ?_
    intro x1 kb kt
    have BT:=Ag (BT.out.kt (KeepTy.ofTurn (S:=fun X=>X=32) BM.out kt rfl) (by decide))
    have HC:Hid (okb=true→HdR x1 m2 u fs L2 t2 sn):=fun e=>(HC.out e).keepb BM.out kt.keep (by decide) (by decide) (by decide)
    have c:=c.trans (kt.below zBM)
    have BM:=Ag kb
    refine hK.out _ _ (c) (fun Ah=>?_)
    clear hK K
    try simp only[Act.put,Aa,Ab,Ac,Ad,Ae,Af]
    clear kb kt
    refine tkQ 18 rfl (by kernel_rfl) (by rfl) (fun _ _=>by simp only[Aa,Ab,Ac];go_simp;try with_reducible rfl) Ah ?_ fun _ _ _ h=>h
    try simp only[Act.put,Aa,Ab,Ac,Ad,Ae,Af]
    refine wpAnyH_ready (rs:=[19]) (by kernel_rfl) (by simp) ?_
    refine AllReadyH.cons (i:=19) rfl (fun K hK=>?_) AllReadyH.nil
    rw[if_pos (by rfl)]
    simp only[Aa,Ab,Ac]
    refine qAm 30 _ _ rfl (y1.heap.size+1) (by rfl) 30 _ BT.out (tX t2.c t2.r t2.q t2.a t2.b sn) (by rfl) rfl Tryz.sizeT rfl ?_
    intro x2 kb kt
    have BM:=Ag (BM.out.kt (KeepTy.ofTurn (S:=fun X=>X=30) BT.out kt rfl) (by decide))
    have HC:Hid (okb=true→HdR x2 m2 u fs L2 t2 sn):=fun e=>(HC.out e).keepb BT.out kt.keep (by decide) (by decide) (by decide)
    have c:=c.trans (kt.below zBT)
    have BT:=Ag kb
    refine hK.out _ _ (c) (fun Ah=>?_)
    clear hK K
    try simp only[Act.put,Aa,Ab,Ac,Ad,Ae,Af]
    clear kb kt
    refine tkQ 20 rfl (by kernel_rfl) (by rfl) (fun _ _=>by simp only[Aa,Ab,Ac];go_simp;try with_reducible rfl) Ah ?_ fun _ _ _ h=>h
    try simp only[Act.put,Aa,Ab,Ac,Ad,Ae,Af]
    refine wpAnyH_done (by kernel_rfl) ?_ _
    try go_wp2_with fail
    go_meet
    exact⟨y1.heap.size,(y1.heap.size+1),u,fs,sn,rfl,rfl,rfl,rfl,BM.out,BT.out,HC.out,zBM,zBT,c⟩
   ·skip
    rw[if_pos (by rfl)]
    simp only[Aa,Ab,Ac]
    go_simp
    have b:=bA y1 (.cells zzT.toArray 30)
    have HC:Hid (okb=true→HdR (y1.alloc (.cells zzT.toArray 30)) m2 u fs L2 t2 sn):=fun e=>(HC.out e).later b
    have BT:=Ag (bxAt y1 30 [.int .i64 0,.int .i64 0,.int .i64 0,.int .i64 0,.int .i64 0,.slice none 0 0] y1.heap.size (by simp))
    have zBT:w1.heap.size≤y1.heap.size:=by have h:=c.size;rw[show y1.heap.size=y1.heap.size by simp]at h;exact h
    have c:=qAa c b
    refine hK.out _ _ (c) (fun Ah=>?_)
    clear hK K
    try simp only[Act.put,Aa,Ab,Ac,Ad,Ae,Af]
    clear b
    refine wpAnyH_ready (rs:=[15]) (by kernel_rfl) (by simp) ?_
    refine AllReadyH.cons (i:=15) rfl (fun K hK=>?_) AllReadyH.nil
    rw[if_pos (by rfl)]
    simp only[Aa,Ab,Ac]
    go_simp
    have b:Below (y1.alloc (.cells zzT.toArray 30)).heap.size (y1.alloc (.cells zzT.toArray 30)) ((y1.alloc (.cells zzT.toArray 30)).alloc (.cells zzM.toArray 32)):=(Below.refl _ _).alloc (Nat.le_refl _) _
    have BT:=Ag (BT.out.later b)
    have HC:Hid (okb=true→HdR ((y1.alloc (.cells zzT.toArray 30)).alloc (.cells zzM.toArray 32)) m2 u fs L2 t2 sn):=fun e=>(HC.out e).later b
    have BM:=Ag (bxAt (y1.alloc (.cells zzT.toArray 30)) 32 [.int .i64 0,.int .i64 0,.slice none 0 0,.slice none 0 0,.slice none 0 0,.slice none 0 0,.int .i64 0,.int .i64 0,.int .i64 0,.int .i64 0,.int .i64 0,.int .i64 0,.int .i64 0,.int .i64 0,.int .i64 0,.slice none 0 0] (y1.heap.size+1) (by simp))
    have zBM:w1.heap.size≤(y1.heap.size+1):=by have h:=c.size;rw[show(y1.alloc (.cells zzT.toArray 30)).heap.size=(y1.heap.size+1) by simp]at h;exact h
    have c:=qAa c b
    refine hK.out _ _ (c) (fun Ah=>?_)
    clear hK K
    try simp only[Act.put,Aa,Ab,Ac,Ad,Ae,Af]
    clear b
    refine wpAnyH_ready (rs:=[17]) (by kernel_rfl) (by simp) ?_
    refine AllReadyH.cons (i:=17) rfl (fun K hK=>?_) AllReadyH.nil
    rw[if_pos (by rfl)]
    simp only[Aa,Ab,Ac]
    refine qAm 32 _ _ rfl (y1.heap.size+1) (by rfl) 32 _ BM.out (mC m2 u) (by rfl) rfl Tryz.sizeM rfl ?_
    intro x1 kb kt
    have BT:=Ag (BT.out.kt (KeepTy.ofTurn (S:=fun X=>X=32) BM.out kt rfl) (by decide))
    have HC:Hid (okb=true→HdR x1 m2 u fs L2 t2 sn):=fun e=>(HC.out e).keepb BM.out kt.keep (by decide) (by decide) (by decide)
    have c:=c.trans (kt.below zBM)
    have BM:=Ag kb
    refine hK.out _ _ (c) (fun Ah=>?_)
    clear hK K
    try simp only[Act.put,Aa,Ab,Ac,Ad,Ae,Af]
    clear kb kt
    refine tkQ 18 rfl (by kernel_rfl) (by rfl) (fun _ _=>by simp only[Aa,Ab,Ac];go_simp;try with_reducible rfl) Ah ?_ fun _ _ _ h=>h
    try simp only[Act.put,Aa,Ab,Ac,Ad,Ae,Af]
    refine wpAnyH_ready (rs:=[19]) (by kernel_rfl) (by simp) ?_
    refine AllReadyH.cons (i:=19) rfl (fun K hK=>?_) AllReadyH.nil
    rw[if_pos (by rfl)]
    simp only[Aa,Ab,Ac]
    refine qAm 30 _ _ rfl y1.heap.size (by rfl) 30 _ BT.out (tX t2.c t2.r t2.q t2.a t2.b sn) (by rfl) rfl Tryz.sizeT rfl ?_
    intro x2 kb kt
    have BM:=Ag (BM.out.kt (KeepTy.ofTurn (S:=fun X=>X=30) BT.out kt rfl) (by decide))
    have HC:Hid (okb=true→HdR x2 m2 u fs L2 t2 sn):=fun e=>(HC.out e).keepb BT.out kt.keep (by decide) (by decide) (by decide)
    have c:=c.trans (kt.below zBT)
    have BT:=Ag kb
    refine hK.out _ _ (c) (fun Ah=>?_)
    clear hK K
    try simp only[Act.put,Aa,Ab,Ac,Ad,Ae,Af]
    clear kb kt
    refine tkQ 20 rfl (by kernel_rfl) (by rfl) (fun _ _=>by simp only[Aa,Ab,Ac];go_simp;try with_reducible rfl) Ah ?_ fun _ _ _ h=>h
    try simp only[Act.put,Aa,Ab,Ac,Ad,Ae,Af]
    refine wpAnyH_done (by kernel_rfl) ?_ _
    try go_wp2_with fail
    go_meet
    exact⟨(y1.heap.size+1),y1.heap.size,u,fs,sn,rfl,rfl,rfl,rfl,BM.out,BT.out,HC.out,zBM,zBT,c⟩
  ·skip
   rw[if_pos (by rfl)]
   simp only[Aa,Ab,Ac]
   go_simp
   have b:=bA w1.drew (.cells zzM.toArray 32)
   have BM:=Ag (bxAt w1.drew 32 [.int .i64 0,.int .i64 0,.slice none 0 0,.slice none 0 0,.slice none 0 0,.slice none 0 0,.int .i64 0,.int .i64 0,.int .i64 0,.int .i64 0,.int .i64 0,.int .i64 0,.int .i64 0,.int .i64 0,.int .i64 0,.slice none 0 0] w1.heap.size (by simp))
   have zBM:w1.heap.size≤w1.heap.size:=by have h:=c.size;rw[show w1.drew.heap.size=w1.heap.size by simp]at h;exact h
   have c:=qAa c b
   refine hK.out _ _ (c) (fun Ah=>?_)
   clear hK K
   try simp only[Act.put,Aa,Ab,Ac,Ad,Ae,Af]
   clear b
   refine wpAnyH_ready (rs:=[9,16]) (by kernel_rfl) (by simp) ?_
   refine(AllReadyH.cons (i:=9) rfl (fun K hK=>?_) (AllReadyH.cons (i:=16) rfl (fun K hK=>?_) AllReadyH.nil))
   ·skip
    rw[if_pos (by rfl)]
    simp only[Aa,Ab,Ac]
    go_simp
    refine(hH.out _ (show Hid (MtP (w1.drew.alloc (.cells zzM.toArray 32)) m v)from HMP.out.later c) (show Hid (OwnI (w1.drew.alloc (.cells zzM.toArray 32)) 0 s.v t.ws)from HS1.out.keep fun _ _ hk=>c.block _ hk)).mono ?_
    rintro e y1 ⟨u,fs,sn,rfl,hc,b⟩
    have BM:=Ag (BM.out.later b)
    have HC:Hid (okb=true→HdR y1 m2 u fs L2 t2 sn):=hc
    have c:=qAa c b
    refine hK.out _ _ (c) (fun Ah=>?_)
    clear hK K
    try simp only[Act.put,Aa,Ab,Ac,Ad,Ae,Af]
    clear b hc
    refine tkQ 10 rfl (by kernel_rfl) (by rfl) (fun _ _=>by simp only[Aa,Ab,Ac];go_simp;try with_reducible rfl) Ah ?_ fun _ _ _ h=>h
    try simp only[Act.put,Aa,Ab,Ac,Ad,Ae,Af]
    refine tkQ 11 rfl (by kernel_rfl) (by rfl) (fun _ _=>by simp only[Aa,Ab,Ac];go_simp;try with_reducible rfl) Ah ?_ fun _ _ _ h=>h
    try simp only[Act.put,Aa,Ab,Ac,Ad,Ae,Af]
    refine tkQ 12 rfl (by kernel_rfl) (by rfl) (fun _ _=>by simp only[Aa,Ab,Ac];go_simp;try with_reducible rfl) Ah ?_ fun _ _ _ h=>h
    try simp only[Act.put,Aa,Ab,Ac,Ad,Ae,Af]
    refine tkQ 13 rfl (by kernel_rfl) (by rfl) (fun _ _=>by simp only[Aa,Ab,Ac];go_simp;try with_reducible rfl) Ah ?_ fun _ _ _ h=>h
    try simp only[Act.put,Aa,Ab,Ac,Ad,Ae,Af]
    refine tkQ 14 rfl (by kernel_rfl) (by rfl) (fun _ _=>by simp only[Aa,Ab,Ac];go_simp;try with_reducible rfl) Ah ?_ fun _ _ _ h=>h
    try simp only[Act.put,Aa,Ab,Ac,Ad,Ae,Af]
    refine wpAnyH_ready (rs:=[16]) (by kernel_rfl) (by simp) ?_
    refine AllReadyH.cons (i:=16) rfl (fun K hK=>?_) AllReadyH.nil
    rw[if_pos (by rfl)]
    simp only[Aa,Ab,Ac]
    go_simp
    have b:=bA y1 (.cells zzT.toArray 30)
    have BM:=Ag (BM.out.later b)
    have HC:Hid (okb=true→HdR (y1.alloc (.cells zzT.toArray 30)) m2 u fs L2 t2 sn):=fun e=>(HC.out e).later b
    have BT:=Ag (bxAt y1 30 [.int .i64 0,.int .i64 0,.int .i64 0,.int .i64 0,.int .i64 0,.slice none 0 0] y1.heap.size (by simp))
    have zBT:w1.heap.size≤y1.heap.size:=by have h:=c.size;rw[show y1.heap.size=y1.heap.size by simp]at h;exact h
    have c:=qAa c b
    refine hK.out _ _ (c) (fun Ah=>?_)
    clear hK K
    try simp only[Act.put,Aa,Ab,Ac,Ad,Ae,Af]
    clear b
    refine wpAnyH_ready (rs:=[17]) (by kernel_rfl) (by simp) ?_
    refine AllReadyH.cons (i:=17) rfl (fun K hK=>?_) AllReadyH.nil
    rw[if_pos (by rfl)]
    simp only[Aa,Ab,Ac]
    refine qAm 32 _ _ rfl w1.heap.size (by rfl) 32 _ BM.out (mC m2 u) (by rfl) rfl Tryz.sizeM rfl ?_
    intro x1 kb kt
    have BT:=Ag (BT.out.kt (KeepTy.ofTurn (S:=fun X=>X=32) BM.out kt rfl) (by decide))
    have HC:Hid (okb=true→HdR x1 m2 u fs L2 t2 sn):=fun e=>(HC.out e).keepb BM.out kt.keep (by decide) (by decide) (by decide)
    have c:=c.trans (kt.below zBM)
    have BM:=Ag kb
    refine hK.out _ _ (c) (fun Ah=>?_)
    clear hK K
    try simp only[Act.put,Aa,Ab,Ac,Ad,Ae,Af]
    clear kb kt
    refine tkQ 18 rfl (by kernel_rfl) (by rfl) (fun _ _=>by simp only[Aa,Ab,Ac];go_simp;try with_reducible rfl) Ah ?_ fun _ _ _ h=>h
    try simp only[Act.put,Aa,Ab,Ac,Ad,Ae,Af]
    refine wpAnyH_ready (rs:=[19]) (by kernel_rfl) (by simp) ?_
    refine AllReadyH.cons (i:=19) rfl (fun K hK=>?_) AllReadyH.nil
    rw[if_pos (by rfl)]
    simp only[Aa,Ab,Ac]
    refine qAm 30 _ _ rfl y1.heap.size (by rfl) 30 _ BT.out (tX t2.c t2.r t2.q t2.a t2.b sn) (by rfl) rfl Tryz.sizeT rfl ?_
    intro x2 kb kt
    have BM:=Ag (BM.out.kt (KeepTy.ofTurn (S:=fun X=>X=30) BT.out kt rfl) (by decide))
    have HC:Hid (okb=true→HdR x2 m2 u fs L2 t2 sn):=fun e=>(HC.out e).keepb BT.out kt.keep (by decide) (by decide) (by decide)
    have c:=c.trans (kt.below zBT)
    have BT:=Ag kb
    refine hK.out _ _ (c) (fun Ah=>?_)
    clear hK K
    try simp only[Act.put,Aa,Ab,Ac,Ad,Ae,Af]
    clear kb kt
    refine tkQ 20 rfl (by kernel_rfl) (by rfl) (fun _ _=>by simp only[Aa,Ab,Ac];go_simp;try with_reducible rfl) Ah ?_ fun _ _ _ h=>h
    try simp only[Act.put,Aa,Ab,Ac,Ad,Ae,Af]
    refine wpAnyH_done (by kernel_rfl) ?_ _
    try go_wp2_with fail
    go_meet
    exact⟨w1.heap.size,y1.heap.size,u,fs,sn,rfl,rfl,rfl,rfl,BM.out,BT.out,HC.out,zBM,zBT,c⟩
   ·skip
    rw[if_pos (by rfl)]
    simp only[Aa,Ab,Ac]
    go_simp
    have b:Below (w1.drew.alloc (.cells zzM.toArray 32)).heap.size (w1.drew.alloc (.cells zzM.toArray 32)) ((w1.drew.alloc (.cells zzM.toArray 32)).alloc (.cells zzT.toArray 30)):=(Below.refl _ _).alloc (Nat.le_refl _) _
    obtain⟨BM,BT⟩:=cy2 (BM.out.later b) (bxAt (w1.drew.alloc (.cells zzM.toArray 32)) 30 [.int .i64 0,.int .i64 0,.int .i64 0,.int .i64 0,.int .i64 0,.slice none 0 0] (w1.heap.size+1) (by simp))
    have zBT:w1.heap.size≤(w1.heap.size+1):=by have h:=c.size;rw[show(w1.drew.alloc (.cells zzM.toArray 32)).heap.size=(w1.heap.size+1) by simp]at h;exact h
    have c:=qAa c b
    refine hK.out _ _ (c) (fun Ah=>?_)
    clear hK K
    try simp only[Act.put,Aa,Ab,Ac,Ad,Ae,Af]
    clear b
    refine wpAnyH_ready (rs:=[9]) (by kernel_rfl) (by simp) ?_
    refine AllReadyH.cons (i:=9) rfl (fun K hK=>?_) AllReadyH.nil
    rw[if_pos (by rfl)]
    simp only[Aa,Ab,Ac]
    go_simp
    refine(hH.out _ (show Hid (MtP ((w1.drew.alloc (.cells zzM.toArray 32)).alloc (.cells zzT.toArray 30)) m v)from HMP.out.later c) (show Hid (OwnI ((w1.drew.alloc (.cells zzM.toArray 32)).alloc (.cells zzT.toArray 30)) 0 s.v t.ws)from HS1.out.keep fun _ _ hk=>c.block _ hk)).mono ?_
    rintro e y1 ⟨u,fs,sn,rfl,hc,b⟩
    obtain⟨BM,BT⟩:=cy2 (BM.out.later b) (BT.out.later b)
    have HC:Hid (okb=true→HdR y1 m2 u fs L2 t2 sn):=hc
    have c:=qAa c b
    refine hK.out _ _ (c) (fun Ah=>?_)
    clear hK K
    try simp only[Act.put,Aa,Ab,Ac,Ad,Ae,Af]
    clear b hc
    refine tkQ 10 rfl (by kernel_rfl) (by rfl) (fun _ _=>by simp only[Aa,Ab,Ac];go_simp;try with_reducible rfl) Ah ?_ fun _ _ _ h=>h
    try simp only[Act.put,Aa,Ab,Ac,Ad,Ae,Af]
    refine tkQ 11 rfl (by kernel_rfl) (by rfl) (fun _ _=>by simp only[Aa,Ab,Ac];go_simp;try with_reducible rfl) Ah ?_ fun _ _ _ h=>h
    try simp only[Act.put,Aa,Ab,Ac,Ad,Ae,Af]
    refine tkQ 12 rfl (by kernel_rfl) (by rfl) (fun _ _=>by simp only[Aa,Ab,Ac];go_simp;try with_reducible rfl) Ah ?_ fun _ _ _ h=>h
    try simp only[Act.put,Aa,Ab,Ac,Ad,Ae,Af]
    refine tkQ 13 rfl (by kernel_rfl) (by rfl) (fun _ _=>by simp only[Aa,Ab,Ac];go_simp;try with_reducible rfl) Ah ?_ fun _ _ _ h=>h
    try simp only[Act.put,Aa,Ab,Ac,Ad,Ae,Af]
    refine tkQ 14 rfl (by kernel_rfl) (by rfl) (fun _ _=>by simp only[Aa,Ab,Ac];go_simp;try with_reducible rfl) Ah ?_ fun _ _ _ h=>h
    try simp only[Act.put,Aa,Ab,Ac,Ad,Ae,Af]
    refine wpAnyH_ready (rs:=[17]) (by kernel_rfl) (by simp) ?_
    refine AllReadyH.cons (i:=17) rfl (fun K hK=>?_) AllReadyH.nil
    rw[if_pos (by rfl)]
    simp only[Aa,Ab,Ac]
    refine qAm 32 _ _ rfl w1.heap.size (by rfl) 32 _ BM.out (mC m2 u) (by rfl) rfl Tryz.sizeM rfl ?_
    intro x1 kb kt
    have BT:=Ag (BT.out.kt (KeepTy.ofTurn (S:=fun X=>X=32) BM.out kt rfl) (by decide))
    have HC:Hid (okb=true→HdR x1 m2 u fs L2 t2 sn):=fun e=>(HC.out e).keepb BM.out kt.keep (by decide) (by decide) (by decide)
    have c:=c.trans (kt.below zBM)
    have BM:=Ag kb
    refine hK.out _ _ (c) (fun Ah=>?_)
    clear hK K
    try simp only[Act.put,Aa,Ab,Ac,Ad,Ae,Af]
    clear kb kt
    refine tkQ 18 rfl (by kernel_rfl) (by rfl) (fun _ _=>by simp only[Aa,Ab,Ac];go_simp;try with_reducible rfl) Ah ?_ fun _ _ _ h=>h
    try simp only[Act.put,Aa,Ab,Ac,Ad,Ae,Af]
    refine wpAnyH_ready (rs:=[19]) (by kernel_rfl) (by simp) ?_
    refine AllReadyH.cons (i:=19) rfl (fun K hK=>?_) AllReadyH.nil
    rw[if_pos (by rfl)]
    simp only[Aa,Ab,Ac]
    refine qAm 30 _ _ rfl (w1.heap.size+1) (by rfl) 30 _ BT.out (tX t2.c t2.r t2.q t2.a t2.b sn) (by rfl) rfl Tryz.sizeT rfl ?_
    intro x2 kb kt
    have BM:=Ag (BM.out.kt (KeepTy.ofTurn (S:=fun X=>X=30) BT.out kt rfl) (by decide))
    have HC:Hid (okb=true→HdR x2 m2 u fs L2 t2 sn):=fun e=>(HC.out e).keepb BT.out kt.keep (by decide) (by decide) (by decide)
    have c:=c.trans (kt.below zBT)
    have BT:=Ag kb
    refine hK.out _ _ (c) (fun Ah=>?_)
    clear hK K
    try simp only[Act.put,Aa,Ab,Ac,Ad,Ae,Af]
    clear kb kt
    refine tkQ 20 rfl (by kernel_rfl) (by rfl) (fun _ _=>by simp only[Aa,Ab,Ac];go_simp;try with_reducible rfl) Ah ?_ fun _ _ _ h=>h
    try simp only[Act.put,Aa,Ab,Ac,Ad,Ae,Af]
    refine wpAnyH_done (by kernel_rfl) ?_ _
    try go_wp2_with fail
    go_meet
    exact⟨w1.heap.size,(w1.heap.size+1),u,fs,sn,rfl,rfl,rfl,rfl,BM.out,BT.out,HC.out,zBM,zBT,c⟩
  ·skip
   rw[if_pos (by rfl)]
   simp only[Aa,Ab,Ac]
   go_simp
   have b:=bA w1.drew (.cells zzT.toArray 30)
   have BT:=Ag (bxAt w1.drew 30 [.int .i64 0,.int .i64 0,.int .i64 0,.int .i64 0,.int .i64 0,.slice none 0 0] w1.heap.size (by simp))
   have zBT:w1.heap.size≤w1.heap.size:=by have h:=c.size;rw[show w1.drew.heap.size=w1.heap.size by simp]at h;exact h
   have c:=qAa c b
   refine hK.out _ _ (c) (fun Ah=>?_)
   clear hK K
   try simp only[Act.put,Aa,Ab,Ac,Ad,Ae,Af]
   clear b
   refine wpAnyH_ready (rs:=[9,15]) (by kernel_rfl) (by simp) ?_
   refine(AllReadyH.cons (i:=9) rfl (fun K hK=>?_) (AllReadyH.cons (i:=15) rfl (fun K hK=>?_) AllReadyH.nil))
   ·skip
    rw[if_pos (by rfl)]
    simp only[Aa,Ab,Ac]
    go_simp
    refine(hH.out _ (show Hid (MtP (w1.drew.alloc (.cells zzT.toArray 30)) m v)from HMP.out.later c) (show Hid (OwnI (w1.drew.alloc (.cells zzT.toArray 30)) 0 s.v t.ws)from HS1.out.keep fun _ _ hk=>c.block _ hk)).mono ?_
    rintro e y1 ⟨u,fs,sn,rfl,hc,b⟩
    have BT:=Ag (BT.out.later b)
    have HC:Hid (okb=true→HdR y1 m2 u fs L2 t2 sn):=hc
    have c:=qAa c b
    refine hK.out _ _ (c) (fun Ah=>?_)
    clear hK K
    try simp only[Act.put,Aa,Ab,Ac,Ad,Ae,Af]
    clear b hc
    refine tkQ 10 rfl (by kernel_rfl) (by rfl) (fun _ _=>by simp only[Aa,Ab,Ac];go_simp;try with_reducible rfl) Ah ?_ fun _ _ _ h=>h
    try simp only[Act.put,Aa,Ab,Ac,Ad,Ae,Af]
    refine tkQ 11 rfl (by kernel_rfl) (by rfl) (fun _ _=>by simp only[Aa,Ab,Ac];go_simp;try with_reducible rfl) Ah ?_ fun _ _ _ h=>h
    try simp only[Act.put,Aa,Ab,Ac,Ad,Ae,Af]
    refine tkQ 12 rfl (by kernel_rfl) (by rfl) (fun _ _=>by simp only[Aa,Ab,Ac];go_simp;try with_reducible rfl) Ah ?_ fun _ _ _ h=>h
    try simp only[Act.put,Aa,Ab,Ac,Ad,Ae,Af]
    refine tkQ 13 rfl (by kernel_rfl) (by rfl) (fun _ _=>by simp only[Aa,Ab,Ac];go_simp;try with_reducible rfl) Ah ?_ fun _ _ _ h=>h
    try simp only[Act.put,Aa,Ab,Ac,Ad,Ae,Af]
    refine tkQ 14 rfl (by kernel_rfl) (by rfl) (fun _ _=>by simp only[Aa,Ab,Ac];go_simp;try with_reducible rfl) Ah ?_ fun _ _ _ h=>h
    try simp only[Act.put,Aa,Ab,Ac,Ad,Ae,Af]
    refine wpAnyH_ready (rs:=[15]) (by kernel_rfl) (by simp) ?_
    refine AllReadyH.cons (i:=15) rfl (fun K hK=>?_) AllReadyH.nil
    rw[if_pos (by rfl)]
    simp only[Aa,Ab,Ac]
    go_simp
    have b:=bA y1 (.cells zzM.toArray 32)
    have BT:=Ag (BT.out.later b)
    have HC:Hid (okb=true→HdR (y1.alloc (.cells zzM.toArray 32)) m2 u fs L2 t2 sn):=fun e=>(HC.out e).later b
    have BM:=Ag (bxAt y1 32 [.int .i64 0,.int .i64 0,.slice none 0 0,.slice none 0 0,.slice none 0 0,.slice none 0 0,.int .i64 0,.int .i64 0,.int .i64 0,.int .i64 0,.int .i64 0,.int .i64 0,.int .i64 0,.int .i64 0,.int .i64 0,.slice none 0 0] y1.heap.size (by simp))
    have zBM:w1.heap.size≤y1.heap.size:=by have h:=c.size;rw[show y1.heap.size=y1.heap.size by simp]at h;exact h
    have c:=qAa c b
    refine hK.out _ _ (c) (fun Ah=>?_)
    clear hK K
    try simp only[Act.put,Aa,Ab,Ac,Ad,Ae,Af]
    clear b
    refine wpAnyH_ready (rs:=[17]) (by kernel_rfl) (by simp) ?_
    refine AllReadyH.cons (i:=17) rfl (fun K hK=>?_) AllReadyH.nil
    rw[if_pos (by rfl)]
    simp only[Aa,Ab,Ac]
    refine qAm 32 _ _ rfl y1.heap.size (by rfl) 32 _ BM.out (mC m2 u) (by rfl) rfl Tryz.sizeM rfl ?_
    intro x1 kb kt
    have BT:=Ag (BT.out.kt (KeepTy.ofTurn (S:=fun X=>X=32) BM.out kt rfl) (by decide))
    have HC:Hid (okb=true→HdR x1 m2 u fs L2 t2 sn):=fun e=>(HC.out e).keepb BM.out kt.keep (by decide) (by decide) (by decide)
    have c:=c.trans (kt.below zBM)
    have BM:=Ag kb
    refine hK.out _ _ (c) (fun Ah=>?_)
    clear hK K
    try simp only[Act.put,Aa,Ab,Ac,Ad,Ae,Af]
    clear kb kt
    refine tkQ 18 rfl (by kernel_rfl) (by rfl) (fun _ _=>by simp only[Aa,Ab,Ac];go_simp;try with_reducible rfl) Ah ?_ fun _ _ _ h=>h
    try simp only[Act.put,Aa,Ab,Ac,Ad,Ae,Af]
    refine wpAnyH_ready (rs:=[19]) (by kernel_rfl) (by simp) ?_
    refine AllReadyH.cons (i:=19) rfl (fun K hK=>?_) AllReadyH.nil
    rw[if_pos (by rfl)]
    simp only[Aa,Ab,Ac]
    refine qAm 30 _ _ rfl w1.heap.size (by rfl) 30 _ BT.out (tX t2.c t2.r t2.q t2.a t2.b sn) (by rfl) rfl Tryz.sizeT rfl ?_
    intro x2 kb kt
    have BM:=Ag (BM.out.kt (KeepTy.ofTurn (S:=fun X=>X=30) BT.out kt rfl) (by decide))
    have HC:Hid (okb=true→HdR x2 m2 u fs L2 t2 sn):=fun e=>(HC.out e).keepb BT.out kt.keep (by decide) (by decide) (by decide)
    have c:=c.trans (kt.below zBT)
    have BT:=Ag kb
    refine hK.out _ _ (c) (fun Ah=>?_)
    clear hK K
    try simp only[Act.put,Aa,Ab,Ac,Ad,Ae,Af]
    clear kb kt
    refine tkQ 20 rfl (by kernel_rfl) (by rfl) (fun _ _=>by simp only[Aa,Ab,Ac];go_simp;try with_reducible rfl) Ah ?_ fun _ _ _ h=>h
    try simp only[Act.put,Aa,Ab,Ac,Ad,Ae,Af]
    refine wpAnyH_done (by kernel_rfl) ?_ _
    try go_wp2_with fail
    go_meet
    exact⟨y1.heap.size,w1.heap.size,u,fs,sn,rfl,rfl,rfl,rfl,BM.out,BT.out,HC.out,zBM,zBT,c⟩
   ·skip
    rw[if_pos (by rfl)]
    simp only[Aa,Ab,Ac]
    go_simp
    have b:Below (w1.drew.alloc (.cells zzT.toArray 30)).heap.size (w1.drew.alloc (.cells zzT.toArray 30)) ((w1.drew.alloc (.cells zzT.toArray 30)).alloc (.cells zzM.toArray 32)):=(Below.refl _ _).alloc (Nat.le_refl _) _
    obtain⟨BT,BM⟩:=cy2 (BT.out.later b) (bxAt (w1.drew.alloc (.cells zzT.toArray 30)) 32 [.int .i64 0,.int .i64 0,.slice none 0 0,.slice none 0 0,.slice none 0 0,.slice none 0 0,.int .i64 0,.int .i64 0,.int .i64 0,.int .i64 0,.int .i64 0,.int .i64 0,.int .i64 0,.int .i64 0,.int .i64 0,.slice none 0 0] (w1.heap.size+1) (by simp))
    have zBM:w1.heap.size≤(w1.heap.size+1):=by have h:=c.size;rw[show(w1.drew.alloc (.cells zzT.toArray 30)).heap.size=(w1.heap.size+1) by simp]at h;exact h
    have c:=qAa c b
    refine hK.out _ _ (c) (fun Ah=>?_)
    clear hK K
    try simp only[Act.put,Aa,Ab,Ac,Ad,Ae,Af]
    clear b
    refine wpAnyH_ready (rs:=[9]) (by kernel_rfl) (by simp) ?_
    refine AllReadyH.cons (i:=9) rfl (fun K hK=>?_) AllReadyH.nil
    rw[if_pos (by rfl)]
    simp only[Aa,Ab,Ac]
    go_simp
    refine(hH.out _ (show Hid (MtP ((w1.drew.alloc (.cells zzT.toArray 30)).alloc (.cells zzM.toArray 32)) m v)from HMP.out.later c) (show Hid (OwnI ((w1.drew.alloc (.cells zzT.toArray 30)).alloc (.cells zzM.toArray 32)) 0 s.v t.ws)from HS1.out.keep fun _ _ hk=>c.block _ hk)).mono ?_
    rintro e y1 ⟨u,fs,sn,rfl,hc,b⟩
    obtain⟨BM,BT⟩:=cy2 (BM.out.later b) (BT.out.later b)
    have HC:Hid (okb=true→HdR y1 m2 u fs L2 t2 sn):=hc
    have c:=qAa c b
    refine hK.out _ _ (c) (fun Ah=>?_)
    clear hK K
    try simp only[Act.put,Aa,Ab,Ac,Ad,Ae,Af]
    clear b hc
    refine tkQ 10 rfl (by kernel_rfl) (by rfl) (fun _ _=>by simp only[Aa,Ab,Ac];go_simp;try with_reducible rfl) Ah ?_ fun _ _ _ h=>h
    try simp only[Act.put,Aa,Ab,Ac,Ad,Ae,Af]
    refine tkQ 11 rfl (by kernel_rfl) (by rfl) (fun _ _=>by simp only[Aa,Ab,Ac];go_simp;try with_reducible rfl) Ah ?_ fun _ _ _ h=>h
    try simp only[Act.put,Aa,Ab,Ac,Ad,Ae,Af]
    refine tkQ 12 rfl (by kernel_rfl) (by rfl) (fun _ _=>by simp only[Aa,Ab,Ac];go_simp;try with_reducible rfl) Ah ?_ fun _ _ _ h=>h
    try simp only[Act.put,Aa,Ab,Ac,Ad,Ae,Af]
    refine tkQ 13 rfl (by kernel_rfl) (by rfl) (fun _ _=>by simp only[Aa,Ab,Ac];go_simp;try with_reducible rfl) Ah ?_ fun _ _ _ h=>h
    try simp only[Act.put,Aa,Ab,Ac,Ad,Ae,Af]
    refine tkQ 14 rfl (by kernel_rfl) (by rfl) (fun _ _=>by simp only[Aa,Ab,Ac];go_simp;try with_reducible rfl) Ah ?_ fun _ _ _ h=>h
    try simp only[Act.put,Aa,Ab,Ac,Ad,Ae,Af]
    refine wpAnyH_ready (rs:=[17]) (by kernel_rfl) (by simp) ?_
    refine AllReadyH.cons (i:=17) rfl (fun K hK=>?_) AllReadyH.nil
    rw[if_pos (by rfl)]
    simp only[Aa,Ab,Ac]
    refine qAm 32 _ _ rfl (w1.heap.size+1) (by rfl) 32 _ BM.out (mC m2 u) (by rfl) rfl Tryz.sizeM rfl ?_
    intro x1 kb kt
    have BT:=Ag (BT.out.kt (KeepTy.ofTurn (S:=fun X=>X=32) BM.out kt rfl) (by decide))
    have HC:Hid (okb=true→HdR x1 m2 u fs L2 t2 sn):=fun e=>(HC.out e).keepb BM.out kt.keep (by decide) (by decide) (by decide)
    have c:=c.trans (kt.below zBM)
    have BM:=Ag kb
    refine hK.out _ _ (c) (fun Ah=>?_)
    clear hK K
    try simp only[Act.put,Aa,Ab,Ac,Ad,Ae,Af]
    clear kb kt
    refine tkQ 18 rfl (by kernel_rfl) (by rfl) (fun _ _=>by simp only[Aa,Ab,Ac];go_simp;try with_reducible rfl) Ah ?_ fun _ _ _ h=>h
    try simp only[Act.put,Aa,Ab,Ac,Ad,Ae,Af]
    refine wpAnyH_ready (rs:=[19]) (by kernel_rfl) (by simp) ?_
    refine AllReadyH.cons (i:=19) rfl (fun K hK=>?_) AllReadyH.nil
    rw[if_pos (by rfl)]
    simp only[Aa,Ab,Ac]
    refine qAm 30 _ _ rfl w1.heap.size (by rfl) 30 _ BT.out (tX t2.c t2.r t2.q t2.a t2.b sn) (by rfl) rfl Tryz.sizeT rfl ?_
    intro x2 kb kt
    have BM:=Ag (BM.out.kt (KeepTy.ofTurn (S:=fun X=>X=30) BT.out kt rfl) (by decide))
    have HC:Hid (okb=true→HdR x2 m2 u fs L2 t2 sn):=fun e=>(HC.out e).keepb BT.out kt.keep (by decide) (by decide) (by decide)
    have c:=c.trans (kt.below zBT)
    have BT:=Ag kb
    refine hK.out _ _ (c) (fun Ah=>?_)
    clear hK K
    try simp only[Act.put,Aa,Ab,Ac,Ad,Ae,Af]
    clear kb kt
    refine tkQ 20 rfl (by kernel_rfl) (by rfl) (fun _ _=>by simp only[Aa,Ab,Ac];go_simp;try with_reducible rfl) Ah ?_ fun _ _ _ h=>h
    try simp only[Act.put,Aa,Ab,Ac,Ad,Ae,Af]
    refine wpAnyH_done (by kernel_rfl) ?_ _
    try go_wp2_with fail
    go_meet
    exact⟨(w1.heap.size+1),w1.heap.size,u,fs,sn,rfl,rfl,rfl,rfl,BM.out,BT.out,HC.out,zBM,zBT,c⟩
 case rest=>
 obtain⟨gb,gt,u,fs,sn,rfl,rfl,rfl,rfl,bm,bt,hcc,zb,zt,b2⟩:=hcut
 generalize wc=w2 at *
 cases okb with
 |false=>
  go_wp2_with fail
  go_ret
  exact(show ComeP false _ _ _ _ _ from⟨rfl,qAa B1.out b2⟩)
 |true=>
 obtain⟨hu,hf,ht⟩:=hcc rfl
 obtain⟨hml,hfl,hsl⟩:=hbig rfl
 clear hcc hbig
 obtain⟨BM,BT⟩:=cy2 bm bt
 have HU:Hid (MtP w2 m2 u):=hu
 have HF:Hid (SlI w2 0 fs.v (L2)):=hf
 have HT:Hid (OwnI w2 0 sn.v t2.ws):=ht
 obtain⟨G2,P2,FB,B2⟩:=cy4 (G1.out.later b2) (P1.out.below b2) (FB.out.later b2) (qAa B1.out b2)
 have z2:=b2.size
 clear bm bt hu hf ht b2 G1 P1 G1a HMP HR HS1 B1 hgm hgl
 go_wp2_with (first|(refine qAb rfl 32 _ rfl gb 0 rfl 32 _ BM.out (mC m2 u) rfl _ Tryz.underlying32 rfl Tryz.sizeM ?_))
 refine(qEv g k i m2 u _ G2 P2 HU hi (by omega)).mono ?_
 rintro e w3 ⟨rfl,mz,g3,p3,k3⟩
 have G3:=Ag g3
 have P3:Hid (WkP w3 (k.setM i m2 u mz)):=p3
 obtain⟨BT,HF,HT,FB⟩:=cy4 (BT.out.keepb k3 (by omega)) (SlI.keepb HF.out G2.out k3 (by decide)) (HT.out.keepb G2.out k3 (by decide)) (FB.out.keepb k3 (by omega))
 have K3:Hid (KeepBut g w w3):=(qAc B2.out).trans k3
 have z3:=k3.size
 clear g3 p3 k3 BM HU G2 P2 B2
 obtain⟨L,hL⟩: ∃x,x=L2:=⟨_,rfl⟩
 have hLl:L.length≤63:=by rw[hL];exact hLl2
 have HL:Hid (L=L2):=hL
 rw[←hL]at HF
 clear hL
 have HFN:Hid (fs.n=L.length):=HF.out.len
 have hfn:fs.n≤63:=by have:=HFN.out;omega
 have K0:Hid (KeepBut g w3 w3):=qAc (Below.refl _ _)
 go_wp2_with fail
 go_loopw [10] (fun v10 wr=>∃(j:Nat) (z:Sv) (sa:List It),j≤fs.n∧v10=.int .i64 (j:Int)∧Hid (sa=k.sa++newQ t (L.take j))∧Hid (Bx wr g 56 [.int .i64 k.rid,.slice k.mv.a k.mv.n k.mv.c,.slice mz.a mz.n mz.c,.slice k.flv.a k.flv.n k.flv.c,.slice k.hev.a k.hev.n k.hev.c,.slice z.a z.n z.c])∧Hid (SlI wr 0 z.v sa)∧Hid (KeepBut g w3 wr)) (fun v10 _=>fs.n - (intOf v10).toNat)
 case atStart=>exact⟨0,k.sav,k.sa,Nat.zero_le _,rfl,by simp[newQ];trivial,G3,P3.out.sa,K0⟩
 case round=>
  clear K0
  obtain⟨j,z,sa,hj,rfl,HSA,GR,SR,KR⟩:=hrel
  have FB1:=Ag (FB.out.keepb KR.out (by omega))
  have zr:w3.heap.size≤wr.heap.size:=KR.out.size
  by_cases hlt:j<fs.n
  ·have hjL:j<L.length:=by have:=HFN.out;omega
   have HF1:=Ag (SlI.keepb HF.out G3.out KR.out (by decide))
   have hsal:sa.length≤991000:=by have e1:=HSA.out;have e2:=newQ_len t (L.take j);rw[e1,List.length_append];rw[List.length_take]at e2;omega
   obtain⟨gi,oi,hia,_,hil2,hir⟩:=HF1.out.at hjL
   obtain⟨⟨q1,f1,l1,t1⟩,hy⟩: ∃y:It,L[j]=y:=⟨_,rfl⟩
   rw[hy]at hir
   have HY:Hid (L[j]=(q1,f1,l1,t1)):=hy
   have HIR:Hid (wr.rangeAt gi (oi+j * 4) [.int .i64 q1,.int .i64 f1,.int .i64 l1,.string t1]):=hir
   have hc:wr.cell? ⟨gi,oi+j * 4,none⟩=some (.int .i64 q1):=by have:=qCx hir 0 (v:=.int .i64 q1) rfl;simpa using this
   have HC:Hid (wr.cell? ⟨gi,oi+j * 4,none⟩=some (.int .i64 q1)):=hc
   clear hy hir hc
   obtain⟨fa,fn,fc⟩:=fs
   simp only at hia
   subst hia
   have i0:(0:Int)≤(j:Int):=by omega
   have i1:(j:Int)<(fn:Int):=by have:=hlt;simp at this;omega
   go_wp2_with fail
   go_cut [68]from 58 to 83 (fun a68 wx=>a68=.bool (decide (t.q<q1))∧wx=wr.drew)
   case first=>
    have c:wr.drew=wr.drew:=rfl
    refine wp_region_held_drew (S:=fun w'=>w'=wr.drew) (by kernel_rfl) rfl (fun Ah=>?_)
    refine tkQ 0 rfl (by kernel_rfl) (by rfl) (fun _ _=>by simp only[Aa,Ab,Ac];go_simp;try with_reducible rfl) Ah ?_ fun _ _ _ h=>h
    try simp only[Act.put,Aa,Ab,Ac,Ad,Ae,Af]
    refine tkQ 1 rfl (by kernel_rfl) (by rfl) (fun _ _=>by simp only[Aa,Ab,Ac];go_simp;try with_reducible rfl) Ah ?_ fun _ _ _ h=>h
    try simp only[Act.put,Aa,Ab,Ac,Ad,Ae,Af]
    refine tkQ 2 rfl (by kernel_rfl) (by rfl) (fun _ _=>by simp only[Aa,Ab,Ac];go_simp;try with_reducible rfl) Ah ?_ fun _ _ _ h=>h
    try simp only[Act.put,Aa,Ab,Ac,Ad,Ae,Af]
    refine tkQ 3 rfl (by kernel_rfl) (by rfl) (fun _ _=>by simp only[Aa,Ab,Ac];go_simp;try with_reducible rfl) Ah ?_ fun _ _ _ h=>h
    try simp only[Act.put,Aa,Ab,Ac,Ad,Ae,Af]
    refine tkH (i:=4) (v:=.int .i64 q1) rfl (by kernel_rfl) (fun _ _ _ h=>h) (Or.inl ⟨by rfl,fun w hS=>by subst hS;have hc0:=HC.out;go_simp⟩) Ah ?_
    try simp only[Act.put,Ad,Ae,Af]
    refine tkQ 5 rfl (by kernel_rfl) (by rfl) (fun _ _=>by simp only[Aa,Ab,Ac];go_simp;try with_reducible rfl) Ah ?_ fun _ _ _ h=>h
    try simp only[Act.put,Aa,Ab,Ac,Ad,Ae,Af]
    refine tkQ 6 rfl (by kernel_rfl) (by rfl) (fun _ _=>by simp only[Aa,Ab,Ac];go_simp;try with_reducible rfl) Ah ?_ fun _ _ _ h=>h
    try simp only[Act.put,Aa,Ab,Ac,Ad,Ae,Af]
    refine tkH (i:=7) (v:=_) rfl (by kernel_rfl) (fun _ _ _ h=>h) (qAf (by rfl) 3 _ rfl w.heap.size 4 rfl 68 _ (fun w hS=>by subst hS;exact FB1.out.later (Below.refl _ _).drew) (.int .i64 t.q) rfl _ Tryz.underlying3 rfl) Ah ?_
    try simp only[Act.put,Aa,Ab,Ac,Ad,Ae,Af]
    refine tkQ 8 rfl (by kernel_rfl) (by rfl) (fun _ _=>by simp only[Aa,Ab,Ac];go_simp;try with_reducible rfl) Ah ?_ fun _ _ _ h=>h
    try simp only[Act.put,Aa,Ab,Ac,Ad,Ae,Af]
    refine wpAnyH_done (by kernel_rfl) ?_ _
    try go_wp2_with fail
    go_meet
    exact⟨rfl,rfl⟩
   case rest=>
   obtain⟨rfl,rfl⟩:=hcut
   have bd:Below wr.heap.size wr wr.drew:=(Below.refl _ _).drew
   obtain⟨GR,SR,HIR⟩:=cy3 (GR.out.later bd) (SR.out.below bd) (qAk HIR.out hil2 bd)
   have hil2:gi<wr.drew.heap.size:=by have:=bd.size;omega
   have KR:=Ag (KR.out.trans (qAc bd))
   clear bd HC FB1 HF1
   generalize wr.drew=Wd at *
   have zg3:=GR.out.lt
   by_cases hq:t.q<q1
   ·have hd:decide (t.q<q1)=true:=by simpa using hq
    have E:Hid (sa++[(q1,f1,l1,t1)]=k.sa++newQ t (L.take (j+1))):=(by rw[newP_step hjL,HY.out,if_pos hq,←List.append_assoc,←HSA.out]:_=_)
    rw[hd]
    clear hq
    go_wp2_with fail
    have c:Below Wd.heap.size Wd Wd.drew:=(Below.refl _ _).drew
    refine qAj (S:=fun w'=>Below Wd.heap.size Wd w') _ (by simp) (by kernel_rfl) (by rfl) (by rfl) (by kernel_rfl) (by kernel_rfl) c (fun Ah=>?_)
    simp only[List.dropLast_cons_cons,List.dropLast_singleton,List.getLast_cons_cons,List.getLast_singleton,List.cons_append,List.nil_append,List.length_cons,List.length_nil]
    refine tkQ 0 rfl (by kernel_rfl) (by rfl) (fun _ _=>by simp only[Aa,Ab,Ac];go_simp;try with_reducible rfl) Ah ?_ fun _ _ _ h=>h
    try simp only[Act.put,Aa,Ab,Ac,Ad,Ae,Af]
    refine tkQ 2 rfl (by kernel_rfl) (by rfl) (fun _ _=>by simp only[Aa,Ab,Ac];go_simp;try with_reducible rfl) Ah ?_ fun _ _ _ h=>h
    try simp only[Act.put,Aa,Ab,Ac,Ad,Ae,Af]
    refine tkQ 3 rfl (by kernel_rfl) (by rfl) (fun _ _=>by simp only[Aa,Ab,Ac];go_simp;try with_reducible rfl) Ah ?_ fun _ _ _ h=>h
    try simp only[Act.put,Aa,Ab,Ac,Ad,Ae,Af]
    refine tkQ 4 rfl (by kernel_rfl) (by rfl) (fun _ _=>by simp only[Aa,Ab,Ac];go_simp;try with_reducible rfl) Ah ?_ fun _ _ _ h=>h
    try simp only[Act.put,Aa,Ab,Ac,Ad,Ae,Af]
    refine tkH (i:=5) (v:=_) rfl (by kernel_rfl) (fun _ _ _ h=>h) (qAf (by rfl) 27 _ rfl g 5 rfl 56 _ (fun w hS=>GR.out.later hS) (.slice z.a z.n z.c) rfl _ Tryz.underlying27 rfl) Ah ?_
    try simp only[Act.put,Aa,Ab,Ac,Ad,Ae,Af]
    refine tkQ 7 rfl (by kernel_rfl) (by rfl) (fun _ _=>by simp only[Aa,Ab,Ac];go_simp;try with_reducible rfl) Ah ?_ fun _ _ _ h=>h
    try simp only[Act.put,Aa,Ab,Ac,Ad,Ae,Af]
    refine tkQ 8 rfl (by kernel_rfl) (by rfl) (fun _ _=>by simp only[Aa,Ab,Ac];go_simp;try with_reducible rfl) Ah ?_ fun _ _ _ h=>h
    try simp only[Act.put,Aa,Ab,Ac,Ad,Ae,Af]
    refine tkQ 9 rfl (by kernel_rfl) (by rfl) (fun _ _=>by simp only[Aa,Ab,Ac];go_simp;try with_reducible rfl) Ah ?_ fun _ _ _ h=>h
    try simp only[Act.put,Aa,Ab,Ac,Ad,Ae,Af]
    refine tkH (i:=10) (v:=_) rfl (by kernel_rfl) (fun _ _ _ h=>h) (qDa (by rfl) 41 _ rfl gi (oi+j * 4) (by rfl) [.int .i64 q1,.int .i64 f1,.int .i64 l1,.string t1] (fun w hS=>qAk HIR.out hil2 hS) _ Tryz.underlying41 rfl Tryz.sizeI) Ah ?_
    try simp only[Act.put,Ad,Ae,Af]
    refine wpAnyH_ready (rs:=[1,11]) (by kernel_rfl) (by simp) ?_
    refine(AllReadyH.cons (i:=1) rfl (fun K hK=>?_) (AllReadyH.cons (i:=11) rfl (fun K hK=>?_) AllReadyH.nil))
    ·skip
     rw[if_pos (by rfl)]
     simp only[Aa,Ab,Ac]
     go_simp
     have b:=bA Wd.drew (.cells #[] 41)
     have S1:=Ag (qHi Wd.drew Wd.heap.size Wd.heap.size c.size (by simp))
     have c:=qAa c b
     refine hK.out _ _ (c) (fun Ah=>?_)
     clear hK K
     try simp only[Act.put,Aa,Ab,Ac,Ad,Ae,Af]
     clear b
     refine wpAnyH_ready (rs:=[6,11]) (by kernel_rfl) (by simp) ?_
     refine(AllReadyH.cons (i:=6) rfl (fun K hK=>?_) (AllReadyH.cons (i:=11) rfl (fun K hK=>?_) AllReadyH.nil))
     ·skip
      rw[if_pos (by rfl)]
      simp only[Aa,Ab,Ac]
      refine qAz _ _ 27 rfl Tryz.underlying27 Wd.heap.size (.slice (some ⟨Wd.heap.size,0,none⟩) 0 0) [] (by rfl) S1.out (.slice z.a z.n z.c) sa (by rfl) (SR.out.rit.stays c) (by simp;omega) c.size ?_
      intro v2 y2 s2 g2 _
      rw[List.nil_append]at s2
      have c:=c.grown g2 c.size (fun n hn=>(S1.out.lt n hn).1)
      have S2:Hid (SlI y2 Wd.heap.size v2 sa):=s2
      refine hK.out _ _ (c) (fun Ah=>?_)
      clear hK K
      try simp only[Act.put,Aa,Ab,Ac,Ad,Ae,Af]
      clear s2 g2 S1
      refine wpAnyH_ready (rs:=[11]) (by kernel_rfl) (by simp) ?_
      refine AllReadyH.cons (i:=11) rfl (fun K hK=>?_) AllReadyH.nil
      rw[if_pos (by rfl)]
      simp only[Aa,Ab,Ac]
      go_simp
      have b:=bA y2 (.cells #[.int .i64 q1,.int .i64 f1,.int .i64 l1,.string t1] 41)
      obtain⟨BX,S2⟩:=cy2 (bxAt y2 41 [.int .i64 q1,.int .i64 f1,.int .i64 l1,.string t1] y2.heap.size (by simp)) (S2.out.below b)
      have c:=qAa c b
      refine hK.out _ _ (c) (fun Ah=>?_)
      clear hK K
      try simp only[Act.put,Aa,Ab,Ac,Ad,Ae,Af]
      clear b
      refine wpAnyH_ready (rs:=[12]) (by kernel_rfl) (by simp) ?_
      refine AllReadyH.cons (i:=12) rfl (fun K hK=>?_) AllReadyH.nil
      rw[if_pos (by rfl)]
      simp only[Aa,Ab,Ac]
      have RX:RIt (y2.alloc (.cells #[.int .i64 q1,.int .i64 f1,.int .i64 l1,.string t1] 41)) (Sv.mk (some ⟨y2.heap.size,0,none⟩) 1 1).v [(q1,f1,l1,t1)]:=qKn BX.out BX.out.lt
      refine qAz _ _ 27 rfl Tryz.underlying27 Wd.heap.size v2 sa (by rfl) S2.out _ [(q1,f1,l1,t1)] (by rfl) RX (by simp;omega) c.size ?_
      intro v3 y3 s3 g3 _
      obtain⟨z3,hz3⟩:=SlI.sv s3
      subst hz3
      have c:=c.grown g3 c.size (fun n hn=>(S2.out.lt n hn).1)
      have S3:Hid (SlI y3 0 z3.v (sa++[(q1,f1,l1,t1)])):=SlI.down s3 (Nat.zero_le _)
      refine hK.out _ _ (c) (fun Ah=>?_)
      clear hK K
      try simp only[Act.put,Aa,Ab,Ac,Ad,Ae,Af]
      clear s3 g3 S2 RX
      refine tkQ 13 rfl (by kernel_rfl) (by rfl) (fun _ _=>by simp only[Aa,Ab,Ac];go_simp;try with_reducible rfl) Ah ?_ fun _ _ _ h=>h
      try simp only[Act.put,Aa,Ab,Ac,Ad,Ae,Af]
      refine tkQ 14 rfl (by kernel_rfl) (by rfl) (fun _ _=>by simp only[Aa,Ab,Ac];go_simp;try with_reducible rfl) Ah ?_ fun _ _ _ h=>h
      try simp only[Act.put,Aa,Ab,Ac,Ad,Ae,Af]
      refine tkQ 15 rfl (by kernel_rfl) (by rfl) (fun _ _=>by simp only[Aa,Ab,Ac];go_simp;try with_reducible rfl) Ah ?_ fun _ _ _ h=>h
      try simp only[Act.put,Aa,Ab,Ac,Ad,Ae,Af]
      refine wpAnyH_done (by kernel_rfl) ?_ _
      have G9:=Ag (GR.out.later c)
      refine qBj rfl rfl ?_
      refine qCy 27 _ _ rfl g 5 rfl 56 _ G9.out (.slice z3.a z3.n z3.c) rfl (by simp) rfl Tryz.sizeIs [.int .i64 k.rid,.slice k.mv.a k.mv.n k.mv.c,.slice mz.a mz.n mz.c,.slice k.flv.a k.flv.n k.flv.c,.slice k.hev.a k.hev.n k.hev.c,.slice z3.a z3.n z3.c] rfl ?_
      intro w9 k9 t9
      obtain⟨G10,S10,K10⟩:=cy3 k9 (SlI.past S3.out G9.out t9 (by decide)) ((KR.out.trans (qAc c)).trans t9.keep)
      clear k9 t9 c S3 G9
      go_wp2_with fail
      go_roundw
      case rel=>exact⟨j+1,z3,_,by omega,by go_num,E,G10,S10,K10⟩
      case measure=>simp[intOf];omega
     ·skip
      rw[if_pos (by rfl)]
      simp only[Aa,Ab,Ac]
      go_simp
      have b:Below (Wd.drew.alloc (.cells #[] 41)).heap.size (Wd.drew.alloc (.cells #[] 41)) ((Wd.drew.alloc (.cells #[] 41)).alloc (.cells #[.int .i64 q1,.int .i64 f1,.int .i64 l1,.string t1] 41)):=(Below.refl _ _).alloc (Nat.le_refl _) _
      obtain⟨BX,S1⟩:=cy2 (bxAt (Wd.drew.alloc (.cells #[] 41)) 41 [.int .i64 q1,.int .i64 f1,.int .i64 l1,.string t1] (Wd.heap.size+1) (by simp)) (S1.out.below b)
      have c:=qAa c b
      refine hK.out _ _ (c) (fun Ah=>?_)
      clear hK K
      try simp only[Act.put,Aa,Ab,Ac,Ad,Ae,Af]
      clear b
      refine wpAnyH_ready (rs:=[6]) (by kernel_rfl) (by simp) ?_
      refine AllReadyH.cons (i:=6) rfl (fun K hK=>?_) AllReadyH.nil
      rw[if_pos (by rfl)]
      simp only[Aa,Ab,Ac]
      refine qAz _ _ 27 rfl Tryz.underlying27 Wd.heap.size (.slice (some ⟨Wd.heap.size,0,none⟩) 0 0) [] (by rfl) S1.out (.slice z.a z.n z.c) sa (by rfl) (SR.out.rit.stays c) (by simp;omega) c.size ?_
      intro v2 y2 s2 g2 _
      rw[List.nil_append]at s2
      have BX:Hid (Bx y2 (Wd.heap.size+1) 41 [.int .i64 q1,.int .i64 f1,.int .i64 l1,.string t1]):=BX.out.grown g2 (by simp[Value.ownBlock]<;>omega)
      have c:=c.grown g2 c.size (fun n hn=>(S1.out.lt n hn).1)
      have S2:Hid (SlI y2 Wd.heap.size v2 sa):=s2
      refine hK.out _ _ (c) (fun Ah=>?_)
      clear hK K
      try simp only[Act.put,Aa,Ab,Ac,Ad,Ae,Af]
      clear s2 g2 S1
      refine wpAnyH_ready (rs:=[12]) (by kernel_rfl) (by simp) ?_
      refine AllReadyH.cons (i:=12) rfl (fun K hK=>?_) AllReadyH.nil
      rw[if_pos (by rfl)]
      simp only[Aa,Ab,Ac]
      have RX:RIt y2 (Sv.mk (some ⟨(Wd.heap.size+1),0,none⟩) 1 1).v [(q1,f1,l1,t1)]:=qKn BX.out BX.out.lt
      refine qAz _ _ 27 rfl Tryz.underlying27 Wd.heap.size v2 sa (by rfl) S2.out _ [(q1,f1,l1,t1)] (by rfl) RX (by simp;omega) c.size ?_
      intro v3 y3 s3 g3 _
      obtain⟨z3,hz3⟩:=SlI.sv s3
      subst hz3
      have c:=c.grown g3 c.size (fun n hn=>(S2.out.lt n hn).1)
      have S3:Hid (SlI y3 0 z3.v (sa++[(q1,f1,l1,t1)])):=SlI.down s3 (Nat.zero_le _)
      refine hK.out _ _ (c) (fun Ah=>?_)
      clear hK K
      try simp only[Act.put,Aa,Ab,Ac,Ad,Ae,Af]
      clear s3 g3 S2 RX
      refine tkQ 13 rfl (by kernel_rfl) (by rfl) (fun _ _=>by simp only[Aa,Ab,Ac];go_simp;try with_reducible rfl) Ah ?_ fun _ _ _ h=>h
      try simp only[Act.put,Aa,Ab,Ac,Ad,Ae,Af]
      refine tkQ 14 rfl (by kernel_rfl) (by rfl) (fun _ _=>by simp only[Aa,Ab,Ac];go_simp;try with_reducible rfl) Ah ?_ fun _ _ _ h=>h
      try simp only[Act.put,Aa,Ab,Ac,Ad,Ae,Af]
      refine tkQ 15 rfl (by kernel_rfl) (by rfl) (fun _ _=>by simp only[Aa,Ab,Ac];go_simp;try with_reducible rfl) Ah ?_ fun _ _ _ h=>h
      try simp only[Act.put,Aa,Ab,Ac,Ad,Ae,Af]
      refine wpAnyH_done (by kernel_rfl) ?_ _
      have G9:=Ag (GR.out.later c)
      refine qBj rfl rfl ?_
      refine qCy 27 _ _ rfl g 5 rfl 56 _ G9.out (.slice z3.a z3.n z3.c) rfl (by simp) rfl Tryz.sizeIs [.int .i64 k.rid,.slice k.mv.a k.mv.n k.mv.c,.slice mz.a mz.n mz.c,.slice k.flv.a k.flv.n k.flv.c,.slice k.hev.a k.hev.n k.hev.c,.slice z3.a z3.n z3.c] rfl ?_
      intro w9 k9 t9
      obtain⟨G10,S10,K10⟩:=cy3 k9 (SlI.past S3.out G9.out t9 (by decide)) ((KR.out.trans (qAc c)).trans t9.keep)
      clear k9 t9 c S3 G9
      go_wp2_with fail
      go_roundw
      case rel=>exact⟨j+1,z3,_,by omega,by go_num,E,G10,S10,K10⟩
      case measure=>simp[intOf];omega
    ·skip
     rw[if_pos (by rfl)]
     simp only[Aa,Ab,Ac]
     go_simp
     have b:=bA Wd.drew (.cells #[.int .i64 q1,.int .i64 f1,.int .i64 l1,.string t1] 41)
     have BX:=Ag (bxAt Wd.drew 41 [.int .i64 q1,.int .i64 f1,.int .i64 l1,.string t1] Wd.heap.size (by simp))
     have c:=qAa c b
     refine hK.out _ _ (c) (fun Ah=>?_)
     clear hK K
     try simp only[Act.put,Aa,Ab,Ac,Ad,Ae,Af]
     clear b
     refine wpAnyH_ready (rs:=[1]) (by kernel_rfl) (by simp) ?_
     refine AllReadyH.cons (i:=1) rfl (fun K hK=>?_) AllReadyH.nil
     rw[if_pos (by rfl)]
     simp only[Aa,Ab,Ac]
     go_simp
     have b:Below (Wd.drew.alloc (.cells #[.int .i64 q1,.int .i64 f1,.int .i64 l1,.string t1] 41)).heap.size (Wd.drew.alloc (.cells #[.int .i64 q1,.int .i64 f1,.int .i64 l1,.string t1] 41)) ((Wd.drew.alloc (.cells #[.int .i64 q1,.int .i64 f1,.int .i64 l1,.string t1] 41)).alloc (.cells #[] 41)):=(Below.refl _ _).alloc (Nat.le_refl _) _
     obtain⟨BX,S1⟩:=cy2 (BX.out.later b) (qHi (Wd.drew.alloc (.cells #[.int .i64 q1,.int .i64 f1,.int .i64 l1,.string t1] 41)) Wd.heap.size (Wd.heap.size+1) c.size (by simp))
     have c:=qAa c b
     refine hK.out _ _ (c) (fun Ah=>?_)
     clear hK K
     try simp only[Act.put,Aa,Ab,Ac,Ad,Ae,Af]
     clear b
     refine wpAnyH_ready (rs:=[6]) (by kernel_rfl) (by simp) ?_
     refine AllReadyH.cons (i:=6) rfl (fun K hK=>?_) AllReadyH.nil
     rw[if_pos (by rfl)]
     simp only[Aa,Ab,Ac]
     refine qAz _ _ 27 rfl Tryz.underlying27 Wd.heap.size (.slice (some ⟨(Wd.heap.size+1),0,none⟩) 0 0) [] (by rfl) S1.out (.slice z.a z.n z.c) sa (by rfl) (SR.out.rit.stays c) (by simp;omega) c.size ?_
     intro v2 y2 s2 g2 _
     rw[List.nil_append]at s2
     have BX:Hid (Bx y2 Wd.heap.size 41 [.int .i64 q1,.int .i64 f1,.int .i64 l1,.string t1]):=BX.out.grown g2 (by simp[Value.ownBlock]<;>omega)
     have c:=c.grown g2 c.size (fun n hn=>(S1.out.lt n hn).1)
     have S2:Hid (SlI y2 Wd.heap.size v2 sa):=s2
     refine hK.out _ _ (c) (fun Ah=>?_)
     clear hK K
     try simp only[Act.put,Aa,Ab,Ac,Ad,Ae,Af]
     clear s2 g2 S1
     refine wpAnyH_ready (rs:=[12]) (by kernel_rfl) (by simp) ?_
     refine AllReadyH.cons (i:=12) rfl (fun K hK=>?_) AllReadyH.nil
     rw[if_pos (by rfl)]
     simp only[Aa,Ab,Ac]
     have RX:RIt y2 (Sv.mk (some ⟨Wd.heap.size,0,none⟩) 1 1).v [(q1,f1,l1,t1)]:=qKn BX.out BX.out.lt
     refine qAz _ _ 27 rfl Tryz.underlying27 Wd.heap.size v2 sa (by rfl) S2.out _ [(q1,f1,l1,t1)] (by rfl) RX (by simp;omega) c.size ?_
     intro v3 y3 s3 g3 _
     obtain⟨z3,hz3⟩:=SlI.sv s3
     subst hz3
     have c:=c.grown g3 c.size (fun n hn=>(S2.out.lt n hn).1)
     have S3:Hid (SlI y3 0 z3.v (sa++[(q1,f1,l1,t1)])):=SlI.down s3 (Nat.zero_le _)
     refine hK.out _ _ (c) (fun Ah=>?_)
     clear hK K
     try simp only[Act.put,Aa,Ab,Ac,Ad,Ae,Af]
     clear s3 g3 S2 RX
     refine tkQ 13 rfl (by kernel_rfl) (by rfl) (fun _ _=>by simp only[Aa,Ab,Ac];go_simp;try with_reducible rfl) Ah ?_ fun _ _ _ h=>h
     try simp only[Act.put,Aa,Ab,Ac,Ad,Ae,Af]
     refine tkQ 14 rfl (by kernel_rfl) (by rfl) (fun _ _=>by simp only[Aa,Ab,Ac];go_simp;try with_reducible rfl) Ah ?_ fun _ _ _ h=>h
     try simp only[Act.put,Aa,Ab,Ac,Ad,Ae,Af]
     refine tkQ 15 rfl (by kernel_rfl) (by rfl) (fun _ _=>by simp only[Aa,Ab,Ac];go_simp;try with_reducible rfl) Ah ?_ fun _ _ _ h=>h
     try simp only[Act.put,Aa,Ab,Ac,Ad,Ae,Af]
     refine wpAnyH_done (by kernel_rfl) ?_ _
     have G9:=Ag (GR.out.later c)
     refine qBj rfl rfl ?_
     refine qCy 27 _ _ rfl g 5 rfl 56 _ G9.out (.slice z3.a z3.n z3.c) rfl (by simp) rfl Tryz.sizeIs [.int .i64 k.rid,.slice k.mv.a k.mv.n k.mv.c,.slice mz.a mz.n mz.c,.slice k.flv.a k.flv.n k.flv.c,.slice k.hev.a k.hev.n k.hev.c,.slice z3.a z3.n z3.c] rfl ?_
     intro w9 k9 t9
     obtain⟨G10,S10,K10⟩:=cy3 k9 (SlI.past S3.out G9.out t9 (by decide)) ((KR.out.trans (qAc c)).trans t9.keep)
     clear k9 t9 c S3 G9
     go_wp2_with fail
     go_roundw
     case rel=>exact⟨j+1,z3,_,by omega,by go_num,E,G10,S10,K10⟩
     case measure=>simp[intOf];omega
   ·have hd:decide (t.q<q1)=false:=by simpa using hq
    have E:Hid (sa=k.sa++newQ t (L.take (j+1))):=(by rw[newP_step hjL,HY.out,if_neg hq,List.append_nil];exact HSA.out:_=_)
    rw[hd]
    clear hq
    go_wp2_with fail
    go_roundw
    case rel=>exact⟨j+1,z,sa,by omega,by go_num,E,GR,SR,KR⟩
    case measure=>simp[intOf];omega
  ·have hjn:j=L.length:=by have:=HFN.out;omega
   have E:Hid (sa=k.sa++newQ t L):=(by rw[HSA.out,hjn,List.take_length]:_=_)
   have hd: ¬j<fs.n:=hlt
   have P4:Hid (WkP wr ((k.setM i m2 u mz).setS sa z)):=(by have p:=P3.out.keepb G3.out KR.out;exact⟨p.ring,p.ma,p.fl,p.he,SR.out⟩:WkP _ _)
   have G4:Hid (WkB wr g ((k.setM i m2 u mz).setS sa z)):=GR.out
   obtain⟨HF1,BT1,HT1,KW⟩:=cy4 (SlI.keepb HF.out G3.out KR.out (by decide)) (BT.out.keepb KR.out (by omega)) (HT.out.keepb G3.out KR.out (by decide)) (K3.out.trans KR.out)
   have hf0:=FB1.out.cell 0
   clear hjn HSA
   go_wp2_with fail
   refine(qJy g ((k.setM i m2 u mz).setS sa z) d fs L _ G4 P4 HF1 (by simp[Wv.setS,Wv.setM];omega) (by omega) (by simp[Wv.setS,Wv.setM];omega)).mono ?_
   rintro e w5 ⟨rfl,z5,g5,p5,k5⟩
   have G5:Hid (WkB w5 g _):=g5
   have P5:Hid (WkP w5 _):=p5
   obtain⟨FB5,BT5,HT5,KW5⟩:=cy4 (FB1.out.keepb k5 (by omega)) (BT1.out.keepb k5 (by omega)) (HT1.out.keepb G4.out k5 (by decide)) (KW.out.trans k5)
   clear g5 p5 k5 hf0
   have hf0:=FB5.out.cell 0
   go_wp2_with (first|(refine qAb rfl 30 _ rfl gt 0 rfl 30 _ BT5.out (tX t2.c t2.r t2.q t2.a t2.b sn) rfl _ Tryz.underlying30 rfl Tryz.sizeT ?_))
   refine(qHu g _ d t2 sn _ G5 P5 HT5 ht2 hml (by
    have e1:=qEi ((((k.setM i m2 u mz).setS sa z).ma).map (·.1)) d L
    simp only[Wv.setF,Wv.setS,Wv.setM,List.length_append,List.length_map,List.length_set]at e1⊢
    have e2:L.length * k.ma.length≤63 * 10:=Nat.mul_le_mul hLl hl
    omega)).mono ?_
   rintro e w6 ⟨rfl,z6,y6,g6,p6,k6⟩
   go_wp2_with fail
   go_ret
   refine(show ComeP true _ _ _ _ _ from⟨rfl,_,g6,p6,?_,KW5.out.trans k6⟩)
   simp only[Wv.pl,Wv.setF,Wv.setS,Wv.setM,comeG,List.map_append,List.map_set,List.map_cons,List.map_nil,E.out,HL.out]
theorem elCome_no(g:Nat)(k:Wv)(i:Nat)(m:Mt)(v:Mv)(d:Int)(t:Tok)(s:Sv)(q0 f0 l0:Int)(t0:ByteArray)(w:World)(h:Hid (WkB w g k))(hk:Hid (WkP w k))(hi:i<k.ma.length)(hm:Hid (k.ma[i]=(m,v)))(hat:Hid (atW (k.ma.map (·.1)) d=(i:Int)))(hok:Hid (m.ok=true))(hl:k.ma.length≤10)(hs:Hid (OwnI w 0 s.v t.ws))(hwl:t.ws.length≤1048576)(hmay:Hid (mayB m t=false)):
  Calls Tryz.prog 159 #[.pointer (some ⟨g,0,none⟩),.agg #[.int .i64 d,.bool true,.int .i64 t.c,.int .i64 t.r,.int .i64 t.q,.int .i64 t.a,.int .i64 t.b,.slice s.a s.n s.c,.int .i64 q0,.int .i64 f0,.int .i64 l0,.string t0]] w fun e w'=>e=.returned (.int .i64 1)∧Below w.heap.size w w':=
 qJz g k i m v d t s q0 f0 l0 t0 w h hk hi hm hat hok hl hs false m [] zTok (fun w9 h1 h2=>(spHold_no m v t s w9 h1 h2 hwl (qBi hok.out) hok hmay).mono fun e w' ⟨u,fs,he,_,b⟩=>⟨u,fs,zSv,he,(fun e=>by cases e),b⟩) (by decide) (by decide) (fun e=>by cases e)
theorem elCome_yes(g:Nat)(k:Wv)(i:Nat)(m:Mt)(v:Mv)(d:Int)(t:Tok)(s:Sv)(q0 f0 l0:Int)(t0:ByteArray)(w:World)(h:Hid (WkB w g k))(hk:Hid (WkP w k))(hi:i<k.ma.length)(hm:Hid (k.ma[i]=(m,v)))(hat:Hid (atW (k.ma.map (·.1)) d=(i:Int)))(hok:Hid (m.ok=true))(hl:k.ma.length≤10)(hs:Hid (OwnI w 0 s.v t.ws))(hwl:t.ws.length≤1048576)(hmay:Hid (mayB m t=true))(hml:k.ms.length≤1048576)(hfl:k.fl.length≤990000)(hsl:k.sa.length≤990000):
  Calls Tryz.prog 159 #[.pointer (some ⟨g,0,none⟩),.agg #[.int .i64 d,.bool true,.int .i64 t.c,.int .i64 t.r,.int .i64 t.q,.int .i64 t.a,.int .i64 t.b,.slice s.a s.n s.c,.int .i64 q0,.int .i64 f0,.int .i64 l0,.string t0]] w fun e w'=>e=.returned (.int .i64 0)∧∃k':Wv,WkB w' g k'∧WkP w' k'∧k'.pl=comeT k.pl i d m t∧KeepBut g w w':=
 qJz g k i m v d t s q0 f0 l0 t0 w h hk hi hm hat hok hl hs true (m.sheld t) (qDd m t) (sTok m t) (fun w9 h1 h2=>(qJg m v t s w9 h1 h2 hwl (qBi hok.out) hok hmay).mono fun e w' ⟨u,fs,sn,he,hu,hf,ht,b⟩=>⟨u,fs,sn,he,(fun _=>⟨hu,hf,ht⟩),b⟩) (said_len hok.out t) (Nat.le_trans (qEt _ _ _) (by decide)) (fun _=>⟨hml,hfl,hsl⟩)
theorem elDo_empty(g:Nat)(k:Wv)(d at0 l:Int)(x:ByteArray)(w:World)(h:Hid (WkB w g k))(hk:Hid (WkP w k))(hl:k.ma.length≤10)(kd:Int)(hkd:2≤kd∧kd≤5)(hf:Hid (k.fl.length=0)):
  Calls Tryz.prog 87 #[.pointer (some ⟨g,0,none⟩),.agg #[.int .i64 kd,.int .i64 d,.int .i64 at0,.int .i64 l,.string x]] w fun e w'=>e=.returned (.int .i64 1)∧Below w.heap.size w w':=by
 have zg:g<w.heap.size:=Bx.lt h.out
 have b0:=bA w (.cells #[.int .i64 kd,.int .i64 d,.int .i64 at0,.int .i64 l,.string x] 64)
 obtain⟨TB,G0,P0,B0⟩:=cy4 (Bx.new w 64 [.int .i64 kd,.int .i64 d,.int .i64 at0,.int .i64 l,.string x]) (h.out.later b0) (hk.out.below b0) b0
 have t1:=TB.out.cell 1
 clear b0 h hk
 go_enter Tryz.func87,Tryz.ntmps87
 go_wp2_with fail
 have zW:w.heap.size<(w.alloc (.cells #[.int .i64 kd,.int .i64 d,.int .i64 at0,.int .i64 l,.string x] 64)).heap.size:=TB.out.lt
 generalize (w.alloc (.cells #[.int .i64 kd,.int .i64 d,.int .i64 at0,.int .i64 l,.string x] 64))=W at *
 refine(qCj g k d _ G0 P0.out.ma (by omega)).mono ?_
 rintro e w1 ⟨rfl,b⟩
 obtain⟨TB,G1,P1,B1⟩:=cy4 (TB.out.later b) (G0.out.later b) (P0.out.below b) (qAa B0.out b)
 have z1:=b.size
 clear b G0 P0 B0 t1
 have t0:=TB.out.cell 0
 have HFN:Hid (k.flv.n=k.fl.length):=P1.out.fl.len
 have q1:(kd==1)=false:=by simp;omega
 have q7:(kd==7)=false:=by simp;omega
 have q6:(kd==6)=false:=by simp;omega
 have c3:=Bx.cell G1.out 3
 have hn:k.flv.n=0:=by have h1:=HFN.out;have h2:=hf.out;omega
 rw[hn]at c3
 clear hn
 go_wp2_with fail
 go_ret
 exact⟨rfl,B1.out⟩
def qHc(p:Wp)(f:Fl):Wp:=⟨p.rid,p.ms,p.ma,p.fl++[f],p.he,p.sa⟩
theorem elDo_twice(g:Nat)(k:Wv)(d at0 l:Int)(x:ByteArray)(w:World)(h:Hid (WkB w g k))(hk:Hid (WkP w k))(hl:k.ma.length≤10)(A:Nat)(f:Fl)(fsv:Sv)(hA:A<k.fl.length)(hrm:Hid (Int.tmod at0 (k.fl.length:Int)=(A:Int)))(hm:Hid (k.fl[A]=(f,fsv)))(hfl:k.fl.length≤1000000):
  Calls Tryz.prog 87 #[.pointer (some ⟨g,0,none⟩),.agg #[.int .i64 5,.int .i64 d,.int .i64 at0,.int .i64 l,.string x]] w fun e w'=>e=.returned (.int .i64 0)∧∃k':Wv,WkB w' g k'∧WkP w' k'∧k'.pl=qHc k.pl f∧KeepBut g w w':=by
 have zg:g<w.heap.size:=Bx.lt h.out
 have b0:=bA w (.cells #[.int .i64 5,.int .i64 d,.int .i64 at0,.int .i64 l,.string x] 64)
 obtain⟨TB,G0,P0,B0⟩:=cy4 (Bx.new w 64 [.int .i64 5,.int .i64 d,.int .i64 at0,.int .i64 l,.string x]) (h.out.later b0) (hk.out.below b0) b0
 have t1:=TB.out.cell 1
 clear b0 h hk
 go_enter Tryz.func87,Tryz.ntmps87
 go_wp2_with fail
 have zW:w.heap.size<(w.alloc (.cells #[.int .i64 5,.int .i64 d,.int .i64 at0,.int .i64 l,.string x] 64)).heap.size:=TB.out.lt
 generalize (w.alloc (.cells #[.int .i64 5,.int .i64 d,.int .i64 at0,.int .i64 l,.string x] 64))=W at *
 refine(qCj g k d _ G0 P0.out.ma (by omega)).mono ?_
 rintro e w1 ⟨rfl,b⟩
 obtain⟨TB,G1,P1,B1⟩:=cy4 (TB.out.later b) (G0.out.later b) (P0.out.below b) (qAa B0.out b)
 have z1:=b.size
 clear b G0 P0 B0 t1
 have t0:=TB.out.cell 0
 have HFN:Hid (k.flv.n=k.fl.length):=P1.out.fl.len
 have hal:A<k.fl.length:=hA
 obtain⟨_,gf,off,ha,_,hgl,hr⟩:=P1.out.fl.row hal
 have HR:Hid (w1.rangeAt gf (off+A * 12) [.int .i64 f.to,.bool f.tk,.int .i64 f.t.c,.int .i64 f.t.r,.int .i64 f.t.q,.int .i64 f.t.a,.int .i64 f.t.b,.slice fsv.a fsv.n fsv.c,.int .i64 f.x.1,.int .i64 f.x.2.1,.int .i64 f.x.2.2.1,.string f.x.2.2.2]):=(by have e:=hm.out;rw[e]at hr;exact hr:World.rangeAt _ _ _ _)
 have G1a:Hid (Bx w1 g 56 [.int .i64 k.rid,.slice k.mv.a k.mv.n k.mv.c,.slice k.mav.a k.mav.n k.mav.c,.slice (some ⟨gf,off,none⟩) k.fl.length k.flv.c,.slice k.hev.a k.hev.n k.hev.c,.slice k.sav.a k.sav.n k.sav.c]):=(by have G2:=G1.out;unfold WkB at G2;rw[ha,HFN.out]at G2;exact G2:Bx _ _ _ _)
 have HFW:Hid (OwnI w1 0 fsv.v f.t.ws):=(by have:=P1.out.fl.2 k.fl[A] (List.getElem_mem hal);rw[hm.out]at this;exact this:OwnI _ _ _ _)
 have c3:=G1a.out.cell 3
 have hn0:((k.fl.length:Int)==0)=false:=by simp;intro h;rw[h]at hal;simp at hal
 have HA9:Hid (k.flv.a=some ⟨gf,off,none⟩):=ha
 clear hr ha
 go_wp2_with fail
 go_cut [8] (fun a8 wx=>a8=.int .i64 (A:Int)∧wx=w1.drew)
 case first=>
  refine wp_region_held_drew (S:=fun w'=>w'=w1.drew) (by kernel_rfl) rfl (fun Ah=>?_)
  refine tkQ 0 rfl (by kernel_rfl) (by rfl) (fun _ _=>by simp only[Aa,Ab,Ac];go_simp;try with_reducible rfl) Ah ?_ fun _ _ _ h=>h
  try simp only[Act.put,Aa,Ab,Ac,Ad,Ae,Af]
  refine tkH (i:=1) (v:=_) rfl (by kernel_rfl) (fun _ _ _ h=>h) (qAf (by rfl) 3 _ rfl w.heap.size 2 rfl 64 _ (fun w hS=>by subst hS;exact TB.out.later (Below.refl _ _).drew) (.int .i64 at0) rfl _ Tryz.underlying3 rfl) Ah ?_
  try simp only[Act.put,Aa,Ab,Ac,Ad,Ae,Af]
  refine tkQ 2 rfl (by kernel_rfl) (by rfl) (fun _ _=>by simp only[Aa,Ab,Ac];go_simp;try with_reducible rfl) Ah ?_ fun _ _ _ h=>h
  try simp only[Act.put,Aa,Ab,Ac,Ad,Ae,Af]
  refine tkQ 3 rfl (by kernel_rfl) (by rfl) (fun _ _=>by simp only[Aa,Ab,Ac];go_simp;try with_reducible rfl) Ah ?_ fun _ _ _ h=>h
  try simp only[Act.put,Aa,Ab,Ac,Ad,Ae,Af]
  refine tkQ 4 rfl (by kernel_rfl) (by rfl) (fun _ _=>by simp only[Aa,Ab,Ac];go_simp;try with_reducible rfl) Ah ?_ fun _ _ _ h=>h
  try simp only[Act.put,Aa,Ab,Ac,Ad,Ae,Af]
  refine tkH (i:=5) (v:=_) rfl (by kernel_rfl) (fun _ _ _ h=>h) (qAf (by rfl) 53 _ rfl g 3 rfl 56 _ (fun w hS=>by subst hS;exact G1a.out.later (Below.refl _ _).drew) (.slice (some ⟨gf,off,none⟩) k.fl.length k.flv.c) rfl _ Tryz.underlying53 rfl) Ah ?_
  try simp only[Act.put,Aa,Ab,Ac,Ad,Ae,Af]
  refine tkQ 6 rfl (by kernel_rfl) (by rfl) (fun _ _=>by simp only[Aa,Ab,Ac];go_simp;try with_reducible rfl) Ah ?_ fun _ _ _ h=>h
  try simp only[Act.put,Aa,Ab,Ac,Ad,Ae,Af]
  refine tkH (i:=7) (v:=.int .i64 (A:Int)) rfl (by kernel_rfl) (fun _ _ _ h=>h) (Or.inl ⟨by rfl,fun w hS=>by have hrem:=hrm.out;have hnz: ¬k.fl=[]:=(fun h=>by rw[h]at hal;simp at hal);go_simp⟩) Ah ?_
  try simp only[Act.put,Ad,Ae,Af]
  refine tkQ 8 rfl (by kernel_rfl) (by rfl) (fun _ _=>by simp only[Aa,Ab,Ac];go_simp;try with_reducible rfl) Ah ?_ fun _ _ _ h=>h
  try simp only[Act.put,Aa,Ab,Ac,Ad,Ae,Af]
  refine wpAnyH_done (by kernel_rfl) ?_ _
  try go_wp2_with fail
  go_meet
  exact⟨rfl,rfl⟩
 case rest=>
 obtain⟨rfl,rfl⟩:=hcut
 have bd:Below w1.heap.size w1 w1.drew:=(Below.refl _ _).drew
 obtain⟨TB,G1,P1,G1a,B1,HR,HFW⟩:=cy7 (TB.out.later bd) (G1.out.later bd) (P1.out.below bd) (G1a.out.later bd) (qAa B1.out bd) (qAk HR.out hgl bd) (ownL HFW.out bd)
 have z2:=TB.out.lt
 clear bd c3 t0
 generalize w1.drew=w2 at *
 have c3:=G1a.out.cell 3
 have i0:(0:Int)≤(A:Int):=by omega
 have i1:(A:Int)<(k.fl.length:Int):=by omega
 have hz:=Ag (Bx.new w2 68 [.int .i64 0,.bool false,.int .i64 0,.int .i64 0,.int .i64 0,.int .i64 0,.int .i64 0,.slice none 0 0,.int .i64 0,.int .i64 0,.int .i64 0,.string ⟨#[]⟩])
 go_wp2_with (first|(refine qBt rfl 68 _ rfl gf (off+A * 12) rfl [.int .i64 f.to,.bool f.tk,.int .i64 f.t.c,.int .i64 f.t.r,.int .i64 f.t.q,.int .i64 f.t.a,.int .i64 f.t.b,.slice fsv.a fsv.n fsv.c,.int .i64 f.x.1,.int .i64 f.x.2.1,.int .i64 f.x.2.2.1,.string f.x.2.2.2] HR.out _ Tryz.underlying68 rfl Tryz.sizeFl ?_)|(refine qAd rfl 68 _ _ rfl w2.heap.size rfl 68 _ hz.out [.int .i64 f.to,.bool f.tk,.int .i64 f.t.c,.int .i64 f.t.r,.int .i64 f.t.q,.int .i64 f.t.a,.int .i64 f.t.b,.slice fsv.a fsv.n fsv.c,.int .i64 f.x.1,.int .i64 f.x.2.1,.int .i64 f.x.2.2.1,.string f.x.2.2.2] rfl rfl Tryz.sizeFl rfl ?_;intro w3 OB TB3;have b:Below w2.heap.size w2 w3:=((Below.refl _ _).alloc (Nat.le_refl _) _).trans (TB3.below (Nat.le_refl _));have FB:=Ag OB;clear OB TB3;refine Stp.here ?_))
 refine Stp.go ?_
 obtain⟨TB,G1,P1,G1a,B1,HFW⟩:=cy6 (TB.out.later b) (G1.out.later b) (P1.out.below b) (G1a.out.later b) (qAa B1.out b) (ownL HFW.out b)
 have z3:=FB.out.lt
 clear b hz HR c3
 generalize w2.heap.size=gx at *
 have t0:=TB.out.cell 0
 have FL3:Hid (SlN w3 68 12 0 (.slice (some ⟨gf,off,none⟩) k.fl.length k.flv.c) (k.fl.map fcel)):=(by have h1:=P1.out.fl.1;have h2:=HA9.out;have h3:=HFN.out;unfold Sv.v at h1;rw[h2,h3]at h1;exact h1:SlN _ _ _ _ _ _)
 have hll:([]:List (List Value)).length+(k.fl.map fcel).length≤1048577:=by simp;omega
 have hl2:(k.fl.map fcel).length+1≤1048577:=by simp;omega
 go_wp2_with fail
 have c:Below w3.heap.size w3 w3.drew:=(Below.refl _ _).drew
 refine qAj (S:=fun w'=>Below w3.heap.size w3 w') _ (by simp) (by kernel_rfl) (by rfl) (by rfl) (by kernel_rfl) (by kernel_rfl) c (fun Ah=>?_)
 simp only[List.dropLast_cons_cons,List.dropLast_singleton,List.getLast_cons_cons,List.getLast_singleton,List.cons_append,List.nil_append,List.length_cons,List.length_nil]
 refine tkQ 0 rfl (by kernel_rfl) (by rfl) (fun _ _=>by simp only[Aa,Ab,Ac];go_simp;try with_reducible rfl) Ah ?_ fun _ _ _ h=>h
 try simp only[Act.put,Aa,Ab,Ac,Ad,Ae,Af]
 refine tkQ 2 rfl (by kernel_rfl) (by rfl) (fun _ _=>by simp only[Aa,Ab,Ac];go_simp;try with_reducible rfl) Ah ?_ fun _ _ _ h=>h
 try simp only[Act.put,Aa,Ab,Ac,Ad,Ae,Af]
 refine tkQ 3 rfl (by kernel_rfl) (by rfl) (fun _ _=>by simp only[Aa,Ab,Ac];go_simp;try with_reducible rfl) Ah ?_ fun _ _ _ h=>h
 try simp only[Act.put,Aa,Ab,Ac,Ad,Ae,Af]
 refine tkQ 4 rfl (by kernel_rfl) (by rfl) (fun _ _=>by simp only[Aa,Ab,Ac];go_simp;try with_reducible rfl) Ah ?_ fun _ _ _ h=>h
 try simp only[Act.put,Aa,Ab,Ac,Ad,Ae,Af]
 refine tkH (i:=5) (v:=_) rfl (by kernel_rfl) (fun _ _ _ h=>h) (qAf (by rfl) 53 _ rfl g 3 rfl 56 _ (fun w hS=>G1a.out.later hS) (.slice (some ⟨gf,off,none⟩) k.fl.length k.flv.c) rfl _ Tryz.underlying53 rfl) Ah ?_
 try simp only[Act.put,Aa,Ab,Ac,Ad,Ae,Af]
 refine tkH (i:=7) (v:=_) rfl (by kernel_rfl) (fun _ _ _ h=>h) (qBp (by rfl) 68 _ rfl gx 0 rfl 68 _ (fun w hS=>FB.out.later hS) [.int .i64 f.to,.bool f.tk,.int .i64 f.t.c,.int .i64 f.t.r,.int .i64 f.t.q,.int .i64 f.t.a,.int .i64 f.t.b,.slice fsv.a fsv.n fsv.c,.int .i64 f.x.1,.int .i64 f.x.2.1,.int .i64 f.x.2.2.1,.string f.x.2.2.2] rfl _ Tryz.underlying68 rfl Tryz.sizeFl) Ah ?_
 try simp only[Act.put,Aa,Ab,Ac,Ad,Ae,Af]
 refine wpAnyH_ready (rs:=[1,8]) (by kernel_rfl) (by simp) ?_
 refine(AllReadyH.cons (i:=1) rfl (fun K hK=>?_) (AllReadyH.cons (i:=8) rfl (fun K hK=>?_) AllReadyH.nil))
 ·skip
  rw[if_pos (by rfl)]
  simp only[Aa,Ab,Ac]
  go_simp
  have b:=bA w3.drew (.cells #[] 68)
  have S1:=Ag (slnAt w3.drew 68 12 w3.heap.size w3.heap.size c.size (by simp))
  have c:=qAa c b
  refine hK.out _ _ (c) (fun Ah=>?_)
  clear hK K
  try simp only[Act.put,Aa,Ab,Ac,Ad,Ae,Af]
  clear b
  refine wpAnyH_ready (rs:=[6,8]) (by kernel_rfl) (by simp) ?_
  refine(AllReadyH.cons (i:=6) rfl (fun K hK=>?_) (AllReadyH.cons (i:=8) rfl (fun K hK=>?_) AllReadyH.nil))
  ·skip
   rw[if_pos (by rfl)]
   simp only[Aa,Ab,Ac]
   refine qCc _ _ 53 rfl _ 120 Tryz.underlying53 Tryz.infoFl rfl (by decide) w3.heap.size (.slice (some ⟨w3.heap.size,0,none⟩) 0 0) [] (by rfl) S1.out 0 _ (k.fl.map fcel) (by rfl) (FL3.out.below c) hll c.size ?_
   intro v2 y2 s2 g2 b2 _
   rw[List.nil_append]at s2
   have c:Below w3.heap.size w3 y2:=c.trans b2
   have S2:=Ag s2
   refine hK.out _ _ (c) (fun Ah=>?_)
   clear hK K
   try simp only[Act.put,Aa,Ab,Ac,Ad,Ae,Af]
   clear s2 g2 b2 S1
   refine wpAnyH_ready (rs:=[8]) (by kernel_rfl) (by simp) ?_
   refine AllReadyH.cons (i:=8) rfl (fun K hK=>?_) AllReadyH.nil
   rw[if_pos (by rfl)]
   simp only[Aa,Ab,Ac]
   go_simp
   have b:=bA y2 (.cells #[.int .i64 f.to,.bool f.tk,.int .i64 f.t.c,.int .i64 f.t.r,.int .i64 f.t.q,.int .i64 f.t.a,.int .i64 f.t.b,.slice fsv.a fsv.n fsv.c,.int .i64 f.x.1,.int .i64 f.x.2.1,.int .i64 f.x.2.2.1,.string f.x.2.2.2] 68)
   have BX:Hid (SlN (y2.alloc (.cells #[.int .i64 f.to,.bool f.tk,.int .i64 f.t.c,.int .i64 f.t.r,.int .i64 f.t.q,.int .i64 f.t.a,.int .i64 f.t.b,.slice fsv.a fsv.n fsv.c,.int .i64 f.x.1,.int .i64 f.x.2.1,.int .i64 f.x.2.2.1,.string f.x.2.2.2] 68)) 68 12 w3.heap.size (.slice (some ⟨y2.heap.size,0,none⟩) 1 1) [[.int .i64 f.to,.bool f.tk,.int .i64 f.t.c,.int .i64 f.t.r,.int .i64 f.t.q,.int .i64 f.t.a,.int .i64 f.t.b,.slice fsv.a fsv.n fsv.c,.int .i64 f.x.1,.int .i64 f.x.2.1,.int .i64 f.x.2.2.1,.string f.x.2.2.2]]):=by have h:=SlN.one y2 68 12 w3.heap.size [.int .i64 f.to,.bool f.tk,.int .i64 f.t.c,.int .i64 f.t.r,.int .i64 f.t.q,.int .i64 f.t.a,.int .i64 f.t.b,.slice fsv.a fsv.n fsv.c,.int .i64 f.x.1,.int .i64 f.x.2.1,.int .i64 f.x.2.2.1,.string f.x.2.2.2] rfl rfl c.size;rw[show y2.heap.size=y2.heap.size by simp]at h;exact h
   have S2:=Ag (S2.out.below b)
   have c:=qAa c b
   refine hK.out _ _ (c) (fun Ah=>?_)
   clear hK K
   try simp only[Act.put,Aa,Ab,Ac,Ad,Ae,Af]
   clear b
   refine wpAnyH_ready (rs:=[9]) (by kernel_rfl) (by simp) ?_
   refine AllReadyH.cons (i:=9) rfl (fun K hK=>?_) AllReadyH.nil
   rw[if_pos (by rfl)]
   simp only[Aa,Ab,Ac]
   refine qCc _ _ 53 rfl _ 120 Tryz.underlying53 Tryz.infoFl rfl (by decide) w3.heap.size v2 (k.fl.map fcel) (by rfl) S2.out w3.heap.size _ [[.int .i64 f.to,.bool f.tk,.int .i64 f.t.c,.int .i64 f.t.r,.int .i64 f.t.q,.int .i64 f.t.a,.int .i64 f.t.b,.slice fsv.a fsv.n fsv.c,.int .i64 f.x.1,.int .i64 f.x.2.1,.int .i64 f.x.2.2.1,.string f.x.2.2.2]] (by rfl) BX.out hl2 c.size ?_
   intro v3 y3 s3 g3 b3 _
   obtain⟨z3,hz3,_⟩:=s3.form
   subst hz3
   have c:Below w3.heap.size w3 y3:=c.trans b3
   have S3:=Ag s3
   refine hK.out _ _ (c) (fun Ah=>?_)
   clear hK K
   try simp only[Act.put,Aa,Ab,Ac,Ad,Ae,Af]
   clear s3 g3 b3 S2 BX
   refine tkQ 10 rfl (by kernel_rfl) (by rfl) (fun _ _=>by simp only[Aa,Ab,Ac];go_simp;try with_reducible rfl) Ah ?_ fun _ _ _ h=>h
   try simp only[Act.put,Aa,Ab,Ac,Ad,Ae,Af]
   refine tkQ 11 rfl (by kernel_rfl) (by rfl) (fun _ _=>by simp only[Aa,Ab,Ac];go_simp;try with_reducible rfl) Ah ?_ fun _ _ _ h=>h
   try simp only[Act.put,Aa,Ab,Ac,Ad,Ae,Af]
   refine tkQ 12 rfl (by kernel_rfl) (by rfl) (fun _ _=>by simp only[Aa,Ab,Ac];go_simp;try with_reducible rfl) Ah ?_ fun _ _ _ h=>h
   try simp only[Act.put,Aa,Ab,Ac,Ad,Ae,Af]
   refine wpAnyH_done (by kernel_rfl) ?_ _
   have G9:=Ag (G1a.out.later c)
   refine qBj rfl rfl ?_
   refine qCy 53 _ _ rfl g 3 rfl 56 _ G9.out (.slice z3.a z3.n z3.c) rfl (by simp) rfl Tryz.sizeFls [.int .i64 k.rid,.slice k.mv.a k.mv.n k.mv.c,.slice k.mav.a k.mav.n k.mav.c,.slice z3.a z3.n z3.c,.slice k.hev.a k.hev.n k.hev.c,.slice k.sav.a k.sav.n k.sav.c] rfl ?_
   intro w9 k9 t9
   go_wp2_with fail
   go_ret
   have p:=P1.out.below c
   have P9:WkP y3 (k.setF (k.fl++[(f,fsv)]) z3):=by
    refine⟨p.ring,p.ma,⟨?_,fun e he=>?_⟩,p.he,p.sa⟩
    ·show SlN y3 68 12 0 (.slice z3.a z3.n z3.c) ((k.fl++[(f,fsv)]).map fcel)
     rw[List.map_append]
     exact S3.out.down (Nat.zero_le _)
    ·rcases List.mem_append.1 he with he|he
     ·exact p.fl.2 e he
     ·simp at he;subst he;exact HFW.out.keep fun _ _ hk=>c.block _ hk
   refine⟨rfl,k.setF (k.fl++[(f,fsv)]) z3,k9,P9.keepb G9.out t9.keep,?_,(qAc (qAa B1.out c)).trans t9.keep⟩
   simp only[Wv.pl,Wv.setF,qHc,List.map_append,List.map_cons,List.map_nil]
  ·skip
   rw[if_pos (by rfl)]
   simp only[Aa,Ab,Ac]
   go_simp
   have b:Below (w3.drew.alloc (.cells #[] 68)).heap.size (w3.drew.alloc (.cells #[] 68)) ((w3.drew.alloc (.cells #[] 68)).alloc (.cells #[.int .i64 f.to,.bool f.tk,.int .i64 f.t.c,.int .i64 f.t.r,.int .i64 f.t.q,.int .i64 f.t.a,.int .i64 f.t.b,.slice fsv.a fsv.n fsv.c,.int .i64 f.x.1,.int .i64 f.x.2.1,.int .i64 f.x.2.2.1,.string f.x.2.2.2] 68)):=(Below.refl _ _).alloc (Nat.le_refl _) _
   have BX:Hid (SlN ((w3.drew.alloc (.cells #[] 68)).alloc (.cells #[.int .i64 f.to,.bool f.tk,.int .i64 f.t.c,.int .i64 f.t.r,.int .i64 f.t.q,.int .i64 f.t.a,.int .i64 f.t.b,.slice fsv.a fsv.n fsv.c,.int .i64 f.x.1,.int .i64 f.x.2.1,.int .i64 f.x.2.2.1,.string f.x.2.2.2] 68)) 68 12 w3.heap.size (.slice (some ⟨(w3.heap.size+1),0,none⟩) 1 1) [[.int .i64 f.to,.bool f.tk,.int .i64 f.t.c,.int .i64 f.t.r,.int .i64 f.t.q,.int .i64 f.t.a,.int .i64 f.t.b,.slice fsv.a fsv.n fsv.c,.int .i64 f.x.1,.int .i64 f.x.2.1,.int .i64 f.x.2.2.1,.string f.x.2.2.2]]):=by have h:=SlN.one (w3.drew.alloc (.cells #[] 68)) 68 12 w3.heap.size [.int .i64 f.to,.bool f.tk,.int .i64 f.t.c,.int .i64 f.t.r,.int .i64 f.t.q,.int .i64 f.t.a,.int .i64 f.t.b,.slice fsv.a fsv.n fsv.c,.int .i64 f.x.1,.int .i64 f.x.2.1,.int .i64 f.x.2.2.1,.string f.x.2.2.2] rfl rfl c.size;rw[show(w3.drew.alloc (.cells #[] 68)).heap.size=(w3.heap.size+1) by simp]at h;exact h
   have S1:=Ag (S1.out.below b)
   have c:=qAa c b
   refine hK.out _ _ (c) (fun Ah=>?_)
   clear hK K
   try simp only[Act.put,Aa,Ab,Ac,Ad,Ae,Af]
   clear b
   refine wpAnyH_ready (rs:=[6]) (by kernel_rfl) (by simp) ?_
   refine AllReadyH.cons (i:=6) rfl (fun K hK=>?_) AllReadyH.nil
   rw[if_pos (by rfl)]
   simp only[Aa,Ab,Ac]
   refine qCc _ _ 53 rfl _ 120 Tryz.underlying53 Tryz.infoFl rfl (by decide) w3.heap.size (.slice (some ⟨w3.heap.size,0,none⟩) 0 0) [] (by rfl) S1.out 0 _ (k.fl.map fcel) (by rfl) (FL3.out.below c) hll c.size ?_
   intro v2 y2 s2 g2 b2 _
   rw[List.nil_append]at s2
   have BX:Hid (SlN y2 68 12 w3.heap.size (.slice (some ⟨(w3.heap.size+1),0,none⟩) 1 1) [[.int .i64 f.to,.bool f.tk,.int .i64 f.t.c,.int .i64 f.t.r,.int .i64 f.t.q,.int .i64 f.t.a,.int .i64 f.t.b,.slice fsv.a fsv.n fsv.c,.int .i64 f.x.1,.int .i64 f.x.2.1,.int .i64 f.x.2.2.1,.string f.x.2.2.2]]):=BX.out.kept g2 (fun n hn=>by simp[Value.ownBlock]at hn⊢;omega)
   have c:Below w3.heap.size w3 y2:=c.trans b2
   have S2:=Ag s2
   refine hK.out _ _ (c) (fun Ah=>?_)
   clear hK K
   try simp only[Act.put,Aa,Ab,Ac,Ad,Ae,Af]
   clear s2 g2 b2 S1
   refine wpAnyH_ready (rs:=[9]) (by kernel_rfl) (by simp) ?_
   refine AllReadyH.cons (i:=9) rfl (fun K hK=>?_) AllReadyH.nil
   rw[if_pos (by rfl)]
   simp only[Aa,Ab,Ac]
   refine qCc _ _ 53 rfl _ 120 Tryz.underlying53 Tryz.infoFl rfl (by decide) w3.heap.size v2 (k.fl.map fcel) (by rfl) S2.out w3.heap.size _ [[.int .i64 f.to,.bool f.tk,.int .i64 f.t.c,.int .i64 f.t.r,.int .i64 f.t.q,.int .i64 f.t.a,.int .i64 f.t.b,.slice fsv.a fsv.n fsv.c,.int .i64 f.x.1,.int .i64 f.x.2.1,.int .i64 f.x.2.2.1,.string f.x.2.2.2]] (by rfl) BX.out hl2 c.size ?_
   intro v3 y3 s3 g3 b3 _
   obtain⟨z3,hz3,_⟩:=s3.form
   subst hz3
   have c:Below w3.heap.size w3 y3:=c.trans b3
   have S3:=Ag s3
   refine hK.out _ _ (c) (fun Ah=>?_)
   clear hK K
   try simp only[Act.put,Aa,Ab,Ac,Ad,Ae,Af]
   clear s3 g3 b3 S2 BX
   refine tkQ 10 rfl (by kernel_rfl) (by rfl) (fun _ _=>by simp only[Aa,Ab,Ac];go_simp;try with_reducible rfl) Ah ?_ fun _ _ _ h=>h
   try simp only[Act.put,Aa,Ab,Ac,Ad,Ae,Af]
   refine tkQ 11 rfl (by kernel_rfl) (by rfl) (fun _ _=>by simp only[Aa,Ab,Ac];go_simp;try with_reducible rfl) Ah ?_ fun _ _ _ h=>h
   try simp only[Act.put,Aa,Ab,Ac,Ad,Ae,Af]
   refine tkQ 12 rfl (by kernel_rfl) (by rfl) (fun _ _=>by simp only[Aa,Ab,Ac];go_simp;try with_reducible rfl) Ah ?_ fun _ _ _ h=>h
   try simp only[Act.put,Aa,Ab,Ac,Ad,Ae,Af]
   refine wpAnyH_done (by kernel_rfl) ?_ _
   have G9:=Ag (G1a.out.later c)
   refine qBj rfl rfl ?_
   refine qCy 53 _ _ rfl g 3 rfl 56 _ G9.out (.slice z3.a z3.n z3.c) rfl (by simp) rfl Tryz.sizeFls [.int .i64 k.rid,.slice k.mv.a k.mv.n k.mv.c,.slice k.mav.a k.mav.n k.mav.c,.slice z3.a z3.n z3.c,.slice k.hev.a k.hev.n k.hev.c,.slice k.sav.a k.sav.n k.sav.c] rfl ?_
   intro w9 k9 t9
   go_wp2_with fail
   go_ret
   have p:=P1.out.below c
   have P9:WkP y3 (k.setF (k.fl++[(f,fsv)]) z3):=by
    refine⟨p.ring,p.ma,⟨?_,fun e he=>?_⟩,p.he,p.sa⟩
    ·show SlN y3 68 12 0 (.slice z3.a z3.n z3.c) ((k.fl++[(f,fsv)]).map fcel)
     rw[List.map_append]
     exact S3.out.down (Nat.zero_le _)
    ·rcases List.mem_append.1 he with he|he
     ·exact p.fl.2 e he
     ·simp at he;subst he;exact HFW.out.keep fun _ _ hk=>c.block _ hk
   refine⟨rfl,k.setF (k.fl++[(f,fsv)]) z3,k9,P9.keepb G9.out t9.keep,?_,(qAc (qAa B1.out c)).trans t9.keep⟩
   simp only[Wv.pl,Wv.setF,qHc,List.map_append,List.map_cons,List.map_nil]
 ·skip
  rw[if_pos (by rfl)]
  simp only[Aa,Ab,Ac]
  go_simp
  have b:=bA w3.drew (.cells #[.int .i64 f.to,.bool f.tk,.int .i64 f.t.c,.int .i64 f.t.r,.int .i64 f.t.q,.int .i64 f.t.a,.int .i64 f.t.b,.slice fsv.a fsv.n fsv.c,.int .i64 f.x.1,.int .i64 f.x.2.1,.int .i64 f.x.2.2.1,.string f.x.2.2.2] 68)
  have BX:Hid (SlN (w3.drew.alloc (.cells #[.int .i64 f.to,.bool f.tk,.int .i64 f.t.c,.int .i64 f.t.r,.int .i64 f.t.q,.int .i64 f.t.a,.int .i64 f.t.b,.slice fsv.a fsv.n fsv.c,.int .i64 f.x.1,.int .i64 f.x.2.1,.int .i64 f.x.2.2.1,.string f.x.2.2.2] 68)) 68 12 w3.heap.size (.slice (some ⟨w3.heap.size,0,none⟩) 1 1) [[.int .i64 f.to,.bool f.tk,.int .i64 f.t.c,.int .i64 f.t.r,.int .i64 f.t.q,.int .i64 f.t.a,.int .i64 f.t.b,.slice fsv.a fsv.n fsv.c,.int .i64 f.x.1,.int .i64 f.x.2.1,.int .i64 f.x.2.2.1,.string f.x.2.2.2]]):=by have h:=SlN.one w3.drew 68 12 w3.heap.size [.int .i64 f.to,.bool f.tk,.int .i64 f.t.c,.int .i64 f.t.r,.int .i64 f.t.q,.int .i64 f.t.a,.int .i64 f.t.b,.slice fsv.a fsv.n fsv.c,.int .i64 f.x.1,.int .i64 f.x.2.1,.int .i64 f.x.2.2.1,.string f.x.2.2.2] rfl rfl c.size;rw[show w3.drew.heap.size=w3.heap.size by simp]at h;exact h
  have c:=qAa c b
  refine hK.out _ _ (c) (fun Ah=>?_)
  clear hK K
  try simp only[Act.put,Aa,Ab,Ac,Ad,Ae,Af]
  clear b
  refine wpAnyH_ready (rs:=[1]) (by kernel_rfl) (by simp) ?_
  refine AllReadyH.cons (i:=1) rfl (fun K hK=>?_) AllReadyH.nil
  rw[if_pos (by rfl)]
  simp only[Aa,Ab,Ac]
  go_simp
  have b:Below (w3.drew.alloc (.cells #[.int .i64 f.to,.bool f.tk,.int .i64 f.t.c,.int .i64 f.t.r,.int .i64 f.t.q,.int .i64 f.t.a,.int .i64 f.t.b,.slice fsv.a fsv.n fsv.c,.int .i64 f.x.1,.int .i64 f.x.2.1,.int .i64 f.x.2.2.1,.string f.x.2.2.2] 68)).heap.size (w3.drew.alloc (.cells #[.int .i64 f.to,.bool f.tk,.int .i64 f.t.c,.int .i64 f.t.r,.int .i64 f.t.q,.int .i64 f.t.a,.int .i64 f.t.b,.slice fsv.a fsv.n fsv.c,.int .i64 f.x.1,.int .i64 f.x.2.1,.int .i64 f.x.2.2.1,.string f.x.2.2.2] 68)) ((w3.drew.alloc (.cells #[.int .i64 f.to,.bool f.tk,.int .i64 f.t.c,.int .i64 f.t.r,.int .i64 f.t.q,.int .i64 f.t.a,.int .i64 f.t.b,.slice fsv.a fsv.n fsv.c,.int .i64 f.x.1,.int .i64 f.x.2.1,.int .i64 f.x.2.2.1,.string f.x.2.2.2] 68)).alloc (.cells #[] 68)):=(Below.refl _ _).alloc (Nat.le_refl _) _
  obtain⟨BX,S1⟩:=cy2 (BX.out.below b) (slnAt (w3.drew.alloc (.cells #[.int .i64 f.to,.bool f.tk,.int .i64 f.t.c,.int .i64 f.t.r,.int .i64 f.t.q,.int .i64 f.t.a,.int .i64 f.t.b,.slice fsv.a fsv.n fsv.c,.int .i64 f.x.1,.int .i64 f.x.2.1,.int .i64 f.x.2.2.1,.string f.x.2.2.2] 68)) 68 12 w3.heap.size (w3.heap.size+1) c.size (by simp))
  have c:=qAa c b
  refine hK.out _ _ (c) (fun Ah=>?_)
  clear hK K
  try simp only[Act.put,Aa,Ab,Ac,Ad,Ae,Af]
  clear b
  refine wpAnyH_ready (rs:=[6]) (by kernel_rfl) (by simp) ?_
  refine AllReadyH.cons (i:=6) rfl (fun K hK=>?_) AllReadyH.nil
  rw[if_pos (by rfl)]
  simp only[Aa,Ab,Ac]
  refine qCc _ _ 53 rfl _ 120 Tryz.underlying53 Tryz.infoFl rfl (by decide) w3.heap.size (.slice (some ⟨(w3.heap.size+1),0,none⟩) 0 0) [] (by rfl) S1.out 0 _ (k.fl.map fcel) (by rfl) (FL3.out.below c) hll c.size ?_
  intro v2 y2 s2 g2 b2 _
  rw[List.nil_append]at s2
  have BX:Hid (SlN y2 68 12 w3.heap.size (.slice (some ⟨w3.heap.size,0,none⟩) 1 1) [[.int .i64 f.to,.bool f.tk,.int .i64 f.t.c,.int .i64 f.t.r,.int .i64 f.t.q,.int .i64 f.t.a,.int .i64 f.t.b,.slice fsv.a fsv.n fsv.c,.int .i64 f.x.1,.int .i64 f.x.2.1,.int .i64 f.x.2.2.1,.string f.x.2.2.2]]):=BX.out.kept g2 (fun n hn=>by simp[Value.ownBlock]at hn⊢;omega)
  have c:Below w3.heap.size w3 y2:=c.trans b2
  have S2:=Ag s2
  refine hK.out _ _ (c) (fun Ah=>?_)
  clear hK K
  try simp only[Act.put,Aa,Ab,Ac,Ad,Ae,Af]
  clear s2 g2 b2 S1
  refine wpAnyH_ready (rs:=[9]) (by kernel_rfl) (by simp) ?_
  refine AllReadyH.cons (i:=9) rfl (fun K hK=>?_) AllReadyH.nil
  rw[if_pos (by rfl)]
  simp only[Aa,Ab,Ac]
  refine qCc _ _ 53 rfl _ 120 Tryz.underlying53 Tryz.infoFl rfl (by decide) w3.heap.size v2 (k.fl.map fcel) (by rfl) S2.out w3.heap.size _ [[.int .i64 f.to,.bool f.tk,.int .i64 f.t.c,.int .i64 f.t.r,.int .i64 f.t.q,.int .i64 f.t.a,.int .i64 f.t.b,.slice fsv.a fsv.n fsv.c,.int .i64 f.x.1,.int .i64 f.x.2.1,.int .i64 f.x.2.2.1,.string f.x.2.2.2]] (by rfl) BX.out hl2 c.size ?_
  intro v3 y3 s3 g3 b3 _
  obtain⟨z3,hz3,_⟩:=s3.form
  subst hz3
  have c:Below w3.heap.size w3 y3:=c.trans b3
  have S3:=Ag s3
  refine hK.out _ _ (c) (fun Ah=>?_)
  clear hK K
  try simp only[Act.put,Aa,Ab,Ac,Ad,Ae,Af]
  clear s3 g3 b3 S2 BX
  refine tkQ 10 rfl (by kernel_rfl) (by rfl) (fun _ _=>by simp only[Aa,Ab,Ac];go_simp;try with_reducible rfl) Ah ?_ fun _ _ _ h=>h
  try simp only[Act.put,Aa,Ab,Ac,Ad,Ae,Af]
  refine tkQ 11 rfl (by kernel_rfl) (by rfl) (fun _ _=>by simp only[Aa,Ab,Ac];go_simp;try with_reducible rfl) Ah ?_ fun _ _ _ h=>h
  try simp only[Act.put,Aa,Ab,Ac,Ad,Ae,Af]
  refine tkQ 12 rfl (by kernel_rfl) (by rfl) (fun _ _=>by simp only[Aa,Ab,Ac];go_simp;try with_reducible rfl) Ah ?_ fun _ _ _ h=>h
  try simp only[Act.put,Aa,Ab,Ac,Ad,Ae,Af]
  refine wpAnyH_done (by kernel_rfl) ?_ _
  have G9:=Ag (G1a.out.later c)
  refine qBj rfl rfl ?_
  refine qCy 53 _ _ rfl g 3 rfl 56 _ G9.out (.slice z3.a z3.n z3.c) rfl (by simp) rfl Tryz.sizeFls [.int .i64 k.rid,.slice k.mv.a k.mv.n k.mv.c,.slice k.mav.a k.mav.n k.mav.c,.slice z3.a z3.n z3.c,.slice k.hev.a k.hev.n k.hev.c,.slice k.sav.a k.sav.n k.sav.c] rfl ?_
  intro w9 k9 t9
  go_wp2_with fail
  go_ret
  have p:=P1.out.below c
  have P9:WkP y3 (k.setF (k.fl++[(f,fsv)]) z3):=by
   refine⟨p.ring,p.ma,⟨?_,fun e he=>?_⟩,p.he,p.sa⟩
   ·show SlN y3 68 12 0 (.slice z3.a z3.n z3.c) ((k.fl++[(f,fsv)]).map fcel)
    rw[List.map_append]
    exact S3.out.down (Nat.zero_le _)
   ·rcases List.mem_append.1 he with he|he
    ·exact p.fl.2 e he
    ·simp at he;subst he;exact HFW.out.keep fun _ _ hk=>c.block _ hk
  refine⟨rfl,k.setF (k.fl++[(f,fsv)]) z3,k9,P9.keepb G9.out t9.keep,?_,(qAc (qAa B1.out c)).trans t9.keep⟩
  simp only[Wv.pl,Wv.setF,qHc,List.map_append,List.map_cons,List.map_nil]
section
variable {P : Program} {ops : Array Oper} {o : Oper} {a : Act} {S : World → Prop}
theorem qKa(hw:Region.wanted o (yielded ops a.tmps)=true)(t:TypeId)(x y:Operand)(ho:o.op=.slice t x (some y) none none){e size n cap k:Nat}{ao:Option Addr}(ht:P.underlying t=some (.slice e))(hsz:(P.info? e).map (·.size)=some size)
  (hx:a.eval x=.slice ao n cap) (hy:a.eval y=.int .i64 (k:Nat)) (hk:k≤n):YieldsIf P ops S o (.slice (if cap=k then ao else ao.map (·.add (k * size))) (n - k) (cap - k)) a:=by
 have hel:P.elem t=e:=by simp[Program.elem,ht]
 refine .inl ⟨hw,fun w _=>?_⟩
 have hr:(Instr.sliceAt t (.slice ao n cap) (some (.int .i64 (k:Nat))) none none).run P w=.ok (.slice (if cap=k then ao else ao.map (·.add (k * size))) (n - k) (cap - k)) w:=by
  rw[run_sliceAt_slice w t _ _ _ _ (by rw[hel];exact ht),run_slice_l w t ao n cap (by rw[hel];exact ht) .i64 (k:Nat) (by omega) (by omega),hel]
  cases hq:P.info? e with
  |none=>simp[hq]at hsz
  |some i=>
   have hs:i.size=size:=by simpa [hq] using hsz
   simp[sizeOf,typeInfo,hq,hs,sliced]
 unfold execOp
 simp only[ho,hx,hy,Option.map_some,Option.map_none,Sem.run_bind,hr,Result.andThen_ok,Sem.run_pure]
theorem qKb(hw:Region.wanted o (yielded ops a.tmps)=true)(t:TypeId)(x y:Operand)(ho:o.op=.slice t x none (some y) none){e size n cap k g off:Nat}(ht:P.underlying t=some (.slice e))(hsz:(P.info? e).map (·.size)=some size)
  (hx:a.eval x=.slice (some ⟨g,off,none⟩) n cap) (hy:a.eval y=.int .i64 (k:Nat)) (hk:k≤cap):YieldsIf P ops S o (.slice (some ⟨g,off,none⟩) k cap) a:=by
 have hel:P.elem t=e:=by simp[Program.elem,ht]
 refine .inl ⟨hw,fun w _=>?_⟩
 have hr:(Instr.sliceAt t (.slice (some ⟨g,off,none⟩) n cap) none (some (.int .i64 (k:Nat))) none).run P w=.ok (.slice (some ⟨g,off,none⟩) k cap) w:=by
  rw[run_sliceAt_slice w t _ _ _ _ (by rw[hel];exact ht),run_slice_h w t _ n cap (by rw[hel];exact ht) .i64 (k:Nat) (by omega) (by omega),hel]
  cases hq:P.info? e with
  |none=>simp[hq]at hsz
  |some i=>
   have hs:i.size=size:=by simpa [hq] using hsz
   simp[sizeOf,typeInfo,hq,hs,sliced,Addr.add]
 unfold execOp
 simp only[ho,hx,hy,Option.map_some,Option.map_none,Sem.run_bind,hr,Result.andThen_ok,Sem.run_pure]
end
theorem SlN.cap{w:World}{T size B g off n cap:Nat}{rs:List (List Value)}(h:SlN w T size B (.slice (some ⟨g,off,none⟩) n cap) rs)(hn:n=rs.length):n≤cap:=by
 rcases h.1.2 with⟨hv,_⟩|⟨g',off',cap',cur,hv,hb,hg,hc,hm,hs,ht⟩
 ·simp at hv
 ·simp at hv
  obtain⟨_,h2,rfl⟩:=hv
  omega
theorem SlN.take{w:World}{T size B g off n cap:Nat}{rs:List (List Value)}(h:SlN w T size B (.slice (some ⟨g,off,none⟩) n cap) rs)(hn:n=rs.length){k:Nat}(hk:k≤n):SlN w T size B (.slice (some ⟨g,off,none⟩) k cap) (rs.take k):=by
 have hkl:(rs.take k).length=k:=by rw[List.length_take];omega
 have hle:=h.lens
 have hfl:(rs.take k).flatten=rs.flatten.take (k * size):=(flat_take k hle).symm
 refine⟨⟨?_,?_⟩,fun r hr=>h.2 r (List.mem_of_mem_take hr)⟩
 ·rw[qKz (s:=size) fun r hr=>hle r (List.mem_of_mem_take hr)]
 ·rw[hkl]
  rcases h.1.2 with⟨hv,_⟩|⟨g',off',cap',cur,hv,hb,hg,hc,hm,hs,ht⟩
  ·simp at hv
  ·simp at hv
   obtain⟨⟨rfl,rfl⟩,h2,rfl⟩:=hv
   have hks:k * size≤rs.length * size:=Nat.mul_le_mul_right _ (by omega)
   refine .inr ⟨g,off,cap,cur,rfl,hb,hg,by omega,hm,hs,fun j hj=>?_⟩
   rw[ht j (by omega),hfl,List.getElem?_take,if_pos hj]
theorem SlN.drop{w:World}{T size B n cap:Nat}{ao:Option Addr}{rs:List (List Value)}(h:SlN w T size B (.slice ao n cap) rs)(hn:n=rs.length){k:Nat}(hk:k≤n):SlN w T size B (.slice (if cap=k then ao else ao.map (·.add (k * size))) (n - k) (cap - k)) (rs.drop k):=by
 refine⟨?_,fun r hr=>h.2 r (List.mem_of_mem_drop hr)⟩
 have h1:Sl w T size B (.slice ao n cap) n rs.flatten:=by rw[hn];rw[hn]at h;exact h.1
 have:=Sl.sliced h1 hk
 rw[qHt k h.lens]at this
 rw[List.length_drop,←hn]
 exact this
def outW(p:Wp)(A:Nat):Wp:=⟨p.rid,p.ms,p.ma,p.fl.take A++p.fl.drop (A+1),p.he,p.sa⟩
theorem elDo_lose(g:Nat)(k:Wv)(d at0 l:Int)(x:ByteArray)(w:World)(h:Hid (WkB w g k))(hk:Hid (WkP w k))(hl:k.ma.length≤10)(A:Nat)(f:Fl)(fsv:Sv)(hA:A<k.fl.length)(hrm:Hid (Int.tmod at0 (k.fl.length:Int)=(A:Int)))(hm:Hid (k.fl[A]=(f,fsv)))(hfl:k.fl.length≤1000000):
  Calls Tryz.prog 87 #[.pointer (some ⟨g,0,none⟩),.agg #[.int .i64 4,.int .i64 d,.int .i64 at0,.int .i64 l,.string x]] w fun e w'=>e=.returned (.int .i64 0)∧∃k':Wv,WkB w' g k'∧WkP w' k'∧k'.pl=outW k.pl A∧KeepBut g w w':=by
 have zg:g<w.heap.size:=Bx.lt h.out
 have b0:=bA w (.cells #[.int .i64 4,.int .i64 d,.int .i64 at0,.int .i64 l,.string x] 64)
 obtain⟨TB,G0,P0,B0⟩:=cy4 (Bx.new w 64 [.int .i64 4,.int .i64 d,.int .i64 at0,.int .i64 l,.string x]) (h.out.later b0) (hk.out.below b0) b0
 have t1:=TB.out.cell 1
 clear b0 h hk
 go_enter Tryz.func87,Tryz.ntmps87
 go_wp2_with fail
 have zW:w.heap.size<(w.alloc (.cells #[.int .i64 4,.int .i64 d,.int .i64 at0,.int .i64 l,.string x] 64)).heap.size:=TB.out.lt
 generalize (w.alloc (.cells #[.int .i64 4,.int .i64 d,.int .i64 at0,.int .i64 l,.string x] 64))=W at *
 refine(qCj g k d _ G0 P0.out.ma (by omega)).mono ?_
 rintro e w1 ⟨rfl,b⟩
 obtain⟨TB,G1,P1,B1⟩:=cy4 (TB.out.later b) (G0.out.later b) (P0.out.below b) (qAa B0.out b)
 have z1:=b.size
 clear b G0 P0 B0 t1
 have t0:=TB.out.cell 0
 have HFN:Hid (k.flv.n=k.fl.length):=P1.out.fl.len
 have hal:A<k.fl.length:=hA
 obtain⟨_,gf,off,ha,_,hgl,hr⟩:=P1.out.fl.row hal
 have HR:Hid (w1.rangeAt gf (off+A * 12) [.int .i64 f.to,.bool f.tk,.int .i64 f.t.c,.int .i64 f.t.r,.int .i64 f.t.q,.int .i64 f.t.a,.int .i64 f.t.b,.slice fsv.a fsv.n fsv.c,.int .i64 f.x.1,.int .i64 f.x.2.1,.int .i64 f.x.2.2.1,.string f.x.2.2.2]):=(by have e:=hm.out;rw[e]at hr;exact hr:World.rangeAt _ _ _ _)
 have G1a:Hid (Bx w1 g 56 [.int .i64 k.rid,.slice k.mv.a k.mv.n k.mv.c,.slice k.mav.a k.mav.n k.mav.c,.slice (some ⟨gf,off,none⟩) k.fl.length k.flv.c,.slice k.hev.a k.hev.n k.hev.c,.slice k.sav.a k.sav.n k.sav.c]):=(by have G2:=G1.out;unfold WkB at G2;rw[ha,HFN.out]at G2;exact G2:Bx _ _ _ _)
 have HFW:Hid (OwnI w1 0 fsv.v f.t.ws):=(by have:=P1.out.fl.2 k.fl[A] (List.getElem_mem hal);rw[hm.out]at this;exact this:OwnI _ _ _ _)
 have c3:=G1a.out.cell 3
 have hn0:((k.fl.length:Int)==0)=false:=by simp;intro h;rw[h]at hal;simp at hal
 have HA9:Hid (k.flv.a=some ⟨gf,off,none⟩):=ha
 clear hr ha
 go_wp2_with fail
 go_cut [8] (fun a8 wx=>a8=.int .i64 (A:Int)∧wx=w1.drew)
 case first=>
  refine wp_region_held_drew (S:=fun w'=>w'=w1.drew) (by kernel_rfl) rfl (fun Ah=>?_)
  refine tkQ 0 rfl (by kernel_rfl) (by rfl) (fun _ _=>by simp only[Aa,Ab,Ac];go_simp;try with_reducible rfl) Ah ?_ fun _ _ _ h=>h
  try simp only[Act.put,Aa,Ab,Ac,Ad,Ae,Af]
  refine tkH (i:=1) (v:=_) rfl (by kernel_rfl) (fun _ _ _ h=>h) (qAf (by rfl) 3 _ rfl w.heap.size 2 rfl 64 _ (fun w hS=>by subst hS;exact TB.out.later (Below.refl _ _).drew) (.int .i64 at0) rfl _ Tryz.underlying3 rfl) Ah ?_
  try simp only[Act.put,Aa,Ab,Ac,Ad,Ae,Af]
  refine tkQ 2 rfl (by kernel_rfl) (by rfl) (fun _ _=>by simp only[Aa,Ab,Ac];go_simp;try with_reducible rfl) Ah ?_ fun _ _ _ h=>h
  try simp only[Act.put,Aa,Ab,Ac,Ad,Ae,Af]
  refine tkQ 3 rfl (by kernel_rfl) (by rfl) (fun _ _=>by simp only[Aa,Ab,Ac];go_simp;try with_reducible rfl) Ah ?_ fun _ _ _ h=>h
  try simp only[Act.put,Aa,Ab,Ac,Ad,Ae,Af]
  refine tkQ 4 rfl (by kernel_rfl) (by rfl) (fun _ _=>by simp only[Aa,Ab,Ac];go_simp;try with_reducible rfl) Ah ?_ fun _ _ _ h=>h
  try simp only[Act.put,Aa,Ab,Ac,Ad,Ae,Af]
  refine tkH (i:=5) (v:=_) rfl (by kernel_rfl) (fun _ _ _ h=>h) (qAf (by rfl) 53 _ rfl g 3 rfl 56 _ (fun w hS=>by subst hS;exact G1a.out.later (Below.refl _ _).drew) (.slice (some ⟨gf,off,none⟩) k.fl.length k.flv.c) rfl _ Tryz.underlying53 rfl) Ah ?_
  try simp only[Act.put,Aa,Ab,Ac,Ad,Ae,Af]
  refine tkQ 6 rfl (by kernel_rfl) (by rfl) (fun _ _=>by simp only[Aa,Ab,Ac];go_simp;try with_reducible rfl) Ah ?_ fun _ _ _ h=>h
  try simp only[Act.put,Aa,Ab,Ac,Ad,Ae,Af]
  refine tkH (i:=7) (v:=.int .i64 (A:Int)) rfl (by kernel_rfl) (fun _ _ _ h=>h) (Or.inl ⟨by rfl,fun w hS=>by have hrem:=hrm.out;have hnz: ¬k.fl=[]:=(fun h=>by rw[h]at hal;simp at hal);go_simp⟩) Ah ?_
  try simp only[Act.put,Ad,Ae,Af]
  refine tkQ 8 rfl (by kernel_rfl) (by rfl) (fun _ _=>by simp only[Aa,Ab,Ac];go_simp;try with_reducible rfl) Ah ?_ fun _ _ _ h=>h
  try simp only[Act.put,Aa,Ab,Ac,Ad,Ae,Af]
  refine wpAnyH_done (by kernel_rfl) ?_ _
  try go_wp2_with fail
  go_meet
  exact⟨rfl,rfl⟩
 case rest=>
 obtain⟨rfl,rfl⟩:=hcut
 have bd:Below w1.heap.size w1 w1.drew:=(Below.refl _ _).drew
 obtain⟨TB,G1,P1,G1a,B1,HR,HFW⟩:=cy7 (TB.out.later bd) (G1.out.later bd) (P1.out.below bd) (G1a.out.later bd) (qAa B1.out bd) (qAk HR.out hgl bd) (ownL HFW.out bd)
 have z2:=TB.out.lt
 clear bd c3 t0
 generalize w1.drew=w2 at *
 have c3:=G1a.out.cell 3
 have i0:(0:Int)≤(A:Int):=by omega
 have i1:(A:Int)<(k.fl.length:Int):=by omega
 have hz:=Ag (Bx.new w2 68 [.int .i64 0,.bool false,.int .i64 0,.int .i64 0,.int .i64 0,.int .i64 0,.int .i64 0,.slice none 0 0,.int .i64 0,.int .i64 0,.int .i64 0,.string ⟨#[]⟩])
 go_wp2_with (first|(refine qBt rfl 68 _ rfl gf (off+A * 12) rfl [.int .i64 f.to,.bool f.tk,.int .i64 f.t.c,.int .i64 f.t.r,.int .i64 f.t.q,.int .i64 f.t.a,.int .i64 f.t.b,.slice fsv.a fsv.n fsv.c,.int .i64 f.x.1,.int .i64 f.x.2.1,.int .i64 f.x.2.2.1,.string f.x.2.2.2] HR.out _ Tryz.underlying68 rfl Tryz.sizeFl ?_)|(refine qAd rfl 68 _ _ rfl w2.heap.size rfl 68 _ hz.out [.int .i64 f.to,.bool f.tk,.int .i64 f.t.c,.int .i64 f.t.r,.int .i64 f.t.q,.int .i64 f.t.a,.int .i64 f.t.b,.slice fsv.a fsv.n fsv.c,.int .i64 f.x.1,.int .i64 f.x.2.1,.int .i64 f.x.2.2.1,.string f.x.2.2.2] rfl rfl Tryz.sizeFl rfl ?_;intro w3 OB TB3;have b:Below w2.heap.size w2 w3:=((Below.refl _ _).alloc (Nat.le_refl _) _).trans (TB3.below (Nat.le_refl _));have FB:=Ag OB;clear OB TB3;refine Stp.here ?_))
 refine Stp.go ?_
 obtain⟨TB,G1,P1,G1a,B1,HFW⟩:=cy6 (TB.out.later b) (G1.out.later b) (P1.out.below b) (G1a.out.later b) (qAa B1.out b) (ownL HFW.out b)
 have z3:=FB.out.lt
 clear b hz HR c3
 generalize w2.heap.size=gx at *
 have t0:=TB.out.cell 0
 have FL3:SlN w3 68 12 0 (.slice (some ⟨gf,off,none⟩) k.fl.length k.flv.c) (k.fl.map fcel):=by have h1:=P1.out.fl.1;have h2:=HA9.out;have h3:=HFN.out;unfold Sv.v at h1;rw[h2,h3]at h1;exact h1
 have hnn:k.fl.length=(k.fl.map fcel).length:=by simp
 have hac:A≤k.flv.c:=by have:=SlN.cap FL3 hnn;omega
 have FLT:Hid (SlN w3 68 12 0 (.slice (some ⟨gf,off,none⟩) A k.flv.c) ((k.fl.map fcel).take A)):=SlN.take FL3 hnn (by omega)
 have FLD:Hid (SlN w3 68 12 0 _ ((k.fl.map fcel).drop (A+1))):=SlN.drop FL3 hnn (k:=A+1) (by omega)
 have hw1:IntKind.i64.wrap ((A:Int)+1)=((A+1:Nat):Int):=by rw[IntKind.wrap_i64];omega
 clear FL3 hnn
 go_wp2_with fail
 have c:Below w3.heap.size w3 w3.drew:=(Below.refl _ _).drew
 refine qAj (S:=fun w'=>Below w3.heap.size w3 w') _ (by simp) (by kernel_rfl) (by rfl) (by rfl) (by kernel_rfl) (by kernel_rfl) c (fun Ah=>?_)
 simp only[List.dropLast_cons_cons,List.dropLast_singleton,List.getLast_cons_cons,List.getLast_singleton,List.cons_append,List.nil_append,List.length_cons,List.length_nil]
 refine tkQ 0 rfl (by kernel_rfl) (by rfl) (fun _ _=>by simp only[Aa,Ab,Ac];go_simp;try with_reducible rfl) Ah ?_ fun _ _ _ h=>h
 try simp only[Act.put,Aa,Ab,Ac,Ad,Ae,Af]
 refine tkQ 2 rfl (by kernel_rfl) (by rfl) (fun _ _=>by simp only[Aa,Ab,Ac];go_simp;try with_reducible rfl) Ah ?_ fun _ _ _ h=>h
 try simp only[Act.put,Aa,Ab,Ac,Ad,Ae,Af]
 refine tkQ 3 rfl (by kernel_rfl) (by rfl) (fun _ _=>by simp only[Aa,Ab,Ac];go_simp;try with_reducible rfl) Ah ?_ fun _ _ _ h=>h
 try simp only[Act.put,Aa,Ab,Ac,Ad,Ae,Af]
 refine tkQ 4 rfl (by kernel_rfl) (by rfl) (fun _ _=>by simp only[Aa,Ab,Ac];go_simp;try with_reducible rfl) Ah ?_ fun _ _ _ h=>h
 try simp only[Act.put,Aa,Ab,Ac,Ad,Ae,Af]
 refine tkH (i:=5) (v:=_) rfl (by kernel_rfl) (fun _ _ _ h=>h) (qAf (by rfl) 53 _ rfl g 3 rfl 56 _ (fun w hS=>G1a.out.later hS) (.slice (some ⟨gf,off,none⟩) k.fl.length k.flv.c) rfl _ Tryz.underlying53 rfl) Ah ?_
 try simp only[Act.put,Aa,Ab,Ac,Ad,Ae,Af]
 refine tkQ 6 rfl (by kernel_rfl) (by rfl) (fun _ _=>by simp only[Aa,Ab,Ac];go_simp;try with_reducible rfl) Ah ?_ fun _ _ _ h=>h
 try simp only[Act.put,Aa,Ab,Ac,Ad,Ae,Af]
 refine tkH (i:=7) (v:=_) rfl (by kernel_rfl) (fun _ _ _ h=>h) (qKb (by rfl) 53 _ _ rfl Tryz.underlying53 Tryz.sizeFl (by rfl) (by rfl) hac) Ah ?_
 try simp only[Act.put,Ad,Ae,Af]
 refine tkQ 9 rfl (by kernel_rfl) (by rfl) (fun _ _=>by simp only[Aa,Ab,Ac];go_simp;try with_reducible rfl) Ah ?_ fun _ _ _ h=>h
 try simp only[Act.put,Aa,Ab,Ac,Ad,Ae,Af]
 refine tkQ 10 rfl (by kernel_rfl) (by rfl) (fun _ _=>by simp only[Aa,Ab,Ac];go_simp;try with_reducible rfl) Ah ?_ fun _ _ _ h=>h
 try simp only[Act.put,Aa,Ab,Ac,Ad,Ae,Af]
 refine tkQ 11 rfl (by kernel_rfl) (by rfl) (fun _ _=>by simp only[Aa,Ab,Ac];go_simp;try with_reducible rfl) Ah ?_ fun _ _ _ h=>h
 try simp only[Act.put,Aa,Ab,Ac,Ad,Ae,Af]
 refine tkH (i:=12) (v:=_) rfl (by kernel_rfl) (fun _ _ _ h=>h) (qAf (by rfl) 53 _ rfl g 3 rfl 56 _ (fun w hS=>G1a.out.later hS) (.slice (some ⟨gf,off,none⟩) k.fl.length k.flv.c) rfl _ Tryz.underlying53 rfl) Ah ?_
 try simp only[Act.put,Aa,Ab,Ac,Ad,Ae,Af]
 refine tkQ 13 rfl (by kernel_rfl) (by rfl) (fun _ _=>by simp only[Aa,Ab,Ac];go_simp;try with_reducible rfl) Ah ?_ fun _ _ _ h=>h
 try simp only[Act.put,Aa,Ab,Ac,Ad,Ae,Af]
 refine tkQ 14 rfl (by kernel_rfl) (by rfl) (fun _ _=>by simp only[Aa,Ab,Ac];go_simp;try with_reducible rfl) Ah ?_ fun _ _ _ h=>h
 try simp only[Act.put,Aa,Ab,Ac,Ad,Ae,Af]
 refine tkH (i:=15) (v:=_) rfl (by kernel_rfl) (fun _ _ _ h=>h) (qKa (k:=A+1) (by rfl) 53 _ _ rfl Tryz.underlying53 Tryz.sizeFl (by rfl) (by rfl) hal) Ah ?_
 try simp only[Act.put,Ad,Ae,Af]
 refine wpAnyH_ready (rs:=[1]) (by kernel_rfl) (by simp) ?_
 refine AllReadyH.cons (i:=1) rfl (fun K hK=>?_) AllReadyH.nil
 rw[if_pos (by rfl)]
 simp only[Aa,Ab,Ac]
 go_simp
 have S1:=Ag (slnAt w3.drew 68 12 w3.heap.size w3.heap.size c.size (by simp))
 have c:Below w3.heap.size w3 (w3.drew.alloc (.cells #[] 68)):=c.alloc c.size _
 refine hK.out _ _ (c) (fun Ah=>?_)
 clear hK K
 try simp only[Act.put,Aa,Ab,Ac,Ad,Ae,Af]
 refine wpAnyH_ready (rs:=[8]) (by kernel_rfl) (by simp) ?_
 refine AllReadyH.cons (i:=8) rfl (fun K hK=>?_) AllReadyH.nil
 rw[if_pos (by rfl)]
 simp only[Aa,Ab,Ac]
 refine qCc _ _ 53 rfl _ 120 Tryz.underlying53 Tryz.infoFl rfl (by decide) w3.heap.size (.slice (some ⟨w3.heap.size,0,none⟩) 0 0) [] (by rfl) S1.out 0 _ ((k.fl.map fcel).take A) (by rfl) (SlN.below FLT.out c) (by simp;omega) c.size ?_
 intro v2 y2 s2 g2 b2 _
 rw[List.nil_append]at s2
 have c:Below w3.heap.size w3 y2:=c.trans b2
 have S2:=Ag s2
 refine hK.out _ _ (c) (fun Ah=>?_)
 clear hK K
 try simp only[Act.put,Aa,Ab,Ac,Ad,Ae,Af]
 clear s2 g2 b2 S1
 refine wpAnyH_ready (rs:=[16]) (by kernel_rfl) (by simp) ?_
 refine AllReadyH.cons (i:=16) rfl (fun K hK=>?_) AllReadyH.nil
 rw[if_pos (by rfl)]
 simp only[Aa,Ab,Ac]
 refine qCc _ _ 53 rfl _ 120 Tryz.underlying53 Tryz.infoFl rfl (by decide) w3.heap.size v2 ((k.fl.map fcel).take A) (by rfl) S2.out 0 _ ((k.fl.map fcel).drop (A+1)) (by rfl) (SlN.below FLD.out c) (by simp;omega) c.size ?_
 intro v3 y3 s3 g3 b3 _
 obtain⟨z3,hz3,_⟩:=s3.form
 subst hz3
 have c:Below w3.heap.size w3 y3:=c.trans b3
 have S3:=Ag s3
 refine hK.out _ _ (c) (fun Ah=>?_)
 clear hK K
 try simp only[Act.put,Aa,Ab,Ac,Ad,Ae,Af]
 clear s3 g3 b3 S2
 refine tkQ 17 rfl (by kernel_rfl) (by rfl) (fun _ _=>by simp only[Aa,Ab,Ac];go_simp;try with_reducible rfl) Ah ?_ fun _ _ _ h=>h
 try simp only[Act.put,Aa,Ab,Ac,Ad,Ae,Af]
 refine tkQ 18 rfl (by kernel_rfl) (by rfl) (fun _ _=>by simp only[Aa,Ab,Ac];go_simp;try with_reducible rfl) Ah ?_ fun _ _ _ h=>h
 try simp only[Act.put,Aa,Ab,Ac,Ad,Ae,Af]
 refine tkQ 19 rfl (by kernel_rfl) (by rfl) (fun _ _=>by simp only[Aa,Ab,Ac];go_simp;try with_reducible rfl) Ah ?_ fun _ _ _ h=>h
 try simp only[Act.put,Aa,Ab,Ac,Ad,Ae,Af]
 refine wpAnyH_done (by kernel_rfl) ?_ _
 have G9:=Ag (G1a.out.later c)
 refine qBj rfl rfl ?_
 refine qCy 53 _ _ rfl g 3 rfl 56 _ G9.out (.slice z3.a z3.n z3.c) rfl (by simp) rfl Tryz.sizeFls [.int .i64 k.rid,.slice k.mv.a k.mv.n k.mv.c,.slice k.mav.a k.mav.n k.mav.c,.slice z3.a z3.n z3.c,.slice k.hev.a k.hev.n k.hev.c,.slice k.sav.a k.sav.n k.sav.c] rfl ?_
 intro w9 k9 t9
 have p:=P1.out.below c
 have P9:WkP y3 (k.setF (k.fl.take A++k.fl.drop (A+1)) z3):=by
  refine⟨p.ring,p.ma,⟨?_,fun e he=>?_⟩,p.he,p.sa⟩
  ·show SlN y3 68 12 0 (.slice z3.a z3.n z3.c) ((k.fl.take A++k.fl.drop (A+1)).map fcel)
   rw[List.map_append,List.map_take,List.map_drop]
   exact S3.out.down (Nat.zero_le _)
  ·rcases List.mem_append.1 he with he|he
   ·exact p.fl.2 e (List.mem_of_mem_take he)
   ·exact p.fl.2 e (List.mem_of_mem_drop he)
 have G10:Hid (WkB w9 g (k.setF (k.fl.take A++k.fl.drop (A+1)) z3)):=k9
 have P10:Hid (WkP w9 (k.setF (k.fl.take A++k.fl.drop (A+1)) z3)):=P9.keepb G9.out t9.keep
 have K10:Hid (KeepBut g w w9):=(qAc (qAa B1.out c)).trans t9.keep
 obtain⟨TB9,FB9⟩:=cy2 ((TB.out.later c).turn t9 (by omega)) ((FB.out.later c).turn t9 (by omega))
 have FW9:Hid (OwnI w9 0 fsv.v f.t.ws):=(HFW.out.keep fun _ _ hk=>c.block _ hk).past G9.out t9 (by decide)
 clear k9 t9 p P9 S3 c FLT FLD t0
 have t0:=TB9.out.cell 0
 go_wp2_with fail
 all_goals go_ret
 all_goals refine⟨rfl,_,G10.out,P10.out,?_,K10.out⟩
 all_goals simp only[Wv.pl,Wv.setF,outW,List.map_append,List.map_take,List.map_drop]
def catW(p:Wp)(i:Nat)(m:Mt)(y:It):Wp:=⟨p.rid,p.ms,p.ma.set i (m.cat y),p.fl,p.he,p.sa⟩
theorem qHv(g:Nat)(k:Wv)(d at0 l:Int)(x:ByteArray)(w:World)(h:Hid (WkB w g k))(hk:Hid (WkP w k))(hl:k.ma.length≤10)(kd:Int)(hkd:kd=2∨kd=3)(A:Nat)(f:Fl)(fsv:Sv)(hA:A<k.fl.length)(hrm:Hid (Int.tmod at0 (k.fl.length:Int)=(A:Int)))(hm:Hid (k.fl[A]=(f,fsv)))(hfl:k.fl.length≤1000000)(rc:Int)(PP:Wp)(hcm:Hid (∀(w9:World) (z3:Sv),Hid (WkB w9 g (k.setF (k.fl.take A++k.fl.drop (A+1)) z3))→Hid (WkP w9 (k.setF (k.fl.take A++k.fl.drop (A+1)) z3))→Hid (OwnI w9 0 fsv.v f.t.ws)→Calls Tryz.prog 159 #[.pointer (some ⟨g,0,none⟩),.agg #[.int .i64 f.to,.bool f.tk,.int .i64 f.t.c,.int .i64 f.t.r,.int .i64 f.t.q,.int .i64 f.t.a,.int .i64 f.t.b,.slice fsv.a fsv.n fsv.c,.int .i64 f.x.1,.int .i64 f.x.2.1,.int .i64 f.x.2.2.1,.string f.x.2.2.2]] w9 (fun e w'=>e=.returned (.int .i64 rc)∧∃k':Wv,WkB w' g k'∧WkP w' k'∧k'.pl=PP∧KeepBut g w9 w'))):
  Calls Tryz.prog 87 #[.pointer (some ⟨g,0,none⟩),.agg #[.int .i64 kd,.int .i64 d,.int .i64 at0,.int .i64 l,.string x]] w fun e w'=>e=.returned (.int .i64 rc)∧∃k':Wv,WkB w' g k'∧WkP w' k'∧k'.pl=PP∧KeepBut g w w':=by
 have zg:g<w.heap.size:=Bx.lt h.out
 have b0:=bA w (.cells #[.int .i64 kd,.int .i64 d,.int .i64 at0,.int .i64 l,.string x] 64)
 obtain⟨TB,G0,P0,B0⟩:=cy4 (Bx.new w 64 [.int .i64 kd,.int .i64 d,.int .i64 at0,.int .i64 l,.string x]) (h.out.later b0) (hk.out.below b0) b0
 have t1:=TB.out.cell 1
 clear b0 h hk
 go_enter Tryz.func87,Tryz.ntmps87
 go_wp2_with fail
 have zW:w.heap.size<(w.alloc (.cells #[.int .i64 kd,.int .i64 d,.int .i64 at0,.int .i64 l,.string x] 64)).heap.size:=TB.out.lt
 generalize (w.alloc (.cells #[.int .i64 kd,.int .i64 d,.int .i64 at0,.int .i64 l,.string x] 64))=W at *
 refine(qCj g k d _ G0 P0.out.ma (by omega)).mono ?_
 rintro e w1 ⟨rfl,b⟩
 obtain⟨TB,G1,P1,B1⟩:=cy4 (TB.out.later b) (G0.out.later b) (P0.out.below b) (qAa B0.out b)
 have z1:=b.size
 clear b G0 P0 B0 t1
 have t0:=TB.out.cell 0
 have HFN:Hid (k.flv.n=k.fl.length):=P1.out.fl.len
 have q1:(kd==1)=false:=by rcases hkd with rfl|rfl<;>decide
 have q7:(kd==7)=false:=by rcases hkd with rfl|rfl<;>decide
 have q6:(kd==6)=false:=by rcases hkd with rfl|rfl<;>decide
 have q5:(kd==5)=false:=by rcases hkd with rfl|rfl<;>decide
 have q4:(kd==4)=false:=by rcases hkd with rfl|rfl<;>decide
 have hal:A<k.fl.length:=hA
 obtain⟨_,gf,off,ha,_,hgl,hr⟩:=P1.out.fl.row hal
 have HR:Hid (w1.rangeAt gf (off+A * 12) [.int .i64 f.to,.bool f.tk,.int .i64 f.t.c,.int .i64 f.t.r,.int .i64 f.t.q,.int .i64 f.t.a,.int .i64 f.t.b,.slice fsv.a fsv.n fsv.c,.int .i64 f.x.1,.int .i64 f.x.2.1,.int .i64 f.x.2.2.1,.string f.x.2.2.2]):=(by have e:=hm.out;rw[e]at hr;exact hr:World.rangeAt _ _ _ _)
 have G1a:Hid (Bx w1 g 56 [.int .i64 k.rid,.slice k.mv.a k.mv.n k.mv.c,.slice k.mav.a k.mav.n k.mav.c,.slice (some ⟨gf,off,none⟩) k.fl.length k.flv.c,.slice k.hev.a k.hev.n k.hev.c,.slice k.sav.a k.sav.n k.sav.c]):=(by have G2:=G1.out;unfold WkB at G2;rw[ha,HFN.out]at G2;exact G2:Bx _ _ _ _)
 have HFW:Hid (OwnI w1 0 fsv.v f.t.ws):=(by have:=P1.out.fl.2 k.fl[A] (List.getElem_mem hal);rw[hm.out]at this;exact this:OwnI _ _ _ _)
 have c3:=G1a.out.cell 3
 have hn0:((k.fl.length:Int)==0)=false:=by simp;intro h;rw[h]at hal;simp at hal
 have HA9:Hid (k.flv.a=some ⟨gf,off,none⟩):=ha
 clear hr ha
 go_wp2_with fail
 go_cut [8] (fun a8 wx=>a8=.int .i64 (A:Int)∧wx=w1.drew)
 case first=>
  refine wp_region_held_drew (S:=fun w'=>w'=w1.drew) (by kernel_rfl) rfl (fun Ah=>?_)
  refine tkQ 0 rfl (by kernel_rfl) (by rfl) (fun _ _=>by simp only[Aa,Ab,Ac];go_simp;try with_reducible rfl) Ah ?_ fun _ _ _ h=>h
  try simp only[Act.put,Aa,Ab,Ac,Ad,Ae,Af]
  refine tkH (i:=1) (v:=_) rfl (by kernel_rfl) (fun _ _ _ h=>h) (qAf (by rfl) 3 _ rfl w.heap.size 2 rfl 64 _ (fun w hS=>by subst hS;exact TB.out.later (Below.refl _ _).drew) (.int .i64 at0) rfl _ Tryz.underlying3 rfl) Ah ?_
  try simp only[Act.put,Aa,Ab,Ac,Ad,Ae,Af]
  refine tkQ 2 rfl (by kernel_rfl) (by rfl) (fun _ _=>by simp only[Aa,Ab,Ac];go_simp;try with_reducible rfl) Ah ?_ fun _ _ _ h=>h
  try simp only[Act.put,Aa,Ab,Ac,Ad,Ae,Af]
  refine tkQ 3 rfl (by kernel_rfl) (by rfl) (fun _ _=>by simp only[Aa,Ab,Ac];go_simp;try with_reducible rfl) Ah ?_ fun _ _ _ h=>h
  try simp only[Act.put,Aa,Ab,Ac,Ad,Ae,Af]
  refine tkQ 4 rfl (by kernel_rfl) (by rfl) (fun _ _=>by simp only[Aa,Ab,Ac];go_simp;try with_reducible rfl) Ah ?_ fun _ _ _ h=>h
  try simp only[Act.put,Aa,Ab,Ac,Ad,Ae,Af]
  refine tkH (i:=5) (v:=_) rfl (by kernel_rfl) (fun _ _ _ h=>h) (qAf (by rfl) 53 _ rfl g 3 rfl 56 _ (fun w hS=>by subst hS;exact G1a.out.later (Below.refl _ _).drew) (.slice (some ⟨gf,off,none⟩) k.fl.length k.flv.c) rfl _ Tryz.underlying53 rfl) Ah ?_
  try simp only[Act.put,Aa,Ab,Ac,Ad,Ae,Af]
  refine tkQ 6 rfl (by kernel_rfl) (by rfl) (fun _ _=>by simp only[Aa,Ab,Ac];go_simp;try with_reducible rfl) Ah ?_ fun _ _ _ h=>h
  try simp only[Act.put,Aa,Ab,Ac,Ad,Ae,Af]
  refine tkH (i:=7) (v:=.int .i64 (A:Int)) rfl (by kernel_rfl) (fun _ _ _ h=>h) (Or.inl ⟨by rfl,fun w hS=>by have hrem:=hrm.out;have hnz: ¬k.fl=[]:=(fun h=>by rw[h]at hal;simp at hal);go_simp⟩) Ah ?_
  try simp only[Act.put,Ad,Ae,Af]
  refine tkQ 8 rfl (by kernel_rfl) (by rfl) (fun _ _=>by simp only[Aa,Ab,Ac];go_simp;try with_reducible rfl) Ah ?_ fun _ _ _ h=>h
  try simp only[Act.put,Aa,Ab,Ac,Ad,Ae,Af]
  refine wpAnyH_done (by kernel_rfl) ?_ _
  try go_wp2_with fail
  go_meet
  exact⟨rfl,rfl⟩
 case rest=>
 obtain⟨rfl,rfl⟩:=hcut
 have bd:Below w1.heap.size w1 w1.drew:=(Below.refl _ _).drew
 obtain⟨TB,G1,P1,G1a,B1,HR,HFW⟩:=cy7 (TB.out.later bd) (G1.out.later bd) (P1.out.below bd) (G1a.out.later bd) (qAa B1.out bd) (qAk HR.out hgl bd) (ownL HFW.out bd)
 have z2:=TB.out.lt
 clear bd c3 t0
 generalize w1.drew=w2 at *
 have c3:=G1a.out.cell 3
 have i0:(0:Int)≤(A:Int):=by omega
 have i1:(A:Int)<(k.fl.length:Int):=by omega
 have hz:=Ag (Bx.new w2 68 [.int .i64 0,.bool false,.int .i64 0,.int .i64 0,.int .i64 0,.int .i64 0,.int .i64 0,.slice none 0 0,.int .i64 0,.int .i64 0,.int .i64 0,.string ⟨#[]⟩])
 go_wp2_with (first|(refine qBt rfl 68 _ rfl gf (off+A * 12) rfl [.int .i64 f.to,.bool f.tk,.int .i64 f.t.c,.int .i64 f.t.r,.int .i64 f.t.q,.int .i64 f.t.a,.int .i64 f.t.b,.slice fsv.a fsv.n fsv.c,.int .i64 f.x.1,.int .i64 f.x.2.1,.int .i64 f.x.2.2.1,.string f.x.2.2.2] HR.out _ Tryz.underlying68 rfl Tryz.sizeFl ?_)|(refine qAd rfl 68 _ _ rfl w2.heap.size rfl 68 _ hz.out [.int .i64 f.to,.bool f.tk,.int .i64 f.t.c,.int .i64 f.t.r,.int .i64 f.t.q,.int .i64 f.t.a,.int .i64 f.t.b,.slice fsv.a fsv.n fsv.c,.int .i64 f.x.1,.int .i64 f.x.2.1,.int .i64 f.x.2.2.1,.string f.x.2.2.2] rfl rfl Tryz.sizeFl rfl ?_;intro w3 OB TB3;have b:Below w2.heap.size w2 w3:=((Below.refl _ _).alloc (Nat.le_refl _) _).trans (TB3.below (Nat.le_refl _));have FB:=Ag OB;clear OB TB3;refine Stp.here ?_))
 refine Stp.go ?_
 obtain⟨TB,G1,P1,G1a,B1,HFW⟩:=cy6 (TB.out.later b) (G1.out.later b) (P1.out.below b) (G1a.out.later b) (qAa B1.out b) (ownL HFW.out b)
 have z3:=FB.out.lt
 clear b hz HR c3
 generalize w2.heap.size=gx at *
 have t0:=TB.out.cell 0
 have FL3:SlN w3 68 12 0 (.slice (some ⟨gf,off,none⟩) k.fl.length k.flv.c) (k.fl.map fcel):=by have h1:=P1.out.fl.1;have h2:=HA9.out;have h3:=HFN.out;unfold Sv.v at h1;rw[h2,h3]at h1;exact h1
 have hnn:k.fl.length=(k.fl.map fcel).length:=by simp
 have hac:A≤k.flv.c:=by have:=SlN.cap FL3 hnn;omega
 have FLT:Hid (SlN w3 68 12 0 (.slice (some ⟨gf,off,none⟩) A k.flv.c) ((k.fl.map fcel).take A)):=SlN.take FL3 hnn (by omega)
 have FLD:Hid (SlN w3 68 12 0 _ ((k.fl.map fcel).drop (A+1))):=SlN.drop FL3 hnn (k:=A+1) (by omega)
 have hw1:IntKind.i64.wrap ((A:Int)+1)=((A+1:Nat):Int):=by rw[IntKind.wrap_i64];omega
 clear FL3 hnn
 go_wp2_with fail
 have c:Below w3.heap.size w3 w3.drew:=(Below.refl _ _).drew
 refine qAj (S:=fun w'=>Below w3.heap.size w3 w') _ (by simp) (by kernel_rfl) (by rfl) (by rfl) (by kernel_rfl) (by kernel_rfl) c (fun Ah=>?_)
 simp only[List.dropLast_cons_cons,List.dropLast_singleton,List.getLast_cons_cons,List.getLast_singleton,List.cons_append,List.nil_append,List.length_cons,List.length_nil]
 refine tkQ 0 rfl (by kernel_rfl) (by rfl) (fun _ _=>by simp only[Aa,Ab,Ac];go_simp;try with_reducible rfl) Ah ?_ fun _ _ _ h=>h
 try simp only[Act.put,Aa,Ab,Ac,Ad,Ae,Af]
 refine tkQ 2 rfl (by kernel_rfl) (by rfl) (fun _ _=>by simp only[Aa,Ab,Ac];go_simp;try with_reducible rfl) Ah ?_ fun _ _ _ h=>h
 try simp only[Act.put,Aa,Ab,Ac,Ad,Ae,Af]
 refine tkQ 3 rfl (by kernel_rfl) (by rfl) (fun _ _=>by simp only[Aa,Ab,Ac];go_simp;try with_reducible rfl) Ah ?_ fun _ _ _ h=>h
 try simp only[Act.put,Aa,Ab,Ac,Ad,Ae,Af]
 refine tkQ 4 rfl (by kernel_rfl) (by rfl) (fun _ _=>by simp only[Aa,Ab,Ac];go_simp;try with_reducible rfl) Ah ?_ fun _ _ _ h=>h
 try simp only[Act.put,Aa,Ab,Ac,Ad,Ae,Af]
 refine tkH (i:=5) (v:=_) rfl (by kernel_rfl) (fun _ _ _ h=>h) (qAf (by rfl) 53 _ rfl g 3 rfl 56 _ (fun w hS=>G1a.out.later hS) (.slice (some ⟨gf,off,none⟩) k.fl.length k.flv.c) rfl _ Tryz.underlying53 rfl) Ah ?_
 try simp only[Act.put,Aa,Ab,Ac,Ad,Ae,Af]
 refine tkQ 6 rfl (by kernel_rfl) (by rfl) (fun _ _=>by simp only[Aa,Ab,Ac];go_simp;try with_reducible rfl) Ah ?_ fun _ _ _ h=>h
 try simp only[Act.put,Aa,Ab,Ac,Ad,Ae,Af]
 refine tkH (i:=7) (v:=_) rfl (by kernel_rfl) (fun _ _ _ h=>h) (qKb (by rfl) 53 _ _ rfl Tryz.underlying53 Tryz.sizeFl (by rfl) (by rfl) hac) Ah ?_
 try simp only[Act.put,Ad,Ae,Af]
 refine tkQ 9 rfl (by kernel_rfl) (by rfl) (fun _ _=>by simp only[Aa,Ab,Ac];go_simp;try with_reducible rfl) Ah ?_ fun _ _ _ h=>h
 try simp only[Act.put,Aa,Ab,Ac,Ad,Ae,Af]
 refine tkQ 10 rfl (by kernel_rfl) (by rfl) (fun _ _=>by simp only[Aa,Ab,Ac];go_simp;try with_reducible rfl) Ah ?_ fun _ _ _ h=>h
 try simp only[Act.put,Aa,Ab,Ac,Ad,Ae,Af]
 refine tkQ 11 rfl (by kernel_rfl) (by rfl) (fun _ _=>by simp only[Aa,Ab,Ac];go_simp;try with_reducible rfl) Ah ?_ fun _ _ _ h=>h
 try simp only[Act.put,Aa,Ab,Ac,Ad,Ae,Af]
 refine tkH (i:=12) (v:=_) rfl (by kernel_rfl) (fun _ _ _ h=>h) (qAf (by rfl) 53 _ rfl g 3 rfl 56 _ (fun w hS=>G1a.out.later hS) (.slice (some ⟨gf,off,none⟩) k.fl.length k.flv.c) rfl _ Tryz.underlying53 rfl) Ah ?_
 try simp only[Act.put,Aa,Ab,Ac,Ad,Ae,Af]
 refine tkQ 13 rfl (by kernel_rfl) (by rfl) (fun _ _=>by simp only[Aa,Ab,Ac];go_simp;try with_reducible rfl) Ah ?_ fun _ _ _ h=>h
 try simp only[Act.put,Aa,Ab,Ac,Ad,Ae,Af]
 refine tkQ 14 rfl (by kernel_rfl) (by rfl) (fun _ _=>by simp only[Aa,Ab,Ac];go_simp;try with_reducible rfl) Ah ?_ fun _ _ _ h=>h
 try simp only[Act.put,Aa,Ab,Ac,Ad,Ae,Af]
 refine tkH (i:=15) (v:=_) rfl (by kernel_rfl) (fun _ _ _ h=>h) (qKa (k:=A+1) (by rfl) 53 _ _ rfl Tryz.underlying53 Tryz.sizeFl (by rfl) (by rfl) hal) Ah ?_
 try simp only[Act.put,Ad,Ae,Af]
 refine wpAnyH_ready (rs:=[1]) (by kernel_rfl) (by simp) ?_
 refine AllReadyH.cons (i:=1) rfl (fun K hK=>?_) AllReadyH.nil
 rw[if_pos (by rfl)]
 simp only[Aa,Ab,Ac]
 go_simp
 have S1:=Ag (slnAt w3.drew 68 12 w3.heap.size w3.heap.size c.size (by simp))
 have c:Below w3.heap.size w3 (w3.drew.alloc (.cells #[] 68)):=c.alloc c.size _
 refine hK.out _ _ (c) (fun Ah=>?_)
 clear hK K
 try simp only[Act.put,Aa,Ab,Ac,Ad,Ae,Af]
 refine wpAnyH_ready (rs:=[8]) (by kernel_rfl) (by simp) ?_
 refine AllReadyH.cons (i:=8) rfl (fun K hK=>?_) AllReadyH.nil
 rw[if_pos (by rfl)]
 simp only[Aa,Ab,Ac]
 refine qCc _ _ 53 rfl _ 120 Tryz.underlying53 Tryz.infoFl rfl (by decide) w3.heap.size (.slice (some ⟨w3.heap.size,0,none⟩) 0 0) [] (by rfl) S1.out 0 _ ((k.fl.map fcel).take A) (by rfl) (SlN.below FLT.out c) (by simp;omega) c.size ?_
 intro v2 y2 s2 g2 b2 _
 rw[List.nil_append]at s2
 have c:Below w3.heap.size w3 y2:=c.trans b2
 have S2:=Ag s2
 refine hK.out _ _ (c) (fun Ah=>?_)
 clear hK K
 try simp only[Act.put,Aa,Ab,Ac,Ad,Ae,Af]
 clear s2 g2 b2 S1
 refine wpAnyH_ready (rs:=[16]) (by kernel_rfl) (by simp) ?_
 refine AllReadyH.cons (i:=16) rfl (fun K hK=>?_) AllReadyH.nil
 rw[if_pos (by rfl)]
 simp only[Aa,Ab,Ac]
 refine qCc _ _ 53 rfl _ 120 Tryz.underlying53 Tryz.infoFl rfl (by decide) w3.heap.size v2 ((k.fl.map fcel).take A) (by rfl) S2.out 0 _ ((k.fl.map fcel).drop (A+1)) (by rfl) (SlN.below FLD.out c) (by simp;omega) c.size ?_
 intro v3 y3 s3 g3 b3 _
 obtain⟨z3,hz3,_⟩:=s3.form
 subst hz3
 have c:Below w3.heap.size w3 y3:=c.trans b3
 have S3:=Ag s3
 refine hK.out _ _ (c) (fun Ah=>?_)
 clear hK K
 try simp only[Act.put,Aa,Ab,Ac,Ad,Ae,Af]
 clear s3 g3 b3 S2
 refine tkQ 17 rfl (by kernel_rfl) (by rfl) (fun _ _=>by simp only[Aa,Ab,Ac];go_simp;try with_reducible rfl) Ah ?_ fun _ _ _ h=>h
 try simp only[Act.put,Aa,Ab,Ac,Ad,Ae,Af]
 refine tkQ 18 rfl (by kernel_rfl) (by rfl) (fun _ _=>by simp only[Aa,Ab,Ac];go_simp;try with_reducible rfl) Ah ?_ fun _ _ _ h=>h
 try simp only[Act.put,Aa,Ab,Ac,Ad,Ae,Af]
 refine tkQ 19 rfl (by kernel_rfl) (by rfl) (fun _ _=>by simp only[Aa,Ab,Ac];go_simp;try with_reducible rfl) Ah ?_ fun _ _ _ h=>h
 try simp only[Act.put,Aa,Ab,Ac,Ad,Ae,Af]
 refine wpAnyH_done (by kernel_rfl) ?_ _
 have G9:=Ag (G1a.out.later c)
 refine qBj rfl rfl ?_
 refine qCy 53 _ _ rfl g 3 rfl 56 _ G9.out (.slice z3.a z3.n z3.c) rfl (by simp) rfl Tryz.sizeFls [.int .i64 k.rid,.slice k.mv.a k.mv.n k.mv.c,.slice k.mav.a k.mav.n k.mav.c,.slice z3.a z3.n z3.c,.slice k.hev.a k.hev.n k.hev.c,.slice k.sav.a k.sav.n k.sav.c] rfl ?_
 intro w9 k9 t9
 have p:=P1.out.below c
 have P9:WkP y3 (k.setF (k.fl.take A++k.fl.drop (A+1)) z3):=by
  refine⟨p.ring,p.ma,⟨?_,fun e he=>?_⟩,p.he,p.sa⟩
  ·show SlN y3 68 12 0 (.slice z3.a z3.n z3.c) ((k.fl.take A++k.fl.drop (A+1)).map fcel)
   rw[List.map_append,List.map_take,List.map_drop]
   exact S3.out.down (Nat.zero_le _)
  ·rcases List.mem_append.1 he with he|he
   ·exact p.fl.2 e (List.mem_of_mem_take he)
   ·exact p.fl.2 e (List.mem_of_mem_drop he)
 have G10:Hid (WkB w9 g (k.setF (k.fl.take A++k.fl.drop (A+1)) z3)):=k9
 have P10:Hid (WkP w9 (k.setF (k.fl.take A++k.fl.drop (A+1)) z3)):=P9.keepb G9.out t9.keep
 have K10:Hid (KeepBut g w w9):=(qAc (qAa B1.out c)).trans t9.keep
 obtain⟨TB9,FB9⟩:=cy2 ((TB.out.later c).turn t9 (by omega)) ((FB.out.later c).turn t9 (by omega))
 have FW9:Hid (OwnI w9 0 fsv.v f.t.ws):=(HFW.out.keep fun _ _ hk=>c.block _ hk).past G9.out t9 (by decide)
 clear k9 t9 p P9 S3 c FLT FLD t0
 have t0:=TB9.out.cell 0
 go_wp2_with (first|(refine qAb rfl 68 _ rfl gx 0 rfl 68 _ FB9.out [.int .i64 f.to,.bool f.tk,.int .i64 f.t.c,.int .i64 f.t.r,.int .i64 f.t.q,.int .i64 f.t.a,.int .i64 f.t.b,.slice fsv.a fsv.n fsv.c,.int .i64 f.x.1,.int .i64 f.x.2.1,.int .i64 f.x.2.2.1,.string f.x.2.2.2] rfl _ Tryz.underlying68 rfl Tryz.sizeFl ?_))
 all_goals refine(hcm.out w9 z3 G10 P10 FW9).mono ?_
 all_goals rintro e wq ⟨rfl,k3,a1,a2,a3,a4⟩
 all_goals go_wp2_with fail
 all_goals go_ret
 all_goals exact⟨rfl,k3,a1,a2,a3,K10.out.trans a4⟩
theorem elDo_item(g:Nat)(k:Wv)(d at0 l:Int)(x:ByteArray)(w:World)(h:Hid (WkB w g k))(hk:Hid (WkP w k))(hl:k.ma.length≤10)(kd:Int)(hkd:kd=2∨kd=3)(A:Nat)(f:Fl)(fsv:Sv)(hA:A<k.fl.length)(hrm:Hid (Int.tmod at0 (k.fl.length:Int)=(A:Int)))(hm:Hid (k.fl[A]=(f,fsv)))(hfl:k.fl.length≤1000000)(i:Nat)(m:Mt)(v:Mv)(q0 f0 l0:Int)(tx0:ByteArray)(hi:i<k.ma.length)(hmm:Hid (k.ma[i]=(m,v)))(hat:Hid (atW (k.ma.map (·.1)) f.to=(i:Int)))(hok:Hid (m.ok=true))(hfx:Hid (f.tk=false∧f.x=(q0,f0,l0,tx0)))(hx0:tx0.size≤1048576):
  Calls Tryz.prog 87 #[.pointer (some ⟨g,0,none⟩),.agg #[.int .i64 kd,.int .i64 d,.int .i64 at0,.int .i64 l,.string x]] w fun e w'=>e=.returned (.int .i64 0)∧∃k':Wv,WkB w' g k'∧WkP w' k'∧k'.pl=catW (outW k.pl A) i m (q0,f0,l0,tx0)∧KeepBut g w w':=by
 refine qHv g k d at0 l x w h hk hl kd hkd A f fsv hA hrm hm hfl 0 _ fun w9 z3 G10 P10 FW9=>?_
 rw[hfx.out.1,hfx.out.2]
 refine(elCome_item g (k.setF (k.fl.take A++k.fl.drop (A+1)) z3) i m v f.to f.t fsv q0 f0 l0 tx0 _ G10 P10 hi hmm hat hok hl hx0).mono ?_
 rintro e w' ⟨rfl,u,z,a1,a2,a3⟩
 refine⟨rfl,_,a1,a2,?_,a3⟩
 simp only[Wv.pl,Wv.setF,Wv.setM,outW,catW,List.map_append,List.map_take,List.map_drop,List.map_set]
theorem elDo_hold(g:Nat)(k:Wv)(d at0 l:Int)(x:ByteArray)(w:World)(h:Hid (WkB w g k))(hk:Hid (WkP w k))(hl:k.ma.length≤10)(kd:Int)(hkd:kd=2∨kd=3)(A:Nat)(f:Fl)(fsv:Sv)(hA:A<k.fl.length)(hrm:Hid (Int.tmod at0 (k.fl.length:Int)=(A:Int)))(hm:Hid (k.fl[A]=(f,fsv)))(hfl:k.fl.length≤1000000)(i:Nat)(m:Mt)(v:Mv)(q0 f0 l0:Int)(tx0:ByteArray)(hi:i<k.ma.length)(hmm:Hid (k.ma[i]=(m,v)))(hat:Hid (atW (k.ma.map (·.1)) f.to=(i:Int)))(hok:Hid (m.ok=true))(hfx:Hid (f.tk=true∧f.x=(q0,f0,l0,tx0)))(hwl:f.t.ws.length≤1048576)(hmay:Hid (mayB m f.t=true))(hml:k.ms.length≤1048576)(hfl2:k.fl.length≤990000)(hsl:k.sa.length≤990000):
  Calls Tryz.prog 87 #[.pointer (some ⟨g,0,none⟩),.agg #[.int .i64 kd,.int .i64 d,.int .i64 at0,.int .i64 l,.string x]] w fun e w'=>e=.returned (.int .i64 0)∧∃k':Wv,WkB w' g k'∧WkP w' k'∧k'.pl=comeT (outW k.pl A) i f.to m f.t∧KeepBut g w w':=by
 refine qHv g k d at0 l x w h hk hl kd hkd A f fsv hA hrm hm hfl 0 _ fun w9 z3 G10 P10 FW9=>?_
 rw[hfx.out.1,hfx.out.2]
 refine(elCome_yes g (k.setF (k.fl.take A++k.fl.drop (A+1)) z3) i m v f.to f.t fsv q0 f0 l0 tx0 _ G10 P10 hi hmm hat hok hl FW9 hwl hmay hml (by simp only[Wv.setF,List.length_append,List.length_take,List.length_drop];omega) hsl).mono ?_
 rintro e w' ⟨rfl,k3,a1,a2,a3,a4⟩
 refine⟨rfl,k3,a1,a2,?_,a4⟩
 rw[a3]
 simp only[Wv.pl,Wv.setF,outW,List.map_append,List.map_take,List.map_drop]
theorem elDo_nohold(g:Nat)(k:Wv)(d at0 l:Int)(x:ByteArray)(w:World)(h:Hid (WkB w g k))(hk:Hid (WkP w k))(hl:k.ma.length≤10)(kd:Int)(hkd:kd=2∨kd=3)(A:Nat)(f:Fl)(fsv:Sv)(hA:A<k.fl.length)(hrm:Hid (Int.tmod at0 (k.fl.length:Int)=(A:Int)))(hm:Hid (k.fl[A]=(f,fsv)))(hfl:k.fl.length≤1000000)(i:Nat)(m:Mt)(v:Mv)(q0 f0 l0:Int)(tx0:ByteArray)(hi:i<k.ma.length)(hmm:Hid (k.ma[i]=(m,v)))(hat:Hid (atW (k.ma.map (·.1)) f.to=(i:Int)))(hok:Hid (m.ok=true))(hfx:Hid (f.tk=true∧f.x=(q0,f0,l0,tx0)))(hwl:f.t.ws.length≤1048576)(hmay:Hid (mayB m f.t=false)):
  Calls Tryz.prog 87 #[.pointer (some ⟨g,0,none⟩),.agg #[.int .i64 kd,.int .i64 d,.int .i64 at0,.int .i64 l,.string x]] w fun e w'=>e=.returned (.int .i64 1)∧∃k':Wv,WkB w' g k'∧WkP w' k'∧k'.pl=outW k.pl A∧KeepBut g w w':=by
 refine qHv g k d at0 l x w h hk hl kd hkd A f fsv hA hrm hm hfl 1 _ fun w9 z3 G10 P10 FW9=>?_
 rw[hfx.out.1,hfx.out.2]
 refine(elCome_no g (k.setF (k.fl.take A++k.fl.drop (A+1)) z3) i m v f.to f.t fsv q0 f0 l0 tx0 _ G10 P10 hi hmm hat hok hl FW9 hwl hmay).mono ?_
 rintro e w' ⟨rfl,bq⟩
 refine⟨rfl,_,G10.out.later bq,P10.out.below bq,?_,qAc bq⟩
 simp only[Wv.pl,Wv.setF,outW,List.map_append,List.map_take,List.map_drop]
def itR(x:It):Bool:=itB x.1 x.2.1 x.2.2.1 x.2.2.2
structure WI (n:Nat) (p:Wp):Prop where
 ring:qAy p.rid p.ms=true
 ids:p.ma.map (·.id)=p.ms
 ok: ∀m∈p.ma,m.ok=true
 fly: ∀f∈p.fl,f.to∈p.ms∧f.t.ws.length≤20∧f.x.2.2.2.size≤60
 he:p.he.length=p.ma.length
 hel: ∀l∈p.he,l.length≤60 * n
 fll:p.fl.length≤1+1000 * n
 sal:p.sa.length≤63 * n
 sai: ∀x∈p.sa,itR x=true
section
variable {n : Nat} {p : Wp}
theorem qKv{ms:List Mt}{i:Nat}{m:Mt}(hi:i<ms.length)(hm:m.id=ms[i].id):(ms.set i m).map (·.id)=ms.map (·.id):=by
 rw[List.map_set,hm]
 apply List.ext_getElem
 ·simp
 ·intro j h1 h2
  rw[List.getElem_set]
  split
  ·rename_i e;subst e;simp
  ·rfl
theorem ok_set{ms:List Mt}{i:Nat}{m:Mt}(h: ∀x∈ms,x.ok=true)(hm:m.ok=true): ∀x∈ms.set i m,x.ok=true:=fun x hx=>by
 rcases List.mem_or_eq_of_mem_set hx with hx|rfl
 ·exact h x hx
 ·exact hm
theorem WI.more(h:WI n p):WI (n+1) p:=⟨h.ring,h.ids,h.ok,h.fly,h.he,fun l hl=>by have:=h.hel l hl;omega,by have:=h.fll;omega,by have:=h.sal;omega,h.sai⟩
theorem WI.say(h:WI n p){i:Nat}(hi:i<p.ma.length){l:Int}{x:ByteArray}(hs:qGa p.ma[i] l x=true):WI (n+1) (sayW p i p.ma[i] l x):=by
 have g:=h.more
 exact⟨g.ring,(qKv (m:=sayM p.ma[i] l x) hi rfl).trans g.ids,ok_set g.ok (say_right hs),g.fly,by show p.he.length=(p.ma.set _ _).length;rw[List.length_set];exact g.he,g.hel,g.fll,g.sal,g.sai⟩
theorem WI.cat(h:WI n p){i:Nat}(hi:i<p.ma.length)(y:It):WI n (catW p i p.ma[i] y):=
 ⟨h.ring,(qKv (m:=(p.ma[i]).cat y) hi rfl).trans h.ids,ok_set h.ok (cat_right (h.ok _ (List.getElem_mem hi)) y),h.fly,by show p.he.length=(p.ma.set _ _).length;rw[List.length_set];exact h.he,h.hel,h.fll,h.sal,h.sai⟩
theorem WI.out(h:WI n p)(A:Nat):WI n (outW p A):=
 ⟨h.ring,h.ids,h.ok,fun f hf=>by
  rcases List.mem_append.1 hf with hf|hf
  ·exact h.fly f (List.mem_of_mem_take hf)
  ·exact h.fly f (List.mem_of_mem_drop hf),h.he,h.hel,by show(p.fl.take A++p.fl.drop (A+1)).length≤_;have:=h.fll;rw[List.length_append,List.length_take,List.length_drop];omega,h.sal,h.sai⟩
theorem WI.twice(h:WI n p){f:Fl}(hf:f∈p.fl):WI (n+1) (qHc p f):=by
 have g:=h.more
 refine⟨g.ring,g.ids,g.ok,fun x hx=>?_,g.he,g.hel,by show(p.fl++[f]).length≤_;have:=h.fll;rw[List.length_append];simp;omega,g.sal,g.sai⟩
 rcases List.mem_append.1 hx with hx|hx
 ·exact g.fly x hx
 ·simp at hx;subst hx;exact g.fly x hf
theorem hear_short{m:Mt}(h:m.ok=true):m.hear.length≤60:=by
 obtain⟨_,_,hIg,_,_,_,_,hHe,_⟩:=qAs h
 have h1:=qEm m.its m.li ((aruP m.its:Int) - m.he).toNat m.he
 have h2:=aru_60 hIg
 unfold Mt.hear
 omega
theorem WI.hear(h:WI n p){i:Nat}(hi:i<p.ma.length):WI (n+1) (hearW p i p.ma[i]):=by
 have g:=h.more
 have hok:=h.ok _ (List.getElem_mem hi)
 refine⟨g.ring,(qKv (m:=(p.ma[i]).hadH) hi rfl).trans g.ids,ok_set g.ok (had_right hok),g.fly,by show(p.he.set _ _).length=(p.ma.set _ _).length;rw[List.length_set,List.length_set];exact g.he,fun l hl=>?_,g.fll,g.sal,g.sai⟩
 rcases List.mem_or_eq_of_mem_set hl with hl|rfl
 ·exact g.hel l hl
 ·rw[List.length_append]
  have h1:=hear_short hok
  have h2:(p.he.getD i []).length≤60 * n:=by
   have hih:i<p.he.length:=by rw[h.he];exact hi
   rw[List.getD_eq_getElem?_getD,List.getElem?_eq_getElem hih]
   exact h.hel _ (List.getElem_mem hih)
  omega
theorem its_size{m:Mt}(h:m.ok=true){x:It}(hx:x∈m.its):x.2.2.2.size≤60∧itR x=true:=by
 have h1:=((qEb m.its 0 (qAs h).2.2.1).2 x hx).2
 refine⟨?_,h1⟩
 unfold itB at h1
 simp only[Bool.and_eq_true,decide_eq_true_eq]at h1
 omega
theorem qFj{m:Mt}{t:Tok}(h:m.ok=true){x:It}(hx:x∈qBa m t):x.2.2.2.size≤60∧itR x=true:=by
 obtain⟨j,hj,rfl⟩:=List.mem_iff_getElem.1 hx
 unfold qBa at hj⊢
 cases htk:tkB t.c t.r t.q t.a t.b t.ws with
 |false=>rw[numL_bad htk]at hj;simp at hj
 |true=>
  have hq:=(qCq (num_right (f:=m.id) (lv:=m.lv) (tx:=m.tx) htk)).2.2.1.2
  unfold numQ at hq
  have hq0:=(qCq htk).2.2.1.1
  obtain⟨h2,e⟩:=qKr hj
  obtain⟨h1,Ag,_,hs,_,_,_,_,_⟩:=qAs h
  have hd:1≤m.id∧m.id≤5:=(qAq h1).2.2.1 _ (by simpa [inB] using Ag)
  unfold sayB at hs
  simp only[Bool.and_eq_true,decide_eq_true_eq]at hs
  have hx:=qFw.1 hs.2.2.2 _ (List.getElem_mem h2)
  rw[e]
  refine⟨hx,?_⟩
  show itB (t.q+(j:Int)+1) m.id (lvP m.lv j) m.tx[j]=true
  have hlv:lvP m.lv j=1∨lvP m.lv j=2:=by unfold lvP;split<;>simp
  unfold itB
  simp only[Bool.and_eq_true,decide_eq_true_eq]
  rcases hlv with hlv|hlv<;>rw[hlv]<;>omega
theorem qJi{m:Mt}{t:Tok}(h:m.ok=true){x:It}(hx:x∈qDd m t):x.2.2.2.size≤60∧itR x=true:=by
 rcases List.mem_append.1 hx with hx|hx
 ·exact its_size h (List.mem_filter.1 hx).1
 ·exact qFj h hx
theorem tell_fly{ms:List Mt}{d:Int}{its:List It}(hi: ∀x∈its,x.2.2.2.size≤60){f:Fl}(hf:f∈(qCh ms d its).map (·.1)):f.to∈ms.map (·.id)∧f.t.ws.length≤20∧f.x.2.2.2.size≤60:=by
 obtain⟨e,he,rfl⟩:=List.mem_map.1 hf
 obtain⟨x,hx,hx2⟩:=List.mem_flatMap.1 he
 unfold qDq at hx2
 obtain⟨m,hm,rfl⟩:=List.mem_map.1 hx2
 exact⟨List.mem_map.2 ⟨m,(List.mem_filter.1 hm).1,rfl⟩,by simp[zTok],hi x hx⟩
theorem next_mem{i:Int}{ms:List Int}{d:Int}(hr:qAy i ms=true)(hd:d∈ms):qCw i ms d∈ms:=by
 unfold qCw
 rw[if_pos hr]
 have h0:=(qAq hr).2.1
 cases hx:ms.findIdx? (fun x=>x==d)with
 |none=>have:=List.findIdx?_eq_none_iff.1 hx d hd;simp at this
 |some k=>
  show ms.getD ((k+1) % ms.length) 0∈ms
  rw[List.getD_eq_getElem?_getD,List.getElem?_eq_getElem (Nat.mod_lt _ h0)]
  exact List.getElem_mem _
theorem WI.few(h:WI n p):p.ma.length≤5:=by
 have h1:=(qAq h.ring).2.2.2
 have h2:=congrArg List.length h.ids
 rw[List.length_map]at h2
 omega
theorem WI.id_mem(h:WI n p){i:Nat}(hi:i<p.ma.length):(p.ma[i]).id∈p.ms:=by
 rw[←h.ids];exact List.mem_map.2 ⟨_,List.getElem_mem hi,rfl⟩
theorem WI.again(h:WI n p){i:Nat}(hi:i<p.ma.length)(hb:ntB (p.ma[i]).la.c (p.ma[i]).la.r (p.ma[i]).la.q (p.ma[i]).la.a (p.ma[i]).la.b (p.ma[i]).la.ws=false):WI (n+1) (againW p p.ma[i]):=by
 have g:=h.more
 have hok:=h.ok _ (List.getElem_mem hi)
 have hw:(p.ma[i]).la.ws.length≤20:=by
  have hl:=(qAs hok).2.2.2.2.2.2.2.2
  rw[hb,Bool.false_or]at hl
  have:=(qCq hl).2.2.2.2.2
  unfold wB at this
  simp only[Bool.and_eq_true,decide_eq_true_eq]at this
  omega
 have hown: ∀x∈ownP (p.ma[i]).id (p.ma[i]).its,x.2.2.2.size≤60:=fun x hx=>(its_size hok (List.mem_filter.1 hx).1).1
 refine⟨g.ring,g.ids,g.ok,fun f hf=>?_,g.he,g.hel,?_,g.sal,g.sai⟩
 ·rcases List.mem_append.1 hf with hf|hf
  ·rcases List.mem_append.1 hf with hf|hf
   ·exact g.fly f hf
   ·simp at hf;subst hf;exact⟨next_mem h.ring (h.id_mem hi),hw,by show(ByteArray.size ⟨#[]⟩)≤60;decide⟩
  ·have:=tell_fly hown hf
   rw[h.ids]at this
   exact this
 ·show(p.fl++[(⟨qCw p.rid p.ms (p.ma[i]).id,true,(p.ma[i]).la,zIt⟩:Fl)]++(qCh p.ma (p.ma[i]).id (ownP (p.ma[i]).id (p.ma[i]).its)).map (fun e=>e.1)).length≤1+1000 * (n+1)
  have e1:=qEi p.ma (p.ma[i]).id (ownP (p.ma[i]).id (p.ma[i]).its)
  have e2:(ownP (p.ma[i]).id (p.ma[i]).its).length≤(p.ma[i]).its.length:=List.length_filter_le _ _
  have e3:=qCt (qAs hok).2.2.1
  have e4:(ownP (p.ma[i]).id (p.ma[i]).its).length * p.ma.length≤60 * 5:=Nat.mul_le_mul (by omega) h.few
  have e5:=h.fll
  rw[List.length_append,List.length_append,List.length_map]
  simp only[List.length_cons,List.length_nil]
  omega
theorem WI.come(h:WI n p){i:Nat}(hi:i<p.ma.length){t:Tok}(hm:mayB p.ma[i] t=true){d:Int}(hd:d∈p.ms):WI (n+1) (comeT p i d p.ma[i] t):=by
 have g:=h.more
 have hok:=h.ok _ (List.getElem_mem hi)
 have hids:(p.ma.set i ((p.ma[i]).sheld t)).map (·.id)=p.ms:=(qKv (m:=(p.ma[i]).sheld t) hi rfl).trans h.ids
 have hsl:=said_len hok t
 refine⟨g.ring,hids,ok_set g.ok (qJv hok hm),fun f hf=>?_,by show p.he.length=(p.ma.set _ _).length;rw[List.length_set];exact g.he,g.hel,?_,?_,fun x hx=>?_⟩
 ·rcases List.mem_append.1 hf with hf|hf
  ·rcases List.mem_append.1 hf with hf|hf
   ·exact g.fly f hf
   ·have:=tell_fly (fun x hx=>(qJi hok hx).1) hf
    rw[hids]at this
    exact this
  ·simp at hf;subst hf;exact⟨next_mem h.ring hd,qEt _ _ _,by show(ByteArray.size ⟨#[]⟩)≤60;decide⟩
 ·show(p.fl++(qCh (p.ma.set i ((p.ma[i]).sheld t)) d (qDd p.ma[i] t)).map (fun e=>e.1)++[(⟨qCw p.rid p.ms d,true,sTok p.ma[i] t,zIt⟩:Fl)]).length≤1+1000 * (n+1)
  have e1:=qEi (p.ma.set i ((p.ma[i]).sheld t)) d (qDd p.ma[i] t)
  rw[List.length_set]at e1
  have e4:(qDd p.ma[i] t).length * p.ma.length≤63 * 5:=Nat.mul_le_mul hsl h.few
  have e5:=h.fll
  rw[List.length_append,List.length_append,List.length_map]
  simp only[List.length_cons,List.length_nil]
  omega
 ·show(p.sa++newQ t (qDd p.ma[i] t)).length≤_
  have e1:=newQ_len t (qDd p.ma[i] t)
  have e2:=h.sal
  rw[List.length_append]
  omega
 ·rcases List.mem_append.1 hx with hx|hx
  ·exact g.sai x hx
  ·exact(qJi hok (List.mem_filter.1 hx).1).2
end
def TokW(ms:List Int)(R:Nat)(Q:Int)(d:Int)(t:Tok):Prop:=∃r:Nat,t.r=(r:Int)∧1≤r∧r≤R∧(r=R→t.q=Q)∧t.q≤Q∧ms[(r - 1) % ms.length]? =some d
structure DI (p:Wp) (R:Nat) (Q:Int):Prop where
 tok: ∀f∈p.fl,f.tk=true→TokW p.ms R Q f.to f.t
 it: ∀f∈p.fl,f.tk=false→f.x.1≤Q
 its: ∀m∈p.ma,∀x∈m.its,x.1≤Q
 la: ∀m∈p.ma,ntB m.la.c m.la.r m.la.q m.la.a m.la.b m.la.ws=false→TokW p.ms R Q (qCw p.rid p.ms m.id) m.la
 nz: ∀f∈p.fl,∀x∈f.t.ws,1≤x
 rd: ∀(r:Nat) (m:Mt),1≤r→r<R→p.ma[(r - 1) % p.ms.length]? =some m→(r:Int)≤m.rd
def Deep(p:Wp):Prop:=∃R Q,0≤Q∧DI p R Q
section
variable {p : Wp} {R : Nat} {Q : Int}
theorem tk_nz{c r q a b:Int}{ws:List Int}(h:tkB c r q a b ws=true): ∀x∈ws,1≤x:=by
 have h2:=(qCq h).2.2.2.2.2
 unfold wB at h2
 simp only[Bool.and_eq_true,decide_eq_true_eq]at h2
 intro x hx
 have:=((wGo_pw ws 0 q h2.2).1 x hx).1
 omega
theorem nt_nz{c r q a b:Int}{ws:List Int}(h:ntB c r q a b ws=true): ∀x∈ws,1≤x:=by
 unfold ntB at h
 simp only[Bool.and_eq_true,beq_iff_eq]at h
 have:ws=[]:=List.eq_nil_of_length_eq_zero (by omega)
 subst this
 intro x hx
 cases hx
theorem la_nz{m:Mt}(h:m.ok=true): ∀x∈m.la.ws,1≤x:=by
 have hl:=(qAs h).2.2.2.2.2.2.2.2
 rw[Bool.or_eq_true]at hl
 rcases hl with hl|hl
 ·exact nt_nz hl
 ·exact tk_nz hl
theorem TokW.up{ms:List Int}{d:Int}{t:Tok}(h:TokW ms R Q d t){Q':Int}(hQ:Q≤Q'):TokW ms (R+1) Q' d t:=by
 obtain⟨r,h1,h2,h3,h4,h5,h6⟩:=h
 exact⟨r,h1,h2,by omega,fun e=>by omega,by omega,h6⟩
theorem qKk{ms:List Mt}{i:Nat}{m' x:Mt}(hx:x∈ms.set i m'):x∈ms∨x=m':=List.mem_or_eq_of_mem_set hx
theorem DI.same(h:DI p R Q){i:Nat}(hi:i<p.ma.length){m':Mt}(h1: ∀x∈m'.its,x.1≤Q)(h2:m'.la=(p.ma[i]).la)(h3:m'.rd=(p.ma[i]).rd)(h4:m'.id=(p.ma[i]).id)(he:List (List It))(sa:List It):DI ⟨p.rid,p.ms,p.ma.set i m',p.fl,he,sa⟩ R Q:=by
 refine⟨h.tok,h.it,fun m hm=>?_,fun m hm hn=>?_,h.nz,fun r m hr hR hm=>?_⟩
 ·rcases qKk hm with hm|rfl
  ·exact h.its m hm
  ·exact h1
 ·rcases qKk hm with hm|rfl
  ·exact h.la m hm hn
  ·have:=h.la _ (List.getElem_mem hi)
   rw[←h2,←h4]at this
   exact this hn
 ·have hm':(p.ma.set i m')[(r - 1) % p.ms.length]? =some m:=hm
  rw[List.getElem?_set]at hm'
  split at hm'
  ·rename_i e
   simp[hi]at hm'
   subst hm'
   rw[h3]
   exact h.rd r _ hr hR (by rw[←e];exact List.getElem?_eq_getElem hi)
  ·exact h.rd r m hr hR hm'
theorem Deep.say(h:Deep p){i:Nat}(hi:i<p.ma.length)(l:Int)(x:ByteArray):Deep (sayW p i p.ma[i] l x):=by
 obtain⟨R,Q,h0,h⟩:=h
 exact⟨R,Q,h0,h.same (m':=sayM p.ma[i] l x) hi (fun x hx=>h.its p.ma[i] (List.getElem_mem hi) x hx) rfl rfl rfl _ _⟩
theorem Deep.hear(h:Deep p){i:Nat}(hi:i<p.ma.length):Deep (hearW p i p.ma[i]):=by
 obtain⟨R,Q,h0,h⟩:=h
 exact⟨R,Q,h0,h.same (m':=(p.ma[i]).hadH) hi (fun x hx=>h.its p.ma[i] (List.getElem_mem hi) x hx) rfl rfl rfl _ _⟩
theorem putP_in{ts:List It}{y x:It}(h:x∈putP ts y):x∈ts∨x=y:=by
 unfold putP at h
 split at h
 ·exact ins1_in h
 ·exact .inl h
theorem DI.cat(h:DI p R Q){i:Nat}(hi:i<p.ma.length)(hok:(p.ma[i]).ok=true){y:It}(hy:y.1≤Q):DI (catW p i p.ma[i] y) R Q:=by
 have e:(p.ma[i]).cat y=_:=cat_yes hok
 refine h.same (m':=(p.ma[i]).cat y) hi ?_ (by rw[e];rfl) (by rw[e];rfl) (by rw[e];rfl) _ _
 rw[e]
 intro x hx
 rcases putP_in hx with hx|rfl
 ·exact h.its _ (List.getElem_mem hi) x hx
 ·exact hy
theorem DI.out(h:DI p R Q)(A:Nat):DI (outW p A) R Q:=by
 have hm: ∀f∈(outW p A).fl,f∈p.fl:=fun f hf=>by
  rcases List.mem_append.1 hf with hf|hf
  ·exact List.mem_of_mem_take hf
  ·exact List.mem_of_mem_drop hf
 exact⟨fun f hf=>h.tok f (hm f hf),fun f hf=>h.it f (hm f hf),h.its,h.la,fun f hf=>h.nz f (hm f hf),h.rd⟩
theorem Deep.out(h:Deep p)(A:Nat):Deep (outW p A):=by
 obtain⟨R,Q,h0,h⟩:=h
 exact⟨R,Q,h0,h.out A⟩
theorem Deep.twice(h:Deep p){f:Fl}(hf:f∈p.fl):Deep (qHc p f):=by
 obtain⟨R,Q,h0,h⟩:=h
 have hm: ∀x∈(qHc p f).fl,x∈p.fl:=fun x hx=>by
  rcases List.mem_append.1 hx with hx|hx
  ·exact hx
  ·simp at hx;subst hx;exact hf
 exact⟨R,Q,h0,⟨fun f hf=>h.tok f (hm f hf),fun f hf=>h.it f (hm f hf),h.its,h.la,fun f hf=>h.nz f (hm f hf),h.rd⟩⟩
theorem qFm{ms:List Mt}{d:Int}{its:List It}{f:Fl}(hf:f∈(qCh ms d its).map (·.1)):f.tk=false∧f.x∈its:=by
 obtain⟨e,he,rfl⟩:=List.mem_map.1 hf
 obtain⟨x,hx,hx2⟩:=List.mem_flatMap.1 he
 unfold qDq at hx2
 obtain⟨m,hm,rfl⟩:=List.mem_map.1 hx2
 exact⟨rfl,hx⟩
theorem tell_ws{ms:List Mt}{d:Int}{its:List It}{f:Fl}(hf:f∈(qCh ms d its).map (·.1)):f.t.ws=[]:=by
 obtain⟨e,he,rfl⟩:=List.mem_map.1 hf
 obtain⟨x,hx,hx2⟩:=List.mem_flatMap.1 he
 unfold qDq at hx2
 obtain⟨m,hm,rfl⟩:=List.mem_map.1 hx2
 rfl
theorem Deep.again{n:Nat}(h:Deep p)(I:WI n p){i:Nat}(hi:i<p.ma.length)(hb:ntB (p.ma[i]).la.c (p.ma[i]).la.r (p.ma[i]).la.q (p.ma[i]).la.a (p.ma[i]).la.b (p.ma[i]).la.ws=false):Deep (againW p p.ma[i]):=by
 obtain⟨R,Q,h0,h⟩:=h
 refine⟨R,Q,h0,⟨fun f hf hk=>?_,fun f hf hk=>?_,h.its,h.la,fun f hf=>?_,h.rd⟩⟩
 ·rcases List.mem_append.1 hf with hf|hf
  ·rcases List.mem_append.1 hf with hf|hf
   ·exact h.tok f hf hk
   ·simp at hf;subst hf;exact h.la _ (List.getElem_mem hi) hb
  ·have:=(qFm hf).1
   rw[hk]at this
   cases this
 ·rcases List.mem_append.1 hf with hf|hf
  ·rcases List.mem_append.1 hf with hf|hf
   ·exact h.it f hf hk
   ·simp at hf;subst hf;cases hk
  ·exact h.its _ (List.getElem_mem hi) _ (List.mem_filter.1 (qFm hf).2).1
 ·rcases List.mem_append.1 hf with hf|hf
  ·rcases List.mem_append.1 hf with hf|hf
   ·exact h.nz f hf
   ·simp at hf;subst hf;exact la_nz (I.ok _ (List.getElem_mem hi))
  ·rw[tell_ws hf];intro x hx;cases hx
theorem fold_in: ∀(L ts:List It) (x:It),x∈L.foldl putP ts→x∈ts∨x∈L
 | [],ts,x,h=>.inl h
 |y::L,ts,x,h=>by
  rcases fold_in L (putP ts y) x h with h|h
  ·rcases putP_in h with h|rfl
   ·exact .inl h
   ·exact .inr (List.mem_cons_self ..)
  ·exact .inr (List.mem_cons_of_mem _ h)
theorem qHs{m:Mt}{t:Tok}{x:It}(hx:x∈qBa m t):t.q<x.1∧x.1≤nxQ m t:=by
 obtain⟨j,hj,rfl⟩:=List.mem_iff_getElem.1 hx
 obtain⟨h2,e⟩:=qKr (c:=t.c) (r:=t.r) (q:=t.q) (a:=t.a) (b:=t.b) (ws:=t.ws) (f:=m.id) (lv:=m.lv) (tx:=m.tx) hj
 have e2:(qBa m t)[j]=(t.q+(j:Int)+1,m.id,lvP m.lv j,m.tx[j]):=e
 rw[e2]
 have hj2:j<(numL t.c t.r t.q t.a t.b t.ws m.id m.lv m.tx).length:=hj
 unfold nxQ numQ
 exact⟨by show t.q<t.q+(j:Int)+1;omega,by show t.q+(j:Int)+1≤_;omega⟩
theorem nxQ_ge(m:Mt)(t:Tok):t.q≤nxQ m t:=by unfold nxQ numQ;omega
theorem ids_at{n:Nat}(I:WI n p){i:Nat}(hi:i<p.ma.length): ∃h2:i<p.ms.length,p.ms[i]=(p.ma[i]).id:=by
 have h2:i<p.ms.length:=by rw[←I.ids,List.length_map];exact hi
 refine⟨h2,?_⟩
 have:(p.ma.map (·.id))[i]'(by rw[List.length_map];exact hi)=p.ms[i]:=by simp only[I.ids]
 rw[←this,List.getElem_map]
theorem DI.latest{n:Nat}(h:DI p R Q)(I:WI n p){i:Nat}(hi:i<p.ma.length){t:Tok}(ht:TokW p.ms R Q (p.ma[i]).id t)(hm:mayB p.ma[i] t=true):t.r=(R:Int)∧t.q=Q∧1≤R∧(R - 1) % p.ms.length=i:=by
 obtain⟨r,h1,h2,h3,h4,h5,h6⟩:=ht
 obtain⟨hi2,e⟩:=ids_at I hi
 have hpos:0<p.ms.length:=(qAq I.ring).2.1
 have hk:(r - 1) % p.ms.length<p.ms.length:=Nat.mod_lt _ hpos
 rw[List.getElem?_eq_getElem hk]at h6
 have h6':p.ms[(r - 1) % p.ms.length]=p.ms[i]:=by rw[e];exact Option.some.inj h6
 have hpw:=(wGo_pw p.ms 0 5 (ring_len I.ring).2.2.2).2
 have hki:(r - 1) % p.ms.length=i:=by
  by_cases hlt:(r - 1) % p.ms.length<i
  ·have:=List.pairwise_iff_getElem.1 hpw _ i hk hi2 hlt
   rw[h6']at this
   omega
  ·by_cases hgt:i<(r - 1) % p.ms.length
   ·have:=List.pairwise_iff_getElem.1 hpw i _ hi2 hk hgt
    rw[h6']at this
    omega
   ·omega
 unfold mayB at hm
 simp only[Bool.and_eq_true,decide_eq_true_eq]at hm
 have hrR:r=R:=by
  by_cases hlt:r<R
  ·have:=h.rd r _ h2 hlt (by rw[hki];exact List.getElem?_eq_getElem hi)
   omega
  ·omega
 subst hrR
 exact⟨h1,h4 rfl,h2,hki⟩
theorem DI.come{n:Nat}(h:DI p R Q)(I:WI n p){i:Nat}(hi:i<p.ma.length){t:Tok}(ht:TokW p.ms R Q (p.ma[i]).id t)(hm:mayB p.ma[i] t=true):DI (comeT p i (p.ma[i]).id p.ma[i] t) (R+1) (nxQ p.ma[i] t):=by
 obtain⟨e1,e2,e3,e4⟩:=h.latest I hi ht hm
 obtain⟨hi2,ei⟩:=ids_at I hi
 have hq:=nxQ_ge p.ma[i] t
 have hQ:Q≤nxQ p.ma[i] t:=by omega
 have hpos:0<p.ms.length:=(qAq I.ring).2.1
 have hnew:TokW p.ms (R+1) (nxQ p.ma[i] t) (qCw p.rid p.ms (p.ma[i]).id) (sTok p.ma[i] t):=by
  refine⟨R+1,by show t.r+1=_;rw[e1];omega,by omega,Nat.le_refl _,fun _=>rfl,Int.le_refl _,?_⟩
  have hk:(R+1 - 1) % p.ms.length<p.ms.length:=Nat.mod_lt _ hpos
  rw[List.getElem?_eq_getElem hk,←ei,ring_next I.ring hi2]
  have:(i+1) % p.ms.length=(R+1 - 1) % p.ms.length:=by rw[←e4,Nat.mod_add_mod];congr 1;omega
  simp only[this]
 have hits: ∀x∈sIts p.ma[i] t,x.1≤nxQ p.ma[i] t:=fun x hx=>by
  rcases fold_in _ _ x hx with hx|hx
  ·have:=h.its _ (List.getElem_mem hi) x hx;omega
  ·exact(qHs hx).2
 refine⟨fun f hf hk=>?_,fun f hf hk=>?_,fun m hm2=>?_,fun m hm2 hn=>?_,fun f hf=>?_,fun r m hr hR hm2=>?_⟩
 ·rcases List.mem_append.1 hf with hf|hf
  ·rcases List.mem_append.1 hf with hf|hf
   ·exact(h.tok f hf hk).up hQ
   ·have:=(qFm hf).1
    rw[hk]at this
    cases this
  ·simp at hf;subst hf;exact hnew
 ·rcases List.mem_append.1 hf with hf|hf
  ·rcases List.mem_append.1 hf with hf|hf
   ·have:=h.it f hf hk;omega
   ·have hx:=(qFm hf).2
    rcases List.mem_append.1 hx with hx|hx
    ·have:=h.its _ (List.getElem_mem hi) _ (List.mem_filter.1 hx).1;omega
    ·exact(qHs hx).2
  ·simp at hf;subst hf;cases hk
 ·rcases qKk hm2 with hm2|rfl
  ·intro x hx;have:=h.its m hm2 x hx;omega
  ·exact hits
 ·rcases qKk hm2 with hm2|rfl
  ·exact(h.la m hm2 hn).up hQ
  ·exact hnew
 ·rcases List.mem_append.1 hf with hf|hf
  ·rcases List.mem_append.1 hf with hf|hf
   ·exact h.nz f hf
   ·rw[tell_ws hf];intro x hx;cases hx
  ·simp at hf;subst hf;exact tk_nz (qGb (I.ok _ (List.getElem_mem hi)) hm)
 ·have hm':(p.ma.set i ((p.ma[i]).sheld t))[(r - 1) % p.ms.length]? =some m:=hm2
  rw[List.getElem?_set]at hm'
  split at hm'
  ·rename_i e
   simp[hi]at hm'
   subst hm'
   show(r:Int)≤t.r
   omega
  ·rename_i e
   by_cases hrR:r=R
   ·subst hrR;exact absurd e4.symm e
   ·exact h.rd r m hr (by omega) hm'
end
theorem newM_right{d i:Int}{ms:List Int}(hr:qAy i ms=true)(hd:d∈ms):(newM d i ms).ok=true:=
 ok_of (m:=newM d i ms) hr (inB_mem hd) rfl rfl ⟨by show(0:Int)≤0;omega,by show(0:Int)≤_;omega⟩ ⟨by show(0:Int)≤0;omega,by show(0:Int)≤_;omega⟩ ⟨by show(0:Int)≤0;omega,by show(0:Int)≤_;omega⟩ ⟨by show(0:Int)≤0;omega,by show(0:Int)≤_;omega⟩ rfl
structure NewWk (i:Int) (ms:List Int) (k:Wv):Prop where
 rid:k.rid=i
 mem:k.ms=ms
 nw:newW i ms ms.length k.ma k.he
 sa:k.sa=[]
 fl:k.fl.map (·.1)=[⟨ms.getD 0 0,true,⟨i,1,0,0,0,[]⟩,zIt⟩]
theorem NewWk.ma{i:Int}{ms:List Int}{k:Wv}(h:NewWk i ms k):k.pl.ma=ms.map (fun d=>newM d i ms):=by
 have:=h.nw.1
 rw[List.take_length]at this
 exact this
theorem NewWk.wi{i:Int}{ms:List Int}{k:Wv}(h:NewWk i ms k)(hr:qAy i ms=true):WI 0 k.pl:=by
 have h0:=(qAq hr).2.1
 have e1:k.pl.rid=i:=h.rid
 have e2:k.pl.ms=ms:=h.mem
 have e3:=h.ma
 have e4:k.pl.he=List.replicate ms.length []:=h.nw.2
 have e5:k.pl.fl=_:=h.fl
 have e6:k.pl.sa=[]:=h.sa
 refine⟨by rw[e1,e2];exact hr,?_,?_,?_,by rw[e4,e3];simp,?_,by rw[e5];simp,by rw[e6];simp,by rw[e6];intro x hx;cases hx⟩
 ·rw[e2,e3,List.map_map]
  exact(List.map_congr_left (fun d _=>rfl)).trans (List.map_id ms)
 ·rw[e3]
  intro m hm
  obtain⟨d,hd,rfl⟩:=List.mem_map.1 hm
  exact newM_right hr hd
 ·rw[e5,e2]
  intro f hf
  simp at hf
  subst hf
  refine⟨?_,by simp,by show(ByteArray.size ⟨#[]⟩)≤60;decide⟩
  show ms.getD 0 0∈ms
  rw[List.getD_eq_getElem?_getD,List.getElem?_eq_getElem h0]
  exact List.getElem_mem _
 ·rw[e4]
  intro l hl
  have:=List.eq_of_mem_replicate hl
  subst this
  simp
theorem NewWk.deep{i:Int}{ms:List Int}{k:Wv}(h:NewWk i ms k)(hr:qAy i ms=true):Deep k.pl:=by
 have h0:=(qAq hr).2.1
 have e2:k.pl.ms=ms:=h.mem
 have e3:=h.ma
 have e5:k.pl.fl=_:=h.fl
 refine⟨1,0,Int.le_refl _,⟨?_,?_,?_,?_,?_,fun r m h1 h2 _=>by omega⟩⟩
 ·rw[e5,e2]
  intro f hf _
  simp at hf
  subst hf
  refine⟨1,rfl,Nat.le_refl _,Nat.le_refl _,fun _=>rfl,Int.le_refl _,?_⟩
  show ms[(1 - 1) % ms.length]? =some (ms.getD 0 0)
  rw[show(1 - 1) % ms.length=0 by simp,List.getD_eq_getElem?_getD,List.getElem?_eq_getElem h0]
  rfl
 ·rw[e5]
  intro f hf hk
  simp at hf
  subst hf
  cases hk
 ·rw[e3]
  intro m hm x hx
  obtain⟨d,hd,rfl⟩:=List.mem_map.1 hm
  cases hx
 ·rw[e3]
  intro m hm hn
  obtain⟨d,hd,rfl⟩:=List.mem_map.1 hm
  cases hn
 ·rw[e5]
  intro f hf x hx
  simp at hf
  subst hf
  cases hx
theorem qHe(i:Int)(s:Sv)(ms:List Int)(w:World)(h:Hid (RI w s.v ms))(hl:ms.length≤1048576)(hr:Hid (qAy i ms=true)):
  Calls Tryz.prog 85 #[.agg #[.int .i64 i,.slice s.a s.n s.c]] w fun e w'=>∃k:Wv,e=.returned (.tuple #[.agg #[.int .i64 k.rid,.slice k.mv.a k.mv.n k.mv.c,.slice k.mav.a k.mav.n k.mav.c,.slice k.flv.a k.flv.n k.flv.c,.slice k.hev.a k.hev.n k.hev.c,.slice k.sav.a k.sav.n k.sav.c],.bool true])∧WkP w' k∧NewWk i ms k∧Below w.heap.size w w':=
 (qKg i s ms w h hl hr).mono fun e w' ⟨k,h1,h2,h3,h4,h5,h6,h7,h8⟩=>⟨k,h1,h2,⟨h4,h5,h6,h7,h8⟩,h3⟩
def DoPost(p:Wp)(g:Nat)(n:Nat)(w:World)(e:Ending)(w':World):Prop:=∃(c:Int) (k':Wv),e=.returned (.int .i64 c)∧WkB w' g k'∧WkP w' k'∧WI n k'.pl∧Deep k'.pl∧(k'.pl.rid=p.rid∧k'.pl.ms=p.ms)∧KeepBut g w w'
theorem elDo_any(g:Nat)(k:Wv)(n:Nat)(kd d at0 l:Int)(x:ByteArray)(w:World)(h:Hid (WkB w g k))(hk:Hid (WkP w k))(hI:Hid (WI n k.pl))(hD:Hid (Deep k.pl))(hn:n≤900)(hd:Hid (d∈k.ms))(h1:1≤kd)(h7:kd≤7)(ha:0≤at0)(hx:x.size≤1048576):
  Calls Tryz.prog 87 #[.pointer (some ⟨g,0,none⟩),.agg #[.int .i64 kd,.int .i64 d,.int .i64 at0,.int .i64 l,.string x]] w (DoPost k.pl g (n+1) w):=by
 have I:=hI.out
 have hfew:k.ma.length≤5:=by have:=I.few;simpa [Wv.pl] using this
 have hmsl:k.ms.length≤1048576:=by have:=(qAq I.ring).2.2.2;show k.ms.length≤_;have e:k.pl.ms=k.ms:=rfl;rw[e]at this;omega
 have hfll:k.fl.length≤990000:=by have:=I.fll;simp only[Wv.pl,List.length_map]at this;omega
 have hsal:k.sa.length≤990000:=by have:=I.sal;simp only[Wv.pl]at this;omega
 have hhe:k.he.length=k.ma.length:=by have:=I.he;simpa [Wv.pl] using this
 have hhl:Hid (∀e∈k.he,e.1.length≤1000000):=fun e he=>by have:=I.hel e.1 (List.mem_map.2 ⟨e,he,rfl⟩);omega
 have mate: ∀d,d∈k.ms→∃(i:Nat) (hi:i<k.ma.length) (m:Mt) (v:Mv),k.ma[i]=(m,v)∧atW (k.ma.map (·.1)) d=(i:Int)∧m.ok=true∧∃hi2:i<k.pl.ma.length,k.pl.ma[i]=m:=by
  intro d hd
  have hids:(k.ma.map (·.1)).map (·.id)=k.ms:=I.ids
  obtain⟨i,hi⟩:=atW_mem (ms:=k.ma.map (·.1)) (d:=d) (by rw[hids];exact hd)
  obtain⟨hk1,_⟩:=atW_at hi
  have hi2:i<k.ma.length:=by simpa using hk1
  refine⟨i,hi2,k.ma[i].1,k.ma[i].2,rfl,hi,I.ok _ (List.mem_map.2 ⟨k.ma[i],List.getElem_mem hi2,rfl⟩),hk1,?_⟩
  simp[Wv.pl]
 obtain⟨i,hi,m,v,hm,hat,hok,hi2,hpm⟩:=mate d hd.out
 by_cases e1:kd=1
 ·subst e1
  cases hs:qGa m l x with
  |true=>
   refine(elDo_say_yes g k i m v d at0 l x w h hk hi hm hat hok (by omega) hx hs).mono ?_
   rintro e w' ⟨rfl,k',a1,a2,a3,a4⟩
   refine⟨_,k',rfl,a1,a2,?_,?_,by rw[a3];exact⟨rfl,rfl⟩,a4⟩
   ·rw[a3,←hpm]
    exact I.say hi2 (by rw[hpm];exact hs)
   ·rw[a3,←hpm]
    exact hD.out.say hi2 l x
  |false=>
   refine(elDo_say_no g k i m v d at0 l x w h hk hi hm hat hok (by omega) hx hs).mono ?_
   rintro e w' ⟨rfl,b⟩
   exact⟨_,k,rfl,h.out.later b,hk.out.below b,I.more,hD.out,⟨rfl,rfl⟩,qAc b⟩
 by_cases e7:kd=7
 ·subst e7
  refine(elDo_hear g k i m v d at0 l x w h hk hi hm hat hok (by omega) hhe hhl).mono ?_
  rintro e w' ⟨rfl,k',a1,a2,a3,a4⟩
  refine⟨_,k',rfl,a1,a2,?_,?_,by rw[a3];exact⟨rfl,rfl⟩,a4⟩
  ·rw[a3,←hpm]
   exact I.hear hi2
  ·rw[a3,←hpm]
   exact hD.out.hear hi2
 by_cases e6:kd=6
 ·subst e6
  cases hb:ntB m.la.c m.la.r m.la.q m.la.a m.la.b m.la.ws with
  |true=>
   refine(qLb g k i m v d at0 l x w h hk hi hm hat hok (by omega) hb).mono ?_
   rintro e w' ⟨rfl,b⟩
   exact⟨_,k,rfl,h.out.later b,hk.out.below b,I.more,hD.out,⟨rfl,rfl⟩,qAc b⟩
  |false=>
   refine(qJc g k i m v d at0 l x w h hk hi hm hat hok (by omega) hb hmsl hfll).mono ?_
   rintro e w' ⟨rfl,k',a1,a2,a3,a4⟩
   refine⟨_,k',rfl,a1,a2,?_,?_,by rw[a3];exact⟨rfl,rfl⟩,a4⟩
   ·rw[a3,←hpm]
    exact I.again hi2 (by rw[hpm];exact hb)
   ·rw[a3,←hpm]
    exact hD.out.again I hi2 (by rw[hpm];exact hb)
 by_cases e0:k.fl.length=0
 ·refine(elDo_empty g k d at0 l x w h hk (by omega) kd (by omega) e0).mono ?_
  rintro e w' ⟨rfl,b⟩
  exact⟨_,k,rfl,h.out.later b,hk.out.below b,I.more,hD.out,⟨rfl,rfl⟩,qAc b⟩
 obtain⟨A,hA⟩: ∃A:Nat,Int.tmod at0 (k.fl.length:Int)=(A:Int):=⟨(Int.tmod at0 (k.fl.length:Int)).toNat,by have:=Int.tmod_nonneg (k.fl.length:Int) ha;omega⟩
 have hAl:A<k.fl.length:=by have:=Int.tmod_lt_of_pos at0 (show(0:Int)<(k.fl.length:Int) by omega);omega
 obtain⟨⟨f,fsv⟩,hf⟩: ∃y,k.fl[A]=y:=⟨_,rfl⟩
 have hfm:f∈k.pl.fl:=List.mem_map.2 ⟨k.fl[A],List.getElem_mem hAl,by rw[hf]⟩
 have hff:=I.fly f hfm
 by_cases e5:kd=5
 ·subst e5
  refine(elDo_twice g k d at0 l x w h hk (by omega) A f fsv hAl hA hf (by omega)).mono ?_
  rintro e w' ⟨rfl,k',a1,a2,a3,a4⟩
  refine⟨_,k',rfl,a1,a2,?_,?_,by rw[a3];exact⟨rfl,rfl⟩,a4⟩
  ·rw[a3]
   exact I.twice hfm
  ·rw[a3]
   exact hD.out.twice hfm
 by_cases e4:kd=4
 ·subst e4
  refine(elDo_lose g k d at0 l x w h hk (by omega) A f fsv hAl hA hf (by omega)).mono ?_
  rintro e w' ⟨rfl,k',a1,a2,a3,a4⟩
  refine⟨_,k',rfl,a1,a2,?_,?_,by rw[a3];exact⟨rfl,rfl⟩,a4⟩
  ·rw[a3]
   exact(I.out A).more
  ·rw[a3]
   exact hD.out.out A
 have hkd:kd=2∨kd=3:=by omega
 obtain⟨i,hi,m,v,hm,hat,hok,hi2,hpm⟩:=mate f.to hff.1
 obtain⟨⟨q0,f0,l0,t0⟩,hfx⟩: ∃y,f.x=y:=⟨_,rfl⟩
 cases htk:f.tk with
 |false=>
  refine(elDo_item g k d at0 l x w h hk (by omega) kd hkd A f fsv hAl hA hf (by omega) i m v q0 f0 l0 t0 hi hm hat hok ⟨htk,hfx⟩ (by have:=hff.2.2;rw[hfx]at this;simp at this;omega)).mono ?_
  rintro e w' ⟨rfl,k',a1,a2,a3,a4⟩
  refine⟨_,k',rfl,a1,a2,?_,?_,by rw[a3];exact⟨rfl,rfl⟩,a4⟩
  ·rw[a3,←hpm]
   exact((I.out A).cat (p:=outW k.pl A) hi2 _).more
  ·rw[a3,←hpm]
   obtain⟨R,Q,h0,D⟩:=hD.out
   exact⟨R,Q,h0,(D.out A).cat (p:=outW k.pl A) hi2 (by show(k.pl.ma[i]).ok=true;rw[hpm];exact hok) (by have:=D.it f hfm htk;rw[hfx]at this;exact this)⟩
 |true=>
  cases hmay:mayB m f.t with
  |true=>
   refine(elDo_hold g k d at0 l x w h hk (by omega) kd hkd A f fsv hAl hA hf (by omega) i m v q0 f0 l0 t0 hi hm hat hok ⟨htk,hfx⟩ (by omega) hmay hmsl hfll hsal).mono ?_
   rintro e w' ⟨rfl,k',a1,a2,a3,a4⟩
   refine⟨_,k',rfl,a1,a2,?_,?_,by rw[a3];exact⟨rfl,rfl⟩,a4⟩
   ·rw[a3,←hpm]
    exact(I.out A).come (p:=outW k.pl A) hi2 (by show mayB k.pl.ma[i] f.t=true;rw[hpm];exact hmay) hff.1
   ·have hid2:f.to=(k.pl.ma[i]'hi2).id:=by obtain⟨_,Ag⟩:=atW_at hat;exact Ag.symm
    rw[a3,←hpm,hid2]
    obtain⟨R,Q,h0,D⟩:=hD.out
    have ht:=D.tok f hfm htk
    rw[hid2]at ht
    have hm2:mayB k.pl.ma[i] f.t=true:=by rw[hpm];exact hmay
    exact⟨R+1,_,by have:=(D.latest I hi2 ht hm2).2.1;have:=nxQ_ge k.pl.ma[i] f.t;show 0≤nxQ k.pl.ma[i] f.t;omega,(D.out A).come (p:=outW k.pl A) (I.out A) hi2 ht hm2⟩
  |false=>
   refine(elDo_nohold g k d at0 l x w h hk (by omega) kd hkd A f fsv hAl hA hf (by omega) i m v q0 f0 l0 t0 hi hm hat hok ⟨htk,hfx⟩ (by omega) hmay).mono ?_
   rintro e w' ⟨rfl,k',a1,a2,a3,a4⟩
   refine⟨_,k',rfl,a1,a2,?_,?_,by rw[a3];exact⟨rfl,rfl⟩,a4⟩
   ·rw[a3]
    exact(I.out A).more
   ·rw[a3]
    exact hD.out.out A
structure Tn where
 kd:Int
 d:Int
 at0:Int
 l:Int
 x:ByteArray
def tcel(e:Tn):List Value:=[.int .i64 e.kd,.int .i64 e.d,.int .i64 e.at0,.int .i64 e.l,.string e.x]
def Tn.okR(i:Int)(ms:List Int)(e:Tn):Prop:=qDp i ms e.kd e.d e.at0 e.l e.x=true∧e.x.size≤13
theorem Tryz.infoTn:(Tryz.prog.info? 64).map (fun i=>(i.zero,i.size,i.bytes))=some (some (.agg #[.int .i64 0,.int .i64 0,.int .i64 0,.int .i64 0,.string ⟨#[]⟩]),5,48):=by kernel_rfl
theorem Tryz.sizeDn:(Tryz.prog.info? 115).map (·.size)=some 3:=by kernel_rfl
theorem Tryz.sizeTns:(Tryz.prog.info? 49).map (·.size)=some 1:=by kernel_rfl
def sizeN(n:Nat):Nat:=if 89<24+n / 4 then 89 else 24+n / 4
theorem sizeN_le(n:Nat):sizeN n≤89:=by unfold sizeN;split<;>omega
theorem elSize_any(ao:Option Addr)(n cap:Nat)(hn:n≤1048576)(w:World)(N:Nat)(hN:Hid (N=sizeN n)):Calls Tryz.prog 145 #[.slice ao n cap] w fun e w'=>e=.returned (.int .i64 (N:Int))∧w'=w:=by
 have hq:Int.tdiv (n:Int) 4=((n / 4:Nat):Int):=by rw[Int.tdiv_eq_ediv_of_nonneg (by omega)];omega
 by_cases h:89<24+n / 4
 ·have e:N=89:=by have:=hN.out;unfold sizeN at this;rw[if_pos h]at this;exact this
  subst e
  have h2:(89:Int)<24+(n:Int) / 4:=by omega
  go_enter Tryz.func145,Tryz.ntmps145
  go_wp2_with fail
  go_ret
  exact⟨rfl,rfl⟩
 ·have e:N=24+n / 4:=by have:=hN.out;unfold sizeN at this;rw[if_neg h]at this;exact this
  have h2: ¬(89:Int)<24+(n:Int) / 4:=by omega
  go_enter Tryz.func145,Tryz.ntmps145
  go_wp2_with fail
  go_ret
  exact⟨by first|rfl|(rw[e];go_num),rfl⟩
def DrPost(w0:World)(B g n cap:Nat)(ao:Option Addr)(e:Ending)(w':World):Prop:=
 ∃(i:Int) (ms:List Int) (mv ev:Sv) (es:List Tn),e=.returned (.agg #[.int .i64 i,.slice mv.a mv.n mv.c,.slice ev.a ev.n ev.c])∧qAy i ms=true∧OwnI w' 0 mv.v ms∧SlN w' 64 5 0 ev.v (es.map tcel)∧(∀e∈es,e.okR i ms)∧es.length≤89∧0<es.length∧Hid (Drw w0 w' B g ao n cap)
theorem elDraw_any(w0 w:World)(B g n cap:Nat)(ao:Option Addr)(hn:n≤1048576)(hB:B≤g)(hd:Hid (Drw w0 w B g ao n cap)):
  Calls Tryz.prog 81 #[.pointer (some ⟨g,0,none⟩),.slice ao n cap] w (DrPost w0 B g n cap ao):=by
 have zg:=hd.out.lt
 have RB:=Ag (Bx.new w 115 [.int .i64 0,.slice none 0 0,.slice none 0 0])
 have D:Hid (Drw w (w.alloc (.cells #[.int .i64 0,.slice none 0 0,.slice none 0 0] 115)) B g ao n cap):=(hd.out.here).out.alloc hB _
 obtain⟨N,hN⟩: ∃N,N=sizeN n:=⟨_,rfl⟩
 have HN:Hid (N=sizeN n):=hN
 have hN89:N≤89:=by rw[hN];exact sizeN_le n
 have hN0:0<N:=by rw[hN];unfold sizeN;split<;>omega
 clear hN
 go_enter Tryz.func81,Tryz.ntmps81
 go_wp2_with fail
 have zW:w.heap.size<(w.alloc (.cells #[.int .i64 0,.slice none 0 0,.slice none 0 0] 115)).heap.size:=RB.out.lt
 generalize (w.alloc (.cells #[.int .i64 0,.slice none 0 0,.slice none 0 0] 115))=W at *
 have DH:=D.out.here
 refine(ring_any W _ B g n cap ao hn hB DH).mono ?_
 rintro e w1 ⟨⟨i,ms,v,hr,o1,rfl⟩,DX⟩
 obtain⟨mv,hmv⟩:=o1.sv
 subst hmv
 have HRI:Hid (qAy i ms=true):=hr
 have hml:ms.length≤1048576:=by have:=(qAq hr).2.2.2;omega
 have h0:0<ms.length:=(qAq hr).2.1
 have h5:ms.length≤5:=(qAq hr).2.2.2
 obtain⟨RB,MR⟩:=cy2 (RB.out.keepb DX.out.2.2 (by omega)) (o1.down (Nat.zero_le _))
 have z1:W.heap.size≤w1.heap.size:=DX.out.2.2.size
 have D:=D.out.back DX.out
 clear DX DH o1 hr
 have hz:=Ag (Bx.new w1 115 [.int .i64 0,.slice none 0 0,.slice none 0 0])
 go_wp2_with (first|(refine qAd rfl 115 _ _ rfl w1.heap.size rfl 115 _ hz.out [.int .i64 i,.slice mv.a mv.n mv.c,.slice none 0 0] rfl rfl Tryz.sizeDn rfl ?_;intro w2 OB TB;have b:Below w1.heap.size w1 w2:=((Below.refl _ _).alloc (Nat.le_refl _) _).trans (TB.below (Nat.le_refl _));have GD:=Ag OB;clear OB TB;refine Stp.here ?_))
 refine Stp.go ?_
 obtain⟨RB,MR,D⟩:=cy3 (RB.out.later b) (ownL MR.out b) (D.out.step hB b)
 have z2:=GD.out.lt
 clear b hz
 generalize hgd:w1.heap.size=gd at *
 have zgd:W.heap.size≤gd:=by omega
 clear hgd
 go_wp2_with (first|(refine qAb rfl 26 _ rfl gd 0 rfl 115 _ GD.out [.int .i64 i,.slice mv.a mv.n mv.c] rfl _ Tryz.underlying26 rfl Tryz.sizeR ?_))
 refine(qHe i mv ms _ (show Hid (RI w2 mv.v ms)from MR.out.ri) hml HRI).mono ?_
 rintro e w3 ⟨k,rfl,P,nk,b⟩
 obtain⟨RB,GD,MR,D⟩:=cy4 (RB.out.later b) (GD.out.later b) (ownL MR.out b) (D.out.step hB b)
 have P3:Hid (WkP w3 k):=P
 have I3:Hid (WI 0 k.pl):=nk.wi HRI.out
 have E3:Hid (Deep k.pl):=nk.deep HRI.out
 have HK:Hid (k.pl.rid=i∧k.pl.ms=ms):=⟨nk.rid,nk.mem⟩
 have z3:=b.size
 clear b P nk
 have hz:=Ag (Bx.new w3 56 [.int .i64 0,.slice none 0 0,.slice none 0 0,.slice none 0 0,.slice none 0 0,.slice none 0 0])
 go_wp2_with (first|(refine qAd rfl 56 _ _ rfl w3.heap.size rfl 56 _ hz.out [.int .i64 k.rid,.slice k.mv.a k.mv.n k.mv.c,.slice k.mav.a k.mav.n k.mav.c,.slice k.flv.a k.flv.n k.flv.c,.slice k.hev.a k.hev.n k.hev.c,.slice k.sav.a k.sav.n k.sav.c] rfl rfl Tryz.sizeWk rfl ?_;intro w4 OB TB;have b:Below w3.heap.size w3 w4:=((Below.refl _ _).alloc (Nat.le_refl _) _).trans (TB.below (Nat.le_refl _));have GW:Hid (WkB w4 w3.heap.size k):=OB;clear OB TB;refine Stp.here ?_))
 refine Stp.go ?_
 obtain⟨RB,GD,MR,D,P4⟩:=cy5 (RB.out.later b) (GD.out.later b) (ownL MR.out b) (D.out.step hB b) (P3.out.below b)
 have z4:w3.heap.size<w4.heap.size:=Bx.lt GW.out
 clear b hz P3
 generalize hgw:w3.heap.size=gw at *
 have zgw:gd<gw:=by omega
 clear hgw
 go_wp2_with fail
 go_loopw [8] (fun v8 wr=>∃(j:Nat) (k:Wv) (ev:Sv) (es:List Tn),j≤N∧v8=.int .i64 (j:Int)∧Hid (Bx wr w.heap.size 115 [.int .i64 0,.slice none 0 0,.slice none 0 0])∧Hid (Bx wr gd 115 [.int .i64 i,.slice mv.a mv.n mv.c,.slice ev.a ev.n ev.c])∧Hid (WkB wr gw k)∧Hid (WkP wr k)∧Hid (WI j k.pl)∧Hid (Deep k.pl)∧Hid (k.pl.rid=i∧k.pl.ms=ms)∧Hid (OwnI wr 0 mv.v ms)∧Hid (SlN wr 64 5 W.heap.size ev.v (es.map tcel))∧Hid ((∀e∈es,e.okR i ms)∧es.length=j)∧Hid (Drw w wr B g ao n cap)∧w4.heap.size≤wr.heap.size) (fun v8 _=>N - (intOf v8).toNat)
 case atStart=>exact⟨0,k,zSv,[],Nat.zero_le _,rfl,RB,GD,GW,P4,I3,E3,HK,MR,SlN.nil _ _ _ _,⟨fun e he=>(by cases he),rfl⟩,D,Nat.le_refl _⟩
 case round=>
  clear RB GD GW P4 I3 E3 HK MR D
  obtain⟨j,k,ev,es,hj,rfl,RB,GD,GW,P,I,E,HK,MR,EV,HE,D,zwr⟩:=hrel
  have hz4:gw<wr.heap.size:=by omega
  go_wp2_with fail
  refine(elSize_any ao n cap hn wr N HN).mono ?_
  rintro e y0 ⟨rfl,rfl⟩
  generalize y0=wr at *
  by_cases hlt:j<N
  ·have hms0:0<k.ms.length:=by have e:k.ms=ms:=HK.out.2;rw[e];exact h0
   have hms5:k.ms.length≤5:=by have e:k.ms=ms:=HK.out.2;rw[e];exact h5
   have hfl:k.fl.length≤1000000:=by have:=I.out.fll;simp only[Wv.pl,List.length_map]at this;omega
   have DH:=D.out.here
   go_wp2_with fail
   refine(elNext_any wr wr B g n cap gw ao k hn hB DH GW P hms0 hms5 hfl).mono ?_
   rintro e y1 ⟨kd,d,at0,l,x,rfl,hkd,hdm,ha0,hut,hx13,DX,kb⟩
   have KT:=D.out.ty kb
   obtain⟨RB,GD⟩:=cy2 (RB.out.keepb kb (by omega)) (GD.out.keepb kb (by omega))
   have GW:Hid (WkB y1 gw k):=Bx.keepb GW.out kb (by omega)
   obtain⟨P,MR,EV⟩:=cy3 (P.out.kt KT (by decide) (by decide) (by decide) (by decide) (by decide) (by decide)) (MR.out.kt KT (by decide)) (EV.out.kt KT (by decide))
   have zy1:=kb.size
   have D:=D.out.back DX.out
   have HDM:Hid (d∈k.ms):=hdm
   have HOK:Hid (Tn.okR i ms ⟨kd,d,at0,l,x⟩):=⟨by unfold qDp;rw[HRI.out,hut,←HK.out.2,inB_mem (show d∈k.pl.ms from hdm)];simp[hkd,ha0],hx13⟩
   clear KT kb DX DH hdm hut
   have hz:=Ag (Bx.new y1 64 [.int .i64 0,.int .i64 0,.int .i64 0,.int .i64 0,.string ⟨#[]⟩])
   go_wp2_with (first|(refine qAd rfl 64 _ _ rfl y1.heap.size rfl 64 _ hz.out [.int .i64 kd,.int .i64 d,.int .i64 at0,.int .i64 l,.string x] rfl rfl Tryz.sizeTn rfl ?_;intro y2 OB TB;have b:Below y1.heap.size y1 y2:=((Below.refl _ _).alloc (Nat.le_refl _) _).trans (TB.below (Nat.le_refl _));have GT:=Ag OB;clear OB TB;refine Stp.here ?_))
   refine Stp.go ?_
   obtain⟨RB,GD,GW,P,MR,EV,D⟩:=cy7 (RB.out.later b) (GD.out.later b) (GW.out.later b) (P.out.below b) (ownL MR.out b) (EV.out.below b) (D.out.step hB b)
   have zy2:=GT.out.lt
   clear b hz
   generalize hgt:y1.heap.size=gt at *
   have zgt:gw<gt:=by omega
   have zgt2:wr.heap.size≤gt:=by omega
   clear hgt zy1
   go_wp2_with (first|(refine qAb rfl 64 _ rfl gt 0 rfl 64 _ GT.out [.int .i64 kd,.int .i64 d,.int .i64 at0,.int .i64 l,.string x] rfl _ Tryz.underlying64 rfl Tryz.sizeTn ?_))
   refine(elDo_any gw k j kd d at0 l x y2 GW P I E (by omega) HDM hkd.1 hkd.2 ha0 (by omega)).mono ?_
   rintro e y3 ⟨c,k2,rfl,gw3,p3,i3,e3,hk3,kb⟩
   obtain⟨RB,GD,GT,MR,EV⟩:=cy5 (RB.out.keepb kb (by omega)) (GD.out.keepb kb (by omega)) (GT.out.keepb kb (by omega)) (MR.out.keepb GW.out kb (by decide)) (EV.out.keepb GW.out kb (by decide))
   have zy3:=kb.size
   have D:=D.out.far kb (by omega) zg hB
   have GW:Hid (WkB y3 gw k2):=gw3
   have P:Hid (WkP y3 k2):=p3
   have I:Hid (WI (j+1) k2.pl):=i3
   have E:Hid (Deep k2.pl):=e3
   have HK2:Hid (k2.pl.rid=i∧k2.pl.ms=ms):=⟨hk3.1.trans HK.out.1,hk3.2.trans HK.out.2⟩
   clear kb gw3 p3 i3 e3 hk3 HK HDM
   have hes:(es.map tcel).length≤1048576:=by rw[List.length_map,HE.out.2];omega
   have zz3:W.heap.size≤y3.heap.size:=by omega
   go_wp2_with (first|(refine qAb rfl 64 _ rfl gt 0 rfl 64 _ GT.out [.int .i64 kd,.int .i64 d,.int .i64 at0,.int .i64 l,.string x] rfl _ Tryz.underlying64 rfl Tryz.sizeTn ?_)|(refine qAt rfl 49 _ rfl gd 2 rfl 115 _ GD.out (.slice ev.a ev.n ev.c) rfl _ Tryz.underlying49 rfl ?_)|(at_builtin;refine qDf rfl _ _ 49 rfl _ 48 Tryz.underlying49 Tryz.infoTn rfl (by decide) W.heap.size (.slice ev.a ev.n ev.c) (es.map tcel) rfl EV.out [.int .i64 kd,.int .i64 d,.int .i64 at0,.int .i64 l,.string x] rfl rfl rfl hes zz3 ?_;intro v2 y4 s2 g2 b2 _;refine Stp.here ?_))
   refine Stp.go ?_
   obtain⟨nv,hnz,_⟩:=s2.form
   subst hnz
   have KT:KeepTy (fun X=>X=64) y3 y4:=KeepTy.ofPush EV.out g2 rfl
   obtain⟨RB,GD⟩:=cy2 (RB.out.kt KT (by decide)) (GD.out.kt KT (by decide))
   have GW:Hid (WkB y4 gw k2):=Bx.kt GW.out KT (by decide)
   obtain⟨P,MR⟩:=cy2 (P.out.kt KT (by decide) (by decide) (by decide) (by decide) (by decide) (by decide)) (MR.out.kt KT (by decide))
   have EV:Hid (SlN y4 64 5 W.heap.size nv.v ((es++[Tn.mk kd d at0 l x]).map tcel)):=(by rw[List.map_append];exact s2:SlN _ _ _ _ _ _)
   have D:=D.out.push (b2.mono (by omega)) zg hB
   have zy4:=g2.size
   clear s2 g2 b2 KT GT
   go_wp2_with (first|(refine qAe rfl 49 _ _ rfl gd 2 rfl 115 _ GD.out (.slice nv.a nv.n nv.c) rfl (by simp) rfl Tryz.sizeTns [.int .i64 i,.slice mv.a mv.n mv.c,.slice nv.a nv.n nv.c] rfl ?_;intro y5 OB TB;refine Stp.here ?_))
   refine Stp.go ?_
   have KT:KeepTy (fun X=>X=115) y4 y5:=KeepTy.ofTurn GD.out TB rfl
   have RB:=Ag (RB.out.turn TB (by omega))
   have GW:Hid (WkB y5 gw k2):=Bx.kt GW.out KT (by decide)
   obtain⟨P,MR,EV⟩:=cy3 (P.out.kt KT (by decide) (by decide) (by decide) (by decide) (by decide) (by decide)) (MR.out.kt KT (by decide)) (EV.out.kt KT (by decide))
   have D:=D.out.other (by omega) TB (by omega) (by omega)
   have GD:=Ag OB
   have zy5:y4.heap.size≤y5.heap.size:=Nat.le_of_eq TB.size.symm
   have HE2:Hid ((∀e∈es++[(⟨kd,d,at0,l,x⟩:Tn)],e.okR i ms)∧(es++[(⟨kd,d,at0,l,x⟩:Tn)]).length=j+1):=⟨fun e he=>by
    rcases List.mem_append.1 he with he|he
    ·exact HE.out.1 e he
    ·simp at he;subst he;exact HOK.out,by rw[List.length_append,HE.out.2];rfl⟩
   clear OB TB KT
   go_wp2_with fail
   go_roundw
   case rel=>exact⟨j+1,k2,nv,_,by omega,by go_num,RB,GD,GW,P,I,E,HK2,MR,EV,HE2,D,by omega⟩
   case measure=>simp[intOf];omega
  ·have hd8: ¬j<N:=hlt
   go_wp2_with (first|(refine qAb rfl 115 _ rfl gd 0 rfl 115 _ GD.out [.int .i64 i,.slice mv.a mv.n mv.c,.slice ev.a ev.n ev.c] rfl _ Tryz.underlying115 rfl Tryz.sizeDn ?_)|(refine qAd rfl 115 _ _ rfl w.heap.size rfl 115 _ RB.out [.int .i64 i,.slice mv.a mv.n mv.c,.slice ev.a ev.n ev.c] rfl rfl Tryz.sizeDn rfl ?_;intro w9 OB TB;refine Stp.here ?_))
   refine Stp.go ?_
   go_wp2_with fail
   refine bodyPost_ret (qBd Tryz.results81 w.heap.size 115 [.int .i64 i,.slice mv.a mv.n mv.c,.slice ev.a ev.n ev.c] _ rfl OB Tryz.underlying115 rfl Tryz.sizeDn) rfl ?_
   have DZ:=D.out.other (by omega) TB (Nat.le_refl _) (by omega)
   have KT:KeepTy (fun X=>X=115) wr w9:=KeepTy.ofTurn RB.out TB rfl
   exact⟨i,ms,mv,ev,es,rfl,HRI.out,MR.out.kt KT (by decide),(EV.out.kt KT (by decide)).down (Nat.zero_le _),HE.out.1,by rw[HE.out.2];omega,by rw[HE.out.2];omega,hd.out.back DZ.out⟩
def OwnZ(w:World)(B:Nat)(v:Value)(xs:List Int):Prop:=
 ∃g cap cur,v=.slice (some ⟨g,0,none⟩) xs.length cap∧B≤g∧w.heap[g]? =some (.cells cur 3 (0,0))∧xs.length≤cap∧cap≤maxLen∧cur.toList=xs.map (Value.int .i64)++List.replicate (cap - xs.length) (Value.int .i64 0)
theorem OwnZ.made(w:World)(B:Nat)(h:B≤w.heap.size):OwnZ (w.alloc (.cells #[] 3)) B (.slice (some ⟨w.heap.size,0,none⟩) 0 0) []:=
 ⟨w.heap.size,0,#[],rfl,h,heap_alloc_new w _,Nat.le_refl _,by simp[maxLen],rfl⟩
theorem OwnZ.keep{w w':World}{B:Nat}{v:Value}{xs:List Int}(h:OwnZ w B v xs)(hk: ∀g,v.ownBlock=some g→g<w.heap.size→w'.heap[g]? =w.heap[g]?):OwnZ w' B v xs:=by
 obtain⟨g,cap,cur,rfl,h1,h2,h3⟩:=h
 exact⟨g,cap,cur,rfl,h1,(hk g rfl (Array.getElem?_eq_some_iff.1 h2).1).trans h2,h3⟩
theorem OwnZ.sv{w:World}{B:Nat}{v:Value}{xs:List Int}(h:OwnZ w B v xs): ∃s:Sv,v=.slice s.a s.n s.c:=by
 obtain⟨g,cap,cur,rfl,_⟩:=h
 exact⟨⟨_,_,_⟩,rfl⟩
theorem OwnZ.keepb{w w':World}{B g T:Nat}{cs:List Value}{v:Value}{xs:List Int}(h:OwnZ w B v xs)(hB:Bx w g T cs)(k:KeepBut g w w')(hT:T≠3):OwnZ w' B v xs:=by
 refine h.keep fun q hq hl=>k.block q hl fun e=>?_
 obtain⟨g',cap,cur,rfl,_,h2,_⟩:=h
 simp[Value.ownBlock]at hq
 subst hq
 subst e
 unfold Bx at hB
 rw[h2]at hB
 simp at hB
 exact hT hB.2.symm
structure ZK (B:Nat) (w w':World):Prop where
 low:Below B w w'
 ty:KeepTy (fun X=>X=3) w w'
 own: ∀(B':Nat) (v:Value) (ys:List Int),OwnI w B' v ys→(∀y∈ys,1≤y)→OwnI w' B' v ys
theorem zero_row(n:Nat):(Builtin.zeroCells (Value.int .i64 0).cells n).toList=List.replicate n (Value.int .i64 0):=by
 apply List.ext_getElem
 ·rw[Array.length_toList,size_zeroCells]
  simp[Value.cells]
 ·intro j h1 h2
  simp[Builtin.zeroCells,Value.cells,Nat.mod_one]
theorem run_pushZ{P:Program}(w:World)(t ty:TypeId)(ht:P.underlying t=some (.slice 3))(hinfo:(P.info? 3).map (fun i=>(i.zero,i.size,i.bytes))=some (some (.int .i64 0),1,8))(B:Nat)(v:Value)(xs:List Int)(hown:OwnZ w B v xs)(b:Int)(hn:xs.length<4000000)(hB:B≤w.heap.size):
  ∃v' w',(Builtin.append_ #[t,t] ty #[v,.slice (some ⟨w.heap.size,0,none⟩) 1 1]).run P (w.alloc (.cells #[.int .i64 b] 3))=.ok v' w'∧OwnZ w' B v' (xs++[b])∧ZK B w w':=by
 obtain⟨i,hi,hz,hsz,hby⟩:=info_parts hinfo
 obtain⟨g,cap,cur,rfl,h1,h2,h3,h4,h5⟩:=hown
 have hgl:g<w.heap.size:=(Array.getElem?_eq_some_iff.1 h2).1
 have hgW:(w.alloc (.cells #[.int .i64 b] 3)).heap[g]? =some (.cells cur 3 (0,0)):=(heap_alloc_old w _ hgl).trans h2
 have hnews: ∀j u,([Value.int .i64 b])[j]? =some u→(w.alloc (.cells #[.int .i64 b] 3)).cell? ((⟨w.heap.size,0,none⟩:Addr).add j)=some u:=by
  intro j u hj
  match j,hj with
  |0,hj=>simp at hj;subst hj;simp[Addr.add]
 have hcs:cur.size=cap:=by
  have:=congrArg List.length h5
  simp at this
  omega
 have hone: ∀u∈[Value.int .i64 b],u.oneCell'=true:=fun u hu=>by simp at hu;subst hu;rfl
 have hbw:=bA w (.cells #[.int .i64 b] 3)
 by_cases hroom:xs.length+1≤cap
 ·have hr:=run_append_room (P:=P) (w.alloc (.cells #[.int .i64 b] 3)) t ty 3 i ht hi g xs.length cap cur hgW ⟨w.heap.size,0,none⟩ 1 1 [.int .i64 b] (by simp[hsz]) hnews hone hroom (by simp[hsz,hcs];omega)
  rw[hsz]at hr
  refine⟨_,_,hr,⟨g,cap,_,by simp,h1,setRow_heap _ g cur _ 3 _ hgW,by simp;omega,h4,?_⟩,?_⟩
  ·rw[h5]
   have e1:(xs.map (Value.int .i64)++List.replicate (cap - xs.length) (Value.int .i64 0)).take (xs.length * 1)=xs.map (Value.int .i64):=by
    rw[Nat.mul_one]
    exact List.take_left' (by simp)
   have e2:(xs.map (Value.int .i64)++List.replicate (cap - xs.length) (Value.int .i64 0)).drop (xs.length * 1+ [Value.int .i64 b].length)=List.replicate (cap - (xs++[b]).length) (Value.int .i64 0):=by
    rw[Nat.mul_one,List.drop_append,List.drop_of_length_le (by simp),List.nil_append,List.drop_replicate]
    congr 1
    simp
    omega
   rw[e1,e2]
   simp
  ·have hlow: ∀k,k≠g→k<w.heap.size→((w.alloc (.cells #[.int .i64 b] 3)).setRow g (cur.toList.take (xs.length * 1)++[Value.int .i64 b]++cur.toList.drop (xs.length * 1+ [Value.int .i64 b].length)).toArray).heap[k]? =w.heap[k]? :=fun k hk hl=>(setRow_other _ g k _ hk).trans (heap_alloc_old w _ hl)
   refine⟨⟨rfl,rfl,rfl,by simp,fun k hk=>hlow k (by omega) (by omega)⟩,⟨rfl,rfl,rfl,by simp,fun k hk hT=>hlow k (fun e=>?_) hk⟩,fun B' u ys hu hy=>?_⟩
   ·subst e
    exact hT cur 3 (0,0) h2 rfl
   ·refine⟨hu.1,?_⟩
    rcases hu.2 with hn0|⟨g',cap',cur',rfl,hb',hg',hle',hm',hc',ht'⟩
    ·exact .inl hn0
    ·by_cases e:g'=g
     ·subst e
      rw[h2]at hg'
      simp at hg'
      subst hg'
      have hlen:ys.length≤xs.length:=by
       by_cases hlt:ys.length≤xs.length
       ·exact hlt
       ·have hx:xs.length<ys.length:=by omega
        have hc2:cur.toList[xs.length]? =some (Value.int .i64 0):=by
         rw[h5,List.getElem?_append_right (by simp),List.length_map,Nat.sub_self,List.getElem?_replicate,if_pos (by omega)]
        have hc3:(cur.toList.take (ys.length * 1))[xs.length]? =some (Value.int .i64 0):=by
         rw[List.getElem?_take,if_pos (by omega)]
         exact hc2
        rw[ht',List.getElem?_map,List.getElem?_eq_getElem hx]at hc3
        simp at hc3
        have:=hy _ (List.getElem_mem hx)
        omega
      refine .inr ⟨g',cap',_,rfl,hb',setRow_heap _ g' cur _ 3 _ hgW,hle',hm',?_,?_⟩
      ·simp
       have:=hc'
       omega
      ·rw[←ht']
       show List.take (ys.length * 1) (cur.toList.take (xs.length * 1)++[Value.int .i64 b]++cur.toList.drop (xs.length * 1+ [Value.int .i64 b].length))=_
       rw[List.append_assoc,List.take_append,List.take_take,show min (ys.length * 1) (xs.length * 1)=ys.length * 1 by omega]
       have hl1:(List.take (xs.length * 1) cur.toList).length=xs.length:=by
        have hl2:cur.toList.length=cap:=by rw[←hcs];exact Array.length_toList
        rw[List.length_take,hl2]
        omega
       have:ys.length * 1 - (List.take (xs.length * 1) cur.toList).length=0:=by
        rw[hl1]
        omega
       rw[this,List.take_zero,List.append_nil]
     ·exact .inr ⟨g',cap',cur',rfl,hb',(hlow g' e (Array.getElem?_eq_some_iff.1 hg').1).trans hg',hle',hm',hc',ht'⟩
 ·have hr:=run_append_grow (P:=P) (w.alloc (.cells #[.int .i64 b] 3)) t ty 3 i (.int .i64 0) ht hi hz ⟨g,0,none⟩ xs.length cap (xs.map (Value.int .i64)) (by simp[hsz]) (fun j u hj=>by
   have hadd:(⟨g,0,none⟩:Addr).add j=⟨g,j,none⟩:=by unfold Addr.add;split<;>simp_all
   rw[hadd,cell_of_row _ g j cur 3 (0,0) hgW]
   have hjl:j<xs.length:=by have:=(List.getElem?_eq_some_iff.1 hj).1;simpa using this
   have:cur.toList[j]? =some u:=by rw[h5,List.getElem?_append_left (by simpa using hjl)];exact hj
   simpa using this) ⟨w.heap.size,0,none⟩ 1 1 [.int .i64 b] (by simp[hsz]) hnews (by omega) (by omega) (growslice_fits (by omega) (by rw[hby];omega))
  have hlow: ∀(o:Obj) k,k<w.heap.size→((w.alloc (.cells #[.int .i64 b] 3)).drew.alloc o).heap[k]? =w.heap[k]? :=fun o k hl=>(heap_alloc_old (w.alloc (.cells #[.int .i64 b] 3)).drew o (show k<(w.alloc (.cells #[.int .i64 b] 3)).drew.heap.size by simp;omega)).trans (heap_alloc_old w _ hl)
  refine⟨_,_,hr,⟨(w.alloc (.cells #[.int .i64 b] 3)).heap.size,grownCap (w.alloc (.cells #[.int .i64 b] 3)) (xs.length+1) cap 3,_,by simp,by simp;omega,heap_alloc_new (w.alloc (.cells #[.int .i64 b] 3)).drew _,?_,?_,?_⟩,⟨⟨rfl,rfl,rfl,by simp;omega,fun k hk=>hlow _ k (by omega)⟩,⟨rfl,rfl,rfl,by simp;omega,fun k hk _=>hlow _ k hk⟩,fun B' u ys hu _=>hu.keep fun k _ hk=>hlow _ k hk⟩⟩
  ·rw[List.length_append]
   exact grownCap_ge _ _ _ _
  ·exact grownCap_le_maxLen _ _ _ _ (by unfold maxLen;omega)
  ·simp only[Array.toList_append,zero_row,List.map_append,List.length_append,List.map_cons,List.map_nil,List.length_cons,List.length_nil]
theorem wpList_pushZ{P:Program}{w:World}{ops:Array Oper}{rest:List Oper}{o:Oper}{a:Act}{Q:Exit→Act→World→Prop}
  (hgd:o.guard=none) (s x:Operand) (t:TypeId) (ho:o.op=.call {callee:=.builtin .append,args:=#[s,x],argTypes:=#[t,t]})
  (ht:P.underlying t=some (.slice 3)) (hinfo:(P.info? 3).map (fun i=>(i.zero,i.size,i.bytes))=some (some (.int .i64 0),1,8))
  (B:Nat) (v:Value) (xs:List Int) (hs:a.eval s=v) (hown:OwnZ w B v xs) (b:Int)
  (hx:a.eval x=.slice (some ⟨w.heap.size,0,none⟩) 1 1) (hn:xs.length<4000000) (hB:B≤w.heap.size)
  (h: ∀v' w',OwnZ w' B v' (xs++[b])→ZK B w w'→wpList P ops Q rest (a.put o.dst v') w'):
  wpList P ops Q (o::rest) a (w.alloc (.cells #[.int .i64 b] 3)):=
 wpList_plain hgd fun _ hK=>by
  obtain⟨v',w',hr,h2,h3⟩:=run_pushZ (P:=P) w t o.type ht hinfo B v xs hown b hn hB
  unfold Oper.wp execOp
  simp only[ho,resolve,invoke,builtin,Sem.run_bind,Sem.run_pure,Result.andThen_ok,List.map_toArray,List.map_cons,List.map_nil,hs,hx,hr]
  exact hK _ _ (h v' w' h2 h3)
theorem WkP.zk{B:Nat}{w w':World}{k:Wv}(h:WkP w k)(z:ZK B w w'){n:Nat}(I:WI n k.pl)(D:Deep k.pl):WkP w' k:=by
 have hms: ∀{i:Int} {ms:List Int},qAy i ms=true→∀y∈ms,1≤y:=fun hr y hy=>((qAq hr).2.2.1 y hy).1
 refine⟨z.own _ _ _ h.ring (hms I.ring),⟨h.ma.1.kt z.ty (by decide),fun e he=>?_⟩,⟨h.fl.1.kt z.ty (by decide),fun e he=>?_⟩,h.he.kt z.ty (by decide) (by decide),h.sa.kt z.ty (by decide)⟩
 ·have hok:e.1.ok=true:=I.ok e.1 (List.mem_map.2 ⟨e,he,rfl⟩)
  have p:=h.ma.2 e he
  have q:=qAs hok
  refine⟨z.own _ _ _ p.ms (hms q.1),p.its.kt z.ty (by decide),z.own _ _ _ p.lv ?_,p.tx.kt z.ty (by decide),z.own _ _ _ p.ws (la_nz hok)⟩
  have hs:=q.2.2.2.1
  unfold sayB at hs
  simp only[Bool.and_eq_true]at hs
  intro y hy
  have h3:=hs.2.2.1
  unfold lvsB at h3
  have:=List.all_eq_true.1 h3 y hy
  unfold lvB at this
  simp only[decide_eq_true_eq]at this
  omega
 ·obtain⟨R,Q,_,d⟩:=D
  exact z.own _ _ _ (h.fl.2 e he) (d.nz e.1 (List.mem_map.2 ⟨e,he,rfl⟩))
theorem results_btt{P:Program}{w:World}{fn:Func}{tmps:Array Value}{p q r:Tmp}{ty:TypeId}(h:fn.results= #[.cell p ty,.tmp q,.tmp r])(g T:Nat)(cs:List Value)(d:TypeDesc)(hp:tmps.getD p undef=.pointer (some ⟨g,0,none⟩))(hB:Bx w g T cs)
  (hu:P.underlying ty=some d) (hd:d.isRow=true) (hi:(P.info? ty).map (·.size)=some cs.length):(results fn tmps).run P w=.ok (.tuple #[.agg cs.toArray,tmps.getD q undef,tmps.getD r undef]) w:=by
 have hl:=run_loadVar_mid (P:=P) w g 0 ty cs d (hB.range 0 cs (by simp)) hu hd hi
 have hp':tmps[p]?.getD undef=.pointer (some ⟨g,0,none⟩):=by simpa using hp
 simp[results,h,hp',asAddr,hl]
theorem SlN.rowAt{w:World}{T size B g off n c:Nat}{rs:List (List Value)}(h:SlN w T size B (.slice (some ⟨g,off,none⟩) n c) rs){i:Nat}(hi:i<rs.length):g<w.heap.size∧w.rangeAt g (off+i * size) rs[i]:=by
 obtain⟨g',off',c',h1,h2,h3,h4⟩:=h.read hi
 simp at h1
 obtain⟨⟨rfl,rfl⟩,_,_⟩:=h1
 exact⟨h3,h4⟩
theorem WI.sizes{n:Nat}{k:Wv}(I:WI n k.pl)(hn:n≤900):WkS k:=by
 have hfew:k.ma.length≤5:=by have:=I.few;simpa [Wv.pl] using this
 have hms:k.ms.length≤5:=by have e:k.pl.ms=k.ms:=rfl;have:=(qAq I.ring).2.2.2;rw[e]at this;exact this
 have hhe:k.he.length=k.ma.length:=by have:=I.he;simpa [Wv.pl] using this
 have hfl:k.fl.length≤1+1000 * n:=by have:=I.fll;simpa [Wv.pl] using this
 have hsa:k.sa.length≤63 * n:=I.sal
 exact⟨by omega,by omega,fun e he=>qBi (I.ok e.1 (List.mem_map.2 ⟨e,he,rfl⟩)),by omega,fun e he=>by have:=(I.fly e.1 (List.mem_map.2 ⟨e,he,rfl⟩)).2.1;omega,by omega,fun e he=>by have:=I.hel e.1 (List.mem_map.2 ⟨e,he,rfl⟩);omega,by omega⟩
theorem runWork_any(i:Int)(mv:Sv)(ms:List Int)(eb eo en ec:Nat)(es:List Tn)(w:World)(h:Hid (OwnI w 0 mv.v ms))(hr:Hid (qAy i ms=true))(he:Hid (SlN w 64 5 0 (.slice (some ⟨eb,eo,none⟩) en ec) (es.map tcel)))(hen:Hid (en=es.length))(h90:en≤90)(hok:Hid (∀e∈es,e.okR i ms)):
  Calls Tryz.prog 23 #[.agg #[.int .i64 i,.slice mv.a mv.n mv.c],(.slice (some ⟨eb,eo,none⟩) en ec)] w fun e w'=>∃(k:Wv) (cv:Sv),e=.returned (.tuple #[.agg #[.int .i64 k.rid,.slice k.mv.a k.mv.n k.mv.c,.slice k.mav.a k.mav.n k.mav.c,.slice k.flv.a k.flv.n k.flv.c,.slice k.hev.a k.hev.n k.hev.c,.slice k.sav.a k.sav.n k.sav.c],.slice cv.a cv.n cv.c,.bool true])∧WkP w' k∧WI en k.pl∧Deep k.pl∧(k.pl.rid=i∧k.pl.ms=ms)∧Below w.heap.size w w':=by
 obtain⟨RA,KR,BW⟩:=en2 w 26 [.int .i64 i,.slice mv.a mv.n mv.c] 56 [.int .i64 0,.slice none 0 0,.slice none 0 0,.slice none 0 0,.slice none 0 0,.slice none 0 0]
 obtain⟨MR,EV⟩:=cy2 (ownL h.out BW.out) (he.out.below BW.out)
 have hml:ms.length≤1048576:=by have:=(qAq hr.out).2.2.2;omega
 clear h he
 go_enter Tryz.func23,Tryz.ntmps23
 go_wp2_with (first|(refine qAb rfl 26 _ rfl w.heap.size 0 rfl 26 _ RA.out [.int .i64 i,.slice mv.a mv.n mv.c] rfl _ Tryz.underlying26 rfl Tryz.sizeR ?_))
 have zW:w.heap.size+1<((w.alloc (.cells #[.int .i64 i,.slice mv.a mv.n mv.c] 26)).alloc (.cells #[.int .i64 0,.slice none 0 0,.slice none 0 0,.slice none 0 0,.slice none 0 0,.slice none 0 0] 56)).heap.size:=KR.out.lt
 generalize ((w.alloc (.cells #[.int .i64 i,.slice mv.a mv.n mv.c] 26)).alloc (.cells #[.int .i64 0,.slice none 0 0,.slice none 0 0,.slice none 0 0,.slice none 0 0,.slice none 0 0] 56))=W at *
 refine(qHe i mv ms _ (show Hid (RI W mv.v ms)from MR.out.ri) hml hr).mono ?_
 rintro e w3 ⟨k,rfl,P,nk,b⟩
 obtain⟨RA,KR,MR,EV,BW⟩:=cy5 (RA.out.later b) (KR.out.later b) (ownL MR.out b) (EV.out.below b) (qAa BW.out b)
 have P3:Hid (WkP w3 k):=P
 have I3:Hid (WI 0 k.pl):=nk.wi hr.out
 have E3:Hid (Deep k.pl):=nk.deep hr.out
 have HK:Hid (k.pl.rid=i∧k.pl.ms=ms):=⟨nk.rid,nk.mem⟩
 have z3:=b.size
 clear b P nk
 have hz:=Ag (Bx.new w3 56 [.int .i64 0,.slice none 0 0,.slice none 0 0,.slice none 0 0,.slice none 0 0,.slice none 0 0])
 go_wp2_with (first|(refine qAd rfl 56 _ _ rfl w3.heap.size rfl 56 _ hz.out [.int .i64 k.rid,.slice k.mv.a k.mv.n k.mv.c,.slice k.mav.a k.mav.n k.mav.c,.slice k.flv.a k.flv.n k.flv.c,.slice k.hev.a k.hev.n k.hev.c,.slice k.sav.a k.sav.n k.sav.c] rfl rfl Tryz.sizeWk rfl ?_;intro w4 OB TB;have b:Below w3.heap.size w3 w4:=((Below.refl _ _).alloc (Nat.le_refl _) _).trans (TB.below (Nat.le_refl _));have GW:Hid (WkB w4 w3.heap.size k):=OB;clear OB TB;refine Stp.here ?_))
 refine Stp.go ?_
 obtain⟨RA,KR,MR,EV,BW,P4⟩:=cy6 (RA.out.later b) (KR.out.later b) (ownL MR.out b) (EV.out.below b) (qAa BW.out b) (P3.out.below b)
 have z4:w3.heap.size<w4.heap.size:=Bx.lt GW.out
 clear b hz P3
 generalize hgw:w3.heap.size=gw at *
 have zgw:w.heap.size+1<gw:=by omega
 clear hgw
 have i90:(en:Int)≤90:=by omega
 go_wp2_with fail
 go_loopw [8,9] (fun v8 v9 wr=>∃(j:Nat),j≤en∧v8=.bool true∧v9=.int .i64 (j:Int)∧Hid (Below w4.heap.size w4 wr)) (fun _ v9 _=>en - (intOf v9).toNat)
 case atStart=>exact⟨0,Nat.zero_le _,rfl,rfl,Below.refl _ _⟩
 case round=>
  obtain⟨j,hj,rfl,rfl,BR⟩:=hrel
  by_cases hlt:j<en
  ·have hje:j<es.length:=by have:=hen.out;omega
   obtain⟨hbl,hrg⟩:=EV.out.rowAt (i:=j) (by simpa using hje)
   obtain⟨⟨kd,d,at0,l,x⟩,hm⟩: ∃e,es[j]=e:=⟨_,rfl⟩
   have hrg2:w4.rangeAt eb (eo+j * 5) [.int .i64 kd,.int .i64 d,.int .i64 at0,.int .i64 l,.string x]:=by have e:(es.map tcel)[j]'(by simpa using hje)=tcel es[j]:=List.getElem_map ..;rw[e,hm]at hrg;exact hrg
   have hrg3:wr.rangeAt eb (eo+j * 5) [.int .i64 kd,.int .i64 d,.int .i64 at0,.int .i64 l,.string x]:=qAk hrg2 hbl BR.out
   have HC0:Hid (wr.cell? ⟨eb,eo+j * 5,none⟩=some (.int .i64 kd)):=hrg3 0 _ rfl
   have HC1:Hid (wr.cell? ⟨eb,eo+j * 5+1,none⟩=some (.int .i64 d)):=hrg3 1 _ rfl
   have HC2:Hid (wr.cell? ⟨eb,eo+j * 5+2,none⟩=some (.int .i64 at0)):=hrg3 2 _ rfl
   have HC3:Hid (wr.cell? ⟨eb,eo+j * 5+3,none⟩=some (.int .i64 l)):=hrg3 3 _ rfl
   have HC4:Hid (wr.cell? ⟨eb,eo+j * 5+4,none⟩=some (.string x)):=hrg3 4 _ rfl
   have hokj:Tn.okR i ms ⟨kd,d,at0,l,x⟩:=by have:=hok.out es[j] (List.getElem_mem hje);rw[hm]at this;exact this
   have HT:Hid (qDp i ms kd d at0 l x=true):=hokj.1
   have hx:x.size≤1048576:=by have:=hokj.2;simp at this;omega
   have hbb:eb<wr.heap.size:=Nat.lt_of_lt_of_le hbl BR.out.size
   obtain⟨RAr,MRr⟩:=cy2 (RA.out.later BR.out) (ownL MR.out BR.out)
   have i0:(0:Int)≤(j:Int):=by omega
   have i1:(j:Int)<(en:Int):=by omega
   clear hrg hrg2 hrg3 hm hokj
   go_wp2_with fail
   refine qEk (C:=fun w'=>Below wr.heap.size wr w') (by kernel_rfl) (by kernel_rfl) (Below.refl _ _).drew ?_
   go_big_quiet_want
   refine qAh (.slice (some ⟨eb,eo,none⟩) en ec) (fun w' hw'=>by go_simp) ?_
   go_big_quiet_on
   simp only[Act.put,Ad,Ae,Af]
   go_big_quiet_want
   refine qAh (.int .i64 ((en:Int))) (fun w' hw'=>by go_simp) ?_
   go_big_quiet_on
   simp only[Act.put,Ad,Ae,Af]
   go_big_quiet_want
   refine qAh (.bool true) (fun w' hw'=>by go_simp) ?_
   go_big_quiet_on
   simp only[Act.put,Ad,Ae,Af]
   go_big_quiet_want
   refine qAh (.bool true) (fun w' hw'=>by go_simp) ?_
   go_big_quiet_on
   simp only[Act.put,Ad,Ae,Af]
   go_big_quiet_want
   refine qAh (.agg #[.int .i64 i,.slice mv.a mv.n mv.c]) (fun w' hw'=>by have r0:w'.cell? ⟨w.heap.size,0,none⟩=some (.int .i64 i):=(RAr.out.later hw').cell 0;have r1:w'.cell? ⟨w.heap.size,1,none⟩=some (.slice mv.a mv.n mv.c):=(RAr.out.later hw').cell 1;go_simp) ?_
   go_big_quiet_on
   simp only[Act.put,Ad,Ae,Af]
   go_big_quiet_want
   refine qAh (.slice (some ⟨eb,eo,none⟩) en ec) (fun w' hw'=>by go_simp) ?_
   go_big_quiet_on
   simp only[Act.put,Ad,Ae,Af]
   go_big_quiet_want
   refine qAh (.int .i64 ((j:Int))) (fun w' hw'=>by go_simp) ?_
   go_big_quiet_on
   simp only[Act.put,Ad,Ae,Af]
   go_big_quiet_want
   refine qAh (.pointer (some ⟨eb,eo+j * 5,none⟩)) (fun w' hw'=>by go_simp) ?_
   go_big_quiet_on
   simp only[Act.put,Ad,Ae,Af]
   go_big_quiet_want
   refine qAh (.agg #[.int .i64 kd,.int .i64 d,.int .i64 at0,.int .i64 l,.string x]) (fun w' hw'=>by have c0:=(hw'.cell (p:=⟨eb,eo+j * 5,none⟩) hbb).trans HC0.out;have c1:=(hw'.cell (p:=⟨eb,eo+j * 5+1,none⟩) hbb).trans HC1.out;have c2:=(hw'.cell (p:=⟨eb,eo+j * 5+2,none⟩) hbb).trans HC2.out;have c3:=(hw'.cell (p:=⟨eb,eo+j * 5+3,none⟩) hbb).trans HC3.out;have c4:=(hw'.cell (p:=⟨eb,eo+j * 5+4,none⟩) hbb).trans HC4.out;go_simp) ?_
   go_big_quiet_on
   simp only[Act.put,Ad,Ae,Af]
   go_big_quiet_want
   refine q_callB (W:=wr) (.bool true) 86 #[(.agg #[.int .i64 i,.slice mv.a mv.n mv.c]),(.agg #[.int .i64 kd,.int .i64 d,.int .i64 at0,.int .i64 l,.string x])] (fun w' hw'=>by go_simp) (fun w' hw'=>by have hq:=spTurnOk_any i (.slice mv.a mv.n mv.c) ms kd d at0 l x w' (show Hid (RI w' (.slice mv.a mv.n mv.c) ms)from(MRr.out.ri).stays hw') hml hx;rw[HT.out]at hq;exact hq) ?_
   go_big_quiet_on
   simp only[Act.put,Ad,Ae,Af]
   go_big_quiet_want
   refine qAh (.bool true) (fun w' hw'=>by go_simp) ?_
   go_big_quiet_on
   simp only[Act.put,Ad,Ae,Af]
   go_big_quiet_want
   refine qAh (.bool true) (fun w' hw'=>by go_simp) ?_
   go_big_quiet_on
   simp only[Act.put,Ad,Ae,Af]
   refine wpQuiet_nil ?_
   intro w5 hb5
   have B5:=Ag (qAa BR.out hb5)
   clear hb5 BR
   go_wp2_with fail
   go_roundw
   case rel=>exact⟨j+1,by omega,rfl,by go_num,B5⟩
   case measure=>simp[intOf];omega
  ·have hje: ¬j<en:=hlt
   have KR:=Ag (KR.out.later BR.out)
   have GW:Hid (WkB wr gw k):=GW.out.later BR.out
   obtain⟨P,EV,BW⟩:=cy3 (P4.out.below BR.out) (EV.out.below BR.out) (qAa BW.out BR.out)
   have z5:w4.heap.size≤wr.heap.size:=BR.out.size
   clear BR P4 RA MR
   generalize wr=w5 at *
   have b6:=bA w5 (.cells #[] 3)
   have OZ:Hid (OwnZ (w5.alloc (.cells #[] 3)) w5.heap.size (.slice (some ⟨w5.heap.size,0,none⟩) 0 0) []):=OwnZ.made w5 _ (Nat.le_refl _)
   obtain⟨KR,GW,P,EV,BW⟩:=cy5 (KR.out.later b6) (GW.out.later b6) (P.out.below b6) (EV.out.below b6) (qAa BW.out b6)
   have z6:w5.heap.size≤(w5.alloc (.cells #[] 3)).heap.size:=b6.size
   clear b6
   go_wp2_with fail
   generalize w5.alloc (.cells #[] 3)=w6 at *
   go_loopw [10,11] (fun v10 v11 wr=>∃(j:Nat) (k:Wv) (cv:Sv) (cs:List Int),j≤en∧v10=.slice cv.a cv.n cv.c∧v11=.int .i64 (j:Int)∧Hid (OwnZ wr w5.heap.size cv.v cs)∧cs.length≤j∧Hid (Bx wr (w.heap.size+1) 56 [.int .i64 0,.slice none 0 0,.slice none 0 0,.slice none 0 0,.slice none 0 0,.slice none 0 0])∧Hid (WkB wr gw k)∧Hid (WkP wr k)∧Hid (WI j k.pl)∧Hid (Deep k.pl)∧Hid (k.pl.rid=i∧k.pl.ms=ms)∧Hid (SlN wr 64 5 0 (.slice (some ⟨eb,eo,none⟩) en ec) (es.map tcel))∧Hid (Below w.heap.size w wr)∧w6.heap.size≤wr.heap.size) (fun _ v11 _=>en - (intOf v11).toNat)
   case atStart=>exact⟨0,k,⟨some ⟨w5.heap.size,0,none⟩,0,0⟩,[],Nat.zero_le _,rfl,rfl,OZ,Nat.le_refl _,KR,GW,P,I3,E3,HK,EV,BW,Nat.le_refl _⟩
   case round=>
    clear OZ KR GW P I3 E3 HK EV BW
    obtain⟨j,k,cv,cs,hj,rfl,rfl,OZ,hcs,KR,GW,P,I,E,HK,EV,BW,zwr⟩:=hrel
    by_cases hlt:j<en
    ·have hje:j<es.length:=by have:=hen.out;omega
     obtain⟨hbl,hrg⟩:=EV.out.rowAt (i:=j) (by simpa using hje)
     obtain⟨⟨kd,d,at0,l,x⟩,hm⟩: ∃e,es[j]=e:=⟨_,rfl⟩
     have HR:Hid (wr.rangeAt eb (eo+j * 5) [.int .i64 kd,.int .i64 d,.int .i64 at0,.int .i64 l,.string x]):=(by have e:(es.map tcel)[j]'(by simpa using hje)=tcel es[j]:=List.getElem_map ..;rw[e,hm]at hrg;exact hrg:World.rangeAt _ _ _ _)
     have hokj:Tn.okR i ms ⟨kd,d,at0,l,x⟩:=by have:=hok.out es[j] (List.getElem_mem hje);rw[hm]at this;exact this
     have hx:x.size≤1048576:=by have:=hokj.2;simp at this;omega
     have ht:=hokj.1
     unfold qDp at ht
     simp only[Bool.and_eq_true,decide_eq_true_eq]at ht
     have HDM:Hid (d∈k.ms):=(by have e:k.ms=ms:=HK.out.2;rw[e];have:=ht.2.1;simpa [inB] using this:d∈k.ms)
     have hkd:=ht.2.2.1
     have ha0:=ht.2.2.2.1
     have i0:(0:Int)≤(j:Int):=by omega
     have i1:(j:Int)<(en:Int):=by omega
     clear hrg hm hokj ht
     go_wp2_with (first|(refine qBt rfl 64 _ rfl eb (eo+j * 5) rfl [.int .i64 kd,.int .i64 d,.int .i64 at0,.int .i64 l,.string x] HR.out _ Tryz.underlying64 rfl Tryz.sizeTn ?_))
     refine(elDo_any gw k j kd d at0 l x wr GW P I E (by omega) HDM hkd.1 hkd.2 ha0 hx).mono ?_
     rintro e y3 ⟨c,k2,rfl,gw3,p3,i3,e3,hk3,kb⟩
     obtain⟨OZ,KR,EV⟩:=cy3 (OZ.out.keepb GW.out kb (by decide)) (KR.out.keepb kb (by omega)) (EV.out.keepb GW.out kb (by decide))
     have zy3:=kb.size
     have BW:=Ag (BW.out.trans (kb.below (by omega) BW.out.size))
     have GW:Hid (WkB y3 gw k2):=gw3
     have P:Hid (WkP y3 k2):=p3
     have I:Hid (WI (j+1) k2.pl):=i3
     have E:Hid (Deep k2.pl):=e3
     have HK2:Hid (k2.pl.rid=i∧k2.pl.ms=ms):=⟨hk3.1.trans HK.out.1,hk3.2.trans HK.out.2⟩
     clear kb gw3 p3 i3 e3 hk3 HK HDM HR
     have hcl:cs.length<4000000:=by omega
     have zz3:w5.heap.size≤y3.heap.size:=by omega
     go_wp2_with (first|(at_builtin;refine wpList_pushZ rfl _ _ 24 rfl Tryz.underlying24 Tryz.info3' w5.heap.size (.slice cv.a cv.n cv.c) cs rfl OZ.out c rfl hcl zz3 ?_;intro v2 y4 oz zk;refine Stp.here ?_))
     refine Stp.go ?_
     obtain⟨nv,hnv⟩:=oz.sv
     subst hnv
     have OZ:Hid (OwnZ y4 w5.heap.size nv.v (cs++[c])):=oz
     obtain⟨KR,EV⟩:=cy2 (KR.out.kt zk.ty (by decide)) (EV.out.kt zk.ty (by decide))
     have GW:Hid (WkB y4 gw k2):=Bx.kt GW.out zk.ty (by decide)
     have P:Hid (WkP y4 k2):=P.out.zk zk I.out E.out
     have zy4:y3.heap.size≤y4.heap.size:=zk.low.size
     have BW:=Ag (BW.out.trans (zk.low.mono (by omega)))
     clear oz zk
     go_wp2_with fail
     go_roundw
     case rel=>exact⟨j+1,k2,nv,_,by omega,rfl,by go_num,OZ,by simp;omega,KR,GW,P,I,E,HK2,EV,BW,by omega⟩
     case measure=>simp[intOf];omega
    ·have hje: ¬j<en:=hlt
     have hjn:j=en:=by omega
     have IS:Hid (WkS k):=I.out.sizes (by omega)
     have IE:Hid (WI en k.pl):=(hjn ▸ I.out:WI en k.pl)
     clear hjn
     go_wp2_with (first|(refine qAb rfl 56 _ rfl gw 0 rfl 56 _ GW.out [.int .i64 k.rid,.slice k.mv.a k.mv.n k.mv.c,.slice k.mav.a k.mav.n k.mav.c,.slice k.flv.a k.flv.n k.flv.c,.slice k.hev.a k.hev.n k.hev.c,.slice k.sav.a k.sav.n k.sav.c] rfl _ Tryz.underlying56 rfl Tryz.sizeWk ?_))
     refine(elCopy_any k wr P IS).mono ?_
     rintro e y5 ⟨k2,rfl,p5,e5,b⟩
     obtain⟨KR,BW⟩:=cy2 (KR.out.later b) (qAa BW.out b)
     have P5:Hid (WkP y5 k2):=p5
     have E5:Hid (k2.pl=k.pl):=e5
     clear b p5 e5 P GW OZ EV
     go_wp2_with (first|(refine qAd rfl 56 _ _ rfl (w.heap.size+1) rfl 56 _ KR.out [.int .i64 k2.rid,.slice k2.mv.a k2.mv.n k2.mv.c,.slice k2.mav.a k2.mav.n k2.mav.c,.slice k2.flv.a k2.flv.n k2.flv.c,.slice k2.hev.a k2.hev.n k2.hev.c,.slice k2.sav.a k2.sav.n k2.sav.c] rfl rfl Tryz.sizeWk rfl ?_;intro w9 OB TB;refine Stp.here ?_))
     refine Stp.go ?_
     go_wp2_with fail
     refine bodyPost_ret (results_btt Tryz.results23 (w.heap.size+1) 56 [.int .i64 k2.rid,.slice k2.mv.a k2.mv.n k2.mv.c,.slice k2.mav.a k2.mav.n k2.mav.c,.slice k2.flv.a k2.flv.n k2.flv.c,.slice k2.hev.a k2.hev.n k2.hev.c,.slice k2.sav.a k2.sav.n k2.sav.c] _ rfl OB Tryz.underlying56 rfl Tryz.sizeWk) rfl ?_
     exact⟨k2,cv,rfl,P5.out.keepb KR.out TB.keep,by rw[E5.out];exact IE.out,by rw[E5.out];exact E.out,by rw[E5.out];exact HK.out,BW.out.trans (TB.below (by omega))⟩
def WoPost(w0:World)(B g n cap:Nat)(ao:Option Addr)(e:Ending)(w':World):Prop:=
 ∃(k:Wv) (N:Nat),e=.returned (.agg #[.int .i64 k.rid,.slice k.mv.a k.mv.n k.mv.c,.slice k.mav.a k.mav.n k.mav.c,.slice k.flv.a k.flv.n k.flv.c,.slice k.hev.a k.hev.n k.hev.c,.slice k.sav.a k.sav.n k.sav.c])∧WkP w' k∧WI N k.pl∧N≤90∧Deep k.pl∧Hid (Drw w0 w' B g ao n cap)
theorem elWorld_any(w0 w:World)(B g n cap:Nat)(ao:Option Addr)(hn:n≤1048576)(hB:B≤g)(hd:Hid (Drw w0 w B g ao n cap)):
  Calls Tryz.prog 47 #[.pointer (some ⟨g,0,none⟩),.slice ao n cap] w (WoPost w0 B g n cap ao):=by
 have zg:=hd.out.lt
 have RB:=Ag (Bx.new w 56 [.int .i64 0,.slice none 0 0,.slice none 0 0,.slice none 0 0,.slice none 0 0,.slice none 0 0])
 have D:Hid (Drw w (w.alloc (.cells #[.int .i64 0,.slice none 0 0,.slice none 0 0,.slice none 0 0,.slice none 0 0,.slice none 0 0] 56)) B g ao n cap):=(hd.out.here).out.alloc hB _
 go_enter Tryz.func47,Tryz.ntmps47
 go_wp2_with fail
 have zW:w.heap.size<(w.alloc (.cells #[.int .i64 0,.slice none 0 0,.slice none 0 0,.slice none 0 0,.slice none 0 0,.slice none 0 0] 56)).heap.size:=RB.out.lt
 generalize (w.alloc (.cells #[.int .i64 0,.slice none 0 0,.slice none 0 0,.slice none 0 0,.slice none 0 0,.slice none 0 0] 56))=W at *
 have DH:=D.out.here
 refine(elDraw_any W _ B g n cap ao hn hB DH).mono ?_
 rintro e w1 ⟨i,ms,mv,ev,es,rfl,hr,o1,s1,hok,h89,h0,DX⟩
 obtain⟨eb,eo,ec,hev,_,_,_⟩:=s1.read (i:=0) (by simpa using h0)
 obtain⟨ea,en,ec'⟩:=ev
 simp only[Sv.v,Value.slice.injEq]at hev
 obtain⟨rfl,hen,rfl⟩:=hev
 have HEN:Hid (en=es.length):=(by simpa using hen:en=es.length)
 have h90:en≤90:=by have:=HEN.out;omega
 have HR:Hid (qAy i ms=true):=hr
 have HO:Hid (∀e∈es,e.okR i ms):=hok
 have RB:=Ag (RB.out.keepb DX.out.2.2 (by omega))
 have MR:Hid (OwnI w1 0 mv.v ms):=o1
 have EV:=Ag s1
 have z1:W.heap.size≤w1.heap.size:=DX.out.2.2.size
 have D:=D.out.back DX.out
 clear DX DH o1 s1 hr hok hen
 have hz:=Ag (Bx.new w1 115 [.int .i64 0,.slice none 0 0,.slice none 0 0])
 go_wp2_with (first|(refine qAd rfl 115 _ _ rfl w1.heap.size rfl 115 _ hz.out [.int .i64 i,.slice mv.a mv.n mv.c,.slice (some ⟨eb,eo,none⟩) en ec'] rfl rfl Tryz.sizeDn rfl ?_;intro w2 OB TB;have b:Below w1.heap.size w1 w2:=((Below.refl _ _).alloc (Nat.le_refl _) _).trans (TB.below (Nat.le_refl _));have GD:=Ag OB;clear OB TB;refine Stp.here ?_))
 refine Stp.go ?_
 obtain⟨RB,MR,EV,D⟩:=cy4 (RB.out.later b) (ownL MR.out b) (EV.out.below b) (D.out.step hB b)
 have z2:=GD.out.lt
 clear b hz
 generalize hgd:w1.heap.size=gd at *
 have zgd:W.heap.size≤gd:=by omega
 clear hgd
 go_wp2_with (first|(refine qAb rfl 26 _ rfl gd 0 rfl 115 _ GD.out [.int .i64 i,.slice mv.a mv.n mv.c] rfl _ Tryz.underlying26 rfl Tryz.sizeR ?_)|(refine qAt rfl 49 _ rfl gd 2 rfl 115 _ GD.out (.slice (some ⟨eb,eo,none⟩) en ec') rfl _ Tryz.underlying49 rfl ?_))
 refine(runWork_any i mv ms eb eo en ec' es _ MR HR EV HEN h90 HO).mono ?_
 rintro e w3 ⟨k,cv,rfl,p3,i3,e3,_,b⟩
 obtain⟨RB,D⟩:=cy2 (RB.out.later b) (D.out.step hB b)
 have P:Hid (WkP w3 k):=p3
 have I:Hid (WI en k.pl):=i3
 have E:Hid (Deep k.pl):=e3
 have z3:=b.size
 clear b p3 i3 e3 MR EV GD
 have hz:=Ag (Bx.new w3 56 [.int .i64 0,.slice none 0 0,.slice none 0 0,.slice none 0 0,.slice none 0 0,.slice none 0 0])
 go_wp2_with (first|(refine qAd rfl 56 _ _ rfl w3.heap.size rfl 56 _ hz.out [.int .i64 k.rid,.slice k.mv.a k.mv.n k.mv.c,.slice k.mav.a k.mav.n k.mav.c,.slice k.flv.a k.flv.n k.flv.c,.slice k.hev.a k.hev.n k.hev.c,.slice k.sav.a k.sav.n k.sav.c] rfl rfl Tryz.sizeWk rfl ?_;intro w4 OB TB;have b:Below w3.heap.size w3 w4:=((Below.refl _ _).alloc (Nat.le_refl _) _).trans (TB.below (Nat.le_refl _));have GW:=Ag OB;clear OB TB;refine Stp.here ?_))
 refine Stp.go ?_
 obtain⟨RB,D,P⟩:=cy3 (RB.out.later b) (D.out.step hB b) (P.out.below b)
 clear b hz
 generalize w3.heap.size=gw at *
 go_wp2_with (first|(refine qAb rfl 56 _ rfl gw 0 rfl 56 _ GW.out [.int .i64 k.rid,.slice k.mv.a k.mv.n k.mv.c,.slice k.mav.a k.mav.n k.mav.c,.slice k.flv.a k.flv.n k.flv.c,.slice k.hev.a k.hev.n k.hev.c,.slice k.sav.a k.sav.n k.sav.c] rfl _ Tryz.underlying56 rfl Tryz.sizeWk ?_)|(refine qAd rfl 56 _ _ rfl w.heap.size rfl 56 _ RB.out [.int .i64 k.rid,.slice k.mv.a k.mv.n k.mv.c,.slice k.mav.a k.mav.n k.mav.c,.slice k.flv.a k.flv.n k.flv.c,.slice k.hev.a k.hev.n k.hev.c,.slice k.sav.a k.sav.n k.sav.c] rfl rfl Tryz.sizeWk rfl ?_;intro w9 OB TB;refine Stp.here ?_))
 refine Stp.go ?_
 go_wp2_with fail
 refine bodyPost_ret (qBd Tryz.results47 w.heap.size 56 [.int .i64 k.rid,.slice k.mv.a k.mv.n k.mv.c,.slice k.mav.a k.mav.n k.mav.c,.slice k.flv.a k.flv.n k.flv.c,.slice k.hev.a k.hev.n k.hev.c,.slice k.sav.a k.sav.n k.sav.c] _ rfl OB Tryz.underlying56 rfl Tryz.sizeWk) rfl ?_
 have DZ:=D.out.other (by omega) TB (Nat.le_refl _) (by omega)
 exact⟨k,en,rfl,P.out.keepb RB.out TB.keep,I.out,h90,E.out,hd.out.back DZ.out⟩
end Go.Proofs.YthdjkkiegecgnaaGreat
