/- Joined texts: CDm1 CHlp CHon CLho. -/
import Derived.Test.YthdjkkiegecgnaaGreatOq26
import Derived.Test.YthdjkkiegecgnaaGreatOq13
import Derived.Test.YthdjkkiegecgnaaGreatOq27
import Derived.Test.YthdjkkiegecgnaaGreatOq22
import Derived.Test.YthdjkkiegecgnaaGreatOq24
import Derived.Test.YthdjkkiegecgnaaGreatOq5
import Derived.Test.YthdjkkiegecgnaaGreatOq10
set_option maxRecDepth 100000
set_option maxHeartbeats 16000000
namespace Go.Proofs.YthdjkkiegecgnaaGreat
open Go.RowKit Pl
set_option linter.unusedSimpArgs false
set_option linter.unusedVariables false
theorem qJj{P:Program}{w:World}{fn:Func}{tmps:Array Value}{p p2:Tmp}{ty ty2:TypeId}(h:fn.results= #[.cell p ty,.cell p2 ty2])(g T:Nat)(cs:List Value)(d:TypeDesc)(hp:tmps.getD p undef=.pointer (some ⟨g,0,none⟩))(hB:Bx w g T cs)
  (hu:P.underlying ty=some d) (hd:d.isRow=true) (hi:(P.info? ty).map (·.size)=some cs.length) (g2 T2:Nat) (cs2:List Value) (d2:TypeDesc) (hp2:tmps.getD p2 undef=.pointer (some ⟨g2,0,none⟩)) (hB2:Bx w g2 T2 cs2)
  (hu2:P.underlying ty2=some d2) (hd2:d2.isRow=true) (hi2:(P.info? ty2).map (·.size)=some cs2.length):(results fn tmps).run P w=.ok (.tuple #[.agg cs.toArray,.agg cs2.toArray]) w:=by
 have hl:=run_loadVar_mid (P:=P) w g 0 ty cs d (hB.range 0 cs (by simp)) hu hd hi
 have hl2:=run_loadVar_mid (P:=P) w g2 0 ty2 cs2 d2 (hB2.range 0 cs2 (by simp)) hu2 hd2 hi2
 have hp':tmps[p]?.getD undef=.pointer (some ⟨g,0,none⟩):=by simpa using hp
 have hp2':tmps[p2]?.getD undef=.pointer (some ⟨g2,0,none⟩):=by simpa using hp2
 simp[results,h,hp',hp2',asAddr,hl,hl2]
def qKc(m:Mt)(t:Tok):Prop:=mayB m t=true→∀x∈m.its,x.1≤t.q
theorem dm_tok{N:Nat}{k:Wv}(I:WI N k.pl)(E:Deep k.pl){f:Fl}{fsv:Sv}(hf:(f,fsv)∈k.fl)(htk:f.tk=true){i:Nat}(hi:i<k.ma.length)(Ag:(k.ma[i]).1.id=f.to):qKc (k.ma[i]).1 f.t:=by
 obtain⟨R,Q,h0,D⟩:=E
 have ht:=D.tok f (List.mem_map.2 ⟨_,hf,rfl⟩) htk
 have hi2:i<k.pl.ma.length:=by simpa [Wv.pl] using hi
 have e:k.pl.ma[i]'hi2=(k.ma[i]).1:=by simp[Wv.pl]
 intro hm x hx
 rw[←Ag,←e]at ht
 rw[←e]at hm hx
 have:=(D.latest I hi2 ht hm).2.1
 have:=D.its _ (List.getElem_mem hi2) x hx
 omega
def DmPost(w:World)(e:Ending)(w':World):Prop:=
 ∃(m:Mt) (v:Mv) (t:Tok) (s:Sv),e=.returned (.tuple #[.agg #[.int .i64 m.id,.int .i64 m.rid,.slice v.ms.a v.ms.n v.ms.c,.slice v.its.a v.its.n v.its.c,.slice v.lv.a v.lv.n v.lv.c,.slice v.tx.a v.tx.n v.tx.c,.int .i64 m.rd,.int .i64 m.se,.int .i64 m.li,.int .i64 m.he,.int .i64 m.la.c,.int .i64 m.la.r,.int .i64 m.la.q,.int .i64 m.la.a,.int .i64 m.la.b,.slice v.ws.a v.ws.n v.ws.c],.agg #[.int .i64 t.c,.int .i64 t.r,.int .i64 t.q,.int .i64 t.a,.int .i64 t.b,.slice s.a s.n s.c]])∧MtP w' m v∧m.ok=true∧OwnI w' 0 s.v t.ws∧t.ws.length≤20∧qKc m t∧Below w.heap.size w w'
theorem drawMate_any(w:World)(n cap:Nat)(ao:Option Addr)(hn:n≤1048576)(hc:Hid (CodeAt w w.heap.size ao n)):
  Calls Tryz.prog 10 #[.slice ao n cap] w (DmPost w):=by
 obtain⟨RM,RT,BW⟩:=en2 w 32 [.int .i64 0,.int .i64 0,.slice none 0 0,.slice none 0 0,.slice none 0 0,.slice none 0 0,.int .i64 0,.int .i64 0,.int .i64 0,.int .i64 0,.int .i64 0,.int .i64 0,.int .i64 0,.int .i64 0,.int .i64 0,.slice none 0 0] 30 [.int .i64 0,.int .i64 0,.int .i64 0,.int .i64 0,.int .i64 0,.slice none 0 0]
 have CD:Hid (CodeAt ((w.alloc (.cells #[.int .i64 0,.int .i64 0,.slice none 0 0,.slice none 0 0,.slice none 0 0,.slice none 0 0,.int .i64 0,.int .i64 0,.int .i64 0,.int .i64 0,.int .i64 0,.int .i64 0,.int .i64 0,.int .i64 0,.int .i64 0,.slice none 0 0] 32)).alloc (.cells #[.int .i64 0,.int .i64 0,.int .i64 0,.int .i64 0,.int .i64 0,.slice none 0 0] 30)) ((w.alloc (.cells #[.int .i64 0,.int .i64 0,.slice none 0 0,.slice none 0 0,.slice none 0 0,.slice none 0 0,.int .i64 0,.int .i64 0,.int .i64 0,.int .i64 0,.int .i64 0,.int .i64 0,.int .i64 0,.int .i64 0,.int .i64 0,.slice none 0 0] 32)).alloc (.cells #[.int .i64 0,.int .i64 0,.int .i64 0,.int .i64 0,.int .i64 0,.slice none 0 0] 30)).heap.size ao n):=code_upR (hc.out.stays BW.out (Nat.le_refl _)) BW.out.size
 have CD0:=Ag (hc.out.stays BW.out (Nat.le_refl _))
 clear hc
 go_enter Tryz.func10,Tryz.ntmps10
 go_wp2_with fail
 have zW:w.heap.size+1<((w.alloc (.cells #[.int .i64 0,.int .i64 0,.slice none 0 0,.slice none 0 0,.slice none 0 0,.slice none 0 0,.int .i64 0,.int .i64 0,.int .i64 0,.int .i64 0,.int .i64 0,.int .i64 0,.int .i64 0,.int .i64 0,.int .i64 0,.slice none 0 0] 32)).alloc (.cells #[.int .i64 0,.int .i64 0,.int .i64 0,.int .i64 0,.int .i64 0,.slice none 0 0] 30)).heap.size:=RT.out.lt
 generalize ((w.alloc (.cells #[.int .i64 0,.int .i64 0,.slice none 0 0,.slice none 0 0,.slice none 0 0,.slice none 0 0,.int .i64 0,.int .i64 0,.int .i64 0,.int .i64 0,.int .i64 0,.int .i64 0,.int .i64 0,.int .i64 0,.int .i64 0,.slice none 0 0] 32)).alloc (.cells #[.int .i64 0,.int .i64 0,.int .i64 0,.int .i64 0,.int .i64 0,.slice none 0 0] 30))=W at *
 refine(new_any W n cap ao hn CD).mono ?_
 rintro e w1 ⟨rfl,cu,b,hs1⟩
 obtain⟨RM,RT,BW⟩:=cy3 (RM.out.later b) (RT.out.later b) (qAa BW.out b)
 have D:Hid (Drw w1 w1 w.heap.size W.heap.size ao n cap):=Drw.start cu.out (CD0.out.stays b (by omega))
 have z1:W.heap.size<w1.heap.size:=by omega
 clear cu b hs1 CD CD0
 generalize hg:W.heap.size=g at *
 have hBg:w.heap.size≤g:=by omega
 clear hg
 go_wp2_with fail
 refine(elWorld_any w1 _ w.heap.size g n cap ao hn hBg D).mono ?_
 rintro e w2 ⟨k,N,rfl,p2,i2,hN,e2,D2⟩
 obtain⟨RM,RT⟩:=cy2 (RM.out.keepb D2.out.2.2 (by omega)) (RT.out.keepb D2.out.2.2 (by omega))
 have P:Hid (WkP w2 k):=p2
 have I:Hid (WI N k.pl):=i2
 have E:Hid (Deep k.pl):=e2
 have D:Hid (Drw w1 w2 w.heap.size g ao n cap):=D2
 have z2:w1.heap.size≤w2.heap.size:=D2.out.2.2.size
 clear p2 i2 e2 D2
 have hz:=Ag (Bx.new w2 56 [.int .i64 0,.slice none 0 0,.slice none 0 0,.slice none 0 0,.slice none 0 0,.slice none 0 0])
 go_wp2_with (first|(refine qAd rfl 56 _ _ rfl w2.heap.size rfl 56 _ hz.out [.int .i64 k.rid,.slice k.mv.a k.mv.n k.mv.c,.slice k.mav.a k.mav.n k.mav.c,.slice k.flv.a k.flv.n k.flv.c,.slice k.hev.a k.hev.n k.hev.c,.slice k.sav.a k.sav.n k.sav.c] rfl rfl Tryz.sizeWk rfl ?_;intro w4 OB TB;have b:Below w2.heap.size w2 w4:=((Below.refl _ _).alloc (Nat.le_refl _) _).trans (TB.below (Nat.le_refl _));have GW:Hid (WkB w4 w2.heap.size k):=OB;clear OB TB;refine Stp.here ?_))
 refine Stp.go ?_
 obtain⟨RM,RT,P,D⟩:=cy4 (RM.out.later b) (RT.out.later b) (P.out.below b) (D.out.step hBg b)
 have z4:w2.heap.size<w4.heap.size:=Bx.lt GW.out
 clear b hz
 generalize hgw:w2.heap.size=gw at *
 have zgw:g<gw:=by omega
 clear hgw
 have HFN:Hid (k.flv.n=k.fl.length):=P.out.fl.len
 have hfn:k.flv.n≤1000000:=by have h1:=HFN.out;have:=I.out.fll;simp only[Wv.pl,List.length_map]at this;omega
 have hfew:k.ma.length≤5:=by have:=I.out.few;simpa [Wv.pl] using this
 have hma0:0<k.ma.length:=by have h1:=(qAq I.out.ring).2.1;have h2:=congrArg List.length I.out.ids;rw[List.length_map]at h2;simp only[Wv.pl,List.length_map]at h1 h2;omega
 go_wp2_with fail
 go_loopw [6] (fun v6 wr=>∃(j:Nat),j≤k.flv.n∧v6=.int .i64 (j:Int)∧Hid (Bx wr w.heap.size 32 [.int .i64 0,.int .i64 0,.slice none 0 0,.slice none 0 0,.slice none 0 0,.slice none 0 0,.int .i64 0,.int .i64 0,.int .i64 0,.int .i64 0,.int .i64 0,.int .i64 0,.int .i64 0,.int .i64 0,.int .i64 0,.slice none 0 0])∧Hid (Bx wr (w.heap.size+1) 30 [.int .i64 0,.int .i64 0,.int .i64 0,.int .i64 0,.int .i64 0,.slice none 0 0])∧Hid (WkB wr gw k)∧Hid (WkP wr k)∧Hid (Drw w1 wr w.heap.size g ao n cap)∧w4.heap.size≤wr.heap.size) (fun v6 _=>k.flv.n - (intOf v6).toNat)
 case atStart=>exact⟨0,Nat.zero_le _,rfl,RM,RT,GW,P,D,Nat.le_refl _⟩
 case round=>
  clear RM RT GW P D
  obtain⟨j,hj,rfl,RM,RT,GW,P,D,zwr⟩:=hrel
  have gw3:=Bx.cell GW.out 3
  by_cases hlt:j<k.flv.n
  ·have hjf:j<k.fl.length:=by have:=HFN.out;omega
   obtain⟨hq1,gf,off,ha,hq2,hgl,hr⟩:=P.out.fl.row hjf
   clear hq1 hq2
   obtain⟨⟨f,fsv⟩,hm⟩: ∃e,k.fl[j]=e:=⟨_,rfl⟩
   have HFM:Hid ((f,fsv)∈k.fl):=(by rw[←hm];exact List.getElem_mem hjf:(f,fsv)∈k.fl)
   have HR:Hid (wr.rangeAt gf (off+j * 12) [.int .i64 f.to,.bool f.tk,.int .i64 f.t.c,.int .i64 f.t.r,.int .i64 f.t.q,.int .i64 f.t.a,.int .i64 f.t.b,.slice fsv.a fsv.n fsv.c,.int .i64 f.x.1,.int .i64 f.x.2.1,.int .i64 f.x.2.2.1,.string f.x.2.2.2]):=(by rw[hm]at hr;exact hr:World.rangeAt _ _ _ _)
   have HW:Hid (OwnI wr 0 fsv.v f.t.ws):=(by have:=P.out.fl.2 k.fl[j] (List.getElem_mem hjf);rw[hm]at this;exact this:OwnI _ _ _ _)
   have hto:=I.out.fly f (List.mem_map.2 ⟨_,HFM.out,rfl⟩)
   have GWa:Hid (Bx wr gw 56 [.int .i64 k.rid,.slice k.mv.a k.mv.n k.mv.c,.slice k.mav.a k.mav.n k.mav.c,.slice (some ⟨gf,off,none⟩) k.flv.n k.flv.c,.slice k.hev.a k.hev.n k.hev.c,.slice k.sav.a k.sav.n k.sav.c]):=(by have e:=GW.out;unfold WkB at e;rw[ha]at e;exact e:Bx _ _ _ _)
   have gw3a:=GWa.out.cell 3
   obtain⟨i,hati⟩:=atW_mem (ms:=k.ma.map (·.1)) (d:=f.to) (by have e:(k.ma.map (·.1)).map (·.id)=k.pl.ms:=I.out.ids;rw[e];exact hto.1)
   have HAT:Hid (atW (k.ma.map (·.1)) f.to=(i:Int)):=hati
   have hil:i<k.ma.length:=by obtain⟨h1,_⟩:=atW_at hati;simpa using h1
   have hidm:(k.ma[i]).1.id=f.to:=by obtain⟨h1,h2⟩:=atW_at hati;simpa using h2
   have hws:=hto.2.1
   have i0:(0:Int)≤(j:Int):=by omega
   have i1:(j:Int)<(k.flv.n:Int):=by omega
   have hz:=Ag (Bx.new wr 68 [.int .i64 0,.bool false,.int .i64 0,.int .i64 0,.int .i64 0,.int .i64 0,.int .i64 0,.slice none 0 0,.int .i64 0,.int .i64 0,.int .i64 0,.string ⟨#[]⟩])
   clear hr ha hm hati hto gw3
   go_wp2_with (first|(refine qBt rfl 68 _ rfl gf (off+j * 12) rfl [.int .i64 f.to,.bool f.tk,.int .i64 f.t.c,.int .i64 f.t.r,.int .i64 f.t.q,.int .i64 f.t.a,.int .i64 f.t.b,.slice fsv.a fsv.n fsv.c,.int .i64 f.x.1,.int .i64 f.x.2.1,.int .i64 f.x.2.2.1,.string f.x.2.2.2] HR.out _ Tryz.underlying68 rfl Tryz.sizeFl ?_)|(refine qAd rfl 68 _ _ rfl wr.heap.size rfl 68 _ hz.out [.int .i64 f.to,.bool f.tk,.int .i64 f.t.c,.int .i64 f.t.r,.int .i64 f.t.q,.int .i64 f.t.a,.int .i64 f.t.b,.slice fsv.a fsv.n fsv.c,.int .i64 f.x.1,.int .i64 f.x.2.1,.int .i64 f.x.2.2.1,.string f.x.2.2.2] rfl rfl Tryz.sizeFl rfl ?_;intro w5 OB TB;have b:Below wr.heap.size wr w5:=((Below.refl _ _).alloc (Nat.le_refl _) _).trans (TB.below (Nat.le_refl _));have FB:=Ag OB;clear OB TB;refine Stp.here ?_))
   refine Stp.go ?_
   obtain⟨RM,RT,GW,P,HW,D⟩:=cy6 (RM.out.later b) (RT.out.later b) (GW.out.later b) (P.out.below b) (ownL HW.out b) (D.out.step hBg b)
   have z5:=FB.out.lt
   clear b hz HR GWa gw3a
   generalize hgx:wr.heap.size=gx at *
   have zgx:gw<gx:=by omega
   have zgx4:w4.heap.size≤gx:=by omega
   clear hgx
   have f0:=FB.out.cell 0
   go_wp2_with fail
   have hq:=qCj gw k f.to _ GW P.out.ma (by omega)
   rw[HAT.out]at hq
   refine hq.mono ?_
   clear hq
   rintro e w6 ⟨rfl,b⟩
   obtain⟨RM,RT,GW,P,HW,D,FB⟩:=cy7 (RM.out.later b) (RT.out.later b) (GW.out.later b) (P.out.below b) (ownL HW.out b) (D.out.step hBg b) (FB.out.later b)
   have z6:=b.size
   clear b f0
   have f1:=FB.out.cell 1
   cases htk:f.tk with
   |false=>
    rw[htk]at f1
    clear htk
    go_wp2_with fail
    go_roundw
    case rel=>exact⟨j+1,by omega,by go_num,RM,RT,GW,P,D,by omega⟩
    case measure=>simp[intOf];omega
   |true=>
    have TF:Hid (qKc (k.ma[i]).1 f.t):=dm_tok I.out E.out HFM.out htk hil hidm
    have HTK:Hid (f.tk=true):=htk
    rw[htk]at f1
    clear htk
    have gi0:(0:Int)≤(i:Int):=by omega
    have DH:=D.out.here
    go_wp2_with (first|(go_at_call 49;refine(qKp w6 _ w.heap.size g n cap 3 ao hn hBg (by omega) (by omega) DH).mono ?_;rintro e y1 ⟨⟨bb,rfl⟩,DX⟩;refine Stp.here ?_))
    refine Stp.go ?_
    have KT:=D.out.ty DX.out.2.2
    obtain⟨RM,RT⟩:=cy2 (RM.out.keepb DX.out.2.2 (by omega)) (RT.out.keepb DX.out.2.2 (by omega))
    have GW:Hid (WkB y1 gw k):=Bx.keepb GW.out DX.out.2.2 (by omega)
    obtain⟨FB,P,HW⟩:=cy3 (FB.out.keepb DX.out.2.2 (by omega)) (P.out.kt KT (by decide) (by decide) (by decide) (by decide) (by decide) (by decide)) (HW.out.kt KT (by decide))
    have D:=D.out.back DX.out
    have zy:w6.heap.size≤y1.heap.size:=DX.out.2.2.size
    clear DX DH KT f1
    cases bb with
    |true=>
     go_wp2_with fail
     go_roundw
     case rel=>exact⟨j+1,by omega,by go_num,RM,RT,GW,P,D,by omega⟩
     case measure=>simp[intOf];omega
    |false=>
     obtain⟨hq1,gm,om,ham,hq2,hgm,hrm⟩:=P.out.ma.row hil
     obtain⟨⟨m,v⟩,hmm⟩: ∃e,k.ma[i]=e:=⟨_,rfl⟩
     have HMR:Hid (y1.rangeAt gm (om+i * 16) (mC m v)):=(by rw[hmm]at hrm;exact hrm:World.rangeAt _ _ _ _)
     have MP:Hid (MtP y1 m v):=(by have:=P.out.ma.2 k.ma[i] (List.getElem_mem hil);rw[hmm]at this;exact this:MtP _ _ _)
     have HOK:Hid (m.ok=true):=(by have:=I.out.ok (k.ma[i]).1 (List.mem_map.2 ⟨_,List.getElem_mem hil,rfl⟩);rw[hmm]at this;exact this:_=_)
     have TF:Hid (qKc m f.t):=(by have e:=TF.out;rw[hmm]at e;exact e:qKc _ _)
     have GWm:Hid (Bx y1 gw 56 [.int .i64 k.rid,.slice k.mv.a k.mv.n k.mv.c,.slice (some ⟨gm,om,none⟩) k.mav.n k.mav.c,.slice k.flv.a k.flv.n k.flv.c,.slice k.hev.a k.hev.n k.hev.c,.slice k.sav.a k.sav.n k.sav.c]):=(by have e:=GW.out;unfold WkB at e;rw[ham]at e;exact e:Bx _ _ _ _)
     have ei1:(i:Int)<(k.mav.n:Int):=by rw[hq1];omega
     clear hq1 hq2 hrm ham hmm
     go_wp2_with fail
     have bd:Below y1.heap.size y1 y1.drew:=(Below.refl _ _).drew
     obtain⟨BZ,RM,RT,GWm,FB,MP,HW,HMR⟩:=cy8 ((BW.out.trans (D.out.2.2.below hBg BW.out.size)).trans (bd.mono (by omega))) (RM.out.later bd) (RT.out.later bd) (GWm.out.later bd) (FB.out.later bd) (MP.out.later bd) (ownL HW.out bd) (qAk HMR.out hgm bd)
     refine wp_region_held_drew (S:=fun w'=>Bx w' gw 56 [.int .i64 k.rid,.slice k.mv.a k.mv.n k.mv.c,.slice (some ⟨gm,om,none⟩) k.mav.n k.mav.c,.slice k.flv.a k.flv.n k.flv.c,.slice k.hev.a k.hev.n k.hev.c,.slice k.sav.a k.sav.n k.sav.c]∧Bx w' gx 68 [.int .i64 f.to,.bool f.tk,.int .i64 f.t.c,.int .i64 f.t.r,.int .i64 f.t.q,.int .i64 f.t.a,.int .i64 f.t.b,.slice fsv.a fsv.n fsv.c,.int .i64 f.x.1,.int .i64 f.x.2.1,.int .i64 f.x.2.2.1,.string f.x.2.2.2]) (by kernel_rfl) ⟨GWm.out,FB.out⟩ (fun Ah=>?_)
     refine tkQ 0 rfl (by kernel_rfl) (by rfl) (fun _ _=>by simp only[Aa,Ab,Ac];go_simp;try with_reducible rfl) Ah ?_ fun _ _ _ h=>h
     try simp only[Act.put,Aa,Ab,Ac,Ad,Ae,Af]
     refine tkH (i:=1) (v:=_) rfl (by kernel_rfl) (fun _ _ _ h=>h) (qAf (by rfl) 52 _ rfl gw 2 rfl 56 _ (fun w hS=>hS.1) (.slice (some ⟨gm,om,none⟩) k.mav.n k.mav.c) rfl _ Tryz.underlying52 rfl) Ah ?_
     try simp only[Act.put,Aa,Ab,Ac,Ad,Ae,Af]
     refine tkQ 2 rfl (by kernel_rfl) (by rfl) (fun _ _=>by simp only[Aa,Ab,Ac];go_simp;try with_reducible rfl) Ah ?_ fun _ _ _ h=>h
     try simp only[Act.put,Aa,Ab,Ac,Ad,Ae,Af]
     refine tkQ 3 rfl (by kernel_rfl) (by rfl) (fun _ _=>by simp only[Aa,Ab,Ac];go_simp;try with_reducible rfl) Ah ?_ fun _ _ _ h=>h
     try simp only[Act.put,Aa,Ab,Ac,Ad,Ae,Af]
     refine tkQ 5 rfl (by kernel_rfl) (by rfl) (fun _ _=>by simp only[Aa,Ab,Ac];go_simp;try with_reducible rfl) Ah ?_ fun _ _ _ h=>h
     try simp only[Act.put,Aa,Ab,Ac,Ad,Ae,Af]
     refine tkH (i:=6) (v:=.agg #[.int .i64 f.t.c,.int .i64 f.t.r,.int .i64 f.t.q,.int .i64 f.t.a,.int .i64 f.t.b,.slice fsv.a fsv.n fsv.c]) rfl (by kernel_rfl) (fun _ _ _ h=>h) (qBp (by rfl) 30 _ rfl gx 2 (by rfl) 68 _ (fun w hS=>hS.2) (tX f.t.c f.t.r f.t.q f.t.a f.t.b fsv) rfl _ Tryz.underlying30 rfl Tryz.sizeT) Ah ?_
     try simp only[Act.put,Ad,Ae,Af]
     refine wpAnyH_ready (rs:=[4]) (by kernel_rfl) (by simp) ?_
     refine AllReadyH.cons (i:=4) rfl (fun K hK=>?_) AllReadyH.nil
     rw[if_pos (by rfl)]
     simp only[Aa,Ab,Ac]
     refine wp_load_mid 32 _ rfl gm (om+i * 16) (by first|rfl|go_simp) (mC m v) _ HMR.out Tryz.underlying32 rfl Tryz.sizeM ?_
     refine hK.out _ _ (⟨GWm.out,FB.out⟩) (fun Ah=>?_)
     clear hK K
     try simp only[Act.put,Aa,Ab,Ac,Ad,Ae,Af]
     refine wpAnyH_ready (rs:=[7]) (by kernel_rfl) (by simp) ?_
     refine AllReadyH.cons (i:=7) rfl (fun K hK=>?_) AllReadyH.nil
     rw[if_pos (by rfl)]
     simp only[Aa,Ab,Ac]
     refine qAm 32 _ _ rfl w.heap.size (by rfl) 32 _ RM.out (mC m v) (by rfl) rfl Tryz.sizeM rfl ?_
     intro s1 kb kt
     obtain⟨GWm,RT,MP,HW,FB,BZ,RM⟩:=cy7 (GWm.out.turn kt (by omega)) (RT.out.turn kt (by omega)) (MP.out.keepb RM.out kt.keep (by decide) (by decide) (by decide)) (HW.out.past RM.out kt (by decide)) (FB.out.turn kt (by omega)) (BZ.out.trans (kt.below (Nat.le_refl _))) kb
     refine hK.out _ _ (⟨GWm.out,FB.out⟩) (fun Ah=>?_)
     clear hK K
     try simp only[Act.put,Aa,Ab,Ac,Ad,Ae,Af]
     clear kb kt
     refine wpAnyH_ready (rs:=[8]) (by kernel_rfl) (by simp) ?_
     refine AllReadyH.cons (i:=8) rfl (fun K hK=>?_) AllReadyH.nil
     rw[if_pos (by rfl)]
     simp only[Aa,Ab,Ac]
     refine qAm 30 _ _ rfl (w.heap.size+1) (by rfl) 30 _ RT.out (tX f.t.c f.t.r f.t.q f.t.a f.t.b fsv) (by rfl) rfl Tryz.sizeT rfl ?_
     intro s2 kb kt
     obtain⟨GWm,RM,MP,HW,FB,BZ,RT⟩:=cy7 (GWm.out.turn kt (by omega)) (RM.out.turn kt (by omega)) (MP.out.keepb RT.out kt.keep (by decide) (by decide) (by decide)) (HW.out.past RT.out kt (by decide)) (FB.out.turn kt (by omega)) (BZ.out.trans (kt.below (by omega))) kb
     refine hK.out _ _ (⟨GWm.out,FB.out⟩) (fun Ah=>?_)
     clear hK K
     try simp only[Act.put,Aa,Ab,Ac,Ad,Ae,Af]
     clear kb kt
     refine wpAnyH_done (by kernel_rfl) ?_ _
     try go_wp2_with fail
     refine bodyPost_ret (qJj Tryz.results10 w.heap.size 32 (mC m v) _ rfl RM.out Tryz.underlying32 rfl Tryz.sizeM (w.heap.size+1) 30 (tX f.t.c f.t.r f.t.q f.t.a f.t.b fsv) _ rfl RT.out Tryz.underlying30 rfl Tryz.sizeT) rfl ?_
     exact⟨m,v,f.t,fsv,rfl,MP.out,HOK.out,HW.out,hws,TF.out,BZ.out⟩
  ·have hd6: ¬j<k.flv.n:=hlt
   obtain⟨hq1,gm,om,ham,hq2,hgm,hrm⟩:=P.out.ma.row hma0
   have GWm:Hid (Bx wr gw 56 [.int .i64 k.rid,.slice k.mv.a k.mv.n k.mv.c,.slice (some ⟨gm,om,none⟩) k.mav.n k.mav.c,.slice k.flv.a k.flv.n k.flv.c,.slice k.hev.a k.hev.n k.hev.c,.slice k.sav.a k.sav.n k.sav.c]):=(by have e:=GW.out;unfold WkB at e;rw[ham]at e;exact e:Bx _ _ _ _)
   have HAM:Hid (k.mav.a=some ⟨gm,om,none⟩):=ham
   have HMN:Hid (k.mav.n=k.ma.length):=hq1
   have hm0:0<k.mav.n:=by omega
   have hm5:k.mav.n≤256:=by omega
   clear hq1 hq2 hrm ham hgm
   go_wp2_with fail
   have bd:Below wr.heap.size wr wr.drew:=(Below.refl _ _).drew
   obtain⟨RM,RT,GWm,P⟩:=cy4 (RM.out.later bd) (RT.out.later bd) (GWm.out.later bd) (P.out.below bd)
   have D:Hid (Drw w1 wr.drew w.heap.size g ao n cap):=D.out.drew
   have hgw9:gw≠g:=by omega
   refine wp_region_held_drew (S:=fun w'=>Bx w' gw 56 [.int .i64 k.rid,.slice k.mv.a k.mv.n k.mv.c,.slice (some ⟨gm,om,none⟩) k.mav.n k.mav.c,.slice k.flv.a k.flv.n k.flv.c,.slice k.hev.a k.hev.n k.hev.c,.slice k.sav.a k.sav.n k.sav.c]) (by kernel_rfl) GWm.out (fun Ah=>?_)
   refine tkQ 0 rfl (by kernel_rfl) (by rfl) (fun _ _=>by simp only[Aa,Ab,Ac];go_simp;try with_reducible rfl) Ah ?_ fun _ _ _ h=>h
   try simp only[Act.put,Aa,Ab,Ac,Ad,Ae,Af]
   refine tkH (i:=1) (v:=_) rfl (by kernel_rfl) (fun _ _ _ h=>h) (qAf (by rfl) 52 _ rfl gw 2 rfl 56 _ (fun w hS=>hS) (.slice (some ⟨gm,om,none⟩) k.mav.n k.mav.c) rfl _ Tryz.underlying52 rfl) Ah ?_
   try simp only[Act.put,Aa,Ab,Ac,Ad,Ae,Af]
   refine tkQ 2 rfl (by kernel_rfl) (by rfl) (fun _ _=>by simp only[Aa,Ab,Ac];go_simp;try with_reducible rfl) Ah ?_ fun _ _ _ h=>h
   try simp only[Act.put,Aa,Ab,Ac,Ad,Ae,Af]
   refine tkQ 3 rfl (by kernel_rfl) (by rfl) (fun _ _=>by simp only[Aa,Ab,Ac];go_simp;try with_reducible rfl) Ah ?_ fun _ _ _ h=>h
   try simp only[Act.put,Aa,Ab,Ac,Ad,Ae,Af]
   refine tkH (i:=4) (v:=_) rfl (by kernel_rfl) (fun _ _ _ h=>h) (qAf (by rfl) 52 _ rfl gw 2 rfl 56 _ (fun w hS=>hS) (.slice (some ⟨gm,om,none⟩) k.mav.n k.mav.c) rfl _ Tryz.underlying52 rfl) Ah ?_
   try simp only[Act.put,Aa,Ab,Ac,Ad,Ae,Af]
   refine tkQ 5 rfl (by kernel_rfl) (by rfl) (fun _ _=>by simp only[Aa,Ab,Ac];go_simp;try with_reducible rfl) Ah ?_ fun _ _ _ h=>h
   try simp only[Act.put,Aa,Ab,Ac,Ad,Ae,Af]
   refine tkQ 9 rfl (by kernel_rfl) (by rfl) (fun _ _=>by simp only[Aa,Ab,Ac];go_simp;try with_reducible rfl) Ah ?_ fun _ _ _ h=>h
   try simp only[Act.put,Aa,Ab,Ac,Ad,Ae,Af]
   refine wpAnyH_ready (rs:=[6]) (by kernel_rfl) (by simp) ?_
   refine AllReadyH.cons (i:=6) rfl (fun K hK=>?_) AllReadyH.nil
   rw[if_pos (by rfl)]
   simp only[Aa,Ab,Ac]
   go_simp
   have DH:=D.out.here
   refine(qAw wr.drew _ w.heap.size g n cap k.mav.n ao hn hBg hm0 hm5 DH).mono ?_
   rintro e y1 ⟨⟨x,hx,rfl⟩,DX⟩
   have KT:=D.out.ty DX.out.2.2
   obtain⟨RM,RT,GWm,P⟩:=cy4 (RM.out.keepb DX.out.2.2 (by omega)) (RT.out.keepb DX.out.2.2 (by omega)) (GWm.out.keepb DX.out.2.2 hgw9) (P.out.kt KT (by decide) (by decide) (by decide) (by decide) (by decide) (by decide))
   have D:=D.out.back DX.out
   have i0:(0:Int)≤(x:Int):=by omega
   have i1:(x:Int)<(k.mav.n:Int):=by omega
   have hxl:x<k.ma.length:=by have:=HMN.out;omega
   obtain⟨_,gm2,om2,ham2,_,hgm2,hrm⟩:=P.out.ma.row hxl
   rw[HAM.out]at ham2
   simp at ham2
   obtain⟨e1,e2⟩:=ham2
   subst e1
   subst e2
   obtain⟨⟨m,v⟩,hmm⟩: ∃e,k.ma[x]=e:=⟨_,rfl⟩
   have HMR:Hid (y1.rangeAt gm (om+x * 16) (mC m v)):=(by rw[hmm]at hrm;exact hrm:World.rangeAt _ _ _ _)
   have MP:Hid (MtP y1 m v):=(by have:=P.out.ma.2 k.ma[x] (List.getElem_mem hxl);rw[hmm]at this;exact this:MtP _ _ _)
   have HOK:Hid (m.ok=true):=(by have:=I.out.ok (k.ma[x]).1 (List.mem_map.2 ⟨_,List.getElem_mem hxl,rfl⟩);rw[hmm]at this;exact this:_=_)
   have BZ:=Ag (BW.out.trans (D.out.2.2.below hBg BW.out.size))
   refine hK.out _ _ (GWm.out) (fun Ah=>?_)
   clear hK K
   try simp only[Act.put,Aa,Ab,Ac,Ad,Ae,Af]
   clear DX DH KT hrm hmm P
   refine tkQ 7 rfl (by kernel_rfl) (by rfl) (fun _ _=>by simp only[Aa,Ab,Ac];go_simp;try with_reducible rfl) Ah ?_ fun _ _ _ h=>h
   try simp only[Act.put,Aa,Ab,Ac,Ad,Ae,Af]
   refine wpAnyH_ready (rs:=[8]) (by kernel_rfl) (by simp) ?_
   refine AllReadyH.cons (i:=8) rfl (fun K hK=>?_) AllReadyH.nil
   rw[if_pos (by rfl)]
   simp only[Aa,Ab,Ac]
   refine wp_load_mid 32 _ rfl gm (om+x * 16) (by first|rfl|go_simp) (mC m v) _ HMR.out Tryz.underlying32 rfl Tryz.sizeM ?_
   refine hK.out _ _ (GWm.out) (fun Ah=>?_)
   clear hK K
   try simp only[Act.put,Aa,Ab,Ac,Ad,Ae,Af]
   refine wpAnyH_ready (rs:=[10]) (by kernel_rfl) (by simp) ?_
   refine AllReadyH.cons (i:=10) rfl (fun K hK=>?_) AllReadyH.nil
   rw[if_pos (by rfl)]
   simp only[Aa,Ab,Ac]
   refine qAm 32 _ _ rfl w.heap.size (by rfl) 32 _ RM.out (mC m v) (by rfl) rfl Tryz.sizeM rfl ?_
   intro s1 kb kt
   obtain⟨GWm,RT,MP,BZ,RM⟩:=cy5 (GWm.out.turn kt (by omega)) (RT.out.turn kt (by omega)) (MP.out.keepb RM.out kt.keep (by decide) (by decide) (by decide)) (BZ.out.trans (kt.below (Nat.le_refl _))) kb
   refine hK.out _ _ (GWm.out) (fun Ah=>?_)
   clear hK K
   try simp only[Act.put,Aa,Ab,Ac,Ad,Ae,Af]
   clear kb kt
   refine wpAnyH_ready (rs:=[11]) (by kernel_rfl) (by simp) ?_
   refine AllReadyH.cons (i:=11) rfl (fun K hK=>?_) AllReadyH.nil
   rw[if_pos (by rfl)]
   simp only[Aa,Ab,Ac]
   refine qAm 30 _ _ rfl (w.heap.size+1) (by rfl) 30 _ RT.out [.int .i64 0,.int .i64 0,.int .i64 0,.int .i64 0,.int .i64 0,.slice none 0 0] (by rfl) rfl Tryz.sizeT rfl ?_
   intro s2 kb kt
   obtain⟨GWm,RM,MP,BZ,RT⟩:=cy5 (GWm.out.turn kt (by omega)) (RM.out.turn kt (by omega)) (MP.out.keepb RT.out kt.keep (by decide) (by decide) (by decide)) (BZ.out.trans (kt.below (by omega))) kb
   refine hK.out _ _ (GWm.out) (fun Ah=>?_)
   clear hK K
   try simp only[Act.put,Aa,Ab,Ac,Ad,Ae,Af]
   clear kb kt
   refine wpAnyH_done (by kernel_rfl) ?_ _
   try go_wp2_with fail
   refine bodyPost_ret (qJj Tryz.results10 w.heap.size 32 (mC m v) _ rfl RM.out Tryz.underlying32 rfl Tryz.sizeM (w.heap.size+1) 30 [.int .i64 0,.int .i64 0,.int .i64 0,.int .i64 0,.int .i64 0,.slice none 0 0] _ rfl RT.out Tryz.underlying30 rfl Tryz.sizeT) rfl ?_
   exact⟨m,v,zTok,zSv,rfl,MP.out,HOK.out,qEa _ _,by decide,(fun h=>by simp[mayB,tkB,zTok]at h),BZ.out⟩
theorem fold_ins: ∀(L ts:List It),iGo 0 ts=true→(∀x∈L,itR x=true)→L.foldl putP ts=qBc ts L
 | [],_,_,_=>rfl
 |y::L,ts,h,hL=>by
  have hy:putP ts y=ins1 ts y:=by unfold putP;rw[if_pos ⟨h,hL y (List.mem_cons_self ..)⟩]
  have h2:=qGd (y:=y) h
  show L.foldl putP (putP ts y)=qBc (ins1 ts y) L
  rw[hy]at h2⊢
  exact fold_ins L _ h2 fun x hx=>hL x (List.mem_cons_of_mem _ hx)
theorem spoke_its{m:Mt}(t:Tok)(h:m.ok=true):(m.spoke t).its=sIts m t:=(fold_ins (qBa m t) m.its (qAs h).2.2.1 fun x hx=>(qFj h hx).2).symm
theorem wGo_of: ∀(xs:List Int) (L q:Int),xs.Pairwise (· < ·)→(∀x∈xs,L<x∧x≤q)→wGo L q xs=true
 | [],_,_,_,_=>rfl
 |x::xs,L,q,h,hx=>by
  obtain⟨h1,h2⟩:=List.pairwise_cons.1 h
  obtain⟨a,b⟩:=hx x (List.mem_cons_self ..)
  rw[qCb a b]
  exact wGo_of xs x q h2 fun y hy=>⟨h1 y hy,(hx y (List.mem_cons_of_mem _ hy)).2⟩
theorem qJr(ts:List It)(last:Int): ∀(f n:Nat) (acc:List Int),(∀x∈acc,1≤x)→1≤n→∀x∈qBe ts last f n acc,1≤x
 |0,_,_,h,_,x,hx=>h x hx
 |f+1,n,acc,h,hn,x,hx=>by
  rw[qBe]at hx
  split at hx
  ·refine qJr ts last f (n+1) _ ?_ (by omega) x hx
   intro y hy
   split at hy
   ·exact h y hy
   ·rcases List.mem_append.1 hy with hy|hy
    ·exact h y hy
    ·have:=List.mem_singleton.1 hy;omega
  ·exact h x hx
theorem lack_right{ws:List Int}{its:List It}{q:Int}(hw: ∀x∈ws,1≤x∧x≤q):wB (qEf ws its q) q=true:=by
 obtain⟨h1,h2⟩:=sorted_comp (ws.filter (qDb its)++qBh its q)
 have hl:=qHp ws its q
 unfold wB
 simp only[Bool.and_eq_true,decide_eq_true_eq]
 refine⟨by omega,?_⟩
 unfold qEf lackL
 refine wGo_of _ _ _ (h1.sublist (List.take_sublist _ _)) fun x hx=>?_
 have hx:=(h2 x).1 (List.mem_of_mem_take hx)
 rcases List.mem_append.1 hx with hx|hx
 ·have:=hw x (List.mem_filter.1 hx).1;omega
 ·have h3:=missP_mem hx
  unfold qBh at hx
  have:=qJr _ _ _ _ [] (fun _ h=>by cases h) (by omega) x hx
  omega
theorem nx_right{m:Mt}{t:Tok}(h:m.ok=true)(hm:mayB m t=true):tkB (qCd m t).c (qCd m t).r (qCd m t).q (qCd m t).a (qCd m t).b (qCd m t).ws=true:=by
 obtain⟨p1,p2,p3,p4,p5,p6⟩:=qCq (qGb h hm)
 have e:=spoke_its t h
 have hm2:=hm
 unfold mayB at hm2
 simp only[Bool.and_eq_true]at hm2
 obtain⟨q1,q2,q3,q4,q5,q6⟩:=qCq hm2.1
 refine tk_of p1 p2 p3 ?_ ?_ (lack_right fun x hx=>?_)
 ·show 0≤qEy t.c t.r (nxQ m t) (nxA m t) t.b t.ws m.id ((aruP (m.spoke t).its:Nat):Int)∧qEy t.c t.r (nxQ m t) (nxA m t) t.b t.ws m.id ((aruP (m.spoke t).its:Nat):Int)≤nxQ m t
  rw[e];exact p4
 ·show 0≤qEx t.c t.r (nxQ m t) (nxA m t) t.b t.ws m.id ((aruP (m.spoke t).its:Nat):Int)∧qEx t.c t.r (nxQ m t) (nxA m t) t.b t.ws m.id ((aruP (m.spoke t).its:Nat):Int)≤5
  rw[e];exact p5
 ·unfold wB at q6
  simp only[Bool.and_eq_true]at q6
  have h1:=qHa _ _ _ _ q6.2 hx
  have h2:=nxQ_ge m t
  omega
theorem heldI_right{m:Mt}{t:Tok}(h:m.ok=true)(hm:mayB m t=true):(m.held t).ok=true:=by
 obtain⟨h1,h2,h3,h4,h5,h6,h7,h8,h9⟩:=qAs (qJv h hm)
 have g4:=(qAs h).2.2.2.1
 have e:=spoke_its t h
 have e2:(m.held t).its=(m.sheld t).its:=e
 refine ok_of h1 h2 (by rw[e2];exact h3) ?_ h5 h6 ?_ (by rw[e2];exact h8) ?_
 ·show sayB (m.lv.drop _) (m.tx.drop _)=true
  unfold sayB lvsB fitB at g4⊢
  simp only[Bool.and_eq_true,decide_eq_true_eq,List.all_eq_true]at g4⊢
  obtain⟨a,b,c,d⟩:=g4
  exact⟨by rw[List.length_drop];omega,by rw[List.length_drop,List.length_drop];omega,fun y hy=>c y (List.mem_of_mem_drop hy),fun y hy=>d y (List.mem_of_mem_drop hy)⟩
 ·show 0≤qBs m.li m.se ((aruP (m.spoke t).its:Nat):Int) t.a∧qBs m.li m.se ((aruP (m.spoke t).its:Nat):Int) t.a≤((aruP (m.spoke t).its:Nat):Int)
  rw[e];exact h7
 ·show(ntB _ _ _ _ _ _||tkB (qCd m t).c (qCd m t).r (qCd m t).q (qCd m t).a (qCd m t).b (qCd m t).ws)=true
  rw[nx_right h hm]
  simp
theorem held_no{m:Mt}{t:Tok}:mayB (m.held t) t=false:=by
 unfold mayB
 have:decide ((m.held t).rd+1≤t.r∧t.r≤999999999)=false:=by
  have e:(m.held t).rd=t.r:=rfl
  rw[e];simp;omega
 rw[this];simp
theorem fresh_asc(m:Mt)(t:Tok):Asc (qBa m t):=by
 refine List.pairwise_iff_getElem.2 fun i j hi hj hij=>?_
 obtain⟨_,e1⟩:=qKr (c:=t.c) (r:=t.r) (q:=t.q) (a:=t.a) (b:=t.b) (ws:=t.ws) (f:=m.id) (lv:=m.lv) (tx:=m.tx) hi
 obtain⟨_,e2⟩:=qKr (c:=t.c) (r:=t.r) (q:=t.q) (a:=t.a) (b:=t.b) (ws:=t.ws) (f:=m.id) (lv:=m.lv) (tx:=m.tx) hj
 have a1:=congrArg Prod.fst e1
 have a2:=congrArg Prod.fst e2
 have a1:((qBa m t)[i]).1=t.q+(i:Int)+1:=a1
 have a2:((qBa m t)[j]).1=t.q+(j:Int)+1:=a2
 omega
theorem qJn: ∀(ys ts:List It),Asc (ts++ys)→qBc ts ys=ts++ys
 | [],ts,_=>by simp[qBc]
 |y::ys,ts,h=>by
  have h1: ∀x∈ts,x.1<y.1:=fun x hx=>(List.pairwise_append.1 h).2.2 x hx y (List.mem_cons_self ..)
  have hno:hasP ts y.1=false:=qDy.2 fun x hx he=>by have:=h1 x hx;omega
  have hi:ins1 ts y=ts++[y]:=by
   unfold ins1
   rw[if_neg (by rw[hno];simp),List.filter_eq_self.2 (fun x hx=>by simpa using h1 x hx),List.filter_eq_nil_iff.2 (fun x hx=>by have:=h1 x hx;simp;omega)]
  show qBc (ins1 ts y) ys=_
  rw[hi]
  have h2:Asc ((ts++[y])++ys):=by rw[List.append_assoc];exact h
  rw[qJn ys (ts++[y]) h2,List.append_assoc]
  rfl
theorem held_asc{m:Mt}{t:Tok}(h:m.ok=true)(hf: ∀x∈m.its,x.1≤t.q):Asc (m.its++qBa m t):=
 List.pairwise_append.2 ⟨(qEb _ _ (qAs h).2.2.1).1,fresh_asc m t,fun x hx y hy=>by have:=hf x hx;have:=(qHs hy).1;omega⟩
theorem held_its{m:Mt}{t:Tok}(h:m.ok=true)(hf: ∀x∈m.its,x.1≤t.q):(m.held t).its=m.its++qBa m t:=qJn _ _ (held_asc h hf)
theorem asc_at{ts:List It}(h:Asc ts){x:It}(hx:x∈ts):atP ts x.1=some x:=by
 obtain⟨k,hk,rfl⟩:=List.mem_iff_getElem.1 hx
 refine qLg hk rfl fun y hy e=>?_
 obtain⟨i,hi,rfl⟩:=List.mem_take_iff_getElem.1 hy
 have:=h.at (i:=i) (j:=k) (by omega) hk
 omega
theorem said_at{m:Mt}{t:Tok}(h:m.ok=true)(hf: ∀x∈m.its,x.1≤t.q){x:It}(hx:x∈qDd m t):atP (m.held t).its x.1=some x:=by
 rw[held_its h hf]
 refine asc_at (held_asc h hf) ?_
 unfold qDd at hx
 rcases List.mem_append.1 hx with hx|hx
 ·exact List.mem_append.2 (.inl (List.mem_filter.1 hx).1)
 ·exact List.mem_append.2 (.inr hx)
theorem line_up(li se aru a:Int):li≤qBs li se aru a:=by
 unfold qBs
 split<;>omega
theorem hold_no(m:Mt)(v:Mv)(t:Tok)(s:Sv)(w:World)(h:Hid (MtQ w m v))(hs:Hid (OwnI w 0 s.v t.ws))(hl:t.ws.length≤1048576)(hsz:Hid (MtS m))(hok:Hid (m.ok=true))(hmay:Hid (mayB m t=false))(hrd:0≤m.rd∧m.rd≤1000000000):
  Calls Tryz.prog 11 #[.agg #[.int .i64 m.id,.int .i64 m.rid,.slice v.ms.a v.ms.n v.ms.c,.slice v.its.a v.its.n v.its.c,.slice v.lv.a v.lv.n v.lv.c,.slice v.tx.a v.tx.n v.tx.c,.int .i64 m.rd,.int .i64 m.se,.int .i64 m.li,.int .i64 m.he,.int .i64 m.la.c,.int .i64 m.la.r,.int .i64 m.la.q,.int .i64 m.la.a,.int .i64 m.la.b,.slice v.ws.a v.ws.n v.ws.c],.agg #[.int .i64 t.c,.int .i64 t.r,.int .i64 t.q,.int .i64 t.a,.int .i64 t.b,.slice s.a s.n s.c]] w fun e w'=>∃(u:Mv) (fs:Sv),e=.returned (.tuple #[.agg #[.int .i64 m.id,.int .i64 m.rid,.slice u.ms.a u.ms.n u.ms.c,.slice u.its.a u.its.n u.its.c,.slice u.lv.a u.lv.n u.lv.c,.slice u.tx.a u.tx.n u.tx.c,.int .i64 m.rd,.int .i64 m.se,.int .i64 m.li,.int .i64 m.he,.int .i64 m.la.c,.int .i64 m.la.r,.int .i64 m.la.q,.int .i64 m.la.a,.int .i64 m.la.b,.slice u.ws.a u.ws.n u.ws.c],.slice fs.a fs.n fs.c,.agg #[.int .i64 0,.int .i64 0,.int .i64 0,.int .i64 0,.int .i64 0,.slice none 0 0],.bool false])∧SlI w' 0 fs.v []∧Below w.heap.size w w':=by
 obtain⟨MA,TK,RM,RZT,BW⟩:=en4 w 32 [.int .i64 m.id,.int .i64 m.rid,.slice v.ms.a v.ms.n v.ms.c,.slice v.its.a v.its.n v.its.c,.slice v.lv.a v.lv.n v.lv.c,.slice v.tx.a v.tx.n v.tx.c,.int .i64 m.rd,.int .i64 m.se,.int .i64 m.li,.int .i64 m.he,.int .i64 m.la.c,.int .i64 m.la.r,.int .i64 m.la.q,.int .i64 m.la.a,.int .i64 m.la.b,.slice v.ws.a v.ws.n v.ws.c] 30 [.int .i64 t.c,.int .i64 t.r,.int .i64 t.q,.int .i64 t.a,.int .i64 t.b,.slice s.a s.n s.c] 32 [.int .i64 0,.int .i64 0,.slice none 0 0,.slice none 0 0,.slice none 0 0,.slice none 0 0,.int .i64 0,.int .i64 0,.int .i64 0,.int .i64 0,.int .i64 0,.int .i64 0,.int .i64 0,.int .i64 0,.int .i64 0,.slice none 0 0] 30 [.int .i64 0,.int .i64 0,.int .i64 0,.int .i64 0,.int .i64 0,.slice none 0 0]
 obtain⟨QM,SW⟩:=cy2 (h.out.later BW.out) (ownL hs.out BW.out)
 clear h hs
 go_enter Tryz.func11,Tryz.ntmps11
 go_wp2_with (first|(refine qAb rfl 32 _ rfl w.heap.size 0 rfl 32 _ MA.out (mC m v) rfl _ Tryz.underlying32 rfl Tryz.sizeM ?_))
 generalize ((((w.alloc (.cells #[.int .i64 m.id,.int .i64 m.rid,.slice v.ms.a v.ms.n v.ms.c,.slice v.its.a v.its.n v.its.c,.slice v.lv.a v.lv.n v.lv.c,.slice v.tx.a v.tx.n v.tx.c,.int .i64 m.rd,.int .i64 m.se,.int .i64 m.li,.int .i64 m.he,.int .i64 m.la.c,.int .i64 m.la.r,.int .i64 m.la.q,.int .i64 m.la.a,.int .i64 m.la.b,.slice v.ws.a v.ws.n v.ws.c] 32)).alloc (.cells #[.int .i64 t.c,.int .i64 t.r,.int .i64 t.q,.int .i64 t.a,.int .i64 t.b,.slice s.a s.n s.c] 30)).alloc (.cells #[.int .i64 0,.int .i64 0,.slice none 0 0,.slice none 0 0,.slice none 0 0,.slice none 0 0,.int .i64 0,.int .i64 0,.int .i64 0,.int .i64 0,.int .i64 0,.int .i64 0,.int .i64 0,.int .i64 0,.int .i64 0,.slice none 0 0] 32)).alloc (.cells #[.int .i64 0,.int .i64 0,.int .i64 0,.int .i64 0,.int .i64 0,.slice none 0 0] 30))=W at *
 have zW:w.heap.size+3<W.heap.size:=RZT.out.lt
 refine(qJs m v _ QM hsz).mono ?_
 rintro e w1 ⟨g,u,rfl,g1,o1,zg,b⟩
 have z_w1:=b.size
 obtain⟨MA,TK,RM,RZT,BW,QM,SW⟩:=cy7 (MA.out.later b) (TK.out.later b) (RM.out.later b) (RZT.out.later b) (qAa BW.out b) (QM.out.later b) (ownL SW.out b)
 clear b
 have G:=Ag g1
 clear g1 o1
 go_wp2_with (first|(refine qAb rfl 32 _ rfl w.heap.size 0 rfl 32 _ MA.out (mC m v) rfl _ Tryz.underlying32 rfl Tryz.sizeM ?_))
 refine(qDv m v _ (show Hid (MtR w1 m v)from QM.out.r) hsz).mono ?_
 rintro e w2 ⟨rfl,b⟩
 have z_w2:=b.size
 obtain⟨MA,TK,RM,RZT,BW,QM,SW,G⟩:=cy8 (MA.out.later b) (TK.out.later b) (RM.out.later b) (RZT.out.later b) (qAa BW.out b) (QM.out.later b) (ownL SW.out b) (G.out.later b)
 clear b
 rw[hok.out]
 clear QM MA
 go_wp2_with (first|(refine qAb rfl 30 _ rfl (w.heap.size+1) 0 rfl 30 _ TK.out (tX t.c t.r t.q t.a t.b s) rfl _ Tryz.underlying30 rfl Tryz.sizeT ?_))
 refine(qHn m u zSv g t s _ G (show Hid (RI w2 s.v t.ws)from SW.out.ri) hl hrd).mono ?_
 rintro e w3 ⟨rfl,b⟩
 have z_w3:=b.size
 obtain⟨TK,RM,RZT,BW,SW,G⟩:=cy6 (TK.out.later b) (RM.out.later b) (RZT.out.later b) (qAa BW.out b) (ownL SW.out b) (G.out.later b)
 clear b
 rw[hmay.out]
 clear SW TK
 go_wp2_with fail
 refine(mate_any m u zSv g _ (show Hid (MbB w3 g m u zSv)from G.out)).mono ?_
 rintro e w4 ⟨rfl,g4,k4⟩
 have KK:KeepTy (fun X=>X=96) w3 w4:=KeepTy.ofKeepBut G.out k4 rfl
 obtain⟨RM,RZT,BW⟩:=cy3 (RM.out.kt KK (by decide)) (RZT.out.kt KK (by decide)) (BW.out.trans (qGk k4 (by omega) BW.out.size))
 clear KK G g4 k4
 have b:=bA w4 (.cells #[] 41)
 obtain⟨RM,RZT,BW⟩:=cy3 (RM.out.later b) (RZT.out.later b) (qAa BW.out b)
 have SE:Hid (SlI (w4.alloc (.cells #[] 41)) 0 ((.slice (some ⟨w4.heap.size,0,none⟩) 0 0)) ([])):=SlI.made w4 0 (Nat.zero_le _)
 clear b
 go_wp2_with (first|(refine qAd rfl 32 _ _ rfl (w.heap.size+2) rfl 32 _ RM.out (mC m u) rfl rfl Tryz.sizeM rfl ?_;intro w6 R6 T6;have RZ6:=Ag (RZT.out.turn T6 (by omega)))|(refine qAd rfl 30 _ _ rfl (w.heap.size+3) rfl 30 _ RZ6.out [.int .i64 0,.int .i64 0,.int .i64 0,.int .i64 0,.int .i64 0,.slice none 0 0] rfl rfl Tryz.sizeT rfl ?_;intro w7 R7 T7;have R6:=Bx.turn R6 T7 (by omega)))
 refine bodyPost_ret (qBw Tryz.results11 (w.heap.size+2) 32 (mC m u) _ rfl R6 Tryz.underlying32 rfl Tryz.sizeM (w.heap.size+3) 30 [.int .i64 0,.int .i64 0,.int .i64 0,.int .i64 0,.int .i64 0,.slice none 0 0] _ rfl R7 Tryz.underlying30 rfl Tryz.sizeT) rfl ?_
 exact⟨u,⟨some ⟨w4.heap.size,0,none⟩,0,0⟩,rfl,SlI.past (SlI.past SE.out RM.out T6 (by decide)) RZ6.out T7 (by decide),(BW.out.trans (T6.below (by omega))).trans (T7.below (by omega))⟩
theorem MtC.laterZ{w w':World}{B:Nat}{m:Mt}{u:Mv}(h:MtC w B m u)(hb:Below w.heap.size w w'):MtC w' B m u:=
 ⟨h.ms.keep fun _ _ hk=>hb.block _ hk,h.its.below hb,h.lv.below hb,h.tx.below hb,h.ws.keep fun _ _ hk=>hb.block _ hk⟩
theorem MtC.qZ{w:World}{B:Nat}{m:Mt}{u:Mv}(h:MtC w B m u):MtQ w m u:=⟨h.ms.ri,h.its.rit,h.lv.ri,h.tx.rt,h.ws.down (Nat.zero_le _)⟩
theorem qGf(w:World):Hid (Bx ((w.alloc (.cells zzM.toArray 32)).alloc (.cells zzT.toArray 30)) w.heap.size 32 [.int .i64 0,.int .i64 0,.slice none 0 0,.slice none 0 0,.slice none 0 0,.slice none 0 0,.int .i64 0,.int .i64 0,.int .i64 0,.int .i64 0,.int .i64 0,.int .i64 0,.int .i64 0,.int .i64 0,.int .i64 0,.slice none 0 0])∧Hid (Bx ((w.alloc (.cells zzM.toArray 32)).alloc (.cells zzT.toArray 30)) (w.heap.size+1) 30 [.int .i64 0,.int .i64 0,.int .i64 0,.int .i64 0,.int .i64 0,.slice none 0 0])∧Hid (Below w.heap.size w ((w.alloc (.cells zzM.toArray 32)).alloc (.cells zzT.toArray 30))):=
 ⟨(Bx.new w 32 _).later ((Below.refl _ _).alloc (Nat.le_refl _) _),(by have h:=Bx.new (w.alloc (.cells zzM.toArray 32)) 30 [.int .i64 0,.int .i64 0,.int .i64 0,.int .i64 0,.int .i64 0,.slice none 0 0];rw[show(w.alloc (.cells zzM.toArray 32)).heap.size=w.heap.size+1 by simp]at h;exact h:Bx _ _ _ _),(((Below.refl _ _).alloc (Nat.le_refl _) _).alloc (by simp) _:Below _ _ _)⟩
structure HoldsIn (m:Mt) (t:Tok):Prop where
 asc:Asc m.its
 il:m.its.length≤60
 ll:m.lv.length=m.tx.length
 ts: ∀x∈qBa m t,x.2.2.2.size≤1048576
 tr:0≤t.r∧t.r≤999999999
 pl:(qBc m.its (qBa m t)).length≤1048576
 gl:(qBf t.ws m.its).length≤60
 sl:(qDd m t).length≤1000
theorem holds_in{m:Mt}{t:Tok}(h:m.ok=true)(hm:mayB m t=true):HoldsIn m t:=by
 obtain⟨_,_,h3,h4,_,_,_,_,_⟩:=qAs h
 have ha:=(qEb _ _ h3).1
 have hi:=qCt h3
 have hf:=qFv m t
 have hg:(qBf t.ws m.its).length≤60:=Nat.le_trans (List.length_filter_le _ _) hi
 have hp:=qGe (qBa m t) m.its ha
 unfold mayB at hm
 simp only[Bool.and_eq_true,decide_eq_true_eq]at hm
 obtain⟨o1,o2,o3,o4,o5,o6⟩:=qCq hm.1
 refine⟨ha,hi,?_,fun x hx=>by have:=(qFj h hx).1;omega,by omega,by omega,hg,?_⟩
 ·unfold sayB at h4
  simp only[Bool.and_eq_true,decide_eq_true_eq]at h4
  omega
 ·unfold qDd
  rw[List.length_append]
  omega
theorem lawHolds(w:World)(n cap:Nat)(ao:Option Addr)(hk:Hid (CodeAt w w.heap.size ao n)):
  Calls Tryz.prog 3 #[.slice ao n cap] w fun e w'=>e=.returned (.bool true)∧Below w.heap.size w w':=by
 by_cases hbig:1048576<n
 ·go_enter Tryz.func3,Tryz.ntmps3
  go_wp2_with fail
  refine(big_any w n cap ao true (by simp;omega)).mono ?_
  rintro e w1 ⟨rfl,hw⟩
  subst hw
  go_wp2_with fail
  go_ret
  exact⟨rfl,Below.refl _ _⟩
 have hn:n≤1048576:=by omega
 go_enter Tryz.func3,Tryz.ntmps3
 go_wp2_with fail
 refine(big_any w n cap ao false (by simp;omega)).mono ?_
 rintro e w1 ⟨rfl,hw⟩
 subst hw
 go_wp2_with fail
 refine(drawMate_any w1 n cap ao hn hk).mono ?_
 rintro e w2 ⟨m,v,t,s,rfl,mp,hok,os,hws,tf,b⟩
 have BW:Hid (Below w1.heap.size w1 w2):=b
 have MP:Hid (MtP w2 m v):=mp
 have TW:Hid (OwnI w2 0 s.v t.ws):=os
 have HOK:Hid (m.ok=true):=hok
 have MS:Hid (MtS m):=qBi hok
 have TF:Hid (qKc m t):=tf
 have hwl:t.ws.length≤1048576:=by omega
 have hrd:=(qAs hok).2.2.2.2.1
 clear b mp hok hk os tf hws
 obtain⟨HZ0,HZ1,BZ⟩:=qGf w2
 go_wp2_with (first|(refine qAd rfl 32 _ _ rfl w2.heap.size rfl 32 _ HZ0.out (mC m v) rfl rfl Tryz.sizeM rfl ?_;intro s1 OB TB;have HZ1:=Ag (HZ1.out.turn TB (by omega));have BZ:=Ag (BZ.out.trans (TB.below (Nat.le_refl _)));have GM:=Ag OB;clear OB TB HZ0;refine Stp.here ?_))
 refine Stp.go ?_
 go_wp2_with (first|(refine qAd rfl 30 _ _ rfl (w2.heap.size+1) rfl 30 _ HZ1.out (tX t.c t.r t.q t.a t.b s) rfl rfl Tryz.sizeT rfl ?_;intro w3 OB TB;have GM:=Ag (GM.out.turn TB (by omega));have BZ:=Ag (BZ.out.trans (TB.below (by omega)));have GT:=Ag OB;clear OB TB HZ1;refine Stp.here ?_))
 refine Stp.go ?_
 obtain⟨BW,MP,TW⟩:=cy3 (qAa BW.out BZ.out) (MP.out.later BZ.out) (ownL TW.out BZ.out)
 clear BZ
 generalize w2.heap.size=gGM at *
 generalize hgi:gGM+1=gGT at *
 clear hgi
 obtain⟨mb,hmb⟩: ∃b,mayB m t=b:=⟨_,rfl⟩
 have HMB:Hid (mayB m t=mb):=hmb
 clear hmb
 cases mb with
 |false=>
  go_wp2_with (first|(refine qAb rfl 32 _ rfl gGM 0 rfl 32 _ GM.out (mC m v) rfl _ Tryz.underlying32 rfl Tryz.sizeM ?_)|(refine qAb rfl 30 _ rfl gGT 0 rfl 30 _ GT.out (tX t.c t.r t.q t.a t.b s) rfl _ Tryz.underlying30 rfl Tryz.sizeT ?_))
  refine(hold_no m v t s _ (show Hid (MtQ w3 m v)from MP.out.q) TW hwl MS HOK HMB hrd).mono ?_
  rintro e w4 ⟨u,fs,rfl,sf,b⟩
  obtain⟨BW,MP,TW,GM,GT⟩:=cy5 (qAa BW.out b) (MP.out.later b) (ownL TW.out b) (GM.out.later b) (GT.out.later b)
  have SF:Hid (SlI w4 0 fs.v []):=sf
  clear b sf
  obtain⟨HZ0,HZ1,BZ⟩:=qGf w4
  go_wp2_with (first|(refine qAd rfl 32 _ _ rfl w4.heap.size rfl 32 _ HZ0.out (mC m u) rfl rfl Tryz.sizeM rfl ?_;intro s1 OB TB;have HZ1:=Ag (HZ1.out.turn TB (by omega));have BZ:=Ag (BZ.out.trans (TB.below (Nat.le_refl _)));have GN:=Ag OB;clear OB TB HZ0;refine Stp.here ?_))
  refine Stp.go ?_
  go_wp2_with (first|(refine qAd rfl 30 _ _ rfl (w4.heap.size+1) rfl 30 _ HZ1.out [.int .i64 0,.int .i64 0,.int .i64 0,.int .i64 0,.int .i64 0,.slice none 0 0] rfl rfl Tryz.sizeT rfl ?_;intro w5 OB TB;have GN:=Ag (GN.out.turn TB (by omega));have BZ:=Ag (BZ.out.trans (TB.below (by omega)));have GX:=Ag OB;clear OB TB HZ1;refine Stp.here ?_))
  refine Stp.go ?_
  obtain⟨BW,MP,TW,GM,GT,SF⟩:=cy6 (qAa BW.out BZ.out) (MP.out.later BZ.out) (ownL TW.out BZ.out) (GM.out.later BZ.out) (GT.out.later BZ.out) (SF.out.below BZ.out)
  clear BZ
  generalize w4.heap.size=gGN at *
  generalize hgi:gGN+1=gGX at *
  clear hgi
  go_wp2_with (first|(refine qAb rfl 32 _ rfl gGM 0 rfl 32 _ GM.out (mC m v) rfl _ Tryz.underlying32 rfl Tryz.sizeM ?_)|(refine qAb rfl 30 _ rfl gGT 0 rfl 30 _ GT.out (tX t.c t.r t.q t.a t.b s) rfl _ Tryz.underlying30 rfl Tryz.sizeT ?_))
  refine(spHold_no m v t s _ MP TW hwl MS HOK HMB).mono ?_
  rintro e w6 ⟨u2,fs2,rfl,sg,b⟩
  obtain⟨BW,MP,TW,GM,GT,SF,GN,GX⟩:=cy8 (qAa BW.out b) (MP.out.later b) (ownL TW.out b) (GM.out.later b) (GT.out.later b) (SF.out.below b) (GN.out.later b) (GX.out.later b)
  have SG:Hid (SlI w6 0 fs2.v []):=sg
  clear b sg
  obtain⟨HZ0,HZ1,BZ⟩:=qGf w6
  go_wp2_with (first|(refine qAd rfl 32 _ _ rfl w6.heap.size rfl 32 _ HZ0.out (mC m u2) rfl rfl Tryz.sizeM rfl ?_;intro s1 OB TB;have HZ1:=Ag (HZ1.out.turn TB (by omega));have BZ:=Ag (BZ.out.trans (TB.below (Nat.le_refl _)));have GS:=Ag OB;clear OB TB HZ0;refine Stp.here ?_))
  refine Stp.go ?_
  go_wp2_with (first|(refine qAd rfl 30 _ _ rfl (w6.heap.size+1) rfl 30 _ HZ1.out [.int .i64 0,.int .i64 0,.int .i64 0,.int .i64 0,.int .i64 0,.slice none 0 0] rfl rfl Tryz.sizeT rfl ?_;intro w7 OB TB;have GS:=Ag (GS.out.turn TB (by omega));have BZ:=Ag (BZ.out.trans (TB.below (by omega)));have GY:=Ag OB;clear OB TB HZ1;refine Stp.here ?_))
  refine Stp.go ?_
  obtain⟨BW,MP,TW,GM,GT,SF,GN,GX⟩:=cy8 (qAa BW.out BZ.out) (MP.out.later BZ.out) (ownL TW.out BZ.out) (GM.out.later BZ.out) (GT.out.later BZ.out) (SF.out.below BZ.out) (GN.out.later BZ.out) (GX.out.later BZ.out)
  have SG:=Ag (SG.out.below BZ.out)
  clear BZ
  generalize w6.heap.size=gGS at *
  generalize hgi:gGS+1=gGY at *
  clear hgi
  go_wp2_with fail
  refine(same_same (.slice fs.a fs.n fs.c) (.slice fs2.a fs2.n fs2.c) [] 0 0 _ SF.out SG.out (by simp)).mono ?_
  rintro e w8 ⟨rfl,b⟩
  obtain⟨BW,MP,TW,GM,GT,SF,GN,GX⟩:=cy8 (qAa BW.out b) (MP.out.later b) (ownL TW.out b) (GM.out.later b) (GT.out.later b) (SF.out.below b) (GN.out.later b) (GX.out.later b)
  obtain⟨SG,GS,GY⟩:=cy3 (SG.out.below b) (GS.out.later b) (GY.out.later b)
  clear b
  go_wp2_with (first|(refine qAb rfl 32 _ rfl gGM 0 rfl 32 _ GM.out (mC m v) rfl _ Tryz.underlying32 rfl Tryz.sizeM ?_))
  refine(qDv m v _ (show Hid (MtR w8 m v)from MP.out.q.r) MS).mono ?_
  rintro e w9 ⟨rfl,b⟩
  obtain⟨BW,MP,TW,GM,GT,SF,GN,GX⟩:=cy8 (qAa BW.out b) (MP.out.later b) (ownL TW.out b) (GM.out.later b) (GT.out.later b) (SF.out.below b) (GN.out.later b) (GX.out.later b)
  obtain⟨SG,GS,GY⟩:=cy3 (SG.out.below b) (GS.out.later b) (GY.out.later b)
  clear b
  rw[HOK.out]
  have cx0:=GX.out.cell 0
  go_wp2_with fail
  go_ret
  exact⟨rfl,BW.out⟩
 |true=>
  have HI:=holds_in HOK.out HMB.out
  have HA:Hid (Asc m.its):=HI.asc
  have hil:=HI.il
  have HLL:Hid (m.lv.length=m.tx.length):=HI.ll
  have HTS:Hid (∀x∈qBa m t,x.2.2.2.size≤1048576):=HI.ts
  have htr:=HI.tr
  have hpl:=HI.pl
  have hgl:=HI.gl
  have hsl:=HI.sl
  clear HI
  have hw1:IntKind.i64.wrap (t.r+1)=t.r+1:=by rw[IntKind.wrap_i64];omega
  have NOK:Hid ((m.held t).ok=true):=heldI_right HOK.out HMB.out
  have NS:Hid (MtS (m.held t)):=qBi NOK.out
  have NNO:Hid (mayB (m.held t) t=false):=held_no
  have nrd:=(qAs NOK.out).2.2.2.2.1
  have XOK:Hid (tkB t.c (t.r+1) (qCd m t).q (qCd m t).a (qCd m t).b (qCd m t).ws=true):=nx_right HOK.out HMB.out
  have hxl:(qCd m t).ws.length≤1048576:=Nat.le_trans (qHp _ _ _) (by decide)
  have NAT:Hid (∀x∈qDd m t,atP (m.held t).its x.1=some x):=fun x hx=>said_at HOK.out (TF.out HMB.out) hx
  have NLI:m.li≤(m.held t).li:=line_up _ _ _ _
  have NXQ:t.q≤(qCd m t).q:=nxQ_ge m t
  have NRD:Hid ((m.held t).rd=t.r):=rfl
  have NLE:m.its.length≤(m.held t).its.length:=by rw[held_its HOK.out (TF.out HMB.out),List.length_append];omega
  have NAR:(m.held t).li≤((aruP (m.held t).its:Nat):Int):=(qAs NOK.out).2.2.2.2.2.2.1.2
  go_wp2_with (first|(refine qAb rfl 32 _ rfl gGM 0 rfl 32 _ GM.out (mC m v) rfl _ Tryz.underlying32 rfl Tryz.sizeM ?_)|(refine qAb rfl 30 _ rfl gGT 0 rfl 30 _ GT.out (tX t.c t.r t.q t.a t.b s) rfl _ Tryz.underlying30 rfl Tryz.sizeT ?_))
  refine(hold_yes m v t s _ (show Hid (MtQ w3 m v)from MP.out.q) TW hwl MS HOK HMB HA (by omega) HLL HTS hrd htr hpl (by omega)).mono ?_
  rintro e w4 ⟨u,fs,sn,rfl,mc,sf,ox,b⟩
  obtain⟨BW,MP,TW,GM,GT⟩:=cy5 (qAa BW.out b) (MP.out.later b) (ownL TW.out b) (GM.out.later b) (GT.out.later b)
  have NP:Hid (MtC w4 0 (m.held t) u):=⟨mc.ms.down (Nat.zero_le _),SlI.down mc.its (Nat.zero_le _),Sl.down mc.lv (Nat.zero_le _),Sl.down mc.tx (Nat.zero_le _),mc.ws.down (Nat.zero_le _)⟩
  have SF:Hid (SlI w4 0 fs.v (qDd m t)):=sf
  have OX:Hid (OwnI w4 0 sn.v (qCd m t).ws):=ox
  clear b mc sf ox
  rw[show(qCd m t).c=t.c from rfl,show(qCd m t).r=t.r+1 from rfl]
  generalize hsd:qDd m t=SD at *
  have HSD:Hid (qDd m t=SD):=hsd
  clear hsd hpl hgl HTS HA HLL
  generalize m.held t=N at *
  generalize qCd m t=X at *
  obtain⟨fa,fn,fc⟩:=fs
  obtain⟨HZ0,HZ1,BZ⟩:=qGf w4
  go_wp2_with (first|(refine qAd rfl 32 _ _ rfl w4.heap.size rfl 32 _ HZ0.out (mC N u) rfl rfl Tryz.sizeM rfl ?_;intro s1 OB TB;have HZ1:=Ag (HZ1.out.turn TB (by omega));have BZ:=Ag (BZ.out.trans (TB.below (Nat.le_refl _)));have GN:=Ag OB;clear OB TB HZ0;refine Stp.here ?_))
  refine Stp.go ?_
  go_wp2_with (first|(refine qAd rfl 30 _ _ rfl (w4.heap.size+1) rfl 30 _ HZ1.out (tX t.c (t.r+1) X.q X.a X.b sn) rfl rfl Tryz.sizeT rfl ?_;intro w5 OB TB;have GN:=Ag (GN.out.turn TB (by omega));have BZ:=Ag (BZ.out.trans (TB.below (by omega)));have GX:=Ag OB;clear OB TB HZ1;refine Stp.here ?_))
  refine Stp.go ?_
  obtain⟨BW,MP,TW,GM,GT⟩:=cy5 (qAa BW.out BZ.out) (MP.out.later BZ.out) (ownL TW.out BZ.out) (GM.out.later BZ.out) (GT.out.later BZ.out)
  have NP:Hid (MtC w5 0 N u):=NP.out.laterZ BZ.out
  obtain⟨SF,OX⟩:=cy2 (SF.out.below BZ.out) (ownL OX.out BZ.out)
  clear BZ
  generalize w4.heap.size=gGN at *
  generalize hgi:gGN+1=gGX at *
  clear hgi
  go_wp2_with (first|(refine qAb rfl 32 _ rfl gGM 0 rfl 32 _ GM.out (mC m v) rfl _ Tryz.underlying32 rfl Tryz.sizeM ?_)|(refine qAb rfl 30 _ rfl gGT 0 rfl 30 _ GT.out (tX t.c t.r t.q t.a t.b s) rfl _ Tryz.underlying30 rfl Tryz.sizeT ?_))
  refine(qJg m v t s _ MP TW hwl MS HOK HMB).mono ?_
  rintro e w6 ⟨u2,fs2,sn2,rfl,_,sg,_,b⟩
  obtain⟨BW,MP,TW,GM,GT⟩:=cy5 (qAa BW.out b) (MP.out.later b) (ownL TW.out b) (GM.out.later b) (GT.out.later b)
  have NP:Hid (MtC w6 0 N u):=NP.out.laterZ b
  obtain⟨SF,OX,GN,GX⟩:=cy4 (SF.out.below b) (ownL OX.out b) (GN.out.later b) (GX.out.later b)
  have SG:Hid (SlI w6 0 fs2.v SD):=(by rw[HSD.out]at sg;exact sg:SlI _ _ _ _)
  clear b sg
  generalize m.sheld t=N2 at *
  generalize sTok m t=X2 at *
  obtain⟨HZ0,HZ1,BZ⟩:=qGf w6
  go_wp2_with (first|(refine qAd rfl 32 _ _ rfl w6.heap.size rfl 32 _ HZ0.out (mC N2 u2) rfl rfl Tryz.sizeM rfl ?_;intro s1 OB TB;have HZ1:=Ag (HZ1.out.turn TB (by omega));have BZ:=Ag (BZ.out.trans (TB.below (Nat.le_refl _)));have GS:=Ag OB;clear OB TB HZ0;refine Stp.here ?_))
  refine Stp.go ?_
  go_wp2_with (first|(refine qAd rfl 30 _ _ rfl (w6.heap.size+1) rfl 30 _ HZ1.out (tX X2.c X2.r X2.q X2.a X2.b sn2) rfl rfl Tryz.sizeT rfl ?_;intro w7 OB TB;have GS:=Ag (GS.out.turn TB (by omega));have BZ:=Ag (BZ.out.trans (TB.below (by omega)));have GY:=Ag OB;clear OB TB HZ1;refine Stp.here ?_))
  refine Stp.go ?_
  obtain⟨BW,MP,TW,GM,GT⟩:=cy5 (qAa BW.out BZ.out) (MP.out.later BZ.out) (ownL TW.out BZ.out) (GM.out.later BZ.out) (GT.out.later BZ.out)
  have NP:Hid (MtC w7 0 N u):=NP.out.laterZ BZ.out
  obtain⟨SF,OX,GN,GX,SG⟩:=cy5 (SF.out.below BZ.out) (ownL OX.out BZ.out) (GN.out.later BZ.out) (GX.out.later BZ.out) (SG.out.below BZ.out)
  clear BZ
  generalize w6.heap.size=gGS at *
  generalize hgi:gGS+1=gGY at *
  clear hgi
  go_wp2_with fail
  refine(same_same (.slice fa fn fc) (.slice fs2.a fs2.n fs2.c) SD 0 0 _ SF.out SG.out (by omega)).mono ?_
  rintro e w8 ⟨rfl,b⟩
  obtain⟨BW,MP,TW,GM,GT⟩:=cy5 (qAa BW.out b) (MP.out.later b) (ownL TW.out b) (GM.out.later b) (GT.out.later b)
  have NP:Hid (MtC w8 0 N u):=NP.out.laterZ b
  obtain⟨SF,OX,GN,GX,SG,GS,GY⟩:=cy7 (SF.out.below b) (ownL OX.out b) (GN.out.later b) (GX.out.later b) (SG.out.below b) (GS.out.later b) (GY.out.later b)
  clear b
  clear SG GS GY
  go_wp2_with (first|(refine qAb rfl 32 _ rfl gGM 0 rfl 32 _ GM.out (mC m v) rfl _ Tryz.underlying32 rfl Tryz.sizeM ?_))
  refine(qDv m v _ (show Hid (MtR w8 m v)from MP.out.q.r) MS).mono ?_
  rintro e w9 ⟨rfl,b⟩
  obtain⟨BW,MP,TW,GM,GT⟩:=cy5 (qAa BW.out b) (MP.out.later b) (ownL TW.out b) (GM.out.later b) (GT.out.later b)
  have NP:Hid (MtC w9 0 N u):=NP.out.laterZ b
  obtain⟨SF,OX,GN,GX⟩:=cy4 (SF.out.below b) (ownL OX.out b) (GN.out.later b) (GX.out.later b)
  clear b
  rw[HOK.out]
  go_wp2_with (first|(refine qAb rfl 32 _ rfl gGN 0 rfl 32 _ GN.out (mC N u) rfl _ Tryz.underlying32 rfl Tryz.sizeM ?_)|(refine qAb rfl 30 _ rfl gGT 0 rfl 30 _ GT.out (tX t.c t.r t.q t.a t.b s) rfl _ Tryz.underlying30 rfl Tryz.sizeT ?_))
  refine(hold_no N u t s _ (show Hid (MtQ w9 N u)from NP.out.qZ) TW hwl NS NOK NNO nrd).mono ?_
  rintro e wa ⟨u3,fs3,rfl,_,b⟩
  obtain⟨BW,MP,TW,GM,GT⟩:=cy5 (qAa BW.out b) (MP.out.later b) (ownL TW.out b) (GM.out.later b) (GT.out.later b)
  have NP:Hid (MtC wa 0 N u):=NP.out.laterZ b
  obtain⟨SF,OX,GN,GX⟩:=cy4 (SF.out.below b) (ownL OX.out b) (GN.out.later b) (GX.out.later b)
  clear b
  obtain⟨HZ0,HZ1,BZ⟩:=qGf wa
  go_wp2_with (first|(refine qAd rfl 32 _ _ rfl wa.heap.size rfl 32 _ HZ0.out (mC N u3) rfl rfl Tryz.sizeM rfl ?_;intro s1 OB TB;have HZ1:=Ag (HZ1.out.turn TB (by omega));have BZ:=Ag (BZ.out.trans (TB.below (Nat.le_refl _)));have GA:=Ag OB;clear OB TB HZ0;refine Stp.here ?_))
  refine Stp.go ?_
  go_wp2_with (first|(refine qAd rfl 30 _ _ rfl (wa.heap.size+1) rfl 30 _ HZ1.out [.int .i64 0,.int .i64 0,.int .i64 0,.int .i64 0,.int .i64 0,.slice none 0 0] rfl rfl Tryz.sizeT rfl ?_;intro wb OB TB;have GA:=Ag (GA.out.turn TB (by omega));have BZ:=Ag (BZ.out.trans (TB.below (by omega)));have GB:=Ag OB;clear OB TB HZ1;refine Stp.here ?_))
  refine Stp.go ?_
  obtain⟨BW,MP,TW,GM,GT⟩:=cy5 (qAa BW.out BZ.out) (MP.out.later BZ.out) (ownL TW.out BZ.out) (GM.out.later BZ.out) (GT.out.later BZ.out)
  have NP:Hid (MtC wb 0 N u):=NP.out.laterZ BZ.out
  obtain⟨SF,OX,GN,GX⟩:=cy4 (SF.out.below BZ.out) (ownL OX.out BZ.out) (GN.out.later BZ.out) (GX.out.later BZ.out)
  clear BZ
  generalize wa.heap.size=gGA at *
  generalize hgi:gGA+1=gGB at *
  clear hgi
  clear GA GB
  go_wp2_with (first|(refine qAb rfl 32 _ rfl gGN 0 rfl 32 _ GN.out (mC N u) rfl _ Tryz.underlying32 rfl Tryz.sizeM ?_))
  refine(qDv N u _ (show Hid (MtR wb N u)from NP.out.qZ.r) NS).mono ?_
  rintro e wc ⟨rfl,b⟩
  obtain⟨BW,MP,TW,GM,GT⟩:=cy5 (qAa BW.out b) (MP.out.later b) (ownL TW.out b) (GM.out.later b) (GT.out.later b)
  have NP:Hid (MtC wc 0 N u):=NP.out.laterZ b
  obtain⟨SF,OX,GN,GX⟩:=cy4 (SF.out.below b) (ownL OX.out b) (GN.out.later b) (GX.out.later b)
  clear b
  rw[NOK.out]
  go_wp2_with (first|(refine qAb rfl 30 _ rfl gGX 0 rfl 30 _ GX.out (tX t.c (t.r+1) X.q X.a X.b sn) rfl _ Tryz.underlying30 rfl Tryz.sizeT ?_))
  refine(qEh t.c (t.r+1) X.q X.a X.b X.ws (show Hid (RI wc (.slice sn.a sn.n sn.c) X.ws)from OX.out.ri) hxl).mono ?_
  rintro e wd ⟨rfl,b⟩
  obtain⟨BW,MP,TW,GM,GT⟩:=cy5 (qAa BW.out b) (MP.out.later b) (ownL TW.out b) (GM.out.later b) (GT.out.later b)
  have NP:Hid (MtC wd 0 N u):=NP.out.laterZ b
  obtain⟨SF,OX,GN,GX⟩:=cy4 (SF.out.below b) (ownL OX.out b) (GN.out.later b) (GX.out.later b)
  clear b
  rw[XOK.out]
  have hni:u.its.n=N.its.length:=NP.out.its.len
  have hmi:v.its.n=m.its.length:=MP.out.its.len
  have hln:v.its.n≤u.its.n:=by omega
  have HFN:Hid (fn=SD.length):=SlI.len (s:=⟨fa,fn,fc⟩) SF.out
  have hfn:fn≤1000:=by have:=HFN.out;omega
  clear hni hmi
  have q1:decide (N.li<m.li)=false:=by simp;omega
  have q2:decide (X.q<t.q)=false:=by simp;omega
  have q3:decide (u.its.n<v.its.n)=false:=by simp;omega
  have p1:=GN.out.cell 8
  have p2:=GM.out.cell 8
  have p3:=GX.out.cell 2
  have p4:=GT.out.cell 2
  have p5:=GX.out.cell 1
  have p6:=GT.out.cell 1
  have p7:=GX.out.cell 0
  have p8:=GT.out.cell 0
  have p9:=GN.out.cell 3
  have pa:=GM.out.cell 3
  go_wp2_with fail
  clear p1 p2 p3 p4 p5 p6 p7 p8 p9 pa hw1
  generalize (Value.agg #[.int .i64 m.id,.int .i64 m.rid,.slice v.ms.a v.ms.n v.ms.c,.slice v.its.a v.its.n v.its.c,.slice v.lv.a v.lv.n v.lv.c,.slice v.tx.a v.tx.n v.tx.c,.int .i64 m.rd,.int .i64 m.se,.int .i64 m.li,.int .i64 m.he,.int .i64 m.la.c,.int .i64 m.la.r,.int .i64 m.la.q,.int .i64 m.la.a,.int .i64 m.la.b,.slice v.ws.a v.ws.n v.ws.c]:Value)=A0
  generalize (Value.agg #[.int .i64 t.c,.int .i64 t.r,.int .i64 t.q,.int .i64 t.a,.int .i64 t.b,.slice s.a s.n s.c]:Value)=A1
  generalize (Value.agg #[.int .i64 N.id,.int .i64 N.rid,.slice u.ms.a u.ms.n u.ms.c,.slice u.its.a u.its.n u.its.c,.slice u.lv.a u.lv.n u.lv.c,.slice u.tx.a u.tx.n u.tx.c,.int .i64 N.rd,.int .i64 N.se,.int .i64 N.li,.int .i64 N.he,.int .i64 N.la.c,.int .i64 N.la.r,.int .i64 N.la.q,.int .i64 N.la.a,.int .i64 N.la.b,.slice u.ws.a u.ws.n u.ws.c]:Value)=A2
  generalize (Value.agg #[.int .i64 t.c,.int .i64 (t.r+1),.int .i64 X.q,.int .i64 X.a,.int .i64 X.b,.slice sn.a sn.n sn.c]:Value)=A3
  generalize (Value.agg #[.int .i64 N2.id,.int .i64 N2.rid,.slice u2.ms.a u2.ms.n u2.ms.c,.slice u2.its.a u2.its.n u2.its.c,.slice u2.lv.a u2.lv.n u2.lv.c,.slice u2.tx.a u2.tx.n u2.tx.c,.int .i64 N2.rd,.int .i64 N2.se,.int .i64 N2.li,.int .i64 N2.he,.int .i64 N2.la.c,.int .i64 N2.la.r,.int .i64 N2.la.q,.int .i64 N2.la.a,.int .i64 N2.la.b,.slice u2.ws.a u2.ws.n u2.ws.c]:Value)=A4
  generalize (Value.agg #[.int .i64 X2.c,.int .i64 X2.r,.int .i64 X2.q,.int .i64 X2.a,.int .i64 X2.b,.slice sn2.a sn2.n sn2.c]:Value)=A5
  generalize (Value.agg #[.int .i64 N.id,.int .i64 N.rid,.slice u3.ms.a u3.ms.n u3.ms.c,.slice u3.its.a u3.its.n u3.its.c,.slice u3.lv.a u3.lv.n u3.lv.c,.slice u3.tx.a u3.tx.n u3.tx.c,.int .i64 N.rd,.int .i64 N.se,.int .i64 N.li,.int .i64 N.he,.int .i64 N.la.c,.int .i64 N.la.r,.int .i64 N.la.q,.int .i64 N.la.a,.int .i64 N.la.b,.slice u3.ws.a u3.ws.n u3.ws.c]:Value)=A6
  generalize (Value.agg #[.int .i64 0,.int .i64 0,.int .i64 0,.int .i64 0,.int .i64 0,.slice none 0 0]:Value)=A7
  go_loopw [17] (fun v17 wr=>∃(j:Nat),j≤fn∧v17=.int .i64 (j:Int)∧Hid (Below wd.heap.size wd wr)) (fun v17 _=>fn - (intOf v17).toNat)
  case atStart=>exact⟨0,Nat.zero_le _,rfl,Below.refl _ _⟩
  case round=>
   obtain⟨j,hj,rfl,BR⟩:=hrel
   have GN:=Ag (GN.out.later BR.out)
   have NP:Hid (MtC wr 0 N u):=NP.out.laterZ BR.out
   by_cases hlt:j<fn
   ·have hjs:j<SD.length:=by have:=HFN.out;omega
    have SF1:=Ag (SF.out.below BR.out)
    obtain⟨gf,fo,hfa,hfb,hfl,hfr⟩:=SlI.at (s:=⟨fa,fn,fc⟩) SF1.out hjs
    obtain⟨⟨q0,f0,l0,t0⟩,hy⟩: ∃y:It,SD[j]=y:=⟨_,rfl⟩
    rw[hy]at hfr
    have hat:=NAT.out SD[j] (List.getElem_mem hjs)
    rw[hy]at hat
    have HFR:Hid (wr.rangeAt gf (fo+j * 4) [.int .i64 q0,.int .i64 f0,.int .i64 l0,.string t0]):=hfr
    have HG:Hid ((atP N.its q0).getD zIt=(q0,f0,l0,t0)):=(by rw[hat];rfl:_=_)
    have HH:Hid (hasP N.its q0=true):=(by unfold hasP;rw[hat];rfl:_=_)
    have HAT:Hid (∀W',Hid (RIt W' u.its.v N.its)→Calls Tryz.prog 16 #[.slice u.its.a u.its.n u.its.c,.int .i64 q0] W' fun e w'=>e=.returned (.tuple #[.agg #[.int .i64 q0,.int .i64 f0,.int .i64 l0,.string t0],.bool true])∧Below W'.heap.size W' w'):=fun W' hx=>(by have hq:=spAt_s N.its u.its q0 q0 f0 l0 t0 W' hx NS.out.its HG;rw[HH.out]at hq;exact hq:Calls _ _ _ _ _)
    clear hat hfr hy HG HH
    simp only at hfa
    subst hfa
    have i0:(0:Int)≤(j:Int):=by omega
    have i1:(j:Int)<(fn:Int):=by omega
    go_wp2_with fail
    have c:Below wr.heap.size wr wr.drew:=(Below.refl _ _).drew
    refine wp_region_held_drew (S:=fun w'=>Below wr.heap.size wr w') (by kernel_rfl) c (fun Ah=>?_)
    refine tkQ 0 rfl (by kernel_rfl) (by rfl) (fun _ _=>by simp only[Aa,Ab,Ac];go_simp;try with_reducible rfl) Ah ?_ fun _ _ _ h=>h
    try simp only[Act.put,Aa,Ab,Ac,Ad,Ae,Af]
    refine tkH (i:=1) (v:=_) rfl (by kernel_rfl) (fun _ _ _ h=>h) (qAf (by rfl) 27 _ rfl gGN 3 rfl 32 _ (fun w hS=>GN.out.later hS) (.slice u.its.a u.its.n u.its.c) rfl _ Tryz.underlying27 rfl) Ah ?_
    try simp only[Act.put,Aa,Ab,Ac,Ad,Ae,Af]
    refine tkQ 2 rfl (by kernel_rfl) (by rfl) (fun _ _=>by simp only[Aa,Ab,Ac];go_simp;try with_reducible rfl) Ah ?_ fun _ _ _ h=>h
    try simp only[Act.put,Aa,Ab,Ac,Ad,Ae,Af]
    refine tkQ 3 rfl (by kernel_rfl) (by rfl) (fun _ _=>by simp only[Aa,Ab,Ac];go_simp;try with_reducible rfl) Ah ?_ fun _ _ _ h=>h
    try simp only[Act.put,Aa,Ab,Ac,Ad,Ae,Af]
    refine tkQ 4 rfl (by kernel_rfl) (by rfl) (fun _ _=>by simp only[Aa,Ab,Ac];go_simp;try with_reducible rfl) Ah ?_ fun _ _ _ h=>h
    try simp only[Act.put,Aa,Ab,Ac,Ad,Ae,Af]
    refine tkQ 5 rfl (by kernel_rfl) (by rfl) (fun _ _=>by simp only[Aa,Ab,Ac];go_simp;try with_reducible rfl) Ah ?_ fun _ _ _ h=>h
    try simp only[Act.put,Aa,Ab,Ac,Ad,Ae,Af]
    refine tkH (i:=6) (v:=.int .i64 q0) rfl (by kernel_rfl) (fun _ _ _ h=>h) (qDw (by rfl) 3 _ rfl gf (fo+j * 4) (by first|rfl|(simp;done)|go_simp) (.int .i64 q0) (fun w hS=>qAk HFR.out hfl hS 0 _ rfl) _ Tryz.underlying3 rfl) Ah ?_
    try simp only[Act.put,Ad,Ae,Af]
    refine wpAnyH_ready (rs:=[7,11]) (by kernel_rfl) (by simp) ?_
    refine(AllReadyH.cons (i:=7) rfl (fun K hK=>?_) (AllReadyH.cons (i:=11) rfl (fun K hK=>?_) AllReadyH.nil))
    ·skip
     rw[if_pos (by rfl)]
     simp only[Aa,Ab,Ac]
     go_simp
     refine(HAT.out _ (show Hid (RIt wr.drew u.its.v N.its)from NP.out.its.rit.stays c)).mono ?_
     rintro e y1 ⟨rfl,d1⟩
     have c:=qAa c d1
     refine hK.out _ _ (c) (fun Ah=>?_)
     clear hK K
     try simp only[Act.put,Aa,Ab,Ac,Ad,Ae,Af]
     clear d1
     refine tkQ 8 rfl (by kernel_rfl) (by rfl) (fun _ _=>by simp only[Aa,Ab,Ac];go_simp;try with_reducible rfl) Ah ?_ fun _ _ _ h=>h
     try simp only[Act.put,Aa,Ab,Ac,Ad,Ae,Af]
     refine tkQ 9 rfl (by kernel_rfl) (by rfl) (fun _ _=>by simp only[Aa,Ab,Ac];go_simp;try with_reducible rfl) Ah ?_ fun _ _ _ h=>h
     try simp only[Act.put,Aa,Ab,Ac,Ad,Ae,Af]
     refine tkQ 10 rfl (by kernel_rfl) (by rfl) (fun _ _=>by simp only[Aa,Ab,Ac];go_simp;try with_reducible rfl) Ah ?_ fun _ _ _ h=>h
     try simp only[Act.put,Aa,Ab,Ac,Ad,Ae,Af]
     refine wpAnyH_ready (rs:=[11]) (by kernel_rfl) (by simp) ?_
     refine AllReadyH.cons (i:=11) rfl (fun K hK=>?_) AllReadyH.nil
     rw[if_pos (by rfl)]
     simp only[Aa,Ab,Ac]
     go_simp
     have b:=bA y1 (.cells #[.int .i64 0,.int .i64 0,.int .i64 0,.string ⟨#[]⟩] 41)
     have GI:=Ag (bxAt y1 41 [.int .i64 0,.int .i64 0,.int .i64 0,.string ⟨#[]⟩] y1.heap.size (by simp))
     have zo:wr.heap.size≤y1.heap.size:=by have h:=c.size;rw[show y1.heap.size=y1.heap.size by simp]at h;exact h
     have c:=qAa c b
     refine hK.out _ _ (c) (fun Ah=>?_)
     clear hK K
     try simp only[Act.put,Aa,Ab,Ac,Ad,Ae,Af]
     clear b
     refine wpAnyH_ready (rs:=[12]) (by kernel_rfl) (by simp) ?_
     refine AllReadyH.cons (i:=12) rfl (fun K hK=>?_) AllReadyH.nil
     rw[if_pos (by rfl)]
     simp only[Aa,Ab,Ac]
     refine qAm 41 _ _ rfl y1.heap.size (by rfl) 41 _ GI.out [.int .i64 q0,.int .i64 f0,.int .i64 l0,.string t0] (by rfl) rfl Tryz.sizeI rfl ?_
     intro x1 kb kt
     have c:=c.trans (kt.below zo)
     have GI:=Ag kb
     refine hK.out _ _ (c) (fun Ah=>?_)
     clear hK K
     try simp only[Act.put,Aa,Ab,Ac,Ad,Ae,Af]
     clear kb kt
     refine tkQ 13 rfl (by kernel_rfl) (by rfl) (fun _ _=>by simp only[Aa,Ab,Ac];go_simp;try with_reducible rfl) Ah ?_ fun _ _ _ h=>h
     try simp only[Act.put,Aa,Ab,Ac,Ad,Ae,Af]
     refine wpAnyH_done (by kernel_rfl) ?_ _
     have hfl2:gf<x1.heap.size:=by have:=c.size;omega
     have HFR2:=Ag (qAk HFR.out hfl c)
     clear HFR Ah zo
     generalize y1.heap.size=gi at GI⊢
     go_wp2_with fail
     refine qEk (C:=fun w'=>Below x1.heap.size x1 w') (by kernel_rfl) (by kernel_rfl) (Below.refl _ _).drew ?_
     go_big_quiet_want
     refine qAh (.bool true) (fun w' hw'=>by go_simp) ?_
     go_big_quiet_on
     simp only[Act.put,Ad,Ae,Af]
     go_big_quiet_want
     refine qAh (.bool false) (fun w' hw'=>by go_simp) ?_
     go_big_quiet_on
     simp only[Act.put,Ad,Ae,Af]
     go_big_quiet_want
     refine qAh (.bool false) (fun w' hw'=>by go_simp) ?_
     go_big_quiet_on
     simp only[Act.put,Ad,Ae,Af]
     go_big_quiet_want
     refine qAh (.agg #[.int .i64 q0,.int .i64 f0,.int .i64 l0,.string t0]) (fun w' hw'=>by have r0:w'.cell? ⟨gi,0,none⟩=some (.int .i64 q0):=(GI.out.later hw').cell 0;have r1:w'.cell? ⟨gi,1,none⟩=some (.int .i64 f0):=(GI.out.later hw').cell 1;have r2:w'.cell? ⟨gi,2,none⟩=some (.int .i64 l0):=(GI.out.later hw').cell 2;have r3:w'.cell? ⟨gi,3,none⟩=some (.string t0):=(GI.out.later hw').cell 3;go_simp) ?_
     go_big_quiet_on
     simp only[Act.put,Ad,Ae,Af]
     go_big_quiet_want
     refine qAh (.slice (some ⟨gf,fo,none⟩) fn fc) (fun w' hw'=>by go_simp) ?_
     go_big_quiet_on
     simp only[Act.put,Ad,Ae,Af]
     go_big_quiet_want
     refine qAh (.int .i64 ((j:Int))) (fun w' hw'=>by go_simp) ?_
     go_big_quiet_on
     simp only[Act.put,Ad,Ae,Af]
     go_big_quiet_want
     refine qAh (.pointer (some ⟨gf,fo+j * 4,none⟩)) (fun w' hw'=>by go_simp) ?_
     go_big_quiet_on
     simp only[Act.put,Ad,Ae,Af]
     go_big_quiet_want
     refine qAh (.agg #[.int .i64 q0,.int .i64 f0,.int .i64 l0,.string t0]) (fun w' hw'=>by have r0:=(hw'.cell (p:=⟨gf,fo+j * 4,none⟩) hfl2).trans (HFR2.out 0 _ rfl);have r1:=(hw'.cell (p:=⟨gf,fo+j * 4+1,none⟩) hfl2).trans (HFR2.out 1 _ rfl);have r2:=(hw'.cell (p:=⟨gf,fo+j * 4+2,none⟩) hfl2).trans (HFR2.out 2 _ rfl);have r3:=(hw'.cell (p:=⟨gf,fo+j * 4+3,none⟩) hfl2).trans (HFR2.out 3 _ rfl);go_simp) ?_
     go_big_quiet_on
     simp only[Act.put,Ad,Ae,Af]
     go_big_quiet_want
     refine qAh (.bool false) (fun w' hw'=>by go_simp) ?_
     go_big_quiet_on
     simp only[Act.put,Ad,Ae,Af]
     go_big_quiet_want
     refine qAh (.bool false) (fun w' hw'=>by go_simp) ?_
     go_big_quiet_on
     simp only[Act.put,Ad,Ae,Af]
     refine wpQuiet_nil ?_
     intro w6 hb6
     have B6:=Ag (qAa (qAa BR.out c) hb6)
     clear hb6 BR c GI HFR2
     go_wp2_with fail
     go_roundw
     case rel=>exact⟨j+1,by omega,by go_num,B6⟩
     case measure=>simp[intOf];omega
    ·skip
     rw[if_pos (by rfl)]
     simp only[Aa,Ab,Ac]
     go_simp
     have b:=bA wr.drew (.cells #[.int .i64 0,.int .i64 0,.int .i64 0,.string ⟨#[]⟩] 41)
     have GI:=Ag (bxAt wr.drew 41 [.int .i64 0,.int .i64 0,.int .i64 0,.string ⟨#[]⟩] wr.heap.size (by simp))
     have zo:wr.heap.size≤wr.heap.size:=by have h:=c.size;rw[show wr.drew.heap.size=wr.heap.size by simp]at h;exact h
     have c:=qAa c b
     refine hK.out _ _ (c) (fun Ah=>?_)
     clear hK K
     try simp only[Act.put,Aa,Ab,Ac,Ad,Ae,Af]
     clear b
     refine wpAnyH_ready (rs:=[7]) (by kernel_rfl) (by simp) ?_
     refine AllReadyH.cons (i:=7) rfl (fun K hK=>?_) AllReadyH.nil
     rw[if_pos (by rfl)]
     simp only[Aa,Ab,Ac]
     go_simp
     refine(HAT.out _ (show Hid (RIt (wr.drew.alloc (.cells #[.int .i64 0,.int .i64 0,.int .i64 0,.string ⟨#[]⟩] 41)) u.its.v N.its)from NP.out.its.rit.stays c)).mono ?_
     rintro e y1 ⟨rfl,d1⟩
     have GI:=Ag (GI.out.later d1)
     have c:=qAa c d1
     refine hK.out _ _ (c) (fun Ah=>?_)
     clear hK K
     try simp only[Act.put,Aa,Ab,Ac,Ad,Ae,Af]
     clear d1
     refine tkQ 8 rfl (by kernel_rfl) (by rfl) (fun _ _=>by simp only[Aa,Ab,Ac];go_simp;try with_reducible rfl) Ah ?_ fun _ _ _ h=>h
     try simp only[Act.put,Aa,Ab,Ac,Ad,Ae,Af]
     refine tkQ 9 rfl (by kernel_rfl) (by rfl) (fun _ _=>by simp only[Aa,Ab,Ac];go_simp;try with_reducible rfl) Ah ?_ fun _ _ _ h=>h
     try simp only[Act.put,Aa,Ab,Ac,Ad,Ae,Af]
     refine tkQ 10 rfl (by kernel_rfl) (by rfl) (fun _ _=>by simp only[Aa,Ab,Ac];go_simp;try with_reducible rfl) Ah ?_ fun _ _ _ h=>h
     try simp only[Act.put,Aa,Ab,Ac,Ad,Ae,Af]
     refine wpAnyH_ready (rs:=[12]) (by kernel_rfl) (by simp) ?_
     refine AllReadyH.cons (i:=12) rfl (fun K hK=>?_) AllReadyH.nil
     rw[if_pos (by rfl)]
     simp only[Aa,Ab,Ac]
     refine qAm 41 _ _ rfl wr.heap.size (by rfl) 41 _ GI.out [.int .i64 q0,.int .i64 f0,.int .i64 l0,.string t0] (by rfl) rfl Tryz.sizeI rfl ?_
     intro x1 kb kt
     have c:=c.trans (kt.below zo)
     have GI:=Ag kb
     refine hK.out _ _ (c) (fun Ah=>?_)
     clear hK K
     try simp only[Act.put,Aa,Ab,Ac,Ad,Ae,Af]
     clear kb kt
     refine tkQ 13 rfl (by kernel_rfl) (by rfl) (fun _ _=>by simp only[Aa,Ab,Ac];go_simp;try with_reducible rfl) Ah ?_ fun _ _ _ h=>h
     try simp only[Act.put,Aa,Ab,Ac,Ad,Ae,Af]
     refine wpAnyH_done (by kernel_rfl) ?_ _
     have hfl2:gf<x1.heap.size:=by have:=c.size;omega
     have HFR2:=Ag (qAk HFR.out hfl c)
     clear HFR Ah zo
     generalize wr.heap.size=gi at GI⊢
     go_wp2_with fail
     refine qEk (C:=fun w'=>Below x1.heap.size x1 w') (by kernel_rfl) (by kernel_rfl) (Below.refl _ _).drew ?_
     go_big_quiet_want
     refine qAh (.bool true) (fun w' hw'=>by go_simp) ?_
     go_big_quiet_on
     simp only[Act.put,Ad,Ae,Af]
     go_big_quiet_want
     refine qAh (.bool false) (fun w' hw'=>by go_simp) ?_
     go_big_quiet_on
     simp only[Act.put,Ad,Ae,Af]
     go_big_quiet_want
     refine qAh (.bool false) (fun w' hw'=>by go_simp) ?_
     go_big_quiet_on
     simp only[Act.put,Ad,Ae,Af]
     go_big_quiet_want
     refine qAh (.agg #[.int .i64 q0,.int .i64 f0,.int .i64 l0,.string t0]) (fun w' hw'=>by have r0:w'.cell? ⟨gi,0,none⟩=some (.int .i64 q0):=(GI.out.later hw').cell 0;have r1:w'.cell? ⟨gi,1,none⟩=some (.int .i64 f0):=(GI.out.later hw').cell 1;have r2:w'.cell? ⟨gi,2,none⟩=some (.int .i64 l0):=(GI.out.later hw').cell 2;have r3:w'.cell? ⟨gi,3,none⟩=some (.string t0):=(GI.out.later hw').cell 3;go_simp) ?_
     go_big_quiet_on
     simp only[Act.put,Ad,Ae,Af]
     go_big_quiet_want
     refine qAh (.slice (some ⟨gf,fo,none⟩) fn fc) (fun w' hw'=>by go_simp) ?_
     go_big_quiet_on
     simp only[Act.put,Ad,Ae,Af]
     go_big_quiet_want
     refine qAh (.int .i64 ((j:Int))) (fun w' hw'=>by go_simp) ?_
     go_big_quiet_on
     simp only[Act.put,Ad,Ae,Af]
     go_big_quiet_want
     refine qAh (.pointer (some ⟨gf,fo+j * 4,none⟩)) (fun w' hw'=>by go_simp) ?_
     go_big_quiet_on
     simp only[Act.put,Ad,Ae,Af]
     go_big_quiet_want
     refine qAh (.agg #[.int .i64 q0,.int .i64 f0,.int .i64 l0,.string t0]) (fun w' hw'=>by have r0:=(hw'.cell (p:=⟨gf,fo+j * 4,none⟩) hfl2).trans (HFR2.out 0 _ rfl);have r1:=(hw'.cell (p:=⟨gf,fo+j * 4+1,none⟩) hfl2).trans (HFR2.out 1 _ rfl);have r2:=(hw'.cell (p:=⟨gf,fo+j * 4+2,none⟩) hfl2).trans (HFR2.out 2 _ rfl);have r3:=(hw'.cell (p:=⟨gf,fo+j * 4+3,none⟩) hfl2).trans (HFR2.out 3 _ rfl);go_simp) ?_
     go_big_quiet_on
     simp only[Act.put,Ad,Ae,Af]
     go_big_quiet_want
     refine qAh (.bool false) (fun w' hw'=>by go_simp) ?_
     go_big_quiet_on
     simp only[Act.put,Ad,Ae,Af]
     go_big_quiet_want
     refine qAh (.bool false) (fun w' hw'=>by go_simp) ?_
     go_big_quiet_on
     simp only[Act.put,Ad,Ae,Af]
     refine wpQuiet_nil ?_
     intro w6 hb6
     have B6:=Ag (qAa (qAa BR.out c) hb6)
     clear hb6 BR c GI HFR2
     go_wp2_with fail
     go_roundw
     case rel=>exact⟨j+1,by omega,by go_num,B6⟩
     case measure=>simp[intOf];omega
   ·have hjn:j=fn:=by omega
    have hd:decide ((j:Int)<(fn:Int))=false:=by simp;omega
    have GT:=Ag (GT.out.later BR.out)
    have hq1:decide (N.li≤((aruP N.its:Nat):Int))=true:=by simpa using NAR
    have hq2:(N.rd==t.r)=true:=by have:=NRD.out;simpa using this
    clear hjn
    go_wp2_with fail
    refine qEk (C:=fun w'=>Below wr.heap.size wr w') (by kernel_rfl) (by kernel_rfl) (Below.refl _ _).drew ?_
    go_big_quiet_want
    refine qAh (.pointer (some ⟨gGN,8,none⟩)) (fun w' hw'=>by go_simp) ?_
    go_big_quiet_on
    simp only[Act.put,Ad,Ae,Af]
    go_big_quiet_want
    refine qAh (.int .i64 N.li) (fun w' hw'=>by have r8:w'.cell? ⟨gGN,8,none⟩=some (.int .i64 N.li):=(GN.out.later hw').cell 8;go_simp) ?_
    go_big_quiet_on
    simp only[Act.put,Ad,Ae,Af]
    go_big_quiet_want
    refine qAh (.pointer (some ⟨gGN,3,none⟩)) (fun w' hw'=>by go_simp) ?_
    go_big_quiet_on
    simp only[Act.put,Ad,Ae,Af]
    go_big_quiet_want
    refine qAh (.slice u.its.a u.its.n u.its.c) (fun w' hw'=>by have r3:w'.cell? ⟨gGN,3,none⟩=some (.slice u.its.a u.its.n u.its.c):=(GN.out.later hw').cell 3;go_simp) ?_
    go_big_quiet_on
    simp only[Act.put,Ad,Ae,Af]
    go_big_quiet_want
    refine q_callB (W:=wr) (.int .i64 (((aruP N.its:Nat):Int))) 17 #[(.slice u.its.a u.its.n u.its.c)] (fun w' hw'=>by go_simp) (fun w' hw'=>qKj N.its (show Hid (RIt w' (.slice u.its.a u.its.n u.its.c) N.its)from NP.out.its.rit.stays hw') NS.out.its) ?_
    go_big_quiet_on
    simp only[Act.put,Ad,Ae,Af]
    go_big_quiet_want
    refine qAh (.bool true) (fun w' hw'=>by go_simp) ?_
    go_big_quiet_on
    simp only[Act.put,Ad,Ae,Af]
    go_big_quiet_want
    refine qAh (.bool true) (fun w' hw'=>by go_simp) ?_
    go_big_quiet_on
    simp only[Act.put,Ad,Ae,Af]
    go_big_quiet_want
    refine qAh (.pointer (some ⟨gGN,6,none⟩)) (fun w' hw'=>by go_simp) ?_
    go_big_quiet_on
    simp only[Act.put,Ad,Ae,Af]
    go_big_quiet_want
    refine qAh (.int .i64 N.rd) (fun w' hw'=>by have r6:w'.cell? ⟨gGN,6,none⟩=some (.int .i64 N.rd):=(GN.out.later hw').cell 6;go_simp) ?_
    go_big_quiet_on
    simp only[Act.put,Ad,Ae,Af]
    go_big_quiet_want
    refine qAh (.pointer (some ⟨gGT,1,none⟩)) (fun w' hw'=>by go_simp) ?_
    go_big_quiet_on
    simp only[Act.put,Ad,Ae,Af]
    go_big_quiet_want
    refine qAh (.int .i64 t.r) (fun w' hw'=>by have r1:w'.cell? ⟨gGT,1,none⟩=some (.int .i64 t.r):=(GT.out.later hw').cell 1;go_simp) ?_
    go_big_quiet_on
    simp only[Act.put,Ad,Ae,Af]
    go_big_quiet_want
    refine qAh (.bool true) (fun w' hw'=>by go_simp) ?_
    go_big_quiet_on
    simp only[Act.put,Ad,Ae,Af]
    go_big_quiet_want
    refine qAh (.bool true) (fun w' hw'=>by go_simp) ?_
    go_big_quiet_on
    simp only[Act.put,Ad,Ae,Af]
    go_big_quiet_want
    refine qAh (.bool true) (fun w' hw'=>by go_simp) ?_
    go_big_quiet_on
    simp only[Act.put,Ad,Ae,Af]
    refine wpQuiet_nil ?_
    intro w6 hb6
    go_wp2_with fail
    go_ret
    exact⟨rfl,qAa (qAa BW.out BR.out) hb6⟩
end Go.Proofs.YthdjkkiegecgnaaGreat
