/- Joined texts: CHf CShr CWa CSla CLem14 CWe CSp1. -/
import Derived.Test.YthdjkkiegecgnaaGreatOq16
import Derived.Test.YthdjkkiegecgnaaGreatOq18
import Derived.Test.YthdjkkiegecgnaaGreatOq17
import Derived.Test.YthdjkkiegecgnaaGreatOq13
import Derived.Test.YthdjkkiegecgnaaGreatOq15
import Derived.Test.YthdjkkiegecgnaaGreatOq1
import Derived.Test.YthdjkkiegecgnaaGreatOq10
import Derived.Test.YthdjkkiegecgnaaGreatOq5
import Derived.Deep.DeepCutAuto
set_option maxRecDepth 100000
set_option maxHeartbeats 16000000
namespace Go.Proofs.YthdjkkiegecgnaaGreat
open Go.RowKit Pl
set_option linter.unusedSimpArgs false
set_option linter.unusedVariables false
def Mt.hadH(m:Mt):Mt:=m.setH (m.he+m.hear.length)
theorem spAt_s(ts:List It)(s:Sv)(n:Int)(q f l:Int)(t:ByteArray)(w:World)(h:Hid (RIt w s.v ts))(hl:ts.length≤1048576)(hy:Hid ((atP ts n).getD zIt=(q,f,l,t))):Calls Tryz.prog 16 #[.slice s.a s.n s.c,.int .i64 n] w fun e w'=>e=.returned (.tuple #[.agg #[.int .i64 q,.int .i64 f,.int .i64 l,.string t],.bool (hasP ts n)])∧Below w.heap.size w w':=by
 obtain⟨ao,cap,h1,h2⟩:=h.out
 unfold Sv.v at h1
 have h3:=qGu ao cap ts n w h2 hl
 rw[hy.out]at h3
 rw[h1]
 exact h3
theorem qAs{m:Mt}(h:m.ok=true):qAy m.rid m.ms=true∧inB m.ms m.id=true∧iGo 0 m.its=true∧sayB m.lv m.tx=true∧(0≤m.rd∧m.rd≤1000000000)∧(0≤m.se∧m.se≤60)∧(0≤m.li∧m.li≤((aruP m.its:Nat):Int))∧(0≤m.he∧m.he≤((aruP m.its:Nat):Int))∧(ntB m.la.c m.la.r m.la.q m.la.a m.la.b m.la.ws||tkB m.la.c m.la.r m.la.q m.la.a m.la.b m.la.ws)=true:=by
 unfold Mt.ok at h
 simp only[Bool.and_eq_true,decide_eq_true_eq]at h
 exact⟨h.1,h.2.1,h.2.2.1,h.2.2.2.1,h.2.2.2.2.1,h.2.2.2.2.2.1,h.2.2.2.2.2.2.1,h.2.2.2.2.2.2.2.1,h.2.2.2.2.2.2.2.2⟩
theorem ok_of{m:Mt}(h1:qAy m.rid m.ms=true)(h2:inB m.ms m.id=true)(h3:iGo 0 m.its=true)(h4:sayB m.lv m.tx=true)(h5:0≤m.rd∧m.rd≤1000000000)(h6:0≤m.se∧m.se≤60)(h7:0≤m.li∧m.li≤((aruP m.its:Nat):Int))(h8:0≤m.he∧m.he≤((aruP m.its:Nat):Int))(h9:(ntB m.la.c m.la.r m.la.q m.la.a m.la.b m.la.ws||tkB m.la.c m.la.r m.la.q m.la.a m.la.b m.la.ws)=true):m.ok=true:=by
 unfold Mt.ok
 simp only[Bool.and_eq_true,decide_eq_true_eq]
 exact⟨h1,h2,h3,h4,h5,h6,h7,h8,h9⟩
theorem aru_60{ts:List It}(h:iGo 0 ts=true):aruP ts≤60:=Nat.le_trans (qLh ts) (qCt h)
theorem aru_at{ts:List It}(h:iGo 0 ts=true){n:Int}(h1:1≤n)(h2:n≤(aruP ts:Int)): ∃x,atP ts n=some x:=by
 have:=(qJb h).1 n.toNat (by omega) (by omega)
 rw[show((n.toNat:Nat):Int)=n by omega]at this
 unfold hasP at this
 cases hx:atP ts n with
 |none=>rw[hx]at this;cases this
 |some x=>exact⟨x,rfl⟩
theorem spHear_yes(m:Mt)(v:Mv)(w:World)(h:Hid (MtP w m v))(hs:Hid (MtS m))(hok:Hid (m.ok=true)):
  Calls Tryz.prog 191 #[.agg #[.int .i64 m.id,.int .i64 m.rid,.slice v.ms.a v.ms.n v.ms.c,.slice v.its.a v.its.n v.its.c,.slice v.lv.a v.lv.n v.lv.c,.slice v.tx.a v.tx.n v.tx.c,.int .i64 m.rd,.int .i64 m.se,.int .i64 m.li,.int .i64 m.he,.int .i64 m.la.c,.int .i64 m.la.r,.int .i64 m.la.q,.int .i64 m.la.a,.int .i64 m.la.b,.slice v.ws.a v.ws.n v.ws.c]] w fun e w'=>∃(u:Mv) (s:Sv) (h':Int),h'=m.he+m.hear.length∧e=.returned (.tuple #[.agg #[.int .i64 m.id,.int .i64 m.rid,.slice u.ms.a u.ms.n u.ms.c,.slice u.its.a u.its.n u.its.c,.slice u.lv.a u.lv.n u.lv.c,.slice u.tx.a u.tx.n u.tx.c,.int .i64 m.rd,.int .i64 m.se,.int .i64 m.li,.int .i64 h',.int .i64 m.la.c,.int .i64 m.la.r,.int .i64 m.la.q,.int .i64 m.la.a,.int .i64 m.la.b,.slice u.ws.a u.ws.n u.ws.c],.slice s.a s.n s.c])∧MtO w' w.heap.size m.hadH u∧SlI w' w.heap.size s.v m.hear∧(∀k,s.v.ownBlock=some k→¬u.own k)∧Below w.heap.size w w':=by
 obtain⟨_,_,hIg,_,_,_,_,hHe,_⟩:=qAs hok.out
 have hA60:aruP m.its≤60:=aru_60 hIg
 have HIG:Hid (iGo 0 m.its=true):=hIg
 obtain⟨L,hL⟩: ∃L:List It,L=m.hear:=⟨_,rfl⟩
 obtain⟨N,hN⟩: ∃N:Nat,N=((aruP m.its:Int) - m.he).toNat:=⟨_,rfl⟩
 have HL:Hid (qFh m.its m.li N m.he=L):=(by rw[hL,hN];rfl:_=_)
 have HLN:L.length≤N:=by have:=qEm m.its m.li N m.he;rw[HL.out]at this;exact this
 have zN:N≤60:=by omega
 have HN:Hid (N=((aruP m.its:Int) - m.he).toNat):=hN
 have HLE:Hid (L=m.hear):=hL
 rw[←hL]
 clear hL hN hIg
 obtain⟨HA,HR,HB⟩:=en2 w 32 [.int .i64 m.id,.int .i64 m.rid,.slice v.ms.a v.ms.n v.ms.c,.slice v.its.a v.its.n v.its.c,.slice v.lv.a v.lv.n v.lv.c,.slice v.tx.a v.tx.n v.tx.c,.int .i64 m.rd,.int .i64 m.se,.int .i64 m.li,.int .i64 m.he,.int .i64 m.la.c,.int .i64 m.la.r,.int .i64 m.la.q,.int .i64 m.la.a,.int .i64 m.la.b,.slice v.ws.a v.ws.n v.ws.c] 32 [.int .i64 0,.int .i64 0,.slice none 0 0,.slice none 0 0,.slice none 0 0,.slice none 0 0,.int .i64 0,.int .i64 0,.int .i64 0,.int .i64 0,.int .i64 0,.int .i64 0,.int .i64 0,.int .i64 0,.int .i64 0,.slice none 0 0]
 have HP:=Ag (h.out.later HB.out)
 clear h
 go_enter Tryz.func191,Tryz.ntmps191
 go_wp2_with (first|(refine qAb rfl 32 _ rfl w.heap.size 0 rfl 32 _ HA.out (mC m v) rfl _ Tryz.underlying32 rfl Tryz.sizeM ?_))
 generalize ((w.alloc (.cells #[.int .i64 m.id,.int .i64 m.rid,.slice v.ms.a v.ms.n v.ms.c,.slice v.its.a v.its.n v.its.c,.slice v.lv.a v.lv.n v.lv.c,.slice v.tx.a v.tx.n v.tx.c,.int .i64 m.rd,.int .i64 m.se,.int .i64 m.li,.int .i64 m.he,.int .i64 m.la.c,.int .i64 m.la.r,.int .i64 m.la.q,.int .i64 m.la.a,.int .i64 m.la.b,.slice v.ws.a v.ws.n v.ws.c] 32)).alloc (.cells #[.int .i64 0,.int .i64 0,.slice none 0 0,.slice none 0 0,.slice none 0 0,.slice none 0 0,.int .i64 0,.int .i64 0,.int .i64 0,.int .i64 0,.int .i64 0,.int .i64 0,.int .i64 0,.int .i64 0,.int .i64 0,.slice none 0 0] 32))=W at *
 have zw:w.heap.size≤W.heap.size:=HB.out.size
 have zr:w.heap.size+1<W.heap.size:=HR.out.lt
 refine(qCm m v _ HP hs).mono ?_
 rintro e w1 ⟨u,rfl,o3,b⟩
 have HO:Hid (MtO w1 W.heap.size m u):=o3
 have z1:=b.size
 obtain⟨HA,HR,HP,HB⟩:=cy4 (HA.out.later b) (HR.out.later b) (HP.out.later b) (qAa HB.out b)
 clear o3 b
 have hz:=Ag (Bx.new w1 32 [.int .i64 0,.int .i64 0,.slice none 0 0,.slice none 0 0,.slice none 0 0,.slice none 0 0,.int .i64 0,.int .i64 0,.int .i64 0,.int .i64 0,.int .i64 0,.int .i64 0,.int .i64 0,.int .i64 0,.int .i64 0,.slice none 0 0])
 go_wp2_with (first|(refine qAd rfl 32 _ _ rfl w1.heap.size rfl 32 _ hz.out [.int .i64 m.id,.int .i64 m.rid,.slice u.ms.a u.ms.n u.ms.c,.slice u.its.a u.its.n u.its.c,.slice u.lv.a u.lv.n u.lv.c,.slice u.tx.a u.tx.n u.tx.c,.int .i64 m.rd,.int .i64 m.se,.int .i64 m.li,.int .i64 m.he,.int .i64 m.la.c,.int .i64 m.la.r,.int .i64 m.la.q,.int .i64 m.la.a,.int .i64 m.la.b,.slice u.ws.a u.ws.n u.ws.c] rfl rfl Tryz.sizeM rfl ?_;intro w4 OB TB;have b:Below w1.heap.size w1 w4:=((Below.refl _ _).alloc (Nat.le_refl _) _).trans (TB.below (Nat.le_refl _));have HG:=Ag OB;have HO:=Ag (HO.out.later b);have z4:=b.size;clear OB TB;refine Stp.here ?_))
 refine Stp.go ?_
 generalize hgg:w1.heap.size=g at *
 clear hz
 obtain⟨HA,HR,HP,HB⟩:=cy4 (HA.out.later (hgg ▸ b)) (HR.out.later (hgg ▸ b)) (HP.out.later (hgg ▸ b)) (qAa HB.out (hgg ▸ b))
 have zgl:=HG.out.lt
 clear b hgg
 have b:=bA w4 (.cells #[] 41)
 have S0:Hid (SlI (w4.alloc (.cells #[] 41)) w4.heap.size (.slice (some ⟨w4.heap.size,0,none⟩) 0 0) []):=SlI.made w4 w4.heap.size (Nat.le_refl _)
 obtain⟨HA5,HP5,B5⟩:=cy3 (HA.out.later b) (HP.out.later b) b
 clear b
 go_wp2_with (first|(refine qAb rfl 32 _ rfl w.heap.size 0 rfl 32 _ HA5.out (mC m v) rfl _ Tryz.underlying32 rfl Tryz.sizeM ?_))
 generalize w4.alloc (.cells #[] 41)=W5 at *
 refine(qCg m v _ HP5.out.r hs).mono ?_
 rintro e w6 ⟨rfl,b⟩
 rw[hok.out]
 obtain⟨S0,B6,HA6,HP6⟩:=cy4 (S0.out.below b) (qAa B5.out b) (HA5.out.later b) (HP5.out.later b)
 clear b HA5 HP5 B5
 have r3:=HA6.out.cell 3
 go_wp2_with fail
 refine(qKj m.its (show Hid (RIt w6 (.slice v.its.a v.its.n v.its.c) m.its)from HP6.out.its.rit) hs.out.its).mono ?_
 rintro e w7 ⟨rfl,b⟩
 obtain⟨S0,B7⟩:=cy2 (S0.out.below b) (qAa B6.out b)
 have K7:Hid (KeepBut g w4 w7):=qAc B7.out
 have HG7:=Ag (HG.out.later B7.out)
 clear b HA6 HP6 B6 r3
 have FIN:Hid (∀(k:Nat) (s:Sv) (wr wz:World),k=L.length→SlI wr w4.heap.size s.v (L.take k)→KeepBut g w4 wr→TurnAt (w.heap.size+1) wr wz→MtO wz w.heap.size m.hadH u∧SlI wz w.heap.size s.v L∧(∀k,s.v.ownBlock=some k→¬u.own k)∧Below w.heap.size w wz):=by
  intro k s wr wz hk hS hK hT
  have o1:MtO wr W.heap.size m u:=HO.out.keepb HG.out hK (by decide) (by decide) (by decide)
  have r1:Bx wr (w.heap.size+1) 32 [.int .i64 0,.int .i64 0,.slice none 0 0,.slice none 0 0,.slice none 0 0,.slice none 0 0,.int .i64 0,.int .i64 0,.int .i64 0,.int .i64 0,.int .i64 0,.int .i64 0,.int .i64 0,.int .i64 0,.int .i64 0,.slice none 0 0]:=HR.out.keepb hK (by omega)
  have o2:=(o1.past r1 hT (by decide) (by decide) (by decide)).down zw
  subst hk
  rw[List.take_length]at hS
  refine⟨⟨o2.ms,o2.its,o2.lv,o2.tx,o2.ws,o2.a1,o2.a2,o2.a3⟩,(hS.past r1 hT (by decide)).down (by omega),fun k hk ho=>?_,(HB.out.trans (hK.below (by omega) HB.out.size)).trans (hT.below (by omega))⟩
  have h1:=(hS.lt k hk).1
  have h2:=(HO.out.lt ho).2
  omega
 have hlt7:w4.heap.size≤w7.heap.size:=B7.out.size
 go_wp2_with fail
 go_loopw [5] (fun v5 wr=>∃(k:Nat),k≤L.length∧Hid (SlI wr w4.heap.size v5 (L.take k))∧Hid (qFh m.its m.li (N - k) (m.he+k)=L.drop k)∧Hid (Bx wr g 32 [.int .i64 m.id,.int .i64 m.rid,.slice u.ms.a u.ms.n u.ms.c,.slice u.its.a u.its.n u.its.c,.slice u.lv.a u.lv.n u.lv.c,.slice u.tx.a u.tx.n u.tx.c,.int .i64 m.rd,.int .i64 m.se,.int .i64 m.li,.int .i64 (m.he+(k:Int)),.int .i64 m.la.c,.int .i64 m.la.r,.int .i64 m.la.q,.int .i64 m.la.a,.int .i64 m.la.b,.slice u.ws.a u.ws.n u.ws.c])∧Hid (KeepBut g w4 wr)) (fun v5 _=>N+1 - lenV v5)
 case atStart=>exact⟨0,Nat.zero_le _,S0,by simpa using HL,by simpa using HG7,K7⟩
 case round=>
  clear S0 HG7 K7 B7 HL
  obtain⟨k,hk,hS,hE,hG,hK⟩:=hrel
  obtain⟨s,hv⟩:=hS.out.sv
  subst hv
  have hS:Hid (SlI wr w4.heap.size s.v (L.take k)):=hS
  have hV:Hid (lenV (.slice s.a s.n s.c)=k):=(by have:=lenV_of hS.out;rw[List.length_take]at this;simp only[Sv.v]at this;omega:lenV (.slice s.a s.n s.c)=k)
  obtain⟨hA,hR⟩:=cy2 (HA.out.keepb hK.out (by omega)) (HR.out.keepb hK.out (by omega))
  have hI:Hid (SlI wr 0 v.its.v m.its):=HP.out.its.keepb HG.out hK.out (by decide)
  have z4r:w4.heap.size≤wr.heap.size:=hK.out.size
  have r9:=hG.out.cell 9
  by_cases hlt:k<N
  ·have hd:decide (m.he+(k:Int)<(aruP m.its:Int))=true:=by have:=HN.out;simp;omega
   have hwr:IntKind.i64.wrap (m.he+(k:Int)+1)=m.he+(k:Int)+1:=by rw[IntKind.wrap_i64];omega
   have r3:=hA.out.cell 3
   obtain⟨⟨q,f,l,t⟩,hy⟩: ∃y:It,atP m.its (m.he+(k:Int)+1)=some y:=aru_at HIG.out (by omega) (by have:=HN.out;omega)
   have HY:Hid (atP m.its (m.he+(k:Int)+1)=some (q,f,l,t)):=hy
   have HX:Hid ((atP m.its (m.he+(k:Int)+1)).getD zIt=(q,f,l,t)):=(by rw[hy];rfl:_=_)
   clear hy
   go_wp2_with fail
   refine(spAt_s m.its v.its (m.he+(k:Int)+1) q f l t _ (show Hid (RIt wr (.slice v.its.a v.its.n v.its.c) m.its)from hI.out.rit) hs.out.its HX).mono ?_
   rintro e w8 ⟨rfl,b⟩
   have z8:=b.size
   obtain⟨hS,hG,hA,hR,hK⟩:=cy5 (hS.out.below b) (hG.out.later b) (hA.out.later b) (hR.out.later b) (hK.out.trans (qAc b))
   clear b hd r3 r9 hI
   have hz:=Ag (Bx.new w8 41 [.int .i64 0,.int .i64 0,.int .i64 0,.string ⟨#[]⟩])
   go_wp2_with (first|(refine qAd rfl 41 _ _ rfl w8.heap.size rfl 41 _ hz.out [.int .i64 q,.int .i64 f,.int .i64 l,.string t] rfl rfl Tryz.sizeI rfl ?_;intro w9 OB TB;have b:Below w8.heap.size w8 w9:=((Below.refl _ _).alloc (Nat.le_refl _) _).trans (TB.below (Nat.le_refl _));have hX:=Ag OB;clear OB TB;refine Stp.here ?_))
   refine Stp.go ?_
   have z9:=b.size
   obtain⟨hS,hG,hA,hR,hK⟩:=cy5 (hS.out.below b) (hG.out.later b) (hA.out.later b) (hR.out.later b) (hK.out.trans (qAc b))
   clear b hz
   generalize w8.heap.size=gx at *
   have x0:=hX.out.cell 0
   have x2:=hX.out.cell 2
   have a8:=hA.out.cell 8
   cases hwt:waitB m.li q l with
   |true=>
    have hE0:[]=L.drop k:=by
     have e:=hE.out
     rw[show N - k=(N - k - 1)+1 by omega,qJw HY.out hwt]at e
     exact e
    have hkL:k=L.length:=by have:=congrArg List.length hE0;simp at this;omega
    have HKL:Hid (k=L.length):=hkL
    clear hE0 hkL
    have h1:l=2∧m.li<q:=by unfold waitB at hwt;simpa using hwt
    obtain⟨h2,h3⟩:=h1
    subst h2
    have h4:decide (m.li<q)=true:=by simpa using h3
    clear hwt
    go_wp2_with (first|(refine qAb rfl 32 _ rfl g 0 rfl 32 _ hG.out [.int .i64 m.id,.int .i64 m.rid,.slice u.ms.a u.ms.n u.ms.c,.slice u.its.a u.its.n u.its.c,.slice u.lv.a u.lv.n u.lv.c,.slice u.tx.a u.tx.n u.tx.c,.int .i64 m.rd,.int .i64 m.se,.int .i64 m.li,.int .i64 (m.he+(k:Int)),.int .i64 m.la.c,.int .i64 m.la.r,.int .i64 m.la.q,.int .i64 m.la.a,.int .i64 m.la.b,.slice u.ws.a u.ws.n u.ws.c] rfl _ Tryz.underlying32 rfl Tryz.sizeM ?_)|(refine qAd rfl 32 _ _ rfl (w.heap.size+1) rfl 32 _ hR.out [.int .i64 m.id,.int .i64 m.rid,.slice u.ms.a u.ms.n u.ms.c,.slice u.its.a u.its.n u.its.c,.slice u.lv.a u.lv.n u.lv.c,.slice u.tx.a u.tx.n u.tx.c,.int .i64 m.rd,.int .i64 m.se,.int .i64 m.li,.int .i64 (m.he+(k:Int)),.int .i64 m.la.c,.int .i64 m.la.r,.int .i64 m.la.q,.int .i64 m.la.a,.int .i64 m.la.b,.slice u.ws.a u.ws.n u.ws.c] rfl rfl Tryz.sizeM rfl ?_;intro wz RZ TZ))
    refine bodyPost_ret (qBu Tryz.results191 (w.heap.size+1) 32 [.int .i64 m.id,.int .i64 m.rid,.slice u.ms.a u.ms.n u.ms.c,.slice u.its.a u.its.n u.its.c,.slice u.lv.a u.lv.n u.lv.c,.slice u.tx.a u.tx.n u.tx.c,.int .i64 m.rd,.int .i64 m.se,.int .i64 m.li,.int .i64 (m.he+(k:Int)),.int .i64 m.la.c,.int .i64 m.la.r,.int .i64 m.la.q,.int .i64 m.la.a,.int .i64 m.la.b,.slice u.ws.a u.ws.n u.ws.c] _ rfl RZ Tryz.underlying32 rfl Tryz.sizeM) rfl ?_
    have F:=FIN.out k s _ wz HKL.out hS.out hK.out TZ
    exact⟨u,s,m.he+(k:Int),by rw[HKL.out],rfl,F⟩
   |false=>
    have hE1:Hid ((q,f,l,t)::qFh m.its m.li (N - (k+1)) (m.he+(k:Int)+1)=L.drop k):=by
     show _=_
     have e:=hE.out
     rw[show N - k=(N - (k+1))+1 by omega,hears_go HY.out hwt]at e
     exact e
    have hkL:k<L.length:=by
     have:=congrArg List.length hE1.out
     simp at this
     omega
    have hT:Hid (L.take (k+1)=L.take k++[(q,f,l,t)]∧L.drop (k+1)=qFh m.its m.li (N - (k+1)) (m.he+(k:Int)+1)):=by
     have e:=hE1.out
     rw[List.drop_eq_getElem_cons hkL]at e
     injection e with e1 e2
     exact⟨by rw[List.take_succ_eq_append_getElem hkL,←e1],e2.symm⟩
    have hkl:(L.take k).length≤1048576:=by rw[List.length_take];omega
    have z9':w4.heap.size≤w9.heap.size:=by omega
    have OUT:Hid (∀(v5:Value) (w10:World),SlI w10 w4.heap.size v5 (L.take k++[(q,f,l,t)])→w9.grownBy w10 (Sv.v s).ownBlock→∃s5:Sv,v5=.slice s5.a s5.n s5.c∧SlI w10 w4.heap.size s5.v (L.take (k+1))∧Bx w10 g 32 [.int .i64 m.id,.int .i64 m.rid,.slice u.ms.a u.ms.n u.ms.c,.slice u.its.a u.its.n u.its.c,.slice u.lv.a u.lv.n u.lv.c,.slice u.tx.a u.tx.n u.tx.c,.int .i64 m.rd,.int .i64 m.se,.int .i64 m.li,.int .i64 (m.he+(k:Int)),.int .i64 m.la.c,.int .i64 m.la.r,.int .i64 m.la.q,.int .i64 m.la.a,.int .i64 m.la.b,.slice u.ws.a u.ws.n u.ws.c]∧KeepBut g w4 w10):=by
     intro v5 w10 s5 g5
     obtain⟨s6,hf6⟩:=s5.sv
     subst hf6
     have zu: ∀n,(Sv.v s).ownBlock=some n→w4.heap.size≤n:=fun n hn=>(hS.out.lt n hn).1
     exact⟨s6,rfl,by rw[hT.out.1];exact s5,hG.out.grown g5 (fun e=>by have:=zu g e.symm;omega),keep_grow hK.out g5 zu⟩
    clear hE1 hE
    have h1:(l=2∧m.li<q)=False:=by unfold waitB at hwt;simpa using hwt
    by_cases h2:l=2
    ·have h4:decide (m.li<q)=false:=by simpa [h2] using h1
     have h5:(l==2)=true:=by simpa using h2
     clear hwt h1 h2
     go_wp2_with (first|(refine qAb rfl 41 _ rfl gx 0 rfl 41 _ hX.out [.int .i64 q,.int .i64 f,.int .i64 l,.string t] rfl _ Tryz.underlying41 rfl Tryz.sizeI ?_)|(at_builtin;refine qAu rfl _ _ 27 rfl Tryz.underlying27 w4.heap.size (.slice s.a s.n s.c) (L.take k) rfl hS.out (q,f,l,t) rfl hkl z9' ?_;intro v5 w10 s5' g5' _ _;refine Stp.here ?_))
     refine Stp.go ?_
     obtain⟨s5,rfl,S5,G5,K5⟩:=OUT.out v5 w10 s5' g5'
     have hG:=Ag G5
     have S5:Hid (SlI w10 w4.heap.size s5.v (L.take (k+1))):=S5
     have K5:Hid (KeepBut g w4 w10):=K5
     clear s5' g5' OUT hS hX hK G5
     have r9:=hG.out.cell 9
     go_wp2_with (first|(refine qAe rfl 3 _ _ rfl g 9 rfl 32 _ hG.out (.int .i64 (m.he+(k:Int)+1)) rfl (by simp) rfl Tryz.sizeN3 [.int .i64 m.id,.int .i64 m.rid,.slice u.ms.a u.ms.n u.ms.c,.slice u.its.a u.its.n u.its.c,.slice u.lv.a u.lv.n u.lv.c,.slice u.tx.a u.tx.n u.tx.c,.int .i64 m.rd,.int .i64 m.se,.int .i64 m.li,.int .i64 (m.he+(k:Int)+1),.int .i64 m.la.c,.int .i64 m.la.r,.int .i64 m.la.q,.int .i64 m.la.a,.int .i64 m.la.b,.slice u.ws.a u.ws.n u.ws.c] rfl ?_;intro wh OB TB))
     go_simp
     go_roundw
     case rel=>
      refine⟨k+1,by omega,S5.out.past hG.out TB (by decide),?_,?_,K5.out.trans TB.keep⟩
      ·have e:m.he+((k+1:Nat):Int)=m.he+(k:Int)+1:=by omega
       rw[e]
       exact hT.out.2.symm
      ·have e:m.he+((k+1:Nat):Int)=m.he+(k:Int)+1:=by omega
       rw[e]
       exact OB
     case measure=>
      have e1:=hV.out
      have e2:=lenV_of S5.out
      rw[List.length_take]at e2
      simp only[Sv.v]at e2
      omega
    ·have h4:(l==2)=false:=by simpa using h2
     clear hwt h1
     go_wp2_with (first|(refine qAb rfl 41 _ rfl gx 0 rfl 41 _ hX.out [.int .i64 q,.int .i64 f,.int .i64 l,.string t] rfl _ Tryz.underlying41 rfl Tryz.sizeI ?_)|(at_builtin;refine qAu rfl _ _ 27 rfl Tryz.underlying27 w4.heap.size (.slice s.a s.n s.c) (L.take k) rfl hS.out (q,f,l,t) rfl hkl z9' ?_;intro v5 w10 s5' g5' _ _;refine Stp.here ?_))
     refine Stp.go ?_
     obtain⟨s5,rfl,S5,G5,K5⟩:=OUT.out v5 w10 s5' g5'
     have hG:=Ag G5
     have S5:Hid (SlI w10 w4.heap.size s5.v (L.take (k+1))):=S5
     have K5:Hid (KeepBut g w4 w10):=K5
     clear s5' g5' OUT hS hX hK G5
     have r9:=hG.out.cell 9
     go_wp2_with (first|(refine qAe rfl 3 _ _ rfl g 9 rfl 32 _ hG.out (.int .i64 (m.he+(k:Int)+1)) rfl (by simp) rfl Tryz.sizeN3 [.int .i64 m.id,.int .i64 m.rid,.slice u.ms.a u.ms.n u.ms.c,.slice u.its.a u.its.n u.its.c,.slice u.lv.a u.lv.n u.lv.c,.slice u.tx.a u.tx.n u.tx.c,.int .i64 m.rd,.int .i64 m.se,.int .i64 m.li,.int .i64 (m.he+(k:Int)+1),.int .i64 m.la.c,.int .i64 m.la.r,.int .i64 m.la.q,.int .i64 m.la.a,.int .i64 m.la.b,.slice u.ws.a u.ws.n u.ws.c] rfl ?_;intro wh OB TB))
     go_simp
     go_roundw
     case rel=>
      refine⟨k+1,by omega,S5.out.past hG.out TB (by decide),?_,?_,K5.out.trans TB.keep⟩
      ·have e:m.he+((k+1:Nat):Int)=m.he+(k:Int)+1:=by omega
       rw[e]
       exact hT.out.2.symm
      ·have e:m.he+((k+1:Nat):Int)=m.he+(k:Int)+1:=by omega
       rw[e]
       exact OB
     case measure=>
      have e1:=hV.out
      have e2:=lenV_of S5.out
      rw[List.length_take]at e2
      simp only[Sv.v]at e2
      omega
  ·have hd:decide (m.he+(k:Int)<(aruP m.its:Int))=false:=by have:=HN.out;simp;omega
   have hkL:k=L.length:=by omega
   have HKL:Hid (k=L.length):=hkL
   clear hkL
   go_wp2_with (first|(refine qAb rfl 32 _ rfl g 0 rfl 32 _ hG.out [.int .i64 m.id,.int .i64 m.rid,.slice u.ms.a u.ms.n u.ms.c,.slice u.its.a u.its.n u.its.c,.slice u.lv.a u.lv.n u.lv.c,.slice u.tx.a u.tx.n u.tx.c,.int .i64 m.rd,.int .i64 m.se,.int .i64 m.li,.int .i64 (m.he+(k:Int)),.int .i64 m.la.c,.int .i64 m.la.r,.int .i64 m.la.q,.int .i64 m.la.a,.int .i64 m.la.b,.slice u.ws.a u.ws.n u.ws.c] rfl _ Tryz.underlying32 rfl Tryz.sizeM ?_)|(refine qAd rfl 32 _ _ rfl (w.heap.size+1) rfl 32 _ hR.out [.int .i64 m.id,.int .i64 m.rid,.slice u.ms.a u.ms.n u.ms.c,.slice u.its.a u.its.n u.its.c,.slice u.lv.a u.lv.n u.lv.c,.slice u.tx.a u.tx.n u.tx.c,.int .i64 m.rd,.int .i64 m.se,.int .i64 m.li,.int .i64 (m.he+(k:Int)),.int .i64 m.la.c,.int .i64 m.la.r,.int .i64 m.la.q,.int .i64 m.la.a,.int .i64 m.la.b,.slice u.ws.a u.ws.n u.ws.c] rfl rfl Tryz.sizeM rfl ?_;intro wz RZ TZ))
   refine bodyPost_ret (qBu Tryz.results191 (w.heap.size+1) 32 [.int .i64 m.id,.int .i64 m.rid,.slice u.ms.a u.ms.n u.ms.c,.slice u.its.a u.its.n u.its.c,.slice u.lv.a u.lv.n u.lv.c,.slice u.tx.a u.tx.n u.tx.c,.int .i64 m.rd,.int .i64 m.se,.int .i64 m.li,.int .i64 (m.he+(k:Int)),.int .i64 m.la.c,.int .i64 m.la.r,.int .i64 m.la.q,.int .i64 m.la.a,.int .i64 m.la.b,.slice u.ws.a u.ws.n u.ws.c] _ rfl RZ Tryz.underlying32 rfl Tryz.sizeM) rfl ?_
   have F:=FIN.out k s _ wz HKL.out hS.out hK.out TZ
   exact⟨u,s,m.he+(k:Int),by rw[HKL.out],rfl,F⟩
def WkB(w:World)(g:Nat)(k:Wv):Prop:=Bx w g 56 [.int .i64 k.rid,.slice k.mv.a k.mv.n k.mv.c,.slice k.mav.a k.mav.n k.mav.c,.slice k.flv.a k.flv.n k.flv.c,.slice k.hev.a k.hev.n k.hev.c,.slice k.sav.a k.sav.n k.sav.c]
theorem WkB.later{w w':World}{g:Nat}{k:Wv}(h:WkB w g k)(b:Below w.heap.size w w'):WkB w' g k:=Bx.later h b
def atW(ms:List Mt)(d:Int):Int:=match ms.findIdx? (fun e=>e.id==d)with|some k=>(k:Int)|none=> -1
theorem atW_first{ms:List Mt}{d:Int}{k:Nat}(hk:k<ms.length)(he:ms[k].id=d)(h: ∀j,(hj:j<k)→¬(ms[j]'(by omega)).id=d):atW ms d=(k:Int):=by
 unfold atW
 rw[List.findIdx?_eq_some_iff_getElem.2 ⟨hk,by simpa using he,fun j hj=>by simpa using h j hj⟩]
theorem atW_none{ms:List Mt}{d:Int}(h: ∀j,(hj:j<ms.length)→¬ms[j].id=d):atW ms d= -1:=by
 unfold atW
 rw[List.findIdx?_eq_none_iff.2 fun x hx=>by
  obtain⟨j,hj,rfl⟩:=List.mem_iff_getElem.1 hx
  simpa using h j hj]
theorem atW_at{ms:List Mt}{d:Int}{k:Nat}(h:atW ms d=(k:Int)): ∃hk:k<ms.length,ms[k].id=d:=by
 unfold atW at h
 cases hx:ms.findIdx? (fun e=>e.id==d)with
 |none=>rw[hx]at h;simp at h
 |some j=>
  rw[hx]at h
  have h:(j:Int)=(k:Int):=h
  have h:j=k:=by omega
  subst h
  obtain⟨hk,he,_⟩:=List.findIdx?_eq_some_iff_getElem.1 hx
  exact⟨hk,by simpa using he⟩
theorem atW_mem{ms:List Mt}{d:Int}(h:d∈ms.map (·.id)): ∃k:Nat,atW ms d=(k:Int):=by
 unfold atW
 cases hx:ms.findIdx? (fun e=>e.id==d)with
 |some j=>exact⟨j,rfl⟩
 |none=>
  obtain⟨m,hm,e⟩:=List.mem_map.1 h
  have:=List.findIdx?_eq_none_iff.1 hx m hm
  simp[e]at this
theorem MsP.row{w:World}{B:Nat}{s:Sv}{es:List (Mt × Mv)}(h:MsP w B s.v es){i:Nat}(hi:i<es.length):s.n=es.length∧∃g off,s.a=some ⟨g,off,none⟩∧B≤g∧g<w.heap.size∧w.rangeAt g (off+i * 16) (mcel es[i]):=by
 obtain⟨g,off,cap,hv,hb,hlt,hr⟩:=h.1.read (i:=i) (by simpa using hi)
 simp only[Sv.v,Value.slice.injEq,List.length_map]at hv
 refine⟨hv.2.1,g,off,hv.1,hb,hlt,?_⟩
 simpa using hr
theorem MsP.len{w:World}{B:Nat}{s:Sv}{es:List (Mt × Mv)}(h:MsP w B s.v es):s.n=es.length:=by
 obtain⟨z,hz,e⟩:=h.1.form
 simp only[Sv.v,Value.slice.injEq]at hz
 rw[hz.2.1,e];simp
theorem FsP.row{w:World}{B:Nat}{s:Sv}{es:List (Fl × Sv)}(h:FsP w B s.v es){i:Nat}(hi:i<es.length):s.n=es.length∧∃g off,s.a=some ⟨g,off,none⟩∧B≤g∧g<w.heap.size∧w.rangeAt g (off+i * 12) (fcel es[i]):=by
 obtain⟨g,off,cap,hv,hb,hlt,hr⟩:=h.1.read (i:=i) (by simpa using hi)
 simp only[Sv.v,Value.slice.injEq,List.length_map]at hv
 refine⟨hv.2.1,g,off,hv.1,hb,hlt,?_⟩
 simpa using hr
theorem FsP.len{w:World}{B:Nat}{s:Sv}{es:List (Fl × Sv)}(h:FsP w B s.v es):s.n=es.length:=by
 obtain⟨z,hz,e⟩:=h.1.form
 simp only[Sv.v,Value.slice.injEq]at hz
 rw[hz.2.1,e];simp
theorem HsP.len{w:World}{B:Nat}{s:Sv}{es:List (List It × Sv)}(h:HsP w B s.v es):s.n=es.length:=by
 obtain⟨z,hz,e⟩:=h.1.form
 simp only[Sv.v,Value.slice.injEq]at hz
 rw[hz.2.1,e];simp
theorem qCx{w:World}{g off:Nat}{cs:List Value}(h:w.rangeAt g off cs)(j:Nat){v:Value}(hv:cs[j]? =some v):w.cell? ⟨g,off+j,none⟩=some v:=h j v hv
theorem qCj(g:Nat)(k:Wv)(d:Int)(w:World)(h:Hid (WkB w g k))(hm:Hid (MsP w 0 k.mav.v k.ma))(hl:k.ma.length≤1048576):
  Calls Tryz.prog 48 #[.pointer (some ⟨g,0,none⟩),.int .i64 d] w fun e w'=>e=.returned (.int .i64 (atW (k.ma.map (·.1)) d))∧Below w.heap.size w w':=by
 have h2:=Bx.cell h.out 2
 have hn:=hm.out.len
 have HN:Hid (k.mav.n=k.ma.length):=hn
 have hln:k.mav.n≤1048576:=by omega
 clear hn
 go_enter Tryz.func48,Tryz.ntmps48
 go_wp2_with fail
 go_loopw [5] (fun v5 wr=>∃(i:Nat),i≤k.mav.n∧v5=.int .i64 (i:Int)∧Hid (∀j,(hj:j<i)→(hl:j<k.ma.length)→¬(k.ma[j]'hl).1.id=d)∧Hid (wr=w)) (fun v5 _=>k.mav.n - (intOf v5).toNat)
 case atStart=>exact⟨0,Nat.zero_le _,rfl,fun j hj=>by omega,rfl⟩
 case round=>
  obtain⟨i,hi,rfl,HP,HW⟩:=hrel
  have ew:=HW.out
  subst ew
  by_cases hlt:i<k.mav.n
  ·have him:i<k.ma.length:=by have:=HN.out;omega
   obtain⟨_,gm,off,ha,_,hgl,hr⟩:=hm.out.row him
   have hc:wr.cell? ⟨gm,off+i * 16,none⟩=some (.int .i64 (k.ma[i].1.id)):=by have:=qCx hr 0 (v:=.int .i64 (k.ma[i].1.id)) rfl;simpa using this
   obtain⟨x,hx⟩: ∃x,x=k.ma[i].1.id:=⟨_,rfl⟩
   rw[←hx]at hc
   have HX:Hid (x=k.ma[i].1.id):=hx
   clear hx hr
   have i1:(i:Int)<(k.mav.n:Int):=by omega
   have i0:(0:Int)≤(i:Int):=by omega
   by_cases hxd:x=d
   ·have q:(x==d)=true:=by simpa using hxd
    have HQ:Hid (atW (k.ma.map (·.1)) d=(i:Int)):=(atW_first (by simpa using him) (by simpa [←HX.out] using hxd) (fun j hj=>by have:=HP.out j hj (by omega);simpa using this):_=_)
    clear hxd
    rw[ha]at h2
    go_wp2_with fail
    go_ret
    exact⟨by rw[HQ.out];rfl,Below.refl _ _⟩
   ·have q:(x==d)=false:=by simpa using hxd
    have HQ:Hid (∀j,(hj:j<i+1)→(hl:j<k.ma.length)→¬(k.ma[j]'hl).1.id=d):=fun j hj hl=>by
     by_cases e:j=i
     ·subst e;rw[←HX.out];exact hxd
     ·exact HP.out j (by omega) hl
    clear hxd
    rw[ha]at h2
    go_wp2_with fail
    go_roundw
    case rel=>exact⟨i+1,by omega,by go_num,HQ,trivial⟩
    case measure=>simp[intOf];omega
  ·have HQ:Hid (atW (k.ma.map (·.1)) d= -1):=(atW_none fun j hj=>by have:=HP.out j (by have:=HN.out;simp at hj;omega) (by simpa using hj);simpa using this:_=_)
   go_wp2_with fail
   go_ret
   exact⟨by rw[HQ.out];rfl,Below.refl _ _⟩
def Wv.setM(k:Wv)(i:Nat)(m:Mt)(u:Mv)(s:Sv):Wv:=⟨k.rid,k.ms,k.mv,k.ma.set i (m,u),s,k.fl,k.flv,k.he,k.hev,k.sa,k.sav⟩
theorem qHq{g:Nat}{w a c:World}(b:Below w.heap.size w a)(t:TurnAt g a c):KeepBut g w c:=(qAc b).trans t.keep
theorem qEv(g:Nat)(k:Wv)(i:Nat)(m:Mt)(u:Mv)(w:World)(h:Hid (WkB w g k))(hk:Hid (WkP w k))(hm:Hid (MtP w m u))(hi:i<k.ma.length)(hl:k.ma.length≤1000):
  Calls Tryz.prog 156 #[.pointer (some ⟨g,0,none⟩),.int .i64 (i:Int),.agg #[.int .i64 m.id,.int .i64 m.rid,.slice u.ms.a u.ms.n u.ms.c,.slice u.its.a u.its.n u.its.c,.slice u.lv.a u.lv.n u.lv.c,.slice u.tx.a u.tx.n u.tx.c,.int .i64 m.rd,.int .i64 m.se,.int .i64 m.li,.int .i64 m.he,.int .i64 m.la.c,.int .i64 m.la.r,.int .i64 m.la.q,.int .i64 m.la.a,.int .i64 m.la.b,.slice u.ws.a u.ws.n u.ws.c]] w fun e w'=>e=.returned (.tuple #[])∧∃s:Sv,WkB w' g (k.setM i m u s)∧WkP w' (k.setM i m u s)∧KeepBut g w w':=by
 have b1:=bA w (.cells #[.int .i64 m.id,.int .i64 m.rid,.slice u.ms.a u.ms.n u.ms.c,.slice u.its.a u.its.n u.its.c,.slice u.lv.a u.lv.n u.lv.c,.slice u.tx.a u.tx.n u.tx.c,.int .i64 m.rd,.int .i64 m.se,.int .i64 m.li,.int .i64 m.he,.int .i64 m.la.c,.int .i64 m.la.r,.int .i64 m.la.q,.int .i64 m.la.a,.int .i64 m.la.b,.slice u.ws.a u.ws.n u.ws.c] 32)
 have M1:=Ag (Bx.new w 32 [.int .i64 m.id,.int .i64 m.rid,.slice u.ms.a u.ms.n u.ms.c,.slice u.its.a u.its.n u.its.c,.slice u.lv.a u.lv.n u.lv.c,.slice u.tx.a u.tx.n u.tx.c,.int .i64 m.rd,.int .i64 m.se,.int .i64 m.li,.int .i64 m.he,.int .i64 m.la.c,.int .i64 m.la.r,.int .i64 m.la.q,.int .i64 m.la.a,.int .i64 m.la.b,.slice u.ws.a u.ws.n u.ws.c])
 have zW:(w.alloc (.cells #[.int .i64 m.id,.int .i64 m.rid,.slice u.ms.a u.ms.n u.ms.c,.slice u.its.a u.its.n u.its.c,.slice u.lv.a u.lv.n u.lv.c,.slice u.tx.a u.tx.n u.tx.c,.int .i64 m.rd,.int .i64 m.se,.int .i64 m.li,.int .i64 m.he,.int .i64 m.la.c,.int .i64 m.la.r,.int .i64 m.la.q,.int .i64 m.la.a,.int .i64 m.la.b,.slice u.ws.a u.ws.n u.ws.c] 32)).heap.size=w.heap.size+1:=by simp
 have b2:Below w.heap.size w ((w.alloc (.cells #[.int .i64 m.id,.int .i64 m.rid,.slice u.ms.a u.ms.n u.ms.c,.slice u.its.a u.its.n u.its.c,.slice u.lv.a u.lv.n u.lv.c,.slice u.tx.a u.tx.n u.tx.c,.int .i64 m.rd,.int .i64 m.se,.int .i64 m.li,.int .i64 m.he,.int .i64 m.la.c,.int .i64 m.la.r,.int .i64 m.la.q,.int .i64 m.la.a,.int .i64 m.la.b,.slice u.ws.a u.ws.n u.ws.c] 32)).alloc (.cells #[] 32)):=b1.alloc (by omega) _
 have M2:Hid (Bx ((w.alloc (.cells #[.int .i64 m.id,.int .i64 m.rid,.slice u.ms.a u.ms.n u.ms.c,.slice u.its.a u.its.n u.its.c,.slice u.lv.a u.lv.n u.lv.c,.slice u.tx.a u.tx.n u.tx.c,.int .i64 m.rd,.int .i64 m.se,.int .i64 m.li,.int .i64 m.he,.int .i64 m.la.c,.int .i64 m.la.r,.int .i64 m.la.q,.int .i64 m.la.a,.int .i64 m.la.b,.slice u.ws.a u.ws.n u.ws.c] 32)).alloc (.cells #[] 32)) w.heap.size 32 [.int .i64 m.id,.int .i64 m.rid,.slice u.ms.a u.ms.n u.ms.c,.slice u.its.a u.its.n u.its.c,.slice u.lv.a u.lv.n u.lv.c,.slice u.tx.a u.tx.n u.tx.c,.int .i64 m.rd,.int .i64 m.se,.int .i64 m.li,.int .i64 m.he,.int .i64 m.la.c,.int .i64 m.la.r,.int .i64 m.la.q,.int .i64 m.la.a,.int .i64 m.la.b,.slice u.ws.a u.ws.n u.ws.c]):=M1.out.later ((Below.refl _ _).alloc (Nat.le_refl _) _)
 have S2:Hid (SlN ((w.alloc (.cells #[.int .i64 m.id,.int .i64 m.rid,.slice u.ms.a u.ms.n u.ms.c,.slice u.its.a u.its.n u.its.c,.slice u.lv.a u.lv.n u.lv.c,.slice u.tx.a u.tx.n u.tx.c,.int .i64 m.rd,.int .i64 m.se,.int .i64 m.li,.int .i64 m.he,.int .i64 m.la.c,.int .i64 m.la.r,.int .i64 m.la.q,.int .i64 m.la.a,.int .i64 m.la.b,.slice u.ws.a u.ws.n u.ws.c] 32)).alloc (.cells #[] 32)) 32 16 (w.heap.size+1) (.slice (some ⟨w.heap.size+1,0,none⟩) 0 0) []):=by
  have h:=SlN.made (w.alloc (.cells #[.int .i64 m.id,.int .i64 m.rid,.slice u.ms.a u.ms.n u.ms.c,.slice u.its.a u.its.n u.its.c,.slice u.lv.a u.lv.n u.lv.c,.slice u.tx.a u.tx.n u.tx.c,.int .i64 m.rd,.int .i64 m.se,.int .i64 m.li,.int .i64 m.he,.int .i64 m.la.c,.int .i64 m.la.r,.int .i64 m.la.q,.int .i64 m.la.a,.int .i64 m.la.b,.slice u.ws.a u.ws.n u.ws.c] 32)) 32 16 (w.heap.size+1) (by omega)
  rw[zW]at h
  exact h
 have G2:=Ag (h.out.later b2)
 have A2:Hid (MsP ((w.alloc (.cells #[.int .i64 m.id,.int .i64 m.rid,.slice u.ms.a u.ms.n u.ms.c,.slice u.its.a u.its.n u.its.c,.slice u.lv.a u.lv.n u.lv.c,.slice u.tx.a u.tx.n u.tx.c,.int .i64 m.rd,.int .i64 m.se,.int .i64 m.li,.int .i64 m.he,.int .i64 m.la.c,.int .i64 m.la.r,.int .i64 m.la.q,.int .i64 m.la.a,.int .i64 m.la.b,.slice u.ws.a u.ws.n u.ws.c] 32)).alloc (.cells #[] 32)) 0 k.mav.v k.ma):=hk.out.ma.below b2
 have B2:=Ag b2
 have zW2:((w.alloc (.cells #[.int .i64 m.id,.int .i64 m.rid,.slice u.ms.a u.ms.n u.ms.c,.slice u.its.a u.its.n u.its.c,.slice u.lv.a u.lv.n u.lv.c,.slice u.tx.a u.tx.n u.tx.c,.int .i64 m.rd,.int .i64 m.se,.int .i64 m.li,.int .i64 m.he,.int .i64 m.la.c,.int .i64 m.la.r,.int .i64 m.la.q,.int .i64 m.la.a,.int .i64 m.la.b,.slice u.ws.a u.ws.n u.ws.c] 32)).alloc (.cells #[] 32)).heap.size=w.heap.size+2:=by simp
 have r2:=Bx.cell G2.out 2
 have zg:g<w.heap.size:=Bx.lt h.out
 have hll:([]:List (List Value)).length+(k.ma.map mcel).length≤1048577:=by simp;omega
 clear b1 b2 M1 zW
 go_enter Tryz.func156,Tryz.ntmps156
 go_wp2_with (first|(at_builtin;refine Stp.here ?_))
 refine Stp.go ?_
 generalize (w.alloc (.cells #[.int .i64 m.id,.int .i64 m.rid,.slice u.ms.a u.ms.n u.ms.c,.slice u.its.a u.its.n u.its.c,.slice u.lv.a u.lv.n u.lv.c,.slice u.tx.a u.tx.n u.tx.c,.int .i64 m.rd,.int .i64 m.se,.int .i64 m.li,.int .i64 m.he,.int .i64 m.la.c,.int .i64 m.la.r,.int .i64 m.la.q,.int .i64 m.la.a,.int .i64 m.la.b,.slice u.ws.a u.ws.n u.ws.c] 32)).alloc (.cells #[] 32)=W at *
 refine qFc rfl _ _ 52 rfl _ 208 Tryz.underlying52 Tryz.infoMt rfl (by decide) (w.heap.size+1) (.slice (some ⟨w.heap.size+1,0,none⟩) 0 0) [] rfl S2.out 0 (.slice k.mav.a k.mav.n k.mav.c) (k.ma.map mcel) rfl A2.out.1 hll (by omega) ?_
 intro v3 w3 s3 g3 b3 _
 rw[List.nil_append]at s3
 obtain⟨z,hz,hzn⟩:=s3.form
 subst hz
 obtain⟨B3,M3⟩:=cy2 (B2.out.trans (b3.mono (by omega))) (M2.out.stays b3 (by omega))
 have hi2:i<(k.ma.map mcel).length:=by simpa using hi
 obtain⟨gz,oz,cz,hzv,hzb,hzl,_⟩:=s3.read hi2
 obtain⟨za,zn,zc⟩:=z
 simp only[Value.slice.injEq]at hzv
 obtain⟨e1,e2,e3⟩:=hzv
 subst e1 e2 e3
 have S3:Hid (SlN w3 32 16 (w.heap.size+1) (.slice (some ⟨gz,oz,none⟩) k.ma.length zc) (k.ma.map mcel)):=(by rw[←List.length_map (f:=mcel)];exact s3:SlN _ _ _ _ _ _)
 have i0:(0:Int)≤(i:Int):=by omega
 have i1:(i:Int)<(k.ma.length:Int):=by omega
 clear s3 g3 b3 S2 G2 A2 B2 M2 r2 hzn
 simp only[List.length_map]
 go_wp2_with (first|(refine qAb rfl 32 _ rfl w.heap.size 0 rfl 32 _ M3.out (mC m u) rfl _ Tryz.underlying32 rfl Tryz.sizeM ?_)|(with_reducible refine qBg 32 _ _ rfl ?_))
 refine Stp.go ?_
 have S3':SlN w3 32 16 (w.heap.size+1) (.slice (some ⟨gz,oz,none⟩) (k.ma.map mcel).length zc) (k.ma.map mcel):=by have:=S3.out;rw[←List.length_map (f:=mcel)]at this;exact this
 refine wpList_stN rfl 32 _ _ rfl S3' (i:=i) hi2 rfl (mC m u) rfl rfl rfl Tryz.sizeM ?_
 intro w4 s4 t4
 have B4:=Ag (B3.out.trans (t4.below (by omega)))
 have G4:Hid (WkB w4 g k):=h.out.later B4.out
 have e4:(k.ma.map mcel).set i (mC m u)=(k.ma.set i (m,u)).map mcel:=by rw[List.map_set];rfl
 have M4:Hid (MsP w4 0 (.slice (some ⟨gz,oz,none⟩) k.ma.length zc) (k.ma.set i (m,u))):=by
  refine⟨?_,fun e he=>?_⟩
  ·rw[e4,List.length_map]at s4
   exact s4.down (Nat.zero_le _)
  ·rcases List.mem_or_eq_of_mem_set he with he|rfl
   ·exact(hk.out.ma.2 e he).later B4.out
   ·exact hm.out.later B4.out
 clear s4 t4 S3 S3' M3 B3 e4
 go_wp2_with (first|(refine qAe rfl 52 _ _ rfl g 2 rfl 56 _ G4.out (.slice (some ⟨gz,oz,none⟩) k.ma.length zc) rfl (by simp) rfl Tryz.sizeMts [.int .i64 k.rid,.slice k.mv.a k.mv.n k.mv.c,.slice (some ⟨gz,oz,none⟩) k.ma.length zc,.slice k.flv.a k.flv.n k.flv.c,.slice k.hev.a k.hev.n k.hev.c,.slice k.sav.a k.sav.n k.sav.c] rfl ?_;intro w5 g5 t5))
 refine bodyPost_end (results_none rfl _ _ _) rfl ?_
 have P4:WkP w4 (k.setM i m u ⟨some ⟨gz,oz,none⟩,k.ma.length,zc⟩):=by
  have p:=hk.out.below B4.out
  exact⟨p.ring,M4.out,p.fl,p.he,p.sa⟩
 exact⟨rfl,⟨some ⟨gz,oz,none⟩,k.ma.length,zc⟩,g5,P4.keepb G4.out t5.keep,qHq B4.out t5⟩
def slB(ws lk:List Int)(its:List It)(n:Int):Bool:=(!hasP its n&&inB ws n)||inB lk n
def slGo(ws lk:List Int)(its:List It):Nat→Nat→List Int→List Int
 |0,_,acc=>acc
 |f+1,n,acc=>if acc.length<20 then slGo ws lk its f (n+1) (if slB ws lk its (n:Int)=true then acc++[(n:Int)]else acc)else acc
def qEj(ws:List Int)(its:List It)(q:Int):List Int:=slGo ws (qBh its q) its 60 1 []
theorem slGo_full{ws lk:List Int}{its:List It}{acc:List Int}(h: ¬acc.length<20): ∀f n,slGo ws lk its f n acc=acc
 |0,_=>rfl
 |f+1,n=>by rw[slGo,if_neg h]
theorem qHj{ws lk:List Int}{its:List It}{acc:List Int}{f n:Nat}(h:acc.length<20):slGo ws lk its (f+1) n acc=slGo ws lk its f (n+1) (if slB ws lk its (n:Int)=true then acc++[(n:Int)]else acc):=by rw[slGo,if_pos h]
theorem slGo_len(ws lk:List Int)(its:List It): ∀f n acc,acc.length≤20→(slGo ws lk its f n acc).length≤20
 |0,_,_,h=>h
 |f+1,n,acc,h=>by
  rw[slGo]
  split
  ·refine slGo_len ws lk its f (n+1) _ ?_
   split
   ·rw[List.length_append];simp;omega
   ·exact h
  ·exact h
theorem qEt(ws:List Int)(its:List It)(q:Int):(qEj ws its q).length≤20:=slGo_len _ _ _ _ _ _ (by simp)
theorem qDx{g:Nat}{w a c:World}(h:KeepBut g w a)(b:Below w.heap.size a c):KeepBut g w c:=⟨b.os.trans h.os,b.tape.trans h.tape,b.output.trans h.output,Nat.le_trans h.size b.size,fun k hk hne=>(b.block k hk).trans (h.block k hk hne)⟩
theorem spMissing_s(s:Sv)(ts:List It)(u:Int)(w:World)(hx:Hid (RIt w s.v ts))(hl:ts.length≤1048576):
  Calls Tryz.prog 136 #[.slice s.a s.n s.c,.int .i64 u] w fun e w'=>∃z:Sv,e=.returned (.slice z.a z.n z.c)∧OwnI w' w.heap.size z.v (qBh ts u)∧Below w.heap.size w w':=by
 obtain⟨ao,cap,h1,h2⟩:=hx.out
 unfold Sv.v at h1
 rw[h1]
 refine(qKi ao cap ts u w h2 hl).mono ?_
 rintro e w' ⟨v,rfl,o,b⟩
 obtain⟨z,rfl⟩:=o.sv
 exact⟨z,rfl,o,b⟩
theorem lin_s(ms:List Int)(d:Int)(s:Sv)(w:World)(h:Hid (RI w s.v ms))(hl:ms.length≤1048576):Calls Tryz.prog 132 #[.slice s.a s.n s.c,.int .i64 d] w fun e w'=>e=.returned (.bool (inB ms d))∧Below w.heap.size w w':=qKs ms d h hl
theorem spLacks_any(c r q a y:Int)(s u:Sv)(ws:List Int)(its:List It)(w:World)(hs:Hid (RI w s.v ws))(hu:Hid (RIt w u.v its))(hl:ws.length≤1048576)(hil:its.length≤1048576):
  Calls Tryz.prog 68 #[.agg #[.int .i64 c,.int .i64 r,.int .i64 q,.int .i64 a,.int .i64 y,.slice s.a s.n s.c],.slice u.a u.n u.c] w fun e w'=>∃z:Sv,e=.returned (.agg #[.int .i64 c,.int .i64 r,.int .i64 q,.int .i64 a,.int .i64 y,.slice z.a z.n z.c])∧OwnI w' w.heap.size z.v (qEj ws its q)∧Below w.heap.size w w':=by
 obtain⟨P,hP⟩: ∃x,x=qEj ws its q:=⟨_,rfl⟩
 rw[←hP]
 have HP:Hid (P=qEj ws its q):=hP
 clear hP
 obtain⟨TA,TR,BW⟩:=en2 w 30 [.int .i64 c,.int .i64 r,.int .i64 q,.int .i64 a,.int .i64 y,.slice s.a s.n s.c] 30 [.int .i64 0,.int .i64 0,.int .i64 0,.int .i64 0,.int .i64 0,.slice none 0 0]
 go_enter Tryz.func68,Tryz.ntmps68
 have t0:=TA.out.cell 0
 have t1:=TA.out.cell 1
 have t2:=TA.out.cell 2
 have t3:=TA.out.cell 3
 have t4:=TA.out.cell 4
 have hz:Hid (Bx (((w.alloc (.cells #[.int .i64 c,.int .i64 r,.int .i64 q,.int .i64 a,.int .i64 y,.slice s.a s.n s.c] 30)).alloc (.cells #[.int .i64 0,.int .i64 0,.int .i64 0,.int .i64 0,.int .i64 0,.slice none 0 0] 30)).alloc (.cells #[.int .i64 c,.int .i64 r,.int .i64 q,.int .i64 a,.int .i64 y,.slice none 0 0] 30)) (w.heap.size+1+1) 30 [.int .i64 c,.int .i64 r,.int .i64 q,.int .i64 a,.int .i64 y,.slice none 0 0]):=by
  have h:=Bx.new ((w.alloc (.cells #[.int .i64 c,.int .i64 r,.int .i64 q,.int .i64 a,.int .i64 y,.slice s.a s.n s.c] 30)).alloc (.cells #[.int .i64 0,.int .i64 0,.int .i64 0,.int .i64 0,.int .i64 0,.slice none 0 0] 30)) 30 [.int .i64 c,.int .i64 r,.int .i64 q,.int .i64 a,.int .i64 y,.slice none 0 0]
  rw[show((w.alloc (.cells #[.int .i64 c,.int .i64 r,.int .i64 q,.int .i64 a,.int .i64 y,.slice s.a s.n s.c] 30)).alloc (.cells #[.int .i64 0,.int .i64 0,.int .i64 0,.int .i64 0,.int .i64 0,.slice none 0 0] 30)).heap.size=w.heap.size+1+1 by simp]at h
  exact h
 have b:Below ((w.alloc (.cells #[.int .i64 c,.int .i64 r,.int .i64 q,.int .i64 a,.int .i64 y,.slice s.a s.n s.c] 30)).alloc (.cells #[.int .i64 0,.int .i64 0,.int .i64 0,.int .i64 0,.int .i64 0,.slice none 0 0] 30)).heap.size ((w.alloc (.cells #[.int .i64 c,.int .i64 r,.int .i64 q,.int .i64 a,.int .i64 y,.slice s.a s.n s.c] 30)).alloc (.cells #[.int .i64 0,.int .i64 0,.int .i64 0,.int .i64 0,.int .i64 0,.slice none 0 0] 30)) (((w.alloc (.cells #[.int .i64 c,.int .i64 r,.int .i64 q,.int .i64 a,.int .i64 y,.slice s.a s.n s.c] 30)).alloc (.cells #[.int .i64 0,.int .i64 0,.int .i64 0,.int .i64 0,.int .i64 0,.slice none 0 0] 30)).alloc (.cells #[.int .i64 c,.int .i64 r,.int .i64 q,.int .i64 a,.int .i64 y,.slice none 0 0] 30)):=(Below.refl _ _).alloc (Nat.le_refl _) _
 obtain⟨TA,TR,BW⟩:=cy3 (TA.out.later b) (TR.out.later b) (qAa BW.out b)
 clear b
 have O:=Ag hz
 clear hz
 have c_TA_2:=TA.out.cell 2
 go_wp2_with fail
 generalize (((w.alloc (.cells #[.int .i64 c,.int .i64 r,.int .i64 q,.int .i64 a,.int .i64 y,.slice s.a s.n s.c] 30)).alloc (.cells #[.int .i64 0,.int .i64 0,.int .i64 0,.int .i64 0,.int .i64 0,.slice none 0 0] 30)).alloc (.cells #[.int .i64 c,.int .i64 r,.int .i64 q,.int .i64 a,.int .i64 y,.slice none 0 0] 30))=w1 at *
 clear t0 t1 t2 t3 t4
 refine(spMissing_s u its q _ (show Hid (RIt w1 u.v its)from hu.out.stays BW.out) hil).mono ?_
 rintro e w2 ⟨z,rfl,om,b⟩
 have z_w2:=b.size
 obtain⟨TA,TR,BW,O⟩:=cy4 (TA.out.later b) (TR.out.later b) (qAa BW.out b) (O.out.later b)
 clear b
 have LK:Hid (OwnI w2 w1.heap.size (z.v) (qBh its q)):=om
 clear om c_TA_2
 have z12:w.heap.size≤w2.heap.size:=BW.out.size
 have zo:w.heap.size+1+1<w2.heap.size:=O.out.lt
 obtain⟨lk,hlk⟩: ∃x,x=qBh its q:=⟨_,rfl⟩
 rw[←hlk]at LK
 have hlkl:lk.length≤1048576:=by have:=missP_le its q;rw[←hlk]at this;omega
 have HLK:Hid (qEj ws its q=slGo ws lk its 60 1 []):=(by rw[hlk];rfl:_=_)
 clear hlk
 have K2:Hid (KeepBut (w.heap.size+1+1) w2 w2):=qAc (Below.refl _ _)
 rw[←HP.out]at HLK
 clear HP
 go_wp2_with fail
 go_loopw [7] (fun v7 wr=>∃(n:Nat) (wv:Sv) (acc:List Int),n≤60∧v7=.int .i64 ((n:Int)+1)∧acc.length≤20∧Hid (OwnI wr w2.heap.size wv.v acc)∧Hid (slGo ws lk its (60 - n) (n+1) acc=P)∧Hid (Bx wr (w.heap.size+1+1) 30 (tX c r q a y wv))∧Hid (KeepBut (w.heap.size+1+1) w2 wr)) (fun v7 _=>61 - (intOf v7).toNat)
 case atStart=>exact⟨0,zSv,[],by omega,by simp,by simp,qEa _ _,HLK.out.symm,O,K2⟩
 case round=>
  clear K2
  obtain⟨n,wv,acc,hn,rfl,ha,OW,HE,OO,KK⟩:=hrel
  obtain⟨TA1,TR1⟩:=cy2 (TA.out.keepb KK.out (by omega)) (TR.out.keepb KK.out (by omega))
  have zr:w2.heap.size≤wr.heap.size:=KK.out.size
  have B1:=Ag (BW.out.trans (KK.out.below (by omega) BW.out.size))
  have HWL:Hid (wv.n=acc.length):=by show _=_;obtain⟨a0,c0,h0⟩:=OW.out.form;simp only[Sv.v,Value.slice.injEq]at h0;exact h0.2.1
  have o5:=OO.out.cell 5
  by_cases hc:n<60∧acc.length<20
  ·obtain⟨hn6,ha2⟩:=hc
   have i1:decide ((n:Int)+1≤60)=true:=by simp;omega
   have i2:decide ((wv.n:Int)<20)=true:=by have:=HWL.out;simp;omega
   obtain⟨⟨q0,f0,l0,t0⟩,hy⟩: ∃y:It,(atP its ((n:Int)+1)).getD zIt=y:=⟨_,rfl⟩
   have HY:Hid ((atP its ((n:Int)+1)).getD zIt=(q0,f0,l0,t0)):=hy
   clear hy
   obtain⟨RU1,LK1⟩:=cy2 (hu.out.stays B1.out) (LK.out.keepb O.out KK.out (by decide))
   go_wp2_with fail
   refine(spAt_s its u ((n:Int)+1) q0 f0 l0 t0 _ RU1 hil HY).mono ?_
   rintro e w3 ⟨rfl,b⟩
   have z_w3:=b.size
   obtain⟨TA1,TR1,OO,OW,KK,B1,LK1⟩:=cy7 (TA1.out.later b) (TR1.out.later b) (OO.out.later b) (ownL OW.out b) (KK.out.trans (qAc b)) (qAa B1.out b) (ownL LK1.out b)
   clear b
   clear RU1
   have hz:=Ag (Bx.new w3 41 [.int .i64 0,.int .i64 0,.int .i64 0,.string ⟨#[]⟩])
   go_wp2_with (first|(refine qAd rfl 41 _ _ rfl w3.heap.size rfl 41 _ hz.out [.int .i64 q0,.int .i64 f0,.int .i64 l0,.string t0] rfl rfl Tryz.sizeI rfl ?_;intro w4 OB TB;have b:Below w3.heap.size w3 w4:=((Below.refl _ _).alloc (Nat.le_refl _) _).trans (TB.below (Nat.le_refl _));have XB:=Ag OB;have z_w4:=b.size;have TA1:=Ag (TA1.out.later b);have TR1:=Ag (TR1.out.later b);have OO:=Ag (OO.out.later b);have OW:=Ag (ownL OW.out b);have KK:=Ag (KK.out.trans (qAc b));have B1:=Ag (qAa B1.out b);have LK1:=Ag (ownL LK1.out b);clear OB TB b;refine Stp.here ?_))
   refine Stp.go ?_
   clear hz
   have zl_XB:=XB.out.lt
   generalize hg_XB:w3.heap.size=gx at *
   clear XB
   cases hh:hasP its ((n:Int)+1)with
   |true=>
    go_wp2_with fail
    refine(lin_s lk ((n:Int)+1) z _ (show Hid (RI w4 (.slice z.a z.n z.c) lk)from LK1.out.ri) hlkl).mono ?_
    rintro e w5 ⟨rfl,b⟩
    have z_w5:=b.size
    obtain⟨TA1,TR1,OO,OW,KK,B1,LK1⟩:=cy7 (TA1.out.later b) (TR1.out.later b) (OO.out.later b) (ownL OW.out b) (KK.out.trans (qAc b)) (qAa B1.out b) (ownL LK1.out b)
    clear b
    cases hL:inB lk ((n:Int)+1)with
    |false=>
     have hsl:Hid (slB ws lk its ((n:Int)+1)=false):=(by unfold slB;rw[hh,hL];rfl:_=_)
     clear hh hL
     have c_OO_5:=OO.out.cell 5
     go_wp2_with fail
     go_roundw
     case rel=>
      have hE:slGo ws lk its (60 - (n+1)) (n+1+1) acc=P:=by
       have e:=HE.out
       rw[show 60 - n=(60 - (n+1))+1 by omega,qHj ha2,if_neg (by have:=hsl.out;rw[show((n+1:Nat):Int)=(n:Int)+1 by omega,this];simp)]at e
       exact e
      exact⟨n+1,wv,acc,by omega,by go_num,by omega,OW,hE,OO,KK⟩
     case measure=>simp[intOf];omega
    |true=>
     have hsl:Hid (slB ws lk its ((n:Int)+1)=true):=(by unfold slB;rw[hh,hL];rfl:_=_)
     clear hh hL
     have c_OO_5:=OO.out.cell 5
     have hal:acc.length<4000000:=by omega
     have z24:w2.heap.size≤w5.heap.size:=KK.out.size
     go_wp2_with (first|(at_builtin;refine qBm rfl _ _ 24 rfl Tryz.underlying24 Tryz.info3 w2.heap.size (.slice wv.a wv.n wv.c) acc rfl OW.out ((n:Int)+1) rfl hal z24 ?_;intro v9 w9 o9 b9;refine Stp.here ?_))
     refine Stp.go ?_
     obtain⟨s9,hf9⟩:=o9.sv
     subst hf9
     obtain⟨OO,KK⟩:=cy2 (OO.out.stays b9 (by omega)) (qDx KK.out b9)
     have O9:Hid (OwnI w9 w2.heap.size s9.v (acc++[(n:Int)+1])):=o9
     clear o9 b9 OW TA1 TR1 B1 LK1
     go_wp2_with (first|(refine qAe rfl 24 _ _ rfl (w.heap.size+1+1) 5 rfl 30 _ OO.out (.slice s9.a s9.n s9.c) rfl (by simp) rfl Tryz.sizeNs (tX c r q a y s9) rfl ?_;intro wh OB TB))
     obtain⟨O9q,OO,K9⟩:=cy3 (O9.out.past OO.out TB (by decide)) OB (KK.out.trans TB.keep)
     go_roundw
     case rel=>
      have hE:slGo ws lk its (60 - (n+1)) (n+1+1) (acc++[((n+1:Nat):Int)])=P:=by
       have e:=HE.out
       rw[show 60 - n=(60 - (n+1))+1 by omega,qHj ha2,if_pos (by have:=hsl.out;rw[show((n+1:Nat):Int)=(n:Int)+1 by omega,this])]at e
       exact e
      rw[show((n+1:Nat):Int)=(n:Int)+1 by omega]at hE
      exact⟨n+1,s9,acc++[(n:Int)+1],by omega,by go_num,by rw[List.length_append];simp;omega,O9q,hE,OO,K9⟩
     case measure=>simp[intOf];omega
   |false=>
    have c_TA1_5:=TA1.out.cell 5
    go_wp2_with fail
    refine(lin_s ws ((n:Int)+1) s _ (show Hid (RI w4 (.slice s.a s.n s.c) ws)from hs.out.stays B1.out) hl).mono ?_
    rintro e w5 ⟨rfl,b⟩
    have z_w5:=b.size
    obtain⟨TA1,TR1,OO,OW,KK,B1,LK1⟩:=cy7 (TA1.out.later b) (TR1.out.later b) (OO.out.later b) (ownL OW.out b) (KK.out.trans (qAc b)) (qAa B1.out b) (ownL LK1.out b)
    clear b
    clear c_TA1_5
    cases hi:inB ws ((n:Int)+1)with
    |true=>
     have hsl:Hid (slB ws lk its ((n:Int)+1)=true):=(by unfold slB;rw[hh,hi];rfl:_=_)
     clear hh hi
     have c_OO_5:=OO.out.cell 5
     have hal:acc.length<4000000:=by omega
     have z24:w2.heap.size≤w5.heap.size:=KK.out.size
     go_wp2_with (first|(at_builtin;refine qBm rfl _ _ 24 rfl Tryz.underlying24 Tryz.info3 w2.heap.size (.slice wv.a wv.n wv.c) acc rfl OW.out ((n:Int)+1) rfl hal z24 ?_;intro v9 w9 o9 b9;refine Stp.here ?_))
     refine Stp.go ?_
     obtain⟨s9,hf9⟩:=o9.sv
     subst hf9
     obtain⟨OO,KK⟩:=cy2 (OO.out.stays b9 (by omega)) (qDx KK.out b9)
     have O9:Hid (OwnI w9 w2.heap.size s9.v (acc++[(n:Int)+1])):=o9
     clear o9 b9 OW TA1 TR1 B1 LK1
     go_wp2_with (first|(refine qAe rfl 24 _ _ rfl (w.heap.size+1+1) 5 rfl 30 _ OO.out (.slice s9.a s9.n s9.c) rfl (by simp) rfl Tryz.sizeNs (tX c r q a y s9) rfl ?_;intro wh OB TB))
     obtain⟨O9q,OO,K9⟩:=cy3 (O9.out.past OO.out TB (by decide)) OB (KK.out.trans TB.keep)
     go_roundw
     case rel=>
      have hE:slGo ws lk its (60 - (n+1)) (n+1+1) (acc++[((n+1:Nat):Int)])=P:=by
       have e:=HE.out
       rw[show 60 - n=(60 - (n+1))+1 by omega,qHj ha2,if_pos (by have:=hsl.out;rw[show((n+1:Nat):Int)=(n:Int)+1 by omega,this])]at e
       exact e
      rw[show((n+1:Nat):Int)=(n:Int)+1 by omega]at hE
      exact⟨n+1,s9,acc++[(n:Int)+1],by omega,by go_num,by rw[List.length_append];simp;omega,O9q,hE,OO,K9⟩
     case measure=>simp[intOf];omega
    |false=>
     go_wp2_with fail
     refine(lin_s lk ((n:Int)+1) z _ (show Hid (RI w5 (.slice z.a z.n z.c) lk)from LK1.out.ri) hlkl).mono ?_
     rintro e w6 ⟨rfl,b⟩
     have z_w6:=b.size
     obtain⟨TA1,TR1,OO,OW,KK,B1,LK1⟩:=cy7 (TA1.out.later b) (TR1.out.later b) (OO.out.later b) (ownL OW.out b) (KK.out.trans (qAc b)) (qAa B1.out b) (ownL LK1.out b)
     clear b
     cases hL:inB lk ((n:Int)+1)with
     |false=>
      have hsl:Hid (slB ws lk its ((n:Int)+1)=false):=(by unfold slB;rw[hh,hi,hL];rfl:_=_)
      clear hh hi hL
      have c_OO_5:=OO.out.cell 5
      go_wp2_with fail
      go_roundw
      case rel=>
       have hE:slGo ws lk its (60 - (n+1)) (n+1+1) acc=P:=by
        have e:=HE.out
        rw[show 60 - n=(60 - (n+1))+1 by omega,qHj ha2,if_neg (by have:=hsl.out;rw[show((n+1:Nat):Int)=(n:Int)+1 by omega,this];simp)]at e
        exact e
       exact⟨n+1,wv,acc,by omega,by go_num,by omega,OW,hE,OO,KK⟩
      case measure=>simp[intOf];omega
     |true=>
      have hsl:Hid (slB ws lk its ((n:Int)+1)=true):=(by unfold slB;rw[hh,hi,hL];rfl:_=_)
      clear hh hi hL
      have c_OO_5:=OO.out.cell 5
      have hal:acc.length<4000000:=by omega
      have z24:w2.heap.size≤w6.heap.size:=KK.out.size
      go_wp2_with (first|(at_builtin;refine qBm rfl _ _ 24 rfl Tryz.underlying24 Tryz.info3 w2.heap.size (.slice wv.a wv.n wv.c) acc rfl OW.out ((n:Int)+1) rfl hal z24 ?_;intro v9 w9 o9 b9;refine Stp.here ?_))
      refine Stp.go ?_
      obtain⟨s9,hf9⟩:=o9.sv
      subst hf9
      obtain⟨OO,KK⟩:=cy2 (OO.out.stays b9 (by omega)) (qDx KK.out b9)
      have O9:Hid (OwnI w9 w2.heap.size s9.v (acc++[(n:Int)+1])):=o9
      clear o9 b9 OW TA1 TR1 B1 LK1
      go_wp2_with (first|(refine qAe rfl 24 _ _ rfl (w.heap.size+1+1) 5 rfl 30 _ OO.out (.slice s9.a s9.n s9.c) rfl (by simp) rfl Tryz.sizeNs (tX c r q a y s9) rfl ?_;intro wh OB TB))
      obtain⟨O9q,OO,K9⟩:=cy3 (O9.out.past OO.out TB (by decide)) OB (KK.out.trans TB.keep)
      go_roundw
      case rel=>
       have hE:slGo ws lk its (60 - (n+1)) (n+1+1) (acc++[((n+1:Nat):Int)])=P:=by
        have e:=HE.out
        rw[show 60 - n=(60 - (n+1))+1 by omega,qHj ha2,if_pos (by have:=hsl.out;rw[show((n+1:Nat):Int)=(n:Int)+1 by omega,this])]at e
        exact e
       rw[show((n+1:Nat):Int)=(n:Int)+1 by omega]at hE
       exact⟨n+1,s9,acc++[(n:Int)+1],by omega,by go_num,by rw[List.length_append];simp;omega,O9q,hE,OO,K9⟩
      case measure=>simp[intOf];omega
  ·have hE:slGo ws lk its (60 - n) (n+1) acc=acc:=by
    by_cases h6:n<60
    ·exact slGo_full (fun h=>hc ⟨h6,h⟩) _ _
    ·rw[show 60 - n=0 by omega];rfl
   have hE:P=acc:=by rw[←hE];exact HE.out.symm
   have HEQ:Hid (P=acc):=hE
   clear hE
   by_cases h6:n<60
   ·have i1:decide ((n:Int)+1≤60)=true:=by simp;omega
    have i2:decide ((wv.n:Int)<20)=false:=by have: ¬acc.length<20:=fun h=>hc ⟨h6,h⟩;have:=HWL.out;simp;omega
    clear hc
    go_wp2_with (first|(refine qAb rfl 30 _ rfl (w.heap.size+1+1) 0 rfl 30 _ OO.out (tX c r q a y wv) rfl _ Tryz.underlying30 rfl Tryz.sizeT ?_)|(refine qAd rfl 30 _ _ rfl (w.heap.size+1) rfl 30 _ TR1.out (tX c r q a y wv) rfl rfl Tryz.sizeT rfl ?_;intro WZ RZ TZ))
    refine bodyPost_ret (qBd Tryz.results68 (w.heap.size+1) 30 (tX c r q a y wv) _ rfl RZ Tryz.underlying30 rfl Tryz.sizeT) rfl ?_
    have BZ:Below w.heap.size w WZ:=(BW.out.trans (KK.out.below (by omega) BW.out.size)).trans (TZ.below (by omega))
    exact⟨wv,rfl,by rw[HEQ.out];exact(OW.out.past TR1.out TZ (by decide)).down (by have:=BW.out.size;omega),BZ⟩
   ·have i1:decide ((n:Int)+1≤60)=false:=by simp;omega
    clear hc
    go_wp2_with (first|(refine qAb rfl 30 _ rfl (w.heap.size+1+1) 0 rfl 30 _ OO.out (tX c r q a y wv) rfl _ Tryz.underlying30 rfl Tryz.sizeT ?_)|(refine qAd rfl 30 _ _ rfl (w.heap.size+1) rfl 30 _ TR1.out (tX c r q a y wv) rfl rfl Tryz.sizeT rfl ?_;intro WZ RZ TZ))
    refine bodyPost_ret (qBd Tryz.results68 (w.heap.size+1) 30 (tX c r q a y wv) _ rfl RZ Tryz.underlying30 rfl Tryz.sizeT) rfl ?_
    have BZ:Below w.heap.size w WZ:=(BW.out.trans (KK.out.below (by omega) BW.out.size)).trans (TZ.below (by omega))
    exact⟨wv,rfl,by rw[HEQ.out];exact(OW.out.past TR1.out TZ (by decide)).down (by have:=BW.out.size;omega),BZ⟩
theorem qGm{P:Program}{w:World}{ops:Array Oper}{rest:List Oper}{o:Oper}{a:Act}{Q:Exit→Act→World→Prop}(t:TypeId)(x y:Operand)(ho:o.op=.slice t x (some y) none none)(h:Stp (wpList P ops Q (o::rest) a w)):wpList P ops Q (o::rest) a w:=h.out
theorem qDa{P:Program}{ops:Array Oper}{o:Oper}{a:Act}{S:World→Prop}(hw:Region.wanted o (yielded ops a.tmps)=true)(ty:TypeId)(x:Operand)(ho:o.op=.load ty x)(g off:Nat)(hx:a.eval x=.pointer (some ⟨g,off,none⟩))(cs:List Value)(hS: ∀w,S w→w.rangeAt g off cs)
  (d:TypeDesc) (hu:P.underlying ty=some d) (hd:d.isRow=true) (hi:(P.info? ty).map (·.size)=some cs.length):YieldsIf P ops S o (.agg cs.toArray) a:=
 yieldsIf_load_mid hw ty x ho g off hx cs d hS hu hd hi
theorem qAk{w w':World}{g off:Nat}{cs:List Value}(h:w.rangeAt g off cs)(hg:g<w.heap.size)(b:Below w.heap.size w w'):w'.rangeAt g off cs:=fun j v hv=>(b.cell (p:=⟨g,off+j,none⟩) hg).trans (h j v hv)
theorem cutJ{w:World}{B n k:Nat}{v:Value}{xs:List Int}(h:Sl w 3 1 B v (n - k) ((xs.map (Value.int .i64)).drop (k * 1)))(hn:n=xs.length):RI w v (xs.drop k):=by
 have:SlJ w B v (xs.drop k):=by
  unfold SlJ
  rw[List.length_drop,←hn,List.map_drop,←Nat.mul_one k]
  simpa using h
 exact this.ri
theorem cutX{w:World}{B n k:Nat}{v:Value}{xs:List ByteArray}(h:Sl w 9 1 B v (n - k) ((xs.map Value.string).drop (k * 1)))(hn:n=xs.length):RT w v (xs.drop k):=by
 have:SlX w B v (xs.drop k):=by
  unfold SlX
  rw[List.length_drop,←hn,List.map_drop,←Nat.mul_one k]
  simpa using h
 exact this.rt
theorem SlI.len{w:World}{B:Nat}{s:Sv}{ts:List It}(h:SlI w B s.v ts):s.n=ts.length:=by obtain⟨a,c,h1⟩:=Sl.form h;simp only[Sv.v,Value.slice.injEq]at h1;exact h1.2.1
theorem Pl.OwnI.slen{w:World}{B:Nat}{s:Sv}{ts:List Int}(h:OwnI w B s.v ts):s.n=ts.length:=by obtain⟨a,c,h1⟩:=h.form;simp only[Sv.v,Value.slice.injEq]at h1;exact h1.2.1
theorem Pl.OwnS.slen{w:World}{B:Nat}{s:Sv}{ts:List ByteArray}(h:OwnS w B s.v ts):s.n=ts.length:=by obtain⟨a,c,h1⟩:=h.form;simp only[Sv.v,Value.slice.injEq]at h1;exact h1.2.1
theorem SlI.at{w:World}{B:Nat}{s:Sv}{ts:List It}(h:SlI w B s.v ts){k:Nat}(hk:k<ts.length): ∃g off,s.a=some ⟨g,off,none⟩∧B≤g∧g<w.heap.size∧w.rangeAt g (off+k * 4) [.int .i64 ts[k].1,.int .i64 ts[k].2.1,.int .i64 ts[k].2.2.1,.string ts[k].2.2.2]:=by
 obtain⟨ao,cap,h1,h2⟩:=h.rit
 have hh:=h
 obtain⟨g,off,e,hlt,c0,c1,c2,c3⟩:=h2 k hk
 simp only[Sv.v,Value.slice.injEq]at h1
 refine⟨g,off,by rw[h1.1,e],?_,hlt,?_⟩
 ·exact(h.lt g (by simp[Sv.v,Value.ownBlock,h1.1,e])).1
 ·intro j v hv
  match j,hv with
  |0,hv=>simp at hv;subst hv;simpa using c0
  |1,hv=>simp at hv;subst hv;simpa using c1
  |2,hv=>simp at hv;subst hv;simpa using c2
  |3,hv=>simp at hv;subst hv;simpa using c3
section
variable {P : Program} {w : World} {o : Oper} {a : Act} {K : Act → World → Prop} {Q : Exit → Act → World → Prop}
theorem qCc{T size:Nat}(s x:Operand)(t:TypeId)(ho:o.op=.call {callee:=.builtin .append,args:=#[s,x],argTypes:=#[t,t]})
  (z:Value) (bytes:Nat) (ht:P.underlying t=some (.slice T)) (hinfo:(P.info? T).map (fun i=>(i.zero,i.size,i.bytes))=some (some z,size,bytes)) (hzs:z.cells.size=size) (hby:bytes≤400)
  (B:Nat) (v:Value) (rs:List (List Value)) (hs:a.eval s=v) (hown:SlN w T size B v rs) (B':Nat) (u:Value) (qs:List (List Value)) (hx:a.eval x=u) (hu:SlN w T size B' u qs)
  (hn:rs.length+qs.length≤1048577) (hB:B≤w.heap.size)
  (h: ∀v' w',SlN w' T size B v' (rs++qs)→w.grownBy w' v.ownBlock→Below B w w'→(v'.ownBlock=v.ownBlock∨v'.ownBlock=some w.heap.size)→K (a.put o.dst v') w'):
  o.wp P a w K Q:=by
 refine qEq s x t ho z bytes ht hinfo hzs hs hown.1 _ qs.length qs.flatten hx (hu.src ht) (by unfold maxLen;omega) (Nat.le_trans (Nat.mul_le_mul hn hby) (by decide)) hB ?_
 intro v' w' h3 h2 h4
 refine h v' w' ⟨by rw[List.length_append,List.flatten_append];exact h3,fun r hr=>?_⟩ h2 ((Below.refl B w).grown h2 hB (fun k hk=>(Sl.lt hown.1 k hk).1)) h4
 rcases List.mem_append.1 hr with hr|hr
 ·exact hown.2 r hr
 ·exact hu.2 r hr
end
def qDq(ms:List Mt)(d:Int)(x:It):List (Fl × Sv):=(ms.filter fun m=> !(m.id==d)).map fun m=>(⟨m.id,false,zTok,x⟩,zSv)
def qCh(ms:List Mt)(d:Int)(its:List It):List (Fl × Sv):=its.flatMap (qDq ms d)
theorem qJe{ms:List Mt}{d:Int}{x:It}{j:Nat}(hj:j<ms.length):qDq (ms.take (j+1)) d x=qDq (ms.take j) d x++if ms[j].id=d then[]else[(⟨ms[j].id,false,zTok,x⟩,zSv)]:=by
 unfold qDq
 rw[List.take_succ_eq_append_getElem hj,List.filter_append,List.map_append]
 congr 1
 by_cases h:ms[j].id=d
 ·simp[h]
 ·simp[h]
theorem tellF_len(ms:List Mt)(d:Int)(x:It):(qDq ms d x).length≤ms.length:=by unfold qDq;rw[List.length_map];exact List.length_filter_le _ _
theorem tellL_step{ms:List Mt}{d:Int}{its:List It}{i:Nat}(hi:i<its.length):qCh ms d (its.take (i+1))=qCh ms d (its.take i)++qDq ms d its[i]:=by
 unfold qCh;rw[List.take_succ_eq_append_getElem hi,List.flatMap_append];simp
theorem qEi(ms:List Mt)(d:Int): ∀its:List It,(qCh ms d its).length≤its.length * ms.length
 | []=>by simp[qCh]
 |x::its=>by
  have h1:=qEi ms d its
  have h2:=tellF_len ms d x
  unfold qCh at h1⊢
  rw[List.flatMap_cons,List.length_append,List.length_cons,Nat.add_mul]
  omega
def Wv.setF(k:Wv)(fl:List (Fl × Sv))(s:Sv):Wv:=⟨k.rid,k.ms,k.mv,k.ma,k.mav,fl,s,k.he,k.hev,k.sa,k.sav⟩
def FlsB(w:World)(v:Value)(B:Nat)(es:List (Fl × Sv)):Prop:=SlN w 68 12 B v (es.map fcel)
theorem qJy(g:Nat)(k:Wv)(d:Int)(s:Sv)(its:List It)(w:World)(h:Hid (WkB w g k))(hk:Hid (WkP w k))(hs:Hid (SlI w 0 s.v its))(hl:k.ma.length≤10)(hil:its.length≤1000)(hfl:k.fl.length≤1000000):
  Calls Tryz.prog 193 #[.pointer (some ⟨g,0,none⟩),.int .i64 d,.slice s.a s.n s.c] w fun e w'=>e=.returned (.tuple #[])∧∃z:Sv,WkB w' g (k.setF (k.fl++qCh (k.ma.map (·.1)) d its) z)∧WkP w' (k.setF (k.fl++qCh (k.ma.map (·.1)) d its) z)∧KeepBut g w w':=by
 have zg:g<w.heap.size:=Bx.lt h.out
 have HSN:Hid (s.n=its.length):=hs.out.len
 have HMN:Hid (k.mav.n=k.ma.length):=hk.out.ma.len
 have hsn:s.n≤1000:=by have:=HSN.out;omega
 have hmn:k.mav.n≤10:=by have:=HMN.out;omega
 obtain⟨MM,hMM⟩: ∃x,x=k.ma.map (·.1):=⟨_,rfl⟩
 have HMM:Hid (MM=k.ma.map (·.1)):=hMM
 have hMl:MM.length=k.ma.length:=by rw[hMM];simp
 have HML:Hid (MM.length=k.ma.length):=hMl
 rw[←hMM]
 clear hMM hMl
 have b0:=bA w (.cells #[] 68)
 have S0:Hid (SlN (w.alloc (.cells #[] 68)) 68 12 w.heap.size (.slice (some ⟨w.heap.size,0,none⟩) 0 0) []):=SlN.made w 68 12 w.heap.size (Nat.le_refl _)
 have G0:=Ag (h.out.later b0)
 have F0:Hid (FsP (w.alloc (.cells #[] 68)) 0 k.flv.v k.fl):=hk.out.fl.below b0
 have B0:=Ag b0
 have r3:=Bx.cell G0.out 3
 have hll:([]:List (List Value)).length+(k.fl.map fcel).length≤1048577:=by simp;omega
 clear b0
 go_enter Tryz.func193,Tryz.ntmps193
 go_wp2_with (first|(at_builtin;refine Stp.here ?_))
 refine Stp.go ?_
 have zW:w.heap.size≤(w.alloc (.cells #[] 68)).heap.size:=B0.out.size
 generalize w.alloc (.cells #[] 68)=W at *
 refine qFc rfl _ _ 53 rfl _ 120 Tryz.underlying53 Tryz.infoFl rfl (by decide) w.heap.size (.slice (some ⟨w.heap.size,0,none⟩) 0 0) [] rfl S0.out 0 (.slice k.flv.a k.flv.n k.flv.c) (k.fl.map fcel) rfl F0.out.1 hll zW ?_
 intro v1 w1 s1 g1 b1 _
 rw[List.nil_append]at s1
 have B1:=Ag (B0.out.trans b1)
 have S1:Hid (FlsB w1 v1 w.heap.size k.fl):=s1
 clear s1 g1 b1 S0 G0 F0 B0 r3 hll zW
 go_wp2_with fail
 go_loopw [6,7] (fun v6 v7 wr=>∃(i:Nat),i≤s.n∧v7=.int .i64 (i:Int)∧Hid (FlsB wr v6 w.heap.size (k.fl++qCh MM d (its.take i)))∧Hid (Below w.heap.size w wr)) (fun _ v7 _=>s.n - (intOf v7).toNat)
 case atStart=>exact⟨0,Nat.zero_le _,rfl,by simpa [qCh] using S1,B1⟩
 case round=>
  clear S1 B1
  obtain⟨i,hi,rfl,SF,BB⟩:=hrel
  by_cases hlt:i<s.n
  ·have hii:i<its.length:=by have:=HSN.out;omega
   obtain⟨⟨q0,f0,l0,t0⟩,hy⟩: ∃y:It,its[i]=y:=⟨_,rfl⟩
   have HY:Hid (its[i]=(q0,f0,l0,t0)):=hy
   clear hy
   go_wp2_with fail
   go_loopw [6,8] (fun v6 v8 wt=>∃(j:Nat),j≤k.mav.n∧v8=.int .i64 (j:Int)∧Hid (FlsB wt v6 w.heap.size (k.fl++qCh MM d (its.take i)++qDq (MM.take j) d (q0,f0,l0,t0)))∧Hid (Below w.heap.size w wt)) (fun _ v8 _=>k.mav.n - (intOf v8).toNat)
   case atStart=>exact⟨0,Nat.zero_le _,rfl,by simpa [qDq] using SF,BB⟩
   case round=>
    clear SF BB
    obtain⟨j,hj,rfl,SF,BB⟩:=hrel
    have G2:WkB wr g k:=h.out.later BB.out
    by_cases hlj:j<k.mav.n
    ·have hjm:j<k.ma.length:=by have:=HMN.out;omega
     obtain⟨_,gm,off,ha,_,hgl,hr⟩:=hk.out.ma.row hjm
     have G3w:Hid (Bx w g 56 [.int .i64 k.rid,.slice k.mv.a k.mv.n k.mv.c,.slice (some ⟨gm,off,none⟩) k.mav.n k.mav.c,.slice k.flv.a k.flv.n k.flv.c,.slice k.hev.a k.hev.n k.hev.c,.slice k.sav.a k.sav.n k.sav.c]):=(by have G2:=h.out;unfold WkB at G2;rw[ha]at G2;exact G2:Bx _ _ _ _)
     have G3:Hid (Bx wr g 56 [.int .i64 k.rid,.slice k.mv.a k.mv.n k.mv.c,.slice (some ⟨gm,off,none⟩) k.mav.n k.mav.c,.slice k.flv.a k.flv.n k.flv.c,.slice k.hev.a k.hev.n k.hev.c,.slice k.sav.a k.sav.n k.sav.c]):=(by unfold WkB at G2;rw[ha]at G2;exact G2:Bx _ _ _ _)
     have hc0:w.cell? ⟨gm,off+j * 16,none⟩=some (.int .i64 (k.ma[j].1.id)):=by have:=qCx hr 0 (v:=.int .i64 (k.ma[j].1.id)) rfl;simpa using this
     have hjM:j<MM.length:=by have:=HML.out;omega
     obtain⟨x0,hx⟩: ∃x,x=k.ma[j].1.id:=⟨_,rfl⟩
     rw[←hx]at hc0
     have HC0:Hid (w.cell? ⟨gm,off+j * 16,none⟩=some (.int .i64 x0)):=hc0
     have hc:wr.cell? ⟨gm,off+j * 16,none⟩=some (.int .i64 x0):=(Below.cell BB.out (p:=⟨gm,off+j * 16,none⟩) hgl).trans hc0
     clear hc0
     have HX:Hid (MM[j].id=x0):=(by rw[hx];have:=HMM.out;subst this;simp:_=_)
     obtain⟨gi,oi,hia,_,hil2,hir⟩:=hs.out.at hii
     rw[HY.out]at hir
     have HIR:Hid (w.rangeAt gi (oi+i * 4) [.int .i64 q0,.int .i64 f0,.int .i64 l0,.string t0]):=hir
     have r2:=G3.out.cell 2
     have z0:w.heap.size≤wr.heap.size:=BB.out.size
     have hlen:((k.fl++qCh MM d (its.take i)++qDq (MM.take j) d (q0,f0,l0,t0)).map fcel).length+1≤1048577:=by
      rw[List.length_map,List.length_append,List.length_append]
      have e1:=qEi MM d (its.take i)
      have e2:=tellF_len (MM.take j) d (q0,f0,l0,t0)
      rw[List.length_take]at e1 e2
      have e3:(min i its.length) * MM.length≤1000 * 10:=Nat.mul_le_mul (by omega) (by have:=HML.out;omega)
      have:=HML.out
      omega
     clear hx hr hir G2 ha
     obtain⟨sa,sn,sc⟩:=s
     simp only at hia
     subst hia
     have i0:(0:Int)≤(j:Int):=by omega
     have i1:(j:Int)<(k.mav.n:Int):=by omega
     by_cases hxd:x0=d
     ·have q:(x0==d)=true:=by simpa using hxd
      have q':(x0 !=d)=false:=by simpa using hxd
      have E:Hid (qDq (MM.take (j+1)) d (q0,f0,l0,t0)=qDq (MM.take j) d (q0,f0,l0,t0)):=(by rw[qJe hjM,if_pos (by rw[HX.out];exact hxd),List.append_nil]:_=_)
      clear hxd
      go_wp2_with fail
      go_roundw
      case rel=>exact⟨j+1,by omega,by go_num,by show FlsB _ _ _ _;rw[E.out];exact SF.out,BB⟩
      case measure=>simp[intOf];omega
     ·have q:(x0==d)=false:=by simpa using hxd
      have q':(x0 !=d)=true:=by simpa using hxd
      have E:Hid (qDq (MM.take (j+1)) d (q0,f0,l0,t0)=qDq (MM.take j) d (q0,f0,l0,t0)++[(⟨x0,false,zTok,(q0,f0,l0,t0)⟩,zSv)]):=(by rw[qJe hjM,if_neg (by rw[HX.out];exact hxd),HX.out]:_=_)
      clear hxd
      go_wp2_with fail
      have c:Below w.heap.size w wr.drew:=BB.out.trans ((Below.refl _ _).drew)
      refine wp_region_held_drew (S:=fun w'=>Below w.heap.size w w') (by kernel_rfl) c (fun Ah=>?_)
      refine tkQ 0 rfl (by kernel_rfl) (by rfl) (fun _ _=>by simp only[Aa,Ab,Ac];go_simp;try with_reducible rfl) Ah ?_ fun _ _ _ h=>h
      try simp only[Act.put,Aa,Ab,Ac,Ad,Ae,Af]
      refine tkQ 1 rfl (by kernel_rfl) (by rfl) (fun _ _=>by simp only[Aa,Ab,Ac];go_simp;try with_reducible rfl) Ah ?_ fun _ _ _ h=>h
      try simp only[Act.put,Aa,Ab,Ac,Ad,Ae,Af]
      refine tkQ 2 rfl (by kernel_rfl) (by rfl) (fun _ _=>by simp only[Aa,Ab,Ac];go_simp;try with_reducible rfl) Ah ?_ fun _ _ _ h=>h
      try simp only[Act.put,Aa,Ab,Ac,Ad,Ae,Af]
      refine tkQ 3 rfl (by kernel_rfl) (by rfl) (fun _ _=>by simp only[Aa,Ab,Ac];go_simp;try with_reducible rfl) Ah ?_ fun _ _ _ h=>h
      try simp only[Act.put,Aa,Ab,Ac,Ad,Ae,Af]
      refine tkH (i:=4) (v:=_) rfl (by kernel_rfl) (fun _ _ _ h=>h) (qAf (by rfl) 52 _ rfl g 2 rfl 56 _ (fun w hS=>G3w.out.later hS) (.slice (some ⟨gm,off,none⟩) k.mav.n k.mav.c) rfl _ Tryz.underlying52 rfl) Ah ?_
      try simp only[Act.put,Aa,Ab,Ac,Ad,Ae,Af]
      refine tkQ 5 rfl (by kernel_rfl) (by rfl) (fun _ _=>by simp only[Aa,Ab,Ac];go_simp;try with_reducible rfl) Ah ?_ fun _ _ _ h=>h
      try simp only[Act.put,Aa,Ab,Ac,Ad,Ae,Af]
      refine tkQ 6 rfl (by kernel_rfl) (by rfl) (fun _ _=>by simp only[Aa,Ab,Ac];go_simp;try with_reducible rfl) Ah ?_ fun _ _ _ h=>h
      try simp only[Act.put,Aa,Ab,Ac,Ad,Ae,Af]
      refine tkQ 7 rfl (by kernel_rfl) (by rfl) (fun _ _=>by simp only[Aa,Ab,Ac];go_simp;try with_reducible rfl) Ah ?_ fun _ _ _ h=>h
      try simp only[Act.put,Aa,Ab,Ac,Ad,Ae,Af]
      refine tkH (i:=8) (v:=.int .i64 x0) rfl (by kernel_rfl) (fun _ _ _ h=>h) (Or.inl ⟨by rfl,fun w hS=>by have hcw:w.cell? ⟨gm,off+j * 16,none⟩=some (.int .i64 x0):=(Below.cell hS (p:=⟨gm,off+j * 16,none⟩) hgl).trans HC0.out;go_simp⟩) Ah ?_
      try simp only[Act.put,Ad,Ae,Af]
      refine tkQ 9 rfl (by kernel_rfl) (by rfl) (fun _ _=>by simp only[Aa,Ab,Ac];go_simp;try with_reducible rfl) Ah ?_ fun _ _ _ h=>h
      try simp only[Act.put,Aa,Ab,Ac,Ad,Ae,Af]
      refine tkQ 10 rfl (by kernel_rfl) (by rfl) (fun _ _=>by simp only[Aa,Ab,Ac];go_simp;try with_reducible rfl) Ah ?_ fun _ _ _ h=>h
      try simp only[Act.put,Aa,Ab,Ac,Ad,Ae,Af]
      refine tkQ 11 rfl (by kernel_rfl) (by rfl) (fun _ _=>by simp only[Aa,Ab,Ac];go_simp;try with_reducible rfl) Ah ?_ fun _ _ _ h=>h
      try simp only[Act.put,Aa,Ab,Ac,Ad,Ae,Af]
      refine tkH (i:=12) (v:=_) rfl (by kernel_rfl) (fun _ _ _ h=>h) (qDa (by rfl) 41 _ rfl gi (oi+i * 4) (by rfl) [.int .i64 q0,.int .i64 f0,.int .i64 l0,.string t0] (fun w hS=>qAk HIR.out hil2 hS) _ Tryz.underlying41 rfl Tryz.sizeI) Ah ?_
      try simp only[Act.put,Ad,Ae,Af]
      refine tkQ 13 rfl (by kernel_rfl) (by rfl) (fun _ _=>by simp only[Aa,Ab,Ac];go_simp;try with_reducible rfl) Ah ?_ fun _ _ _ h=>h
      try simp only[Act.put,Aa,Ab,Ac,Ad,Ae,Af]
      refine wpAnyH_ready (rs:=[14]) (by kernel_rfl) (by simp) ?_
      refine AllReadyH.cons (i:=14) rfl (fun K hK=>?_) AllReadyH.nil
      rw[if_pos (by rfl)]
      simp only[Aa,Ab,Ac]
      go_simp
      have S7:Hid (SlN (wr.drew.alloc (.cells #[.int .i64 x0,.bool false,.int .i64 0,.int .i64 0,.int .i64 0,.int .i64 0,.int .i64 0,.slice none 0 0,.int .i64 q0,.int .i64 f0,.int .i64 l0,.string t0] 68)) 68 12 0 (.slice (some ⟨wr.heap.size,0,none⟩) 1 1) [[.int .i64 x0,.bool false,.int .i64 0,.int .i64 0,.int .i64 0,.int .i64 0,.int .i64 0,.slice none 0 0,.int .i64 q0,.int .i64 f0,.int .i64 l0,.string t0]]):=SlN.one wr.drew 68 12 0 _ rfl rfl (Nat.zero_le _)
      have b7:Below w.heap.size w (wr.drew.alloc (.cells #[.int .i64 x0,.bool false,.int .i64 0,.int .i64 0,.int .i64 0,.int .i64 0,.int .i64 0,.slice none 0 0,.int .i64 q0,.int .i64 f0,.int .i64 l0,.string t0] 68)):=c.alloc c.size _
      have bw:Below wr.heap.size wr (wr.drew.alloc (.cells #[.int .i64 x0,.bool false,.int .i64 0,.int .i64 0,.int .i64 0,.int .i64 0,.int .i64 0,.slice none 0 0,.int .i64 q0,.int .i64 f0,.int .i64 l0,.string t0] 68)):=((Below.refl _ _).drew).alloc (Nat.le_of_eq (by simp)) _
      refine hK.out _ _ (b7) (fun Ah=>?_)
      clear hK K
      try simp only[Act.put,Aa,Ab,Ac,Ad,Ae,Af]
      refine wpAnyH_ready (rs:=[15]) (by kernel_rfl) (by simp) ?_
      refine AllReadyH.cons (i:=15) rfl (fun K hK=>?_) AllReadyH.nil
      rw[if_pos (by rfl)]
      simp only[Aa,Ab,Ac]
      refine qCc _ _ 53 rfl _ 120 Tryz.underlying53 Tryz.infoFl rfl (by decide) w.heap.size _ _ (by rfl) (show SlN _ 68 12 w.heap.size u6 ((k.fl++qCh MM d (its.take i)++qDq (MM.take j) d (q0,f0,l0,t0)).map fcel)from SlN.below SF.out bw) 0 _ [[.int .i64 x0,.bool false,.int .i64 0,.int .i64 0,.int .i64 0,.int .i64 0,.int .i64 0,.slice none 0 0,.int .i64 q0,.int .i64 f0,.int .i64 l0,.string t0]] (by rfl) S7.out hlen b7.size ?_
      intro v8 w8 s8 g8 b8 _
      have B9:Hid (Below w.heap.size w w8):=b7.trans b8
      have SF9:Hid (FlsB w8 v8 w.heap.size (k.fl++qCh MM d (its.take i)++qDq (MM.take j) d (q0,f0,l0,t0)++[(⟨x0,false,zTok,(q0,f0,l0,t0)⟩,zSv)])):=(by unfold FlsB;rw[List.map_append];exact s8:FlsB _ _ _ _)
      refine hK.out _ _ (B9.out) (fun Ah=>?_)
      clear hK K
      try simp only[Act.put,Aa,Ab,Ac,Ad,Ae,Af]
      clear s8 g8 b8 S7
      refine tkQ 16 rfl (by kernel_rfl) (by rfl) (fun _ _=>by simp only[Aa,Ab,Ac];go_simp;try with_reducible rfl) Ah ?_ fun _ _ _ h=>h
      try simp only[Act.put,Aa,Ab,Ac,Ad,Ae,Af]
      refine wpAnyH_done (by kernel_rfl) ?_ _
      try go_wp2_with fail
      go_roundw
      case rel=>exact⟨j+1,by omega,by go_num,by show FlsB _ _ _ _;rw[E.out,←List.append_assoc];exact SF9.out,B9⟩
      case measure=>simp[intOf];omega
    ·have hjn:j=MM.length:=by have h1:=HMN.out;have h2:=HML.out;omega
     have E:Hid (k.fl++qCh MM d (its.take i)++qDq (MM.take j) d (q0,f0,l0,t0)=k.fl++qCh MM d (its.take (i+1))):=(by rw[tellL_step hii,HY.out,hjn,List.take_length,List.append_assoc]:_=_)
     have r2:=Bx.cell G2 2
     clear hjn
     go_wp2_with fail
     go_roundw
     case rel=>exact⟨i+1,by omega,by go_num,by show FlsB _ _ _ _;rw[←E.out];exact SF.out,BB⟩
     case measure=>simp[intOf];omega
  ·have hin:i=its.length:=by have h1:=HSN.out;omega
   have E:Hid (k.fl++qCh MM d (its.take i)=k.fl++qCh MM d its):=(by rw[hin,List.take_length]:_=_)
   have G2:Hid (WkB wr g k):=h.out.later BB.out
   have SF:Hid (FlsB wr u6 w.heap.size (k.fl++qCh MM d its)):=(by rw[←E.out];exact SF.out:FlsB _ _ _ _)
   clear hin
   obtain⟨z,hz,hzn⟩:=SlN.form (show SlN wr 68 12 w.heap.size u6 ((k.fl++qCh MM d its).map fcel)from SF.out)
   subst hz
   go_wp2_with (first|(refine qAe rfl 53 _ _ rfl g 3 rfl 56 _ G2.out (.slice z.a z.n z.c) rfl (by simp) rfl Tryz.sizeFls [.int .i64 k.rid,.slice k.mv.a k.mv.n k.mv.c,.slice k.mav.a k.mav.n k.mav.c,.slice z.a z.n z.c,.slice k.hev.a k.hev.n k.hev.c,.slice k.sav.a k.sav.n k.sav.c] rfl ?_;intro w5 g5 t5))
   refine bodyPost_end (results_none rfl _ _ _) rfl ?_
   have p:=hk.out.below BB.out
   have P4:WkP wr (k.setF (k.fl++qCh MM d its) z):=by
    refine⟨p.ring,p.ma,⟨SlN.down SF.out (Nat.zero_le _),fun e he=>?_⟩,p.he,p.sa⟩
    rcases List.mem_append.1 he with he|he
    ·exact p.fl.2 e he
    ·obtain⟨x,_,hx⟩:=List.mem_flatMap.1 he
     unfold qDq at hx
     obtain⟨m,_,rfl⟩:=List.mem_map.1 hx
     exact qEa _ _
   exact⟨rfl,z,g5,P4.keepb G2.out t5.keep,qHq BB.out t5⟩
theorem spNext_s(i d NX:Int)(s:Sv)(ms:List Int)(w:World)(h:Hid (RI w s.v ms))(hl:ms.length≤1048576)(hN:Hid (NX=qCw i ms d)):Calls Tryz.prog 217 #[.agg #[.int .i64 i,.slice s.a s.n s.c],.int .i64 d] w fun e w'=>e=.returned (.int .i64 NX)∧Below w.heap.size w w':=by
 obtain⟨ao,cap,h1,h2⟩:=h.out
 unfold Sv.v at h1
 rw[h1,hN.out]
 exact spNextOf_any i d ao cap ms w h2 hl
theorem qHu(g:Nat)(k:Wv)(d:Int)(t:Tok)(s:Sv)(w:World)(h:Hid (WkB w g k))(hk:Hid (WkP w k))(hs:Hid (OwnI w 0 s.v t.ws))(hl:t.ws.length≤1048576)(hml:k.ms.length≤1048576)(hfl:k.fl.length≤1000000):
  Calls Tryz.prog 192 #[.pointer (some ⟨g,0,none⟩),.int .i64 d,.agg #[.int .i64 t.c,.int .i64 t.r,.int .i64 t.q,.int .i64 t.a,.int .i64 t.b,.slice s.a s.n s.c]] w fun e w'=>e=.returned (.tuple #[])∧∃z y:Sv,WkB w' g (k.setF (k.fl++[(⟨qCw k.rid k.ms d,true,t,zIt⟩,y)]) z)∧WkP w' (k.setF (k.fl++[(⟨qCw k.rid k.ms d,true,t,zIt⟩,y)]) z)∧KeepBut g w w':=by
 have zg:g<w.heap.size:=Bx.lt h.out
 obtain⟨NX,hNX⟩: ∃x,x=qCw k.rid k.ms d:=⟨_,rfl⟩
 have HNX:Hid (NX=qCw k.rid k.ms d):=hNX
 rw[←hNX]
 clear hNX
 have b0:=bA w (.cells #[.int .i64 t.c,.int .i64 t.r,.int .i64 t.q,.int .i64 t.a,.int .i64 t.b,.slice s.a s.n s.c] 30)
 obtain⟨TB,G0,P0,W0,B0⟩:=cy5 (Bx.new w 30 [.int .i64 t.c,.int .i64 t.r,.int .i64 t.q,.int .i64 t.a,.int .i64 t.b,.slice s.a s.n s.c]) (h.out.later b0) (hk.out.below b0) (ownL hs.out b0) b0
 have hll:([]:List (List Value)).length+(k.fl.map fcel).length≤1048577:=by simp;omega
 have hl2:(k.fl.map fcel).length+1≤1048577:=by simp;omega
 clear b0 h hk hs
 go_enter Tryz.func192,Tryz.ntmps192
 go_wp2_with fail
 have zW:w.heap.size≤(w.alloc (.cells #[.int .i64 t.c,.int .i64 t.r,.int .i64 t.q,.int .i64 t.a,.int .i64 t.b,.slice s.a s.n s.c] 30)).heap.size:=B0.out.size
 generalize w.alloc (.cells #[.int .i64 t.c,.int .i64 t.r,.int .i64 t.q,.int .i64 t.a,.int .i64 t.b,.slice s.a s.n s.c] 30)=W at *
 have c:Below W.heap.size W W.drew:=(Below.refl _ _).drew
 refine qAj (S:=fun w'=>Below W.heap.size W w') _ (by simp) (by kernel_rfl) (by rfl) (by rfl) (by kernel_rfl) (by kernel_rfl) c (fun Ah=>?_)
 simp only[List.dropLast_cons_cons,List.dropLast_singleton,List.getLast_cons_cons,List.getLast_singleton,List.cons_append,List.nil_append,List.length_cons,List.length_nil]
 refine tkQ 0 rfl (by kernel_rfl) (by rfl) (fun _ _=>by simp only[Aa,Ab,Ac];go_simp;try with_reducible rfl) Ah ?_ fun _ _ _ h=>h
 try simp only[Act.put,Aa,Ab,Ac,Ad,Ae,Af]
 refine tkQ 2 rfl (by kernel_rfl) (by rfl) (fun _ _=>by simp only[Aa,Ab,Ac];go_simp;try with_reducible rfl) Ah ?_ fun _ _ _ h=>h
 try simp only[Act.put,Aa,Ab,Ac,Ad,Ae,Af]
 refine tkQ 3 rfl (by kernel_rfl) (by rfl) (fun _ _=>by simp only[Aa,Ab,Ac];go_simp;try with_reducible rfl) Ah ?_ fun _ _ _ h=>h
 try simp only[Act.put,Aa,Ab,Ac,Ad,Ae,Af]
 refine tkQ 4 rfl (by kernel_rfl) (by rfl) (fun _ _=>by simp only[Aa,Ab,Ac];go_simp;try with_reducible rfl) Ah ?_ fun _ _ _ h=>h
 try simp only[Act.put,Aa,Ab,Ac,Ad,Ae,Af]
 refine tkH (i:=5) (v:=_) rfl (by kernel_rfl) (fun _ _ _ h=>h) (qAf (by rfl) 53 _ rfl g 3 rfl 56 _ (fun w hS=>G0.out.later hS) (.slice k.flv.a k.flv.n k.flv.c) rfl _ Tryz.underlying53 rfl) Ah ?_
 try simp only[Act.put,Aa,Ab,Ac,Ad,Ae,Af]
 refine tkQ 7 rfl (by kernel_rfl) (by rfl) (fun _ _=>by simp only[Aa,Ab,Ac];go_simp;try with_reducible rfl) Ah ?_ fun _ _ _ h=>h
 try simp only[Act.put,Aa,Ab,Ac,Ad,Ae,Af]
 refine tkQ 8 rfl (by kernel_rfl) (by rfl) (fun _ _=>by simp only[Aa,Ab,Ac];go_simp;try with_reducible rfl) Ah ?_ fun _ _ _ h=>h
 try simp only[Act.put,Aa,Ab,Ac,Ad,Ae,Af]
 refine tkQ 9 rfl (by kernel_rfl) (by rfl) (fun _ _=>by simp only[Aa,Ab,Ac];go_simp;try with_reducible rfl) Ah ?_ fun _ _ _ h=>h
 try simp only[Act.put,Aa,Ab,Ac,Ad,Ae,Af]
 refine tkH (i:=10) (v:=_) rfl (by kernel_rfl) (fun _ _ _ h=>h) (qBp (by rfl) 26 _ rfl g 0 rfl 56 _ (fun w hS=>G0.out.later hS) [.int .i64 k.rid,.slice k.mv.a k.mv.n k.mv.c] rfl _ Tryz.underlying26 rfl Tryz.sizeR) Ah ?_
 try simp only[Act.put,Aa,Ab,Ac,Ad,Ae,Af]
 refine tkQ 11 rfl (by kernel_rfl) (by rfl) (fun _ _=>by simp only[Aa,Ab,Ac];go_simp;try with_reducible rfl) Ah ?_ fun _ _ _ h=>h
 try simp only[Act.put,Aa,Ab,Ac,Ad,Ae,Af]
 refine tkH (i:=13) (v:=_) rfl (by kernel_rfl) (fun _ _ _ h=>h) (qBp (by rfl) 30 _ rfl w.heap.size 0 rfl 30 _ (fun w hS=>TB.out.later hS) (tX t.c t.r t.q t.a t.b s) rfl _ Tryz.underlying30 rfl Tryz.sizeT) Ah ?_
 try simp only[Act.put,Aa,Ab,Ac,Ad,Ae,Af]
 refine wpAnyH_ready (rs:=[1]) (by kernel_rfl) (by simp) ?_
 refine AllReadyH.cons (i:=1) rfl (fun K hK=>?_) AllReadyH.nil
 rw[if_pos (by rfl)]
 simp only[Aa,Ab,Ac]
 go_simp
 have S1:Hid (SlN (W.drew.alloc (.cells #[] 68)) 68 12 W.heap.size (.slice (some ⟨W.heap.size,0,none⟩) 0 0) []):=SlN.made W.drew 68 12 W.heap.size (Nat.le_of_eq (by simp))
 have c1:Below W.heap.size W (W.drew.alloc (.cells #[] 68)):=c.alloc c.size _
 refine hK.out _ _ (c1) (fun Ah=>?_)
 clear hK K
 try simp only[Act.put,Aa,Ab,Ac,Ad,Ae,Af]
 refine wpAnyH_ready (rs:=[6]) (by kernel_rfl) (by simp) ?_
 refine AllReadyH.cons (i:=6) rfl (fun K hK=>?_) AllReadyH.nil
 rw[if_pos (by rfl)]
 simp only[Aa,Ab,Ac]
 refine qCc _ _ 53 rfl _ 120 Tryz.underlying53 Tryz.infoFl rfl (by decide) W.heap.size (.slice (some ⟨W.heap.size,0,none⟩) 0 0) [] (by rfl) S1.out 0 (.slice k.flv.a k.flv.n k.flv.c) (k.fl.map fcel) (by rfl) (P0.out.fl.below c1).1 hll c1.size ?_
 intro v2 w2 s2 g2 b2 _
 have c2:Below W.heap.size W w2:=c1.trans b2
 rw[List.nil_append]at s2
 have S2:=Ag s2
 refine hK.out _ _ (c2) (fun Ah=>?_)
 clear hK K
 try simp only[Act.put,Aa,Ab,Ac,Ad,Ae,Af]
 clear s2 g2 b2 S1
 refine wpAnyH_ready (rs:=[12]) (by kernel_rfl) (by simp) ?_
 refine AllReadyH.cons (i:=12) rfl (fun K hK=>?_) AllReadyH.nil
 rw[if_pos (by rfl)]
 simp only[Aa,Ab,Ac]
 go_simp
 refine(spNext_s k.rid d NX k.mv k.ms _ (show Hid (RI w2 k.mv.v k.ms)from P0.out.ring.ri.stays c2) hml HNX).mono ?_
 rintro e w3 ⟨rfl,b3⟩
 have c3:=qAa c2 b3
 have S3:=Ag (S2.out.below b3)
 refine hK.out _ _ (c3) (fun Ah=>?_)
 clear hK K
 try simp only[Act.put,Aa,Ab,Ac,Ad,Ae,Af]
 clear b3 S2
 refine wpAnyH_ready (rs:=[14]) (by kernel_rfl) (by simp) ?_
 refine AllReadyH.cons (i:=14) rfl (fun K hK=>?_) AllReadyH.nil
 rw[if_pos (by rfl)]
 simp only[Aa,Ab,Ac]
 go_simp
 refine(qDz t.c t.r t.q t.a t.b s t.ws _ (show Hid (OwnI w3 0 s.v t.ws)from W0.out.keep fun _ _ hk=>c3.block _ hk) hl).mono ?_
 rintro e w4 ⟨y,rfl,oy,b4⟩
 have c4:=qAa c3 b4
 obtain⟨S4,Y4⟩:=cy2 (S3.out.below b4) (oy.down (Nat.zero_le _))
 refine hK.out _ _ (c4) (fun Ah=>?_)
 clear hK K
 try simp only[Act.put,Aa,Ab,Ac,Ad,Ae,Af]
 clear b4 S3 oy
 refine tkQ 15 rfl (by kernel_rfl) (by rfl) (fun _ _=>by simp only[Aa,Ab,Ac];go_simp;try with_reducible rfl) Ah ?_ fun _ _ _ h=>h
 try simp only[Act.put,Aa,Ab,Ac,Ad,Ae,Af]
 refine wpAnyH_ready (rs:=[16]) (by kernel_rfl) (by simp) ?_
 refine AllReadyH.cons (i:=16) rfl (fun K hK=>?_) AllReadyH.nil
 rw[if_pos (by rfl)]
 simp only[Aa,Ab,Ac]
 go_simp
 have A5:Hid (SlN (w4.alloc (.cells #[.int .i64 NX,.bool true,.int .i64 t.c,.int .i64 t.r,.int .i64 t.q,.int .i64 t.a,.int .i64 t.b,.slice y.a y.n y.c,.int .i64 0,.int .i64 0,.int .i64 0,.string ⟨#[]⟩] 68)) 68 12 0 (.slice (some ⟨w4.heap.size,0,none⟩) 1 1) [[.int .i64 NX,.bool true,.int .i64 t.c,.int .i64 t.r,.int .i64 t.q,.int .i64 t.a,.int .i64 t.b,.slice y.a y.n y.c,.int .i64 0,.int .i64 0,.int .i64 0,.string ⟨#[]⟩]]):=SlN.one w4 68 12 0 _ rfl rfl (Nat.zero_le _)
 have b5:=bA w4 (.cells #[.int .i64 NX,.bool true,.int .i64 t.c,.int .i64 t.r,.int .i64 t.q,.int .i64 t.a,.int .i64 t.b,.slice y.a y.n y.c,.int .i64 0,.int .i64 0,.int .i64 0,.string ⟨#[]⟩] 68)
 have c4a:=qAa c4 b5
 obtain⟨S4a,Y4a⟩:=cy2 (S4.out.below b5) (ownL Y4.out b5)
 refine hK.out _ _ (c4a) (fun Ah=>?_)
 clear hK K
 try simp only[Act.put,Aa,Ab,Ac,Ad,Ae,Af]
 refine wpAnyH_ready (rs:=[17]) (by kernel_rfl) (by simp) ?_
 refine AllReadyH.cons (i:=17) rfl (fun K hK=>?_) AllReadyH.nil
 rw[if_pos (by rfl)]
 simp only[Aa,Ab,Ac]
 refine qCc _ _ 53 rfl _ 120 Tryz.underlying53 Tryz.infoFl rfl (by decide) W.heap.size v2 (k.fl.map fcel) (by rfl) S4a.out 0 _ [[.int .i64 NX,.bool true,.int .i64 t.c,.int .i64 t.r,.int .i64 t.q,.int .i64 t.a,.int .i64 t.b,.slice y.a y.n y.c,.int .i64 0,.int .i64 0,.int .i64 0,.string ⟨#[]⟩]] (by rfl) A5.out hl2 c4a.size ?_
 intro v5 w5 s5 g5 b6 _
 have c5:Below W.heap.size W w5:=c4a.trans b6
 obtain⟨z,hz,_⟩:=s5.form
 subst hz
 have S5:=Ag s5
 have Y5:Hid (OwnI w5 0 y.v t.ws):=Y4a.out.kt (KeepTy.ofPush (S:=fun T=>T=68) S4a.out g5 rfl) (by decide)
 refine hK.out _ _ (c5) (fun Ah=>?_)
 clear hK K
 try simp only[Act.put,Aa,Ab,Ac,Ad,Ae,Af]
 clear s5 g5 b6 S4a Y4a A5
 refine tkQ 18 rfl (by kernel_rfl) (by rfl) (fun _ _=>by simp only[Aa,Ab,Ac];go_simp;try with_reducible rfl) Ah ?_ fun _ _ _ h=>h
 try simp only[Act.put,Aa,Ab,Ac,Ad,Ae,Af]
 refine tkQ 19 rfl (by kernel_rfl) (by rfl) (fun _ _=>by simp only[Aa,Ab,Ac];go_simp;try with_reducible rfl) Ah ?_ fun _ _ _ h=>h
 try simp only[Act.put,Aa,Ab,Ac,Ad,Ae,Af]
 refine tkQ 20 rfl (by kernel_rfl) (by rfl) (fun _ _=>by simp only[Aa,Ab,Ac];go_simp;try with_reducible rfl) Ah ?_ fun _ _ _ h=>h
 try simp only[Act.put,Aa,Ab,Ac,Ad,Ae,Af]
 refine wpAnyH_done (by kernel_rfl) ?_ _
 have G5:=Ag (G0.out.later c5)
 refine qBj rfl rfl ?_
 refine qCy 53 _ _ rfl g 3 rfl 56 _ G5.out (.slice z.a z.n z.c) rfl (by simp) rfl Tryz.sizeFls [.int .i64 k.rid,.slice k.mv.a k.mv.n k.mv.c,.slice k.mav.a k.mav.n k.mav.c,.slice z.a z.n z.c,.slice k.hev.a k.hev.n k.hev.c,.slice k.sav.a k.sav.n k.sav.c] rfl ?_
 intro w6 g6 t6
 go_wp2_with fail
 refine bodyPost_end (results_none rfl _ _ _) rfl ?_
 have p:=P0.out.below c5
 have P4:WkP w5 (k.setF (k.fl++[(⟨NX,true,t,zIt⟩,y)]) z):=by
  refine⟨p.ring,p.ma,⟨?_,fun e he=>?_⟩,p.he,p.sa⟩
  ·show SlN w5 68 12 0 (.slice z.a z.n z.c) ((k.fl++[((⟨NX,true,t,zIt⟩:Fl),y)]).map fcel)
   rw[show(k.fl++[((⟨NX,true,t,zIt⟩:Fl),y)]).map fcel=k.fl.map fcel++[[.int .i64 NX,.bool true,.int .i64 t.c,.int .i64 t.r,.int .i64 t.q,.int .i64 t.a,.int .i64 t.b,.slice y.a y.n y.c,.int .i64 0,.int .i64 0,.int .i64 0,.string ⟨#[]⟩]] by rw[List.map_append];rfl]
   exact S5.out.down (Nat.zero_le _)
  ·rcases List.mem_append.1 he with he|he
   ·exact p.fl.2 e he
   ·simp at he;subst he;exact Y5.out
 exact⟨rfl,z,y,g6,P4.keepb G5.out t6.keep,qHq (qAa B0.out c5) t6⟩
theorem Tryz.size9:(Tryz.prog.info? 9).map (·.size)=some 1:=by kernel_rfl
def qKy(m:Mt):Nat:=min 3 m.tx.length
def qBa(m:Mt)(t:Tok):List It:=numL t.c t.r t.q t.a t.b t.ws m.id m.lv m.tx
def Mt.spoke(m:Mt)(t:Tok):Mt:=⟨m.id,m.rid,m.ms,qBc m.its (qBa m t),m.lv.drop (qKy m),m.tx.drop (qKy m),m.rd,m.se,m.li,m.he,m.la⟩
structure MtC (w:World) (B:Nat) (m:Mt) (v:Mv):Prop where
 ms:OwnI w B v.ms.v m.ms
 its:SlI w B v.its.v m.its
 lv:SlJ w B v.lv.v m.lv
 tx:SlX w B v.tx.v m.tx
 ws:OwnI w B v.ws.v m.la.ws
theorem numberT_s(t:Tok)(f:Int)(s l x:Sv)(lv:List Int)(tx:List ByteArray)(w:World)(h:Hid (OwnI w 0 s.v t.ws))(hl:t.ws.length≤1048576)(hlv:Hid (RI w l.v lv))(hll:lv.length≤1048576)(htx:Hid (RT w x.v tx))(hlt:tx.length≤1048576):
  Calls Tryz.prog 122 #[.agg #[.int .i64 t.c,.int .i64 t.r,.int .i64 t.q,.int .i64 t.a,.int .i64 t.b,.slice s.a s.n s.c],.int .i64 f,.slice l.a l.n l.c,.slice x.a x.n x.c] w fun e w'=>∃sw fs:Sv,e=.returned (.tuple #[.agg #[.int .i64 t.c,.int .i64 t.r,.int .i64 (numQ t.c t.r t.q t.a t.b t.ws f lv tx),.int .i64 (numA t.c t.r t.q t.a t.b t.ws f lv tx),.int .i64 t.b,.slice sw.a sw.n sw.c],.slice fs.a fs.n fs.c])∧OwnI w' w.heap.size sw.v t.ws∧SlI w' w.heap.size fs.v (numL t.c t.r t.q t.a t.b t.ws f lv tx)∧Below w.heap.size w w':=by
 obtain⟨al,cl,e1,x1⟩:=hlv.out
 obtain⟨at_,ct,e2,x2⟩:=htx.out
 have hq:=numberT_any t.c t.r t.q t.a t.b f s.v t.ws 0 al cl lv at_ ct tx w h hl x1 hll x2 hlt
 rw[←e1,←e2]at hq
 refine hq.mono ?_
 rintro e w' ⟨v,vi,rfl,o1,o2,b⟩
 obtain⟨sw,rfl⟩:=o1.sv
 obtain⟨fs,rfl⟩:=o2.sv
 exact⟨sw,fs,rfl,o1,o2,b⟩
theorem speak_any(m:Mt)(u:Mv)(it:Sv)(g B:Nat)(t:Tok)(s:Sv)(w:World)(h:Hid (MbB w g m u it))(ho:Hid (MtO w B m u))(hs:Hid (OwnI w 0 s.v t.ws))(hl:t.ws.length≤1048576)(hsz:Hid (MtS m))(hA:Hid (Asc m.its))(hB:B≤g)(hil:m.its.length≤1000000)(hll:Hid (m.lv.length=m.tx.length))(hts:Hid (∀x∈qBa m t,x.2.2.2.size≤1048576)):
  Calls Tryz.prog 55 #[.pointer (some ⟨g,0,none⟩),.agg #[.int .i64 t.c,.int .i64 t.r,.int .i64 t.q,.int .i64 t.a,.int .i64 t.b,.slice s.a s.n s.c]] w fun e w'=>∃(sw fs n lv tx:Sv),e=.returned (.tuple #[.agg #[.int .i64 t.c,.int .i64 t.r,.int .i64 (numQ t.c t.r t.q t.a t.b t.ws m.id m.lv m.tx),.int .i64 (numA t.c t.r t.q t.a t.b t.ws m.id m.lv m.tx),.int .i64 t.b,.slice sw.a sw.n sw.c],.slice fs.a fs.n fs.c])∧MbB w' g (m.spoke t) ⟨u.ms,n,lv,tx,u.ws⟩ it∧MtC w' B (m.spoke t) ⟨u.ms,n,lv,tx,u.ws⟩∧OwnI w' w.heap.size sw.v t.ws∧SlI w' w.heap.size fs.v (qBa m t)∧Below B w w'∧(∀k,k<w.heap.size→k≠g→u.its.v.ownBlock≠some k→w'.heap[k]? =w.heap[k]?)∧(n.v.ownBlock=u.its.v.ownBlock∨ ∃nb,n.v.ownBlock=some nb∧w.heap.size≤nb):=by
 have hn1:(w.alloc (.cells #[.int .i64 t.c,.int .i64 t.r,.int .i64 t.q,.int .i64 t.a,.int .i64 t.b,.slice s.a s.n s.c] 30)).heap.size=w.heap.size+1:=by simp
 have zg:g<w.heap.size:=Bx.lt h.out
 obtain⟨HT,HR,HB⟩:=en2 w 30 [.int .i64 t.c,.int .i64 t.r,.int .i64 t.q,.int .i64 t.a,.int .i64 t.b,.slice s.a s.n s.c] 30 [.int .i64 0,.int .i64 0,.int .i64 0,.int .i64 0,.int .i64 0,.slice none 0 0]
 obtain⟨HG,HO⟩:=cy2 (Bx.later h.out HB.out) (ho.out.later HB.out)
 have HS:Hid (OwnI ((w.alloc (.cells #[.int .i64 t.c,.int .i64 t.r,.int .i64 t.q,.int .i64 t.a,.int .i64 t.b,.slice s.a s.n s.c] 30)).alloc (.cells #[.int .i64 0,.int .i64 0,.int .i64 0,.int .i64 0,.int .i64 0,.slice none 0 0] 30)) 0 s.v t.ws):=hs.out.keep fun k _ hk=>HB.out.block k hk
 have hBw:B≤w.heap.size:=by omega
 clear h ho hs hn1
 obtain⟨Q2,hQ2⟩: ∃Q2,Q2=numQ t.c t.r t.q t.a t.b t.ws m.id m.lv m.tx:=⟨_,rfl⟩
 obtain⟨A3,hA3⟩: ∃A3,A3=numA t.c t.r t.q t.a t.b t.ws m.id m.lv m.tx:=⟨_,rfl⟩
 obtain⟨L,hL⟩: ∃L,L=qBa m t:=⟨_,rfl⟩
 rw[←hL]at hts
 rw[←hQ2,←hA3]
 go_enter Tryz.func55,Tryz.ntmps55
 go_wp2_with fail
 generalize ((w.alloc (.cells #[.int .i64 t.c,.int .i64 t.r,.int .i64 t.q,.int .i64 t.a,.int .i64 t.b,.slice s.a s.n s.c] 30)).alloc (.cells #[.int .i64 0,.int .i64 0,.int .i64 0,.int .i64 0,.int .i64 0,.slice none 0 0] 30))=W at *
 have zW:w.heap.size+1<W.heap.size:=HR.out.lt
 have NUM:Hid (∀W',Below W.heap.size W W'→Calls Tryz.prog 122 #[.agg #[.int .i64 t.c,.int .i64 t.r,.int .i64 t.q,.int .i64 t.a,.int .i64 t.b,.slice s.a s.n s.c],.int .i64 m.id,.slice u.lv.a u.lv.n u.lv.c,.slice u.tx.a u.tx.n u.tx.c] W' fun e w'=>∃sw fs:Sv,e=.returned (.tuple #[.agg #[.int .i64 t.c,.int .i64 t.r,.int .i64 Q2,.int .i64 A3,.int .i64 t.b,.slice sw.a sw.n sw.c],.slice fs.a fs.n fs.c])∧OwnI w' W'.heap.size sw.v t.ws∧SlI w' W'.heap.size fs.v L∧Below W'.heap.size W' w'):=fun W' hb=>by
  rw[hQ2,hA3,hL]
  exact numberT_s t m.id s u.lv u.tx m.lv m.tx W' (show Hid (OwnI W' 0 s.v t.ws)from HS.out.keep fun k _ hk=>hb.block k hk) hl (show Hid (RI W' u.lv.v m.lv)from HO.out.lv.ri.stays hb) hsz.out.lv (show Hid (RT W' u.tx.v m.tx)from HO.out.tx.rt.stays hb) hsz.out.tx
 have HSP:Hid (∀(w':World) (sw fs n lv tx:Sv),MbB w' g ⟨m.id,m.rid,m.ms,qBc m.its L,m.lv.drop (qKy m),m.tx.drop (qKy m),m.rd,m.se,m.li,m.he,m.la⟩ ⟨u.ms,n,lv,tx,u.ws⟩ it∧MtC w' B ⟨m.id,m.rid,m.ms,qBc m.its L,m.lv.drop (qKy m),m.tx.drop (qKy m),m.rd,m.se,m.li,m.he,m.la⟩ ⟨u.ms,n,lv,tx,u.ws⟩∧OwnI w' w.heap.size sw.v t.ws∧SlI w' w.heap.size fs.v L∧Below B w w'∧(∀k,k<w.heap.size→k≠g→u.its.v.ownBlock≠some k→w'.heap[k]? =w.heap[k]?)→MbB w' g (m.spoke t) ⟨u.ms,n,lv,tx,u.ws⟩ it∧MtC w' B (m.spoke t) ⟨u.ms,n,lv,tx,u.ws⟩∧OwnI w' w.heap.size sw.v t.ws∧SlI w' w.heap.size fs.v (qBa m t)∧Below B w w'∧(∀k,k<w.heap.size→k≠g→u.its.v.ownBlock≠some k→w'.heap[k]? =w.heap[k]?)):=fun w' sw fs n lv tx hh=>by
  unfold Mt.spoke;rw[←hL];exact hh
 have hL3:L.length≤3:=by rw[hL];exact qKq _ _ _ _ _ _ _ _ _
 have ITL:Hid (∀k,u.its.v.ownBlock=some k→k<W.heap.size):=fun k hk=>(HO.out.its.lt k hk).2
 clear hQ2 hA3 hL
 go_cut [6,7] (fun u6 u7 wx=>∃(gn:Nat) (sw fs:Sv),u6=.pointer (some ⟨gn,0,none⟩)∧u7=.slice fs.a fs.n fs.c∧Bx wx gn 30 (tX t.c t.r Q2 A3 t.b sw)∧OwnI wx W.heap.size sw.v t.ws∧SlI wx W.heap.size fs.v L∧W.heap.size≤gn∧Below W.heap.size W wx)
 case first=>
  have c:Below W.heap.size W W.drew:=(Below.refl _ _).drew
  refine wp_region_held_drew (S:=fun w'=>Below W.heap.size W w') (by kernel_rfl) c (fun Ah=>?_)
  refine tkH (i:=0) (v:=_) rfl (by kernel_rfl) (fun _ _ _ h=>h) (qBp (by rfl) 30 _ rfl w.heap.size 0 rfl 30 _ (fun w hS=>HT.out.later hS) (tX t.c t.r t.q t.a t.b s) rfl _ Tryz.underlying30 rfl Tryz.sizeT) Ah ?_
  try simp only[Act.put,Aa,Ab,Ac,Ad,Ae,Af]
  refine tkQ 1 rfl (by kernel_rfl) (by rfl) (fun _ _=>by simp only[Aa,Ab,Ac];go_simp;try with_reducible rfl) Ah ?_ fun _ _ _ h=>h
  try simp only[Act.put,Aa,Ab,Ac,Ad,Ae,Af]
  refine tkQ 2 rfl (by kernel_rfl) (by rfl) (fun _ _=>by simp only[Aa,Ab,Ac];go_simp;try with_reducible rfl) Ah ?_ fun _ _ _ h=>h
  try simp only[Act.put,Aa,Ab,Ac,Ad,Ae,Af]
  refine tkQ 3 rfl (by kernel_rfl) (by rfl) (fun _ _=>by simp only[Aa,Ab,Ac];go_simp;try with_reducible rfl) Ah ?_ fun _ _ _ h=>h
  try simp only[Act.put,Aa,Ab,Ac,Ad,Ae,Af]
  refine tkQ 4 rfl (by kernel_rfl) (by rfl) (fun _ _=>by simp only[Aa,Ab,Ac];go_simp;try with_reducible rfl) Ah ?_ fun _ _ _ h=>h
  try simp only[Act.put,Aa,Ab,Ac,Ad,Ae,Af]
  refine tkH (i:=5) (v:=_) rfl (by kernel_rfl) (fun _ _ _ h=>h) (qAf (by rfl) 3 _ rfl g 1 rfl 96 _ (fun w hS=>HG.out.later hS) (.int .i64 m.id) rfl _ Tryz.underlying3 rfl) Ah ?_
  try simp only[Act.put,Aa,Ab,Ac,Ad,Ae,Af]
  refine tkQ 6 rfl (by kernel_rfl) (by rfl) (fun _ _=>by simp only[Aa,Ab,Ac];go_simp;try with_reducible rfl) Ah ?_ fun _ _ _ h=>h
  try simp only[Act.put,Aa,Ab,Ac,Ad,Ae,Af]
  refine tkQ 7 rfl (by kernel_rfl) (by rfl) (fun _ _=>by simp only[Aa,Ab,Ac];go_simp;try with_reducible rfl) Ah ?_ fun _ _ _ h=>h
  try simp only[Act.put,Aa,Ab,Ac,Ad,Ae,Af]
  refine tkQ 8 rfl (by kernel_rfl) (by rfl) (fun _ _=>by simp only[Aa,Ab,Ac];go_simp;try with_reducible rfl) Ah ?_ fun _ _ _ h=>h
  try simp only[Act.put,Aa,Ab,Ac,Ad,Ae,Af]
  refine tkQ 9 rfl (by kernel_rfl) (by rfl) (fun _ _=>by simp only[Aa,Ab,Ac];go_simp;try with_reducible rfl) Ah ?_ fun _ _ _ h=>h
  try simp only[Act.put,Aa,Ab,Ac,Ad,Ae,Af]
  refine tkH (i:=10) (v:=_) rfl (by kernel_rfl) (fun _ _ _ h=>h) (qAf (by rfl) 24 _ rfl g 5 rfl 96 _ (fun w hS=>HG.out.later hS) (.slice u.lv.a u.lv.n u.lv.c) rfl _ Tryz.underlying24 rfl) Ah ?_
  try simp only[Act.put,Aa,Ab,Ac,Ad,Ae,Af]
  refine tkQ 11 rfl (by kernel_rfl) (by rfl) (fun _ _=>by simp only[Aa,Ab,Ac];go_simp;try with_reducible rfl) Ah ?_ fun _ _ _ h=>h
  try simp only[Act.put,Aa,Ab,Ac,Ad,Ae,Af]
  refine tkQ 12 rfl (by kernel_rfl) (by rfl) (fun _ _=>by simp only[Aa,Ab,Ac];go_simp;try with_reducible rfl) Ah ?_ fun _ _ _ h=>h
  try simp only[Act.put,Aa,Ab,Ac,Ad,Ae,Af]
  refine tkQ 13 rfl (by kernel_rfl) (by rfl) (fun _ _=>by simp only[Aa,Ab,Ac];go_simp;try with_reducible rfl) Ah ?_ fun _ _ _ h=>h
  try simp only[Act.put,Aa,Ab,Ac,Ad,Ae,Af]
  refine tkQ 14 rfl (by kernel_rfl) (by rfl) (fun _ _=>by simp only[Aa,Ab,Ac];go_simp;try with_reducible rfl) Ah ?_ fun _ _ _ h=>h
  try simp only[Act.put,Aa,Ab,Ac,Ad,Ae,Af]
  refine tkH (i:=15) (v:=_) rfl (by kernel_rfl) (fun _ _ _ h=>h) (qAf (by rfl) 28 _ rfl g 6 rfl 96 _ (fun w hS=>HG.out.later hS) (.slice u.tx.a u.tx.n u.tx.c) rfl _ Tryz.underlying28 rfl) Ah ?_
  try simp only[Act.put,Aa,Ab,Ac,Ad,Ae,Af]
  refine wpAnyH_ready (rs:=[16,20]) (by kernel_rfl) (by simp) ?_
  refine(AllReadyH.cons (i:=16) rfl (fun K hK=>?_) (AllReadyH.cons (i:=20) rfl (fun K hK=>?_) AllReadyH.nil))
  ·skip
   rw[if_pos (by rfl)]
   simp only[Aa,Ab,Ac]
   go_simp
   refine(NUM.out _ c).mono ?_
   rintro e y1 ⟨sw,fs,rfl,os1,of1,b⟩
   have zc:=c.size
   have OS1:Hid (OwnI y1 W.heap.size (.slice sw.a sw.n sw.c) t.ws):=os1.down zc
   have OF1:Hid (SlI y1 W.heap.size (.slice fs.a fs.n fs.c) L):=of1.down zc
   have c:=qAa c b
   refine hK.out _ _ (c) (fun Ah=>?_)
   clear hK K
   try simp only[Act.put,Aa,Ab,Ac,Ad,Ae,Af]
   clear b os1 of1 zc
   refine tkQ 17 rfl (by kernel_rfl) (by rfl) (fun _ _=>by simp only[Aa,Ab,Ac];go_simp;try with_reducible rfl) Ah ?_ fun _ _ _ h=>h
   try simp only[Act.put,Aa,Ab,Ac,Ad,Ae,Af]
   refine tkQ 18 rfl (by kernel_rfl) (by rfl) (fun _ _=>by simp only[Aa,Ab,Ac];go_simp;try with_reducible rfl) Ah ?_ fun _ _ _ h=>h
   try simp only[Act.put,Aa,Ab,Ac,Ad,Ae,Af]
   refine tkQ 19 rfl (by kernel_rfl) (by rfl) (fun _ _=>by simp only[Aa,Ab,Ac];go_simp;try with_reducible rfl) Ah ?_ fun _ _ _ h=>h
   try simp only[Act.put,Aa,Ab,Ac,Ad,Ae,Af]
   refine wpAnyH_ready (rs:=[20]) (by kernel_rfl) (by simp) ?_
   refine AllReadyH.cons (i:=20) rfl (fun K hK=>?_) AllReadyH.nil
   rw[if_pos (by rfl)]
   simp only[Aa,Ab,Ac]
   go_simp
   have BX2:=Ag (bxAt y1 30 [.int .i64 0,.int .i64 0,.int .i64 0,.int .i64 0,.int .i64 0,.slice none 0 0] y1.heap.size (by simp))
   have zq:W.heap.size≤y1.heap.size:=by have h:=c.size;rw[show y1.heap.size=y1.heap.size by simp]at h;exact h
   have c:Below W.heap.size W (y1.alloc (.cells zzT.toArray 30)):=c.alloc c.size _
   have OS1:Hid (OwnI (y1.alloc (.cells zzT.toArray 30)) W.heap.size (.slice sw.a sw.n sw.c) t.ws):=OS1.out.alloc _
   have OF1:Hid (SlI (y1.alloc (.cells zzT.toArray 30)) W.heap.size (.slice fs.a fs.n fs.c) L):=Sl.alloc OF1.out _
   refine hK.out _ _ (c) (fun Ah=>?_)
   clear hK K
   try simp only[Act.put,Aa,Ab,Ac,Ad,Ae,Af]
   refine wpAnyH_ready (rs:=[21]) (by kernel_rfl) (by simp) ?_
   refine AllReadyH.cons (i:=21) rfl (fun K hK=>?_) AllReadyH.nil
   rw[if_pos (by rfl)]
   simp only[Aa,Ab,Ac]
   refine qAm 30 _ _ rfl (y1.heap.size) (by rfl) 30 _ BX2.out (tX t.c t.r Q2 A3 t.b sw) (by rfl) rfl Tryz.sizeT rfl ?_
   intro y3 RB3 TB3
   have OS:=OS1.out.past BX2.out TB3 (by decide)
   have OF:=OF1.out.past BX2.out TB3 (by decide)
   have c:=c.trans (TB3.below zq)
   refine hK.out _ _ (c) (fun Ah=>?_)
   clear hK K
   try simp only[Act.put,Aa,Ab,Ac,Ad,Ae,Af]
   refine tkQ 22 rfl (by kernel_rfl) (by rfl) (fun _ _=>by simp only[Aa,Ab,Ac];go_simp;try with_reducible rfl) Ah ?_ fun _ _ _ h=>h
   try simp only[Act.put,Aa,Ab,Ac,Ad,Ae,Af]
   refine wpAnyH_done (by kernel_rfl) ?_ _
   try go_wp2_with fail
   go_meet
   exact⟨_,sw,fs,rfl,rfl,RB3,OS,OF,zq,c⟩
  ·skip
   rw[if_pos (by rfl)]
   simp only[Aa,Ab,Ac]
   go_simp
   have BX1:=Ag (bxAt W.drew 30 [.int .i64 0,.int .i64 0,.int .i64 0,.int .i64 0,.int .i64 0,.slice none 0 0] W.heap.size (by simp))
   have zq:W.heap.size≤W.heap.size:=by have h:=c.size;rw[show W.drew.heap.size=W.heap.size by simp]at h;exact h
   have c:Below W.heap.size W (W.drew.alloc (.cells zzT.toArray 30)):=c.alloc c.size _
   refine hK.out _ _ (c) (fun Ah=>?_)
   clear hK K
   try simp only[Act.put,Aa,Ab,Ac,Ad,Ae,Af]
   refine wpAnyH_ready (rs:=[16]) (by kernel_rfl) (by simp) ?_
   refine AllReadyH.cons (i:=16) rfl (fun K hK=>?_) AllReadyH.nil
   rw[if_pos (by rfl)]
   simp only[Aa,Ab,Ac]
   go_simp
   refine(NUM.out _ c).mono ?_
   rintro e y2 ⟨sw,fs,rfl,os2,of2,b⟩
   have zc:W.heap.size≤(W.drew.alloc (.cells zzT.toArray 30)).heap.size:=c.size
   have BX1:=Ag (BX1.out.later b)
   have OS2:Hid (OwnI y2 W.heap.size (.slice sw.a sw.n sw.c) t.ws):=os2.down zc
   have OF2:Hid (SlI y2 W.heap.size (.slice fs.a fs.n fs.c) L):=of2.down zc
   have c:=qAa c b
   refine hK.out _ _ (c) (fun Ah=>?_)
   clear hK K
   try simp only[Act.put,Aa,Ab,Ac,Ad,Ae,Af]
   clear b os2 of2 zc
   refine tkQ 17 rfl (by kernel_rfl) (by rfl) (fun _ _=>by simp only[Aa,Ab,Ac];go_simp;try with_reducible rfl) Ah ?_ fun _ _ _ h=>h
   try simp only[Act.put,Aa,Ab,Ac,Ad,Ae,Af]
   refine tkQ 18 rfl (by kernel_rfl) (by rfl) (fun _ _=>by simp only[Aa,Ab,Ac];go_simp;try with_reducible rfl) Ah ?_ fun _ _ _ h=>h
   try simp only[Act.put,Aa,Ab,Ac,Ad,Ae,Af]
   refine tkQ 19 rfl (by kernel_rfl) (by rfl) (fun _ _=>by simp only[Aa,Ab,Ac];go_simp;try with_reducible rfl) Ah ?_ fun _ _ _ h=>h
   try simp only[Act.put,Aa,Ab,Ac,Ad,Ae,Af]
   refine wpAnyH_ready (rs:=[21]) (by kernel_rfl) (by simp) ?_
   refine AllReadyH.cons (i:=21) rfl (fun K hK=>?_) AllReadyH.nil
   rw[if_pos (by rfl)]
   simp only[Aa,Ab,Ac]
   refine qAm 30 _ _ rfl (W.heap.size) (by rfl) 30 _ BX1.out (tX t.c t.r Q2 A3 t.b sw) (by rfl) rfl Tryz.sizeT rfl ?_
   intro y3 RB3 TB3
   have OS:=OS2.out.past BX1.out TB3 (by decide)
   have OF:=OF2.out.past BX1.out TB3 (by decide)
   have c:=c.trans (TB3.below zq)
   refine hK.out _ _ (c) (fun Ah=>?_)
   clear hK K
   try simp only[Act.put,Aa,Ab,Ac,Ad,Ae,Af]
   refine tkQ 22 rfl (by kernel_rfl) (by rfl) (fun _ _=>by simp only[Aa,Ab,Ac];go_simp;try with_reducible rfl) Ah ?_ fun _ _ _ h=>h
   try simp only[Act.put,Aa,Ab,Ac,Ad,Ae,Af]
   refine wpAnyH_done (by kernel_rfl) ?_ _
   try go_wp2_with fail
   go_meet
   exact⟨_,sw,fs,rfl,rfl,RB3,OS,OF,zq,c⟩
 case rest=>
 obtain⟨gn,sw,fs,rfl,rfl,hbn,hos,hof,zgn,b1⟩:=hcut
 generalize wc=w1 at *
 have N1:=Ag hbn
 have OS1:Hid (OwnI w1 W.heap.size sw.v t.ws):=hos
 have OF1:Hid (SlI w1 W.heap.size fs.v L):=hof
 obtain⟨G1,R1,O1,B1⟩:=cy4 (HG.out.later b1) (HR.out.later b1) (HO.out.later b1) (qAa HB.out b1)
 have F1:Hid (∀k,k<w.heap.size→k≠g→u.its.v.ownBlock≠some k→w1.heap[k]? =w.heap[k]?):=fun k hk _ _=>B1.out.block k hk
 have zn1:=N1.out.lt
 obtain⟨k,hk⟩: ∃k:Nat,k=qKy m:=⟨_,rfl⟩
 have hkx:k≤m.tx.length:=by rw[hk];exact Nat.min_le_right _ _
 have hkl:k≤m.lv.length:=by rw[hll.out];exact hkx
 have htn:u.tx.n=m.tx.length:=by obtain⟨a0,c0,e0⟩:=O1.out.tx.form;simp[Sv.v]at e0;exact e0.2.1
 have hln:u.lv.n=m.lv.length:=by obtain⟨a0,c0,e0⟩:=O1.out.lv.form;simp[Sv.v]at e0;exact e0.2.1
 have hmin:min (3:Int) (u.tx.n:Int)=(k:Int):=by rw[htn,hk];unfold qKy;omega
 have HMN:Hid (min (3:Int) (u.tx.n:Int)=(k:Int)):=hmin
 have HK:Hid (k=qKy m):=hk
 have LV1:Hid (Sl w1 3 1 B (.slice u.lv.a u.lv.n u.lv.c) u.lv.n (m.lv.map (Value.int .i64))):=by have h:=O1.out.lv.j;unfold SlJ Sv.v at h;rw[←hln]at h;exact h
 have TX1:Hid (Sl w1 9 1 B (.slice u.tx.a u.tx.n u.tx.c) u.tx.n (m.tx.map Value.string)):=by have h:=O1.out.tx.x;unfold SlX Sv.v at h;rw[←htn]at h;exact h
 have hk1:k≤u.lv.n:=by omega
 have hk2:k≤u.tx.n:=by omega
 have HLN:Hid (u.lv.n=m.lv.length∧u.tx.n=m.tx.length):=⟨hln,htn⟩
 clear hbn hos hof b1 HG HR HO HB HT HS NUM hk hkx hkl htn hln hsz hll
 have q6:=G1.out.cell 6
 have q5:=G1.out.cell 5
 refine ‹∀(a:Act) (w:World),Code.wp _ _ _ a w→_› _ _ ?_
 refine wp_seq_k fun _ _=>?_
 go_cut [8] (fun u8 wx=>u8=.int .i64 (k:Nat)∧w1=wx)
 case first=>
  by_cases h3:3≤u.tx.n
  ·have hk3:Hid ((k:Int)=3):=(by omega:(k:Int)=3)
   clear hmin
   go_wp2_with fail
   go_meet
   exact⟨by first|(rw[hk3.out];done)|rw[HMN.out],rfl⟩
  ·have hk3:Hid ((k:Int)=(u.tx.n:Int)):=(by omega:(k:Int)=(u.tx.n:Int))
   clear hmin
   go_wp2_with fail
   go_meet
   exact⟨by first|(rw[hk3.out];done)|rw[HMN.out],rfl⟩
 case rest=>
 obtain⟨rfl,rfl⟩:=hcut
 clear hmin
 refine ‹∀(a:Act) (w:World),Code.wp _ _ _ a w→_› _ _ ?_
 refine wp_seq_k fun _ _=>?_
 go_cut [] (fun wx=>∃s3:Sv,Bx wx g 96 [.slice u.its.a u.its.n u.its.c,.int .i64 m.id,.int .i64 m.rid,.slice u.ms.a u.ms.n u.ms.c,.slice it.a it.n it.c,.slice s3.a s3.n s3.c,.slice u.tx.a u.tx.n u.tx.c,.int .i64 m.rd,.int .i64 m.se,.int .i64 m.li,.int .i64 m.he,.int .i64 m.la.c,.int .i64 m.la.r,.int .i64 m.la.q,.int .i64 m.la.a,.int .i64 m.la.b,.slice u.ws.a u.ws.n u.ws.c]∧s3.n=u.lv.n - k∧Sl w1 3 1 B (.slice s3.a s3.n s3.c) (u.lv.n - k) ((m.lv.map (Value.int .i64)).drop (k * 1))∧TurnAt g w1 wx)
 case first=>
  by_cases hc:u.lv.c=k
  ·have HC:Hid (u.lv.c=k):=hc
   go_wp2_with (first|(refine qAe rfl 24 _ _ rfl g 5 rfl 96 _ G1.out _ rfl (by simp) rfl Tryz.sizeNs _ rfl ?_;intro w2 G2 T2))
   go_meet
   exact⟨⟨u.lv.a,u.lv.n - k,0⟩,G2,rfl,by have h:=Sl.sliced LV1.out hk1;rw[if_pos HC.out,HC.out,Nat.sub_self]at h;exact h,T2⟩
  ·have HC:Hid (¬u.lv.c=k):=hc
   go_wp2_with (first|(refine qAe rfl 24 _ _ rfl g 5 rfl 96 _ G1.out _ rfl (by simp) rfl Tryz.sizeNs _ rfl ?_;intro w2 G2 T2))
   go_meet
   exact⟨⟨u.lv.a.map (fun x=>x.add k),u.lv.n - k,u.lv.c - k⟩,G2,rfl,by have h:=Sl.sliced LV1.out hk1;rw[if_neg HC.out,Nat.mul_one]at h;rw[Nat.mul_one];exact h,T2⟩
 case rest=>
 obtain⟨s3,G2,hn3,LV3,T2⟩:=hcut
 have LV3:Hid (Sl w1 3 1 B (.slice s3.a s3.n s3.c) (u.lv.n - k) ((m.lv.map (Value.int .i64)).drop (k * 1))):=LV3
 generalize wc=w2 at *
 have K2:Hid (KeepTy (fun X=>X=96) w1 w2):=KeepTy.ofTurn G1.out T2 rfl
 have G2:Hid (Bx w2 g 96 [.slice u.its.a u.its.n u.its.c,.int .i64 m.id,.int .i64 m.rid,.slice u.ms.a u.ms.n u.ms.c,.slice it.a it.n it.c,.slice s3.a s3.n s3.c,.slice u.tx.a u.tx.n u.tx.c,.int .i64 m.rd,.int .i64 m.se,.int .i64 m.li,.int .i64 m.he,.int .i64 m.la.c,.int .i64 m.la.r,.int .i64 m.la.q,.int .i64 m.la.a,.int .i64 m.la.b,.slice u.ws.a u.ws.n u.ws.c]):=G2
 obtain⟨N2,R2,OS2,OF2⟩:=cy4 (N1.out.kt K2.out (by decide)) (R1.out.kt K2.out (by decide)) (OS1.out.kt K2.out (by decide)) (OF1.out.kt K2.out (by decide))
 have LV2:Hid (Sl w2 3 1 B (.slice s3.a s3.n s3.c) (u.lv.n - k) ((m.lv.map (Value.int .i64)).drop (k * 1))):=Sl.kt LV3.out K2.out (by decide)
 have TX2:Hid (Sl w2 9 1 B (.slice u.tx.a u.tx.n u.tx.c) u.tx.n (m.tx.map Value.string)):=Sl.kt TX1.out K2.out (by decide)
 have MS2:Hid (OwnI w2 B u.ms.v m.ms):=O1.out.ms.kt K2.out (by decide)
 have IT2:Hid (SlI w2 B u.its.v m.its):=O1.out.its.kt K2.out (by decide)
 have WS2:Hid (OwnI w2 B u.ws.v m.la.ws):=O1.out.ws.kt K2.out (by decide)
 have F2:Hid (∀k,k<w.heap.size→k≠g→u.its.v.ownBlock≠some k→w2.heap[k]? =w.heap[k]?):=fun k hk hn hv=>(T2.block k hn).trans (F1.out k hk hn hv)
 have B2:Hid (Below B w w2):=(B1.out.mono hBw).trans (T2.below hB)
 have s12:w1.heap.size=w2.heap.size:=T2.size.symm
 have sz2:Hid (W.heap.size≤w2.heap.size∧gn<w2.heap.size):=by have:=zn1;exact⟨by omega,by omega⟩
 clear G1 N1 R1 OS1 OF1 LV1 LV3 TX1 O1 B1 K2 T2 q5 q6 s12
 have q6:=G2.out.cell 6
 refine ‹∀(a:Act) (w:World),Code.wp _ _ _ a w→_› _ _ ?_
 refine wp_seq_k fun _ _=>?_
 go_cut [] (fun wx=>∃s4:Sv,Bx wx g 96 [.slice u.its.a u.its.n u.its.c,.int .i64 m.id,.int .i64 m.rid,.slice u.ms.a u.ms.n u.ms.c,.slice it.a it.n it.c,.slice s3.a s3.n s3.c,.slice s4.a s4.n s4.c,.int .i64 m.rd,.int .i64 m.se,.int .i64 m.li,.int .i64 m.he,.int .i64 m.la.c,.int .i64 m.la.r,.int .i64 m.la.q,.int .i64 m.la.a,.int .i64 m.la.b,.slice u.ws.a u.ws.n u.ws.c]∧s4.n=u.tx.n - k∧Sl w2 9 1 B (.slice s4.a s4.n s4.c) (u.tx.n - k) ((m.tx.map Value.string).drop (k * 1))∧TurnAt g w2 wx)
 case first=>
  by_cases hc:u.tx.c=k
  ·have HC:Hid (u.tx.c=k):=hc
   go_wp2_with (first|(refine qAe rfl 28 _ _ rfl g 6 rfl 96 _ G2.out _ rfl (by simp) rfl Tryz.sizeTs _ rfl ?_;intro w3 G3 T3))
   go_meet
   exact⟨⟨u.tx.a,u.tx.n - k,0⟩,G3,rfl,by have h:=Sl.sliced TX2.out hk2;rw[if_pos HC.out,HC.out,Nat.sub_self]at h;exact h,T3⟩
  ·have HC:Hid (¬u.tx.c=k):=hc
   go_wp2_with (first|(refine qAe rfl 28 _ _ rfl g 6 rfl 96 _ G2.out _ rfl (by simp) rfl Tryz.sizeTs _ rfl ?_;intro w3 G3 T3))
   go_meet
   exact⟨⟨u.tx.a.map (fun x=>x.add k),u.tx.n - k,u.tx.c - k⟩,G3,rfl,by have h:=Sl.sliced TX2.out hk2;rw[if_neg HC.out,Nat.mul_one]at h;rw[Nat.mul_one];exact h,T3⟩
 case rest=>
 obtain⟨s4,G3,hn4,TX4,T3⟩:=hcut
 have TX4:Hid (Sl w2 9 1 B (.slice s4.a s4.n s4.c) (u.tx.n - k) ((m.tx.map Value.string).drop (k * 1))):=TX4
 generalize wc=w3 at *
 have K3:Hid (KeepTy (fun X=>X=96) w2 w3):=KeepTy.ofTurn G2.out T3 rfl
 have G3:Hid (Bx w3 g 96 [.slice u.its.a u.its.n u.its.c,.int .i64 m.id,.int .i64 m.rid,.slice u.ms.a u.ms.n u.ms.c,.slice it.a it.n it.c,.slice s3.a s3.n s3.c,.slice s4.a s4.n s4.c,.int .i64 m.rd,.int .i64 m.se,.int .i64 m.li,.int .i64 m.he,.int .i64 m.la.c,.int .i64 m.la.r,.int .i64 m.la.q,.int .i64 m.la.a,.int .i64 m.la.b,.slice u.ws.a u.ws.n u.ws.c]):=G3
 obtain⟨N3,R3,OS3,OF3⟩:=cy4 (N2.out.kt K3.out (by decide)) (R2.out.kt K3.out (by decide)) (OS2.out.kt K3.out (by decide)) (OF2.out.kt K3.out (by decide))
 have LV3:Hid (SlJ w3 B (.slice s3.a s3.n s3.c) (m.lv.drop k)):=by
  have h:=Sl.kt LV2.out K3.out (by decide)
  unfold SlJ
  rw[List.length_drop,List.map_drop,←HLN.out.1]
  rw[Nat.mul_one]at h
  exact h
 have TX3:Hid (SlX w3 B (.slice s4.a s4.n s4.c) (m.tx.drop k)):=by
  have h:=Sl.kt TX4.out K3.out (by decide)
  unfold SlX
  rw[List.length_drop,List.map_drop,←HLN.out.2]
  rw[Nat.mul_one]at h
  exact h
 obtain⟨MS3,IT3,WS3⟩:=cy3 (MS2.out.kt K3.out (by decide)) (IT2.out.kt K3.out (by decide)) (WS2.out.kt K3.out (by decide))
 have F3:Hid (∀k,k<w.heap.size→k≠g→u.its.v.ownBlock≠some k→w3.heap[k]? =w.heap[k]?):=fun k hk hn hv=>(T3.block k hn).trans (F2.out k hk hn hv)
 have B3:=Ag (B2.out.trans (T3.below hB))
 have s23:w2.heap.size=w3.heap.size:=T3.size.symm
 have sz3:Hid (W.heap.size≤w3.heap.size∧gn<w3.heap.size):=by have:=sz2.out;exact⟨by omega,by omega⟩
 clear G2 N2 R2 OS2 OF2 LV2 TX2 TX4 MS2 IT2 WS2 B2 K3 T3 q6 sz2 s23 hk1 hk2
 go_wp2_with fail
 refine(take_its ⟨m.id,m.rid,m.ms,m.its,m.lv.drop k,m.tx.drop k,m.rd,m.se,m.li,m.he,m.la⟩ ⟨u.ms,u.its,s3,s4,u.ws⟩ it g B fs L _ G3 IT3 hA (show Hid (RIt w3 fs.v L)from OF3.out.rit) hB (by show m.its.length+L.length≤1048576;omega) hts).mono ?_
 rintro e w4 ⟨rfl,n,g4,it4,tk,b4⟩
 have K4:Hid (KeepTy (fun X=>X=96∨X=41) w3 w4):=tk.kt G3.out IT3.out
 have G4:Hid (MbB w4 g ⟨m.id,m.rid,m.ms,qBc m.its L,m.lv.drop k,m.tx.drop k,m.rd,m.se,m.li,m.he,m.la⟩ ⟨u.ms,n,s3,s4,u.ws⟩ it):=g4
 have IT4:Hid (SlI w4 B n.v (qBc m.its L)):=it4
 obtain⟨N4,R4⟩:=cy2 (N3.out.kt K4.out (by decide)) (R3.out.kt K4.out (by decide))
 have OS4:Hid (OwnI w4 w.heap.size sw.v t.ws):=(OS3.out.kt K4.out (by decide)).down (by omega)
 have OF4:Hid (SlI w4 w.heap.size fs.v L):=(OF3.out.keep fun k hk hlt=>tk.block k hlt (by have:=(OF3.out.lt k hk).1;omega) (fun e=>by have:=(OF3.out.lt k hk).1;have:=ITL.out k e;omega)).down (by omega)
 obtain⟨LV4,TX5,MS4,WS4,B4⟩:=cy5 (LV3.out.kt K4.out (by decide)) (TX3.out.kt K4.out (by decide)) (MS3.out.kt K4.out (by decide)) (WS3.out.kt K4.out (by decide)) (B3.out.trans b4)
 have NB:Hid (n.v.ownBlock=u.its.v.ownBlock∨ ∃nb,n.v.ownBlock=some nb∧w.heap.size≤nb):=by
  rcases tk.o with e|⟨nb,e,z⟩
  ·exact .inl e
  ·exact .inr ⟨nb,e,by have:=sz3.out;omega⟩
 have F4:Hid (∀k,k<w.heap.size→k≠g→u.its.v.ownBlock≠some k→w4.heap[k]? =w.heap[k]?):=fun k hk hn hv=>(tk.block k (by have:=sz3.out;omega) hn hv).trans (F3.out k hk hn hv)
 clear g4 it4 tk b4 K4 G3 IT3 N3 R3 OS3 OF3 LV3 TX3 MS3 WS3 B3 hA hts ITL
 go_wp2_with (first|(refine qAb rfl 30 _ rfl gn 0 rfl 30 _ N4.out (tX t.c t.r Q2 A3 t.b sw) rfl _ Tryz.underlying30 rfl Tryz.sizeT ?_)|(refine qAd rfl 30 _ _ rfl (w.heap.size+1) rfl 30 _ R4.out (tX t.c t.r Q2 A3 t.b sw) rfl rfl Tryz.sizeT rfl ?_;intro w5 R5 T5))
 have K5:KeepTy (fun X=>X=30) w4 w5:=KeepTy.ofTurn R4.out T5 rfl
 refine bodyPost_ret (qBu Tryz.results55 (w.heap.size+1) 30 (tX t.c t.r Q2 A3 t.b sw) _ rfl R5 Tryz.underlying30 rfl Tryz.sizeT) rfl ?_
 have hh:=HSP.out w5 sw fs n s3 s4 ?_
 ·obtain⟨q1,q2,q3,q4,q5,q6⟩:=hh
  exact⟨sw,fs,n,s3,s4,rfl,q1,q2,q3,q4,q5,q6,NB.out⟩
 rw[←HK.out]
 exact⟨Bx.kt G4.out K5 (by decide),⟨MS4.out.kt K5 (by decide),IT4.out.kt K5 (by decide),LV4.out.kt K5 (by decide),TX5.out.kt K5 (by decide),WS4.out.kt K5 (by decide)⟩,OS4.out.kt K5 (by decide),OF4.out.kt K5 (by decide),B4.out.trans (T5.below (by omega)),fun k hk hn hv=>(T5.block k (by omega)).trans (F4.out k hk hn hv)⟩
end Go.Proofs.YthdjkkiegecgnaaGreat
