/- Joined texts: CLa. -/
import Derived.Test.YthdjkkiegecgnaaGreatOq20
import Derived.Test.YthdjkkiegecgnaaGreatOq10
import Derived.Test.YthdjkkiegecgnaaGreatOq15
import Derived.Test.YthdjkkiegecgnaaGreatOq14
import Derived.Sort.OwnSortedInts
import Derived.Test.YthdjkkiegecgnaaGreatOq13
set_option maxRecDepth 100000
set_option maxHeartbeats 16000000
namespace Go.Proofs.YthdjkkiegecgnaaGreat
open Go.RowKit Go.Sort Pl
set_option linter.unusedVariables false
set_option linter.unusedSimpArgs false
def qDb(its:List It)(n:Int):Bool:= !hasP its n
theorem slacks_any(s:Sv)(its:List It)(n:Int)(w:World)(hx:Hid (RIt w s.v its))(hl:its.length≤1048576):
  Calls Tryz.prog 124 #[.slice s.a s.n s.c,.int .i64 n] w fun e w'=>e=.returned (.bool (qDb its n))∧Below w.heap.size w w':=by
 obtain⟨ao,cap,hv,hx'⟩:=hx.out
 have HA:=at_any ao cap its n w hx' hl
 rw[←hv]at HA
 unfold Sv.v at HA
 clear hx hv hx'
 unfold agg at HA
 unfold qDb
 obtain⟨R,hR⟩: ∃R,hasP its n=R:=⟨_,rfl⟩
 rw[hR]at HA⊢
 clear hR
 cases R
 all_goals
  go_enter Tryz.func124,Tryz.ntmps124
  go_wp2_with fail
  refine HA.mono ?_
  rintro e w1 ⟨rfl,b1⟩
  go_wp2_with fail
  go_ret
  refine⟨rfl,?_⟩
  exact b1.alloc b1.size _
theorem lfilt_next{ws:List Int}{k:Nat}{f:Int→Bool}(hk:k<ws.length):(ws.take (k+1)).filter f=(ws.take k).filter f++(if f ws[k]=true then[ws[k]]else[]):=by
 rw[List.take_succ_eq_append_getElem hk,List.filter_append]
 congr 1
 by_cases h:f ws[k]=true<;>simp[h]
theorem keptL_any(ao:Option Addr)(cap:Nat)(lv:List Int)(s:Sv)(its:List It)(w:World)(hx:Hid (IntsAt w ao lv))(hi:Hid (RIt w s.v its))(hl:lv.length≤1048576)(hil:its.length≤1048576):
  Calls Tryz.prog 123 #[.slice ao lv.length cap,.func (Fn.func 124) #[.slice s.a s.n s.c] #[]] w fun e w'=>∃v,e=.returned v∧OwnI w' w.heap.size v (lv.filter (qDb its))∧Below w.heap.size w w':=by
 have S0:Hid (OwnI (w.alloc (.cells #[] 3)) w.heap.size (.slice (some ⟨w.heap.size,0,none⟩) 0 0) []):=OwnI.made w w.heap.size (Nat.le_refl _)
 have B0:=Ag (bA w (.cells #[] 3))
 go_enter Tryz.func123,Tryz.ntmps123
 go_wp2
 go_loopw [5,11] (fun v i wr=>∃(k:Nat),k≤lv.length∧i=.int .i64 k∧Hid (OwnI wr w.heap.size v ((lv.take k).filter (qDb its)))∧Hid (Below w.heap.size w wr)) (fun _ i _=>lv.length - (intOf i).toNat)
 case atStart=>exact⟨0,Nat.zero_le _,rfl,S0,B0⟩
 case round=>
  clear S0 B0
  obtain⟨k,hk,rfl,hS,hb⟩:=hrel
  by_cases hlt:k<lv.length
  ·obtain⟨bb,off,rfl,hbb,h0⟩:=hx.out.stays hb.out k hlt
   have hst:=lfilt_next (f:=qDb its) hlt
   have HP:Hid (∃x:Int,x=lv[k]):=⟨_,rfl⟩
   obtain⟨x,hp⟩:=HP.out
   rw[←hp]at h0 hst
   have HST:Hid _:=hst
   clear hp HP hst
   have hlk:((lv.take k).filter (qDb its)).length≤1048576:=Nat.le_trans (List.length_filter_le _ _) (by rw[List.length_take];omega)
   have HI1:=Ag (hi.out.stays hb.out)
   go_wp2_with fail
   refine(slacks_any s its x _ HI1 hil).mono ?_
   rintro e w1 ⟨rfl,c1⟩
   obtain⟨R,hR⟩: ∃R,qDb its x=R:=⟨_,rfl⟩
   rw[hR]
   have HR:Hid (qDb its x=R):=hR
   have S1:Hid (OwnI w1 w.heap.size u5 ((lv.take k).filter (qDb its))):=hS.out.keep fun j _ hj=>c1.block j hj
   have B1:=Ag (qAa hb.out c1)
   have z1:w.heap.size≤w1.heap.size:=B1.out.size
   clear hR hS hb h0 HI1 c1
   cases R with
   |true=>
    have HLS:Hid ((lv.take (k+1)).filter (qDb its)=(lv.take k).filter (qDb its)++[x]):=by
     have:=HST.out
     rwa [if_pos HR.out]at this
    clear HST
    go_wp2_with (at_builtin;refine qBm rfl _ _ 24 rfl Tryz.underlying24 Tryz.info3' w.heap.size u5 _ rfl S1.out x rfl (by omega) z1 ?_;intro v2 w2 o2 b2)
    have S2:Hid (OwnI w2 w.heap.size v2 ((lv.take (k+1)).filter (qDb its))):=by
     rw[HLS.out]
     exact o2
    have B2:=Ag (B1.out.trans b2)
    go_roundw
    case rel=>exact⟨k+1,by omega,by go_num,S2,B2⟩
    case measure=>simp[intOf];omega
   |false=>
    have HLS:Hid ((lv.take (k+1)).filter (qDb its)=(lv.take k).filter (qDb its)):=by
     have:=HST.out
     rwa [if_neg (by rw[HR.out];simp),List.append_nil]at this
    clear HST
    have S2:Hid (OwnI w1 w.heap.size u5 ((lv.take (k+1)).filter (qDb its))):=by
     rw[HLS.out]
     exact S1.out
    go_wp2_with fail
    go_roundw
    case rel=>exact⟨k+1,by omega,by go_num,S2,B1⟩
    case measure=>simp[intOf];omega
  ·have hkl:k=lv.length:=by omega
   have hS2:Hid (OwnI wr w.heap.size u5 (lv.filter (qDb its))):=by have:=hS.out;rwa [hkl,List.take_length]at this
   go_wp2
   go_ret
   exact⟨_,rfl,hS2.out,hb.out⟩
def lackL(ws:List Int)(its:List It)(q:Int):List Int:=Lib.compact ((ws.filter (qDb its)++qBh its q).mergeSort fun x y=>decide (x≤y))
def qEf(ws:List Int)(its:List It)(q:Int):List Int:=(lackL ws its q).take 20
theorem compact_len(ms:List Int):(Lib.compact ms).length≤ms.length:=by
 unfold Lib.compact Lib.compactUpTo
 rw[List.length_map]
 exact Nat.le_trans (List.length_filter_le _ _) (by simp)
theorem own_cut{w:World}{B g cap m:Nat}{e:TypeId}{cur:Array Value}{xs:List Int}(he:e=3)(hB:B≤g)(hb:w.heap[g]? =some (.cells cur e (0,0)))(h1:xs.length≤cap)(h2:cap≤maxLen)(h3:cur.size=cap * 1)(h4:cur.toList.take (xs.length * 1)=xs.map (Value.int .i64))(hm:m≤xs.length):
  OwnI w B (.slice (some ⟨g,0,none⟩) m cap) (xs.take m):=by
 subst he
 refine⟨by simp,.inr ⟨g,cap,cur,by rw[List.length_take,Nat.min_eq_left hm],hB,hb,by rw[List.length_take];omega,h2,h3,?_⟩⟩
 rw[List.length_take,Nat.min_eq_left hm,List.map_take,←h4,Nat.mul_one,Nat.mul_one,List.take_take,Nat.min_eq_left hm]
theorem lacksT_any(c r q a b:Int)(s u:Sv)(ws:List Int)(its:List It)(w:World)(hs:Hid (RI w s.v ws))(hu:Hid (RIt w u.v its))(hl:ws.length≤1048576)(hil:its.length≤1048576):
  Calls Tryz.prog 57 #[.agg #[.int .i64 c,.int .i64 r,.int .i64 q,.int .i64 a,.int .i64 b,.slice s.a s.n s.c],.slice u.a u.n u.c] w fun e w'=>∃x:Sv,e=.returned (.agg #[.int .i64 c,.int .i64 r,.int .i64 q,.int .i64 a,.int .i64 b,.slice x.a x.n x.c])∧OwnI w' w.heap.size x.v (qEf ws its q)∧Below w.heap.size w w':=by
 obtain⟨HA,HR,HB⟩:=en2 w 30 [.int .i64 c,.int .i64 r,.int .i64 q,.int .i64 a,.int .i64 b,.slice s.a s.n s.c] 30 [.int .i64 0,.int .i64 0,.int .i64 0,.int .i64 0,.int .i64 0,.slice none 0 0]
 obtain⟨HS,HU⟩:=cy2 (hs.out.stays HB.out) (hu.out.stays HB.out)
 clear hs hu
 have a5:=HA.out.cell 5
 go_enter Tryz.func57,Tryz.ntmps57
 go_wp2_with fail
 generalize ((w.alloc (.cells #[.int .i64 c,.int .i64 r,.int .i64 q,.int .i64 a,.int .i64 b,.slice s.a s.n s.c] 30)).alloc (.cells #[.int .i64 0,.int .i64 0,.int .i64 0,.int .i64 0,.int .i64 0,.slice none 0 0] 30))=W at *
 have KC:Hid (Calls Tryz.prog 123 #[.slice s.a s.n s.c,.func (Fn.func 124) #[.slice u.a u.n u.c] #[]] W fun e w'=>∃v,e=.returned v∧OwnI w' W.heap.size v (ws.filter (qDb its))∧Below W.heap.size W w'):=by
  obtain⟨ao,cap,hv,hx⟩:=HS.out
  have h:=keptL_any ao cap ws u its W hx HU hl hil
  rw[←hv]at h
  exact h
 refine KC.out.mono ?_
 rintro e w1 ⟨v1,rfl,o1,b1⟩
 obtain⟨s1,hf1⟩:=o1.sv
 subst hf1
 have O1:Hid (OwnI w1 w.heap.size (.slice s1.a s1.n s1.c) (ws.filter (qDb its))):=o1.down HB.out.size
 obtain⟨A1,R1,U1,B1⟩:=cy4 (HA.out.later b1) (HR.out.later b1) (HU.out.stays b1) (qAa HB.out b1)
 have hkl:(ws.filter (qDb its)).length≤1048576:=Nat.le_trans (List.length_filter_le _ _) hl
 clear KC HA HR HS HU HB b1 o1 a5
 have a2:=A1.out.cell 2
 go_wp2_with fail
 have MC:Hid (Calls Tryz.prog 125 #[.slice u.a u.n u.c,.int .i64 q] w1 fun e w'=>∃v,e=.returned v∧OwnI w' w1.heap.size v (qBh its q)∧Below w1.heap.size w1 w'):=by
  obtain⟨ao,cap,hv,hx⟩:=U1.out
  have h:=missing_any ao cap its q w1 hx hil
  rw[←hv]at h
  exact h
 refine MC.out.mono ?_
 rintro e w2 ⟨v2,rfl,o2,b2⟩
 have O2:=Ag o2
 have P2:Hid (OwnI w2 w.heap.size (.slice s1.a s1.n s1.c) (ws.filter (qDb its))):=O1.out.keep fun k _ hk=>b2.block k hk
 obtain⟨A2,R2,B2⟩:=cy3 (A1.out.later b2) (R1.out.later b2) (qAa B1.out b2)
 have hmm:(qBh its q).length≤20:=missP_le its q
 have z2:w.heap.size≤w2.heap.size:=B2.out.size
 clear MC O1 A1 R1 U1 B1 b2 o2 a2
 go_wp2_with (at_builtin;refine qFd rfl _ _ 24 rfl Tryz.underlying24 Tryz.info3' w.heap.size (.slice s1.a s1.n s1.c) _ rfl P2.out w1.heap.size v2 _ rfl O2.out (by omega) z2 ?_;intro v3 w3 o3 g3;refine Stp.here ?_)
 refine Stp.go ?_
 have A3:Hid (Bx w3 w.heap.size 30 (tX c r q a b s)):=A2.out.grown g3 (fun e=>qCn P2.out A2.out (by decide) e.symm)
 have R3:Hid (Bx w3 (w.heap.size+1) 30 [.int .i64 0,.int .i64 0,.int .i64 0,.int .i64 0,.int .i64 0,.slice none 0 0]):=R2.out.grown g3 (fun e=>qCn P2.out R2.out (by decide) e.symm)
 have B3:Hid (Below w.heap.size w w3):=B2.out.grown g3 z2 (fun k hk=>(P2.out.lt k hk).1)
 obtain⟨ys,hys⟩: ∃ys,ys=ws.filter (qDb its)++qBh its q:=⟨_,rfl⟩
 have O3:Hid (OwnI w3 w.heap.size v3 ys):=by rw[hys];exact o3
 have hyl:ys.length≤1048596:=by rw[hys,List.length_append];omega
 have HLP:Hid (qEf ws its q=(Lib.compact (ys.mergeSort fun x y=>decide (x≤y))).take 20):=(by rw[hys];rfl:qEf ws its q=(Lib.compact (ys.mergeSort fun x y=>decide (x≤y))).take 20)
 clear o3 g3 P2 O2 A2 R2 B2 hys hkl hmm z2
 by_cases hy0:ys.length=0
 ·have hye:ys=[]:=List.eq_nil_of_length_eq_zero hy0
  subst hye
  obtain⟨s3,hf3⟩:=O3.out.sv
  subst hf3
  have hn3:s3.n=0:=by obtain⟨ao,cap,h⟩:=O3.out.form;simp at h;exact h.2.1
  obtain⟨a3,n3,c3⟩:=s3
  simp at hn3
  subst hn3
  have hlp:qEf ws its q=[]:=by rw[HLP.out,List.mergeSort_nil];rfl
  have OF:Hid (OwnI w3 w.heap.size (.slice a3 0 c3) (qEf ws its q)):=by rw[hlp];exact O3.out
  obtain⟨AX,RX⟩:=cy2 A3 R3
  have BX:Hid (Below w.heap.size w w3):=B3
  clear hlp O3 HLP A3 R3 B3 hyl hy0
  dsimp only
  go_wp2_with fail
  refine(sort_none a3 c3 w3).mono ?_
  rintro e w4 ⟨rfl,rfl⟩
  go_wp2_with fail
  refine(qLd a3 c3 w4).mono ?_
  rintro e w5 ⟨rfl,rfl⟩
  go_wp2_with (first|(refine qAe rfl 24 _ _ rfl w.heap.size 5 rfl 30 _ AX.out (.slice a3 0 c3) rfl (by simp) rfl Tryz.sizeNs [.int .i64 c,.int .i64 r,.int .i64 q,.int .i64 a,.int .i64 b,.slice a3 0 c3] rfl ?_;intro w6 A6 T6;have R6:=RX.out.turn T6 (by omega))|(refine qAb rfl 30 _ rfl w.heap.size 0 rfl 30 _ A6 [.int .i64 c,.int .i64 r,.int .i64 q,.int .i64 a,.int .i64 b,.slice a3 0 c3] rfl _ Tryz.underlying30 rfl Tryz.sizeT ?_)|(refine qAd rfl 30 _ _ rfl (w.heap.size+1) rfl 30 _ R6 [.int .i64 c,.int .i64 r,.int .i64 q,.int .i64 a,.int .i64 b,.slice a3 0 c3] rfl rfl Tryz.sizeT rfl ?_;intro w7 R7 T7))
  refine bodyPost_ret (qBd Tryz.results57 (w.heap.size+1) 30 [.int .i64 c,.int .i64 r,.int .i64 q,.int .i64 a,.int .i64 b,.slice a3 0 c3] _ rfl R7 Tryz.underlying30 rfl Tryz.sizeT) rfl ?_
  exact⟨⟨a3,0,c3⟩,rfl,(OF.out.past AX.out T6 (by decide)).past R6 T7 (by decide),(BX.out.trans (T6.below (Nat.le_refl _))).trans (T7.below (by omega))⟩
 ·rcases O3.out.2 with⟨_,hnil⟩|⟨g,cap2,cur,rfl,hbase,hbk,h1,h2,h3,h4⟩
  ·exact absurd hnil hy0
  have hH:Holds (Value.int .i64) w3 g 0 ys.toArray:=holds_of_blockI hbk (by rw[Nat.mul_one]at h4;exact h4)
  have hgl:g<w3.heap.size:=(Array.getElem?_eq_some_iff.1 hbk).1
  have hgA:Hid (g≠w.heap.size∧g≠w.heap.size+1):=⟨fun e=>qCn O3.out A3.out (by decide) (by rw[←e];rfl),fun e=>qCn O3.out R3.out (by decide) (by rw[←e];rfl)⟩
  have hcall:=sort_any g 0 cap2 ys w3 hH hgl (by omega)
  have HBK:Hid (w3.heap[g]? =some (.cells cur 3 (0,0))):=hbk
  clear hH hbk h4
  obtain⟨ms,hms⟩: ∃ms,ms=ys.mergeSort fun x y=>decide (x≤y):=⟨_,rfl⟩
  have hml:ms.length=ys.length:=by rw[hms,List.length_mergeSort]
  rw[←hms]at hcall HLP
  clear hms
  go_wp2_with fail
  refine hcall.mono ?_
  clear hcall
  rintro e w4 ⟨rfl,nn,os,hw4⟩
  have g4:w3.grownBy w4 (some g):=by rw[hw4];exact grownBy_sortedI _
  have hown4:=ownsRow_sortedI (n:=nn) (os:=os) (ts:=ms) (ss:=ys) hml (Nat.zero_le g) HBK.out h1 h2 h3
  rw[←hw4]at hown4
  rcases hown4.2 with⟨hnil,_⟩|⟨g',cap',cur4,he,_,hbk4,h41,h42,h43,h44⟩
  ·cases hnil
  cases he
  have HB4:Hid (w4.heap[g]? =some (.cells cur4 3 (0,0))):=hbk4
  have hcall:=compact_any g 0 cap2 ms w4 (holds_of_blockI hbk4 (by rw[hml];rw[Nat.mul_one]at h44;exact h44)) (by omega) (by omega)
  rw[hml]at hcall
  have A4:Hid (Bx w4 w.heap.size 30 (tX c r q a b s)):=A3.out.grown g4 (fun e=>hgA.out.1 (by cases e;rfl))
  have R4:Hid (Bx w4 (w.heap.size+1) 30 [.int .i64 0,.int .i64 0,.int .i64 0,.int .i64 0,.int .i64 0,.slice none 0 0]):=R3.out.grown g4 (fun e=>hgA.out.2 (by cases e;rfl))
  have B4:Hid (Below w.heap.size w w4):=B3.out.grown g4 B3.out.size (fun j hj=>by cases hj;exact hbase)
  clear hw4 hown4 hbk4 h44 g4 A3 R3 B3 O3
  go_wp2_with fail
  refine hcall.mono ?_
  clear hcall
  rintro e w5 ⟨rfl,qq,hw5⟩
  obtain⟨ks,hks⟩: ∃ks,ks=Lib.compact ms:=⟨_,rfl⟩
  rw[←hks]at hw5 HLP
  have hkl:ks.length≤ys.length:=by rw[hks,←hml];exact compact_len ms
  have g5:w4.grownBy w5 (some g):=by rw[hw5,←grow_empty (putRow _ _ _ _ _)];exact grownBy_sortedI _
  have hlen:(ks++List.replicate (ys.length - ks.length) (0:Int)).length=ys.length:=by simp;omega
  have hown5:=ownsRow_sortedI (n:=qq) (os:=#[]) (ts:=ks++List.replicate (ys.length - ks.length) 0) (ss:=ys) (base:=0) hlen (Nat.zero_le _) HB4.out (by omega) h42 h43
  rw[grow_empty,←hw5]at hown5
  rcases hown5.2 with⟨hnil,_⟩|⟨g',cap',cur5,he,_,hbk5,h51,h52,h53,h54⟩
  ·cases hnil
  cases he
  have AX:Hid (Bx w5 w.heap.size 30 (tX c r q a b s)):=A4.out.grown g5 (fun e=>hgA.out.1 (by cases e;rfl))
  have RX:Hid (Bx w5 (w.heap.size+1) 30 [.int .i64 0,.int .i64 0,.int .i64 0,.int .i64 0,.int .i64 0,.slice none 0 0]):=R4.out.grown g5 (fun e=>hgA.out.2 (by cases e;rfl))
  have BX:Hid (Below w.heap.size w w5):=B4.out.grown g5 B4.out.size (fun j hj=>by cases hj;exact hbase)
  have h55:cur5.toList.take (ks.length * 1)=ks.map (Value.int .i64):=by
   rw[Nat.mul_one]
   rw[Nat.mul_one]at h54
   have h6:=congrArg (List.take ks.length) h54
   rw[List.take_take,Nat.min_eq_left hkl]at h6
   rw[h6,List.map_append,List.take_append_of_le_length (by simp),List.take_of_length_le (by simp)]
  have OC:Hid (∀m,m≤ks.length→OwnI w5 w.heap.size (.slice (some ⟨g,0,none⟩) m cap2) (ks.take m)):=fun m hm=>own_cut rfl hbase hbk5 (by omega) h52 h53 h55 hm
  have hcap:(ks.length:Int)≤(cap2:Int):=by omega
  obtain⟨kl,hkk⟩: ∃kl,kl=ks.length:=⟨_,rfl⟩
  rw[←hks,←hkk]
  have hcap:kl≤cap2:=by omega
  have HKK:Hid (kl=ks.length):=hkk
  clear hw5 hown5 h54 h55 hbk5 g5 A4 R4 B4 HB4 HBK hlen hkl hks hkk hml h41 h51 h53 h43
  by_cases hm:kl≤20
  ·have OF:Hid (OwnI w5 w.heap.size (.slice (some ⟨g,0,none⟩) kl cap2) (qEf ws its q)):=by
    have h:=OC.out kl (by rw[HKK.out];exact Nat.le_refl _)
    rw[HLP.out,List.take_of_length_le (by rw[←HKK.out];exact hm)]
    rw[List.take_of_length_le (by rw[HKK.out];exact Nat.le_refl _)]at h
    exact h
   have hmi:min (kl:Int) 20=(kl:Int):=by omega
   go_wp2_with (first|(refine qAe rfl 24 _ _ rfl w.heap.size 5 rfl 30 _ AX.out (.slice (some ⟨g,0,none⟩) kl cap2) rfl (by simp) rfl Tryz.sizeNs [.int .i64 c,.int .i64 r,.int .i64 q,.int .i64 a,.int .i64 b,.slice (some ⟨g,0,none⟩) kl cap2] rfl ?_;intro w6 A6 T6;have R6:=RX.out.turn T6 (by omega))|(refine qAb rfl 30 _ rfl w.heap.size 0 rfl 30 _ A6 [.int .i64 c,.int .i64 r,.int .i64 q,.int .i64 a,.int .i64 b,.slice (some ⟨g,0,none⟩) kl cap2] rfl _ Tryz.underlying30 rfl Tryz.sizeT ?_)|(refine qAd rfl 30 _ _ rfl (w.heap.size+1) rfl 30 _ R6 [.int .i64 c,.int .i64 r,.int .i64 q,.int .i64 a,.int .i64 b,.slice (some ⟨g,0,none⟩) kl cap2] rfl rfl Tryz.sizeT rfl ?_;intro w7 R7 T7))
   refine bodyPost_ret (qBd Tryz.results57 (w.heap.size+1) 30 [.int .i64 c,.int .i64 r,.int .i64 q,.int .i64 a,.int .i64 b,.slice (some ⟨g,0,none⟩) kl cap2] _ rfl R7 Tryz.underlying30 rfl Tryz.sizeT) rfl ?_
   exact⟨⟨some ⟨g,0,none⟩,kl,cap2⟩,rfl,(OF.out.past AX.out T6 (by decide)).past R6 T7 (by decide),(BX.out.trans (T6.below (Nat.le_refl _))).trans (T7.below (by omega))⟩
  ·have OF:Hid (OwnI w5 w.heap.size (.slice (some ⟨g,0,none⟩) 20 cap2) (qEf ws its q)):=by
    rw[HLP.out];exact OC.out 20 (by have:=HKK.out;omega)
   have hmi:min (kl:Int) 20=20:=by omega
   go_wp2_with (first|(refine qAe rfl 24 _ _ rfl w.heap.size 5 rfl 30 _ AX.out (.slice (some ⟨g,0,none⟩) 20 cap2) rfl (by simp) rfl Tryz.sizeNs [.int .i64 c,.int .i64 r,.int .i64 q,.int .i64 a,.int .i64 b,.slice (some ⟨g,0,none⟩) 20 cap2] rfl ?_;intro w6 A6 T6;have R6:=RX.out.turn T6 (by omega))|(refine qAb rfl 30 _ rfl w.heap.size 0 rfl 30 _ A6 [.int .i64 c,.int .i64 r,.int .i64 q,.int .i64 a,.int .i64 b,.slice (some ⟨g,0,none⟩) 20 cap2] rfl _ Tryz.underlying30 rfl Tryz.sizeT ?_)|(refine qAd rfl 30 _ _ rfl (w.heap.size+1) rfl 30 _ R6 [.int .i64 c,.int .i64 r,.int .i64 q,.int .i64 a,.int .i64 b,.slice (some ⟨g,0,none⟩) 20 cap2] rfl rfl Tryz.sizeT rfl ?_;intro w7 R7 T7))
   refine bodyPost_ret (qBd Tryz.results57 (w.heap.size+1) 30 [.int .i64 c,.int .i64 r,.int .i64 q,.int .i64 a,.int .i64 b,.slice (some ⟨g,0,none⟩) 20 cap2] _ rfl R7 Tryz.underlying30 rfl Tryz.sizeT) rfl ?_
   exact⟨⟨some ⟨g,0,none⟩,20,cap2⟩,rfl,(OF.out.past AX.out T6 (by decide)).past R6 T7 (by decide),(BX.out.trans (T6.below (Nat.le_refl _))).trans (T7.below (by omega))⟩
end Go.Proofs.YthdjkkiegecgnaaGreat
