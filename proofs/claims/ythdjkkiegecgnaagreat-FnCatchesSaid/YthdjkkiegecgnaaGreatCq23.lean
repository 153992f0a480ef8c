/- Joined texts: CSy. -/
import Derived.Test.YthdjkkiegecgnaaGreatCq15
import Derived.Test.YthdjkkiegecgnaaGreatCq13
set_option maxRecDepth 100000
set_option maxHeartbeats 16000000
namespace Go.Proofs.YthdjkkiegecgnaaGreat
open Go.RowKit Pl
set_option linter.unusedVariables false
set_option linter.unusedSimpArgs false
def sayOk (m:Mt) (l:Int) (x:ByteArray):Bool:=m.ok&&(lvB l&&(decide (x.size≤60)&&decide (m.tx.length<20)))
def sayM (m:Mt) (l:Int) (x:ByteArray):Mt:=⟨m.id,m.rid,m.ms,m.its,m.lv++[l],m.tx++[x],m.rd,m.se,m.li,m.he,m.la⟩
theorem spSay_no (m:Mt) (v:Mv) (l:Int) (x:ByteArray) (w:World) (h:Hid (MtP w m v)) (hs:Hid (MtS m)) (hx:x.size≤1048576) (hk:Hid (sayOk m l x=false)):
  Calls Tryz.prog 155 #[.agg #[.int .i64 m.id,.int .i64 m.rid,.slice v.ms.a v.ms.n v.ms.c,.slice v.its.a v.its.n v.its.c,.slice v.lv.a v.lv.n v.lv.c,.slice v.tx.a v.tx.n v.tx.c,.int .i64 m.rd,.int .i64 m.se,.int .i64 m.li,.int .i64 m.he,.int .i64 m.la.c,.int .i64 m.la.r,.int .i64 m.la.q,.int .i64 m.la.a,.int .i64 m.la.b,.slice v.ws.a v.ws.n v.ws.c],.int .i64 l,.string x] w fun e w'=>e=.returned (.tuple #[.agg #[.int .i64 0,.int .i64 0,.slice none 0 0,.slice none 0 0,.slice none 0 0,.slice none 0 0,.int .i64 0,.int .i64 0,.int .i64 0,.int .i64 0,.int .i64 0,.int .i64 0,.int .i64 0,.int .i64 0,.int .i64 0,.slice none 0 0],.bool false])∧Below w.heap.size w w':=by
 obtain⟨HA,HR,HB⟩:=en2 w 32 [.int .i64 m.id,.int .i64 m.rid,.slice v.ms.a v.ms.n v.ms.c,.slice v.its.a v.its.n v.its.c,.slice v.lv.a v.lv.n v.lv.c,.slice v.tx.a v.tx.n v.tx.c,.int .i64 m.rd,.int .i64 m.se,.int .i64 m.li,.int .i64 m.he,.int .i64 m.la.c,.int .i64 m.la.r,.int .i64 m.la.q,.int .i64 m.la.a,.int .i64 m.la.b,.slice v.ws.a v.ws.n v.ws.c] 32 [.int .i64 0,.int .i64 0,.slice none 0 0,.slice none 0 0,.slice none 0 0,.slice none 0 0,.int .i64 0,.int .i64 0,.int .i64 0,.int .i64 0,.int .i64 0,.int .i64 0,.int .i64 0,.int .i64 0,.int .i64 0,.slice none 0 0]
 have HP:=hid (h.out.later HB.out)
 have LT:Hid (v.tx.n=m.tx.length):=RT.len h.out.tx.rt
 clear h
 go_enter Tryz.func155,Tryz.ntmps155
 go_wp2_with (first|(refine wpList_ldG rfl 32 _ rfl w.heap.size 0 rfl 32 _ HA.out [.int .i64 m.id,.int .i64 m.rid,.slice v.ms.a v.ms.n v.ms.c,.slice v.its.a v.its.n v.its.c,.slice v.lv.a v.lv.n v.lv.c,.slice v.tx.a v.tx.n v.tx.c,.int .i64 m.rd,.int .i64 m.se,.int .i64 m.li,.int .i64 m.he,.int .i64 m.la.c,.int .i64 m.la.r,.int .i64 m.la.q,.int .i64 m.la.a,.int .i64 m.la.b,.slice v.ws.a v.ws.n v.ws.c] rfl _ Tryz.underlying32 rfl Tryz.sizeM ?_))
 generalize (w.alloc (.cells #[.int .i64 m.id,.int .i64 m.rid,.slice v.ms.a v.ms.n v.ms.c,.slice v.its.a v.its.n v.its.c,.slice v.lv.a v.lv.n v.lv.c,.slice v.tx.a v.tx.n v.tx.c,.int .i64 m.rd,.int .i64 m.se,.int .i64 m.li,.int .i64 m.he,.int .i64 m.la.c,.int .i64 m.la.r,.int .i64 m.la.q,.int .i64 m.la.a,.int .i64 m.la.b,.slice v.ws.a v.ws.n v.ws.c] 32)).alloc (.cells #[.int .i64 0,.int .i64 0,.slice none 0 0,.slice none 0 0,.slice none 0 0,.slice none 0 0,.int .i64 0,.int .i64 0,.int .i64 0,.int .i64 0,.int .i64 0,.int .i64 0,.int .i64 0,.int .i64 0,.int .i64 0,.slice none 0 0] 32)=W at *
 refine(spMateOk_any m v _ HP.out.r hs).mono ?_
 rintro e w1 ⟨rfl,b⟩
 have HA:=hid (HA.out.later b)
 have HR:=hid (HR.out.later b)
 have HP:=hid (HP.out.later b)
 have HB:=hid (bl_next HB.out b)
 clear b
 obtain⟨R,hR⟩: ∃R,m.ok=R:=⟨_,rfl⟩
 rw[hR]
 have KR:Hid (m.ok=R):=hR
 clear hR
 cases R with
 |false=>
  go_wp2_with (first|(refine wpList_ld1 rfl 28 _ rfl w.heap.size 5 rfl 32 _ HA.out (.slice v.tx.a v.tx.n v.tx.c) rfl _ Tryz.underlying28 rfl ?_)|(refine wpList_stW rfl 32 _ _ rfl (w.heap.size+1) rfl 32 _ HR.out [.int .i64 0,.int .i64 0,.slice none 0 0,.slice none 0 0,.slice none 0 0,.slice none 0 0,.int .i64 0,.int .i64 0,.int .i64 0,.int .i64 0,.int .i64 0,.int .i64 0,.int .i64 0,.int .i64 0,.int .i64 0,.slice none 0 0] rfl rfl Tryz.sizeM rfl ?_;intro wz RZ TZ))
  refine bodyPost_ret (results_bt Tryz.results155 (w.heap.size+1) 32 [.int .i64 0,.int .i64 0,.slice none 0 0,.slice none 0 0,.slice none 0 0,.slice none 0 0,.int .i64 0,.int .i64 0,.int .i64 0,.int .i64 0,.int .i64 0,.int .i64 0,.int .i64 0,.int .i64 0,.int .i64 0,.slice none 0 0] _ rfl RZ Tryz.underlying32 rfl Tryz.sizeM) rfl ?_
  exact⟨rfl,HB.out.trans (TZ.below (by omega))⟩
 |true=>
  go_wp2_with fail
  refine(in_b l 1 2 _).mono ?_
  rintro e w2 ⟨rfl,b⟩
  have HA:=hid (HA.out.later b)
  have HR:=hid (HR.out.later b)
  have HP:=hid (HP.out.later b)
  have HB:=hid (bl_next HB.out b)
  clear b
  obtain⟨R2,hR⟩: ∃R,(decide (1≤l∧l≤2))=R:=⟨_,rfl⟩
  rw[hR]
  have KL:Hid (lvB l=R2):=hR
  clear hR
  cases R2 with
  |false=>
   go_wp2_with (first|(refine wpList_ld1 rfl 28 _ rfl w.heap.size 5 rfl 32 _ HA.out (.slice v.tx.a v.tx.n v.tx.c) rfl _ Tryz.underlying28 rfl ?_)|(refine wpList_stW rfl 32 _ _ rfl (w.heap.size+1) rfl 32 _ HR.out [.int .i64 0,.int .i64 0,.slice none 0 0,.slice none 0 0,.slice none 0 0,.slice none 0 0,.int .i64 0,.int .i64 0,.int .i64 0,.int .i64 0,.int .i64 0,.int .i64 0,.int .i64 0,.int .i64 0,.int .i64 0,.slice none 0 0] rfl rfl Tryz.sizeM rfl ?_;intro wz RZ TZ))
   refine bodyPost_ret (results_bt Tryz.results155 (w.heap.size+1) 32 [.int .i64 0,.int .i64 0,.slice none 0 0,.slice none 0 0,.slice none 0 0,.slice none 0 0,.int .i64 0,.int .i64 0,.int .i64 0,.int .i64 0,.int .i64 0,.int .i64 0,.int .i64 0,.int .i64 0,.int .i64 0,.slice none 0 0] _ rfl RZ Tryz.underlying32 rfl Tryz.sizeM) rfl ?_
   exact⟨rfl,HB.out.trans (TZ.below (by omega))⟩
  |true=>
   by_cases h60:60<x.size
   ·have hd:decide (60<(x.size:Int))=true:=by simp;omega
    clear h60
    go_wp2_with (first|(refine wpList_ld1 rfl 28 _ rfl w.heap.size 5 rfl 32 _ HA.out (.slice v.tx.a v.tx.n v.tx.c) rfl _ Tryz.underlying28 rfl ?_)|(refine wpList_stW rfl 32 _ _ rfl (w.heap.size+1) rfl 32 _ HR.out [.int .i64 0,.int .i64 0,.slice none 0 0,.slice none 0 0,.slice none 0 0,.slice none 0 0,.int .i64 0,.int .i64 0,.int .i64 0,.int .i64 0,.int .i64 0,.int .i64 0,.int .i64 0,.int .i64 0,.int .i64 0,.slice none 0 0] rfl rfl Tryz.sizeM rfl ?_;intro wz RZ TZ))
    refine bodyPost_ret (results_bt Tryz.results155 (w.heap.size+1) 32 [.int .i64 0,.int .i64 0,.slice none 0 0,.slice none 0 0,.slice none 0 0,.slice none 0 0,.int .i64 0,.int .i64 0,.int .i64 0,.int .i64 0,.int .i64 0,.int .i64 0,.int .i64 0,.int .i64 0,.int .i64 0,.slice none 0 0] _ rfl RZ Tryz.underlying32 rfl Tryz.sizeM) rfl ?_
    exact⟨rfl,HB.out.trans (TZ.below (by omega))⟩
   ·have hd:decide (60<(x.size:Int))=false:=by simp;omega
    have h20:decide ((20:Int)≤(v.tx.n:Int))=true:=by
     have h1:=hk.out
     have h2:=LT.out
     unfold sayOk at h1
     rw[KR.out,KL.out]at h1
     simp at h1
     simp;omega
    clear h60
    go_wp2_with (first|(refine wpList_ld1 rfl 28 _ rfl w.heap.size 5 rfl 32 _ HA.out (.slice v.tx.a v.tx.n v.tx.c) rfl _ Tryz.underlying28 rfl ?_)|(refine wpList_stW rfl 32 _ _ rfl (w.heap.size+1) rfl 32 _ HR.out [.int .i64 0,.int .i64 0,.slice none 0 0,.slice none 0 0,.slice none 0 0,.slice none 0 0,.int .i64 0,.int .i64 0,.int .i64 0,.int .i64 0,.int .i64 0,.int .i64 0,.int .i64 0,.int .i64 0,.int .i64 0,.slice none 0 0] rfl rfl Tryz.sizeM rfl ?_;intro wz RZ TZ))
    refine bodyPost_ret (results_bt Tryz.results155 (w.heap.size+1) 32 [.int .i64 0,.int .i64 0,.slice none 0 0,.slice none 0 0,.slice none 0 0,.slice none 0 0,.int .i64 0,.int .i64 0,.int .i64 0,.int .i64 0,.int .i64 0,.int .i64 0,.int .i64 0,.int .i64 0,.int .i64 0,.slice none 0 0] _ rfl RZ Tryz.underlying32 rfl Tryz.sizeM) rfl ?_
    exact⟨rfl,HB.out.trans (TZ.below (by omega))⟩
theorem spSay_yes (m:Mt) (v:Mv) (l:Int) (x:ByteArray) (w:World) (h:Hid (MtP w m v)) (hs:Hid (MtS m)) (hx:x.size≤1048576) (hk:Hid (sayOk m l x=true)):
  Calls Tryz.prog 155 #[.agg #[.int .i64 m.id,.int .i64 m.rid,.slice v.ms.a v.ms.n v.ms.c,.slice v.its.a v.its.n v.its.c,.slice v.lv.a v.lv.n v.lv.c,.slice v.tx.a v.tx.n v.tx.c,.int .i64 m.rd,.int .i64 m.se,.int .i64 m.li,.int .i64 m.he,.int .i64 m.la.c,.int .i64 m.la.r,.int .i64 m.la.q,.int .i64 m.la.a,.int .i64 m.la.b,.slice v.ws.a v.ws.n v.ws.c],.int .i64 l,.string x] w fun e w'=>∃u:Mv,e=.returned (.tuple #[.agg #[.int .i64 (sayM m l x).id,.int .i64 (sayM m l x).rid,.slice u.ms.a u.ms.n u.ms.c,.slice u.its.a u.its.n u.its.c,.slice u.lv.a u.lv.n u.lv.c,.slice u.tx.a u.tx.n u.tx.c,.int .i64 (sayM m l x).rd,.int .i64 (sayM m l x).se,.int .i64 (sayM m l x).li,.int .i64 (sayM m l x).he,.int .i64 (sayM m l x).la.c,.int .i64 (sayM m l x).la.r,.int .i64 (sayM m l x).la.q,.int .i64 (sayM m l x).la.a,.int .i64 (sayM m l x).la.b,.slice u.ws.a u.ws.n u.ws.c],.bool true])∧MtO w' w.heap.size (sayM m l x) u∧Below w.heap.size w w':=by
 obtain⟨HA,HR,HB⟩:=en2 w 32 [.int .i64 m.id,.int .i64 m.rid,.slice v.ms.a v.ms.n v.ms.c,.slice v.its.a v.its.n v.its.c,.slice v.lv.a v.lv.n v.lv.c,.slice v.tx.a v.tx.n v.tx.c,.int .i64 m.rd,.int .i64 m.se,.int .i64 m.li,.int .i64 m.he,.int .i64 m.la.c,.int .i64 m.la.r,.int .i64 m.la.q,.int .i64 m.la.a,.int .i64 m.la.b,.slice v.ws.a v.ws.n v.ws.c] 32 [.int .i64 0,.int .i64 0,.slice none 0 0,.slice none 0 0,.slice none 0 0,.slice none 0 0,.int .i64 0,.int .i64 0,.int .i64 0,.int .i64 0,.int .i64 0,.int .i64 0,.int .i64 0,.int .i64 0,.int .i64 0,.slice none 0 0]
 have HP:=hid (h.out.later HB.out)
 have LT:Hid (v.tx.n=m.tx.length):=RT.len h.out.tx.rt
 clear h
 go_enter Tryz.func155,Tryz.ntmps155
 go_wp2_with (first|(refine wpList_ldG rfl 32 _ rfl w.heap.size 0 rfl 32 _ HA.out [.int .i64 m.id,.int .i64 m.rid,.slice v.ms.a v.ms.n v.ms.c,.slice v.its.a v.its.n v.its.c,.slice v.lv.a v.lv.n v.lv.c,.slice v.tx.a v.tx.n v.tx.c,.int .i64 m.rd,.int .i64 m.se,.int .i64 m.li,.int .i64 m.he,.int .i64 m.la.c,.int .i64 m.la.r,.int .i64 m.la.q,.int .i64 m.la.a,.int .i64 m.la.b,.slice v.ws.a v.ws.n v.ws.c] rfl _ Tryz.underlying32 rfl Tryz.sizeM ?_))
 generalize (w.alloc (.cells #[.int .i64 m.id,.int .i64 m.rid,.slice v.ms.a v.ms.n v.ms.c,.slice v.its.a v.its.n v.its.c,.slice v.lv.a v.lv.n v.lv.c,.slice v.tx.a v.tx.n v.tx.c,.int .i64 m.rd,.int .i64 m.se,.int .i64 m.li,.int .i64 m.he,.int .i64 m.la.c,.int .i64 m.la.r,.int .i64 m.la.q,.int .i64 m.la.a,.int .i64 m.la.b,.slice v.ws.a v.ws.n v.ws.c] 32)).alloc (.cells #[.int .i64 0,.int .i64 0,.slice none 0 0,.slice none 0 0,.slice none 0 0,.slice none 0 0,.int .i64 0,.int .i64 0,.int .i64 0,.int .i64 0,.int .i64 0,.int .i64 0,.int .i64 0,.int .i64 0,.int .i64 0,.slice none 0 0] 32)=W at *
 have KR:Hid (m.ok=true):=by have:=hk.out;unfold sayOk at this;simp at this;exact this.1
 have KL:Hid (lvB l=true):=by have:=hk.out;unfold sayOk at this;simp at this;exact this.2.1
 have h60:decide (60<(x.size:Int))=false:=by have:=hk.out;unfold sayOk at this;simp at this;simp;omega
 have h20:decide ((20:Int)≤(v.tx.n:Int))=false:=by have:=hk.out;have:=LT.out;unfold sayOk at *;simp at *;omega
 clear hk
 refine(spMateOk_any m v _ HP.out.r hs).mono ?_
 rintro e w1 ⟨rfl,b⟩
 rw[KR.out]
 have HA:=hid (HA.out.later b)
 have HR:=hid (HR.out.later b)
 have HP:=hid (HP.out.later b)
 have HB:=hid (bl_next HB.out b)
 clear b
 go_wp2_with fail
 refine(in_b l 1 2 _).mono ?_
 rintro e w2 ⟨rfl,b⟩
 rw[show decide (1≤l∧l≤2)=true from KL.out]
 have HA:=hid (HA.out.later b)
 have HR:=hid (HR.out.later b)
 have HP:=hid (HP.out.later b)
 have HB:=hid (bl_next HB.out b)
 clear b
 go_wp2_with (first|(refine wpList_ld1 rfl 28 _ rfl w.heap.size 5 rfl 32 _ HA.out (.slice v.tx.a v.tx.n v.tx.c) rfl _ Tryz.underlying28 rfl ?_)|(refine wpList_ldG rfl 32 _ rfl w.heap.size 0 rfl 32 _ HA.out [.int .i64 m.id,.int .i64 m.rid,.slice v.ms.a v.ms.n v.ms.c,.slice v.its.a v.its.n v.its.c,.slice v.lv.a v.lv.n v.lv.c,.slice v.tx.a v.tx.n v.tx.c,.int .i64 m.rd,.int .i64 m.se,.int .i64 m.li,.int .i64 m.he,.int .i64 m.la.c,.int .i64 m.la.r,.int .i64 m.la.q,.int .i64 m.la.a,.int .i64 m.la.b,.slice v.ws.a v.ws.n v.ws.c] rfl _ Tryz.underlying32 rfl Tryz.sizeM ?_))
 refine(tenCopy_any m v _ HP hs).mono ?_
 rintro e w3 ⟨u,rfl,o3,b⟩
 have HO:Hid (MtO w3 w2.heap.size m u):=o3
 have z3:=b.size
 have zw:w.heap.size≤w2.heap.size:=HB.out.size
 have zr:w.heap.size+1<w2.heap.size:=HR.out.lt
 clear o3
 have HA:=hid (HA.out.later b)
 have HR:=hid (HR.out.later b)
 have HP:=hid (HP.out.later b)
 have HB:=hid (bl_next HB.out b)
 clear b
 have hz:=hid (Bx.new w3 32 [.int .i64 0,.int .i64 0,.slice none 0 0,.slice none 0 0,.slice none 0 0,.slice none 0 0,.int .i64 0,.int .i64 0,.int .i64 0,.int .i64 0,.int .i64 0,.int .i64 0,.int .i64 0,.int .i64 0,.int .i64 0,.slice none 0 0])
 go_wp2_with (first|(refine wpList_stW rfl 32 _ _ rfl w3.heap.size rfl 32 _ hz.out [.int .i64 m.id,.int .i64 m.rid,.slice u.ms.a u.ms.n u.ms.c,.slice u.its.a u.its.n u.its.c,.slice u.lv.a u.lv.n u.lv.c,.slice u.tx.a u.tx.n u.tx.c,.int .i64 m.rd,.int .i64 m.se,.int .i64 m.li,.int .i64 m.he,.int .i64 m.la.c,.int .i64 m.la.r,.int .i64 m.la.q,.int .i64 m.la.a,.int .i64 m.la.b,.slice u.ws.a u.ws.n u.ws.c] rfl rfl Tryz.sizeM rfl ?_;intro w4 OB TB;have bb:Below w3.heap.size w3 w4:=((Below.refl _ _).alloc (Nat.le_refl _) _).trans (TB.below (Nat.le_refl _));have HG:=hid OB;have HO:=hid (HO.out.later bb);have HR:=hid (HR.out.later bb);have HB:=hid (bl_next HB.out bb);clear OB TB bb;refine Stp.here ?_))
 refine Stp.go ?_
 generalize w3.heap.size=g at *
 have z4:w2.heap.size≤w4.heap.size:=by have:=HG.out.lt;omega
 have zl:m.lv.length<4000000:=by have:=hs.out.lv;omega
 have zt:m.tx.length<4000000:=by have:=hs.out.tx;omega
 have HG2:Hid (Bx (w4.alloc (.cells #[.int .i64 l] 3)) g 32 [.int .i64 m.id,.int .i64 m.rid,.slice u.ms.a u.ms.n u.ms.c,.slice u.its.a u.its.n u.its.c,.slice u.lv.a u.lv.n u.lv.c,.slice u.tx.a u.tx.n u.tx.c,.int .i64 m.rd,.int .i64 m.se,.int .i64 m.li,.int .i64 m.he,.int .i64 m.la.c,.int .i64 m.la.r,.int .i64 m.la.q,.int .i64 m.la.a,.int .i64 m.la.b,.slice u.ws.a u.ws.n u.ws.c]):=HG.out.later ((Below.refl _ _).alloc (Nat.le_refl _) _)
 go_wp2_with (first|(refine wpList_ld1 rfl 24 _ rfl g 4 rfl 32 _ HG.out (.slice u.lv.a u.lv.n u.lv.c) rfl _ Tryz.underlying24 rfl ?_)|(at_builtin;refine wpList_pushIb rfl _ _ 24 rfl Tryz.underlying24 Tryz.info3' w2.heap.size (.slice u.lv.a u.lv.n u.lv.c) m.lv rfl HO.out.lv l rfl zl z4 ?_;intro v5 w5 o5 g5 k5;have Xlv:Hid (OwnI w5 w2.heap.size v5 (m.lv++[l])):=o5;have G5:Hid ((w4.alloc (.cells #[.int .i64 l] 3)).grownBy w5 u.lv.v.ownBlock):=g5;have Q5:Hid (v5.ownBlock=u.lv.v.ownBlock∨v5.ownBlock=some (w4.heap.size+1)):=k5;clear o5 g5 k5;refine Stp.here ?_))
 refine Stp.go ?_
 obtain⟨ulv,hf⟩:=Xlv.out.sv
 subst hf
 have KK:=grown_after G5.out
 have N1:Hid (∀k,(u.lv.v).ownBlock=some k→w2.heap.size≤k∧k<w4.heap.size):=HO.out.lv.lt
 have ng:some g≠u.lv.v.ownBlock:=fun e=>bx_i_ne HO.out.lv HG.out (by decide) e.symm
 have P1:Hid (OwnI w5 w2.heap.size u.ms.v m.ms):=HO.out.ms.kept KK (fun k a b=>HO.out.a1 k a b.symm)
 have P2:Hid (SlI w5 w2.heap.size u.its.v m.its):=HO.out.its.kept KK (fun k a b=>ap_i_it HO.out.lv HO.out.its k b.symm a)
 have P4:Hid (OwnS w5 w2.heap.size u.tx.v m.tx):=ownS_kept HO.out.tx KK (fun k a b=>ap_i_s HO.out.lv HO.out.tx k b.symm a)
 have P5:Hid (OwnI w5 w2.heap.size u.ws.v m.la.ws):=HO.out.ws.kept KK (fun k a b=>HO.out.a3 k b.symm a)
 have AP1:Hid (Ap u.ms.v ulv.v):=fun k a b=>by
  rcases Q5.out with e|e
  ·exact HO.out.a1 k a (e.symm.trans b)
  ·have:=(HO.out.ms.lt k a).2;have e2:=e.symm.trans b;cases e2;omega
 have AP3:Hid (Ap ulv.v u.ws.v):=fun k a b=>by
  rcases Q5.out with e|e
  ·exact HO.out.a3 k (e.symm.trans a) b
  ·have:=(HO.out.ws.lt k b).2;have e2:=e.symm.trans a;cases e2;omega
 have AP2:Hid (Ap u.ms.v u.ws.v):=HO.out.a2
 have HR:Hid (Bx w5 (w.heap.size+1) 32 [.int .i64 0,.int .i64 0,.slice none 0 0,.slice none 0 0,.slice none 0 0,.slice none 0 0,.int .i64 0,.int .i64 0,.int .i64 0,.int .i64 0,.int .i64 0,.int .i64 0,.int .i64 0,.int .i64 0,.int .i64 0,.slice none 0 0]):=HR.out.grown KK (fun e=>by have:=(N1.out _ e.symm).1;omega)
 have HG:Hid (Bx w5 g 32 [.int .i64 m.id,.int .i64 m.rid,.slice u.ms.a u.ms.n u.ms.c,.slice u.its.a u.its.n u.its.c,.slice u.lv.a u.lv.n u.lv.c,.slice u.tx.a u.tx.n u.tx.c,.int .i64 m.rd,.int .i64 m.se,.int .i64 m.li,.int .i64 m.he,.int .i64 m.la.c,.int .i64 m.la.r,.int .i64 m.la.q,.int .i64 m.la.a,.int .i64 m.la.b,.slice u.ws.a u.ws.n u.ws.c]):=HG.out.grown KK ng
 have HB:Hid (Below w.heap.size w w5):=HB.out.grown KK HB.out.size (fun k hk=>by have:=(N1.out k hk).1;omega)
 have z5:=KK.size
 clear HG2 G5 Q5 KK ng HO N1
 go_wp2_with (first|(refine wpList_st1 rfl 24 _ _ rfl g 4 rfl 32 _ HG.out (.slice ulv.a ulv.n ulv.c) rfl (by simp) rfl Tryz.sizeNs [.int .i64 m.id,.int .i64 m.rid,.slice u.ms.a u.ms.n u.ms.c,.slice u.its.a u.its.n u.its.c,.slice ulv.a ulv.n ulv.c,.slice u.tx.a u.tx.n u.tx.c,.int .i64 m.rd,.int .i64 m.se,.int .i64 m.li,.int .i64 m.he,.int .i64 m.la.c,.int .i64 m.la.r,.int .i64 m.la.q,.int .i64 m.la.a,.int .i64 m.la.b,.slice u.ws.a u.ws.n u.ws.c] rfl ?_;intro w6 OB TB;refine Stp.here ?_))
 refine Stp.go ?_
 have P1:=hid (P1.out.past HG.out TB (by decide))
 have P2:=hid (P2.out.past HG.out TB (by decide))
 have Xlv:=hid (Xlv.out.past HG.out TB (by decide))
 have P5:=hid (P5.out.past HG.out TB (by decide))
 have P4:=hid (P4.out.past HG.out TB (by decide))
 have HR:=hid (HR.out.turn TB (by omega))
 have HB:=hid (HB.out.trans (TB.below (by omega)))
 have z6:w5.heap.size≤w6.heap.size:=Nat.le_of_eq TB.size.symm
 have HG:=hid OB
 clear OB TB
 obtain⟨w7,hw7⟩: ∃w7,w7=w6:=⟨_,rfl⟩
 subst hw7
 go_wp2_with (first|(refine wpList_ld1 rfl 28 _ rfl g 5 rfl 32 _ HG.out (.slice u.tx.a u.tx.n u.tx.c) rfl _ Tryz.underlying28 rfl ?_)|(at_builtin;refine wpList_pushSb rfl _ _ 28 rfl Tryz.underlying28 Tryz.info9 w2.heap.size (.slice u.tx.a u.tx.n u.tx.c) m.tx rfl P4.out x rfl zt (by omega) ?_;intro v8 w8 o8 g8 _;have Xtx:Hid (OwnS w8 w2.heap.size v8 (m.tx++[x])):=o8;have G8:Hid ((w7.alloc (.cells #[.string x] 9)).grownBy w8 u.tx.v.ownBlock):=g8;clear o8 g8;refine Stp.here ?_))
 refine Stp.go ?_
 obtain⟨utx,hf⟩:=Xtx.out.sv
 subst hf
 have KK:=grown_after G8.out
 have N1:Hid (∀k,(u.tx.v).ownBlock=some k→w2.heap.size≤k∧k<w7.heap.size):=P4.out.lt
 have ng:some g≠u.tx.v.ownBlock:=fun e=>bx_s_ne P4.out HG.out (by decide) e.symm
 have P1:Hid (OwnI w8 w2.heap.size u.ms.v m.ms):=P1.out.kept KK (fun k a b=>ap_i_s P1.out P4.out k a b.symm)
 have P2:Hid (SlI w8 w2.heap.size u.its.v m.its):=P2.out.kept KK (fun k a b=>ap_s_it P4.out P2.out k b.symm a)
 have Xlv:Hid (OwnI w8 w2.heap.size ulv.v (m.lv++[l])):=Xlv.out.kept KK (fun k a b=>ap_i_s Xlv.out P4.out k a b.symm)
 have P5:Hid (OwnI w8 w2.heap.size u.ws.v m.la.ws):=P5.out.kept KK (fun k a b=>ap_i_s P5.out P4.out k a b.symm)
 have HR:Hid (Bx w8 (w.heap.size+1) 32 [.int .i64 0,.int .i64 0,.slice none 0 0,.slice none 0 0,.slice none 0 0,.slice none 0 0,.int .i64 0,.int .i64 0,.int .i64 0,.int .i64 0,.int .i64 0,.int .i64 0,.int .i64 0,.int .i64 0,.int .i64 0,.slice none 0 0]):=HR.out.grown KK (fun e=>by have:=(N1.out _ e.symm).1;omega)
 have HG:Hid (Bx w8 g 32 [.int .i64 m.id,.int .i64 m.rid,.slice u.ms.a u.ms.n u.ms.c,.slice u.its.a u.its.n u.its.c,.slice ulv.a ulv.n ulv.c,.slice u.tx.a u.tx.n u.tx.c,.int .i64 m.rd,.int .i64 m.se,.int .i64 m.li,.int .i64 m.he,.int .i64 m.la.c,.int .i64 m.la.r,.int .i64 m.la.q,.int .i64 m.la.a,.int .i64 m.la.b,.slice u.ws.a u.ws.n u.ws.c]):=HG.out.grown KK ng
 have HB:Hid (Below w.heap.size w w8):=HB.out.grown KK HB.out.size (fun k hk=>by have:=(N1.out k hk).1;omega)
 clear G8 KK ng P4 N1
 go_wp2_with (first|(refine wpList_st1 rfl 28 _ _ rfl g 5 rfl 32 _ HG.out (.slice utx.a utx.n utx.c) rfl (by simp) rfl Tryz.sizeTs [.int .i64 m.id,.int .i64 m.rid,.slice u.ms.a u.ms.n u.ms.c,.slice u.its.a u.its.n u.its.c,.slice ulv.a ulv.n ulv.c,.slice utx.a utx.n utx.c,.int .i64 m.rd,.int .i64 m.se,.int .i64 m.li,.int .i64 m.he,.int .i64 m.la.c,.int .i64 m.la.r,.int .i64 m.la.q,.int .i64 m.la.a,.int .i64 m.la.b,.slice u.ws.a u.ws.n u.ws.c] rfl ?_;intro w9 OB TB;refine Stp.here ?_))
 refine Stp.go ?_
 have P1:=hid (P1.out.past HG.out TB (by decide))
 have P2:=hid (P2.out.past HG.out TB (by decide))
 have Xlv:=hid (Xlv.out.past HG.out TB (by decide))
 have P5:=hid (P5.out.past HG.out TB (by decide))
 have Xtx:=hid (Xtx.out.past HG.out TB (by decide))
 have HR:=hid (HR.out.turn TB (by omega))
 have HB:=hid (HB.out.trans (TB.below (by omega)))
 have HG:=hid OB
 clear OB TB
 go_wp2_with (first|(refine wpList_ldG rfl 32 _ rfl g 0 rfl 32 _ HG.out [.int .i64 m.id,.int .i64 m.rid,.slice u.ms.a u.ms.n u.ms.c,.slice u.its.a u.its.n u.its.c,.slice ulv.a ulv.n ulv.c,.slice utx.a utx.n utx.c,.int .i64 m.rd,.int .i64 m.se,.int .i64 m.li,.int .i64 m.he,.int .i64 m.la.c,.int .i64 m.la.r,.int .i64 m.la.q,.int .i64 m.la.a,.int .i64 m.la.b,.slice u.ws.a u.ws.n u.ws.c] rfl _ Tryz.underlying32 rfl Tryz.sizeM ?_)|(refine wpList_stW rfl 32 _ _ rfl (w.heap.size+1) rfl 32 _ HR.out [.int .i64 m.id,.int .i64 m.rid,.slice u.ms.a u.ms.n u.ms.c,.slice u.its.a u.its.n u.its.c,.slice ulv.a ulv.n ulv.c,.slice utx.a utx.n utx.c,.int .i64 m.rd,.int .i64 m.se,.int .i64 m.li,.int .i64 m.he,.int .i64 m.la.c,.int .i64 m.la.r,.int .i64 m.la.q,.int .i64 m.la.a,.int .i64 m.la.b,.slice u.ws.a u.ws.n u.ws.c] rfl rfl Tryz.sizeM rfl ?_;intro wz RZ TZ))
 refine bodyPost_ret (results_bt Tryz.results155 (w.heap.size+1) 32 [.int .i64 m.id,.int .i64 m.rid,.slice u.ms.a u.ms.n u.ms.c,.slice u.its.a u.its.n u.its.c,.slice ulv.a ulv.n ulv.c,.slice utx.a utx.n utx.c,.int .i64 m.rd,.int .i64 m.se,.int .i64 m.li,.int .i64 m.he,.int .i64 m.la.c,.int .i64 m.la.r,.int .i64 m.la.q,.int .i64 m.la.a,.int .i64 m.la.b,.slice u.ws.a u.ws.n u.ws.c] _ rfl RZ Tryz.underlying32 rfl Tryz.sizeM) rfl ?_
 refine⟨⟨u.ms,u.its,ulv,utx,u.ws⟩,rfl,⟨(P1.out.past HR.out TZ (by decide)).down zw,(P2.out.past HR.out TZ (by decide)).down zw,(Xlv.out.past HR.out TZ (by decide)).down zw,(Xtx.out.past HR.out TZ (by decide)).down zw,(P5.out.past HR.out TZ (by decide)).down zw,AP1.out,AP2.out,AP3.out⟩,HB.out.trans (TZ.below (by omega))⟩
end Go.Proofs.YthdjkkiegecgnaaGreat
