/- Joined texts: CC4 CLb CT2 CRg CRs CRh CRn CBt CFt CSs0 CRx CRy CD1 CDO CBg. -/
import Derived.Test.YthdjkkiegecgnaaGreatOq4
import Derived.Deep.RegionHeld3
import Derived.Deep.QuietTactic
import Derived.BigQuiet
import Derived.Test.YthdjkkiegecgnaaGreatOq1
import Derived.Test.YthdjkkiegecgnaaGreatChecked
import Derived.WalkKit
import Derived.WalkSpells
import Derived.WalkLawsBesides
set_option maxRecDepth 100000
set_option maxHeartbeats 16000000
namespace Go.Proofs.YthdjkkiegecgnaaGreat
open Go.RowKit Pl
set_option linter.unusedVariables false
theorem grown_transC{a b c:World}{row:Option Nat}(h:a.grownBy b row)(k:b.grownBy c row):a.grownBy c row:=
 ⟨k.os.trans h.os,k.tape.trans h.tape,k.output.trans h.output,Nat.le_trans h.size k.size,fun x hx hne=>(k.block x (Nat.lt_of_lt_of_le hx h.size) hne).trans (h.block x hx hne)⟩
theorem grown_bl{a b:World}{row:Option Nat}(h:Below a.heap.size a b):a.grownBy b row:=⟨h.os,h.tape,h.output,h.size,fun k hk _=>h.block k hk⟩
def marks(K n:Nat):List Int:=(List.range n).map fun(j:Nat)=>((K+j:Nat):Int)
theorem Pl.OwnI.keep{w w':World}{B:Nat}{v:Value}{ss:List Int}(h:OwnI w B v ss)(hk: ∀k,v.ownBlock=Option.some k→k<w.heap.size→w'.heap[k]? =w.heap[k]?):OwnI w' B v ss:=by
 refine⟨h.1,?_⟩
 rcases h.2 with hn|⟨g,cap,cur,rfl,hbg,hg,rest⟩
 ·exact .inl hn
 ·exact .inr ⟨g,cap,cur,rfl,hbg,(hk g rfl (Array.getElem?_eq_some_iff.1 hg).1).trans hg,rest⟩
theorem Pl.OwnI.kept{w w':World}{row:Option Nat}{B:Nat}{v:Value}{ss:List Int}(h:OwnI w B v ss)(hg:w.grownBy w' row)(hne: ∀k,v.ownBlock=Option.some k→Option.some k≠row):OwnI w' B v ss:=h.keep fun k hk hl=>hg.block k hl (hne k hk)
theorem qAa{a b c:World}(h:Below a.heap.size a b)(k:Below b.heap.size b c):Below a.heap.size a c:=h.trans (k.mono h.size)
theorem qEa(w:World)(B:Nat):OwnI w B (.slice none 0 0) []:=⟨by simp,.inl ⟨rfl,rfl⟩⟩
theorem spTokenOk_7(c r q a b:Int)(ao:Option Addr)(cap:Nat)(ws:List Int)(w:World)(hx:Hid (IntsAt w ao ws))(h20:ws.length≤20)(h1:decide (1≤c∧c≤9)=true)(h2:decide (1≤r∧r≤1000000000)=true)(h3:decide (0≤q∧q≤60)=true)(h4:decide (0≤a∧a≤q)=true)(h5:decide (0≤b∧b≤5)=true):
  Calls Tryz.prog 63 #[.agg #[.int .i64 c,.int .i64 r,.int .i64 q,.int .i64 a,.int .i64 b,.slice ao ws.length cap]] w fun e w'=>e=.returned (.bool (wGo 0 q ws))∧Below w.heap.size w w':=by
 have HB: ∀o:Obj,Hid (Below w.heap.size w (w.alloc o)):=fun o=>(Below.refl _ _).alloc (Nat.le_refl _) _
 have HX: ∀o,Hid (IntsAt (w.alloc o) ao ws):=fun o=>hx.out.stays (HB o).out
 have HT:Hid (TokAt (w.alloc (.cells #[.int .i64 c,.int .i64 r,.int .i64 q,.int .i64 a,.int .i64 b,.slice ao ws.length cap] 30)) w.heap.size c r q a b (.slice ao ws.length cap)):=heap_alloc_new w _
 have hB:=HB (.cells #[.int .i64 c,.int .i64 r,.int .i64 q,.int .i64 a,.int .i64 b,.slice ao ws.length cap] 30)
 have hX:=HX (.cells #[.int .i64 c,.int .i64 r,.int .i64 q,.int .i64 a,.int .i64 b,.slice ao ws.length cap] 30)
 clear HB HX hx
 go_enter Tryz.func63,Tryz.ntmps63
 go_wp2_with fail
 refine(qBb _ h1).mono ?_
 rintro e w1 ⟨rfl,rfl⟩
 go_wp2_with fail
 refine(qBb _ h2).mono ?_
 rintro e w1 ⟨rfl,rfl⟩
 go_wp2_with fail
 refine(qBb _ h3).mono ?_
 rintro e w1 ⟨rfl,rfl⟩
 go_wp2_with fail
 refine(qBb _ h4).mono ?_
 rintro e w1 ⟨rfl,rfl⟩
 go_wp2_with fail
 refine(qBb _ h5).mono ?_
 rintro e w1 ⟨rfl,rfl⟩
 go_wp2_with fail
 generalize w.alloc (.cells #[.int .i64 c,.int .i64 r,.int .i64 q,.int .i64 a,.int .i64 b,.slice ao ws.length cap] 30)=W at *
 go_loopw [3] (fun i wr=>∃(k:Nat) (l:Int),k≤ws.length∧i=.int .i64 k∧Hid (WSt ws q k l)∧Hid (TokAt wr w.heap.size c r q a b (.slice ao ws.length cap))∧Hid (IntsAt wr ao ws)∧Hid (Below w.heap.size w wr)) (fun i _=>ws.length - (intOf i).toNat)
 case atStart=>exact⟨0,0,Nat.zero_le _,rfl,qFk ws q,HT.out,hX.out,hB.out⟩
 case round=>
  clear HT hX hB h1 h2 h3 h4 h5
  obtain⟨k,l,hk,rfl,hst,HT,hX,hB⟩:=hrel
  obtain⟨c0,c1,c2,c3,c4,c5⟩:=HT.out.cells
  clear c0 c1 c3 c4
  by_cases hlt:k<ws.length
  ·obtain⟨bb,off,hao,hbb,hc⟩:=hX.out k hlt
   obtain⟨x,ht⟩: ∃x,x=ws[k]:=⟨_,rfl⟩
   rw[←ht]at hc
   have HV:Hid (x=ws[k]):=ht
   have i0:(0:Int)≤(k:Int):=by omega
   have i1:(k:Int)<(ws.length:Int):=by omega
   have hc':wr.cell? ⟨bb,off+(k:Int).toNat,none⟩=some (.int .i64 x):=by rw[Int.toNat_natCast];exact hc
   by_cases h0:k=0
   ·have HL:Hid (l=0):=hst.out.2.2.1 h0
    have hk0: ¬0<k:=by omega
    subst hao
    clear h0 ht
    cases hi:decide (1≤x∧x≤q)with
    |false=>
     go_wp2_with fail
     go_quiet (first|(go_at_call 80;exact Calls.quiet_of_same (qBb _ hi)))
     go_wp2_with fail
     go_ret
     have hbad:x≤l∨q<x:=by have:=HL.out;simp at hi;omega
     exact⟨by rw[qDn hst.out hlt HV.out hbad];rfl,qAx hB.out _⟩
    |true=>
     go_wp2_with fail
     go_quiet (first|(go_at_call 80;exact Calls.quiet_of_same (qBb _ hi)))
     go_wp2_with fail
     go_roundw
     case rel=>exact⟨k+1,x,by omega,by go_num,qEr hst.out hlt HV.out (by have:=HL.out;simp at hi;omega) (by simp at hi;omega),HT.out,hX.out,qAx hB.out _⟩
     case measure=>simp[intOf];omega
   ·obtain⟨j,hj⟩: ∃j,k=j+1:=⟨k - 1,by omega⟩
    have hlj:j<ws.length:=by omega
    have HL:Hid (l=ws[j]'hlj∧0≤l):=⟨hst.out.2.2.2 j hlj hj,hst.out.2.1⟩
    obtain⟨b2,off2,hao2,_,hc2⟩:=hX.out j hlj
    obtain⟨rfl,rfl⟩:b2=bb∧off2=off:=by rw[hao]at hao2;simp at hao2;exact⟨hao2.1.symm,hao2.2.symm⟩
    rw[←HL.out.1]at hc2
    have hk0:0<k:=by omega
    have hw1:IntKind.i64.wrap ((k:Int) - 1)=(j:Int):=by rw[IntKind.wrap_i64];omega
    have i2:(0:Int)≤(j:Int):=by omega
    have i3:(j:Int)<(ws.length:Int):=by omega
    have hc3:wr.cell? ⟨b2,off2+(j:Int).toNat,none⟩=some (.int .i64 l):=by rw[Int.toNat_natCast];exact hc2
    subst hao
    have HJ:Hid (k=j+1):=hj
    clear h0 ht hj hao2
    cases hi:decide (1≤x∧x≤q)with
    |false=>
     go_wp2_with fail
     go_quiet (first|(go_at_call 80;exact Calls.quiet_of_same (qBb _ hi)))
     go_wp2_with fail
     go_ret
     have hbad:x≤l∨q<x:=by have:=HL.out.2;simp at hi;omega
     exact⟨by rw[qDn hst.out hlt HV.out hbad];rfl,qAx hB.out _⟩
    |true=>
     by_cases hp:x≤l
     ·
      go_wp2_with fail
      go_quiet (first|(go_at_call 80;exact Calls.quiet_of_same (qBb _ hi)))
      go_wp2_with fail
      go_ret
      have hbad:x≤l∨q<x:=by exact .inl hp
      exact⟨by rw[qDn hst.out hlt HV.out hbad];rfl,qAx hB.out _⟩
     ·
      go_wp2_with fail
      go_quiet (first|(go_at_call 80;exact Calls.quiet_of_same (qBb _ hi)))
      go_wp2_with fail
      go_roundw
      case rel=>exact⟨k+1,x,by omega,by go_num,qEr hst.out hlt HV.out (by omega) (by simp at hi;omega),HT.out,hX.out,qAx hB.out _⟩
      case measure=>simp[intOf];omega
  ·go_wp2_with fail
   go_ret
   exact⟨by rw[qKf hst.out (by omega)];rfl,hB.out⟩
theorem spTokenOk_5(c r q a b:Int)(ao:Option Addr)(cap:Nat)(ws:List Int)(w:World)(hx:Hid (IntsAt w ao ws))(hl:ws.length≤1048576)(h1:decide (1≤c∧c≤9)=true)(h2:decide (1≤r∧r≤1000000000)=true)(h3:decide (0≤q∧q≤60)=true)(h4:decide (0≤a∧a≤q)=true)(h5:decide (0≤b∧b≤5)=true):
  Calls Tryz.prog 63 #[.agg #[.int .i64 c,.int .i64 r,.int .i64 q,.int .i64 a,.int .i64 b,.slice ao ws.length cap]] w fun e w'=>e=.returned (.bool (wB ws q))∧Below w.heap.size w w':=by
 unfold wB
 by_cases h20:20<ws.length
 ·have hd:decide ((ws.length:Int)≤20)=false:=by simp;omega
  rw[hd]
  exact spTokenOk_6 c r q a b ao cap ws w h20 h1 h2 h3 h4 h5
 ·have hd:decide ((ws.length:Int)≤20)=true:=by simp;omega
  rw[hd,Bool.true_and]
  exact spTokenOk_7 c r q a b ao cap ws w hx (by omega) h1 h2 h3 h4 h5
theorem qAv(c r q a b:Int)(ao:Option Addr)(cap:Nat)(ws:List Int)(w:World)(hx:Hid (IntsAt w ao ws))(hl:ws.length≤1048576):
  Calls Tryz.prog 63 #[.agg #[.int .i64 c,.int .i64 r,.int .i64 q,.int .i64 a,.int .i64 b,.slice ao ws.length cap]] w fun e w'=>e=.returned (.bool (tkB c r q a b ws))∧Below w.heap.size w w':=by
 unfold tkB
 cases h1:decide (1≤c∧c≤9)with
 |false=>exact spTokenOk_0 c r q a b ao cap ws w h1
 |true=>
  cases h2:decide (1≤r∧r≤1000000000)with
  |false=>exact spTokenOk_1 c r q a b ao cap ws w h1 h2
  |true=>
   cases h3:decide (0≤q∧q≤60)with
   |false=>exact spTokenOk_2 c r q a b ao cap ws w h1 h2 h3
   |true=>
    cases h4:decide (0≤a∧a≤q)with
    |false=>exact spTokenOk_3 c r q a b ao cap ws w h1 h2 h3 h4
    |true=>
     cases h5:decide (0≤b∧b≤5)with
     |false=>exact spTokenOk_4 c r q a b ao cap ws w h1 h2 h3 h4 h5
     |true=>exact spTokenOk_5 c r q a b ao cap ws w hx hl h1 h2 h3 h4 h5
def qAy(i:Int)(ms:List Int):Bool:=decide (1≤i∧i≤9)&&(decide (0<ms.length)&&wGo 0 5 ms)
theorem wGo_len: ∀(ms:List Int) (l:Int),wGo l 5 ms=true→l≤5→(ms.length:Int)+l≤5:=by
 intro ms
 induction ms with
 |nil=>intro l _ h;simp;omega
 |cons x xs ih=>
  intro l h hl
  by_cases h1:l<x∧x≤5
  ·rw[qCb h1.1 h1.2]at h
   have:=ih x h h1.2
   simp only[List.length_cons,Int.natCast_add]
   omega
  ·rw[qHb (by omega)]at h
   cases h
theorem daemons_any(ao:Option Addr)(cap:Nat)(ws:List Int)(w:World)(hx:Hid (IntsAt w ao ws))(hl:ws.length≤1048576):
  Calls Tryz.prog 162 #[.slice ao ws.length cap] w fun e w'=>e=.returned (.bool (wGo 0 5 ws))∧w'=w:=by
 go_enter Tryz.func162,Tryz.ntmps162
 go_wp2
 go_loop [3,8] (fun L i=>∃(k:Nat) (l:Int),k≤ws.length∧L=.int .i64 l∧i=.int .i64 k∧Hid (WSt ws 5 k l)) (fun _ i=>ws.length - (intOf i).toNat)
 case atStart=>exact⟨0,0,Nat.zero_le _,rfl,rfl,qFk ws 5⟩
 case round=>
  obtain⟨k,l,hk,rfl,rfl,hst⟩:=hrel
  by_cases hlt:k<ws.length
  ·obtain⟨b,off,rfl,hbb,hc⟩:=hx.out k hlt
   obtain⟨x,ht⟩: ∃x,x=ws[k]:=⟨_,rfl⟩
   rw[←ht]at hc
   have HT:Hid (x=ws[k]):=ht
   clear ht
   by_cases h1:x≤l
   ·go_wp2
    go_ret
    exact⟨by rw[qDn hst.out hlt HT.out (.inl h1)];rfl,rfl⟩
   ·by_cases h2:5<x
    ·go_wp2
     go_ret
     exact⟨by rw[qDn hst.out hlt HT.out (.inr h2)];simp,rfl⟩
    ·go_wp2
     go_round
     case rel=>exact⟨k+1,x,by omega,rfl,by go_num,qEr hst.out hlt HT.out (by omega) (by omega)⟩
     case measure=>simp[intOf];omega
  ·go_wp2
   go_ret
   exact⟨by rw[qKf hst.out (by omega)];rfl,rfl⟩
def RgAt(w:World)(g:Nat)(i:Int)(v:Value):Prop:=w.heap[g]? =some (.cells #[.int .i64 i,v] 26 (0,0))
theorem RgAt.cells{w:World}{g:Nat}{i:Int}{v:Value}(h:RgAt w g i v):w.cell? ⟨g,0,none⟩=some (.int .i64 i)∧w.cell? ⟨g,1,none⟩=some v:=
 ⟨by rw[cell_of_row w g 0 _ 26 (0,0) h];rfl,by rw[cell_of_row w g 1 _ 26 (0,0) h];rfl⟩
theorem RgAt.stays{w w':World}{B g:Nat}{i:Int}{v:Value}(h:RgAt w g i v)(hb:Below B w w')(hg:g<B):RgAt w' g i v:=(hb.block g hg).trans h
theorem RgAt.lt{w:World}{g:Nat}{i:Int}{v:Value}(h:RgAt w g i v):g<w.heap.size:=(Array.getElem?_eq_some_iff.1 h).1
theorem RgAt.frozen{w:World}{g:Nat}{i:Int}{v:Value}(h:RgAt w g i v)(k:Nat):w.frozen? ⟨g,k,none⟩=false:=by
 unfold RgAt at h
 simp[World.frozen?,h]
theorem ringOk_any(i:Int)(ao:Option Addr)(cap:Nat)(ws:List Int)(w:World)(hx:Hid (IntsAt w ao ws))(hl:ws.length≤1048576):
  Calls Tryz.prog 94 #[.agg #[.int .i64 i,.slice ao ws.length cap]] w fun e w'=>e=.returned (.bool (qAy i ws))∧Below w.heap.size w w':=by
 have HX: ∀o,Hid (IntsAt (w.alloc o) ao ws):=fun o=>hx.out.stays ((Below.refl _ _).alloc (Nat.le_refl _) _)
 unfold qAy
 cases h1:decide (1≤i∧i≤9)with
 |false=>
  go_enter Tryz.func94,Tryz.ntmps94
  go_wp2_with fail
  refine(qAi _ h1).mono ?_
  rintro e w1 ⟨rfl,rfl⟩
  go_wp2_with fail
  go_ret
  exact⟨rfl,(Below.refl _ _).alloc (Nat.le_refl _) _⟩
 |true=>
  by_cases h2:0<ws.length
  ·rw[decide_eq_true h2]
   have h2':(0:Int)<(ws.length:Int):=by omega
   go_enter Tryz.func94,Tryz.ntmps94
   go_wp2_with fail
   refine(qAi _ h1).mono ?_
   rintro e w1 ⟨rfl,rfl⟩
   go_wp2_with fail
   refine(daemons_any ao cap ws _ (HX _) hl).mono ?_
   rintro e w1 ⟨rfl,rfl⟩
   go_wp2_with fail
   go_ret
   exact⟨rfl,(Below.refl _ _).alloc (Nat.le_refl _) _⟩
  ·rw[decide_eq_false h2]
   have h2': ¬(0:Int)<(ws.length:Int):=by omega
   go_enter Tryz.func94,Tryz.ntmps94
   go_wp2_with fail
   refine(qAi _ h1).mono ?_
   rintro e w1 ⟨rfl,rfl⟩
   go_wp2_with fail
   go_ret
   exact⟨rfl,(Below.refl _ _).alloc (Nat.le_refl _) _⟩
theorem RgAt.set1{w:World}{g:Nat}{i:Int}{v:Value}(h:RgAt w g i v)(u:Value):RgAt (w.setCell ⟨g,1,none⟩ u) g i u:=by
 have:=heap_setCell_same w g 1 _ 26 u h
 unfold RgAt;rw[this];rfl
theorem RgAt.turn{w w':World}{g k:Nat}{i:Int}{v:Value}(h:RgAt w g i v)(hk:TurnAt k w w')(hg:g≠k):RgAt w' g i v:=(hk.block g hg).trans h
theorem RgAt.agg{w:World}{g:Nat}{i:Int}{v:Value}(h:RgAt w g i v)(i':Int)(v':Value):
  RgAt ((w.setCell ⟨g,0,none⟩ (.int .i64 i')).setCell ⟨g,1,none⟩ v') g i' v':=by
 have h0:=heap_setCell_same w g 0 _ 26 (.int .i64 i') h
 have h1:=heap_setCell_same _ g 1 _ 26 v' h0
 unfold RgAt;rw[h1];rfl
theorem qKm{w w':World}{B g:Nat}{v:Value}{xs:List Int}{i:Int}{u:Value}(h:OwnI w B v xs)(hu:RgAt w g i u)(ht:TurnAt g w w'):OwnI w' B v xs:=by
 refine⟨h.1,?_⟩
 rcases h.2 with hn|⟨k,cap,cur,rfl,hbg,hk,rest⟩
 ·exact .inl hn
 ·have hne:k≠g:=by
   rintro rfl
   unfold RgAt at hu
   rw[hk]at hu
   simp at hu
  exact .inr ⟨k,cap,cur,rfl,hbg,(ht.block k hne).trans hk,rest⟩
def LrgAt(w:World)(g:Nat)(i:Int)(v:Value):Prop:=w.heap[g]? =some (.cells #[.int .i64 i,v] 69 (0,0))
theorem LrgAt.cells{w:World}{g:Nat}{i:Int}{v:Value}(h:LrgAt w g i v):w.cell? ⟨g,0,none⟩=some (.int .i64 i)∧w.cell? ⟨g,1,none⟩=some v:=
 ⟨by rw[cell_of_row w g 0 _ 69 (0,0) h];rfl,by rw[cell_of_row w g 1 _ 69 (0,0) h];rfl⟩
theorem LrgAt.stays{w w':World}{B g:Nat}{i:Int}{v:Value}(h:LrgAt w g i v)(hb:Below B w w')(hg:g<B):LrgAt w' g i v:=(hb.block g hg).trans h
theorem LrgAt.lt{w:World}{g:Nat}{i:Int}{v:Value}(h:LrgAt w g i v):g<w.heap.size:=(Array.getElem?_eq_some_iff.1 h).1
theorem spRingOk_2(i:Int)(ao:Option Addr)(cap:Nat)(ws:List Int)(w:World)(hx:Hid (IntsAt w ao ws))(h20:ws.length≤5)(h1:decide (1≤i∧i≤9)=true)(h2:decide (1≤(ws.length:Int)∧(ws.length:Int)≤5)=true):
  Calls Tryz.prog 131 #[.agg #[.int .i64 i,.slice ao ws.length cap]] w fun e w'=>e=.returned (.bool (wGo 0 5 ws))∧Below w.heap.size w w':=by
 have HB: ∀o:Obj,Hid (Below w.heap.size w (w.alloc o)):=fun o=>(Below.refl _ _).alloc (Nat.le_refl _) _
 have HX: ∀o,Hid (IntsAt (w.alloc o) ao ws):=fun o=>hx.out.stays (HB o).out
 have HT:Hid (RgAt (w.alloc (.cells #[.int .i64 i,.slice ao ws.length cap] 26)) w.heap.size i (.slice ao ws.length cap)):=heap_alloc_new w _
 have hB:=HB (.cells #[.int .i64 i,.slice ao ws.length cap] 26)
 have hX:=HX (.cells #[.int .i64 i,.slice ao ws.length cap] 26)
 clear HB HX hx
 go_enter Tryz.func131,Tryz.ntmps131
 go_wp2_with fail
 refine(qBb _ h1).mono ?_
 rintro e w1 ⟨rfl,rfl⟩
 go_wp2_with fail
 refine(qBb _ h2).mono ?_
 rintro e w1 ⟨rfl,rfl⟩
 go_wp2_with fail
 generalize w.alloc (.cells #[.int .i64 i,.slice ao ws.length cap] 26)=W at *
 go_loopw [3] (fun ix wr=>∃(k:Nat) (l:Int),k≤ws.length∧ix=.int .i64 k∧Hid (WSt ws 5 k l)∧Hid (RgAt wr w.heap.size i (.slice ao ws.length cap))∧Hid (IntsAt wr ao ws)∧Hid (Below w.heap.size w wr)) (fun ix _=>ws.length - (intOf ix).toNat)
 case atStart=>exact⟨0,0,Nat.zero_le _,rfl,qFk ws 5,HT.out,hX.out,hB.out⟩
 case round=>
  clear HT hX hB h1 h2
  obtain⟨k,l,hk,rfl,hst,HT,hX,hB⟩:=hrel
  obtain⟨c0,c5⟩:=HT.out.cells
  clear c0
  by_cases hlt:k<ws.length
  ·obtain⟨bb,off,hao,hbb,hc⟩:=hX.out k hlt
   obtain⟨x,ht⟩: ∃x,x=ws[k]:=⟨_,rfl⟩
   rw[←ht]at hc
   have HV:Hid (x=ws[k]):=ht
   have i0:(0:Int)≤(k:Int):=by omega
   have i1:(k:Int)<(ws.length:Int):=by omega
   have hc':wr.cell? ⟨bb,off+(k:Int).toNat,none⟩=some (.int .i64 x):=by rw[Int.toNat_natCast];exact hc
   by_cases h0:k=0
   ·have HL:Hid (l=0):=hst.out.2.2.1 h0
    have hk0: ¬0<k:=by omega
    subst hao
    clear h0 ht
    cases hi:decide (1≤x∧x≤5)with
    |false=>
     go_wp2_with fail
     go_quiet (first|(go_at_call 80;exact Calls.quiet_of_same (qBb _ hi)))
     go_wp2_with fail
     go_ret
     have hbad:x≤l∨5<x:=by have:=HL.out;simp at hi;omega
     exact⟨by rw[qDn hst.out hlt HV.out hbad];rfl,qAx hB.out _⟩
    |true=>
     go_wp2_with fail
     go_quiet (first|(go_at_call 80;exact Calls.quiet_of_same (qBb _ hi)))
     go_wp2_with fail
     go_roundw
     case rel=>exact⟨k+1,x,by omega,by go_num,qEr hst.out hlt HV.out (by have:=HL.out;simp at hi;omega) (by simp at hi;omega),HT.out,hX.out,qAx hB.out _⟩
     case measure=>simp[intOf];omega
   ·obtain⟨j,hj⟩: ∃j,k=j+1:=⟨k - 1,by omega⟩
    have hlj:j<ws.length:=by omega
    have HL:Hid (l=ws[j]'hlj∧0≤l):=⟨hst.out.2.2.2 j hlj hj,hst.out.2.1⟩
    obtain⟨b2,off2,hao2,_,hc2⟩:=hX.out j hlj
    obtain⟨rfl,rfl⟩:b2=bb∧off2=off:=by rw[hao]at hao2;simp at hao2;exact⟨hao2.1.symm,hao2.2.symm⟩
    rw[←HL.out.1]at hc2
    have hk0:0<k:=by omega
    have hw1:IntKind.i64.wrap ((k:Int) - 1)=(j:Int):=by rw[IntKind.wrap_i64];omega
    have i2:(0:Int)≤(j:Int):=by omega
    have i3:(j:Int)<(ws.length:Int):=by omega
    have hc3:wr.cell? ⟨b2,off2+(j:Int).toNat,none⟩=some (.int .i64 l):=by rw[Int.toNat_natCast];exact hc2
    subst hao
    have HJ:Hid (k=j+1):=hj
    clear h0 ht hj hao2
    cases hi:decide (1≤x∧x≤5)with
    |false=>
     go_wp2_with fail
     go_quiet (first|(go_at_call 80;exact Calls.quiet_of_same (qBb _ hi)))
     go_wp2_with fail
     go_ret
     have hbad:x≤l∨5<x:=by have:=HL.out.2;simp at hi;omega
     exact⟨by rw[qDn hst.out hlt HV.out hbad];rfl,qAx hB.out _⟩
    |true=>
     by_cases hp:x≤l
     ·
      go_wp2_with fail
      go_quiet (first|(go_at_call 80;exact Calls.quiet_of_same (qBb _ hi)))
      go_wp2_with fail
      go_ret
      have hbad:x≤l∨5<x:=by exact .inl hp
      exact⟨by rw[qDn hst.out hlt HV.out hbad];rfl,qAx hB.out _⟩
     ·
      go_wp2_with fail
      go_quiet (first|(go_at_call 80;exact Calls.quiet_of_same (qBb _ hi)))
      go_wp2_with fail
      go_roundw
      case rel=>exact⟨k+1,x,by omega,by go_num,qEr hst.out hlt HV.out (by omega) (by simp at hi;omega),HT.out,hX.out,qAx hB.out _⟩
      case measure=>simp[intOf];omega
  ·go_wp2_with fail
   go_ret
   exact⟨by rw[qKf hst.out (by omega)];rfl,hB.out⟩
theorem wGo_long{ws:List Int}(h:5<ws.length):wGo 0 5 ws=false:=by
 cases hg:wGo 0 5 ws with
 |false=>rfl
 |true=>have:=wGo_len ws 0 hg (by omega);omega
theorem qDg(i:Int)(ao:Option Addr)(cap:Nat)(ws:List Int)(w:World)(hx:Hid (IntsAt w ao ws))(hl:ws.length≤1048576):
  Calls Tryz.prog 131 #[.agg #[.int .i64 i,.slice ao ws.length cap]] w fun e w'=>e=.returned (.bool (qAy i ws))∧Below w.heap.size w w':=by
 unfold qAy
 cases h1:decide (1≤i∧i≤9)with
 |false=>
  go_enter Tryz.func131,Tryz.ntmps131
  go_wp2_with fail
  refine(qBb _ h1).mono ?_
  rintro e w1 ⟨rfl,rfl⟩
  go_wp2_with fail
  go_ret
  exact⟨rfl,(Below.refl _ _).alloc (Nat.le_refl _) _⟩
 |true=>
  cases h2:decide (1≤(ws.length:Int)∧(ws.length:Int)≤5)with
  |true=>
   have h3:decide (0<ws.length)=true:=by simp at h2⊢;omega
   rw[h3]
   exact spRingOk_2 i ao cap ws w hx (by simp at h2;omega) h1 h2
  |false=>
   have h3:(decide (0<ws.length)&&wGo 0 5 ws)=false:=by
    by_cases h0:0<ws.length
    ·rw[wGo_long (by simp at h2;omega)];simp
    ·rw[decide_eq_false h0];rfl
   rw[h3]
   go_enter Tryz.func131,Tryz.ntmps131
   go_wp2_with fail
   refine(qBb _ h1).mono ?_
   rintro e w1 ⟨rfl,rfl⟩
   go_wp2_with fail
   refine(qBb _ h2).mono ?_
   rintro e w1 ⟨rfl,rfl⟩
   go_wp2_with fail
   go_ret
   exact⟨rfl,(Below.refl _ _).alloc (Nat.le_refl _) _⟩
def qEd(ms:List Int)(d:Int)(k:Nat):Prop:=∃h:k<ms.length,ms[k]=d∧∀j (hj:j<k),ms[j]'(by omega)≠d
def qDm(ms:List Int)(d:Int)(k:Nat):Prop:=∀j (hj:j<ms.length),j<k→ms[j]≠d
theorem qLa(ms:List Int)(d:Int):(∃k,qEd ms d k)∨qDm ms d ms.length:=by
 have: ∀n,n≤ms.length→(∃k,qEd ms d k)∨qDm ms d n:=by
  intro n
  induction n with
  |zero=>intro _;exact .inr fun j _ h=>by omega
  |succ n ih=>
   intro hn
   rcases ih (by omega)with h|h
   ·exact .inl h
   ·by_cases e:ms[n]'(by omega)=d
    ·exact .inl ⟨n,by omega,e,fun j hj=>h j (by omega) hj⟩
    ·refine .inr fun j hj hjn=>?_
     by_cases e2:j=n
     ·subst e2;exact e
     ·exact h j hj (by omega)
 exact this _ (Nat.le_refl _)
def qCw(i:Int)(ms:List Int)(d:Int):Int:=
 if qAy i ms then(match ms.findIdx? (fun x=>x==d)with|some k=>ms.getD ((k+1) % ms.length) 0|none=>0)else 0
theorem nextP_bad{i:Int}{ms:List Int}{d:Int}(h:qAy i ms=false):qCw i ms d=0:=by simp[qCw,h]
theorem nextP_none{i:Int}{ms:List Int}{d:Int}(h:qDm ms d ms.length):qCw i ms d=0:=by
 have:ms.findIdx? (fun x=>x==d)=none:=by
  rw[List.findIdx?_eq_none_iff]
  intro x hx
  obtain⟨j,hj,rfl⟩:=List.getElem_of_mem hx
  simpa using h j hj hj
 simp[qCw,this]
theorem nextP_at{i:Int}{ms:List Int}{d:Int}{k:Nat}(h:qEd ms d k)(hr:qAy i ms=true):qCw i ms d=ms[(k+1) % ms.length]'(Nat.mod_lt _ (by obtain⟨h,_⟩:=h;omega)):=by
 obtain⟨hk,he,hf⟩:=h
 have:ms.findIdx? (fun x=>x==d)=some k:=by
  rw[List.findIdx?_eq_some_iff_getElem]
  exact⟨hk,by simp[he],fun j hj=>by simpa using hf j hj⟩
 have hm:(k+1) % ms.length<ms.length:=Nat.mod_lt _ (by omega)
 simp[qCw,this,hr,hm]
theorem index_at(ao:Option Addr)(cap:Nat)(ws:List Int)(d:Int)(n:Nat)(w:World)(hx:Hid (IntsAt w ao ws))(hl:ws.length≤1048576)(hf:Hid (qEd ws d n)):
  Calls Tryz.prog 175 #[.slice ao ws.length cap,.int .i64 d] w fun e w'=>e=.returned (.int .i64 (n:Int))∧w'=w:=by
 go_enter Tryz.func175,Tryz.ntmps175
 go_wp2
 go_loop [8] (fun i=>∃(k:Nat),k≤n∧i=.int .i64 k) (fun i=>ws.length - (intOf i).toNat)
 case atStart=>exact⟨0,Nat.zero_le _,rfl⟩
 case round=>
  obtain⟨k,hk,rfl⟩:=hrel
  have hn:n<ws.length:=by obtain⟨h,_⟩:=hf.out;exact h
  have hlt:k<ws.length:=by omega
  obtain⟨b,off,rfl,hbb,hc⟩:=hx.out k hlt
  obtain⟨x,ht⟩: ∃x,x=ws[k]:=⟨_,rfl⟩
  rw[←ht]at hc
  have HT:Hid (x=ws[k]):=ht
  clear ht
  by_cases h1:k=n
  ·have h2:d=x:=by obtain⟨h,he,_⟩:=hf.out;rw[HT.out];subst h1;exact he.symm
   subst h2
   subst h1
   go_wp2
   go_ret
   exact⟨rfl,rfl⟩
  ·have h2: ¬d=x:=by obtain⟨h,he,hq⟩:=hf.out;rw[HT.out];exact fun e=>hq k (by omega) e.symm
   go_wp2
   go_round
   case rel=>exact⟨k+1,by omega,by go_num⟩
   case measure=>simp[intOf];omega
theorem index_none(ao:Option Addr)(cap:Nat)(ws:List Int)(d:Int)(w:World)(hx:Hid (IntsAt w ao ws))(hl:ws.length≤1048576)(hf:Hid (qDm ws d ws.length)):
  Calls Tryz.prog 175 #[.slice ao ws.length cap,.int .i64 d] w fun e w'=>e=.returned (.int .i64 (-1))∧w'=w:=by
 go_enter Tryz.func175,Tryz.ntmps175
 go_wp2
 go_loop [8] (fun i=>∃(k:Nat),k≤ws.length∧i=.int .i64 k) (fun i=>ws.length - (intOf i).toNat)
 case atStart=>exact⟨0,Nat.zero_le _,rfl⟩
 case round=>
  obtain⟨k,hk,rfl⟩:=hrel
  by_cases hlt:k<ws.length
  ·obtain⟨b,off,rfl,hbb,hc⟩:=hx.out k hlt
   obtain⟨x,ht⟩: ∃x,x=ws[k]:=⟨_,rfl⟩
   rw[←ht]at hc
   have HT:Hid (x=ws[k]):=ht
   clear ht
   have h2: ¬d=x:=by rw[HT.out];exact fun e=>hf.out k hlt hlt e.symm
   go_wp2
   go_round
   case rel=>exact⟨k+1,by omega,by go_num⟩
   case measure=>simp[intOf];omega
  ·go_wp2
   go_ret
   exact⟨rfl,rfl⟩
theorem spFirst_yes(i:Int)(ao:Option Addr)(cap:Nat)(ws:List Int)(w:World)(hx:Hid (IntsAt w ao ws))(hl:ws.length≤1048576)(hr:Hid (qAy i ws=true)):
  Calls Tryz.prog 154 #[.agg #[.int .i64 i,.slice ao ws.length cap]] w fun e w'=>e=.returned (.agg #[.int .i64 i,.int .i64 1,.int .i64 0,.int .i64 0,.int .i64 0,.slice none 0 0])∧Below w.heap.size w w':=by
 have hn1:(w.alloc (.cells #[.int .i64 i,.slice ao ws.length cap] 26)).heap.size=w.heap.size+1:=by simp
 have HT:Hid (RgAt ((w.alloc (.cells #[.int .i64 i,.slice ao ws.length cap] 26)).alloc (.cells #[.int .i64 0,.int .i64 0,.int .i64 0,.int .i64 0,.int .i64 0,.slice none 0 0] 30)) w.heap.size i (.slice ao ws.length cap)):=by
  have h:=heap_alloc_new w (.cells #[.int .i64 i,.slice ao ws.length cap] 26)
  exact RgAt.stays (B:=w.heap.size+1) h ((Below.refl _ _).alloc (by rw[hn1];exact Nat.le_refl _) _) (by omega)
 have HR:Hid (TokAt ((w.alloc (.cells #[.int .i64 i,.slice ao ws.length cap] 26)).alloc (.cells #[.int .i64 0,.int .i64 0,.int .i64 0,.int .i64 0,.int .i64 0,.slice none 0 0] 30)) (w.heap.size+1) 0 0 0 0 0 (.slice none 0 0)):=by
  have h:=heap_alloc_new (w.alloc (.cells #[.int .i64 i,.slice ao ws.length cap] 26)) (.cells #[.int .i64 0,.int .i64 0,.int .i64 0,.int .i64 0,.int .i64 0,.slice none 0 0] 30)
  rw[hn1]at h
  exact h
 have HB:Hid (Below w.heap.size w ((w.alloc (.cells #[.int .i64 i,.slice ao ws.length cap] 26)).alloc (.cells #[.int .i64 0,.int .i64 0,.int .i64 0,.int .i64 0,.int .i64 0,.slice none 0 0] 30))):=((Below.refl _ _).alloc (Nat.le_refl _) _).alloc (by simp) _
 have HX:=Ag (hx.out.stays HB.out)
 clear hn1 hx
 go_enter Tryz.func154,Tryz.ntmps154
 go_wp2_with fail
 generalize (w.alloc (.cells #[.int .i64 i,.slice ao ws.length cap] 26)).alloc (.cells #[.int .i64 0,.int .i64 0,.int .i64 0,.int .i64 0,.int .i64 0,.slice none 0 0] 30)=W at *
 refine(qDg i ao cap ws _ HX hl).mono ?_
 rintro e w2 ⟨rfl,hb2⟩
 rw[hr.out]
 obtain⟨R2,B2⟩:=cy2 (HR.out.stays hb2 HR.out.lt) (HB.out.trans (hb2.mono HB.out.size))
 obtain⟨k0,k1⟩:=(HT.out.stays hb2 HT.out.lt).cells
 clear k1
 obtain⟨r0,r1,r2,r3,r4,r5⟩:=R2.out.cells
 have z0:=R2.out.frozen 0
 have z1:=R2.out.frozen 1
 have z2:=R2.out.frozen 2
 have z3:=R2.out.frozen 3
 have z4:=R2.out.frozen 4
 have z5:=R2.out.frozen 5
 clear hb2 HX HB HR HT hr
 go_wp2_with fail
 have R3:TokAt _ (w.heap.size+1) i 1 0 0 0 (.slice none 0 0):=R2.out.agg i 1 0 0 0 (.slice none 0 0)
 have T3:=((((((TurnAt.refl (w.heap.size+1) w2).setCell 0 (.int .i64 i)).setCell 1 (.int .i64 1)).setCell 2 (.int .i64 0)).setCell 3 (.int .i64 0)).setCell 4 (.int .i64 0)).setCell 5 (.slice none 0 0)
 have B3:=B2.out.trans (T3.below (by omega))
 clear T3 R2 B2
 generalize ((((((w2.setCell ⟨w.heap.size+1,0,none⟩ (.int .i64 i)).setCell ⟨w.heap.size+1,1,none⟩ (.int .i64 1)).setCell ⟨w.heap.size+1,2,none⟩ (.int .i64 0)).setCell ⟨w.heap.size+1,3,none⟩ (.int .i64 0)).setCell ⟨w.heap.size+1,4,none⟩ (.int .i64 0)).setCell ⟨w.heap.size+1,5,none⟩ (.slice none 0 0))=W3 at *
 obtain⟨q0,q1,q2,q3,q4,q5⟩:=R3.cells
 refine bodyPost_ret (v:=.agg #[.int .i64 i,.int .i64 1,.int .i64 0,.int .i64 0,.int .i64 0,.slice none 0 0]) (by simp[results,Tryz.results154,go_sem,q0,q1,q2,q3,q4,q5]) rfl ?_
 exact⟨rfl,B3⟩
structure Gr (S:Nat→Prop) (w w':World):Prop where
 os:w'.os=w.os
 tape:w'.tape=w.tape
 output:w'.output=w.output
 size:w.heap.size≤w'.heap.size
 block: ∀k,k<w.heap.size→¬S k→w'.heap[k]? =w.heap[k]?
theorem Gr.refl(S:Nat→Prop)(w:World):Gr S w w:=⟨rfl,rfl,rfl,Nat.le_refl _,fun _ _ _=>rfl⟩
theorem Gr.trans{S:Nat→Prop}{a b c:World}(h:Gr S a b)(k:Gr S b c):Gr S a c:=
 ⟨k.os.trans h.os,k.tape.trans h.tape,k.output.trans h.output,Nat.le_trans h.size k.size,fun i hi hs=>(k.block i (Nat.lt_of_lt_of_le hi h.size) hs).trans (h.block i hi hs)⟩
theorem Gr.ofGrown{S:Nat→Prop}{a b:World}{row:Option Nat}(h:a.grownBy b row)(hs: ∀k,row=some k→S k):Gr S a b:=⟨h.os,h.tape,h.output,h.size,fun k hk hn=>h.block k hk (fun he=>hn (hs k he.symm))⟩
theorem Gr.below{S:Nat→Prop}{a b:World}{B:Nat}(h:Gr S a b)(hs: ∀k,S k→B≤k)(hB:B≤a.heap.size):Below B a b:=⟨h.os,h.tape,h.output,h.size,fun k hk=>h.block k (by omega) (fun h1=>by have:=hs k h1;omega)⟩
theorem nx_mod{k n:Nat}(hk:k<n)(hn:n≤1048576):(IntKind.i64.wrap ((k:Int)+1)).tmod (n:Int)=(((k+1) % n:Nat):Int):=by
 rw[show IntKind.i64.wrap ((k:Int)+1)=(k:Int)+1 from by rw[IntKind.wrap_i64];omega,Int.tmod_eq_emod_of_nonneg (by omega),Int.natCast_emod,Int.natCast_add];rfl
theorem spNextOf_any(i d:Int)(ao:Option Addr)(cap:Nat)(ws:List Int)(w:World)(hx:Hid (IntsAt w ao ws))(hl:ws.length≤1048576):
  Calls Tryz.prog 217 #[.agg #[.int .i64 i,.slice ao ws.length cap],.int .i64 d] w fun e w'=>e=.returned (.int .i64 (qCw i ws d))∧Below w.heap.size w w':=by
 have HB:=Ag (bA w (.cells #[.int .i64 i,.slice ao ws.length cap] 26))
 have HX:=Ag (hx.out.stays HB.out)
 have HT:Hid (RgAt (w.alloc (.cells #[.int .i64 i,.slice ao ws.length cap] 26)) w.heap.size i (.slice ao ws.length cap)):=heap_alloc_new w _
 clear hx
 cases hr:qAy i ws with
 |false=>
  rw[nextP_bad hr]
  go_enter Tryz.func217,Tryz.ntmps217
  go_wp2_with fail
  generalize w.alloc (.cells #[.int .i64 i,.slice ao ws.length cap] 26)=W at *
  refine(qDg i ao cap ws _ HX hl).mono ?_
  rintro e w2 ⟨rfl,hb2⟩
  rw[hr]
  go_wp2_with fail
  go_ret
  exact⟨rfl,HB.out.trans (hb2.mono HB.out.size)⟩
 |true=>
  go_enter Tryz.func217,Tryz.ntmps217
  go_wp2_with fail
  generalize w.alloc (.cells #[.int .i64 i,.slice ao ws.length cap] 26)=W at *
  refine(qDg i ao cap ws _ HX hl).mono ?_
  rintro e w2 ⟨rfl,hb2⟩
  have HR:Hid (qAy i ws=true):=hr
  rw[hr]
  clear hr
  obtain⟨H2,X2,T2⟩:=cy3 (HB.out.trans (hb2.mono HB.out.size)) (HX.out.stays hb2) (HT.out.stays hb2 HT.out.lt)
  clear HB HX HT hb2
  go_wp2_with fail
  go_loopw [5] (fun ix wr=>∃(k:Nat),k≤ws.length∧ix=.int .i64 k∧Hid (qDm ws d k)∧Hid (wr=w2)) (fun ix _=>ws.length - (intOf ix).toNat)
  case atStart=>exact⟨0,by omega,rfl,fun j _ h=>by omega,rfl⟩
  case round=>
   obtain⟨k,hk,rfl,hnu,hwr⟩:=hrel
   obtain rfl:=hwr.out
   obtain⟨c0,c1⟩:=T2.out.cells
   clear hwr
   by_cases hlt:k<ws.length
   ·obtain⟨bb,off,hao,hbb,hc⟩:=X2.out k hlt
    obtain⟨x,ht⟩: ∃x,x=ws[k]:=⟨_,rfl⟩
    rw[←ht]at hc
    have HV:Hid (x=ws[k]):=ht
    have i0:(0:Int)≤(k:Int):=by omega
    have i1:(k:Int)<(ws.length:Int):=by omega
    by_cases he:x=d
    ·have HF:Hid (qEd ws d k):=⟨hlt,by rw[←HV.out];exact he,fun j hj=>hnu.out j (by omega) hj⟩
     have hm:(k+1) % ws.length<ws.length:=Nat.mod_lt _ (by omega)
     obtain⟨y,hxe⟩: ∃x,x=ws[(k+1) % ws.length]'hm:=⟨_,rfl⟩
     have HY:Hid (qCw i ws d=y):=by rw[hxe];exact nextP_at HF.out HR.out
     obtain⟨bb2,off2,hao2,_,hcy⟩:=X2.out _ hm
     rw[←hxe]at hcy
     obtain⟨rfl,rfl⟩:bb2=bb∧off2=off:=by rw[hao]at hao2;simp at hao2;exact⟨hao2.1.symm,hao2.2.symm⟩
     subst hao
     subst he
     have e2:=nx_mod hlt hl
     have j0:(0:Int)≤(((k+1) % ws.length:Nat):Int):=by omega
     have j1:(((k+1) % ws.length:Nat):Int)<(ws.length:Int):=by omega
     have hnz: ¬(ws.length:Int)=0:=by omega
     have hnz2: ¬ws.length=0:=by omega
     have hnz3: ¬ws=[]:=by intro h;rw[h]at hlt;simp at hlt
     have HBB:Hid (Below w.heap.size w wr):=H2
     clear hbb ht hxe hao2 HF HV hnu X2 T2 H2
     generalize hmm:(k+1) % ws.length=mm at *
     clear hmm
     go_wp2_with fail
     go_quiet (fail)
     go_wp2_with fail
     go_ret
     exact⟨by rw[HY.out];rfl,qAx HBB.out _⟩
    ·have HE:Hid (¬x=d):=he
     subst hao
     clear ht
     go_wp2_with fail
     go_roundw
     case rel=>exact⟨k+1,by omega,by go_num,(fun j hj h=>by
      by_cases e:j=k
      ·subst e;rw[←HV.out];exact HE.out
      ·exact hnu.out j hj (by omega)),(by first|exact True.intro|rfl)⟩
     case measure=>simp[intOf];omega
   ·obtain rfl:k=ws.length:=by omega
    go_wp2_with fail
    go_ret
    exact⟨by rw[nextP_none hnu.out];rfl,H2.out⟩
theorem qHw{w:World}{T:TypeId}{g i n cap:Nat}{h:Int}{ao:Option Addr}(hg:w.heap[g]? =some (.cells #[.slice ao n cap,.int .i64 i,.int .i64 h] T (0,0))):
  w.cell? ⟨g,0,none⟩=some (.slice ao n cap)∧w.cell? ⟨g,1,none⟩=some (.int .i64 i)∧w.cell? ⟨g,2,none⟩=some (.int .i64 h)∧(∀j,w.frozen? ⟨g,j,none⟩=false):=by
 refine⟨?_,?_,?_,fun j=>frozen_of_row w g j _ T hg⟩<;>rw[cell_of_row w g _ _ T (0,0) hg]<;>rfl
def Drw(w0 w:World)(B g:Nat)(ao:Option Addr)(n cap:Nat):Prop:=CurAt w 141 g ao n cap∧CodeAt w B ao n∧KeepBut g w0 w
theorem Drw.start{w:World}{B g n cap:Nat}{ao:Option Addr}(hc:CurAt w 141 g ao n cap)(hk:CodeAt w B ao n):Hid (Drw w w B g ao n cap):=⟨hc,hk,KeepBut.refl g w⟩
theorem CurAt.stays{w w':World}{B T g n cap:Nat}{ao:Option Addr}(h:CurAt w T g ao n cap)(hb:Below B w w')(hB:g<B):CurAt w' T g ao n cap:=by
 obtain⟨i,k,h1,h2⟩:=h
 exact⟨i,k,h1,(hb.block g hB).trans h2⟩
theorem byte_any(w0 w:World)(B g n cap:Nat)(ao:Option Addr)(hn:n≤1048576)(hB:B≤g)(hd:Hid (Drw w0 w B g ao n cap)):
  Calls Tryz.prog 117 #[.pointer (some ⟨g,0,none⟩)] w fun e w'=>(∃x:Nat,x<256∧e=.returned (.int .i64 x))∧Hid (Drw w0 w' B g ao n cap):=by
 suffices hh:Calls Tryz.prog 117 #[.pointer (some ⟨g,0,none⟩)] w fun e w'=>(∃x:Nat,x<256∧e=.returned (.int .i64 x))∧CurAt w' 141 g ao n cap∧TurnAt g w w' from
  hh.mono fun e w' h=>⟨h.1,(show Drw _ _ _ _ _ _ _ from⟨h.2.1,hd.out.2.1.stays (h.2.2.below hB) (Nat.le_refl _),hd.out.2.2.trans h.2.2.keep⟩)⟩
 obtain⟨i,h,hi,hg⟩:=hd.out.1
 obtain⟨c0,c1,c2,cf⟩:=qHw hg
 have hk:Hid (CodeAt w B ao n):=hd.out.2.1
 have cf0:=cf 0
 have cf1:=cf 1
 have cf2:=cf 2
 have HG:Hid (w.heap[g]? =some (.cells #[.slice ao n cap,.int .i64 i,.int .i64 h] 141 (0,0))):=hg
 clear hg cf hd
 by_cases h1:i<n
 ·obtain⟨b,off,z,rfl,hb,hz,hz0,hz1⟩:=hk.out i h1
  clear hk
  go_enter Tryz.func117,Tryz.ntmps117
  go_wp2
  generalize wrap64 (wrap64 (h * 6364136223846793005)+1442695040888963407)=h'
  have HG1:=heap_setCell_same w g 2 _ 141 (Value.int IntKind.i64 h') HG.out
  have HT1:=(TurnAt.refl g w).setCell 2 (Value.int IntKind.i64 h')
  have hz':=(HT1.below (B:=g) (Nat.le_refl _)).cell (p:=⟨b,off+i,none⟩) (show b<g by omega)
  rw[hz]at hz'
  generalize w.setCell ⟨g,2,none⟩ (Value.int IntKind.i64 h')=W at *
  obtain⟨d0,d1,d2,df⟩:=qHw HG1
  have df1:=df 1
  have HG2:Hid _:=HG1
  have HT2:Hid _:=HT1
  clear c0 c1 c2 cf0 cf1 cf2 HG hz HG1 HT1 df
  go_quiet (fail)
  go_wp2
  obtain⟨x,hx1,hx⟩:=and255 (bits BinOp.xor IntKind.i64 (h' / 8589934592) (h' / 35184372088832))
  rw[hx]
  clear hx
  have hlt:decide ((i:Int)<(n:Int))=true:=by simp;omega
  have hi0:(0:Int)≤(i:Int):=by omega
  have hi1:(i:Int)<(n:Int):=by omega
  have hwx:IntKind.i64.wrap ((x:Int)+z)=(x:Int)+z:=by rw[IntKind.wrap_i64];omega
  go_quiet (fail)
  go_wp2
  go_quiet (fail)
  go_wp2
  go_ret
  obtain⟨y,hy1,hy⟩:=and255 ((x:Int)+z)
  refine⟨⟨y,hy1,by rw[←hy];rfl⟩,⟨i+1,h',by omega,?_⟩,(HT2.out.drewN _).setCell 1 _⟩
  exact heap_setCell_same (W.drewN _) g 1 _ 141 (Value.int IntKind.i64 ((i:Int)+1)) HG2.out
 ·clear hk
  go_enter Tryz.func117,Tryz.ntmps117
  go_wp2
  generalize wrap64 (wrap64 (h * 6364136223846793005)+1442695040888963407)=h'
  have HG1:=heap_setCell_same w g 2 _ 141 (Value.int IntKind.i64 h') HG.out
  have HT1:=(TurnAt.refl g w).setCell 2 (Value.int IntKind.i64 h')
  generalize w.setCell ⟨g,2,none⟩ (Value.int IntKind.i64 h')=W at *
  obtain⟨d0,d1,d2,df⟩:=qHw HG1
  have HG2:Hid _:=HG1
  have HT2:Hid _:=HT1
  clear c0 c1 c2 cf0 cf1 cf2 HG HG1 HT1 df
  go_quiet (fail)
  go_wp2
  obtain⟨x,hx1,hx⟩:=and255 (bits BinOp.xor IntKind.i64 (h' / 8589934592) (h' / 35184372088832))
  rw[hx]
  clear hx
  have hlt:decide ((i:Int)<(n:Int))=false:=by simp;omega
  go_quiet (fail)
  go_wp2
  go_ret
  exact⟨⟨x,hx1,rfl⟩,⟨i,h',hi,HG2.out⟩,(HT2.out.drewN _).drewN _⟩
theorem qAw(w0 w:World)(B g n cap m:Nat)(ao:Option Addr)(hn:n≤1048576)(hB:B≤g)(hm0:0<m)(hm:m≤256)(hd:Hid (Drw w0 w B g ao n cap)):
  Calls Tryz.prog 50 #[.pointer (some ⟨g,0,none⟩),.int .i64 m] w fun e w'=>(∃x:Nat,x<m∧e=.returned (.int .i64 x))∧Hid (Drw w0 w' B g ao n cap):=by
 go_enter Tryz.func50,Tryz.ntmps50
 go_wp2_with (first|(go_at_call 117;refine(byte_any w0 _ B g n cap ao hn hB (by assumption)).mono ?_;rintro e w1 ⟨⟨x,hx,rfl⟩,hd1⟩))
 go_ret
 exact⟨⟨x % m,Nat.mod_lt _ hm0,rfl⟩,hd1⟩
theorem new_any(w:World)(n cap:Nat)(ao:Option Addr)(hn:n≤1048576)(hk:Hid (CodeAt w w.heap.size ao n)):
  Calls Tryz.prog 46 #[.slice ao n cap] w fun e w'=>e=.returned (.pointer (some ⟨w.heap.size,0,none⟩))∧Hid (CurAt w' 141 w.heap.size ao n cap)∧Below w.heap.size w w'∧w'.heap.size=w.heap.size+1:=by
 go_enter Tryz.func46,Tryz.ntmps46
 go_wp2
 go_loop [3,4] (fun v i=>∃(h:Int) (k:Nat),v=.int .i64 h∧i=.int .i64 k∧k≤n) (fun _ i=>n - (intOf i).toNat)
 case atStart=>exact⟨_,0,rfl,rfl,by omega⟩
 case round=>
  obtain⟨h,k,rfl,rfl,hkn⟩:=hrel
  by_cases h1:k<n
  ·by_cases h2:k<4000
   ·obtain⟨b,off,z,rfl,hb,hz,hz0,hz1⟩:=hk.out k h1
    go_wp2
    go_round
    case rel=>exact⟨_,k+1,rfl,by go_num,by omega⟩
    case measure=>simp[intOf];omega
   ·go_wp2
    go_ret
    exact⟨rfl,(show CurAt _ _ _ _ _ _ from⟨0,h,by omega,heap_alloc_new w _⟩),(Below.refl _ _).alloc (Nat.le_refl _) _,by simp⟩
  ·go_wp2
   go_ret
   exact⟨rfl,(show CurAt _ _ _ _ _ _ from⟨0,h,by omega,heap_alloc_new w _⟩),(Below.refl _ _).alloc (Nat.le_refl _) _,by simp⟩
theorem Drw.lt{w0 w:World}{B g n cap:Nat}{ao:Option Addr}(h:Drw w0 w B g ao n cap):g<w.heap.size:=by
 obtain⟨i,k,_,h2⟩:=h.1
 exact(Array.getElem?_eq_some_iff.1 h2).1
theorem Drw.step{w0 w w':World}{B g n cap:Nat}{ao:Option Addr}(h:Drw w0 w B g ao n cap)(hB:B≤g)(hb:Below w.heap.size w w'):Drw w0 w' B g ao n cap:=
 have hlt:=h.lt
 ⟨CurAt.stays h.1 hb hlt,h.2.1.stays hb (by omega),h.2.2.trans (qAc hb)⟩
theorem Drw.alloc{w0 w:World}{B g n cap:Nat}{ao:Option Addr}(h:Drw w0 w B g ao n cap)(hB:B≤g)(o:Obj):Drw w0 (w.alloc o) B g ao n cap:=h.step hB ((Below.refl _ _).alloc (Nat.le_refl _) _)
theorem qKp(w0 w:World)(B g n cap m:Nat)(ao:Option Addr)(hn:n≤1048576)(hB:B≤g)(hm0:0<m)(hm:m≤256)(hd:Hid (Drw w0 w B g ao n cap)):
  Calls Tryz.prog 49 #[.pointer (some ⟨g,0,none⟩),.int .i64 m] w fun e w'=>(∃b:Bool,e=.returned (.bool b))∧Hid (Drw w0 w' B g ao n cap):=by
 go_enter Tryz.func49,Tryz.ntmps49
 go_wp2_with (first|(go_at_call 50;refine(qAw w0 _ B g n cap m ao hn hB hm0 hm (by assumption)).mono ?_;rintro e w1 ⟨⟨x,hx,rfl⟩,hd1⟩))
 go_ret
 exact⟨⟨_,rfl⟩,hd1⟩
theorem big_any(w:World)(n cap:Nat)(ao:Option Addr)(b:Bool)(hb:decide (1048576<(n:Int))=b):
  Calls Tryz.prog 9 #[.slice ao n cap] w fun e w'=>e=.returned (.bool b)∧w'=w:=by
 go_enter Tryz.func9,Tryz.ntmps9
 go_wp2
 go_ret
 exact⟨by rw[←hb];rfl,rfl⟩
end Go.Proofs.YthdjkkiegecgnaaGreat
