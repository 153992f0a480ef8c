/- Joined texts: CT1 CT3 CIt. -/
import Derived.Test.YthdjkkiegecgnaaGreatOq2
import Derived.Test.YthdjkkiegecgnaaGreatOq3
import Derived.Test.YthdjkkiegecgnaaGreatOq1
import Derived.Deep.RegionHeld3
import Derived.Deep.QuietTactic
import Derived.Laws.MakeOwn
import Derived.Below
set_option maxRecDepth 100000
set_option maxHeartbeats 16000000
namespace Go.Proofs.YthdjkkiegecgnaaGreat
open Go.RowKit Pl
set_option linter.unusedVariables false
theorem qAx{B:Nat}{a w:World}(h:Below B a w)(n:Nat):Below B a (w.drewN n):=h.trans ⟨rfl,rfl,rfl,Nat.le_refl _,fun _ _=>rfl⟩
theorem wants_any(ao:Option Addr)(cap:Nat)(ws:List Int)(q:Int)(w:World)(hx:Hid (IntsAt w ao ws))(hl:ws.length≤1048576):
  Calls Tryz.prog 76 #[.slice ao ws.length cap,.int .i64 q] w fun e w'=>e=.returned (.bool (wB ws q))∧w'=w:=by
 unfold wB
 by_cases h20:20<ws.length
 ·have hd:decide ((ws.length:Int)≤20)=false:=by simp;omega
  rw[hd]
  go_enter Tryz.func76,Tryz.ntmps76
  go_wp2
  go_ret
  exact⟨rfl,rfl⟩
 have hd:decide ((ws.length:Int)≤20)=true:=by simp;omega
 rw[hd,Bool.true_and]
 clear hd
 go_enter Tryz.func76,Tryz.ntmps76
 go_wp2
 go_loop [5,13] (fun L i=>∃(k:Nat) (l:Int),k≤ws.length∧L=.int .i64 l∧i=.int .i64 k∧Hid (WSt ws q k l)) (fun _ i=>ws.length - (intOf i).toNat)
 case atStart=>exact⟨0,0,Nat.zero_le _,rfl,rfl,qFk ws q⟩
 case round=>
  obtain⟨k,l,hk,rfl,rfl,hst⟩:=hrel
  by_cases hlt:k<ws.length
  ·obtain⟨b,off,rfl,hbb,hc⟩:=hx.out k hlt
   obtain⟨x,ht⟩: ∃x,x=ws[k]:=⟨_,rfl⟩
   rw[←ht]at hc
   have HT:Hid (x=ws[k]):=ht
   clear ht
   by_cases h1:x≤l
   ·go_wp2
    go_ret
    exact⟨by rw[qDn hst.out hlt HT.out (.inl h1)];rfl,rfl⟩
   ·by_cases h2:q<x
    ·go_wp2
     go_ret
     exact⟨by rw[qDn hst.out hlt HT.out (.inr h2)];simp,rfl⟩
    ·go_wp2
     go_round
     case rel=>exact⟨k+1,x,by omega,rfl,by go_num,qEr hst.out hlt HT.out (by omega) (by omega)⟩
     case measure=>simp[intOf];omega
  ·go_wp2
   go_ret
   exact⟨by rw[qKf hst.out (by omega)];rfl,rfl⟩
def TokAt(w:World)(g:Nat)(c r q a b:Int)(v:Value):Prop:=w.heap[g]? =some (.cells #[.int .i64 c,.int .i64 r,.int .i64 q,.int .i64 a,.int .i64 b,v] 30 (0,0))
theorem TokAt.cells{w:World}{g:Nat}{c r q a b:Int}{v:Value}(h:TokAt w g c r q a b v):w.cell? ⟨g,0,none⟩=some (.int .i64 c)∧w.cell? ⟨g,1,none⟩=some (.int .i64 r)∧w.cell? ⟨g,2,none⟩=some (.int .i64 q)∧w.cell? ⟨g,3,none⟩=some (.int .i64 a)∧w.cell? ⟨g,4,none⟩=some (.int .i64 b)∧w.cell? ⟨g,5,none⟩=some v:=
 ⟨by rw[cell_of_row w g 0 _ 30 (0,0) h];rfl,by rw[cell_of_row w g 1 _ 30 (0,0) h];rfl,by rw[cell_of_row w g 2 _ 30 (0,0) h];rfl,by rw[cell_of_row w g 3 _ 30 (0,0) h];rfl,by rw[cell_of_row w g 4 _ 30 (0,0) h];rfl,by rw[cell_of_row w g 5 _ 30 (0,0) h];rfl⟩
theorem TokAt.stays{w w':World}{B g:Nat}{c r q a b:Int}{v:Value}(h:TokAt w g c r q a b v)(hb:Below B w w')(hg:g<B):TokAt w' g c r q a b v:=(hb.block g hg).trans h
theorem TokAt.lt{w:World}{g:Nat}{c r q a b:Int}{v:Value}(h:TokAt w g c r q a b v):g<w.heap.size:=(Array.getElem?_eq_some_iff.1 h).1
theorem TokAt.frozen{w:World}{g:Nat}{c r q a b:Int}{v:Value}(h:TokAt w g c r q a b v)(i:Nat):w.frozen? ⟨g,i,none⟩=false:=frozen_of_row w g i _ 30 h
theorem tokenOk_0(c r q a b:Int)(ao:Option Addr)(cap:Nat)(ws:List Int)(w:World)(h1:decide (1≤c∧c≤9)=false):
  Calls Tryz.prog 15 #[.agg #[.int .i64 c,.int .i64 r,.int .i64 q,.int .i64 a,.int .i64 b,.slice ao ws.length cap]] w fun e w'=>e=.returned (.bool false)∧Below w.heap.size w w':=by
 go_enter Tryz.func15,Tryz.ntmps15
 go_wp2_with fail
 refine(qAi _ h1).mono ?_
 rintro e w1 ⟨rfl,rfl⟩
 go_wp2_with fail
 go_ret
 exact⟨rfl,(Below.refl _ _).alloc (Nat.le_refl _) _⟩
theorem tokenOk_1(c r q a b:Int)(ao:Option Addr)(cap:Nat)(ws:List Int)(w:World)(h1:decide (1≤c∧c≤9)=true)(h2:decide (1≤r∧r≤1000000000)=false):
  Calls Tryz.prog 15 #[.agg #[.int .i64 c,.int .i64 r,.int .i64 q,.int .i64 a,.int .i64 b,.slice ao ws.length cap]] w fun e w'=>e=.returned (.bool false)∧Below w.heap.size w w':=by
 go_enter Tryz.func15,Tryz.ntmps15
 go_wp2_with fail
 refine(qAi _ h1).mono ?_
 rintro e w1 ⟨rfl,rfl⟩
 go_wp2_with fail
 refine(qAi _ h2).mono ?_
 rintro e w1 ⟨rfl,rfl⟩
 go_wp2_with fail
 go_ret
 exact⟨rfl,(Below.refl _ _).alloc (Nat.le_refl _) _⟩
theorem tokenOk_2(c r q a b:Int)(ao:Option Addr)(cap:Nat)(ws:List Int)(w:World)(h1:decide (1≤c∧c≤9)=true)(h2:decide (1≤r∧r≤1000000000)=true)(h3:decide (0≤q∧q≤60)=false):
  Calls Tryz.prog 15 #[.agg #[.int .i64 c,.int .i64 r,.int .i64 q,.int .i64 a,.int .i64 b,.slice ao ws.length cap]] w fun e w'=>e=.returned (.bool false)∧Below w.heap.size w w':=by
 go_enter Tryz.func15,Tryz.ntmps15
 go_wp2_with fail
 refine(qAi _ h1).mono ?_
 rintro e w1 ⟨rfl,rfl⟩
 go_wp2_with fail
 refine(qAi _ h2).mono ?_
 rintro e w1 ⟨rfl,rfl⟩
 go_wp2_with fail
 refine(qAi _ h3).mono ?_
 rintro e w1 ⟨rfl,rfl⟩
 go_wp2_with fail
 go_ret
 exact⟨rfl,(Below.refl _ _).alloc (Nat.le_refl _) _⟩
theorem tokenOk_3(c r q a b:Int)(ao:Option Addr)(cap:Nat)(ws:List Int)(w:World)(h1:decide (1≤c∧c≤9)=true)(h2:decide (1≤r∧r≤1000000000)=true)(h3:decide (0≤q∧q≤60)=true)(h4:decide (0≤a∧a≤q)=false):
  Calls Tryz.prog 15 #[.agg #[.int .i64 c,.int .i64 r,.int .i64 q,.int .i64 a,.int .i64 b,.slice ao ws.length cap]] w fun e w'=>e=.returned (.bool false)∧Below w.heap.size w w':=by
 go_enter Tryz.func15,Tryz.ntmps15
 go_wp2_with fail
 refine(qAi _ h1).mono ?_
 rintro e w1 ⟨rfl,rfl⟩
 go_wp2_with fail
 refine(qAi _ h2).mono ?_
 rintro e w1 ⟨rfl,rfl⟩
 go_wp2_with fail
 refine(qAi _ h3).mono ?_
 rintro e w1 ⟨rfl,rfl⟩
 go_wp2_with fail
 refine(qAi _ h4).mono ?_
 rintro e w1 ⟨rfl,rfl⟩
 go_wp2_with fail
 go_ret
 exact⟨rfl,(Below.refl _ _).alloc (Nat.le_refl _) _⟩
theorem tokenOk_4(c r q a b:Int)(ao:Option Addr)(cap:Nat)(ws:List Int)(w:World)(h1:decide (1≤c∧c≤9)=true)(h2:decide (1≤r∧r≤1000000000)=true)(h3:decide (0≤q∧q≤60)=true)(h4:decide (0≤a∧a≤q)=true)(h5:decide (0≤b∧b≤5)=false):
  Calls Tryz.prog 15 #[.agg #[.int .i64 c,.int .i64 r,.int .i64 q,.int .i64 a,.int .i64 b,.slice ao ws.length cap]] w fun e w'=>e=.returned (.bool false)∧Below w.heap.size w w':=by
 go_enter Tryz.func15,Tryz.ntmps15
 go_wp2_with fail
 refine(qAi _ h1).mono ?_
 rintro e w1 ⟨rfl,rfl⟩
 go_wp2_with fail
 refine(qAi _ h2).mono ?_
 rintro e w1 ⟨rfl,rfl⟩
 go_wp2_with fail
 refine(qAi _ h3).mono ?_
 rintro e w1 ⟨rfl,rfl⟩
 go_wp2_with fail
 refine(qAi _ h4).mono ?_
 rintro e w1 ⟨rfl,rfl⟩
 go_wp2_with fail
 refine(qAi _ h5).mono ?_
 rintro e w1 ⟨rfl,rfl⟩
 go_wp2_with fail
 go_ret
 exact⟨rfl,(Below.refl _ _).alloc (Nat.le_refl _) _⟩
theorem tokenOk_5(c r q a b:Int)(ao:Option Addr)(cap:Nat)(ws:List Int)(w:World)(hx:Hid (IntsAt w ao ws))(hl:ws.length≤1048576)(h1:decide (1≤c∧c≤9)=true)(h2:decide (1≤r∧r≤1000000000)=true)(h3:decide (0≤q∧q≤60)=true)(h4:decide (0≤a∧a≤q)=true)(h5:decide (0≤b∧b≤5)=true):
  Calls Tryz.prog 15 #[.agg #[.int .i64 c,.int .i64 r,.int .i64 q,.int .i64 a,.int .i64 b,.slice ao ws.length cap]] w fun e w'=>e=.returned (.bool (wB ws q))∧Below w.heap.size w w':=by
 have HX: ∀o,Hid (IntsAt (w.alloc o) ao ws):=fun o=>hx.out.stays ((Below.refl _ _).alloc (Nat.le_refl _) _)
 go_enter Tryz.func15,Tryz.ntmps15
 go_wp2_with fail
 refine(qAi _ h1).mono ?_
 rintro e w1 ⟨rfl,rfl⟩
 go_wp2_with fail
 refine(qAi _ h2).mono ?_
 rintro e w1 ⟨rfl,rfl⟩
 go_wp2_with fail
 refine(qAi _ h3).mono ?_
 rintro e w1 ⟨rfl,rfl⟩
 go_wp2_with fail
 refine(qAi _ h4).mono ?_
 rintro e w1 ⟨rfl,rfl⟩
 go_wp2_with fail
 refine(qAi _ h5).mono ?_
 rintro e w1 ⟨rfl,rfl⟩
 go_wp2_with fail
 refine(wants_any ao cap ws q _ (HX _) hl).mono ?_
 rintro e w1 ⟨rfl,rfl⟩
 go_wp2_with fail
 go_ret
 exact⟨rfl,(Below.refl _ _).alloc (Nat.le_refl _) _⟩
theorem qBv(c r q a b:Int)(ao:Option Addr)(cap:Nat)(ws:List Int)(w:World)(hx:Hid (IntsAt w ao ws))(hl:ws.length≤1048576):
  Calls Tryz.prog 15 #[.agg #[.int .i64 c,.int .i64 r,.int .i64 q,.int .i64 a,.int .i64 b,.slice ao ws.length cap]] w fun e w'=>e=.returned (.bool (tkB c r q a b ws))∧Below w.heap.size w w':=by
 unfold tkB
 cases h1:decide (1≤c∧c≤9)with
 |false=>exact tokenOk_0 c r q a b ao cap ws w h1
 |true=>
  cases h2:decide (1≤r∧r≤1000000000)with
  |false=>exact tokenOk_1 c r q a b ao cap ws w h1 h2
  |true=>
   cases h3:decide (0≤q∧q≤60)with
   |false=>exact tokenOk_2 c r q a b ao cap ws w h1 h2 h3
   |true=>
    cases h4:decide (0≤a∧a≤q)with
    |false=>exact tokenOk_3 c r q a b ao cap ws w h1 h2 h3 h4
    |true=>
     cases h5:decide (0≤b∧b≤5)with
     |false=>exact tokenOk_4 c r q a b ao cap ws w h1 h2 h3 h4 h5
     |true=>exact tokenOk_5 c r q a b ao cap ws w hx hl h1 h2 h3 h4 h5
theorem spTokenOk_0(c r q a b:Int)(ao:Option Addr)(cap:Nat)(ws:List Int)(w:World)(h1:decide (1≤c∧c≤9)=false):
  Calls Tryz.prog 63 #[.agg #[.int .i64 c,.int .i64 r,.int .i64 q,.int .i64 a,.int .i64 b,.slice ao ws.length cap]] w fun e w'=>e=.returned (.bool false)∧Below w.heap.size w w':=by
 go_enter Tryz.func63,Tryz.ntmps63
 go_wp2_with fail
 refine(qBb _ h1).mono ?_
 rintro e w1 ⟨rfl,rfl⟩
 go_wp2_with fail
 go_ret
 exact⟨rfl,(Below.refl _ _).alloc (Nat.le_refl _) _⟩
theorem spTokenOk_1(c r q a b:Int)(ao:Option Addr)(cap:Nat)(ws:List Int)(w:World)(h1:decide (1≤c∧c≤9)=true)(h2:decide (1≤r∧r≤1000000000)=false):
  Calls Tryz.prog 63 #[.agg #[.int .i64 c,.int .i64 r,.int .i64 q,.int .i64 a,.int .i64 b,.slice ao ws.length cap]] w fun e w'=>e=.returned (.bool false)∧Below w.heap.size w w':=by
 go_enter Tryz.func63,Tryz.ntmps63
 go_wp2_with fail
 refine(qBb _ h1).mono ?_
 rintro e w1 ⟨rfl,rfl⟩
 go_wp2_with fail
 refine(qBb _ h2).mono ?_
 rintro e w1 ⟨rfl,rfl⟩
 go_wp2_with fail
 go_ret
 exact⟨rfl,(Below.refl _ _).alloc (Nat.le_refl _) _⟩
theorem spTokenOk_2(c r q a b:Int)(ao:Option Addr)(cap:Nat)(ws:List Int)(w:World)(h1:decide (1≤c∧c≤9)=true)(h2:decide (1≤r∧r≤1000000000)=true)(h3:decide (0≤q∧q≤60)=false):
  Calls Tryz.prog 63 #[.agg #[.int .i64 c,.int .i64 r,.int .i64 q,.int .i64 a,.int .i64 b,.slice ao ws.length cap]] w fun e w'=>e=.returned (.bool false)∧Below w.heap.size w w':=by
 go_enter Tryz.func63,Tryz.ntmps63
 go_wp2_with fail
 refine(qBb _ h1).mono ?_
 rintro e w1 ⟨rfl,rfl⟩
 go_wp2_with fail
 refine(qBb _ h2).mono ?_
 rintro e w1 ⟨rfl,rfl⟩
 go_wp2_with fail
 refine(qBb _ h3).mono ?_
 rintro e w1 ⟨rfl,rfl⟩
 go_wp2_with fail
 go_ret
 exact⟨rfl,(Below.refl _ _).alloc (Nat.le_refl _) _⟩
theorem spTokenOk_3(c r q a b:Int)(ao:Option Addr)(cap:Nat)(ws:List Int)(w:World)(h1:decide (1≤c∧c≤9)=true)(h2:decide (1≤r∧r≤1000000000)=true)(h3:decide (0≤q∧q≤60)=true)(h4:decide (0≤a∧a≤q)=false):
  Calls Tryz.prog 63 #[.agg #[.int .i64 c,.int .i64 r,.int .i64 q,.int .i64 a,.int .i64 b,.slice ao ws.length cap]] w fun e w'=>e=.returned (.bool false)∧Below w.heap.size w w':=by
 go_enter Tryz.func63,Tryz.ntmps63
 go_wp2_with fail
 refine(qBb _ h1).mono ?_
 rintro e w1 ⟨rfl,rfl⟩
 go_wp2_with fail
 refine(qBb _ h2).mono ?_
 rintro e w1 ⟨rfl,rfl⟩
 go_wp2_with fail
 refine(qBb _ h3).mono ?_
 rintro e w1 ⟨rfl,rfl⟩
 go_wp2_with fail
 refine(qBb _ h4).mono ?_
 rintro e w1 ⟨rfl,rfl⟩
 go_wp2_with fail
 go_ret
 exact⟨rfl,(Below.refl _ _).alloc (Nat.le_refl _) _⟩
theorem spTokenOk_4(c r q a b:Int)(ao:Option Addr)(cap:Nat)(ws:List Int)(w:World)(h1:decide (1≤c∧c≤9)=true)(h2:decide (1≤r∧r≤1000000000)=true)(h3:decide (0≤q∧q≤60)=true)(h4:decide (0≤a∧a≤q)=true)(h5:decide (0≤b∧b≤5)=false):
  Calls Tryz.prog 63 #[.agg #[.int .i64 c,.int .i64 r,.int .i64 q,.int .i64 a,.int .i64 b,.slice ao ws.length cap]] w fun e w'=>e=.returned (.bool false)∧Below w.heap.size w w':=by
 go_enter Tryz.func63,Tryz.ntmps63
 go_wp2_with fail
 refine(qBb _ h1).mono ?_
 rintro e w1 ⟨rfl,rfl⟩
 go_wp2_with fail
 refine(qBb _ h2).mono ?_
 rintro e w1 ⟨rfl,rfl⟩
 go_wp2_with fail
 refine(qBb _ h3).mono ?_
 rintro e w1 ⟨rfl,rfl⟩
 go_wp2_with fail
 refine(qBb _ h4).mono ?_
 rintro e w1 ⟨rfl,rfl⟩
 go_wp2_with fail
 refine(qBb _ h5).mono ?_
 rintro e w1 ⟨rfl,rfl⟩
 go_wp2_with fail
 go_ret
 exact⟨rfl,(Below.refl _ _).alloc (Nat.le_refl _) _⟩
theorem spTokenOk_6(c r q a b:Int)(ao:Option Addr)(cap:Nat)(ws:List Int)(w:World)(h20:20<ws.length)(h1:decide (1≤c∧c≤9)=true)(h2:decide (1≤r∧r≤1000000000)=true)(h3:decide (0≤q∧q≤60)=true)(h4:decide (0≤a∧a≤q)=true)(h5:decide (0≤b∧b≤5)=true):
  Calls Tryz.prog 63 #[.agg #[.int .i64 c,.int .i64 r,.int .i64 q,.int .i64 a,.int .i64 b,.slice ao ws.length cap]] w fun e w'=>e=.returned (.bool false)∧Below w.heap.size w w':=by
 go_enter Tryz.func63,Tryz.ntmps63
 go_wp2_with fail
 refine(qBb _ h1).mono ?_
 rintro e w1 ⟨rfl,rfl⟩
 go_wp2_with fail
 refine(qBb _ h2).mono ?_
 rintro e w1 ⟨rfl,rfl⟩
 go_wp2_with fail
 refine(qBb _ h3).mono ?_
 rintro e w1 ⟨rfl,rfl⟩
 go_wp2_with fail
 refine(qBb _ h4).mono ?_
 rintro e w1 ⟨rfl,rfl⟩
 go_wp2_with fail
 refine(qBb _ h5).mono ?_
 rintro e w1 ⟨rfl,rfl⟩
 go_wp2_with fail
 go_ret
 exact⟨rfl,(Below.refl _ _).alloc (Nat.le_refl _) _⟩
theorem Tryz.info3':(Tryz.prog.info? 3).map (fun i=>(i.zero,i.size,i.bytes))=some (some (.int .i64 0),1,8):=by kernel_rfl
theorem TokAt.set5{w:World}{g:Nat}{c r q a b:Int}{v:Value}(h:TokAt w g c r q a b v)(u:Value):TokAt (w.setCell ⟨g,5,none⟩ u) g c r q a b u:=by
 have:=heap_setCell_same w g 5 _ 30 u h
 unfold TokAt;rw[this];rfl
theorem TokAt.turn{w w':World}{g k:Nat}{c r q a b:Int}{v:Value}(h:TokAt w g c r q a b v)(hk:TurnAt k w w')(hg:g≠k):TokAt w' g c r q a b v:=(hk.block g hg).trans h
theorem TokAt.agg{w:World}{g:Nat}{c r q a b:Int}{v:Value}(h:TokAt w g c r q a b v)(c' r' q' a' b':Int)(v':Value):
  TokAt ((((((w.setCell ⟨g,0,none⟩ (.int .i64 c')).setCell ⟨g,1,none⟩ (.int .i64 r')).setCell ⟨g,2,none⟩ (.int .i64 q')).setCell ⟨g,3,none⟩ (.int .i64 a')).setCell ⟨g,4,none⟩ (.int .i64 b')).setCell ⟨g,5,none⟩ v') g c' r' q' a' b' v':=by
 have h0:=heap_setCell_same w g 0 _ 30 (.int .i64 c') h
 have h1:=heap_setCell_same _ g 1 _ 30 (.int .i64 r') h0
 have h2:=heap_setCell_same _ g 2 _ 30 (.int .i64 q') h1
 have h3:=heap_setCell_same _ g 3 _ 30 (.int .i64 a') h2
 have h4:=heap_setCell_same _ g 4 _ 30 (.int .i64 b') h3
 have h5:=heap_setCell_same _ g 5 _ 30 v' h4
 unfold TokAt;rw[h5];rfl
theorem qAg{w w':World}{B g:Nat}{v:Value}{xs:List Int}{c r q a b:Int}{u:Value}(h:OwnI w B v xs)(hu:TokAt w g c r q a b u)(ht:TurnAt g w w'):OwnI w' B v xs:=by
 refine⟨h.1,?_⟩
 rcases h.2 with hn|⟨k,cap,cur,rfl,hbg,hk,rest⟩
 ·exact .inl hn
 ·have hne:k≠g:=by
   rintro rfl
   unfold TokAt at hu
   rw[hk]at hu
   simp at hu
  exact .inr ⟨k,cap,cur,rfl,hbg,(ht.block k hne).trans hk,rest⟩
end Go.Proofs.YthdjkkiegecgnaaGreat
namespace Go.Proofs.YthdjkkiegecgnaaGreat.Pl
def ItOk(q f l:Int)(t:ByteArray):Prop:=(1≤q∧q≤60)∧(1≤f∧f≤5)∧(1≤l∧l≤2)∧t.size≤60
end Go.Proofs.YthdjkkiegecgnaaGreat.Pl
namespace Go.Proofs.YthdjkkiegecgnaaGreat
open Go.RowKit Pl
set_option linter.unusedVariables false
def itB(q f l:Int)(t:ByteArray):Bool:=decide (1≤q∧q≤60)&&(decide (1≤f∧f≤5)&&(decide (1≤l∧l≤2)&&decide ((t.size:Int)≤60)))
theorem itB_true{q f l:Int}{t:ByteArray}:itB q f l t=true↔ItOk q f l t:=by
 unfold itB ItOk
 simp only[Bool.and_eq_true,decide_eq_true_eq]
 omega
theorem itemOk_0(q f l:Int)(t:ByteArray)(w:World)(h1:decide (1≤q∧q≤60)=false):
  Calls Tryz.prog 78 #[.agg #[.int .i64 q,.int .i64 f,.int .i64 l,.string t]] w fun e w'=>e=.returned (.bool (false))∧Below w.heap.size w w':=by
 go_enter Tryz.func78,Tryz.ntmps78
 go_wp2_with fail
 refine(qAi _ h1).mono ?_
 rintro e w1 ⟨rfl,rfl⟩
 go_wp2_with fail
 go_ret
 exact⟨rfl,(Below.refl _ _).alloc (Nat.le_refl _) _⟩
theorem itemOk_1(q f l:Int)(t:ByteArray)(w:World)(h1:decide (1≤q∧q≤60)=true)(h2:decide (1≤f∧f≤5)=false):
  Calls Tryz.prog 78 #[.agg #[.int .i64 q,.int .i64 f,.int .i64 l,.string t]] w fun e w'=>e=.returned (.bool (false))∧Below w.heap.size w w':=by
 go_enter Tryz.func78,Tryz.ntmps78
 go_wp2_with fail
 refine(qAi _ h1).mono ?_
 rintro e w1 ⟨rfl,rfl⟩
 go_wp2_with fail
 refine(qAi _ h2).mono ?_
 rintro e w1 ⟨rfl,rfl⟩
 go_wp2_with fail
 go_ret
 exact⟨rfl,(Below.refl _ _).alloc (Nat.le_refl _) _⟩
theorem itemOk_2(q f l:Int)(t:ByteArray)(w:World)(h1:decide (1≤q∧q≤60)=true)(h2:decide (1≤f∧f≤5)=true)(h3: ¬l=1)(h4: ¬l=2):
  Calls Tryz.prog 78 #[.agg #[.int .i64 q,.int .i64 f,.int .i64 l,.string t]] w fun e w'=>e=.returned (.bool (false))∧Below w.heap.size w w':=by
 go_enter Tryz.func78,Tryz.ntmps78
 go_wp2_with fail
 refine(qAi _ h1).mono ?_
 rintro e w1 ⟨rfl,rfl⟩
 go_wp2_with fail
 refine(qAi _ h2).mono ?_
 rintro e w1 ⟨rfl,rfl⟩
 go_wp2_with fail
 go_ret
 exact⟨rfl,(Below.refl _ _).alloc (Nat.le_refl _) _⟩
theorem itemOk_3(q f l:Int)(t:ByteArray)(w:World)(h1:decide (1≤q∧q≤60)=true)(h2:decide (1≤f∧f≤5)=true)(h3:l=1):
  Calls Tryz.prog 78 #[.agg #[.int .i64 q,.int .i64 f,.int .i64 l,.string t]] w fun e w'=>e=.returned (.bool (decide ((t.size:Int)≤60)))∧Below w.heap.size w w':=by
 go_enter Tryz.func78,Tryz.ntmps78
 go_wp2_with fail
 refine(qAi _ h1).mono ?_
 rintro e w1 ⟨rfl,rfl⟩
 go_wp2_with fail
 refine(qAi _ h2).mono ?_
 rintro e w1 ⟨rfl,rfl⟩
 go_wp2_with fail
 go_ret
 exact⟨rfl,(Below.refl _ _).alloc (Nat.le_refl _) _⟩
theorem itemOk_4(q f l:Int)(t:ByteArray)(w:World)(h1:decide (1≤q∧q≤60)=true)(h2:decide (1≤f∧f≤5)=true)(h3: ¬l=1)(h4:l=2):
  Calls Tryz.prog 78 #[.agg #[.int .i64 q,.int .i64 f,.int .i64 l,.string t]] w fun e w'=>e=.returned (.bool (decide ((t.size:Int)≤60)))∧Below w.heap.size w w':=by
 go_enter Tryz.func78,Tryz.ntmps78
 go_wp2_with fail
 refine(qAi _ h1).mono ?_
 rintro e w1 ⟨rfl,rfl⟩
 go_wp2_with fail
 refine(qAi _ h2).mono ?_
 rintro e w1 ⟨rfl,rfl⟩
 go_wp2_with fail
 go_ret
 exact⟨rfl,(Below.refl _ _).alloc (Nat.le_refl _) _⟩
theorem itemOk_any(q f l:Int)(t:ByteArray)(w:World):
  Calls Tryz.prog 78 #[.agg #[.int .i64 q,.int .i64 f,.int .i64 l,.string t]] w fun e w'=>e=.returned (.bool (itB q f l t))∧Below w.heap.size w w':=by
 unfold itB
 cases h1:decide (1≤q∧q≤60)with
 |false=>exact itemOk_0 q f l t w h1
 |true=>
  cases h2:decide (1≤f∧f≤5)with
  |false=>exact itemOk_1 q f l t w h1 h2
  |true=>
   by_cases h3:l=1
   ·have h5:decide (1≤l∧l≤2)=true:=by simp;omega
    rw[h5]
    exact itemOk_3 q f l t w h1 h2 h3
   ·by_cases h4:l=2
    ·have h5:decide (1≤l∧l≤2)=true:=by simp;omega
     rw[h5]
     exact itemOk_4 q f l t w h1 h2 h3 h4
    ·have h5:decide (1≤l∧l≤2)=false:=by simp;omega
     rw[h5]
     exact itemOk_2 q f l t w h1 h2 h3 h4
theorem spItemOk_0(q f l:Int)(t:ByteArray)(w:World)(h1:decide (1≤q∧q≤60)=false):
  Calls Tryz.prog 20 #[.agg #[.int .i64 q,.int .i64 f,.int .i64 l,.string t]] w fun e w'=>e=.returned (.bool (false))∧Below w.heap.size w w':=by
 go_enter Tryz.func20,Tryz.ntmps20
 go_wp2_with fail
 refine(qBb _ h1).mono ?_
 rintro e w1 ⟨rfl,rfl⟩
 go_wp2_with fail
 go_ret
 exact⟨rfl,(Below.refl _ _).alloc (Nat.le_refl _) _⟩
theorem spItemOk_1(q f l:Int)(t:ByteArray)(w:World)(h1:decide (1≤q∧q≤60)=true)(h2:decide (1≤f∧f≤5)=false):
  Calls Tryz.prog 20 #[.agg #[.int .i64 q,.int .i64 f,.int .i64 l,.string t]] w fun e w'=>e=.returned (.bool (false))∧Below w.heap.size w w':=by
 go_enter Tryz.func20,Tryz.ntmps20
 go_wp2_with fail
 refine(qBb _ h1).mono ?_
 rintro e w1 ⟨rfl,rfl⟩
 go_wp2_with fail
 refine(qBb _ h2).mono ?_
 rintro e w1 ⟨rfl,rfl⟩
 go_wp2_with fail
 go_ret
 exact⟨rfl,(Below.refl _ _).alloc (Nat.le_refl _) _⟩
theorem spItemOk_2(q f l:Int)(t:ByteArray)(w:World)(h1:decide (1≤q∧q≤60)=true)(h2:decide (1≤f∧f≤5)=true)(h3:decide (1≤l∧l≤2)=false):
  Calls Tryz.prog 20 #[.agg #[.int .i64 q,.int .i64 f,.int .i64 l,.string t]] w fun e w'=>e=.returned (.bool (false))∧Below w.heap.size w w':=by
 go_enter Tryz.func20,Tryz.ntmps20
 go_wp2_with fail
 refine(qBb _ h1).mono ?_
 rintro e w1 ⟨rfl,rfl⟩
 go_wp2_with fail
 refine(qBb _ h2).mono ?_
 rintro e w1 ⟨rfl,rfl⟩
 go_wp2_with fail
 refine(qBb _ h3).mono ?_
 rintro e w1 ⟨rfl,rfl⟩
 go_wp2_with fail
 go_ret
 exact⟨rfl,(Below.refl _ _).alloc (Nat.le_refl _) _⟩
theorem spItemOk_3(q f l:Int)(t:ByteArray)(w:World)(h1:decide (1≤q∧q≤60)=true)(h2:decide (1≤f∧f≤5)=true)(h3:decide (1≤l∧l≤2)=true):
  Calls Tryz.prog 20 #[.agg #[.int .i64 q,.int .i64 f,.int .i64 l,.string t]] w fun e w'=>e=.returned (.bool (decide ((t.size:Int)≤60)))∧Below w.heap.size w w':=by
 go_enter Tryz.func20,Tryz.ntmps20
 go_wp2_with fail
 refine(qBb _ h1).mono ?_
 rintro e w1 ⟨rfl,rfl⟩
 go_wp2_with fail
 refine(qBb _ h2).mono ?_
 rintro e w1 ⟨rfl,rfl⟩
 go_wp2_with fail
 refine(qBb _ h3).mono ?_
 rintro e w1 ⟨rfl,rfl⟩
 go_wp2_with fail
 go_ret
 exact⟨rfl,(Below.refl _ _).alloc (Nat.le_refl _) _⟩
theorem spItemOk_any(q f l:Int)(t:ByteArray)(w:World):
  Calls Tryz.prog 20 #[.agg #[.int .i64 q,.int .i64 f,.int .i64 l,.string t]] w fun e w'=>e=.returned (.bool (itB q f l t))∧Below w.heap.size w w':=by
 unfold itB
 cases h1:decide (1≤q∧q≤60)with
 |false=>exact spItemOk_0 q f l t w h1
 |true=>
  cases h2:decide (1≤f∧f≤5)with
  |false=>exact spItemOk_1 q f l t w h1 h2
  |true=>
   cases h3:decide (1≤l∧l≤2)with
   |false=>exact spItemOk_2 q f l t w h1 h2 h3
   |true=>exact spItemOk_3 q f l t w h1 h2 h3
def ItAt(w:World)(g:Nat)(q f l:Int)(t:ByteArray):Prop:=w.heap[g]? =some (.cells #[.int .i64 q,.int .i64 f,.int .i64 l,.string t] 41 (0,0))
theorem ItAt.cells{w:World}{g:Nat}{q f l:Int}{t:ByteArray}(h:ItAt w g q f l t):w.cell? ⟨g,0,none⟩=some (.int .i64 q)∧w.cell? ⟨g,1,none⟩=some (.int .i64 f)∧w.cell? ⟨g,2,none⟩=some (.int .i64 l)∧w.cell? ⟨g,3,none⟩=some (.string t):=
 ⟨by rw[cell_of_row w g 0 _ 41 (0,0) h];rfl,by rw[cell_of_row w g 1 _ 41 (0,0) h];rfl,by rw[cell_of_row w g 2 _ 41 (0,0) h];rfl,by rw[cell_of_row w g 3 _ 41 (0,0) h];rfl⟩
theorem ItAt.stays{w w':World}{B g:Nat}{q f l:Int}{t:ByteArray}(h:ItAt w g q f l t)(hb:Below B w w')(hg:g<B):ItAt w' g q f l t:=(hb.block g hg).trans h
theorem ItAt.lt{w:World}{g:Nat}{q f l:Int}{t:ByteArray}(h:ItAt w g q f l t):g<w.heap.size:=(Array.getElem?_eq_some_iff.1 h).1
end Go.Proofs.YthdjkkiegecgnaaGreat
