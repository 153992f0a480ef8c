/- Joined texts: CJ1. -/
import Derived.Test.YthdjkkiegecgnaaGreatOq4
import Derived.Test.YthdjkkiegecgnaaGreatOq1
set_option maxRecDepth 100000
set_option maxHeartbeats 16000000
namespace Go.Proofs.YthdjkkiegecgnaaGreat
open Go.RowKit Pl
set_option linter.unusedVariables false
abbrev It:=Int × Int × Int × ByteArray
def ItemsAt(w:World)(ao:Option Addr)(ts:List It):Prop:=
 ∀i (h:i<ts.length),∃b off,ao=some ⟨b,off,none⟩∧b<w.heap.size∧w.cell? ⟨b,off+i * 4,none⟩=some (.int .i64 ts[i].1)∧w.cell? ⟨b,off+i * 4+1,none⟩=some (.int .i64 ts[i].2.1)∧w.cell? ⟨b,off+i * 4+2,none⟩=some (.int .i64 ts[i].2.2.1)∧w.cell? ⟨b,off+i * 4+3,none⟩=some (.string ts[i].2.2.2)
theorem ItemsAt.stays{w w':World}{ao:Option Addr}{ts:List It}(h:ItemsAt w ao ts)(hb:Below w.heap.size w w'):ItemsAt w' ao ts:=by
 intro i hi
 obtain⟨b,off,h1,h2,h3,h4,h5,h6⟩:=h i hi
 exact⟨b,off,h1,Nat.lt_of_lt_of_le h2 hb.size,(hb.cell (p:=⟨b,off+i * 4,none⟩) h2).trans h3,(hb.cell (p:=⟨b,off+i * 4+1,none⟩) h2).trans h4,(hb.cell (p:=⟨b,off+i * 4+2,none⟩) h2).trans h5,(hb.cell (p:=⟨b,off+i * 4+3,none⟩) h2).trans h6⟩
def iGo(last:Int):List It→Bool
 | []=>true
 |x::xs=>if itB x.1 x.2.1 x.2.2.1 x.2.2.2=false∨x.1≤last then false else iGo x.1 xs
theorem iGo_step{L:Int}{x:It}{xs:List It}(h1:itB x.1 x.2.1 x.2.2.1 x.2.2.2=true)(h2:L<x.1):iGo L (x::xs)=iGo x.1 xs:=by
 rw[iGo,if_neg (by rw[h1];simp;omega)]
theorem iGo_bad{L:Int}{x:It}{xs:List It}(h:itB x.1 x.2.1 x.2.2.1 x.2.2.2=false∨x.1≤L):iGo L (x::xs)=false:=by
 rw[iGo,if_pos h]
def ISt(ts:List It)(k:Nat)(L:Int):Prop:=iGo L (ts.drop k)=iGo 0 ts∧0≤L∧(k=0→L=0)∧∀j (h:j<ts.length),k=j+1→L=ts[j].1
theorem iSt_start(ts:List It):ISt ts 0 0:=⟨rfl,by omega,fun _=>rfl,fun j _ h=>by omega⟩
theorem qKw{ts:List It}{L:Int}{k:Nat}(h:ISt ts k L)(hk:k<ts.length)(h1:itB ts[k].1 ts[k].2.1 ts[k].2.2.1 ts[k].2.2.2=true)(h2:L<ts[k].1):ISt ts (k+1) ts[k].1:=by
 obtain⟨a,b,c,d⟩:=h
 refine⟨?_,by omega,fun h=>by omega,fun j hj e=>?_⟩
 ·rw[←a,List.drop_eq_getElem_cons hk,iGo_step h1 h2]
 ·obtain rfl:j=k:=by omega
  rfl
theorem qKx{ts:List It}{L:Int}{k:Nat}(h:ISt ts k L)(hk:k<ts.length)(h1:itB ts[k].1 ts[k].2.1 ts[k].2.2.1 ts[k].2.2.2=false∨ts[k].1≤L):iGo 0 ts=false:=by
 rw[←h.1,List.drop_eq_getElem_cons hk,iGo_bad h1]
theorem iSt_end{ts:List It}{L:Int}{k:Nat}(h:ISt ts k L)(hk:ts.length≤k):iGo 0 ts=true:=by
 rw[←h.1,List.drop_eq_nil_of_le hk];rfl
theorem itB_is{q f l:Int}{t:ByteArray}{b:Bool}(w:World)(h:itB q f l t=b):
  Calls Tryz.prog 78 #[.agg #[.int .i64 q,.int .i64 f,.int .i64 l,.string t]] w fun e w'=>e=.returned (.bool b)∧Below w.heap.size w w':=by rw[←h];exact itemOk_any q f l t w
theorem qEs{q f l:Int}{t:ByteArray}{b:Bool}(w:World)(h:itB q f l t=b):
  Calls Tryz.prog 20 #[.agg #[.int .i64 q,.int .i64 f,.int .i64 l,.string t]] w fun e w'=>e=.returned (.bool b)∧Below w.heap.size w w':=by rw[←h];exact spItemOk_any q f l t w
theorem itemsOk_any(ao:Option Addr)(cap:Nat)(ts:List It)(w:World)(hx:Hid (ItemsAt w ao ts))(hl:ts.length≤1048576):
  Calls Tryz.prog 72 #[.slice ao ts.length cap] w fun e w'=>e=.returned (.bool (iGo 0 ts))∧Below w.heap.size w w':=by
 go_enter Tryz.func72,Tryz.ntmps72
 go_wp2
 go_loopw [3,8] (fun L i wr=>∃(k:Nat) (l:Int),k≤ts.length∧L=.int .i64 l∧i=.int .i64 k∧Hid (ISt ts k l)∧Below w.heap.size w wr) (fun _ i _=>ts.length - (intOf i).toNat)
 case atStart=>exact⟨0,0,Nat.zero_le _,rfl,rfl,iSt_start ts,Below.refl _ _⟩
 case round=>
  obtain⟨k,l,hk,rfl,rfl,hst,hb⟩:=hrel
  by_cases hlt:k<ts.length
  ·obtain⟨b,off,rfl,hbb,h0,h1,h2,h3⟩:=hx.out.stays hb k hlt
   have HP:Hid (∃x:It,x=ts[k]):=⟨_,rfl⟩
   obtain⟨⟨q,f,lv,tx⟩,hp⟩:=HP.out
   rw[←hp]at h0 h1 h2 h3
   have HQ:Hid ((q,f,lv,tx)=ts[k]):=hp
   clear hp HP
   dsimp only at h0 h1 h2 h3
   have I0:Hid (ItAt (wr.alloc (.cells #[.int .i64 q,.int .i64 f,.int .i64 lv,.string tx] 41)) wr.heap.size q f lv tx):=heap_alloc_new wr _
   have B0:Hid (Below w.heap.size w (wr.alloc (.cells #[.int .i64 q,.int .i64 f,.int .i64 lv,.string tx] 41))):=hb.alloc hb.size _
   go_wp2_with fail
   generalize wr.alloc (.cells #[.int .i64 q,.int .i64 f,.int .i64 lv,.string tx] 41)=W0 at *
   clear h0 h1 h2 h3
   cases hit:itB q f lv tx with
   |false=>
    refine(itB_is _ hit).mono ?_
    rintro e w1 ⟨rfl,hb1⟩
    have hbad:iGo 0 ts=false:=qKx hst.out hlt (.inl (by rw[←HQ.out];exact hit))
    have HBAD:Hid (iGo 0 ts=false):=hbad
    clear hbad hit
    go_wp2_with fail
    go_ret
    exact⟨by rw[HBAD.out];rfl,B0.out.trans (hb1.mono B0.out.size)⟩
   |true=>
    refine(itB_is _ hit).mono ?_
    rintro e w1 ⟨rfl,hb1⟩
    have I1:=I0.out.stays hb1 I0.out.lt
    have c0:=I1.cells.1
    have HIT:Hid (itB q f lv tx=true):=hit
    have B1:=Ag (B0.out.trans (hb1.mono B0.out.size))
    clear hit hb1 I1 I0 B0
    by_cases hle:q≤l
    ·have HBAD:Hid (iGo 0 ts=false):=qKx hst.out hlt (.inr (by rw[←HQ.out];exact hle))
     go_wp2_with fail
     go_ret
     exact⟨by rw[HBAD.out];rfl,B1.out⟩
    ·have HN:Hid (ISt ts (k+1) q):=by
      have:=qKw hst.out hlt (by rw[←HQ.out];exact HIT.out) (by rw[←HQ.out];show l<q;omega)
      rw[←HQ.out]at this
      exact this
     go_wp2_with fail
     go_roundw
     case rel=>exact⟨k+1,q,by omega,rfl,by go_num,HN.out,B1.out⟩
     case measure=>simp[intOf];omega
  ·go_wp2_with fail
   go_ret
   exact⟨by rw[iSt_end hst.out (by omega)];rfl,hb⟩
end Go.Proofs.YthdjkkiegecgnaaGreat
