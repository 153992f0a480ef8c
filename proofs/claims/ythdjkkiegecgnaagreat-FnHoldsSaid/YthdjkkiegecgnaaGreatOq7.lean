/- Joined texts: CJ2 CJ3 CJ4. -/
import Derived.Test.YthdjkkiegecgnaaGreatOq6
import Derived.Deep.RegionWith
import Derived.BigQuiet
import Derived.Test.YthdjkkiegecgnaaGreatOq1
import Derived.Laws.MakeOwn
set_option maxRecDepth 100000
set_option maxHeartbeats 16000000
namespace Go.Proofs.YthdjkkiegecgnaaGreat
open Go.RowKit Pl
set_option linter.unusedVariables false
theorem qEk{P:Program}{C:World→Prop}{id:Nat}{Q:Exit→Act→World→Prop}{a:Act}{w:World}{l:List Oper}(hm:P.follows .mixedOrders=true)(hB:Region.lexB .any l.toArray=true)(hC:C {w with drawn:=w.drawn+1})
  (h:wpQuiet P l.toArray C (fun a'=>∀w',C w'→Q .normal a' w') l a):(Code.region id l.toArray true).wp P Q a w:=
 wp_region_quiet (C:=C) hm hB hC (by simpa using h)
theorem qAh{P:Program}{C:World→Prop}{o:Oper}{a:Act}{K:Act→Prop}(v:Value)(h: ∀w,C w→(execOp a.eval o).run P w=.ok (.value v) w)(hk:K (a.put o.dst v)):o.quiet P a C K:=
 ⟨v,fun w hw=>by unfold Oper.quietAt;rw[h w hw];exact⟨rfl,rfl⟩,hk⟩
theorem qFu{P:Program}{C:World→Prop}{o:Oper}{a:Act}{K:Act→Prop}(v:Value)(f:FuncId)(args:Array Value)(h: ∀w,C w→(execOp a.eval o).run P w=.ok (.enter f args) w)(hc: ∀w,C w→Calls P f args w fun e w'=>e=.returned v∧C w')(hk:K (a.put o.dst v)):o.quiet P a C K:=
 ⟨v,fun w hw=>by unfold Oper.quietAt;rw[h w hw];exact⟨rfl,hc w hw⟩,hk⟩
theorem qEc{W w w':World}{b o0 o1 o2 o3:Nat}{v0 v1 v2 v3:Value}(hbb:b<W.heap.size)(h:(w.cell? ⟨b,o0,none⟩=some v0∧w.cell? ⟨b,o1,none⟩=some v1∧w.cell? ⟨b,o2,none⟩=some v2∧w.cell? ⟨b,o3,none⟩=some v3)∧Hid (Below W.heap.size W w))(hb:Below w.heap.size w w'):
  (w'.cell? ⟨b,o0,none⟩=some v0∧w'.cell? ⟨b,o1,none⟩=some v1∧w'.cell? ⟨b,o2,none⟩=some v2∧w'.cell? ⟨b,o3,none⟩=some v3)∧Hid (Below W.heap.size W w'):=by
 obtain⟨⟨h0,h1,h2,h3⟩,h4⟩:=h
 have hlt:b<w.heap.size:=Nat.lt_of_lt_of_le hbb h4.out.size
 exact⟨⟨(hb.cell (p:=⟨b,o0,none⟩) hlt).trans h0,(hb.cell (p:=⟨b,o1,none⟩) hlt).trans h1,(hb.cell (p:=⟨b,o2,none⟩) hlt).trans h2,(hb.cell (p:=⟨b,o3,none⟩) hlt).trans h3⟩,h4.out.trans (hb.mono h4.out.size)⟩
theorem qFp(ao:Option Addr)(cap:Nat)(ts:List It)(w:World)(hx:Hid (ItemsAt w ao ts))(hl:ts.length≤1048576):
  Calls Tryz.prog 133 #[.slice ao ts.length cap] w fun e w'=>e=.returned (.bool (iGo 0 ts))∧Below w.heap.size w w':=by
 go_enter Tryz.func133,Tryz.ntmps133
 go_wp2
 go_loopw [3] (fun i wr=>∃(k:Nat) (l:Int),k≤ts.length∧i=.int .i64 k∧Hid (ISt ts k l)∧Hid (Below w.heap.size w wr)) (fun i _=>ts.length - (intOf i).toNat)
 case atStart=>exact⟨0,0,Nat.zero_le _,rfl,iSt_start ts,Below.refl _ _⟩
 case round=>
  obtain⟨k,l,hk,rfl,hst,hb⟩:=hrel
  by_cases hlt:k<ts.length
  ·have XR:=hx.out.stays hb.out
   obtain⟨b,off,hao,hbb,h0,h1,h2,h3⟩:=XR k hlt
   have HP:Hid (∃x:It,x=ts[k]):=⟨_,rfl⟩
   obtain⟨⟨q,f,lv,tx⟩,hp⟩:=HP.out
   rw[←hp]at h0 h1 h2 h3
   have HQ:Hid ((q,f,lv,tx)=ts[k]):=hp
   clear hp HP
   dsimp only at h0 h1 h2 h3
   have i0:(0:Int)≤(k:Int):=by omega
   have i1:(k:Int)<(ts.length:Int):=by omega
   cases hit:itB q f lv tx with
   |false=>
    have HBAD:Hid (iGo 0 ts=false):=qKx hst.out hlt (.inl (by rw[←HQ.out];exact hit))
    subst hao
    clear XR
    go_wp2_with fail
    refine qEk (C:=(fun w'=>(w'.cell? ⟨b,off+k * 4,none⟩=some (.int .i64 q)∧w'.cell? ⟨b,off+k * 4+1,none⟩=some (.int .i64 f)∧w'.cell? ⟨b,off+k * 4+2,none⟩=some (.int .i64 lv)∧w'.cell? ⟨b,off+k * 4+3,none⟩=some (.string tx))∧Hid (Below wr.heap.size wr w'))) (by kernel_rfl) (by kernel_rfl) ⟨⟨h0,h1,h2,h3⟩,(Below.refl _ _).drew⟩ ?_
    go_big_quiet_want
    go_big_quiet_op
    go_big_quiet_on
    go_big_quiet_want
    go_big_quiet_op
    go_big_quiet_on
    go_big_quiet_want
    refine qAh (.pointer (some ⟨b,off+k * 4,none⟩)) (fun w' hw'=>by go_simp) ?_
    go_big_quiet_on
    simp only[Act.put,Ad,Ae,Af]
    go_big_quiet_want
    refine qAh (.agg #[.int .i64 q,.int .i64 f,.int .i64 lv,.string tx]) (fun w' hw'=>by obtain⟨⟨g0,g1,g2,g3⟩,_⟩:=hw';go_simp) ?_
    go_big_quiet_on
    simp only[Act.put,Ad,Ae,Af]
    go_big_quiet_want
    refine qFu (.bool false) 20 #[.agg #[.int .i64 q,.int .i64 f,.int .i64 lv,.string tx]] (fun w' hw'=>by go_simp) (fun w' hw'=>(qEs _ hit).mono fun e w'' ⟨he,hb1⟩=>⟨he,qEc hbb hw' hb1⟩) ?_
    go_big_quiet_on
    simp only[Act.put,Ad,Ae,Af]
    go_big_quiet_want
    refine qAh (.bool true) (fun w' hw'=>by go_simp) ?_
    go_big_quiet_on
    simp only[Act.put,Ad,Ae,Af]
    go_big_quiet_want
    go_big_quiet_op
    go_big_quiet_on
    go_big_quiet_skip
    go_big_quiet_skip
    go_big_quiet_skip
    go_big_quiet_skip
    go_big_quiet_skip
    go_big_quiet_skip
    go_big_quiet_skip
    go_big_quiet_skip
    go_big_quiet_skip
    go_big_quiet_skip
    go_big_quiet_skip
    go_big_quiet_skip
    go_big_quiet_skip
    go_big_quiet_skip
    go_big_quiet_skip
    go_big_quiet_skip
    go_big_quiet_want
    refine qAh (.bool true) (fun w' hw'=>by go_simp) ?_
    go_big_quiet_on
    simp only[Act.put,Ad,Ae,Af]
    refine wpQuiet_nil ?_
    intro w1 hcw
    have B1:=Ag (hb.out.trans (hcw.2.out.mono hb.out.size))
    clear hcw h0 h1 h2 h3 hit
    go_wp2_with fail
    go_ret
    exact⟨by rw[HBAD.out];rfl,B1.out⟩
   |true=>
    have hq1:1≤q:=by
     have:=itB_true.1 hit
     unfold ItOk at this
     omega
    by_cases k0:k=0
    ·have hl0:l=0:=hst.out.2.2.1 k0
     have HN:Hid (ISt ts (k+1) q):=by
      have:=qKw hst.out hlt (by rw[←HQ.out];exact hit) (by rw[←HQ.out];show l<q;omega)
      rw[←HQ.out]at this
      exact this
     have hk0: ¬0<k:=by omega
     subst hao
     clear XR k0 hl0
     go_wp2_with fail
     refine qEk (C:=(fun w'=>(w'.cell? ⟨b,off+k * 4,none⟩=some (.int .i64 q)∧w'.cell? ⟨b,off+k * 4+1,none⟩=some (.int .i64 f)∧w'.cell? ⟨b,off+k * 4+2,none⟩=some (.int .i64 lv)∧w'.cell? ⟨b,off+k * 4+3,none⟩=some (.string tx))∧Hid (Below wr.heap.size wr w'))) (by kernel_rfl) (by kernel_rfl) ⟨⟨h0,h1,h2,h3⟩,(Below.refl _ _).drew⟩ ?_
     go_big_quiet_want
     go_big_quiet_op
     go_big_quiet_on
     go_big_quiet_want
     go_big_quiet_op
     go_big_quiet_on
     go_big_quiet_want
     refine qAh (.pointer (some ⟨b,off+k * 4,none⟩)) (fun w' hw'=>by go_simp) ?_
     go_big_quiet_on
     simp only[Act.put,Ad,Ae,Af]
     go_big_quiet_want
     refine qAh (.agg #[.int .i64 q,.int .i64 f,.int .i64 lv,.string tx]) (fun w' hw'=>by obtain⟨⟨g0,g1,g2,g3⟩,_⟩:=hw';go_simp) ?_
     go_big_quiet_on
     simp only[Act.put,Ad,Ae,Af]
     go_big_quiet_want
     refine qFu (.bool true) 20 #[.agg #[.int .i64 q,.int .i64 f,.int .i64 lv,.string tx]] (fun w' hw'=>by go_simp) (fun w' hw'=>(qEs _ hit).mono fun e w'' ⟨he,hb1⟩=>⟨he,qEc hbb hw' hb1⟩) ?_
     go_big_quiet_on
     simp only[Act.put,Ad,Ae,Af]
     go_big_quiet_want
     refine qAh (.bool false) (fun w' hw'=>by go_simp) ?_
     go_big_quiet_on
     simp only[Act.put,Ad,Ae,Af]
     go_big_quiet_want
     go_big_quiet_op
     go_big_quiet_on
     go_big_quiet_want
     go_big_quiet_op
     go_big_quiet_on
     go_big_quiet_want
     refine qAh (.bool false) (fun w' hw'=>by go_simp) ?_
     go_big_quiet_on
     simp only[Act.put,Ad,Ae,Af]
     go_big_quiet_want
     go_big_quiet_op
     go_big_quiet_on
     go_big_quiet_skip
     go_big_quiet_skip
     go_big_quiet_skip
     go_big_quiet_skip
     go_big_quiet_skip
     go_big_quiet_skip
     go_big_quiet_skip
     go_big_quiet_skip
     go_big_quiet_skip
     go_big_quiet_skip
     go_big_quiet_skip
     go_big_quiet_skip
     go_big_quiet_want
     refine qAh (.bool false) (fun w' hw'=>by go_simp) ?_
     go_big_quiet_on
     simp only[Act.put,Ad,Ae,Af]
     go_big_quiet_want
     refine qAh (.bool false) (fun w' hw'=>by go_simp) ?_
     go_big_quiet_on
     simp only[Act.put,Ad,Ae,Af]
     refine wpQuiet_nil ?_
     intro w1 hcw
     have B1:=Ag (hb.out.trans (hcw.2.out.mono hb.out.size))
     clear hcw h0 h1 h2 h3 hit
     go_wp2_with fail
     go_roundw
     case rel=>exact⟨k+1,q,by omega,by go_num,HN.out,B1.out⟩
     case measure=>simp[intOf];omega
    ·obtain⟨j,hj⟩: ∃j,k=j+1:=⟨k - 1,by omega⟩
     have hlj:j<ts.length:=by omega
     have hlv:l=ts[j].1:=hst.out.2.2.2 j hlj hj
     obtain⟨b2,off2,hao2,_,hpv,_,_,_⟩:=XR j hlj
     obtain⟨rfl,rfl⟩:b2=b∧off2=off:=by rw[hao]at hao2;simp at hao2;exact⟨hao2.1.symm,hao2.2.symm⟩
     rw[←hlv]at hpv
     have hk0:0<k:=by omega
     have hw1:IntKind.i64.wrap ((k:Int) - 1)=(j:Int):=by rw[IntKind.wrap_i64];omega
     have i2:(0:Int)≤(j:Int):=by omega
     have i3:(j:Int)<(ts.length:Int):=by omega
     by_cases hle:q≤l
     ·have HBAD:Hid (iGo 0 ts=false):=qKx hst.out hlt (.inr (by rw[←HQ.out];exact hle))
      subst hao
      clear XR hao2 hj hlv
      go_wp2_with fail
      refine qEk (C:=(fun w'=>(w'.cell? ⟨b2,off2+k * 4,none⟩=some (.int .i64 q)∧w'.cell? ⟨b2,off2+k * 4+1,none⟩=some (.int .i64 f)∧w'.cell? ⟨b2,off2+k * 4+2,none⟩=some (.int .i64 lv)∧w'.cell? ⟨b2,off2+k * 4+3,none⟩=some (.string tx))∧Hid (Below wr.heap.size wr w'))) (by kernel_rfl) (by kernel_rfl) ⟨⟨h0,h1,h2,h3⟩,(Below.refl _ _).drew⟩ ?_
      go_big_quiet_want
      go_big_quiet_op
      go_big_quiet_on
      go_big_quiet_want
      go_big_quiet_op
      go_big_quiet_on
      go_big_quiet_want
      refine qAh (.pointer (some ⟨b2,off2+k * 4,none⟩)) (fun w' hw'=>by go_simp) ?_
      go_big_quiet_on
      simp only[Act.put,Ad,Ae,Af]
      go_big_quiet_want
      refine qAh (.agg #[.int .i64 q,.int .i64 f,.int .i64 lv,.string tx]) (fun w' hw'=>by obtain⟨⟨g0,g1,g2,g3⟩,_⟩:=hw';go_simp) ?_
      go_big_quiet_on
      simp only[Act.put,Ad,Ae,Af]
      go_big_quiet_want
      refine qFu (.bool true) 20 #[.agg #[.int .i64 q,.int .i64 f,.int .i64 lv,.string tx]] (fun w' hw'=>by go_simp) (fun w' hw'=>(qEs _ hit).mono fun e w'' ⟨he,hb1⟩=>⟨he,qEc hbb hw' hb1⟩) ?_
      go_big_quiet_on
      simp only[Act.put,Ad,Ae,Af]
      go_big_quiet_want
      refine qAh (.bool false) (fun w' hw'=>by go_simp) ?_
      go_big_quiet_on
      simp only[Act.put,Ad,Ae,Af]
      go_big_quiet_want
      go_big_quiet_op
      go_big_quiet_on
      go_big_quiet_want
      go_big_quiet_op
      go_big_quiet_on
      go_big_quiet_want
      refine qAh (.bool true) (fun w' hw'=>by go_simp) ?_
      go_big_quiet_on
      simp only[Act.put,Ad,Ae,Af]
      go_big_quiet_want
      go_big_quiet_op
      go_big_quiet_on
      go_big_quiet_want
      go_big_quiet_op
      go_big_quiet_on
      go_big_quiet_want
      go_big_quiet_op
      go_big_quiet_on
      go_big_quiet_want
      refine qAh (.int .i64 (j:Int)) (fun w' hw'=>by go_simp) ?_
      go_big_quiet_on
      simp only[Act.put,Ad,Ae,Af]
      go_big_quiet_want
      refine qAh (.pointer (some ⟨b2,off2+j * 4,none⟩)) (fun w' hw'=>by go_simp) ?_
      go_big_quiet_on
      simp only[Act.put,Ad,Ae,Af]
      go_big_quiet_want
      refine qAh (.pointer (some ⟨b2,off2+j * 4,none⟩)) (fun w' hw'=>by go_simp) ?_
      go_big_quiet_on
      simp only[Act.put,Ad,Ae,Af]
      go_big_quiet_want
      refine qAh (.int .i64 l) (fun w' hw'=>by have g4:=(hw'.2.out.cell (p:=⟨b2,off2+j * 4,none⟩) hbb).trans hpv;go_simp) ?_
      go_big_quiet_on
      simp only[Act.put,Ad,Ae,Af]
      go_big_quiet_want
      go_big_quiet_op
      go_big_quiet_on
      go_big_quiet_want
      go_big_quiet_op
      go_big_quiet_on
      go_big_quiet_want
      refine qAh (.pointer (some ⟨b2,off2+k * 4,none⟩)) (fun w' hw'=>by go_simp) ?_
      go_big_quiet_on
      simp only[Act.put,Ad,Ae,Af]
      go_big_quiet_want
      refine qAh (.pointer (some ⟨b2,off2+k * 4,none⟩)) (fun w' hw'=>by go_simp) ?_
      go_big_quiet_on
      simp only[Act.put,Ad,Ae,Af]
      go_big_quiet_want
      refine qAh (.int .i64 q) (fun w' hw'=>by obtain⟨⟨g0,g1,g2,g3⟩,_⟩:=hw';go_simp) ?_
      go_big_quiet_on
      simp only[Act.put,Ad,Ae,Af]
      go_big_quiet_want
      refine qAh (.bool true) (fun w' hw'=>by go_simp) ?_
      go_big_quiet_on
      simp only[Act.put,Ad,Ae,Af]
      go_big_quiet_want
      refine qAh (.bool true) (fun w' hw'=>by go_simp) ?_
      go_big_quiet_on
      simp only[Act.put,Ad,Ae,Af]
      go_big_quiet_want
      refine qAh (.bool true) (fun w' hw'=>by go_simp) ?_
      go_big_quiet_on
      simp only[Act.put,Ad,Ae,Af]
      refine wpQuiet_nil ?_
      intro w1 hcw
      have B1:=Ag (hb.out.trans (hcw.2.out.mono hb.out.size))
      clear hpv hcw h0 h1 h2 h3 hit
      go_wp2_with fail
      go_ret
      exact⟨by rw[HBAD.out];rfl,B1.out⟩
     ·
      have HN:Hid (ISt ts (k+1) q):=by
       have:=qKw hst.out hlt (by rw[←HQ.out];exact hit) (by rw[←HQ.out];show l<q;omega)
       rw[←HQ.out]at this
       exact this
      subst hao
      clear XR hao2 hj hlv
      go_wp2_with fail
      refine qEk (C:=(fun w'=>(w'.cell? ⟨b2,off2+k * 4,none⟩=some (.int .i64 q)∧w'.cell? ⟨b2,off2+k * 4+1,none⟩=some (.int .i64 f)∧w'.cell? ⟨b2,off2+k * 4+2,none⟩=some (.int .i64 lv)∧w'.cell? ⟨b2,off2+k * 4+3,none⟩=some (.string tx))∧Hid (Below wr.heap.size wr w'))) (by kernel_rfl) (by kernel_rfl) ⟨⟨h0,h1,h2,h3⟩,(Below.refl _ _).drew⟩ ?_
      go_big_quiet_want
      go_big_quiet_op
      go_big_quiet_on
      go_big_quiet_want
      go_big_quiet_op
      go_big_quiet_on
      go_big_quiet_want
      refine qAh (.pointer (some ⟨b2,off2+k * 4,none⟩)) (fun w' hw'=>by go_simp) ?_
      go_big_quiet_on
      simp only[Act.put,Ad,Ae,Af]
      go_big_quiet_want
      refine qAh (.agg #[.int .i64 q,.int .i64 f,.int .i64 lv,.string tx]) (fun w' hw'=>by obtain⟨⟨g0,g1,g2,g3⟩,_⟩:=hw';go_simp) ?_
      go_big_quiet_on
      simp only[Act.put,Ad,Ae,Af]
      go_big_quiet_want
      refine qFu (.bool true) 20 #[.agg #[.int .i64 q,.int .i64 f,.int .i64 lv,.string tx]] (fun w' hw'=>by go_simp) (fun w' hw'=>(qEs _ hit).mono fun e w'' ⟨he,hb1⟩=>⟨he,qEc hbb hw' hb1⟩) ?_
      go_big_quiet_on
      simp only[Act.put,Ad,Ae,Af]
      go_big_quiet_want
      refine qAh (.bool false) (fun w' hw'=>by go_simp) ?_
      go_big_quiet_on
      simp only[Act.put,Ad,Ae,Af]
      go_big_quiet_want
      go_big_quiet_op
      go_big_quiet_on
      go_big_quiet_want
      go_big_quiet_op
      go_big_quiet_on
      go_big_quiet_want
      refine qAh (.bool true) (fun w' hw'=>by go_simp) ?_
      go_big_quiet_on
      simp only[Act.put,Ad,Ae,Af]
      go_big_quiet_want
      go_big_quiet_op
      go_big_quiet_on
      go_big_quiet_want
      go_big_quiet_op
      go_big_quiet_on
      go_big_quiet_want
      go_big_quiet_op
      go_big_quiet_on
      go_big_quiet_want
      refine qAh (.int .i64 (j:Int)) (fun w' hw'=>by go_simp) ?_
      go_big_quiet_on
      simp only[Act.put,Ad,Ae,Af]
      go_big_quiet_want
      refine qAh (.pointer (some ⟨b2,off2+j * 4,none⟩)) (fun w' hw'=>by go_simp) ?_
      go_big_quiet_on
      simp only[Act.put,Ad,Ae,Af]
      go_big_quiet_want
      refine qAh (.pointer (some ⟨b2,off2+j * 4,none⟩)) (fun w' hw'=>by go_simp) ?_
      go_big_quiet_on
      simp only[Act.put,Ad,Ae,Af]
      go_big_quiet_want
      refine qAh (.int .i64 l) (fun w' hw'=>by have g4:=(hw'.2.out.cell (p:=⟨b2,off2+j * 4,none⟩) hbb).trans hpv;go_simp) ?_
      go_big_quiet_on
      simp only[Act.put,Ad,Ae,Af]
      go_big_quiet_want
      go_big_quiet_op
      go_big_quiet_on
      go_big_quiet_want
      go_big_quiet_op
      go_big_quiet_on
      go_big_quiet_want
      refine qAh (.pointer (some ⟨b2,off2+k * 4,none⟩)) (fun w' hw'=>by go_simp) ?_
      go_big_quiet_on
      simp only[Act.put,Ad,Ae,Af]
      go_big_quiet_want
      refine qAh (.pointer (some ⟨b2,off2+k * 4,none⟩)) (fun w' hw'=>by go_simp) ?_
      go_big_quiet_on
      simp only[Act.put,Ad,Ae,Af]
      go_big_quiet_want
      refine qAh (.int .i64 q) (fun w' hw'=>by obtain⟨⟨g0,g1,g2,g3⟩,_⟩:=hw';go_simp) ?_
      go_big_quiet_on
      simp only[Act.put,Ad,Ae,Af]
      go_big_quiet_want
      refine qAh (.bool false) (fun w' hw'=>by go_simp) ?_
      go_big_quiet_on
      simp only[Act.put,Ad,Ae,Af]
      go_big_quiet_want
      refine qAh (.bool false) (fun w' hw'=>by go_simp) ?_
      go_big_quiet_on
      simp only[Act.put,Ad,Ae,Af]
      go_big_quiet_want
      refine qAh (.bool false) (fun w' hw'=>by go_simp) ?_
      go_big_quiet_on
      simp only[Act.put,Ad,Ae,Af]
      refine wpQuiet_nil ?_
      intro w1 hcw
      have B1:=Ag (hb.out.trans (hcw.2.out.mono hb.out.size))
      clear hpv hcw h0 h1 h2 h3 hit
      go_wp2_with fail
      go_roundw
      case rel=>exact⟨k+1,q,by omega,by go_num,HN.out,B1.out⟩
      case measure=>simp[intOf];omega
  ·go_wp2_with fail
   go_ret
   exact⟨by rw[iSt_end hst.out (by omega)];rfl,hb.out⟩
theorem Tryz.infoI:(Tryz.prog.info? 41).map (fun i=>(i.zero,i.size,i.bytes))=some (some (.agg #[.int .i64 0,.int .i64 0,.int .i64 0,.string ⟨#[]⟩]),4,40):=by kernel_rfl
def RowIt(w:World)(g n:Nat)(ts:List It)(k:Nat):Prop:=
 ∃arr:Array Value,w.heap[g]? =some (.cells arr 41 (0,0))∧arr.size=n * 4∧∀i (h:i<ts.length),i<k→arr[i * 4]? =some (.int .i64 ts[i].1)∧arr[i * 4+1]? =some (.int .i64 ts[i].2.1)∧arr[i * 4+2]? =some (.int .i64 ts[i].2.2.1)∧arr[i * 4+3]? =some (.string ts[i].2.2.2)
theorem RowIt.stays{w w':World}{B g n k:Nat}{ts:List It}(h:RowIt w g n ts k)(hb:Below B w w')(hg:g<B):RowIt w' g n ts k:=by
 obtain⟨arr,h1,h2⟩:=h
 exact⟨arr,(hb.block g hg).trans h1,h2⟩
theorem RowIt.lt{w:World}{g n k:Nat}{ts:List It}(h:RowIt w g n ts k):g<w.heap.size:=by
 obtain⟨arr,h1,_⟩:=h
 exact(Array.getElem?_eq_some_iff.1 h1).1
theorem RowIt.cell{w:World}{g n k:Nat}{ts:List It}(h:RowIt w g n ts k)(i:Nat)(hi:i<n * 4): ∃v,w.cell? ⟨g,i,none⟩=some v:=by
 obtain⟨arr,h1,h2,_⟩:=h
 refine⟨arr[i]'(by omega),?_⟩
 rw[cell_of_row w g i _ 41 (0,0) h1]
 simp[h2,hi]
theorem RowIt.frozen{w:World}{g n k:Nat}{ts:List It}(h:RowIt w g n ts k)(i:Nat):w.frozen? ⟨g,i,none⟩=false:=by
 obtain⟨arr,h1,_⟩:=h
 exact frozen_of_row w g i _ 41 h1
theorem RowIt.set{w:World}{g k:Nat}{ts:List It}(h:RowIt w g ts.length ts k)(hk:k<ts.length):
  RowIt ((((w.setCell ⟨g,k * 4,none⟩ (.int .i64 ts[k].1)).setCell ⟨g,k * 4+1,none⟩ (.int .i64 ts[k].2.1)).setCell ⟨g,k * 4+2,none⟩ (.int .i64 ts[k].2.2.1)).setCell ⟨g,k * 4+3,none⟩ (.string ts[k].2.2.2)) g ts.length ts (k+1):=by
 obtain⟨arr,h1,h2,h3⟩:=h
 have e0:=heap_setCell_same w g (k * 4) _ 41 (.int .i64 ts[k].1) h1
 have e1:=heap_setCell_same _ g (k * 4+1) _ 41 (.int .i64 ts[k].2.1) e0
 have e2:=heap_setCell_same _ g (k * 4+2) _ 41 (.int .i64 ts[k].2.2.1) e1
 have e3:=heap_setCell_same _ g (k * 4+3) _ 41 (.string ts[k].2.2.2) e2
 refine⟨_,e3,by simp[h2],fun i hi hik=>?_⟩
 by_cases hik2:i=k
 ·subst hik2
  refine⟨?_,?_,?_,?_⟩<;>simp[Array.getElem?_setIfInBounds,h2]<;>omega
 ·obtain⟨x0,x1,x2,x3⟩:=h3 i hi (by omega)
  have n0: ∀a c,a<4→c<4→¬k * 4+a=i * 4+c:=fun a c _ _=>by omega
  refine⟨?_,?_,?_,?_⟩
  ·rw[Array.getElem?_setIfInBounds_ne (by omega),Array.getElem?_setIfInBounds_ne (by omega),Array.getElem?_setIfInBounds_ne (by omega),Array.getElem?_setIfInBounds_ne (by omega)];exact x0
  ·rw[Array.getElem?_setIfInBounds_ne (by omega),Array.getElem?_setIfInBounds_ne (by omega),Array.getElem?_setIfInBounds_ne (by omega),Array.getElem?_setIfInBounds_ne (by omega)];exact x1
  ·rw[Array.getElem?_setIfInBounds_ne (by omega),Array.getElem?_setIfInBounds_ne (by omega),Array.getElem?_setIfInBounds_ne (by omega),Array.getElem?_setIfInBounds_ne (by omega)];exact x2
  ·rw[Array.getElem?_setIfInBounds_ne (by omega),Array.getElem?_setIfInBounds_ne (by omega),Array.getElem?_setIfInBounds_ne (by omega),Array.getElem?_setIfInBounds_ne (by omega)];exact x3
theorem RowIt.items{w:World}{g n:Nat}{ts:List It}(h:RowIt w g n ts ts.length):ItemsAt w (some ⟨g,0,none⟩) ts:=by
 have hlt:=h.lt
 obtain⟨arr,h1,h2,h3⟩:=h
 intro i hi
 obtain⟨x0,x1,x2,x3⟩:=h3 i hi hi
 refine⟨g,0,rfl,hlt,?_,?_,?_,?_⟩
 ·rw[Nat.zero_add,cell_of_row w g _ _ 41 (0,0) h1];exact x0
 ·rw[Nat.zero_add,cell_of_row w g _ _ 41 (0,0) h1];exact x1
 ·rw[Nat.zero_add,cell_of_row w g _ _ 41 (0,0) h1];exact x2
 ·rw[Nat.zero_add,cell_of_row w g _ _ 41 (0,0) h1];exact x3
end Go.Proofs.YthdjkkiegecgnaaGreat
