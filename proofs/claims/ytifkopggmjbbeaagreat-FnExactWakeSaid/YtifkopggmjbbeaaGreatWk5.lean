/- Joined texts: CC4 CLb CJ2 CJ3 CJ4 CT2 CRg CRs CRh CRn CSs0. -/
import Derived.Test.YtifkopggmjbbeaaGreatWk4
import Derived.Deep.RegionHeld3
import Derived.Deep.QuietTactic
import Derived.BigQuiet
import Derived.Deep.RegionWith
import Derived.Laws.MakeOwn
set_option maxRecDepth 100000
set_option maxHeartbeats 16000000
/- Slices of ints compared, written over and looked at again. -/
namespace Go.Proofs.YtifkopggmjbbeaaGreat
open Go.RowKit Pl
set_option linter.unusedVariables false
theorem ret_intC{a b:Int}(h:a=b):Ending.returned (.int .i64 a)=.returned (.int .i64 b):=by rw[h]
theorem qBi{a b c:World}{row:Option Nat}(h:a.grownBy b row)(k:b.grownBy c row):a.grownBy c row:=
  ⟨k.os.trans h.os,k.tape.trans h.tape,k.output.trans h.output,Nat.le_trans h.size k.size,fun x hx hne=>(k.block x (Nat.lt_of_lt_of_le hx h.size) hne).trans (h.block x hx hne)⟩
theorem qGu{a b:World}{row:Option Nat}(h:Below a.heap.size a b):a.grownBy b row:=⟨h.os,h.tape,h.output,h.size,fun k hk _=>h.block k hk⟩
/-- what markIntS writes. -/
def qAm(K n:Nat):List Int:=(List.range n).map fun(j:Nat)=>((K+j:Nat):Int)
theorem qBw(K n:Nat):(qAm K n).length=n:=by simp[qAm]
theorem marks_eq{xs:List Int}{K n:Nat}(hl:xs.length=n)(h: ∀t,t<n→xs[t]? =some ((K+t:Nat):Int)):xs=qAm K n:=by
  apply List.ext_getElem (by rw[hl,qBw])
  intro i h1 h2
  have:=h i (by omega)
  rw[List.getElem?_eq_getElem h1]at this
  simp at this
  simp[qAm,this]
theorem qFb(v:Value)(ss:List Int)(B K:Nat)(w:World)(h1:OwnI w B v ss)(hl:K+ss.length≤39999990)(hK:0<K):
    Calls Tryz.prog 49 #[v,.int .i64 K] w fun e w'=>e=.returned (.int .i64 ((K+ss.length:Nat):Int))∧OwnI w' B v (qAm K ss.length)∧w.grownBy w' v.ownBlock:=by
  by_cases h0:ss.length=0
  · have HN:Hid (OwnI w B v (qAm K ss.length)):=by
      have e:ss=[]:=List.eq_nil_of_length_eq_zero h0
      subst e
      exact h1
    obtain⟨ao1,cap1,rfl⟩:=h1.form
    clear h1
    rw[h0]at HN⊢
    go_enter Tryz.func49,Tryz.ntmps49
    go_wp2
    refine wp_loop_rounds 1 ?_
    rw[rounds_succ]
    go_wp2
    go_ret
    exact⟨rfl,HN.out,World.grownBy.refl _ _⟩
  · obtain ⟨g, cap, rfl, hB, hg, hc, hf⟩ := h1.some (by omega)
    clear hc hf
    have HOWN:Hid (OwnI w B (.slice (some ⟨g,0,none⟩) ss.length cap) ss):=h1
    clear h1
    go_enter Tryz.func49,Tryz.ntmps49
    go_wp2
    go_loopw [1,5] (fun kk i wr=>∃(j:Nat) (xs:List Int),j≤ss.length∧i=.int .i64 j∧kk=.int .i64 ((K+j:Nat):Int)∧Hid (xs.length=ss.length)∧Hid (∀t,t<j→xs[t]? =some ((K+t:Nat):Int))∧OwnI wr B (.slice (some ⟨g,0,none⟩) ss.length cap) xs∧Hid (w.grownBy wr (some g))) (fun _ i _=>ss.length - (intOf i).toNat)
    case atStart=>exact⟨0,ss,by omega,rfl,rfl,rfl,(fun t ht=>absurd ht (by omega)),HOWN.out,World.grownBy.refl _ _⟩
    case round=>
      obtain⟨j,xs,hj,rfl,rfl,hxl,hmk,hown,hgr⟩:=hrel
      by_cases hlt:j<ss.length
      · have hxl' := hxl.out
        have hown':OwnI wr B (.slice (some ⟨g,0,none⟩) xs.length cap) xs:=by rw[hxl'];exact hown
        have hjx:j<xs.length:=by omega
        obtain⟨x,hce⟩: ∃x,wr.cell? ⟨g,j,none⟩=some (.int .i64 x):=⟨xs[j],by
          have:=World.ownsRow.cellAt hown' j (by omega)
          rw[this]
          simp[hjx]⟩
        have hfz:wr.frozen? ⟨g,j,none⟩=false:=World.ownsRow.frozenAt hown' j
        have HO:Hid _:=hown'.store j (K+j:Nat)
        clear hxl' hown'
        go_wp2
        go_roundw
        case rel=>
          have hs1:=HO.out.1
          rw[hxl.out]at hs1
          exact⟨j+1,xs.set j (K+j:Nat),by omega,by go_num,by go_num,(show(xs.set j _).length=ss.length by rw[List.length_set];exact hxl.out),(fun t ht=>by
            by_cases e:t=j
            · subst e;rw[List.getElem?_set_self (by have:=hxl.out;omega)]
            · rw[List.getElem?_set_ne (fun h=>e h.symm)];exact hmk.out t (by omega)),hs1,qBi hgr.out HO.out.2⟩
        case measure=>simp[intOf];omega
      · obtain rfl : j = ss.length := by omega
        go_wp2
        go_ret
        exact⟨ret_intC (by omega),(by rw[←marks_eq hxl.out hmk.out,←hxl.out]at *;rw[hxl.out];exact hown),hgr.out⟩
theorem qFf(v:Value)(n B K:Nat)(w:World)(h1:OwnI w B v (qAm K n))(hl:K+n≤39999990)(hK:0<K):
    Calls Tryz.prog 99 #[v,.int .i64 K] w fun e w'=>e=.returned (.int .i64 ((K+n:Nat):Int))∧w'=w:=by
  have hn:=qBw K n
  by_cases h0:n=0
  · subst h0
    obtain⟨ao1,cap1,rfl⟩:=h1.form
    clear h1
    rw[hn]
    go_enter Tryz.func99,Tryz.ntmps99
    go_wp2
    refine wp_loop_rounds 1 ?_
    rw[rounds_succ]
    go_wp2
    go_ret
    exact⟨rfl,rfl⟩
  · obtain ⟨g, cap, rfl, _, hg, hc, _⟩ := h1.some (by omega)
    rw[hn]
    have HC:Hid (∀j,j<n→w.cell? ⟨g,j,none⟩=some (.int .i64 ((K+j:Nat):Int))):=fun j hj=>by
      have:=hc j (by rw[hn];exact hj)
      simpa [qAm] using this
    clear h1 hc hn
    go_enter Tryz.func99,Tryz.ntmps99
    go_wp2
    go_loopw [1,5] (fun kk i wr=>∃j:Nat,j≤n∧i=.int .i64 j∧kk=.int .i64 ((K+j:Nat):Int)∧wr=w) (fun _ i _=>n - (intOf i).toNat)
    case atStart=>exact⟨0,by omega,rfl,rfl,rfl⟩
    case round=>
      obtain⟨j,hj,rfl,rfl,rfl⟩:=hrel
      by_cases hlt:j<n
      · have hce := HC.out j hlt
        have hq1:(0:Int)≤(j:Int):=by omega
        have hq2:(j:Int)<(n:Int):=by omega
        obtain⟨z,hz⟩: ∃z,z=K+j:=⟨_,rfl⟩
        rw[←hz]at hce⊢
        have HZ:Hid (z=K+j):=hz
        have hzl:z≤39999990:=by omega
        clear hz
        go_wp2
        go_roundw
        case rel=>exact⟨j+1,by omega,by go_num,by(have:=HZ.out;congr 1;omega),(by first|rfl|trivial)⟩
        case measure=>simp[intOf];omega
      · obtain rfl : j = n := by omega
        go_wp2
        go_ret
        exact⟨ret_intC (by omega),rfl⟩
theorem Pl.OwnI.keep{w w':World}{B:Nat}{v:Value}{ss:List Int}(h:OwnI w B v ss)(hk: ∀k,v.ownBlock=Option.some k→k<w.heap.size→w'.heap[k]? =w.heap[k]?):OwnI w' B v ss:=by
  refine⟨h.1,?_⟩
  rcases h.2 with hn|⟨g,cap,cur,rfl,hbg,hg,rest⟩
  · exact .inl hn
  · exact .inr ⟨g,cap,cur,rfl,hbg,(hk g rfl (Array.getElem?_eq_some_iff.1 hg).1).trans hg,rest⟩
theorem Pl.OwnI.under{w w':World}{B:Nat}{v:Value}{ss:List Int}(h:OwnI w B v ss)(hb:Below w.heap.size w w'):OwnI w' B v ss:=h.keep fun k _ hk=>hb.block k hk
theorem Pl.OwnI.kept{w w':World}{row:Option Nat}{B:Nat}{v:Value}{ss:List Int}(h:OwnI w B v ss)(hg:w.grownBy w' row)(hne: ∀k,v.ownBlock=Option.some k→Option.some k≠row):OwnI w' B v ss:=h.keep fun k hk hl=>hg.block k hl (hne k hk)
theorem markTok_any(c r q a b:Int)(v:Value)(ss:List Int)(B K:Nat)(w:World)(h1:Hid (OwnI w B v ss))(hl:K+ss.length≤39999990)(hK:0<K):
    Calls Tryz.prog 97 #[.agg #[.int .i64 c,.int .i64 r,.int .i64 q,.int .i64 a,.int .i64 b,v],.int .i64 K] w fun e w'=>e=.returned (.int .i64 ((K+ss.length:Nat):Int))∧OwnI w' B v (qAm K ss.length)∧w.grownBy w' v.ownBlock:=by
  obtain⟨ao,cap,rfl⟩:=h1.out.form
  have HW:Hid (OwnI (w.alloc (.cells #[.int .i64 c,.int .i64 r,.int .i64 q,.int .i64 a,.int .i64 b,.slice ao ss.length cap] 39)) B (.slice ao ss.length cap) ss):=h1.out.alloc _
  have HG:Hid (w.grownBy (w.alloc (.cells #[.int .i64 c,.int .i64 r,.int .i64 q,.int .i64 a,.int .i64 b,.slice ao ss.length cap] 39)) (Value.slice ao ss.length cap).ownBlock):=qGu ((Below.refl _ _).alloc (Nat.le_refl _) _)
  clear h1
  go_enter Tryz.func97,Tryz.ntmps97
  go_wp2_with fail
  generalize w.alloc (.cells #[.int .i64 c,.int .i64 r,.int .i64 q,.int .i64 a,.int .i64 b,.slice ao ss.length cap] 39)=W at *
  refine(qFb _ ss B K W HW.out hl hK).mono ?_
  rintro e w1 ⟨rfl,hv1,hg1⟩
  go_wp2_with fail
  go_ret
  exact⟨rfl,hv1,qBi HG.out hg1⟩
theorem heldTok_any(c r q a b:Int)(v:Value)(n B K:Nat)(w:World)(h1:Hid (OwnI w B v (qAm K n)))(hl:K+n≤39999990)(hK:0<K):
    Calls Tryz.prog 101 #[.agg #[.int .i64 c,.int .i64 r,.int .i64 q,.int .i64 a,.int .i64 b,v],.int .i64 K] w fun e w'=>e=.returned (.int .i64 ((K+n:Nat):Int))∧Below w.heap.size w w':=by
  obtain⟨ao,cap,rfl⟩:=h1.out.form
  rw[qBw]at *
  have HW:Hid (OwnI (w.alloc (.cells #[.int .i64 c,.int .i64 r,.int .i64 q,.int .i64 a,.int .i64 b,.slice ao n cap] 39)) B (.slice ao n cap) (qAm K n)):=h1.out.alloc _
  have HB:Hid (Below w.heap.size w (w.alloc (.cells #[.int .i64 c,.int .i64 r,.int .i64 q,.int .i64 a,.int .i64 b,.slice ao n cap] 39))):=(Below.refl _ _).alloc (Nat.le_refl _) _
  clear h1
  go_enter Tryz.func101,Tryz.ntmps101
  go_wp2_with fail
  generalize w.alloc (.cells #[.int .i64 c,.int .i64 r,.int .i64 q,.int .i64 a,.int .i64 b,.slice ao n cap] 39)=W at *
  refine(qFf _ n B K W HW.out hl hK).mono ?_
  rintro e w1 ⟨rfl,rfl⟩
  have hz:decide (((K+n:Nat):Int)<0)=false:=by simp;omega
  go_wp2_with fail
  go_ret
  exact⟨rfl,HB.out⟩
theorem qAa{a b c:World}(h:Below a.heap.size a b)(k:Below b.heap.size b c):Below a.heap.size a c:=h.trans (k.mono h.size)
theorem qEr(w:World)(B:Nat):OwnI w B (.slice none 0 0) []:=⟨by simp,.inl ⟨rfl,rfl⟩⟩
theorem qBd{P:Program}{C:World→Prop}{id:Nat}{Q:Exit→Act→World→Prop}{a:Act}{w:World}{l:List Oper}(hm:P.follows .mixedOrders=true)(hB:Region.lexB .any l.toArray=true)(hC:C {w with drawn:=w.drawn+1})
    (h:wpQuiet P l.toArray C (fun a'=>∀w',C w'→Q .normal a' w') l a):(Code.region id l.toArray true).wp P Q a w:=
  wp_region_quiet (C:=C) hm hB hC (by simpa using h)
theorem qAd{P:Program}{C:World→Prop}{o:Oper}{a:Act}{K:Act→Prop}(v:Value)(h: ∀w,C w→(execOp a.eval o).run P w=.ok (.value v) w)(hk:K (a.put o.dst v)):o.quiet P a C K:=
  ⟨v,fun w hw=>by unfold Oper.quietAt;rw[h w hw];exact⟨rfl,rfl⟩,hk⟩
theorem qEe{P:Program}{C:World→Prop}{o:Oper}{a:Act}{K:Act→Prop}(v:Value)(f:FuncId)(args:Array Value)(h: ∀w,C w→(execOp a.eval o).run P w=.ok (.enter f args) w)(hc: ∀w,C w→Calls P f args w fun e w'=>e=.returned v∧C w')(hk:K (a.put o.dst v)):o.quiet P a C K:=
  ⟨v,fun w hw=>by unfold Oper.quietAt;rw[h w hw];exact⟨rfl,hc w hw⟩,hk⟩
theorem qBh{W w w':World}{b o0 o1 o2 o3:Nat}{v0 v1 v2 v3:Value}(hbb:b<W.heap.size)(h:(w.cell? ⟨b,o0,none⟩=some v0∧w.cell? ⟨b,o1,none⟩=some v1∧w.cell? ⟨b,o2,none⟩=some v2∧w.cell? ⟨b,o3,none⟩=some v3)∧Hid (Below W.heap.size W w))(hb:Below w.heap.size w w'):
    (w'.cell? ⟨b,o0,none⟩=some v0∧w'.cell? ⟨b,o1,none⟩=some v1∧w'.cell? ⟨b,o2,none⟩=some v2∧w'.cell? ⟨b,o3,none⟩=some v3)∧Hid (Below W.heap.size W w'):=by
  obtain⟨⟨h0,h1,h2,h3⟩,h4⟩:=h
  have hlt:b<w.heap.size:=Nat.lt_of_lt_of_le hbb h4.out.size
  exact⟨⟨(hb.cell (p:=⟨b,o0,none⟩) hlt).trans h0,(hb.cell (p:=⟨b,o1,none⟩) hlt).trans h1,(hb.cell (p:=⟨b,o2,none⟩) hlt).trans h2,(hb.cell (p:=⟨b,o3,none⟩) hlt).trans h3⟩,h4.out.trans (hb.mono h4.out.size)⟩
theorem qDf(ao:Option Addr)(cap:Nat)(ts:List It)(w:World)(hx:Hid (ItemsAt w ao ts))(hl:ts.length≤1048576):
    Calls Tryz.prog 104 #[.slice ao ts.length cap] w fun e w'=>e=.returned (.bool (iGo 0 ts))∧Below w.heap.size w w':=by
  go_enter Tryz.func104,Tryz.ntmps104
  go_wp2
  go_loopw [3] (fun i wr=>∃(k:Nat) (l:Int),k≤ts.length∧i=.int .i64 k∧Hid (ISt ts k l)∧Hid (Below w.heap.size w wr)) (fun i _=>ts.length - (intOf i).toNat)
  case atStart=>exact⟨0,0,Nat.zero_le _,rfl,iSt_start ts,Below.refl _ _⟩
  case round=>
    obtain⟨k,l,hk,rfl,hst,hb⟩:=hrel
    by_cases hlt:k<ts.length
    · have XR := hx.out.stays hb.out
      obtain⟨b,off,hao,hbb,h0,h1,h2,h3⟩:=XR k hlt
      have HP:Hid (∃x:It,x=ts[k]):=⟨_,rfl⟩
      obtain⟨⟨q,f,lv,tx⟩,hp⟩:=HP.out
      rw[←hp]at h0 h1 h2 h3
      have HQ:Hid ((q,f,lv,tx)=ts[k]):=hp
      clear hp HP
      dsimp only at h0 h1 h2 h3
      have i0:(0:Int)≤(k:Int):=by omega
      have i1:(k:Int)<(ts.length:Int):=by omega
      cases hit:itB q f lv tx with
      | false =>
        have HBAD:Hid (iGo 0 ts=false):=qGr hst.out hlt (.inl (by rw[←HQ.out];exact hit))
        subst hao
        clear XR
        go_wp2_with fail
        refine qBd (C:=(fun w'=>(w'.cell? ⟨b,off+k * 4,none⟩=some (.int .i64 q)∧w'.cell? ⟨b,off+k * 4+1,none⟩=some (.int .i64 f)∧w'.cell? ⟨b,off+k * 4+2,none⟩=some (.int .i64 lv)∧w'.cell? ⟨b,off+k * 4+3,none⟩=some (.string tx))∧Hid (Below wr.heap.size wr w'))) (by kernel_rfl) (by kernel_rfl) ⟨⟨h0,h1,h2,h3⟩,(Below.refl _ _).drew⟩ ?_
        go_big_quiet_want
        go_big_quiet_op
        go_big_quiet_on
        go_big_quiet_want
        go_big_quiet_op
        go_big_quiet_on
        go_big_quiet_want
        refine qAd (.pointer (some ⟨b,off+k * 4,none⟩)) (fun w' hw'=>by go_simp) ?_
        go_big_quiet_on
        simp only[Act.put,List.setIfInBounds_toArray,List.set_cons_zero,List.set_cons_succ]
        go_big_quiet_want
        refine qAd (.agg #[.int .i64 q,.int .i64 f,.int .i64 lv,.string tx]) (fun w' hw'=>by obtain⟨⟨g0,g1,g2,g3⟩,_⟩:=hw';go_simp) ?_
        go_big_quiet_on
        simp only[Act.put,List.setIfInBounds_toArray,List.set_cons_zero,List.set_cons_succ]
        go_big_quiet_want
        refine qEe (.bool false) 130 #[.agg #[.int .i64 q,.int .i64 f,.int .i64 lv,.string tx]] (fun w' hw'=>by go_simp) (fun w' hw'=>(qEq _ hit).mono fun e w'' ⟨he,hb1⟩=>⟨he,qBh hbb hw' hb1⟩) ?_
        go_big_quiet_on
        simp only[Act.put,List.setIfInBounds_toArray,List.set_cons_zero,List.set_cons_succ]
        go_big_quiet_want
        refine qAd (.bool true) (fun w' hw'=>by go_simp) ?_
        go_big_quiet_on
        simp only[Act.put,List.setIfInBounds_toArray,List.set_cons_zero,List.set_cons_succ]
        go_big_quiet_want
        go_big_quiet_op
        go_big_quiet_on
        go_big_quiet_skip
        go_big_quiet_skip
        go_big_quiet_skip
        go_big_quiet_skip
        go_big_quiet_skip
        go_big_quiet_skip
        go_big_quiet_skip
        go_big_quiet_skip
        go_big_quiet_skip
        go_big_quiet_skip
        go_big_quiet_skip
        go_big_quiet_skip
        go_big_quiet_skip
        go_big_quiet_skip
        go_big_quiet_skip
        go_big_quiet_skip
        go_big_quiet_want
        refine qAd (.bool true) (fun w' hw'=>by go_simp) ?_
        go_big_quiet_on
        simp only[Act.put,List.setIfInBounds_toArray,List.set_cons_zero,List.set_cons_succ]
        refine wpQuiet_nil ?_
        intro w1 hcw
        have B1:Hid (Below w.heap.size w w1):=hb.out.trans (hcw.2.out.mono hb.out.size)
        clear hcw h0 h1 h2 h3 hit
        go_wp2_with fail
        go_ret
        exact⟨by rw[HBAD.out];rfl,B1.out⟩
      | true =>
        have hq1:1≤q:=by
          have:=itB_true.1 hit
          unfold ItOk at this
          omega
        by_cases k0:k=0
        · have hl0 : l = 0 := hst.out.2.2.1 k0
          have HN:Hid (ISt ts (k+1) q):=by
            have:=qGq hst.out hlt (by rw[←HQ.out];exact hit) (by rw[←HQ.out];show l<q;omega)
            rw[←HQ.out]at this
            exact this
          have hk0: ¬0<k:=by omega
          subst hao
          clear XR k0 hl0
          go_wp2_with fail
          refine qBd (C:=(fun w'=>(w'.cell? ⟨b,off+k * 4,none⟩=some (.int .i64 q)∧w'.cell? ⟨b,off+k * 4+1,none⟩=some (.int .i64 f)∧w'.cell? ⟨b,off+k * 4+2,none⟩=some (.int .i64 lv)∧w'.cell? ⟨b,off+k * 4+3,none⟩=some (.string tx))∧Hid (Below wr.heap.size wr w'))) (by kernel_rfl) (by kernel_rfl) ⟨⟨h0,h1,h2,h3⟩,(Below.refl _ _).drew⟩ ?_
          go_big_quiet_want
          go_big_quiet_op
          go_big_quiet_on
          go_big_quiet_want
          go_big_quiet_op
          go_big_quiet_on
          go_big_quiet_want
          refine qAd (.pointer (some ⟨b,off+k * 4,none⟩)) (fun w' hw'=>by go_simp) ?_
          go_big_quiet_on
          simp only[Act.put,List.setIfInBounds_toArray,List.set_cons_zero,List.set_cons_succ]
          go_big_quiet_want
          refine qAd (.agg #[.int .i64 q,.int .i64 f,.int .i64 lv,.string tx]) (fun w' hw'=>by obtain⟨⟨g0,g1,g2,g3⟩,_⟩:=hw';go_simp) ?_
          go_big_quiet_on
          simp only[Act.put,List.setIfInBounds_toArray,List.set_cons_zero,List.set_cons_succ]
          go_big_quiet_want
          refine qEe (.bool true) 130 #[.agg #[.int .i64 q,.int .i64 f,.int .i64 lv,.string tx]] (fun w' hw'=>by go_simp) (fun w' hw'=>(qEq _ hit).mono fun e w'' ⟨he,hb1⟩=>⟨he,qBh hbb hw' hb1⟩) ?_
          go_big_quiet_on
          simp only[Act.put,List.setIfInBounds_toArray,List.set_cons_zero,List.set_cons_succ]
          go_big_quiet_want
          refine qAd (.bool false) (fun w' hw'=>by go_simp) ?_
          go_big_quiet_on
          simp only[Act.put,List.setIfInBounds_toArray,List.set_cons_zero,List.set_cons_succ]
          go_big_quiet_want
          go_big_quiet_op
          go_big_quiet_on
          go_big_quiet_want
          go_big_quiet_op
          go_big_quiet_on
          go_big_quiet_want
          refine qAd (.bool false) (fun w' hw'=>by go_simp) ?_
          go_big_quiet_on
          simp only[Act.put,List.setIfInBounds_toArray,List.set_cons_zero,List.set_cons_succ]
          go_big_quiet_want
          go_big_quiet_op
          go_big_quiet_on
          go_big_quiet_skip
          go_big_quiet_skip
          go_big_quiet_skip
          go_big_quiet_skip
          go_big_quiet_skip
          go_big_quiet_skip
          go_big_quiet_skip
          go_big_quiet_skip
          go_big_quiet_skip
          go_big_quiet_skip
          go_big_quiet_skip
          go_big_quiet_skip
          go_big_quiet_want
          refine qAd (.bool false) (fun w' hw'=>by go_simp) ?_
          go_big_quiet_on
          simp only[Act.put,List.setIfInBounds_toArray,List.set_cons_zero,List.set_cons_succ]
          go_big_quiet_want
          refine qAd (.bool false) (fun w' hw'=>by go_simp) ?_
          go_big_quiet_on
          simp only[Act.put,List.setIfInBounds_toArray,List.set_cons_zero,List.set_cons_succ]
          refine wpQuiet_nil ?_
          intro w1 hcw
          have B1:Hid (Below w.heap.size w w1):=hb.out.trans (hcw.2.out.mono hb.out.size)
          clear hcw h0 h1 h2 h3 hit
          go_wp2_with fail
          go_roundw
          case rel=>exact⟨k+1,q,by omega,by go_num,HN.out,B1.out⟩
          case measure=>simp[intOf];omega
        · obtain ⟨j, hj⟩ : ∃ j, k = j + 1 := ⟨k - 1, by omega⟩
          have hlj:j<ts.length:=by omega
          have hlv:l=ts[j].1:=hst.out.2.2.2 j hlj hj
          obtain⟨b2,off2,hao2,_,hpv,_,_,_⟩:=XR j hlj
          obtain⟨rfl,rfl⟩:b2=b∧off2=off:=by rw[hao]at hao2;simp at hao2;exact⟨hao2.1.symm,hao2.2.symm⟩
          rw[←hlv]at hpv
          have hk0:0<k:=by omega
          have hw1:IntKind.i64.wrap ((k:Int) - 1)=(j:Int):=by rw[IntKind.wrap_i64];omega
          have i2:(0:Int)≤(j:Int):=by omega
          have i3:(j:Int)<(ts.length:Int):=by omega
          by_cases hle:q≤l
          · have HBAD : Hid (iGo 0 ts = false) := qGr hst.out hlt (.inr (by rw [← HQ.out]; exact hle))
            subst hao
            clear XR hao2 hj hlv
            go_wp2_with fail
            refine qBd (C:=(fun w'=>(w'.cell? ⟨b2,off2+k * 4,none⟩=some (.int .i64 q)∧w'.cell? ⟨b2,off2+k * 4+1,none⟩=some (.int .i64 f)∧w'.cell? ⟨b2,off2+k * 4+2,none⟩=some (.int .i64 lv)∧w'.cell? ⟨b2,off2+k * 4+3,none⟩=some (.string tx))∧Hid (Below wr.heap.size wr w'))) (by kernel_rfl) (by kernel_rfl) ⟨⟨h0,h1,h2,h3⟩,(Below.refl _ _).drew⟩ ?_
            go_big_quiet_want
            go_big_quiet_op
            go_big_quiet_on
            go_big_quiet_want
            go_big_quiet_op
            go_big_quiet_on
            go_big_quiet_want
            refine qAd (.pointer (some ⟨b2,off2+k * 4,none⟩)) (fun w' hw'=>by go_simp) ?_
            go_big_quiet_on
            simp only[Act.put,List.setIfInBounds_toArray,List.set_cons_zero,List.set_cons_succ]
            go_big_quiet_want
            refine qAd (.agg #[.int .i64 q,.int .i64 f,.int .i64 lv,.string tx]) (fun w' hw'=>by obtain⟨⟨g0,g1,g2,g3⟩,_⟩:=hw';go_simp) ?_
            go_big_quiet_on
            simp only[Act.put,List.setIfInBounds_toArray,List.set_cons_zero,List.set_cons_succ]
            go_big_quiet_want
            refine qEe (.bool true) 130 #[.agg #[.int .i64 q,.int .i64 f,.int .i64 lv,.string tx]] (fun w' hw'=>by go_simp) (fun w' hw'=>(qEq _ hit).mono fun e w'' ⟨he,hb1⟩=>⟨he,qBh hbb hw' hb1⟩) ?_
            go_big_quiet_on
            simp only[Act.put,List.setIfInBounds_toArray,List.set_cons_zero,List.set_cons_succ]
            go_big_quiet_want
            refine qAd (.bool false) (fun w' hw'=>by go_simp) ?_
            go_big_quiet_on
            simp only[Act.put,List.setIfInBounds_toArray,List.set_cons_zero,List.set_cons_succ]
            go_big_quiet_want
            go_big_quiet_op
            go_big_quiet_on
            go_big_quiet_want
            go_big_quiet_op
            go_big_quiet_on
            go_big_quiet_want
            refine qAd (.bool true) (fun w' hw'=>by go_simp) ?_
            go_big_quiet_on
            simp only[Act.put,List.setIfInBounds_toArray,List.set_cons_zero,List.set_cons_succ]
            go_big_quiet_want
            go_big_quiet_op
            go_big_quiet_on
            go_big_quiet_want
            go_big_quiet_op
            go_big_quiet_on
            go_big_quiet_want
            go_big_quiet_op
            go_big_quiet_on
            go_big_quiet_want
            refine qAd (.int .i64 (j:Int)) (fun w' hw'=>by go_simp) ?_
            go_big_quiet_on
            simp only[Act.put,List.setIfInBounds_toArray,List.set_cons_zero,List.set_cons_succ]
            go_big_quiet_want
            refine qAd (.pointer (some ⟨b2,off2+j * 4,none⟩)) (fun w' hw'=>by go_simp) ?_
            go_big_quiet_on
            simp only[Act.put,List.setIfInBounds_toArray,List.set_cons_zero,List.set_cons_succ]
            go_big_quiet_want
            refine qAd (.pointer (some ⟨b2,off2+j * 4,none⟩)) (fun w' hw'=>by go_simp) ?_
            go_big_quiet_on
            simp only[Act.put,List.setIfInBounds_toArray,List.set_cons_zero,List.set_cons_succ]
            go_big_quiet_want
            refine qAd (.int .i64 l) (fun w' hw'=>by have g4:=(hw'.2.out.cell (p:=⟨b2,off2+j * 4,none⟩) hbb).trans hpv;go_simp) ?_
            go_big_quiet_on
            simp only[Act.put,List.setIfInBounds_toArray,List.set_cons_zero,List.set_cons_succ]
            go_big_quiet_want
            go_big_quiet_op
            go_big_quiet_on
            go_big_quiet_want
            go_big_quiet_op
            go_big_quiet_on
            go_big_quiet_want
            refine qAd (.pointer (some ⟨b2,off2+k * 4,none⟩)) (fun w' hw'=>by go_simp) ?_
            go_big_quiet_on
            simp only[Act.put,List.setIfInBounds_toArray,List.set_cons_zero,List.set_cons_succ]
            go_big_quiet_want
            refine qAd (.pointer (some ⟨b2,off2+k * 4,none⟩)) (fun w' hw'=>by go_simp) ?_
            go_big_quiet_on
            simp only[Act.put,List.setIfInBounds_toArray,List.set_cons_zero,List.set_cons_succ]
            go_big_quiet_want
            refine qAd (.int .i64 q) (fun w' hw'=>by obtain⟨⟨g0,g1,g2,g3⟩,_⟩:=hw';go_simp) ?_
            go_big_quiet_on
            simp only[Act.put,List.setIfInBounds_toArray,List.set_cons_zero,List.set_cons_succ]
            go_big_quiet_want
            refine qAd (.bool true) (fun w' hw'=>by go_simp) ?_
            go_big_quiet_on
            simp only[Act.put,List.setIfInBounds_toArray,List.set_cons_zero,List.set_cons_succ]
            go_big_quiet_want
            refine qAd (.bool true) (fun w' hw'=>by go_simp) ?_
            go_big_quiet_on
            simp only[Act.put,List.setIfInBounds_toArray,List.set_cons_zero,List.set_cons_succ]
            go_big_quiet_want
            refine qAd (.bool true) (fun w' hw'=>by go_simp) ?_
            go_big_quiet_on
            simp only[Act.put,List.setIfInBounds_toArray,List.set_cons_zero,List.set_cons_succ]
            refine wpQuiet_nil ?_
            intro w1 hcw
            have B1:Hid (Below w.heap.size w w1):=hb.out.trans (hcw.2.out.mono hb.out.size)
            clear hpv hcw h0 h1 h2 h3 hit
            go_wp2_with fail
            go_ret
            exact⟨by rw[HBAD.out];rfl,B1.out⟩
          ·
            have HN:Hid (ISt ts (k+1) q):=by
              have:=qGq hst.out hlt (by rw[←HQ.out];exact hit) (by rw[←HQ.out];show l<q;omega)
              rw[←HQ.out]at this
              exact this
            subst hao
            clear XR hao2 hj hlv
            go_wp2_with fail
            refine qBd (C:=(fun w'=>(w'.cell? ⟨b2,off2+k * 4,none⟩=some (.int .i64 q)∧w'.cell? ⟨b2,off2+k * 4+1,none⟩=some (.int .i64 f)∧w'.cell? ⟨b2,off2+k * 4+2,none⟩=some (.int .i64 lv)∧w'.cell? ⟨b2,off2+k * 4+3,none⟩=some (.string tx))∧Hid (Below wr.heap.size wr w'))) (by kernel_rfl) (by kernel_rfl) ⟨⟨h0,h1,h2,h3⟩,(Below.refl _ _).drew⟩ ?_
            go_big_quiet_want
            go_big_quiet_op
            go_big_quiet_on
            go_big_quiet_want
            go_big_quiet_op
            go_big_quiet_on
            go_big_quiet_want
            refine qAd (.pointer (some ⟨b2,off2+k * 4,none⟩)) (fun w' hw'=>by go_simp) ?_
            go_big_quiet_on
            simp only[Act.put,List.setIfInBounds_toArray,List.set_cons_zero,List.set_cons_succ]
            go_big_quiet_want
            refine qAd (.agg #[.int .i64 q,.int .i64 f,.int .i64 lv,.string tx]) (fun w' hw'=>by obtain⟨⟨g0,g1,g2,g3⟩,_⟩:=hw';go_simp) ?_
            go_big_quiet_on
            simp only[Act.put,List.setIfInBounds_toArray,List.set_cons_zero,List.set_cons_succ]
            go_big_quiet_want
            refine qEe (.bool true) 130 #[.agg #[.int .i64 q,.int .i64 f,.int .i64 lv,.string tx]] (fun w' hw'=>by go_simp) (fun w' hw'=>(qEq _ hit).mono fun e w'' ⟨he,hb1⟩=>⟨he,qBh hbb hw' hb1⟩) ?_
            go_big_quiet_on
            simp only[Act.put,List.setIfInBounds_toArray,List.set_cons_zero,List.set_cons_succ]
            go_big_quiet_want
            refine qAd (.bool false) (fun w' hw'=>by go_simp) ?_
            go_big_quiet_on
            simp only[Act.put,List.setIfInBounds_toArray,List.set_cons_zero,List.set_cons_succ]
            go_big_quiet_want
            go_big_quiet_op
            go_big_quiet_on
            go_big_quiet_want
            go_big_quiet_op
            go_big_quiet_on
            go_big_quiet_want
            refine qAd (.bool true) (fun w' hw'=>by go_simp) ?_
            go_big_quiet_on
            simp only[Act.put,List.setIfInBounds_toArray,List.set_cons_zero,List.set_cons_succ]
            go_big_quiet_want
            go_big_quiet_op
            go_big_quiet_on
            go_big_quiet_want
            go_big_quiet_op
            go_big_quiet_on
            go_big_quiet_want
            go_big_quiet_op
            go_big_quiet_on
            go_big_quiet_want
            refine qAd (.int .i64 (j:Int)) (fun w' hw'=>by go_simp) ?_
            go_big_quiet_on
            simp only[Act.put,List.setIfInBounds_toArray,List.set_cons_zero,List.set_cons_succ]
            go_big_quiet_want
            refine qAd (.pointer (some ⟨b2,off2+j * 4,none⟩)) (fun w' hw'=>by go_simp) ?_
            go_big_quiet_on
            simp only[Act.put,List.setIfInBounds_toArray,List.set_cons_zero,List.set_cons_succ]
            go_big_quiet_want
            refine qAd (.pointer (some ⟨b2,off2+j * 4,none⟩)) (fun w' hw'=>by go_simp) ?_
            go_big_quiet_on
            simp only[Act.put,List.setIfInBounds_toArray,List.set_cons_zero,List.set_cons_succ]
            go_big_quiet_want
            refine qAd (.int .i64 l) (fun w' hw'=>by have g4:=(hw'.2.out.cell (p:=⟨b2,off2+j * 4,none⟩) hbb).trans hpv;go_simp) ?_
            go_big_quiet_on
            simp only[Act.put,List.setIfInBounds_toArray,List.set_cons_zero,List.set_cons_succ]
            go_big_quiet_want
            go_big_quiet_op
            go_big_quiet_on
            go_big_quiet_want
            go_big_quiet_op
            go_big_quiet_on
            go_big_quiet_want
            refine qAd (.pointer (some ⟨b2,off2+k * 4,none⟩)) (fun w' hw'=>by go_simp) ?_
            go_big_quiet_on
            simp only[Act.put,List.setIfInBounds_toArray,List.set_cons_zero,List.set_cons_succ]
            go_big_quiet_want
            refine qAd (.pointer (some ⟨b2,off2+k * 4,none⟩)) (fun w' hw'=>by go_simp) ?_
            go_big_quiet_on
            simp only[Act.put,List.setIfInBounds_toArray,List.set_cons_zero,List.set_cons_succ]
            go_big_quiet_want
            refine qAd (.int .i64 q) (fun w' hw'=>by obtain⟨⟨g0,g1,g2,g3⟩,_⟩:=hw';go_simp) ?_
            go_big_quiet_on
            simp only[Act.put,List.setIfInBounds_toArray,List.set_cons_zero,List.set_cons_succ]
            go_big_quiet_want
            refine qAd (.bool false) (fun w' hw'=>by go_simp) ?_
            go_big_quiet_on
            simp only[Act.put,List.setIfInBounds_toArray,List.set_cons_zero,List.set_cons_succ]
            go_big_quiet_want
            refine qAd (.bool false) (fun w' hw'=>by go_simp) ?_
            go_big_quiet_on
            simp only[Act.put,List.setIfInBounds_toArray,List.set_cons_zero,List.set_cons_succ]
            go_big_quiet_want
            refine qAd (.bool false) (fun w' hw'=>by go_simp) ?_
            go_big_quiet_on
            simp only[Act.put,List.setIfInBounds_toArray,List.set_cons_zero,List.set_cons_succ]
            refine wpQuiet_nil ?_
            intro w1 hcw
            have B1:Hid (Below w.heap.size w w1):=hb.out.trans (hcw.2.out.mono hb.out.size)
            clear hpv hcw h0 h1 h2 h3 hit
            go_wp2_with fail
            go_roundw
            case rel=>exact⟨k+1,q,by omega,by go_num,HN.out,B1.out⟩
            case measure=>simp[intOf];omega
    · go_wp2_with fail
      go_ret
      exact⟨by rw[iSt_end hst.out (by omega)];rfl,hb.out⟩
theorem Tryz.infoI:(Tryz.prog.info? 108).map (fun i=>(i.zero,i.size,i.bytes))=some (some (.agg #[.int .i64 0,.int .i64 0,.int .i64 0,.string ⟨#[]⟩]),4,40):=by kernel_rfl
/-- the first k items of a row. -/
def RowIt(w:World)(g n:Nat)(ts:List It)(k:Nat):Prop:=
  ∃arr:Array Value,w.heap[g]? =some (.cells arr 108 (0,0))∧arr.size=n * 4∧∀i (h:i<ts.length),i<k→arr[i * 4]? =some (.int .i64 ts[i].1)∧arr[i * 4+1]? =some (.int .i64 ts[i].2.1)∧arr[i * 4+2]? =some (.int .i64 ts[i].2.2.1)∧arr[i * 4+3]? =some (.string ts[i].2.2.2)
theorem RowIt.stays{w w':World}{B g n k:Nat}{ts:List It}(h:RowIt w g n ts k)(hb:Below B w w')(hg:g<B):RowIt w' g n ts k:=by
  obtain⟨arr,h1,h2⟩:=h
  exact⟨arr,(hb.block g hg).trans h1,h2⟩
theorem RowIt.lt{w:World}{g n k:Nat}{ts:List It}(h:RowIt w g n ts k):g<w.heap.size:=by
  obtain⟨arr,h1,_⟩:=h
  exact(Array.getElem?_eq_some_iff.1 h1).1
theorem RowIt.cell{w:World}{g n k:Nat}{ts:List It}(h:RowIt w g n ts k)(i:Nat)(hi:i<n * 4): ∃v,w.cell? ⟨g,i,none⟩=some v:=by
  obtain⟨arr,h1,h2,_⟩:=h
  refine⟨arr[i]'(by omega),?_⟩
  rw[cell_of_row w g i _ 108 (0,0) h1]
  simp[h2,hi]
theorem RowIt.frozen{w:World}{g n k:Nat}{ts:List It}(h:RowIt w g n ts k)(i:Nat):w.frozen? ⟨g,i,none⟩=false:=by
  obtain⟨arr,h1,_⟩:=h
  exact frozen_of_row w g i _ 108 h1
theorem RowIt.set{w:World}{g k:Nat}{ts:List It}(h:RowIt w g ts.length ts k)(hk:k<ts.length):
    RowIt ((((w.setCell ⟨g,k * 4,none⟩ (.int .i64 ts[k].1)).setCell ⟨g,k * 4+1,none⟩ (.int .i64 ts[k].2.1)).setCell ⟨g,k * 4+2,none⟩ (.int .i64 ts[k].2.2.1)).setCell ⟨g,k * 4+3,none⟩ (.string ts[k].2.2.2)) g ts.length ts (k+1):=by
  obtain⟨arr,h1,h2,h3⟩:=h
  have e0:=heap_setCell_same w g (k * 4) _ 108 (.int .i64 ts[k].1) h1
  have e1:=heap_setCell_same _ g (k * 4+1) _ 108 (.int .i64 ts[k].2.1) e0
  have e2:=heap_setCell_same _ g (k * 4+2) _ 108 (.int .i64 ts[k].2.2.1) e1
  have e3:=heap_setCell_same _ g (k * 4+3) _ 108 (.string ts[k].2.2.2) e2
  refine⟨_,e3,by simp[h2],fun i hi hik=>?_⟩
  by_cases hik2:i=k
  · subst hik2
    refine⟨?_,?_,?_,?_⟩<;>simp[Array.getElem?_setIfInBounds,h2]<;>omega
  · obtain ⟨x0, x1, x2, x3⟩ := h3 i hi (by omega)
    have n0: ∀a c,a<4→c<4→¬k * 4+a=i * 4+c:=fun a c _ _=>by omega
    refine⟨?_,?_,?_,?_⟩
    · rw[Array.getElem?_setIfInBounds_ne (by omega),Array.getElem?_setIfInBounds_ne (by omega),Array.getElem?_setIfInBounds_ne (by omega),Array.getElem?_setIfInBounds_ne (by omega)];exact x0
    · rw[Array.getElem?_setIfInBounds_ne (by omega),Array.getElem?_setIfInBounds_ne (by omega),Array.getElem?_setIfInBounds_ne (by omega),Array.getElem?_setIfInBounds_ne (by omega)];exact x1
    · rw[Array.getElem?_setIfInBounds_ne (by omega),Array.getElem?_setIfInBounds_ne (by omega),Array.getElem?_setIfInBounds_ne (by omega),Array.getElem?_setIfInBounds_ne (by omega)];exact x2
    · rw[Array.getElem?_setIfInBounds_ne (by omega),Array.getElem?_setIfInBounds_ne (by omega),Array.getElem?_setIfInBounds_ne (by omega),Array.getElem?_setIfInBounds_ne (by omega)];exact x3
theorem RowIt.items{w:World}{g n:Nat}{ts:List It}(h:RowIt w g n ts ts.length):ItemsAt w (some ⟨g,0,none⟩) ts:=by
  have hlt:=h.lt
  obtain⟨arr,h1,h2,h3⟩:=h
  intro i hi
  obtain⟨x0,x1,x2,x3⟩:=h3 i hi hi
  refine⟨g,0,rfl,hlt,?_,?_,?_,?_⟩
  · rw[Nat.zero_add,cell_of_row w g _ _ 108 (0,0) h1];exact x0
  · rw[Nat.zero_add,cell_of_row w g _ _ 108 (0,0) h1];exact x1
  · rw[Nat.zero_add,cell_of_row w g _ _ 108 (0,0) h1];exact x2
  · rw[Nat.zero_add,cell_of_row w g _ _ 108 (0,0) h1];exact x3
theorem cells8_step{W w w':World}{b1 b2 o0 o1 o2 o3 p0 p1 p2 p3:Nat}{v0 v1 v2 v3:Value}(h1:b1<W.heap.size)(h2:b2<W.heap.size)
    (h:((w.cell? ⟨b1,o0,none⟩=some v0∧w.cell? ⟨b1,o1,none⟩=some v1∧w.cell? ⟨b1,o2,none⟩=some v2∧w.cell? ⟨b1,o3,none⟩=some v3)∧w.cell? ⟨b2,p0,none⟩=some v0∧w.cell? ⟨b2,p1,none⟩=some v1∧w.cell? ⟨b2,p2,none⟩=some v2∧w.cell? ⟨b2,p3,none⟩=some v3)∧Hid (Below W.heap.size W w)) (hb:Below w.heap.size w w'):
    ((w'.cell? ⟨b1,o0,none⟩=some v0∧w'.cell? ⟨b1,o1,none⟩=some v1∧w'.cell? ⟨b1,o2,none⟩=some v2∧w'.cell? ⟨b1,o3,none⟩=some v3)∧w'.cell? ⟨b2,p0,none⟩=some v0∧w'.cell? ⟨b2,p1,none⟩=some v1∧w'.cell? ⟨b2,p2,none⟩=some v2∧w'.cell? ⟨b2,p3,none⟩=some v3)∧Hid (Below W.heap.size W w'):=by
  obtain⟨⟨ha,hc⟩,h4⟩:=h
  have A:=qBh h1 ⟨ha,h4⟩ hb
  have C:=qBh h2 ⟨hc,h4⟩ hb
  exact⟨⟨A.1,C.1⟩,A.2⟩
theorem eqItems_same(a1 a2:Option Addr)(c1 c2:Nat)(ts:List It)(w:World)(hx1:Hid (ItemsAt w a1 ts))(hx2:Hid (ItemsAt w a2 ts))(hl:ts.length≤1048576):
    Calls Tryz.prog 92 #[.slice a1 ts.length c1,.slice a2 ts.length c2] w fun e w'=>e=.returned (.bool true)∧Below w.heap.size w w':=by
  go_enter Tryz.func92,Tryz.ntmps92
  go_wp2
  go_loopw [5] (fun i wr=>∃k:Nat,k≤ts.length∧i=.int .i64 k∧Hid (Below w.heap.size w wr)) (fun i _=>ts.length - (intOf i).toNat)
  case atStart=>exact⟨0,by omega,rfl,Below.refl _ _⟩
  case round=>
    obtain⟨k,hk,rfl,hb⟩:=hrel
    by_cases hlt:k<ts.length
    · obtain ⟨b1, off1, rfl, hbb1, h0, h1, h2, h3⟩ := hx1.out.stays hb.out k hlt
      obtain⟨b2,off2,rfl,hbb2,g0,g1,g2,g3⟩:=hx2.out.stays hb.out k hlt
      have HP:Hid (∃x:It,x=ts[k]):=⟨_,rfl⟩
      obtain⟨⟨q,f,lv,tx⟩,hp⟩:=HP.out
      rw[←hp]at h0 h1 h2 h3 g0 g1 g2 g3
      clear hp HP
      dsimp only at h0 h1 h2 h3 g0 g1 g2 g3
      have i0:(0:Int)≤(k:Int):=by omega
      have i1:(k:Int)<(ts.length:Int):=by omega
      go_wp2_with fail
      refine qBd (C:=(fun w'=>((w'.cell? ⟨b1,off1+k * 4,none⟩=some (.int .i64 q)∧w'.cell? ⟨b1,off1+k * 4+1,none⟩=some (.int .i64 f)∧w'.cell? ⟨b1,off1+k * 4+2,none⟩=some (.int .i64 lv)∧w'.cell? ⟨b1,off1+k * 4+3,none⟩=some (.string tx))∧w'.cell? ⟨b2,off2+k * 4,none⟩=some (.int .i64 q)∧w'.cell? ⟨b2,off2+k * 4+1,none⟩=some (.int .i64 f)∧w'.cell? ⟨b2,off2+k * 4+2,none⟩=some (.int .i64 lv)∧w'.cell? ⟨b2,off2+k * 4+3,none⟩=some (.string tx))∧Hid (Below wr.heap.size wr w'))) (by kernel_rfl) (by kernel_rfl) ⟨⟨⟨h0,h1,h2,h3⟩,g0,g1,g2,g3⟩,(Below.refl _ _).drew⟩ ?_
      go_big_quiet_want
      go_big_quiet_op
      go_big_quiet_on
      go_big_quiet_want
      go_big_quiet_op
      go_big_quiet_on
      go_big_quiet_want
      refine qAd (.pointer (some ⟨b1,off1+k * 4,none⟩)) (fun w' hw'=>by go_simp) ?_
      go_big_quiet_on
      simp only[Act.put,List.setIfInBounds_toArray,List.set_cons_zero,List.set_cons_succ]
      go_big_quiet_want
      refine qAd (.agg #[.int .i64 q,.int .i64 f,.int .i64 lv,.string tx]) (fun w' hw'=>by obtain⟨⟨⟨j0,j1,j2,j3⟩,_⟩,_⟩:=hw';go_simp) ?_
      go_big_quiet_on
      simp only[Act.put,List.setIfInBounds_toArray,List.set_cons_zero,List.set_cons_succ]
      go_big_quiet_want
      go_big_quiet_op
      go_big_quiet_on
      go_big_quiet_want
      go_big_quiet_op
      go_big_quiet_on
      go_big_quiet_want
      refine qAd (.pointer (some ⟨b2,off2+k * 4,none⟩)) (fun w' hw'=>by go_simp) ?_
      go_big_quiet_on
      simp only[Act.put,List.setIfInBounds_toArray,List.set_cons_zero,List.set_cons_succ]
      go_big_quiet_want
      refine qAd (.agg #[.int .i64 q,.int .i64 f,.int .i64 lv,.string tx]) (fun w' hw'=>by obtain⟨⟨_,j0,j1,j2,j3⟩,_⟩:=hw';go_simp) ?_
      go_big_quiet_on
      simp only[Act.put,List.setIfInBounds_toArray,List.set_cons_zero,List.set_cons_succ]
      go_big_quiet_want
      refine qEe (.bool true) 128 #[.agg #[.int .i64 q,.int .i64 f,.int .i64 lv,.string tx],.agg #[.int .i64 q,.int .i64 f,.int .i64 lv,.string tx]] (fun w' hw'=>by go_simp) (fun w' hw'=>(qFh q f lv tx _).mono fun e w'' ⟨he,hb1⟩=>⟨he,cells8_step hbb1 hbb2 hw' hb1⟩) ?_
      go_big_quiet_on
      simp only[Act.put,List.setIfInBounds_toArray,List.set_cons_zero,List.set_cons_succ]
      go_big_quiet_want
      refine qAd (.bool false) (fun w' hw'=>by go_simp) ?_
      go_big_quiet_on
      simp only[Act.put,List.setIfInBounds_toArray,List.set_cons_zero,List.set_cons_succ]
      refine wpQuiet_nil ?_
      intro w1 hcw
      have B1:Hid (Below w.heap.size w w1):=hb.out.trans (hcw.2.out.mono hb.out.size)
      clear hcw h0 h1 h2 h3 g0 g1 g2 g3
      go_wp2_with fail
      go_roundw
      case rel=>exact⟨k+1,by omega,by go_num,B1.out⟩
      case measure=>simp[intOf];omega
    · go_wp2_with fail
      go_ret
      exact⟨rfl,hb.out⟩
theorem spTokenOk_7(c r q a b:Int)(ao:Option Addr)(cap:Nat)(ws:List Int)(w:World)(hx:Hid (IntsAt w ao ws))(h20:ws.length≤20)(h1:decide (1≤c∧c≤9)=true)(h2:decide (1≤r∧r≤1000000000)=true)(h3:decide (0≤q∧q≤60)=true)(h4:decide (0≤a∧a≤q)=true)(h5:decide (0≤b∧b≤5)=true):
    Calls Tryz.prog 107 #[.agg #[.int .i64 c,.int .i64 r,.int .i64 q,.int .i64 a,.int .i64 b,.slice ao ws.length cap]] w fun e w'=>e=.returned (.bool (wGo 0 q ws))∧Below w.heap.size w w':=by
  have HB: ∀o:Obj,Hid (Below w.heap.size w (w.alloc o)):=fun o=>(Below.refl _ _).alloc (Nat.le_refl _) _
  have HX: ∀o,Hid (IntsAt (w.alloc o) ao ws):=fun o=>hx.out.stays (HB o).out
  have HT:Hid (TokAt (w.alloc (.cells #[.int .i64 c,.int .i64 r,.int .i64 q,.int .i64 a,.int .i64 b,.slice ao ws.length cap] 39)) w.heap.size c r q a b (.slice ao ws.length cap)):=heap_alloc_new w _
  have hB:=HB (.cells #[.int .i64 c,.int .i64 r,.int .i64 q,.int .i64 a,.int .i64 b,.slice ao ws.length cap] 39)
  have hX:=HX (.cells #[.int .i64 c,.int .i64 r,.int .i64 q,.int .i64 a,.int .i64 b,.slice ao ws.length cap] 39)
  clear HB HX hx
  go_enter Tryz.func107,Tryz.ntmps107
  go_wp2_with fail
  refine(qAi _ h1).mono ?_
  rintro e w1 ⟨rfl,rfl⟩
  go_wp2_with fail
  refine(qAi _ h2).mono ?_
  rintro e w1 ⟨rfl,rfl⟩
  go_wp2_with fail
  refine(qAi _ h3).mono ?_
  rintro e w1 ⟨rfl,rfl⟩
  go_wp2_with fail
  refine(qAi _ h4).mono ?_
  rintro e w1 ⟨rfl,rfl⟩
  go_wp2_with fail
  refine(qAi _ h5).mono ?_
  rintro e w1 ⟨rfl,rfl⟩
  go_wp2_with fail
  generalize w.alloc (.cells #[.int .i64 c,.int .i64 r,.int .i64 q,.int .i64 a,.int .i64 b,.slice ao ws.length cap] 39)=W at *
  go_loopw [3] (fun i wr=>∃(k:Nat) (l:Int),k≤ws.length∧i=.int .i64 k∧Hid (WSt ws q k l)∧Hid (TokAt wr w.heap.size c r q a b (.slice ao ws.length cap))∧Hid (IntsAt wr ao ws)∧Hid (Below w.heap.size w wr)) (fun i _=>ws.length - (intOf i).toNat)
  case atStart=>exact⟨0,0,Nat.zero_le _,rfl,qDe ws q,HT.out,hX.out,hB.out⟩
  case round=>
    clear HT hX hB h1 h2 h3 h4 h5
    obtain⟨k,l,hk,rfl,hst,HT,hX,hB⟩:=hrel
    obtain⟨c0,c1,c2,c3,c4,c5⟩:=HT.out.cells
    clear c0 c1 c3 c4
    by_cases hlt:k<ws.length
    · obtain ⟨bb, off, hao, hbb, hc⟩ := hX.out k hlt
      obtain⟨x,ht⟩: ∃x,x=ws[k]:=⟨_,rfl⟩
      rw[←ht]at hc
      have HV:Hid (x=ws[k]):=ht
      have i0:(0:Int)≤(k:Int):=by omega
      have i1:(k:Int)<(ws.length:Int):=by omega
      have hc':wr.cell? ⟨bb,off+(k:Int).toNat,none⟩=some (.int .i64 x):=by rw[Int.toNat_natCast];exact hc
      by_cases h0:k=0
      · have HL : Hid (l = 0) := hst.out.2.2.1 h0
        have hk0: ¬0<k:=by omega
        subst hao
        clear h0 ht
        cases hi:decide (1≤x∧x≤q)with
        | false =>
          go_wp2_with fail
          go_quiet (first|(go_at_call 60;exact Calls.quiet_of_same (qAi _ hi)))
          go_wp2_with fail
          go_ret
          have hbad:x≤l∨q<x:=by have:=HL.out;simp at hi;omega
          exact⟨by rw[qBz hst.out hlt HV.out hbad];rfl,qAk hB.out _⟩
        | true =>
          go_wp2_with fail
          go_quiet (first|(go_at_call 60;exact Calls.quiet_of_same (qAi _ hi)))
          go_wp2_with fail
          go_roundw
          case rel=>exact⟨k+1,x,by omega,by go_num,qCu hst.out hlt HV.out (by have:=HL.out;simp at hi;omega) (by simp at hi;omega),HT.out,hX.out,qAk hB.out _⟩
          case measure=>simp[intOf];omega
      · obtain ⟨j, hj⟩ : ∃ j, k = j + 1 := ⟨k - 1, by omega⟩
        have hlj:j<ws.length:=by omega
        have HL:Hid (l=ws[j]'hlj∧0≤l):=⟨hst.out.2.2.2 j hlj hj,hst.out.2.1⟩
        obtain⟨b2,off2,hao2,_,hc2⟩:=hX.out j hlj
        obtain⟨rfl,rfl⟩:b2=bb∧off2=off:=by rw[hao]at hao2;simp at hao2;exact⟨hao2.1.symm,hao2.2.symm⟩
        rw[←HL.out.1]at hc2
        have hk0:0<k:=by omega
        have hw1:IntKind.i64.wrap ((k:Int) - 1)=(j:Int):=by rw[IntKind.wrap_i64];omega
        have i2:(0:Int)≤(j:Int):=by omega
        have i3:(j:Int)<(ws.length:Int):=by omega
        have hc3:wr.cell? ⟨b2,off2+(j:Int).toNat,none⟩=some (.int .i64 l):=by rw[Int.toNat_natCast];exact hc2
        subst hao
        have HJ:Hid (k=j+1):=hj
        clear h0 ht hj hao2
        cases hi:decide (1≤x∧x≤q)with
        | false =>
          go_wp2_with fail
          go_quiet (first|(go_at_call 60;exact Calls.quiet_of_same (qAi _ hi)))
          go_wp2_with fail
          go_ret
          have hbad:x≤l∨q<x:=by have:=HL.out.2;simp at hi;omega
          exact⟨by rw[qBz hst.out hlt HV.out hbad];rfl,qAk hB.out _⟩
        | true =>
          by_cases hp:x≤l
          ·
            go_wp2_with fail
            go_quiet (first|(go_at_call 60;exact Calls.quiet_of_same (qAi _ hi)))
            go_wp2_with fail
            go_ret
            have hbad:x≤l∨q<x:=by exact .inl hp
            exact⟨by rw[qBz hst.out hlt HV.out hbad];rfl,qAk hB.out _⟩
          ·
            go_wp2_with fail
            go_quiet (first|(go_at_call 60;exact Calls.quiet_of_same (qAi _ hi)))
            go_wp2_with fail
            go_roundw
            case rel=>exact⟨k+1,x,by omega,by go_num,qCu hst.out hlt HV.out (by omega) (by simp at hi;omega),HT.out,hX.out,qAk hB.out _⟩
            case measure=>simp[intOf];omega
    · go_wp2_with fail
      go_ret
      exact⟨by rw[qGg hst.out (by omega)];rfl,hB.out⟩
theorem spTokenOk_5(c r q a b:Int)(ao:Option Addr)(cap:Nat)(ws:List Int)(w:World)(hx:Hid (IntsAt w ao ws))(hl:ws.length≤1048576)(h1:decide (1≤c∧c≤9)=true)(h2:decide (1≤r∧r≤1000000000)=true)(h3:decide (0≤q∧q≤60)=true)(h4:decide (0≤a∧a≤q)=true)(h5:decide (0≤b∧b≤5)=true):
    Calls Tryz.prog 107 #[.agg #[.int .i64 c,.int .i64 r,.int .i64 q,.int .i64 a,.int .i64 b,.slice ao ws.length cap]] w fun e w'=>e=.returned (.bool (wB ws q))∧Below w.heap.size w w':=by
  unfold wB
  by_cases h20:20<ws.length
  · have hd : decide ((ws.length : Int) ≤ 20) = false := by simp; omega
    rw[hd]
    exact spTokenOk_6 c r q a b ao cap ws w h20 h1 h2 h3 h4 h5
  · have hd : decide ((ws.length : Int) ≤ 20) = true := by simp; omega
    rw[hd,Bool.true_and]
    exact spTokenOk_7 c r q a b ao cap ws w hx (by omega) h1 h2 h3 h4 h5
theorem qGk(c r q a b:Int)(ao:Option Addr)(cap:Nat)(ws:List Int)(w:World)(hx:Hid (IntsAt w ao ws))(hl:ws.length≤1048576):
    Calls Tryz.prog 107 #[.agg #[.int .i64 c,.int .i64 r,.int .i64 q,.int .i64 a,.int .i64 b,.slice ao ws.length cap]] w fun e w'=>e=.returned (.bool (tkB c r q a b ws))∧Below w.heap.size w w':=by
  unfold tkB
  cases h1:decide (1≤c∧c≤9)with
  |false=>exact spTokenOk_0 c r q a b ao cap ws w h1
  | true =>
    cases h2:decide (1≤r∧r≤1000000000)with
    |false=>exact spTokenOk_1 c r q a b ao cap ws w h1 h2
    | true =>
      cases h3:decide (0≤q∧q≤60)with
      |false=>exact spTokenOk_2 c r q a b ao cap ws w h1 h2 h3
      | true =>
        cases h4:decide (0≤a∧a≤q)with
        |false=>exact spTokenOk_3 c r q a b ao cap ws w h1 h2 h3 h4
        | true =>
          cases h5:decide (0≤b∧b≤5)with
          |false=>exact spTokenOk_4 c r q a b ao cap ws w h1 h2 h3 h4 h5
          |true=>exact spTokenOk_5 c r q a b ao cap ws w hx hl h1 h2 h3 h4 h5
/-- a ring is right. -/
def qBc(i:Int)(ms:List Int):Bool:=decide (1≤i∧i≤9)&&(decide (0<ms.length)&&wGo 0 5 ms)
theorem wGo_len: ∀(ms:List Int) (l:Int),wGo l 5 ms=true→l≤5→(ms.length:Int)+l≤5:=by
  intro ms
  induction ms with
  |nil=>intro l _ h;simp;omega
  | cons x xs ih =>
    intro l h hl
    by_cases h1:l<x∧x≤5
    · rw [wGo_step h1.1 h1.2] at h
      have:=ih x h h1.2
      simp only[List.length_cons,Int.natCast_add]
      omega
    · rw [wGo_bad (by omega)] at h
      cases h
theorem daemons_any(ao:Option Addr)(cap:Nat)(ws:List Int)(w:World)(hx:Hid (IntsAt w ao ws))(hl:ws.length≤1048576):
    Calls Tryz.prog 116 #[.slice ao ws.length cap] w fun e w'=>e=.returned (.bool (wGo 0 5 ws))∧w'=w:=by
  go_enter Tryz.func116,Tryz.ntmps116
  go_wp2
  go_loop [3,8] (fun L i=>∃(k:Nat) (l:Int),k≤ws.length∧L=.int .i64 l∧i=.int .i64 k∧Hid (WSt ws 5 k l)) (fun _ i=>ws.length - (intOf i).toNat)
  case atStart=>exact⟨0,0,Nat.zero_le _,rfl,rfl,qDe ws 5⟩
  case round=>
    obtain⟨k,l,hk,rfl,rfl,hst⟩:=hrel
    by_cases hlt:k<ws.length
    · obtain ⟨b, off, rfl, hbb, hc⟩ := hx.out k hlt
      obtain⟨x,ht⟩: ∃x,x=ws[k]:=⟨_,rfl⟩
      rw[←ht]at hc
      have HT:Hid (x=ws[k]):=ht
      clear ht
      by_cases h1:x≤l
      · go_wp2
        go_ret
        exact⟨by rw[qBz hst.out hlt HT.out (.inl h1)];rfl,rfl⟩
      · by_cases h2 : 5 < x
        · go_wp2
          go_ret
          exact⟨by rw[qBz hst.out hlt HT.out (.inr h2)];simp,rfl⟩
        · go_wp2
          go_round
          case rel=>exact⟨k+1,x,by omega,rfl,by go_num,qCu hst.out hlt HT.out (by omega) (by omega)⟩
          case measure=>simp[intOf];omega
    · go_wp2
      go_ret
      exact⟨by rw[qGg hst.out (by omega)];rfl,rfl⟩
/-- the block g is a ring. -/
def RgAt(w:World)(g:Nat)(i:Int)(v:Value):Prop:=w.heap[g]? =some (.cells #[.int .i64 i,v] 37 (0,0))
theorem RgAt.cells{w:World}{g:Nat}{i:Int}{v:Value}(h:RgAt w g i v):w.cell? ⟨g,0,none⟩=some (.int .i64 i)∧w.cell? ⟨g,1,none⟩=some v:=
  ⟨by rw[cell_of_row w g 0 _ 37 (0,0) h];rfl,by rw[cell_of_row w g 1 _ 37 (0,0) h];rfl⟩
theorem RgAt.stays{w w':World}{B g:Nat}{i:Int}{v:Value}(h:RgAt w g i v)(hb:Below B w w')(hg:g<B):RgAt w' g i v:=(hb.block g hg).trans h
theorem RgAt.lt{w:World}{g:Nat}{i:Int}{v:Value}(h:RgAt w g i v):g<w.heap.size:=(Array.getElem?_eq_some_iff.1 h).1
theorem RgAt.frozen{w:World}{g:Nat}{i:Int}{v:Value}(h:RgAt w g i v)(k:Nat):w.frozen? ⟨g,k,none⟩=false:=by
  unfold RgAt at h
  simp[World.frozen?,h]
theorem ringOk_any(i:Int)(ao:Option Addr)(cap:Nat)(ws:List Int)(w:World)(hx:Hid (IntsAt w ao ws))(hl:ws.length≤1048576):
    Calls Tryz.prog 82 #[.agg #[.int .i64 i,.slice ao ws.length cap]] w fun e w'=>e=.returned (.bool (qBc i ws))∧Below w.heap.size w w':=by
  have HX: ∀o,Hid (IntsAt (w.alloc o) ao ws):=fun o=>hx.out.stays ((Below.refl _ _).alloc (Nat.le_refl _) _)
  unfold qBc
  cases h1:decide (1≤i∧i≤9)with
  | false =>
    go_enter Tryz.func82,Tryz.ntmps82
    go_wp2_with fail
    refine(qAe _ h1).mono ?_
    rintro e w1 ⟨rfl,rfl⟩
    go_wp2_with fail
    go_ret
    exact⟨rfl,(Below.refl _ _).alloc (Nat.le_refl _) _⟩
  | true =>
    by_cases h2:0<ws.length
    · rw [decide_eq_true h2]
      have h2':(0:Int)<(ws.length:Int):=by omega
      go_enter Tryz.func82,Tryz.ntmps82
      go_wp2_with fail
      refine(qAe _ h1).mono ?_
      rintro e w1 ⟨rfl,rfl⟩
      go_wp2_with fail
      refine(daemons_any ao cap ws _ (HX _) hl).mono ?_
      rintro e w1 ⟨rfl,rfl⟩
      go_wp2_with fail
      go_ret
      exact⟨rfl,(Below.refl _ _).alloc (Nat.le_refl _) _⟩
    · rw [decide_eq_false h2]
      have h2': ¬(0:Int)<(ws.length:Int):=by omega
      go_enter Tryz.func82,Tryz.ntmps82
      go_wp2_with fail
      refine(qAe _ h1).mono ?_
      rintro e w1 ⟨rfl,rfl⟩
      go_wp2_with fail
      go_ret
      exact⟨rfl,(Below.refl _ _).alloc (Nat.le_refl _) _⟩
theorem RgAt.set1{w:World}{g:Nat}{i:Int}{v:Value}(h:RgAt w g i v)(u:Value):RgAt (w.setCell ⟨g,1,none⟩ u) g i u:=by
  have:=heap_setCell_same w g 1 _ 37 u h
  unfold RgAt;rw[this];rfl
theorem RgAt.turn{w w':World}{g k:Nat}{i:Int}{v:Value}(h:RgAt w g i v)(hk:TurnAt k w w')(hg:g≠k):RgAt w' g i v:=(hk.block g hg).trans h
theorem RgAt.agg{w:World}{g:Nat}{i:Int}{v:Value}(h:RgAt w g i v)(i':Int)(v':Value):
    RgAt ((w.setCell ⟨g,0,none⟩ (.int .i64 i')).setCell ⟨g,1,none⟩ v') g i' v':=by
  have h0:=heap_setCell_same w g 0 _ 37 (.int .i64 i') h
  have h1:=heap_setCell_same _ g 1 _ 37 v' h0
  unfold RgAt;rw[h1];rfl
/-- a list's block is no ring's. -/
theorem own_ring{w w':World}{B g:Nat}{v:Value}{xs:List Int}{i:Int}{u:Value}(h:OwnI w B v xs)(hu:RgAt w g i u)(ht:TurnAt g w w'):OwnI w' B v xs:=by
  refine⟨h.1,?_⟩
  rcases h.2 with hn|⟨k,cap,cur,rfl,hbg,hk,rest⟩
  · exact .inl hn
  · have hne:k≠g:=by
      rintro rfl
      unfold RgAt at hu
      rw[hk]at hu
      simp at hu
    exact .inr ⟨k,cap,cur,rfl,hbg,(ht.block k hne).trans hk,rest⟩
theorem toRing_any(i:Int)(ao:Option Addr)(cap:Nat)(ws:List Int)(w:World)(hx:Hid (IntsAt w ao ws))(hl:ws.length≤1048576):
    Calls Tryz.prog 9 #[.agg #[.int .i64 i,.slice ao ws.length cap]] w fun e w'=>∃v,e=.returned (.agg #[.int .i64 i,v])∧OwnI w' w.heap.size v ws∧Below w.heap.size w w':=by
  have hn1:(w.alloc (.cells #[.int .i64 i,.slice ao ws.length cap] 24)).heap.size=w.heap.size+1:=by simp
  have hn2:((w.alloc (.cells #[.int .i64 i,.slice ao ws.length cap] 24)).alloc (.cells #[.int .i64 0,.slice none 0 0] 37)).heap.size=w.heap.size+2:=by simp
  have HR:Hid (RgAt (((w.alloc (.cells #[.int .i64 i,.slice ao ws.length cap] 24)).alloc (.cells #[.int .i64 0,.slice none 0 0] 37)).alloc (.cells #[.int .i64 i,.slice none 0 0] 37)) (w.heap.size+1) 0 (.slice none 0 0)):=by
    have h:=heap_alloc_new (w.alloc (.cells #[.int .i64 i,.slice ao ws.length cap] 24)) (.cells #[.int .i64 0,.slice none 0 0] 37)
    rw[hn1]at h
    exact RgAt.stays (B:=w.heap.size+2) h ((Below.refl _ _).alloc (by rw[hn2];exact Nat.le_refl _) _) (by omega)
  have HO:Hid (RgAt (((w.alloc (.cells #[.int .i64 i,.slice ao ws.length cap] 24)).alloc (.cells #[.int .i64 0,.slice none 0 0] 37)).alloc (.cells #[.int .i64 i,.slice none 0 0] 37)) (w.heap.size+2) i (.slice none 0 0)):=by
    have h:=heap_alloc_new ((w.alloc (.cells #[.int .i64 i,.slice ao ws.length cap] 24)).alloc (.cells #[.int .i64 0,.slice none 0 0] 37)) (.cells #[.int .i64 i,.slice none 0 0] 37)
    rw[hn2]at h
    exact h
  have HB:Hid (Below w.heap.size w (((w.alloc (.cells #[.int .i64 i,.slice ao ws.length cap] 24)).alloc (.cells #[.int .i64 0,.slice none 0 0] 37)).alloc (.cells #[.int .i64 i,.slice none 0 0] 37))):=(((Below.refl _ _).alloc (Nat.le_refl _) _).alloc (by simp) _).alloc (by simp;omega) _
  have HX:Hid (IntsAt (((w.alloc (.cells #[.int .i64 i,.slice ao ws.length cap] 24)).alloc (.cells #[.int .i64 0,.slice none 0 0] 37)).alloc (.cells #[.int .i64 i,.slice none 0 0] 37)) ao ws):=hx.out.stays HB.out
  clear hn1 hn2 hx
  go_enter Tryz.func9,Tryz.ntmps9
  go_wp2_with fail
  generalize (((w.alloc (.cells #[.int .i64 i,.slice ao ws.length cap] 24)).alloc (.cells #[.int .i64 0,.slice none 0 0] 37)).alloc (.cells #[.int .i64 i,.slice none 0 0] 37))=W at *
  refine(toI_any W ao cap ws HX hl).mono ?_
  rintro e w1 ⟨v,rfl,hv,hb1⟩
  have R1:Hid (RgAt w1 (w.heap.size+1) 0 (.slice none 0 0)):=HR.out.stays hb1 HR.out.lt
  have O1:Hid (RgAt w1 (w.heap.size+2) i (.slice none 0 0)):=HO.out.stays hb1 HO.out.lt
  have B1:Hid (Below w.heap.size w w1):=HB.out.trans (hb1.mono HB.out.size)
  have V1:Hid (OwnI w1 w.heap.size v ws):=hv.down HB.out.size
  obtain⟨ao',cap',rfl⟩:=hv.form
  have c5:=O1.out.cells.2
  have f5:=O1.out.frozen 1
  clear hv hb1 HR HO HB HX
  have T2:=(TurnAt.refl (w.heap.size+2) w1).setCell 1 (.slice ao' ws.length cap')
  have R2:Hid (RgAt (w1.setCell ⟨w.heap.size+2,1,none⟩ (.slice ao' ws.length cap')) (w.heap.size+1) 0 (.slice none 0 0)):=R1.out.turn T2 (by omega)
  have O2:Hid (RgAt (w1.setCell ⟨w.heap.size+2,1,none⟩ (.slice ao' ws.length cap')) (w.heap.size+2) i (.slice ao' ws.length cap')):=O1.out.set1 _
  have B2:Hid (Below w.heap.size w (w1.setCell ⟨w.heap.size+2,1,none⟩ (.slice ao' ws.length cap'))):=B1.out.trans (T2.below (by omega))
  have V2:Hid (OwnI (w1.setCell ⟨w.heap.size+2,1,none⟩ (.slice ao' ws.length cap')) w.heap.size (.slice ao' ws.length cap') ws):=own_ring V1.out O1.out T2
  clear T2 R1 O1 B1 V1
  obtain⟨o0,o1⟩:=O2.out.cells
  obtain⟨r0,r1⟩:=R2.out.cells
  have z0:=R2.out.frozen 0
  have z1:=R2.out.frozen 1
  have R3:RgAt _ (w.heap.size+1) i (.slice ao' ws.length cap'):=R2.out.agg i (.slice ao' ws.length cap')
  have T3:=((TurnAt.refl (w.heap.size+1) (w1.setCell ⟨w.heap.size+2,1,none⟩ (.slice ao' ws.length cap'))).setCell 0 (.int .i64 i)).setCell 1 (.slice ao' ws.length cap')
  have V3:=own_ring V2.out R2.out T3
  have B3:=B2.out.trans (T3.below (by omega))
  clear T3 R2 O2 B2 V2
  go_wp2_with fail
  generalize (((w1.setCell ⟨w.heap.size+2,1,none⟩ (.slice ao' ws.length cap')).setCell ⟨w.heap.size+1,0,none⟩ (.int .i64 i)).setCell ⟨w.heap.size+1,1,none⟩ (.slice ao' ws.length cap'))=W3 at *
  obtain⟨q0,q1⟩:=R3.cells
  refine bodyPost_ret (v:=.agg #[.int .i64 i,.slice ao' ws.length cap']) (by simp[results,Tryz.results9,go_sem,q0,q1]) rfl ?_
  exact⟨_,rfl,V3,B3⟩
theorem qDb(i:Int)(v1 v2:Value)(ws:List Int)(B1 B2:Nat)(w:World)(h1:Hid (OwnI w B1 v1 ws))(h2:Hid (OwnI w B2 v2 ws))(hl:ws.length≤1048576):
    Calls Tryz.prog 13 #[.agg #[.int .i64 i,v1],.agg #[.int .i64 i,v2]] w fun e w'=>e=.returned (.bool true)∧Below w.heap.size w w':=by
  obtain⟨ao1,cap1,rfl⟩:=h1.out.form
  obtain⟨ao2,cap2,rfl⟩:=h2.out.form
  go_enter Tryz.func13,Tryz.ntmps13
  go_wp2_with fail
  refine(qEs _ _ ws B1 B2 _ ((h1.out.alloc _).alloc _) ((h2.out.alloc _).alloc _) hl).mono ?_
  rintro e w1 ⟨rfl,hb1⟩
  go_wp2_with fail
  go_ret
  exact⟨rfl,(((Below.refl _ _).alloc (Nat.le_refl _) _).alloc (by simp) _).trans (hb1.mono (by simp;omega))⟩
theorem qEf(i:Int)(v:Value)(ss:List Int)(B K:Nat)(w:World)(h1:Hid (OwnI w B v ss))(hl:K+ss.length≤39999990)(hK:0<K):
    Calls Tryz.prog 15 #[.agg #[.int .i64 i,v],.int .i64 K] w fun e w'=>e=.returned (.int .i64 ((K+ss.length:Nat):Int))∧OwnI w' B v (qAm K ss.length)∧w.grownBy w' v.ownBlock:=by
  obtain⟨ao,cap,rfl⟩:=h1.out.form
  have HW:Hid (OwnI (w.alloc (.cells #[.int .i64 i,.slice ao ss.length cap] 37)) B (.slice ao ss.length cap) ss):=h1.out.alloc _
  have HG:Hid (w.grownBy (w.alloc (.cells #[.int .i64 i,.slice ao ss.length cap] 37)) (Value.slice ao ss.length cap).ownBlock):=qGu ((Below.refl _ _).alloc (Nat.le_refl _) _)
  clear h1
  go_enter Tryz.func15,Tryz.ntmps15
  go_wp2_with fail
  generalize w.alloc (.cells #[.int .i64 i,.slice ao ss.length cap] 37)=W at *
  refine(qFb _ ss B K W HW.out hl hK).mono ?_
  rintro e w1 ⟨rfl,hv1,hg1⟩
  go_wp2_with fail
  go_ret
  exact⟨rfl,hv1,qBi HG.out hg1⟩
/-- the block g is a ring that was handed in. -/
def LrgAt(w:World)(g:Nat)(i:Int)(v:Value):Prop:=w.heap[g]? =some (.cells #[.int .i64 i,v] 24 (0,0))
theorem LrgAt.cells{w:World}{g:Nat}{i:Int}{v:Value}(h:LrgAt w g i v):w.cell? ⟨g,0,none⟩=some (.int .i64 i)∧w.cell? ⟨g,1,none⟩=some v:=
  ⟨by rw[cell_of_row w g 0 _ 24 (0,0) h];rfl,by rw[cell_of_row w g 1 _ 24 (0,0) h];rfl⟩
theorem LrgAt.stays{w w':World}{B g:Nat}{i:Int}{v:Value}(h:LrgAt w g i v)(hb:Below B w w')(hg:g<B):LrgAt w' g i v:=(hb.block g hg).trans h
theorem LrgAt.lt{w:World}{g:Nat}{i:Int}{v:Value}(h:LrgAt w g i v):g<w.heap.size:=(Array.getElem?_eq_some_iff.1 h).1
theorem spRingOk_2(i:Int)(ao:Option Addr)(cap:Nat)(ws:List Int)(w:World)(hx:Hid (IntsAt w ao ws))(h20:ws.length≤5)(h1:decide (1≤i∧i≤9)=true)(h2:decide (1≤(ws.length:Int)∧(ws.length:Int)≤5)=true):
    Calls Tryz.prog 26 #[.agg #[.int .i64 i,.slice ao ws.length cap]] w fun e w'=>e=.returned (.bool (wGo 0 5 ws))∧Below w.heap.size w w':=by
  have HB: ∀o:Obj,Hid (Below w.heap.size w (w.alloc o)):=fun o=>(Below.refl _ _).alloc (Nat.le_refl _) _
  have HX: ∀o,Hid (IntsAt (w.alloc o) ao ws):=fun o=>hx.out.stays (HB o).out
  have HT:Hid (RgAt (w.alloc (.cells #[.int .i64 i,.slice ao ws.length cap] 37)) w.heap.size i (.slice ao ws.length cap)):=heap_alloc_new w _
  have hB:=HB (.cells #[.int .i64 i,.slice ao ws.length cap] 37)
  have hX:=HX (.cells #[.int .i64 i,.slice ao ws.length cap] 37)
  clear HB HX hx
  go_enter Tryz.func26,Tryz.ntmps26
  go_wp2_with fail
  refine(qAi _ h1).mono ?_
  rintro e w1 ⟨rfl,rfl⟩
  go_wp2_with fail
  refine(qAi _ h2).mono ?_
  rintro e w1 ⟨rfl,rfl⟩
  go_wp2_with fail
  generalize w.alloc (.cells #[.int .i64 i,.slice ao ws.length cap] 37)=W at *
  go_loopw [3] (fun ix wr=>∃(k:Nat) (l:Int),k≤ws.length∧ix=.int .i64 k∧Hid (WSt ws 5 k l)∧Hid (RgAt wr w.heap.size i (.slice ao ws.length cap))∧Hid (IntsAt wr ao ws)∧Hid (Below w.heap.size w wr)) (fun ix _=>ws.length - (intOf ix).toNat)
  case atStart=>exact⟨0,0,Nat.zero_le _,rfl,qDe ws 5,HT.out,hX.out,hB.out⟩
  case round=>
    clear HT hX hB h1 h2
    obtain⟨k,l,hk,rfl,hst,HT,hX,hB⟩:=hrel
    obtain⟨c0,c5⟩:=HT.out.cells
    clear c0
    by_cases hlt:k<ws.length
    · obtain ⟨bb, off, hao, hbb, hc⟩ := hX.out k hlt
      obtain⟨x,ht⟩: ∃x,x=ws[k]:=⟨_,rfl⟩
      rw[←ht]at hc
      have HV:Hid (x=ws[k]):=ht
      have i0:(0:Int)≤(k:Int):=by omega
      have i1:(k:Int)<(ws.length:Int):=by omega
      have hc':wr.cell? ⟨bb,off+(k:Int).toNat,none⟩=some (.int .i64 x):=by rw[Int.toNat_natCast];exact hc
      by_cases h0:k=0
      · have HL : Hid (l = 0) := hst.out.2.2.1 h0
        have hk0: ¬0<k:=by omega
        subst hao
        clear h0 ht
        cases hi:decide (1≤x∧x≤5)with
        | false =>
          go_wp2_with fail
          go_quiet (first|(go_at_call 60;exact Calls.quiet_of_same (qAi _ hi)))
          go_wp2_with fail
          go_ret
          have hbad:x≤l∨5<x:=by have:=HL.out;simp at hi;omega
          exact⟨by rw[qBz hst.out hlt HV.out hbad];rfl,qAk hB.out _⟩
        | true =>
          go_wp2_with fail
          go_quiet (first|(go_at_call 60;exact Calls.quiet_of_same (qAi _ hi)))
          go_wp2_with fail
          go_roundw
          case rel=>exact⟨k+1,x,by omega,by go_num,qCu hst.out hlt HV.out (by have:=HL.out;simp at hi;omega) (by simp at hi;omega),HT.out,hX.out,qAk hB.out _⟩
          case measure=>simp[intOf];omega
      · obtain ⟨j, hj⟩ : ∃ j, k = j + 1 := ⟨k - 1, by omega⟩
        have hlj:j<ws.length:=by omega
        have HL:Hid (l=ws[j]'hlj∧0≤l):=⟨hst.out.2.2.2 j hlj hj,hst.out.2.1⟩
        obtain⟨b2,off2,hao2,_,hc2⟩:=hX.out j hlj
        obtain⟨rfl,rfl⟩:b2=bb∧off2=off:=by rw[hao]at hao2;simp at hao2;exact⟨hao2.1.symm,hao2.2.symm⟩
        rw[←HL.out.1]at hc2
        have hk0:0<k:=by omega
        have hw1:IntKind.i64.wrap ((k:Int) - 1)=(j:Int):=by rw[IntKind.wrap_i64];omega
        have i2:(0:Int)≤(j:Int):=by omega
        have i3:(j:Int)<(ws.length:Int):=by omega
        have hc3:wr.cell? ⟨b2,off2+(j:Int).toNat,none⟩=some (.int .i64 l):=by rw[Int.toNat_natCast];exact hc2
        subst hao
        have HJ:Hid (k=j+1):=hj
        clear h0 ht hj hao2
        cases hi:decide (1≤x∧x≤5)with
        | false =>
          go_wp2_with fail
          go_quiet (first|(go_at_call 60;exact Calls.quiet_of_same (qAi _ hi)))
          go_wp2_with fail
          go_ret
          have hbad:x≤l∨5<x:=by have:=HL.out.2;simp at hi;omega
          exact⟨by rw[qBz hst.out hlt HV.out hbad];rfl,qAk hB.out _⟩
        | true =>
          by_cases hp:x≤l
          ·
            go_wp2_with fail
            go_quiet (first|(go_at_call 60;exact Calls.quiet_of_same (qAi _ hi)))
            go_wp2_with fail
            go_ret
            have hbad:x≤l∨5<x:=by exact .inl hp
            exact⟨by rw[qBz hst.out hlt HV.out hbad];rfl,qAk hB.out _⟩
          ·
            go_wp2_with fail
            go_quiet (first|(go_at_call 60;exact Calls.quiet_of_same (qAi _ hi)))
            go_wp2_with fail
            go_roundw
            case rel=>exact⟨k+1,x,by omega,by go_num,qCu hst.out hlt HV.out (by omega) (by simp at hi;omega),HT.out,hX.out,qAk hB.out _⟩
            case measure=>simp[intOf];omega
    · go_wp2_with fail
      go_ret
      exact⟨by rw[qGg hst.out (by omega)];rfl,hB.out⟩
theorem wGo_long{ws:List Int}(h:5<ws.length):wGo 0 5 ws=false:=by
  cases hg:wGo 0 5 ws with
  |false=>rfl
  |true=>have:=wGo_len ws 0 hg (by omega);omega
theorem spRingOk_any(i:Int)(ao:Option Addr)(cap:Nat)(ws:List Int)(w:World)(hx:Hid (IntsAt w ao ws))(hl:ws.length≤1048576):
    Calls Tryz.prog 26 #[.agg #[.int .i64 i,.slice ao ws.length cap]] w fun e w'=>e=.returned (.bool (qBc i ws))∧Below w.heap.size w w':=by
  unfold qBc
  cases h1:decide (1≤i∧i≤9)with
  | false =>
    go_enter Tryz.func26,Tryz.ntmps26
    go_wp2_with fail
    refine(qAi _ h1).mono ?_
    rintro e w1 ⟨rfl,rfl⟩
    go_wp2_with fail
    go_ret
    exact⟨rfl,(Below.refl _ _).alloc (Nat.le_refl _) _⟩
  | true =>
    cases h2:decide (1≤(ws.length:Int)∧(ws.length:Int)≤5)with
    | true =>
      have h3:decide (0<ws.length)=true:=by simp at h2⊢;omega
      rw[h3]
      exact spRingOk_2 i ao cap ws w hx (by simp at h2;omega) h1 h2
    | false =>
      have h3:(decide (0<ws.length)&&wGo 0 5 ws)=false:=by
        by_cases h0:0<ws.length
        · rw[wGo_long (by simp at h2;omega)];simp
        · rw[decide_eq_false h0];rfl
      rw[h3]
      go_enter Tryz.func26,Tryz.ntmps26
      go_wp2_with fail
      refine(qAi _ h1).mono ?_
      rintro e w1 ⟨rfl,rfl⟩
      go_wp2_with fail
      refine(qAi _ h2).mono ?_
      rintro e w1 ⟨rfl,rfl⟩
      go_wp2_with fail
      go_ret
      exact⟨rfl,(Below.refl _ _).alloc (Nat.le_refl _) _⟩
/-- the first place of d is k. -/
def qDz(ms:List Int)(d:Int)(k:Nat):Prop:=∃h:k<ms.length,ms[k]=d∧∀j (hj:j<k),ms[j]'(by omega)≠d
/-- d has no place among the first k. -/
def qCw(ms:List Int)(d:Int)(k:Nat):Prop:=∀j (hj:j<ms.length),j<k→ms[j]≠d
theorem qGv(ms:List Int)(d:Int):(∃k,qDz ms d k)∨qCw ms d ms.length:=by
  have: ∀n,n≤ms.length→(∃k,qDz ms d k)∨qCw ms d n:=by
    intro n
    induction n with
    |zero=>intro _;exact .inr fun j _ h=>by omega
    | succ n ih =>
      intro hn
      rcases ih (by omega)with h|h
      · exact .inl h
      · by_cases e : ms[n]'(by omega) = d
        · exact .inl ⟨n,by omega,e,fun j hj=>h j (by omega) hj⟩
        · refine .inr fun j hj hjn => ?_
          by_cases e2:j=n
          · subst e2;exact e
          · exact h j hj (by omega)
  exact this _ (Nat.le_refl _)
/-- the member behind d. -/
def nextP(i:Int)(ms:List Int)(d:Int):Int:=
  if qBc i ms then(match ms.findIdx? (fun x=>x==d)with|some k=>ms.getD ((k+1) % ms.length) 0|none=>0)else 0
theorem index_at(ao:Option Addr)(cap:Nat)(ws:List Int)(d:Int)(n:Nat)(w:World)(hx:Hid (IntsAt w ao ws))(hl:ws.length≤1048576)(hf:Hid (qDz ws d n)):
    Calls Tryz.prog 117 #[.slice ao ws.length cap,.int .i64 d] w fun e w'=>e=.returned (.int .i64 (n:Int))∧w'=w:=by
  go_enter Tryz.func117,Tryz.ntmps117
  go_wp2
  go_loop [8] (fun i=>∃(k:Nat),k≤n∧i=.int .i64 k) (fun i=>ws.length - (intOf i).toNat)
  case atStart=>exact⟨0,Nat.zero_le _,rfl⟩
  case round=>
    obtain⟨k,hk,rfl⟩:=hrel
    have hn:n<ws.length:=by obtain⟨h,_⟩:=hf.out;exact h
    have hlt:k<ws.length:=by omega
    obtain⟨b,off,rfl,hbb,hc⟩:=hx.out k hlt
    obtain⟨x,ht⟩: ∃x,x=ws[k]:=⟨_,rfl⟩
    rw[←ht]at hc
    have HT:Hid (x=ws[k]):=ht
    clear ht
    by_cases h1:k=n
    · have h2 : d = x := by obtain ⟨h, he, _⟩ := hf.out; rw [HT.out]; subst h1; exact he.symm
      subst h2
      subst h1
      go_wp2
      go_ret
      exact⟨rfl,rfl⟩
    · have h2 : ¬ d = x := by obtain ⟨h, he, hq⟩ := hf.out; rw [HT.out]; exact fun e => hq k (by omega) e.symm
      go_wp2
      go_round
      case rel=>exact⟨k+1,by omega,by go_num⟩
      case measure=>simp[intOf];omega
theorem index_none(ao:Option Addr)(cap:Nat)(ws:List Int)(d:Int)(w:World)(hx:Hid (IntsAt w ao ws))(hl:ws.length≤1048576)(hf:Hid (qCw ws d ws.length)):
    Calls Tryz.prog 117 #[.slice ao ws.length cap,.int .i64 d] w fun e w'=>e=.returned (.int .i64 (-1))∧w'=w:=by
  go_enter Tryz.func117,Tryz.ntmps117
  go_wp2
  go_loop [8] (fun i=>∃(k:Nat),k≤ws.length∧i=.int .i64 k) (fun i=>ws.length - (intOf i).toNat)
  case atStart=>exact⟨0,Nat.zero_le _,rfl⟩
  case round=>
    obtain⟨k,hk,rfl⟩:=hrel
    by_cases hlt:k<ws.length
    · obtain ⟨b, off, rfl, hbb, hc⟩ := hx.out k hlt
      obtain⟨x,ht⟩: ∃x,x=ws[k]:=⟨_,rfl⟩
      rw[←ht]at hc
      have HT:Hid (x=ws[k]):=ht
      clear ht
      have h2: ¬d=x:=by rw[HT.out];exact fun e=>hf.out k hlt hlt e.symm
      go_wp2
      go_round
      case rel=>exact⟨k+1,by omega,by go_num⟩
      case measure=>simp[intOf];omega
    · go_wp2
      go_ret
      exact⟨rfl,rfl⟩
/-- of what was there the blocks of S alone may have turned. -/
structure Gr (S:Nat→Prop) (w w':World):Prop where
  os:w'.os=w.os
  tape:w'.tape=w.tape
  output:w'.output=w.output
  size:w.heap.size≤w'.heap.size
  block: ∀k,k<w.heap.size→¬S k→w'.heap[k]? =w.heap[k]?
theorem Gr.refl(S:Nat→Prop)(w:World):Gr S w w:=⟨rfl,rfl,rfl,Nat.le_refl _,fun _ _ _=>rfl⟩
theorem Gr.trans{S:Nat→Prop}{a b c:World}(h:Gr S a b)(k:Gr S b c):Gr S a c:=
  ⟨k.os.trans h.os,k.tape.trans h.tape,k.output.trans h.output,Nat.le_trans h.size k.size,fun i hi hs=>(k.block i (Nat.lt_of_lt_of_le hi h.size) hs).trans (h.block i hi hs)⟩
theorem Gr.ofGrown{S:Nat→Prop}{a b:World}{row:Option Nat}(h:a.grownBy b row)(hs: ∀k,row=some k→S k):Gr S a b:=⟨h.os,h.tape,h.output,h.size,fun k hk hn=>h.block k hk (fun he=>hn (hs k he.symm))⟩
theorem Gr.below{S:Nat→Prop}{a b:World}{B:Nat}(h:Gr S a b)(hs: ∀k,S k→B≤k)(hB:B≤a.heap.size):Below B a b:=⟨h.os,h.tape,h.output,h.size,fun k hk=>h.block k (by omega) (fun h1=>by have:=hs k h1;omega)⟩
theorem gr_below{S:Nat→Prop}{a b:World}(h:Below a.heap.size a b):Gr S a b:=⟨h.os,h.tape,h.output,h.size,fun k hk _=>h.block k hk⟩
end Go.Proofs.YtifkopggmjbbeaaGreat
