/- Joined texts: CNu CSz CEs CA1 CA2 CA3 CA4 CGv CBs CA5 CA6 CGs CDy CDz CSsm. -/
import Derived.Test.YthdjkkiegecgnaaGreatOq7
import Derived.Test.YthdjkkiegecgnaaGreatOq8
import Derived.Test.YthdjkkiegecgnaaGreatOq1
import Derived.Test.YthdjkkiegecgnaaGreatOq9
import Derived.Laws.MakeOwn
import Derived.Test.YthdjkkiegecgnaaGreatOq5
import Derived.BigQuiet
import Derived.Test.YthdjkkiegecgnaaGreatOq4
import Derived.Laws.BytesArg
import Derived.Laws.OwnMore
import Derived.Deep.RegionHeld3
import Derived.Deep.QuietTactic
set_option maxRecDepth 100000
set_option maxHeartbeats 16000000
namespace Go.Proofs.YthdjkkiegecgnaaGreat
open Go.RowKit Pl
set_option linter.unusedVariables false
theorem met_str{P:Program}{w:World}{n:Nat}{t:TypeId}{d:TypeDesc}{name:String}{m:Method}{f:FuncId}{v:Value}(hi:((P.info? t).bind fun i=>i.methods.find? (·.name==name))=some m)(hp:m.path= #[])(hf:m.func=some (f,false))(hu:P.underlying t=some d)(hd: ∀e,d≠ .pointer e):
  (method (n+1) t v name).run P w=.ok (f,v) w:=by
 obtain⟨i,hi1,hi2⟩:=Option.bind_eq_some_iff.1 hi
 unfold method
 cases d with
 |pointer e=>exact absurd rfl (hd e)
 |_=>simp[typeInfo,hi1,hi2,hp,hf,follow,receiverAt,run_underlying hu,Place.get]
theorem mNum(w:World)(v:Value):(method 344 41 v "loop.example/g00183/impl.number").run Tryz.prog w=.ok (243,v) w:=
 met_str (m:=⟨ "loop.example/g00183/impl.number",102,#[],some (243,false)⟩) (by kernel_rfl) rfl rfl Tryz.underlying41 (by intro e h;cases h)
theorem qDs(q f l:Int)(t:ByteArray)(w:World):
  Calls Tryz.prog 243 #[.agg #[.int .i64 q,.int .i64 f,.int .i64 l,.string t]] w fun e w'=>e=.returned (.int .i64 q)∧Below w.heap.size w w':=by
 go_enter Tryz.func243,Tryz.ntmps243
 go_wp2_with fail
 go_ret
 exact⟨rfl,(Below.refl _ _).alloc (Nat.le_refl _) _⟩
def agg(x:It):Value:=.agg #[.int .i64 x.1,.int .i64 x.2.1,.int .i64 x.2.2.1,.string x.2.2.2]
def zIt:It:=(0,0,0,⟨#[]⟩)
def cel(x:It):List Value:=[.int .i64 x.1,.int .i64 x.2.1,.int .i64 x.2.2.1,.string x.2.2.2]
def cels(ts:List It):List Value:=ts.flatMap cel
theorem qEp(x:It)(ts:List It):cels (x::ts)=cel x++cels ts:=rfl
theorem qCe(a b:List It):cels (a++b)=cels a++cels b:=by simp[cels]
theorem qBq: ∀(ts:List It),(cels ts).length=ts.length * 4
 | []=>rfl
 |x::ts=>by rw[qEp,List.length_append,qBq ts,List.length_cons];show 4+ts.length * 4=_;omega
theorem qHz: ∀(ts:List It) (k:Nat),(cels ts).drop (k * 4)=cels (ts.drop k)
 |ts,0=>by simp
 | [],k+1=>by simp[cels]
 |x::ts,k+1=>by
  rw[qEp,show(k+1) * 4=4+k * 4 by omega,←List.drop_drop,List.drop_succ_cons,←qHz ts k]
  rfl
theorem cels_take: ∀(ts:List It) (k:Nat),(cels ts).take (k * 4)=cels (ts.take k)
 |ts,0=>by simp[cels]
 | [],k+1=>by simp[cels]
 |x::ts,k+1=>by
  rw[qEp,show(k+1) * 4=k * 4+1+1+1+1 by omega,List.take_succ_cons,qEp,←cels_take ts k]
  rfl
theorem cels_at{ts:List It}{i:Nat}(h:i<ts.length):(cels ts)[i * 4]? =some (.int .i64 ts[i].1)∧(cels ts)[i * 4+1]? =some (.int .i64 ts[i].2.1)∧(cels ts)[i * 4+2]? =some (.int .i64 ts[i].2.2.1)∧(cels ts)[i * 4+3]? =some (.string ts[i].2.2.2):=by
 have e: ∀j,(cels ts)[i * 4+j]? =(cels (ts.drop i))[j]? :=fun j=>by rw[←qHz,List.getElem?_drop]
 have e0:=e 0
 rw[Nat.add_zero]at e0
 rw[e0,e 1,e 2,e 3,List.drop_eq_getElem_cons h,qEp]
 exact⟨rfl,rfl,rfl,rfl⟩
theorem qDk{ts:List It}: ∀u∈cels ts,u.oneCell'=true:=by
 intro u hu
 obtain⟨x,_,hx⟩:=List.mem_flatMap.1 hu
 simp[cel]at hx
 rcases hx with rfl|rfl|rfl|rfl<;>rfl
def SlI(w:World)(B:Nat)(v:Value)(ts:List It):Prop:=Sl w 41 4 B v ts.length (cels ts)
section
variable {w w' : World} {B : Nat} {v : Value} {ts : List It}
theorem SlI.lt(h:SlI w B v ts): ∀k,v.ownBlock=some k→B≤k∧k<w.heap.size:=Sl.lt h
theorem SlI.keep(h:SlI w B v ts)(hk: ∀k,v.ownBlock=some k→k<w.heap.size→w'.heap[k]? =w.heap[k]?):SlI w' B v ts:=Sl.keep h hk
theorem SlI.below(h:SlI w B v ts)(hb:Below w.heap.size w w'):SlI w' B v ts:=Sl.below h hb
theorem SlI.down{B':Nat}(h:SlI w B v ts)(hB:B'≤B):SlI w B' v ts:=Sl.down h hB
theorem SlI.kept{row:Option Nat}(h:SlI w B v ts)(hg:w.grownBy w' row)(hne: ∀k,v.ownBlock=some k→some k≠row):SlI w' B v ts:=Sl.kept h hg hne
theorem SlI.drew(h:SlI w B v ts):SlI w.drew B v ts:=Sl.keep h fun _ _ _=>rfl
theorem SlI.drewN(h:SlI w B v ts)(m:Nat):SlI (w.drewN m) B v ts:=Sl.keep h fun _ _ _=>by rw[World.heap_drewN]
theorem SlI.made(w:World)(B:Nat)(hb:B≤w.heap.size):SlI (w.alloc (.cells #[] 41)) B (.slice (some ⟨w.heap.size,0,none⟩) 0 0) []:=Sl.made w 41 4 B hb
theorem SlI.items(h:SlI w B v ts): ∃ao cap,v=.slice ao ts.length cap∧ItemsAt w ao ts:=by
 by_cases h0:0<ts.length
 ·obtain⟨g,off,cap,rfl,h1,h2,h3,h4⟩:=Sl.read h h0
  refine⟨_,cap,rfl,fun i hi=>⟨g,off,rfl,h2,?_⟩⟩
  obtain⟨c0,c1,c2,c3⟩:=cels_at hi
  refine⟨h3 _ _ c0,?_,?_,?_⟩
  ·rw[Nat.add_assoc];exact h3 _ _ c1
  ·rw[Nat.add_assoc];exact h3 _ _ c2
  ·rw[Nat.add_assoc];exact h3 _ _ c3
 ·obtain⟨ao,cap,rfl⟩:=Sl.form h
  exact⟨ao,cap,rfl,fun i hi=>by omega⟩
end
theorem RowIt.sl{w:World}{g n B:Nat}{ts:List It}(h:RowIt w g n ts n)(hn:ts.length=n)(hm:n≤1048576)(hB:B≤g):SlI w B (.slice (some ⟨g,0,none⟩) n n) ts:=by
 obtain⟨arr,h1,h2,h3⟩:=h
 subst hn
 refine⟨qBq ts,.inr ⟨g,0,ts.length,arr,rfl,hB,h1,Nat.le_refl _,by unfold maxLen;omega,by omega,fun j hj=>?_⟩⟩
 rw[Nat.zero_add]
 obtain⟨i,r,hr,rfl⟩: ∃i r,r<4∧j=i * 4+r:=⟨j / 4,j % 4,by omega,by omega⟩
 have hi:i<ts.length:=by omega
 obtain⟨a0,a1,a2,a3⟩:=h3 i hi hi
 obtain⟨c0,c1,c2,c3⟩:=cels_at hi
 match r,hr with
 |0,_=>rw[Nat.add_zero,a0,c0]
 |1,_=>rw[a1,c1]
 |2,_=>rw[a2,c2]
 |3,_=>rw[a3,c3]
theorem src_one(w:World)(t:TypeId)(ht:Tryz.prog.underlying t=some (.slice 41))(x:It):Src Tryz.prog 4 t (.slice (some ⟨w.heap.size,0,none⟩) 1 1) 1 (cels [x]) (w.alloc (.cells #[.int .i64 x.1,.int .i64 x.2.1,.int .i64 x.2.2.1,.string x.2.2.2] 41)):=by
 refine Src.ofSlice _ ht ⟨w.heap.size,0,none⟩ 1 1 (cels [x]) rfl (fun j u hu=>?_) qDk
 rw[Addr.add_lit,Nat.zero_add,cell_of_row _ _ _ _ 41 (0,0) (heap_alloc_new w _),←hu]
 have hj:j<4:=(List.getElem?_eq_some_iff.1 hu).1
 match j,hj with
 |0,_=>rfl
 |1,_=>rfl
 |2,_=>rfl
 |3,_=>rfl
theorem src_items{w:World}{ao:Option Addr}{ts:List It}(t:TypeId)(ht:Tryz.prog.underlying t=some (.slice 41))(cap:Nat)(h:ItemsAt w ao ts):Src Tryz.prog 4 t (.slice ao ts.length cap) ts.length (cels ts) w:=by
 by_cases h0:0<ts.length
 ·obtain⟨b,off,rfl,_⟩:=h 0 h0
  refine Src.ofSlice _ ht ⟨b,off,none⟩ ts.length cap (cels ts) (qBq ts) (fun j u hu=>?_) qDk
  have hj:j<ts.length * 4:=by rw[←qBq];exact(List.getElem?_eq_some_iff.1 hu).1
  obtain⟨i,r,hr,rfl⟩: ∃i r,r<4∧j=i * 4+r:=⟨j / 4,j % 4,by omega,by omega⟩
  have hi:i<ts.length:=by omega
  obtain⟨b',off',e,_,a0,a1,a2,a3⟩:=h i hi
  simp at e
  obtain⟨rfl,rfl⟩:=e
  obtain⟨c0,c1,c2,c3⟩:=cels_at hi
  rw[Addr.add_lit,←hu]
  match r,hr with
  |0,_=>rw[Nat.add_zero,a0,c0]
  |1,_=>rw[←Nat.add_assoc,a1,c1]
  |2,_=>rw[←Nat.add_assoc,a2,c2]
  |3,_=>rw[←Nat.add_assoc,a3,c3]
 ·have:ts=[]:=List.eq_nil_of_length_eq_zero (by omega)
  subst this
  cases ao with
  |none=>exact Src.ofNil _ ht cap
  |some a=>exact Src.ofSlice _ ht a 0 cap [] rfl (fun j u hu=>by simp at hu) (fun u hu=>by simp at hu)
theorem qAu{w:World}{ops:Array Oper}{rest:List Oper}{o:Oper}{a:Act}{Q:Exit→Act→World→Prop}
  (hgd:o.guard=none) (s x:Operand) (t:TypeId) (ho:o.op=.call {callee:=.builtin .append,args:=#[s,x],argTypes:=#[t,t]})
  (ht:Tryz.prog.underlying t=some (.slice 41)) (B:Nat) (v:Value) (ts:List It) (hs:a.eval s=v) (hown:SlI w B v ts) (y:It)
  (hx:a.eval x=.slice (some ⟨w.heap.size,0,none⟩) 1 1) (hn:ts.length≤1048576) (hB:B≤w.heap.size)
  (h: ∀v' w',SlI w' B v' (ts++[y])→w.grownBy w' v.ownBlock→Below B w w'→(v'.ownBlock=v.ownBlock∨v'.ownBlock=some (w.heap.size+1))→wpList Tryz.prog ops Q rest (a.put o.dst v') w'):
  wpList Tryz.prog ops Q (o::rest) a (w.alloc (.cells #[.int .i64 y.1,.int .i64 y.2.1,.int .i64 y.2.2.1,.string y.2.2.2] 41)):=by
 refine qCp hgd s x t ho _ 40 ht Tryz.infoI rfl hs (Sl.alloc hown _) _ 1 (cels [y]) hx (src_one w t ht y) (by unfold maxLen;omega) (by omega) (by simp;omega) ?_
 intro v' w' h1 h2 h3
 have hg:w.grownBy w' v.ownBlock:=⟨h2.os,h2.tape,h2.output,Nat.le_trans (by simp) h2.size,fun k hk hne=>(h2.block k (by simp;omega) hne).trans (heap_alloc_old w _ hk)⟩
 refine h v' w' ?_ hg ?_ ?_
 ·unfold SlI
  rw[List.length_append,qCe]
  exact h1
 ·exact((Below.refl B w).alloc hB _).grown h2 (by simp;omega) (fun k hk=>(Sl.lt hown k hk).1)
 ·simpa using h3
def atP(ts:List It)(n:Int):Option It:=ts.find? fun x=>decide (x.1=n)
def hasP(ts:List It)(n:Int):Bool:=(atP ts n).isSome
theorem qLg{ts:List It}{n:Int}{k:Nat}(hk:k<ts.length)(hn:ts[k].1=n)(h: ∀x∈ts.take k,¬x.1=n):atP ts n=some ts[k]:=by
 unfold atP
 have e:ts.find? (fun x=>decide (x.1=n))=(ts.take k++ts.drop k).find? (fun x=>decide (x.1=n)):=by rw[List.take_append_drop]
 rw[e,List.find?_append,List.find?_eq_none.2 (fun x hx=>by simpa using h x hx),List.drop_eq_getElem_cons hk,List.find?_cons_of_pos (by simpa using hn)]
 rfl
theorem atP_none{ts:List It}{n:Int}(h: ∀x∈ts,¬x.1=n):atP ts n=none:=by
 unfold atP
 exact List.find?_eq_none.2 fun x hx=>by simpa using h x hx
theorem qCr{ts:List It}{n:Int}:hasP ts n=true↔ ∃x∈ts,x.1=n:=by
 unfold hasP atP
 simp
theorem qHd{ts:List It}{n:Int}{k:Nat}(hk:k<ts.length)(h: ∀x∈ts.take k,¬x.1=n)(hn: ¬ts[k].1=n): ∀x∈ts.take (k+1),¬x.1=n:=by
 intro x hx
 rw[List.take_succ_eq_append_getElem hk]at hx
 rcases List.mem_append.1 hx with h1|h1
 ·exact h x h1
 ·rw[List.mem_singleton.1 h1];exact hn
theorem zt(w:World):ItAt (w.alloc (.cells #[.int .i64 0,.int .i64 0,.int .i64 0,.string ⟨#[]⟩] 41)) w.heap.size 0 0 0 ⟨#[]⟩:=heap_alloc_new w _
theorem ItAt.put4{w:World}{g:Nat}{q f l q' f' l':Int}{t t':ByteArray}(h:ItAt w g q f l t):
  ItAt ((((w.setCell ⟨g,0,none⟩ (.int .i64 q')).setCell ⟨g,1,none⟩ (.int .i64 f')).setCell ⟨g,2,none⟩ (.int .i64 l')).setCell ⟨g,3,none⟩ (.string t')) g q' f' l' t':=by
 have e0:=heap_setCell_same w g 0 _ 41 (.int .i64 q') h
 have e1:=heap_setCell_same _ g 1 _ 41 (.int .i64 f') e0
 have e2:=heap_setCell_same _ g 2 _ 41 (.int .i64 l') e1
 exact heap_setCell_same _ g 3 _ 41 (.string t') e2
theorem ItAt.frozen{w:World}{g:Nat}{q f l:Int}{t:ByteArray}(h:ItAt w g q f l t)(i:Nat):w.frozen? ⟨g,i,none⟩=false:=frozen_of_row w g i _ 41 h
theorem at_any(ao:Option Addr)(cap:Nat)(ts:List It)(n:Int)(w:World)(hx:Hid (ItemsAt w ao ts))(hl:ts.length≤1048576):
  Calls Tryz.prog 170 #[.slice ao ts.length cap,.int .i64 n] w fun e w'=>e=.returned (.tuple #[agg ((atP ts n).getD zIt),.bool (hasP ts n)])∧Below w.heap.size w w':=by
 have HZ:Hid (ItAt (w.alloc (.cells #[.int .i64 0,.int .i64 0,.int .i64 0,.string ⟨#[]⟩] 41)) w.heap.size 0 0 0 ⟨#[]⟩):=zt w
 go_enter Tryz.func170,Tryz.ntmps170
 go_wp2
 go_loopw [11] (fun i wr=>∃(k:Nat),k≤ts.length∧i=.int .i64 k∧Hid (∀x∈ts.take k,¬x.1=n)∧Hid (Below w.heap.size w wr)∧Hid (ItAt wr w.heap.size 0 0 0 ⟨#[]⟩)) (fun i _=>ts.length - (intOf i).toNat)
 case atStart=>exact⟨0,Nat.zero_le _,rfl,(fun x hx=>by simp at hx: ∀x∈ts.take 0,¬x.1=n),(Below.refl _ _).alloc (Nat.le_refl _) _,HZ⟩
 case round=>
  clear HZ
  obtain⟨k,hk,rfl,hst,hb,hz⟩:=hrel
  by_cases hlt:k<ts.length
  ·obtain⟨b,off,rfl,hbb,h0,h1,h2,h3⟩:=hx.out.stays hb.out k hlt
   have HP:Hid (∃x:It,x=ts[k]):=⟨_,rfl⟩
   obtain⟨⟨q,f,lv,tx⟩,hp⟩:=HP.out
   rw[←hp]at h0 h1 h2 h3
   have HQ:Hid ((q,f,lv,tx)=ts[k]):=hp
   clear hp HP
   dsimp only at h0 h1 h2 h3
   have I0:Hid (ItAt (wr.alloc (.cells #[.int .i64 q,.int .i64 f,.int .i64 lv,.string tx] 41)) wr.heap.size q f lv tx):=heap_alloc_new wr _
   have B0:Hid (Below w.heap.size w (wr.alloc (.cells #[.int .i64 q,.int .i64 f,.int .i64 lv,.string tx] 41))):=hb.out.alloc hb.out.size _
   have Z0:Hid (ItAt (wr.alloc (.cells #[.int .i64 q,.int .i64 f,.int .i64 lv,.string tx] 41)) w.heap.size 0 0 0 ⟨#[]⟩):=hz.out.stays ((Below.refl _ _).alloc (Nat.le_refl _) _) hz.out.lt
   have mn:=mNum (wr.alloc (.cells #[.int .i64 q,.int .i64 f,.int .i64 lv,.string tx] 41)) (.agg #[.int .i64 q,.int .i64 f,.int .i64 lv,.string tx])
   go_wp2_with fail
   clear mn
   generalize wr.alloc (.cells #[.int .i64 q,.int .i64 f,.int .i64 lv,.string tx] 41)=W0 at *
   clear h0 h1 h2 h3
   refine(qDs q f lv tx _).mono ?_
   rintro e w1 ⟨rfl,hb1⟩
   obtain⟨c0,c1,c2,c3⟩:=(I0.out.stays hb1 I0.out.lt).cells
   obtain⟨Z1,B1⟩:=cy2 (Z0.out.stays hb1 Z0.out.lt) (B0.out.trans (hb1.mono B0.out.size))
   clear hb1 I0 B0 Z0 hz
   by_cases hn:q=n
   ·have HR:Hid (atP ts n=some (q,f,lv,tx)):=by
     rw[HQ.out]
     exact qLg hlt (by rw[←HQ.out];exact hn) hst.out
    subst hn
    obtain⟨d0,d1,d2,d3⟩:=Z1.out.cells
    have f0:=Z1.out.frozen 0
    have f1:=Z1.out.frozen 1
    have f2:=Z1.out.frozen 2
    have f3:=Z1.out.frozen 3
    obtain⟨r0,r1,r2,r3⟩:=(Z1.out.put4 (q':=q) (f':=f) (l':=lv) (t':=tx)).cells
    go_wp2_with fail
    refine bodyPost_ret (v:=.tuple #[.agg #[.int .i64 q,.int .i64 f,.int .i64 lv,.string tx],.bool true]) (by simp[results,Tryz.results170,go_sem,r0,r1,r2,r3]) rfl ⟨?_,?_⟩
    ·unfold hasP
     rw[HR.out];rfl
    ·exact(((B1.out.setCell (Nat.le_refl _) _).setCell (Nat.le_refl _) _).setCell (Nat.le_refl _) _).setCell (Nat.le_refl _) _
   ·have HN:Hid (∀x∈ts.take (k+1),¬x.1=n):=qHd hlt hst.out (by rw[←HQ.out];exact hn)
    go_wp2_with fail
    go_roundw
    case rel=>exact⟨k+1,by omega,by go_num,HN,B1,Z1⟩
    case measure=>simp[intOf];omega
  ·have HR:Hid (atP ts n=none):=atP_none (by have:=hst.out;rwa [List.take_of_length_le (by omega)]at this)
   have Z0:Hid (ItAt (wr.alloc (.cells #[.int .i64 0,.int .i64 0,.int .i64 0,.string ⟨#[]⟩] 41)) w.heap.size 0 0 0 ⟨#[]⟩):=hz.out.stays ((Below.refl _ _).alloc (Nat.le_refl _) _) hz.out.lt
   obtain⟨d0,d1,d2,d3⟩:=Z0.out.cells
   have f0:=Z0.out.frozen 0
   have f1:=Z0.out.frozen 1
   have f2:=Z0.out.frozen 2
   have f3:=Z0.out.frozen 3
   obtain⟨r0,r1,r2,r3⟩:=(Z0.out.put4 (q':=0) (f':=0) (l':=0) (t':=⟨#[]⟩)).cells
   have B1:Hid (Below w.heap.size w (wr.alloc (.cells #[.int .i64 0,.int .i64 0,.int .i64 0,.string ⟨#[]⟩] 41))):=hb.out.alloc hb.out.size _
   go_wp2_with fail
   refine bodyPost_ret (v:=.tuple #[.agg #[.int .i64 0,.int .i64 0,.int .i64 0,.string ⟨#[]⟩],.bool false]) (by simp[results,Tryz.results170,go_sem,r0,r1,r2,r3]) rfl ⟨?_,?_⟩
   ·unfold hasP
    rw[HR.out];rfl
   ·exact(((B1.out.setCell (Nat.le_refl _) _).setCell (Nat.le_refl _) _).setCell (Nat.le_refl _) _).setCell (Nat.le_refl _) _
theorem qGu(ao:Option Addr)(cap:Nat)(ts:List It)(n:Int)(w:World)(hx:Hid (ItemsAt w ao ts))(hl:ts.length≤1048576):
  Calls Tryz.prog 16 #[.slice ao ts.length cap,.int .i64 n] w fun e w'=>e=.returned (.tuple #[agg ((atP ts n).getD zIt),.bool (hasP ts n)])∧Below w.heap.size w w':=by
 have HZ:Hid (ItAt (w.alloc (.cells #[.int .i64 0,.int .i64 0,.int .i64 0,.string ⟨#[]⟩] 41)) w.heap.size 0 0 0 ⟨#[]⟩):=zt w
 have HB:=Ag (bA w (.cells #[.int .i64 0,.int .i64 0,.int .i64 0,.string ⟨#[]⟩] 41))
 go_enter Tryz.func16,Tryz.ntmps16
 go_wp2
 go_loopw [6] (fun i wr=>∃(k:Nat),k≤ts.length∧i=.int .i64 k∧Hid (∀x∈ts.take k,¬x.1=n)∧Hid (Below w.heap.size w wr)∧Hid (ItAt wr w.heap.size 0 0 0 ⟨#[]⟩)) (fun i _=>ts.length - (intOf i).toNat)
 case atStart=>exact⟨0,Nat.zero_le _,rfl,(fun x hx=>by simp at hx: ∀x∈ts.take 0,¬x.1=n),HB,HZ⟩
 case round=>
  clear HZ HB
  obtain⟨k,hk,rfl,hst,hb,hz⟩:=hrel
  by_cases hlt:k<ts.length
  ·obtain⟨b,off,rfl,hbb,h0,h1,h2,h3⟩:=hx.out.stays hb.out k hlt
   have HP:Hid (∃x:It,x=ts[k]):=⟨_,rfl⟩
   obtain⟨⟨q,f,lv,tx⟩,hp⟩:=HP.out
   rw[←hp]at h0 h1 h2 h3
   have HQ:Hid ((q,f,lv,tx)=ts[k]):=hp
   clear hp HP
   dsimp only at h0 h1 h2 h3
   by_cases hn:q=n
   ·have HR:Hid (atP ts n=some (q,f,lv,tx)):=by
     rw[HQ.out]
     exact qLg hlt (by rw[←HQ.out];exact hn) hst.out
    subst hn
    obtain⟨d0,d1,d2,d3⟩:=hz.out.cells
    have f0:=hz.out.frozen 0
    have f1:=hz.out.frozen 1
    have f2:=hz.out.frozen 2
    have f3:=hz.out.frozen 3
    obtain⟨r0,r1,r2,r3⟩:=(hz.out.put4 (q':=q) (f':=f) (l':=lv) (t':=tx)).cells
    go_wp2_with fail
    refine bodyPost_ret (v:=.tuple #[.agg #[.int .i64 q,.int .i64 f,.int .i64 lv,.string tx],.bool true]) (by simp[results,Tryz.results16,go_sem,r0,r1,r2,r3]) rfl ⟨?_,?_⟩
    ·unfold hasP
     rw[HR.out];rfl
    ·exact(((hb.out.setCell (Nat.le_refl _) _).setCell (Nat.le_refl _) _).setCell (Nat.le_refl _) _).setCell (Nat.le_refl _) _
   ·have HN:Hid (∀x∈ts.take (k+1),¬x.1=n):=qHd hlt hst.out (by rw[←HQ.out];exact hn)
    go_wp2_with fail
    go_roundw
    case rel=>exact⟨k+1,by omega,by go_num,HN,hb,hz⟩
    case measure=>simp[intOf];omega
  ·have HR:Hid (atP ts n=none):=atP_none (by have:=hst.out;rwa [List.take_of_length_le (by omega)]at this)
   obtain⟨d0,d1,d2,d3⟩:=hz.out.cells
   have f0:=hz.out.frozen 0
   have f1:=hz.out.frozen 1
   have f2:=hz.out.frozen 2
   have f3:=hz.out.frozen 3
   obtain⟨r0,r1,r2,r3⟩:=(hz.out.put4 (q':=0) (f':=0) (l':=0) (t':=⟨#[]⟩)).cells
   go_wp2_with fail
   refine bodyPost_ret (v:=.tuple #[.agg #[.int .i64 0,.int .i64 0,.int .i64 0,.string ⟨#[]⟩],.bool false]) (by simp[results,Tryz.results16,go_sem,r0,r1,r2,r3]) rfl ⟨?_,?_⟩
   ·unfold hasP
    rw[HR.out];rfl
   ·exact(((hb.out.setCell (Nat.le_refl _) _).setCell (Nat.le_refl _) _).setCell (Nat.le_refl _) _).setCell (Nat.le_refl _) _
theorem copyItem_any(q f l:Int)(t:ByteArray)(w:World)(ht:t.size≤1048576):
  Calls Tryz.prog 152 #[.agg #[.int .i64 q,.int .i64 f,.int .i64 l,.string t]] w fun e w'=>e=.returned (.agg #[.int .i64 q,.int .i64 f,.int .i64 l,.string t])∧Below w.heap.size w w':=by
 obtain⟨W,hW⟩: ∃W,W=(w.alloc (.cells #[.int .i64 q,.int .i64 f,.int .i64 l,.string t] 41)).alloc (.cells #[.int .i64 0,.int .i64 0,.int .i64 0,.string ⟨#[]⟩] 41):=⟨_,rfl⟩
 have I0:Hid (ItAt W w.heap.size q f l t):=by
  rw[hW]
  exact ItAt.stays (show ItAt (w.alloc (.cells #[.int .i64 q,.int .i64 f,.int .i64 l,.string t] 41)) w.heap.size q f l t from heap_alloc_new w _) ((Below.refl _ _).alloc (Nat.le_refl _) _) (by simp)
 have Z0:Hid (ItAt W (w.heap.size+1) 0 0 0 ⟨#[]⟩):=by
  rw[hW]
  have h:=zt (w.alloc (.cells #[.int .i64 q,.int .i64 f,.int .i64 l,.string t] 41))
  rw[show(w.alloc (.cells #[.int .i64 q,.int .i64 f,.int .i64 l,.string t] 41)).heap.size=w.heap.size+1 by simp]at h
  exact h
 have B0:Hid (Below w.heap.size w W):=by
  rw[hW]
  exact((Below.refl _ _).alloc (Nat.le_refl _) _).alloc (by simp) _
 have HW:Hid (W=(w.alloc (.cells #[.int .i64 q,.int .i64 f,.int .i64 l,.string t] 41)).alloc (.cells #[.int .i64 0,.int .i64 0,.int .i64 0,.string ⟨#[]⟩] 41)):=hW
 clear hW
 go_enter Tryz.func152,Tryz.ntmps152
 go_wp2_with fail
 rw[←HW.out]
 clear HW
 refine(qHy t _ ht).mono ?_
 rintro e w1 ⟨rfl,hb1⟩
 obtain⟨I1,Z1,B1⟩:=cy3 (I0.out.stays hb1 I0.out.lt) (Z0.out.stays hb1 Z0.out.lt) (B0.out.trans (hb1.mono B0.out.size))
 clear I0 Z0 B0 hb1
 obtain⟨c0,c1,c2,c3⟩:=I1.out.cells
 have g3:=I1.out.frozen 3
 have I2:Hid (ItAt (w1.setCell ⟨w.heap.size,3,none⟩ (.string t)) w.heap.size q f l t):=heap_setCell_same w1 w.heap.size 3 _ 41 (.string t) I1.out
 have Z2:Hid (ItAt (w1.setCell ⟨w.heap.size,3,none⟩ (.string t)) (w.heap.size+1) 0 0 0 ⟨#[]⟩):=(Below.heap_setCell w1 ⟨w.heap.size,3,none⟩ _ (w.heap.size+1) (by simp)).trans Z1.out
 have B2:Hid (Below w.heap.size w (w1.setCell ⟨w.heap.size,3,none⟩ (.string t))):=B1.out.setCell (Nat.le_refl _) _
 obtain⟨e0,e1,e2,e3⟩:=I2.out.cells
 obtain⟨d0,d1,d2,d3⟩:=Z2.out.cells
 have f0:=Z2.out.frozen 0
 have f1:=Z2.out.frozen 1
 have f2:=Z2.out.frozen 2
 have f3:=Z2.out.frozen 3
 obtain⟨r0,r1,r2,r3⟩:=(Z2.out.put4 (q':=q) (f':=f) (l':=l) (t':=t)).cells
 go_wp2_with fail
 refine bodyPost_ret (v:=.agg #[.int .i64 q,.int .i64 f,.int .i64 l,.string t]) (by simp[results,Tryz.results152,go_sem,r0,r1,r2,r3]) rfl ⟨rfl,?_⟩
 exact(((B2.out.setCell (by simp) _).setCell (by simp) _).setCell (by simp) _).setCell (by simp) _
def qDe(ts:List It):Nat→Nat→Nat
 |0,n=>n
 |f+1,n=>if hasP ts ((n+1:Nat):Int)=true then qDe ts f (n+1)else n
def aruP(ts:List It):Nat:=qDe ts ts.length 0
theorem aruGo_on{ts:List It}{n:Nat}(h:n<ts.length)(hh:hasP ts ((n+1:Nat):Int)=true):qDe ts (ts.length - n) n=qDe ts (ts.length - (n+1)) (n+1):=by
 rw[show ts.length - n=(ts.length - (n+1))+1 by omega,qDe,if_pos hh]
theorem aruGo_off{ts:List It}{n:Nat}(h:n<ts.length)(hh:hasP ts ((n+1:Nat):Int)=false):qDe ts (ts.length - n) n=n:=by
 rw[show ts.length - n=(ts.length - (n+1))+1 by omega,qDe,if_neg (by rw[hh];simp)]
theorem aruGo_end{ts:List It}{n:Nat}(h:ts.length≤n):qDe ts (ts.length - n) n=n:=by
 rw[show ts.length - n=0 by omega,qDe]
theorem aruGo_le(ts:List It): ∀f n,qDe ts f n≤n+f
 |0,n=>by rw[qDe];omega
 |f+1,n=>by
  rw[qDe]
  split
  ·have:=aruGo_le ts f (n+1);omega
  ·omega
theorem qLh(ts:List It):aruP ts≤ts.length:=by have:=aruGo_le ts ts.length 0;unfold aruP;omega
def flg(ts:List It)(k j:Nat):Bool:=decide (1≤j∧j≤ts.length)&&(ts.take k).any fun x=>decide (x.1=(j:Int))
theorem flg_zero(ts:List It)(j:Nat):flg ts 0 j=false:=by simp[flg]
theorem flg_end(ts:List It){j:Nat}(h1:1≤j)(h2:j≤ts.length):flg ts ts.length j=hasP ts (j:Int):=by
 unfold flg hasP atP
 rw[List.take_length,decide_eq_true (by omega),Bool.true_and,Bool.eq_iff_iff]
 simp
theorem flg_out(ts:List It)(k:Nat){j:Nat}(h: ¬(1≤j∧j≤ts.length)):flg ts k j=false:=by
 unfold flg
 rw[decide_eq_false h,Bool.false_and]
theorem flg_in{ts:List It}{k:Nat}(hk:k<ts.length){q:Nat}(h1:1≤q)(h2:q≤ts.length)(e:ts[k].1=(q:Int))(j:Nat):flg ts (k+1) j=if j=q then true else flg ts k j:=by
 unfold flg
 rw[List.take_succ_eq_append_getElem hk,List.any_append]
 by_cases hj:j=q
 ·subst hj
  simp[e,h1,h2]
 ·rw[if_neg hj]
  have: ¬(q:Int)=(j:Int):=by omega
  simp[e,this]
theorem flg_no{ts:List It}{k:Nat}(hk:k<ts.length)(h: ¬(1≤ts[k].1∧ts[k].1≤(ts.length:Int)))(j:Nat):flg ts (k+1) j=flg ts k j:=by
 unfold flg
 rw[List.take_succ_eq_append_getElem hk,List.any_append]
 by_cases hj:1≤j∧j≤ts.length
 ·have: ¬ts[k].1=(j:Int):=by omega
  simp[this]
 ·rw[decide_eq_false hj,Bool.false_and,Bool.false_and]
def FlAt(w:World)(g N:Nat)(p:Nat→Bool):Prop:=∃arr:Array Value,w.heap[g]? =some (.cells arr 4 (0,0))∧arr.size=N∧∀j,j<N→arr[j]? =some (.bool (p j))
theorem FlAt.lt{w:World}{g N:Nat}{p:Nat→Bool}(h:FlAt w g N p):g<w.heap.size:=by
 obtain⟨arr,h1,_⟩:=h
 exact(Array.getElem?_eq_some_iff.1 h1).1
theorem FlAt.below{w w':World}{g N:Nat}{p:Nat→Bool}(h:FlAt w g N p)(hb:Below w.heap.size w w'):FlAt w' g N p:=by
 have:=h.lt
 obtain⟨arr,h1,h2⟩:=h
 exact⟨arr,(hb.block g this).trans h1,h2⟩
theorem FlAt.cell{w:World}{g N:Nat}{p:Nat→Bool}(h:FlAt w g N p){j:Nat}(hj:j<N):w.cell? ⟨g,j,none⟩=some (.bool (p j))∧w.frozen? ⟨g,j,none⟩=false:=by
 obtain⟨arr,h1,h2,h3⟩:=h
 exact⟨by rw[cell_of_row w g j _ 4 (0,0) h1];exact h3 j hj,frozen_of_row w g j _ 4 h1⟩
theorem FlAt.set{w:World}{g N:Nat}{p p':Nat→Bool}(h:FlAt w g N p)(k:Nat)(hp: ∀j,p' j=if j=k then true else p j):FlAt (w.setCell ⟨g,k,none⟩ (.bool true)) g N p':=by
 obtain⟨arr,h1,h2,h3⟩:=h
 refine⟨_,heap_setCell_same w g k _ 4 (.bool true) h1,by simp[h2],fun j hj=>?_⟩
 rw[Array.getElem?_setIfInBounds,hp]
 by_cases hjk:k=j
 ·subst hjk
  simp[h2,hj]
 ·have: ¬j=k:=fun e=>hjk e.symm
  simp[hjk,this,h3 j hj]
theorem FlAt.eq{w:World}{g N:Nat}{p p':Nat→Bool}(h:FlAt w g N p)(hp: ∀j,p' j=p j):FlAt w g N p':=by
 obtain⟨arr,h1,h2,h3⟩:=h
 exact⟨arr,h1,h2,fun j hj=>by rw[hp];exact h3 j hj⟩
theorem Tryz.info4b:(Tryz.prog.info? 4).map (fun i=>(i.zero,i.size,i.bytes))=some (some (.bool false),1,1):=by kernel_rfl
theorem aru_any(ao:Option Addr)(cap:Nat)(ts:List It)(w:World)(hx:Hid (ItemsAt w ao ts))(hl:ts.length≤1048576):
  Calls Tryz.prog 59 #[.slice ao ts.length cap] w fun e w'=>e=.returned (.int .i64 (aruP ts:Nat))∧Below w.heap.size w w':=by
 obtain⟨i0,hi,hz0,hz1,hz2⟩:=info_parts Tryz.info4b
 obtain⟨N,hN⟩: ∃N,N=ts.length+2:=⟨_,rfl⟩
 obtain⟨A,hA,hAs⟩: ∃A:Array Value,A=madeCells (Value.bool false).cells (N * 1)∧A.size=N:=⟨_,rfl,by rw[size_madeCells];omega⟩
 have hmk:(Instr.makeSlice 154 (.int .i64 ((ts.length:Int)+2)) (.int .i64 ((ts.length:Int)+2))).run Tryz.prog w=.ok (.slice (some ⟨w.heap.size,0,none⟩) N N) (w.alloc (.cells A 4)):=by
  have h:=run_make (P:=Tryz.prog) w 154 4 i0 _ Tryz.underlying154 hi hz0 .i64 .i64 (N:Int) (N:Int) (by omega) (by omega) (by rw[hz2];omega) (by omega)
  rw[hz1,Int.toNat_natCast,←hA]at h
  rw[show(ts.length:Int)+2=(N:Int) by omega]
  simpa using h
 have H0:Hid (FlAt (w.alloc (.cells A 4)) w.heap.size N (flg ts 0)):=⟨A,heap_alloc_new w _,hAs,fun j hj=>by
  have e:madeCells (Value.bool false).cells (N * 1)=((List.replicate N false).map Value.bool).toArray:=by
   apply Array.ext'
   rw[show(Value.bool false).cells= #[Value.bool false]from rfl,Nat.mul_one,toList_madeCells_one]
   simp
  rw[hA,flg_zero,e]
  simp[hj]⟩
 have B0:=Ag (bA w (.cells A 4))
 clear hA hAs hi hz0 hz1 hz2
 go_enter Tryz.func59,Tryz.ntmps59
 go_wp2
 go_loopw [13] (fun i wr=>∃(k:Nat),k≤ts.length∧i=.int .i64 k∧Hid (FlAt wr w.heap.size N (flg ts k))∧Hid (Below w.heap.size w wr)) (fun i _=>ts.length - (intOf i).toNat)
 case atStart=>exact⟨0,Nat.zero_le _,rfl,H0,B0⟩
 case round=>
  clear H0 B0 hmk
  obtain⟨k,hk,rfl,hf,hb⟩:=hrel
  by_cases hlt:k<ts.length
  ·obtain⟨b,off,rfl,hbb,h0,h1,h2,h3⟩:=hx.out.stays hb.out k hlt
   have HP:Hid (∃x:It,x=ts[k]):=⟨_,rfl⟩
   obtain⟨⟨q,f,lv,tx⟩,hp⟩:=HP.out
   rw[←hp]at h0 h1 h2 h3
   have HQ:Hid ((q,f,lv,tx)=ts[k]):=hp
   clear hp HP
   dsimp only at h0 h1 h2 h3
   have I0:Hid (ItAt (wr.alloc (.cells #[.int .i64 q,.int .i64 f,.int .i64 lv,.string tx] 41)) wr.heap.size q f lv tx):=heap_alloc_new wr _
   have B0:Hid (Below w.heap.size w (wr.alloc (.cells #[.int .i64 q,.int .i64 f,.int .i64 lv,.string tx] 41))):=hb.out.alloc hb.out.size _
   have F0:Hid (FlAt (wr.alloc (.cells #[.int .i64 q,.int .i64 f,.int .i64 lv,.string tx] 41)) w.heap.size N (flg ts k)):=hf.out.below ((Below.refl _ _).alloc (Nat.le_refl _) _)
   have mn:=mNum (wr.alloc (.cells #[.int .i64 q,.int .i64 f,.int .i64 lv,.string tx] 41)) (.agg #[.int .i64 q,.int .i64 f,.int .i64 lv,.string tx])
   go_wp2_with fail
   clear mn
   generalize wr.alloc (.cells #[.int .i64 q,.int .i64 f,.int .i64 lv,.string tx] 41)=W0 at *
   clear h0 h1 h2 h3
   refine(qDs q f lv tx _).mono ?_
   rintro e w1 ⟨rfl,hb1⟩
   obtain⟨I1,F1,B1⟩:=cy3 (I0.out.stays hb1 I0.out.lt) (F0.out.below hb1) (B0.out.trans (hb1.mono B0.out.size))
   clear hb1 I0 B0 F0 hf
   go_wp2_with fail
   by_cases hq:1≤q∧q≤(ts.length:Int)
   ·refine(qAi _ (decide_eq_true hq)).mono ?_
    rintro e w2 ⟨rfl,hw2⟩
    obtain rfl:=hw2.symm
    clear hw2
    obtain⟨c0,c1,c2,c3⟩:=I1.out.cells
    have mn:=mNum w1 (.agg #[.int .i64 q,.int .i64 f,.int .i64 lv,.string tx])
    go_wp2_with fail
    clear mn
    refine(qDs q f lv tx _).mono ?_
    rintro e w3 ⟨rfl,hb3⟩
    obtain⟨F3,B3⟩:=cy2 (F1.out.below hb3) (B1.out.trans (hb3.mono B1.out.size))
    clear hb3 c0 c1 c2 c3 I1 F1 B1
    obtain⟨m,rfl⟩: ∃m:Nat,q=(m:Int):=⟨q.toNat,by omega⟩
    obtain⟨c0,f0⟩:=F3.out.cell (j:=m) (by omega)
    have hmN:(m:Int)<(N:Int):=by omega
    have F4:Hid (FlAt (w3.setCell ⟨w.heap.size,m,none⟩ (.bool true)) w.heap.size N (flg ts (k+1))):=F3.out.set m (flg_in hlt (by omega) (by omega) (by rw[←HQ.out]))
    have B4:Hid (Below w.heap.size w (w3.setCell ⟨w.heap.size,m,none⟩ (.bool true))):=B3.out.setCell (Nat.le_refl _) _
    go_wp2_with fail
    go_roundw
    case rel=>exact⟨k+1,by omega,by go_num,F4,B4⟩
    case measure=>simp[intOf];omega
   ·refine(qAi _ (decide_eq_false hq)).mono ?_
    rintro e w2 ⟨rfl,hw2⟩
    obtain rfl:=hw2.symm
    clear hw2
    have F4:Hid (FlAt w1 w.heap.size N (flg ts (k+1))):=F1.out.eq (flg_no hlt (by rw[←HQ.out];exact hq))
    go_wp2_with fail
    go_roundw
    case rel=>exact⟨k+1,by omega,by go_num,F4,B1⟩
    case measure=>simp[intOf];omega
  ·obtain rfl:k=ts.length:=by omega
   go_wp2
   go_loopw [6] (fun i wr'=>∃(n:Nat),n≤ts.length∧i=.int .i64 n∧wr'=wr∧Hid (qDe ts (ts.length - n) n=aruP ts)) (fun i _=>ts.length+1 - (intOf i).toNat)
   case atStart=>exact⟨0,Nat.zero_le _,rfl,rfl,(rfl:qDe ts (ts.length - 0) 0=aruP ts)⟩
   case round=>
    obtain⟨n,hn,rfl,rfl,hg⟩:=hrel
    obtain⟨c0,f0⟩:=hf.out.cell (j:=n+1) (by omega)
    have hwn:IntKind.i64.wrap ((n:Int)+1)=((n+1:Nat):Int):=by rw[IntKind.wrap_i64];omega
    have hnN:((n+1:Nat):Int)<(N:Int):=by omega
    by_cases hlt2:n<ts.length
    ·rw[flg_end ts (by omega) (by omega)]at c0
     cases hh:hasP ts ((n+1:Nat):Int)with
     |true=>
      rw[hh]at c0
      have HN:Hid (qDe ts (ts.length - (n+1)) (n+1)=aruP ts):=by
       have:=hg.out
       rwa [aruGo_on hlt2 hh]at this
      clear hh
      go_wp2_with fail
      go_roundw
      case rel=>exact⟨n+1,by omega,by go_num,by simp,HN⟩
      case measure=>simp[intOf];omega
     |false=>
      rw[hh]at c0
      have HN:Hid (n=aruP ts):=by
       have:=hg.out
       rwa [aruGo_off hlt2 hh]at this
      clear hh
      go_wp2_with fail
      go_ret
      exact⟨by rw[←HN.out];rfl,hb.out⟩
    ·rw[flg_out ts _ (by omega)]at c0
     have HN:Hid (n=aruP ts):=by
      have:=hg.out
      rwa [aruGo_end (by omega)]at this
     go_wp2_with fail
     go_ret
     exact⟨by rw[←HN.out];rfl,hb.out⟩
theorem aruOf_any(ao:Option Addr)(cap:Nat)(ts:List It)(w:World)(hx:Hid (ItemsAt w ao ts))(hl:ts.length≤1048576):
  Calls Tryz.prog 70 #[.slice ao ts.length cap] w fun e w'=>e=.returned (.int .i64 (aruP ts:Nat))∧Below w.heap.size w w':=by
 go_enter Tryz.func70,Tryz.ntmps70
 go_wp2_with fail
 refine(aru_any ao cap ts w hx hl).mono ?_
 rintro e w1 ⟨rfl,hb1⟩
 go_wp2_with fail
 go_ret
 exact⟨rfl,hb1⟩
theorem qHh(ao:Option Addr)(cap:Nat)(ts:List It)(w:World)(hx:Hid (ItemsAt w ao ts))(hl:ts.length≤1048576):
  Calls Tryz.prog 17 #[.slice ao ts.length cap] w fun e w'=>e=.returned (.int .i64 (aruP ts:Nat))∧Below w.heap.size w w':=by
 go_enter Tryz.func17,Tryz.ntmps17
 go_wp2
 go_loopw [3,4] (fun n i wr=>∃(k:Nat),k≤ts.length∧n=.int .i64 k∧i=.int .i64 k∧Hid (qDe ts (ts.length - k) k=aruP ts)∧Hid (Below w.heap.size w wr)) (fun _ i _=>ts.length - (intOf i).toNat)
 case atStart=>exact⟨0,Nat.zero_le _,rfl,rfl,(rfl:qDe ts (ts.length - 0) 0=aruP ts),Below.refl _ _⟩
 case round=>
  obtain⟨k,hk,rfl,rfl,hg,hb⟩:=hrel
  by_cases hlt:k<ts.length
  ·have X0:=Ag (hx.out.stays hb.out)
   have hwn:IntKind.i64.wrap ((k:Int)+1)=((k+1:Nat):Int):=by rw[IntKind.wrap_i64];omega
   have A:=qGu ao cap ts ((k+1:Nat):Int) wr X0 hl
   generalize (atP ts ((k+1:Nat):Int)).getD zIt=y at A
   obtain⟨q,f,l,t⟩:=y
   cases hh:hasP ts ((k+1:Nat):Int)with
   |true=>
    rw[hh]at A
    have A:Hid _:=A
    have HN:Hid (qDe ts (ts.length - (k+1)) (k+1)=aruP ts):=by
     have:=hg.out
     rwa [aruGo_on hlt hh]at this
    clear hh
    go_wp2_with fail
    refine(show Calls _ _ _ _ _ from A.out).mono ?_
    rintro e w1 ⟨rfl,hb1⟩
    have B1:Hid (Below w.heap.size w (w1.alloc (.cells #[.int .i64 q,.int .i64 f,.int .i64 l,.string t] 41))):=(hb.out.trans (hb1.mono hb.out.size)).alloc (hb.out.trans (hb1.mono hb.out.size)).size _
    clear A hb1
    unfold agg
    go_wp2_with fail
    go_roundw
    case rel=>exact⟨k+1,by omega,rfl,rfl,HN,B1⟩
    case measure=>simp[intOf];omega
   |false=>
    rw[hh]at A
    have A:Hid _:=A
    have HN:Hid (k=aruP ts):=by
     have:=hg.out
     rwa [aruGo_off hlt hh]at this
    clear hh
    go_wp2_with fail
    refine(show Calls _ _ _ _ _ from A.out).mono ?_
    rintro e w1 ⟨rfl,hb1⟩
    have B1:Hid (Below w.heap.size w (w1.alloc (.cells #[.int .i64 q,.int .i64 f,.int .i64 l,.string t] 41))):=(hb.out.trans (hb1.mono hb.out.size)).alloc (hb.out.trans (hb1.mono hb.out.size)).size _
    clear A hb1
    unfold agg
    go_wp2_with fail
    go_ret
    exact⟨by rw[←HN.out];rfl,B1.out⟩
  ·have HN:Hid (k=aruP ts):=by
    have:=hg.out
    rwa [aruGo_end (by omega)]at this
   go_wp2_with fail
   go_ret
   exact⟨by rw[←HN.out];rfl,hb.out⟩
theorem qHr{a b:World}(h:a.grownBy b none):Below a.heap.size a b:=⟨h.os,h.tape,h.output,h.size,fun k hk=>h.block k hk (by simp)⟩
theorem qFx(ao:Option Addr)(cap:Nat)(ts:List It)(w:World)(hx:Hid (ItemsAt w ao ts))(hl:ts.length≤1048576)(hs:Hid (∀x∈ts,x.2.2.2.size≤1048576)):
  Calls Tryz.prog 118 #[.slice ao ts.length cap] w fun e w'=>∃v,e=.returned v∧SlI w' w.heap.size v ts∧Below w.heap.size w w':=by
 obtain⟨i0,hi,hz0,hz1,hz2⟩:=info_parts Tryz.infoI
 obtain⟨W,hmk,own,hgr⟩:=run_make_own (P:=Tryz.prog) w w.heap.size 94 41 i0 _ 4 Tryz.underlying94 hi hz0 hz1 .i64 .i64 ts.length (by rw[hz2];omega) (by unfold maxLen;omega) (Nat.le_refl _)
 have S0:Hid (SlI W w.heap.size (.slice (some ⟨w.heap.size,0,none⟩) 0 ts.length) []):=Sl.ofOwn own
 have B0:Hid (Below w.heap.size w W):=qHr hgr
 clear own hgr hi hz0 hz1 hz2
 go_enter Tryz.func118,Tryz.ntmps118
 go_wp2
 go_loopw [3,11] (fun v i wr=>∃(k:Nat),k≤ts.length∧i=.int .i64 k∧Hid (SlI wr w.heap.size v (ts.take k))∧Hid (Below w.heap.size w wr)) (fun _ i _=>ts.length - (intOf i).toNat)
 case atStart=>exact⟨0,Nat.zero_le _,rfl,S0,B0⟩
 case round=>
  clear S0 B0 hmk
  obtain⟨k,hk,rfl,hS,hb⟩:=hrel
  by_cases hlt:k<ts.length
  ·obtain⟨b,off,rfl,hbb,h0,h1,h2,h3⟩:=hx.out.stays hb.out k hlt
   have hsz:=hs.out _ (List.getElem_mem hlt)
   have HP:Hid (∃x:It,x=ts[k]):=⟨_,rfl⟩
   obtain⟨⟨q,f,lv,tx⟩,hp⟩:=HP.out
   rw[←hp]at h0 h1 h2 h3 hsz
   have HQ:Hid ((q,f,lv,tx)=ts[k]):=hp
   clear hp HP
   dsimp only at h0 h1 h2 h3 hsz
   have S0:Hid (SlI (wr.alloc (.cells #[.int .i64 q,.int .i64 f,.int .i64 lv,.string tx] 41)) w.heap.size u3 (ts.take k)):=hS.out.below ((Below.refl _ _).alloc (Nat.le_refl _) _)
   have B0:Hid (Below w.heap.size w (wr.alloc (.cells #[.int .i64 q,.int .i64 f,.int .i64 lv,.string tx] 41))):=hb.out.alloc hb.out.size _
   go_wp2_with fail
   generalize wr.alloc (.cells #[.int .i64 q,.int .i64 f,.int .i64 lv,.string tx] 41)=W0 at *
   clear h0 h1 h2 h3
   refine(copyItem_any q f lv tx _ hsz).mono ?_
   rintro e w1 ⟨rfl,hb1⟩
   have S1:SlI w1 w.heap.size u3 (ts.take k):=S0.out.below hb1
   have B1:Below w.heap.size w w1:=B0.out.trans (hb1.mono B0.out.size)
   have z1:=B1.size
   have hlk:(ts.take k).length≤1048576:=by rw[List.length_take];omega
   clear hb1 S0 B0 hS
   go_wp2_with (at_builtin;refine qAu rfl _ _ 94 rfl Tryz.underlying94 w.heap.size u3 (ts.take k) rfl S1 (q,f,lv,tx) rfl hlk z1 ?_;intro v2 w2 S2 g2 b2 _)
   have S2:Hid (SlI w2 w.heap.size v2 (ts.take (k+1))):=by
    rw[List.take_succ_eq_append_getElem hlt,←HQ.out]
    exact S2
   have B2:Hid (Below w.heap.size w w2):=B1.trans b2
   go_roundw
   case rel=>exact⟨k+1,by omega,by go_num,S2,B2⟩
   case measure=>simp[intOf];omega
  ·obtain rfl:k=ts.length:=by omega
   go_wp2_with fail
   go_ret
   exact⟨_,rfl,by have:=hS.out;rwa [List.take_length]at this,hb.out⟩
def qGz(ts:List It):List It:=ts.filter fun x=>decide (x.1≤(aruP ts:Int))
def inB(ws:List Int)(n:Int):Bool:=decide (n∈ws)
theorem inB_first{ws:List Int}{n:Int}{k:Nat}(h:qEd ws n k):inB ws n=true:=by
 obtain⟨hk,he,_⟩:=h
 unfold inB
 simp only[decide_eq_true_eq]
 rw[←he]
 exact List.getElem_mem hk
theorem inB_none{ws:List Int}{n:Int}(h:qDm ws n ws.length):inB ws n=false:=by
 unfold inB
 simp only[decide_eq_false_iff_not]
 intro hm
 obtain⟨j,hj,he⟩:=List.getElem_of_mem hm
 exact h j hj hj he
theorem qGs(ao:Option Addr)(cap:Nat)(ws:List Int)(d:Int)(w:World)(hx:Hid (IntsAt w ao ws))(hl:ws.length≤1048576):
  Calls Tryz.prog 137 #[.slice ao ws.length cap,.int .i64 d] w fun e w'=>e=.returned (.bool (inB ws d))∧w'=w:=by
 rcases qLa ws d with⟨k,hk⟩|hn
 ·rw[inB_first hk]
  have HK:Hid (qEd ws d k):=hk
  have h0:(0:Int)≤(k:Int):=by omega
  clear hk
  go_enter Tryz.func137,Tryz.ntmps137
  go_wp2_with fail
  refine(index_at ao cap ws d k w hx hl HK).mono ?_
  rintro e w1 ⟨rfl,rfl⟩
  go_wp2_with fail
  go_ret
  exact⟨by simp,rfl⟩
 ·rw[inB_none hn]
  have HN:Hid (qDm ws d ws.length):=hn
  clear hn
  go_enter Tryz.func137,Tryz.ntmps137
  go_wp2_with fail
  refine(index_none ao cap ws d w hx hl HN).mono ?_
  rintro e w1 ⟨rfl,rfl⟩
  go_wp2_with fail
  go_ret
  exact⟨rfl,rfl⟩
theorem lin_any(ao:Option Addr)(cap:Nat)(ws:List Int)(d:Int)(w:World)(hx:Hid (IntsAt w ao ws))(hl:ws.length≤1048576):
  Calls Tryz.prog 132 #[.slice ao ws.length cap,.int .i64 d] w fun e w'=>e=.returned (.bool (inB ws d))∧w'=w:=by
 go_enter Tryz.func132,Tryz.ntmps132
 go_wp2
 go_loop [5] (fun i=>∃(k:Nat),k≤ws.length∧i=.int .i64 k∧Hid (qDm ws d k)) (fun i=>ws.length - (intOf i).toNat)
 case atStart=>exact⟨0,Nat.zero_le _,rfl,fun j _ h=>by omega⟩
 case round=>
  obtain⟨k,hk,rfl,hnu⟩:=hrel
  by_cases hlt:k<ws.length
  ·obtain⟨b,off,rfl,hbb,hc⟩:=hx.out k hlt
   obtain⟨x,ht⟩: ∃x,x=ws[k]:=⟨_,rfl⟩
   rw[←ht]at hc
   have HT:Hid (x=ws[k]):=ht
   clear ht
   by_cases h1:x=d
   ·have HF:Hid (qEd ws d k):=⟨hlt,by rw[←HT.out];exact h1,fun j hj=>hnu.out j (by omega) hj⟩
    go_wp2
    go_ret
    exact⟨by rw[inB_first HF.out];rfl,rfl⟩
   ·have HE:Hid (¬x=d):=h1
    go_wp2
    go_round
    case rel=>exact⟨k+1,by omega,by go_num,(fun j hj h=>by
      by_cases e:j=k
      ·subst e;rw[←HT.out];exact HE.out
      ·exact hnu.out j hj (by omega))⟩
    case measure=>simp[intOf];omega
  ·obtain rfl:k=ws.length:=by omega
   go_wp2
   go_ret
   exact⟨by rw[inB_none hnu.out];rfl,rfl⟩
theorem asks_any(c r q a b:Int)(ao:Option Addr)(cap:Nat)(ws:List Int)(n f l:Int)(t:ByteArray)(w:World)(hx:Hid (IntsAt w ao ws))(hl:ws.length≤1048576):
  Calls Tryz.prog 121 #[.agg #[.int .i64 c,.int .i64 r,.int .i64 q,.int .i64 a,.int .i64 b,.slice ao ws.length cap],.agg #[.int .i64 n,.int .i64 f,.int .i64 l,.string t]] w fun e w'=>e=.returned (.bool (inB ws n))∧Below w.heap.size w w':=by
 have HB:Hid (Below w.heap.size w ((w.alloc (.cells #[.int .i64 c,.int .i64 r,.int .i64 q,.int .i64 a,.int .i64 b,.slice ao ws.length cap] 30)).alloc (.cells #[.int .i64 n,.int .i64 f,.int .i64 l,.string t] 41))):=((Below.refl _ _).alloc (Nat.le_refl _) _).alloc (by simp) _
 have HX:=Ag (hx.out.stays HB.out)
 clear hx
 go_enter Tryz.func121,Tryz.ntmps121
 go_wp2_with fail
 generalize ((w.alloc (.cells #[.int .i64 c,.int .i64 r,.int .i64 q,.int .i64 a,.int .i64 b,.slice ao ws.length cap] 30)).alloc (.cells #[.int .i64 n,.int .i64 f,.int .i64 l,.string t] 41))=W at *
 refine(qGs ao cap ws n W HX hl).mono ?_
 rintro e w1 ⟨rfl,rfl⟩
 go_wp2_with fail
 go_ret
 exact⟨rfl,HB.out⟩
def qBf(ws:List Int)(ts:List It):List It:=ts.filter fun x=>inB ws x.1
theorem give_step{ws:List Int}{ts:List It}{k:Nat}(hk:k<ts.length):qBf ws (ts.take (k+1))=qBf ws (ts.take k)++if inB ws ts[k].1 then[ts[k]]else[]:=by
 unfold qBf
 rw[List.take_succ_eq_append_getElem hk,List.filter_append]
 congr 1
 cases h:inB ws ts[k].1<;>simp[h]
theorem give_len(ws:List Int)(ts:List It)(k:Nat):(qBf ws (ts.take k)).length≤ts.length:=
 Nat.le_trans (List.length_filter_le _ _) (by rw[List.length_take];omega)
theorem kept_any(c r q a b:Int)(aw:Option Addr)(cw:Nat)(ws:List Int)(ao:Option Addr)(cap:Nat)(ts:List It)(w:World)(hy:Hid (IntsAt w aw ws))(hx:Hid (ItemsAt w ao ts))(hl:ts.length≤1048576)(hw:ws.length≤1048576):
  Calls Tryz.prog 120 #[.slice ao ts.length cap,.func (Fn.func 121) #[.agg #[.int .i64 c,.int .i64 r,.int .i64 q,.int .i64 a,.int .i64 b,.slice aw ws.length cw]] #[]] w fun e w'=>∃v,e=.returned v∧SlI w' w.heap.size v (qBf ws ts)∧Below w.heap.size w w':=by
 have S0:Hid (SlI (w.alloc (.cells #[] 41)) w.heap.size (.slice (some ⟨w.heap.size,0,none⟩) 0 0) []):=SlI.made w w.heap.size (Nat.le_refl _)
 have B0:=Ag (bA w (.cells #[] 41))
 go_enter Tryz.func120,Tryz.ntmps120
 go_wp2
 go_loopw [5,11] (fun v i wr=>∃(k:Nat),k≤ts.length∧i=.int .i64 k∧Hid (SlI wr w.heap.size v (qBf ws (ts.take k)))∧Hid (Below w.heap.size w wr)) (fun _ i _=>ts.length - (intOf i).toNat)
 case atStart=>exact⟨0,Nat.zero_le _,rfl,S0,B0⟩
 case round=>
  clear S0 B0
  obtain⟨k,hk,rfl,hS,hb⟩:=hrel
  by_cases hlt:k<ts.length
  ·obtain⟨bb,off,rfl,hbb,h0,h1,h2,h3⟩:=hx.out.stays hb.out k hlt
   have HP:Hid (∃x:It,x=ts[k]):=⟨_,rfl⟩
   obtain⟨⟨n,f,lv,tx⟩,hp⟩:=HP.out
   rw[←hp]at h0 h1 h2 h3
   have hst:=give_step (ws:=ws) hlt
   rw[←hp]at hst
   have HST:Hid _:=hst
   clear hp HP hst
   dsimp only at h0 h1 h2 h3
   have S0:Hid (SlI (wr.alloc (.cells #[.int .i64 n,.int .i64 f,.int .i64 lv,.string tx] 41)) w.heap.size u5 (qBf ws (ts.take k))):=hS.out.below ((Below.refl _ _).alloc (Nat.le_refl _) _)
   have I0:Hid (ItAt (wr.alloc (.cells #[.int .i64 n,.int .i64 f,.int .i64 lv,.string tx] 41)) wr.heap.size n f lv tx):=heap_alloc_new wr _
   have B0:Hid (Below w.heap.size w (wr.alloc (.cells #[.int .i64 n,.int .i64 f,.int .i64 lv,.string tx] 41))):=hb.out.alloc hb.out.size _
   have Y0:=Ag (hy.out.stays B0.out)
   go_wp2_with fail
   generalize wr.alloc (.cells #[.int .i64 n,.int .i64 f,.int .i64 lv,.string tx] 41)=W0 at *
   clear h0 h1 h2 h3
   refine(asks_any c r q a b aw cw ws n f lv tx _ Y0 hw).mono ?_
   rintro e w1 ⟨rfl,hb1⟩
   have S1:=Ag (S0.out.below hb1)
   have I1:=I0.out.stays hb1 I0.out.lt
   obtain⟨c0,c1,c2,c3⟩:=I1.cells
   have B1:Below w.heap.size w w1:=B0.out.trans (hb1.mono B0.out.size)
   have z1:=B1.size
   have hlk:(qBf ws (ts.take k)).length≤1048576:=Nat.le_trans (give_len ws ts k) hl
   clear hb1 S0 B0 hS I0 I1 Y0
   cases hq:inB ws n with
   |true=>
    have HLS:Hid (qBf ws (ts.take (k+1))=qBf ws (ts.take k)++[(n,f,lv,tx)]):=by
     have:=HST.out
     rwa [if_pos (show inB ws (n,f,lv,tx).1=true from hq)]at this
    clear HST
    go_wp2_with (at_builtin;refine qAu rfl _ _ 27 rfl Tryz.underlying27 w.heap.size u5 _ rfl S1.out (n,f,lv,tx) rfl hlk z1 ?_;intro v2 w2 S2 g2 b2 _)
    have S2:Hid (SlI w2 w.heap.size v2 (qBf ws (ts.take (k+1)))):=by
     rw[HLS.out]
     exact S2
    have B2:Hid (Below w.heap.size w w2):=B1.trans b2
    go_roundw
    case rel=>exact⟨k+1,by omega,by go_num,S2,B2⟩
    case measure=>simp[intOf];omega
   |false=>
    have HLS:Hid (qBf ws (ts.take (k+1))=qBf ws (ts.take k)):=by
     have:=HST.out
     rwa [if_neg (show ¬inB ws (n,f,lv,tx).1=true by simp[hq]),List.append_nil]at this
    clear HST
    have S2:Hid (SlI w1 w.heap.size u5 (qBf ws (ts.take (k+1)))):=by
     rw[HLS.out]
     exact S1
    have B2:Hid (Below w.heap.size w w1):=B1
    go_wp2_with fail
    go_roundw
    case rel=>exact⟨k+1,by omega,by go_num,S2,B2⟩
    case measure=>simp[intOf];omega
  ·obtain rfl:k=ts.length:=by omega
   go_wp2_with fail
   go_ret
   exact⟨_,rfl,by have:=hS.out;rw[List.take_length]at this;exact this,hb.out⟩
theorem give_any(c r q a b:Int)(aw:Option Addr)(cw:Nat)(ws:List Int)(ao:Option Addr)(cap:Nat)(ts:List It)(w:World)(hy:Hid (IntsAt w aw ws))(hx:Hid (ItemsAt w ao ts))(hl:ts.length≤1048576)(hw:ws.length≤1048576)(hs:Hid (∀x∈ts,x.2.2.2.size≤1048576)):
  Calls Tryz.prog 54 #[.agg #[.int .i64 c,.int .i64 r,.int .i64 q,.int .i64 a,.int .i64 b,.slice aw ws.length cw],.slice ao ts.length cap] w fun e w'=>∃v,e=.returned v∧SlI w' w.heap.size v (qBf ws ts)∧Below w.heap.size w w':=by
 have HB:=Ag (bA w (.cells #[.int .i64 c,.int .i64 r,.int .i64 q,.int .i64 a,.int .i64 b,.slice aw ws.length cw] 30))
 obtain⟨HY,HX⟩:=cy2 (hy.out.stays HB.out) (hx.out.stays HB.out)
 clear hx hy
 go_enter Tryz.func54,Tryz.ntmps54
 go_wp2_with fail
 generalize w.alloc (.cells #[.int .i64 c,.int .i64 r,.int .i64 q,.int .i64 a,.int .i64 b,.slice aw ws.length cw] 30)=W at *
 refine(kept_any c r q a b aw cw ws ao cap ts W HY HX hl hw).mono ?_
 rintro e w1 ⟨v,rfl,S1,b1⟩
 have B1:Below w.heap.size w w1:=HB.out.trans (b1.mono HB.out.size)
 have z1:=B1.size
 obtain⟨vo,vc,rfl,Y1⟩:=S1.items
 have Y1:Hid (ItemsAt w1 vo (qBf ws ts)):=Y1
 have hlw:(qBf ws ts).length≤1048576:=Nat.le_trans (List.length_filter_le _ _) hl
 have HSW:Hid (∀x∈qBf ws ts,x.2.2.2.size≤1048576):=fun x hx=>hs.out x (List.mem_filter.1 hx).1
 clear S1 hs HX HY b1
 go_wp2_with fail
 refine(qFx vo vc (qBf ws ts) w1 Y1 hlw HSW).mono ?_
 rintro e w2 ⟨v2,rfl,S2,B2⟩
 go_wp2_with fail
 go_ret
 exact⟨_,rfl,S2.down z1,B1.trans (B2.mono z1)⟩
def cmpP(a b:Int):Int:=if a<b then -1 else if b<a then 1 else 0
theorem cmpP_neg{a b:Int}:cmpP a b<0↔a<b:=by
 unfold cmpP
 split
 ·simp_all
 ·split<;>simp_all
theorem cmpP_zero{a b:Int}:cmpP a b=0↔a=b:=by
 unfold cmpP
 split
 ·simp;omega
 ·split
  ·simp;omega
  ·simp;omega
theorem isNaN_any(a:Int)(w:World):Calls Tryz.prog 212 #[.int .i64 a] w fun e w'=>e=.returned (.bool false)∧w'=w:=by
 go_enter Tryz.func212,Tryz.ntmps212
 go_wp2_with fail
 go_ret
 exact⟨rfl,rfl⟩
theorem cmp_any(a b:Int)(w:World):Calls Tryz.prog 179 #[.int .i64 a,.int .i64 b] w fun e w'=>e=.returned (.int .i64 (cmpP a b))∧w'=w:=by
 go_enter Tryz.func179,Tryz.ntmps179
 go_wp2_with fail
 refine(isNaN_any a w).mono ?_
 rintro e w1 ⟨rfl,h1⟩
 obtain rfl:=h1.symm
 go_wp2_with fail
 refine(isNaN_any b w).mono ?_
 rintro e w2 ⟨rfl,h2⟩
 obtain rfl:=h2.symm
 by_cases hab:a<b
 ·have HC:Hid (cmpP a b= -1):=(by unfold cmpP;rw[if_pos hab]:cmpP a b= -1)
  go_wp2_with fail
  go_ret
  exact⟨by rw[HC.out];rfl,rfl⟩
 ·by_cases hba:b<a
  ·have HC:Hid (cmpP a b=1):=(by unfold cmpP;rw[if_neg hab,if_pos hba]:cmpP a b=1)
   go_wp2_with fail
   go_ret
   exact⟨by rw[HC.out];rfl,rfl⟩
  ·have HC:Hid (cmpP a b=0):=(by unfold cmpP;rw[if_neg hab,if_neg hba]:cmpP a b=0)
   go_wp2_with fail
   go_ret
   exact⟨by rw[HC.out];rfl,rfl⟩
theorem putc_any(q f l:Int)(t:ByteArray)(n:Int)(w:World):
  Calls Tryz.prog 178 #[.agg #[.int .i64 q,.int .i64 f,.int .i64 l,.string t],.int .i64 n] w fun e w'=>e=.returned (.int .i64 (cmpP q n))∧Below w.heap.size w w':=by
 have B0:=Ag (bA w (.cells #[.int .i64 q,.int .i64 f,.int .i64 l,.string t] 41))
 have mn:=mNum (w.alloc (.cells #[.int .i64 q,.int .i64 f,.int .i64 l,.string t] 41)) (.agg #[.int .i64 q,.int .i64 f,.int .i64 l,.string t])
 go_enter Tryz.func178,Tryz.ntmps178
 go_wp2_with fail
 clear mn
 generalize w.alloc (.cells #[.int .i64 q,.int .i64 f,.int .i64 l,.string t] 41)=W0 at *
 refine(qDs q f l t W0).mono ?_
 rintro e w1 ⟨rfl,b1⟩
 have B1:=Ag (B0.out.trans (b1.mono B0.out.size))
 clear b1 B0
 go_wp2_with fail
 refine(cmp_any q n w1).mono ?_
 rintro e w2 ⟨rfl,h2⟩
 obtain rfl:=h2.symm
 go_wp2_with fail
 go_ret
 exact⟨rfl,B1.out⟩
def Parts(ts:List It)(n:Int)(p:Nat):Prop:=p≤ts.length∧(∀x∈ts.take p,x.1<n)∧∀x∈ts.drop p,n≤x.1
def Asc(ts:List It):Prop:=ts.Pairwise fun a b=>a.1<b.1
theorem Asc.at{ts:List It}(h:Asc ts){i j:Nat}(hij:i<j)(hj:j<ts.length):(ts[i]'(by omega)).1<ts[j].1:=List.pairwise_iff_getElem.1 h i j (by omega) hj hij
theorem ahead{ts:List It}(h:Asc ts){n:Int}{k:Nat}(hk:k<ts.length)(hlt:ts[k].1<n): ∀x∈ts.take (k+1),x.1<n:=by
 intro x hx
 obtain⟨i,hi,rfl⟩:=List.mem_take_iff_getElem.1 hx
 have hi2:i<ts.length:=by omega
 by_cases hik:i=k
 ·subst hik;exact hlt
 ·have:=h.at (i:=i) (j:=k) (by omega) hk
  omega
theorem behind{ts:List It}(h:Asc ts){n:Int}{k:Nat}(hk:k<ts.length)(hge:n≤ts[k].1): ∀x∈ts.drop k,n≤x.1:=by
 intro x hx
 obtain⟨i,hi,rfl⟩:=List.mem_drop_iff_getElem.1 hx
 by_cases hi0:i=0
 ·subst hi0;simpa using hge
 ·have:=h.at (i:=k) (j:=k+i) (by omega) (by omega)
  omega
theorem bsf_any(ao:Option Addr)(cap:Nat)(ts:List It)(n:Int)(w:World)(hx:Hid (ItemsAt w ao ts))(hl:ts.length≤1048576)(ha:Hid (Asc ts)):
  Calls Tryz.prog 177 #[.slice ao ts.length cap,.int .i64 n,.func (Fn.func 178) #[] #[]] w fun e w'=>(∃(p:Nat),Parts ts n p∧e=.returned (.tuple #[.int .i64 (p:Int),.bool (decide (∃h:p<ts.length,ts[p].1=n))]))∧Below w.heap.size w w':=by
 go_enter Tryz.func177,Tryz.ntmps177
 go_wp2
 go_loopw [9,10] (fun a b wr=>∃(i j:Nat),i≤j∧j≤ts.length∧a=.int .i64 i∧b=.int .i64 j∧Hid (∀x∈ts.take i,x.1<n)∧Hid (∀x∈ts.drop j,n≤x.1)∧Hid (Below w.heap.size w wr)) (fun a b _=>(intOf b).toNat - (intOf a).toNat)
 case atStart=>exact⟨0,ts.length,Nat.zero_le _,Nat.le_refl _,rfl,rfl,(fun x hx=>by simp at hx: ∀x∈ts.take 0,x.1<n),(fun x hx=>by simp at hx: ∀x∈ts.drop ts.length,n≤x.1),Below.refl _ _⟩
 case round=>
  obtain⟨i,j,hij,hj,rfl,rfl,h1,h2,hb⟩:=hrel
  by_cases hlt:i<j
  ·have hi1:i≤(i+j) / 2:=by omega
   have hi2:(i+j) / 2<j:=by omega
   have hi3:(i+j) / 2<ts.length:=by omega
   obtain⟨b,off,rfl,hbb,c0,c1,c2,c3⟩:=hx.out.stays hb.out ((i+j) / 2) hi3
   have HP:Hid (∃x:It,x=ts[(i+j) / 2]):=⟨_,rfl⟩
   obtain⟨⟨q,f,lv,tx⟩,hp⟩:=HP.out
   rw[←hp]at c0 c1 c2 c3
   have HQ:Hid ((q,f,lv,tx)=ts[(i+j) / 2]):=hp
   clear hp HP
   dsimp only at c0 c1 c2 c3
   go_wp2_with fail
   refine(putc_any q f lv tx n wr).mono ?_
   rintro e w1 ⟨rfl,hb1⟩
   have B1:=Ag (hb.out.trans (hb1.mono hb.out.size))
   clear hb1 c0 c1 c2 c3
   by_cases hq:q<n
   ·have hc:cmpP q n<0:=cmpP_neg.2 hq
    have H1:Hid (∀x∈ts.take ((i+j) / 2+1),x.1<n):=ahead ha.out hi3 (by rw[←HQ.out];exact hq)
    go_wp2_with fail
    go_roundw
    case rel=>exact⟨(i+j) / 2+1,j,by omega,hj,by go_num,rfl,H1,h2,B1⟩
    case measure=>simp[intOf];omega
   ·have hc: ¬cmpP q n<0:=fun h=>hq (cmpP_neg.1 h)
    have H2:Hid (∀x∈ts.drop ((i+j) / 2),n≤x.1):=behind ha.out hi3 (by rw[←HQ.out];show n≤q;omega)
    go_wp2_with fail
    go_roundw
    case rel=>exact⟨i,(i+j) / 2,by omega,by omega,rfl,by go_num,h1,H2,B1⟩
    case measure=>simp[intOf];omega
  ·obtain rfl:i=j:=by omega
   have HPa:Hid (Parts ts n i):=(⟨hj,h1.out,h2.out⟩:Parts ts n i)
   by_cases hlt2:i<ts.length
   ·obtain⟨b,off,rfl,hbb,c0,c1,c2,c3⟩:=hx.out.stays hb.out i hlt2
    have HP:Hid (∃x:It,x=ts[i]):=⟨_,rfl⟩
    obtain⟨⟨q,f,lv,tx⟩,hp⟩:=HP.out
    rw[←hp]at c0 c1 c2 c3
    have HQ:Hid ((q,f,lv,tx)=ts[i]):=hp
    clear hp HP
    dsimp only at c0 c1 c2 c3
    have HD:Hid (decide (∃h:i<ts.length,ts[i].1=n)=decide (cmpP q n=0)):=by
     have e:(∃h:i<ts.length,ts[i].1=n)↔cmpP q n=0:=by
      rw[cmpP_zero]
      constructor
      ·rintro⟨_,e⟩;rw[←HQ.out]at e;exact e
      ·intro e;exact⟨hlt2,by rw[←HQ.out];exact e⟩
     show decide _=decide _
     exact decide_eq_decide.2 e
    go_wp2_with fail
    refine(putc_any q f lv tx n wr).mono ?_
    rintro e w1 ⟨rfl,hb1⟩
    have B1:=Ag (hb.out.trans (hb1.mono hb.out.size))
    clear hb1 c0 c1 c2 c3
    go_wp2_with fail
    refine bodyPost_ret (v:=.tuple #[.int .i64 (i:Int),.bool (decide (cmpP q n=0))]) (by simp[results,Tryz.results177,go_sem];rfl) rfl ⟨?_,?_⟩
    ·exact⟨i,HPa.out,by rw[HD.out]⟩
    ·exact B1.out
   ·have HD:Hid (decide (∃h:i<ts.length,ts[i].1=n)=false):=(decide_eq_false (fun⟨h,_⟩=>hlt2 h):decide (∃h:i<ts.length,ts[i].1=n)=false)
    go_wp2_with fail
    refine bodyPost_ret (v:=.tuple #[.int .i64 (i:Int),.bool false]) (by simp[results,Tryz.results177,go_sem]) rfl ⟨?_,?_⟩
    ·exact⟨i,HPa.out,by rw[HD.out]⟩
    ·exact hb.out
def qBe(ts:List It)(last:Int):Nat→Nat→List Int→List Int
 |0,_,acc=>acc
 |f+1,n,acc=>if(n:Int)≤last∧acc.length<20 then qBe ts last f (n+1) (if hasP ts (n:Int)=true then acc else acc++[(n:Int)])else acc
def qBh(ts:List It)(u:Int):List Int:=qBe ts (if u≤60 then u else 60) (61 - (aruP ts+1)) (aruP ts+1) []
theorem qGi{ts:List It}{last:Int}{n:Nat}{acc:List Int}(hl:last≤60)(h1:(n:Int)≤last)(h2:acc.length<20)(h3:hasP ts (n:Int)=true):qBe ts last (61 - n) n acc=qBe ts last (61 - (n+1)) (n+1) acc:=by
 rw[show 61 - n=(61 - (n+1))+1 by omega,qBe,if_pos ⟨h1,h2⟩,if_pos h3]
theorem qGg{ts:List It}{last:Int}{n:Nat}{acc:List Int}(hl:last≤60)(h1:(n:Int)≤last)(h2:acc.length<20)(h3:hasP ts (n:Int)=false):qBe ts last (61 - n) n acc=qBe ts last (61 - (n+1)) (n+1) (acc++[(n:Int)]):=by
 rw[show 61 - n=(61 - (n+1))+1 by omega,qBe,if_pos ⟨h1,h2⟩,if_neg (by rw[h3];simp)]
theorem qGj{ts:List It}{last:Int}{n:Nat}{acc:List Int}(h: ¬((n:Int)≤last∧acc.length<20)): ∀f,qBe ts last f n acc=acc
 |0=>rfl
 |f+1=>by rw[qBe,if_neg h]
theorem missGo_le(ts:List It)(last:Int): ∀f n acc,acc.length≤20→(qBe ts last f n acc).length≤20
 |0,_,acc,h=>h
 |f+1,n,acc,h=>by
  rw[qBe]
  split
  ·rename_i hh
   refine missGo_le ts last f _ _ ?_
   split
   ·exact h
   ·simp;omega
  ·exact h
theorem missP_le(ts:List It)(u:Int):(qBh ts u).length≤20:=missGo_le _ _ _ _ _ (by simp)
theorem Tryz.info3:(Tryz.prog.info? 3).map (fun i=>(i.zero,i.size,i.bytes))=some (some (.int .i64 0),1,8):=by kernel_rfl
theorem qGp(ao:Option Addr)(cap:Nat)(ts:List It)(u:Int)(hu:u≤60)(w:World)(hx:Hid (ItemsAt w ao ts))(hl:ts.length≤1048576):
  Calls Tryz.prog 171 #[.slice ao ts.length cap,.int .i64 u,.int .i64 20] w fun e w'=>∃v,e=.returned v∧OwnI w' w.heap.size v (qBh ts u)∧Below w.heap.size w w':=by
 obtain⟨A,hA⟩: ∃A:Nat,A=aruP ts:=⟨_,rfl⟩
 have hAl:A≤1048576:=by have:=qLh ts;omega
 have HR:Hid (qBe ts u (61 - (A+1)) (A+1) []=qBh ts u):=(by unfold qBh;rw[if_pos hu,hA]:qBe ts u (61 - (A+1)) (A+1) []=qBh ts u)
 have X0:Hid (ItemsAt (w.alloc (.cells #[] 3)) ao ts):=hx.out.stays ((Below.refl _ _).alloc (Nat.le_refl _) _)
 have AR:=aru_any ao cap ts _ X0 hl
 rw[←hA]at AR
 have AR:Hid _:=AR
 have O0:Hid (OwnI (w.alloc (.cells #[] 3)) w.heap.size (.slice (some ⟨w.heap.size,0,none⟩) 0 0) []):=OwnI.made w w.heap.size (Nat.le_refl _)
 have B0:=Ag (bA w (.cells #[] 3))
 clear hA
 go_enter Tryz.func171,Tryz.ntmps171
 go_wp2_with fail
 generalize w.alloc (.cells #[] 3)=W0 at *
 refine(show Calls _ _ _ _ _ from AR.out).mono ?_
 rintro e w1 ⟨rfl,b1⟩
 obtain⟨O1,B1⟩:=cy2 (O0.out.stays b1 (fun k hk=>(O0.out.lt k hk).2)) (B0.out.trans (b1.mono B0.out.size))
 clear AR O0 B0 b1 X0
 go_wp2
 go_loopw [7,8] (fun v i wr=>∃(n:Nat) (acc:List Int),n≤1048577∧i=.int .i64 n∧acc.length≤20∧Hid (OwnI wr w.heap.size v acc)∧Hid (Below w.heap.size w wr)∧Hid (qBe ts u (61 - n) n acc=qBh ts u)) (fun _ i _=>1048578 - (intOf i).toNat)
 case atStart=>exact⟨A+1,[],by omega,by go_num,by simp,O1,B1,HR⟩
 case round=>
  clear O1 B1 HR
  obtain⟨n,acc,hn,rfl,hacc,hO,hb,hg⟩:=hrel
  obtain⟨vo,vc,rfl⟩:=hO.out.form
  by_cases hlt:(n:Int)≤u∧acc.length<20
  ·obtain⟨h1,h2⟩:=hlt
   have h2i:(acc.length:Int)<20:=by omega
   have X0:=Ag (hx.out.stays hb.out)
   have A:=at_any ao cap ts (n:Int) wr X0 hl
   generalize (atP ts (n:Int)).getD zIt=y at A
   obtain⟨q,f,l,t⟩:=y
   cases hh:hasP ts (n:Int)with
   |true=>
    rw[hh]at A
    have A:Hid _:=A
    have HN:Hid (qBe ts u (61 - (n+1)) (n+1) acc=qBh ts u):=by
     have:=hg.out
     rwa [qGi hu h1 h2 hh]at this
    clear hh
    go_wp2_with fail
    refine(show Calls _ _ _ _ _ from A.out).mono ?_
    rintro e w1 ⟨rfl,hb1⟩
    have B1:Hid (Below w.heap.size w (w1.alloc (.cells #[.int .i64 q,.int .i64 f,.int .i64 l,.string t] 41))):=(hb.out.trans (hb1.mono hb.out.size)).alloc (hb.out.trans (hb1.mono hb.out.size)).size _
    have O1:Hid (OwnI (w1.alloc (.cells #[.int .i64 q,.int .i64 f,.int .i64 l,.string t] 41)) w.heap.size (.slice vo acc.length vc) acc):=(hO.out.stays hb1 (fun k hk=>(hO.out.lt k hk).2)).alloc _
    clear A hb1
    unfold agg
    dsimp only
    go_wp2_with fail
    go_roundw
    case rel=>exact⟨n+1,acc,by omega,by go_num,hacc,O1,B1,HN⟩
    case measure=>simp[intOf];omega
   |false=>
    rw[hh]at A
    have A:Hid _:=A
    have HN:Hid (qBe ts u (61 - (n+1)) (n+1) (acc++[(n:Int)])=qBh ts u):=by
     have:=hg.out
     rwa [qGg hu h1 h2 hh]at this
    clear hh
    go_wp2_with fail
    refine(show Calls _ _ _ _ _ from A.out).mono ?_
    rintro e w1 ⟨rfl,hb1⟩
    have B1:Below w.heap.size w (w1.alloc (.cells #[.int .i64 q,.int .i64 f,.int .i64 l,.string t] 41)):=(hb.out.trans (hb1.mono hb.out.size)).alloc (hb.out.trans (hb1.mono hb.out.size)).size _
    have O1:OwnI (w1.alloc (.cells #[.int .i64 q,.int .i64 f,.int .i64 l,.string t] 41)) w.heap.size (.slice vo acc.length vc) acc:=(hO.out.stays hb1 (fun k hk=>(hO.out.lt k hk).2)).alloc _
    have z1:=B1.size
    have hl4:acc.length<4000000:=by omega
    clear A hb1
    unfold agg
    dsimp only
    obtain⟨HO1,HB1⟩:=cy2 O1 B1
    clear O1 B1
    go_wp2_with (at_builtin;refine qBm rfl _ _ 24 rfl Tryz.underlying24 Tryz.info3 w.heap.size (.slice vo acc.length vc) acc rfl HO1.out (n:Int) (by simp[Act.eval]) hl4 z1 ?_;intro v2 w2 O2 b2)
    have O2:Hid (OwnI w2 w.heap.size v2 (acc++[(n:Int)])):=O2
    have B2:Hid (Below w.heap.size w w2):=Below.trans HB1.out b2
    go_roundw
    case rel=>exact⟨n+1,acc++[(n:Int)],by omega,by go_num,by simp;omega,O2,B2,HN⟩
    case measure=>simp[intOf];omega
  ·have HN:Hid (acc=qBh ts u):=by
    have:=hg.out
    rwa [qGj hlt]at this
   by_cases h1:(n:Int)≤u
   ·have h2: ¬(acc.length:Int)<20:=fun h=>hlt ⟨h1,by omega⟩
    clear hlt
    go_wp2_with fail
    go_ret
    exact⟨_,rfl,by rw[←HN.out];exact hO.out,hb.out⟩
   ·clear hlt
    go_wp2_with fail
    go_ret
    exact⟨_,rfl,by rw[←HN.out];exact hO.out,hb.out⟩
theorem missP_cut(ts:List It)(u:Int):qBh ts u=qBh ts (if u≤60 then u else 60):=by
 unfold qBh
 by_cases h:u≤60
 ·simp only[h,if_true]
 ·simp only[h,if_false]
  rfl
theorem missing_any(ao:Option Addr)(cap:Nat)(ts:List It)(u:Int)(w:World)(hx:Hid (ItemsAt w ao ts))(hl:ts.length≤1048576):
  Calls Tryz.prog 125 #[.slice ao ts.length cap,.int .i64 u] w fun e w'=>∃v,e=.returned v∧OwnI w' w.heap.size v (qBh ts u)∧Below w.heap.size w w':=by
 by_cases hu:u≤60
 ·go_enter Tryz.func125,Tryz.ntmps125
  go_wp2_with fail
  refine(qGp ao cap ts u hu w hx hl).mono ?_
  rintro e w1 ⟨v,rfl,O1,B1⟩
  go_wp2_with fail
  go_ret
  exact⟨_,rfl,O1,B1⟩
 ·rw[missP_cut,if_neg hu]
  have hu2:60<u:=by omega
  go_enter Tryz.func125,Tryz.ntmps125
  go_wp2_with fail
  refine(qGp ao cap ts 60 (Int.le_refl _) w hx hl).mono ?_
  rintro e w1 ⟨v,rfl,O1,B1⟩
  go_wp2_with fail
  go_ret
  exact⟨_,rfl,O1,B1⟩
theorem spMiss_ok(ao:Option Addr)(cap:Nat)(ts:List It)(u:Int)(hu:u≤60)(w:World)(hx:Hid (ItemsAt w ao ts))(hl:ts.length≤1048576):
  Calls Tryz.prog 136 #[.slice ao ts.length cap,.int .i64 u] w fun e w'=>∃v,e=.returned v∧OwnI w' w.heap.size v (qBh ts u)∧Below w.heap.size w w':=by
 obtain⟨A,hA⟩: ∃A:Nat,A=aruP ts:=⟨_,rfl⟩
 have hAl:A≤1048576:=by have:=qLh ts;omega
 have HR:Hid (qBe ts u (61 - (A+1)) (A+1) []=qBh ts u):=(by unfold qBh;rw[if_pos hu,hA]:qBe ts u (61 - (A+1)) (A+1) []=qBh ts u)
 have X0:Hid (ItemsAt (w.alloc (.cells #[] 3)) ao ts):=hx.out.stays ((Below.refl _ _).alloc (Nat.le_refl _) _)
 have AR:=qHh ao cap ts _ X0 hl
 rw[←hA]at AR
 have AR:Hid _:=AR
 have O0:Hid (OwnI (w.alloc (.cells #[] 3)) w.heap.size (.slice (some ⟨w.heap.size,0,none⟩) 0 0) []):=OwnI.made w w.heap.size (Nat.le_refl _)
 have B0:=Ag (bA w (.cells #[] 3))
 clear hA
 go_enter Tryz.func136,Tryz.ntmps136
 go_wp2_with fail
 generalize w.alloc (.cells #[] 3)=W0 at *
 refine(show Calls _ _ _ _ _ from AR.out).mono ?_
 rintro e w1 ⟨rfl,b1⟩
 obtain⟨O1,B1⟩:=cy2 (O0.out.stays b1 (fun k hk=>(O0.out.lt k hk).2)) (B0.out.trans (b1.mono B0.out.size))
 clear AR O0 B0 b1 X0
 go_wp2
 go_loopw [5,6] (fun v i wr=>∃(n:Nat) (acc:List Int),n≤1048577∧i=.int .i64 n∧acc.length≤20∧Hid (OwnI wr w.heap.size v acc)∧Hid (Below w.heap.size w wr)∧Hid (qBe ts u (61 - n) n acc=qBh ts u)) (fun _ i _=>1048578 - (intOf i).toNat)
 case atStart=>exact⟨A+1,[],by omega,by go_num,by simp,O1,B1,HR⟩
 case round=>
  clear O1 B1 HR
  obtain⟨n,acc,hn,rfl,hacc,hO,hb,hg⟩:=hrel
  obtain⟨vo,vc,rfl⟩:=hO.out.form
  by_cases hlt:(n:Int)≤u∧acc.length<20
  ·obtain⟨h1,h2⟩:=hlt
   have h2i:(acc.length:Int)<20:=by omega
   have X0:=Ag (hx.out.stays hb.out)
   have A:=qGu ao cap ts (n:Int) wr X0 hl
   generalize (atP ts (n:Int)).getD zIt=y at A
   obtain⟨q,f,l,t⟩:=y
   cases hh:hasP ts (n:Int)with
   |true=>
    rw[hh]at A
    have A:Hid _:=A
    have HN:Hid (qBe ts u (61 - (n+1)) (n+1) acc=qBh ts u):=by
     have:=hg.out
     rwa [qGi hu h1 h2 hh]at this
    clear hh
    go_wp2_with fail
    refine(show Calls _ _ _ _ _ from A.out).mono ?_
    rintro e w1 ⟨rfl,hb1⟩
    have B1:Hid (Below w.heap.size w (w1.alloc (.cells #[.int .i64 q,.int .i64 f,.int .i64 l,.string t] 41))):=(hb.out.trans (hb1.mono hb.out.size)).alloc (hb.out.trans (hb1.mono hb.out.size)).size _
    have O1:Hid (OwnI (w1.alloc (.cells #[.int .i64 q,.int .i64 f,.int .i64 l,.string t] 41)) w.heap.size (.slice vo acc.length vc) acc):=(hO.out.stays hb1 (fun k hk=>(hO.out.lt k hk).2)).alloc _
    clear A hb1
    unfold agg
    dsimp only
    go_wp2_with fail
    go_roundw
    case rel=>exact⟨n+1,acc,by omega,by go_num,hacc,O1,B1,HN⟩
    case measure=>simp[intOf];omega
   |false=>
    rw[hh]at A
    have A:Hid _:=A
    have HN:Hid (qBe ts u (61 - (n+1)) (n+1) (acc++[(n:Int)])=qBh ts u):=by
     have:=hg.out
     rwa [qGg hu h1 h2 hh]at this
    clear hh
    go_wp2_with fail
    refine(show Calls _ _ _ _ _ from A.out).mono ?_
    rintro e w1 ⟨rfl,hb1⟩
    have B1:Below w.heap.size w (w1.alloc (.cells #[.int .i64 q,.int .i64 f,.int .i64 l,.string t] 41)):=(hb.out.trans (hb1.mono hb.out.size)).alloc (hb.out.trans (hb1.mono hb.out.size)).size _
    have O1:OwnI (w1.alloc (.cells #[.int .i64 q,.int .i64 f,.int .i64 l,.string t] 41)) w.heap.size (.slice vo acc.length vc) acc:=(hO.out.stays hb1 (fun k hk=>(hO.out.lt k hk).2)).alloc _
    have z1:=B1.size
    have hl4:acc.length<4000000:=by omega
    clear A hb1
    unfold agg
    dsimp only
    obtain⟨HO1,HB1⟩:=cy2 O1 B1
    clear O1 B1
    go_wp2_with (at_builtin;refine qBm rfl _ _ 24 rfl Tryz.underlying24 Tryz.info3 w.heap.size (.slice vo acc.length vc) acc rfl HO1.out (n:Int) (by simp[Act.eval]) hl4 z1 ?_;intro v2 w2 O2 b2)
    have O2:Hid (OwnI w2 w.heap.size v2 (acc++[(n:Int)])):=O2
    have B2:Hid (Below w.heap.size w w2):=Below.trans HB1.out b2
    go_roundw
    case rel=>exact⟨n+1,acc++[(n:Int)],by omega,by go_num,by simp;omega,O2,B2,HN⟩
    case measure=>simp[intOf];omega
  ·have HN:Hid (acc=qBh ts u):=by
    have:=hg.out
    rwa [qGj hlt]at this
   by_cases h1:(n:Int)≤u
   ·have h2: ¬(acc.length:Int)<20:=fun h=>hlt ⟨h1,by omega⟩
    clear hlt
    go_wp2_with fail
    go_ret
    exact⟨_,rfl,by rw[←HN.out];exact hO.out,hb.out⟩
   ·clear hlt
    go_wp2_with fail
    go_ret
    exact⟨_,rfl,by rw[←HN.out];exact hO.out,hb.out⟩
theorem spMiss_big(ao:Option Addr)(cap:Nat)(ts:List It)(U:Int)(hU:60<U)(w:World)(hx:Hid (ItemsAt w ao ts))(hl:ts.length≤1048576):
  Calls Tryz.prog 136 #[.slice ao ts.length cap,.int .i64 U] w fun e w'=>∃v,e=.returned v∧OwnI w' w.heap.size v (qBh ts 60)∧Below w.heap.size w w':=by
 obtain⟨A,hA⟩: ∃A:Nat,A=aruP ts:=⟨_,rfl⟩
 have hAl:A≤1048576:=by have:=qLh ts;omega
 have HR:Hid (qBe ts 60 (61 - (A+1)) (A+1) []=qBh ts 60):=(by unfold qBh;rw[if_pos (Int.le_refl 60),hA]:qBe ts 60 (61 - (A+1)) (A+1) []=qBh ts 60)
 have X0:Hid (ItemsAt (w.alloc (.cells #[] 3)) ao ts):=hx.out.stays ((Below.refl _ _).alloc (Nat.le_refl _) _)
 have AR:=qHh ao cap ts _ X0 hl
 rw[←hA]at AR
 have AR:Hid _:=AR
 have O0:Hid (OwnI (w.alloc (.cells #[] 3)) w.heap.size (.slice (some ⟨w.heap.size,0,none⟩) 0 0) []):=OwnI.made w w.heap.size (Nat.le_refl _)
 have B0:=Ag (bA w (.cells #[] 3))
 clear hA
 go_enter Tryz.func136,Tryz.ntmps136
 go_wp2_with fail
 generalize w.alloc (.cells #[] 3)=W0 at *
 refine(show Calls _ _ _ _ _ from AR.out).mono ?_
 rintro e w1 ⟨rfl,b1⟩
 obtain⟨O1,B1⟩:=cy2 (O0.out.stays b1 (fun k hk=>(O0.out.lt k hk).2)) (B0.out.trans (b1.mono B0.out.size))
 clear AR O0 B0 b1 X0
 go_wp2
 go_loopw [5,6] (fun v i wr=>∃(n:Nat) (acc:List Int),n≤1048577∧i=.int .i64 n∧acc.length≤20∧Hid (OwnI wr w.heap.size v acc)∧Hid (Below w.heap.size w wr)∧Hid (qBe ts 60 (61 - n) n acc=qBh ts 60)) (fun _ i _=>1048578 - (intOf i).toNat)
 case atStart=>exact⟨A+1,[],by omega,by go_num,by simp,O1,B1,HR⟩
 case round=>
  clear O1 B1 HR
  obtain⟨n,acc,hn,rfl,hacc,hO,hb,hg⟩:=hrel
  obtain⟨vo,vc,rfl⟩:=hO.out.form
  by_cases hlt:(n:Int)≤60∧acc.length<20
  ·obtain⟨h1,h2⟩:=hlt
   have h2i:(acc.length:Int)<20:=by omega
   have X0:=Ag (hx.out.stays hb.out)
   have A:=qGu ao cap ts (n:Int) wr X0 hl
   generalize (atP ts (n:Int)).getD zIt=y at A
   obtain⟨q,f,l,t⟩:=y
   cases hh:hasP ts (n:Int)with
   |true=>
    rw[hh]at A
    have A:Hid _:=A
    have HN:Hid (qBe ts 60 (61 - (n+1)) (n+1) acc=qBh ts 60):=by
     have:=hg.out
     rwa [qGi (Int.le_refl 60) h1 h2 hh]at this
    clear hh
    go_wp2_with fail
    refine(show Calls _ _ _ _ _ from A.out).mono ?_
    rintro e w1 ⟨rfl,hb1⟩
    have B1:Hid (Below w.heap.size w (w1.alloc (.cells #[.int .i64 q,.int .i64 f,.int .i64 l,.string t] 41))):=(hb.out.trans (hb1.mono hb.out.size)).alloc (hb.out.trans (hb1.mono hb.out.size)).size _
    have O1:Hid (OwnI (w1.alloc (.cells #[.int .i64 q,.int .i64 f,.int .i64 l,.string t] 41)) w.heap.size (.slice vo acc.length vc) acc):=(hO.out.stays hb1 (fun k hk=>(hO.out.lt k hk).2)).alloc _
    clear A hb1
    unfold agg
    dsimp only
    go_wp2_with fail
    go_roundw
    case rel=>exact⟨n+1,acc,by omega,by go_num,hacc,O1,B1,HN⟩
    case measure=>simp[intOf];omega
   |false=>
    rw[hh]at A
    have A:Hid _:=A
    have HN:Hid (qBe ts 60 (61 - (n+1)) (n+1) (acc++[(n:Int)])=qBh ts 60):=by
     have:=hg.out
     rwa [qGg (Int.le_refl 60) h1 h2 hh]at this
    clear hh
    go_wp2_with fail
    refine(show Calls _ _ _ _ _ from A.out).mono ?_
    rintro e w1 ⟨rfl,hb1⟩
    have B1:Below w.heap.size w (w1.alloc (.cells #[.int .i64 q,.int .i64 f,.int .i64 l,.string t] 41)):=(hb.out.trans (hb1.mono hb.out.size)).alloc (hb.out.trans (hb1.mono hb.out.size)).size _
    have O1:OwnI (w1.alloc (.cells #[.int .i64 q,.int .i64 f,.int .i64 l,.string t] 41)) w.heap.size (.slice vo acc.length vc) acc:=(hO.out.stays hb1 (fun k hk=>(hO.out.lt k hk).2)).alloc _
    have z1:=B1.size
    have hl4:acc.length<4000000:=by omega
    clear A hb1
    unfold agg
    dsimp only
    obtain⟨HO1,HB1⟩:=cy2 O1 B1
    clear O1 B1
    go_wp2_with (at_builtin;refine qBm rfl _ _ 24 rfl Tryz.underlying24 Tryz.info3 w.heap.size (.slice vo acc.length vc) acc rfl HO1.out (n:Int) (by simp[Act.eval]) hl4 z1 ?_;intro v2 w2 O2 b2)
    have O2:Hid (OwnI w2 w.heap.size v2 (acc++[(n:Int)])):=O2
    have B2:Hid (Below w.heap.size w w2):=Below.trans HB1.out b2
    go_roundw
    case rel=>exact⟨n+1,acc++[(n:Int)],by omega,by go_num,by simp;omega,O2,B2,HN⟩
    case measure=>simp[intOf];omega
  ·have HN:Hid (acc=qBh ts 60):=by
    have:=hg.out
    rwa [qGj hlt]at this
   by_cases h1:(n:Int)≤60
   ·have h2: ¬(acc.length:Int)<20:=fun h=>hlt ⟨h1,by omega⟩
    clear hlt
    go_wp2_with fail
    go_ret
    exact⟨_,rfl,by rw[←HN.out];exact hO.out,hb.out⟩
   ·clear hlt
    go_wp2_with fail
    go_ret
    exact⟨_,rfl,by rw[←HN.out];exact hO.out,hb.out⟩
theorem qKi(ao:Option Addr)(cap:Nat)(ts:List It)(u:Int)(w:World)(hx:Hid (ItemsAt w ao ts))(hl:ts.length≤1048576):
  Calls Tryz.prog 136 #[.slice ao ts.length cap,.int .i64 u] w fun e w'=>∃v,e=.returned v∧OwnI w' w.heap.size v (qBh ts u)∧Below w.heap.size w w':=by
 by_cases hu:u≤60
 ·exact spMiss_ok ao cap ts u hu w hx hl
 ·rw[missP_cut,if_neg hu]
  exact spMiss_big ao cap ts u (by omega) w hx hl
theorem IntsAt.drawn{w:World}{ao:Option Addr}{ts:List Int}(h:IntsAt w ao ts)(n:Nat):IntsAt (w.drewN n) ao ts:=h.stays (qAx (Below.refl _ _) n)
theorem spGive_any(c r q a b:Int)(aw:Option Addr)(cw:Nat)(ws:List Int)(ao:Option Addr)(cap:Nat)(ts:List It)(w:World)(hy:Hid (IntsAt w aw ws))(hx:Hid (ItemsAt w ao ts))(hl:ts.length≤1048576)(hw:ws.length≤1048576):
  Calls Tryz.prog 64 #[.agg #[.int .i64 c,.int .i64 r,.int .i64 q,.int .i64 a,.int .i64 b,.slice aw ws.length cw],.slice ao ts.length cap] w fun e w'=>∃v,e=.returned v∧SlI w' w.heap.size v (qBf ws ts)∧Below w.heap.size w w':=by
 have hn1:(w.alloc (.cells #[.int .i64 c,.int .i64 r,.int .i64 q,.int .i64 a,.int .i64 b,.slice aw ws.length cw] 30)).heap.size=w.heap.size+1:=by simp
 have HT:Hid (TokAt ((w.alloc (.cells #[.int .i64 c,.int .i64 r,.int .i64 q,.int .i64 a,.int .i64 b,.slice aw ws.length cw] 30)).alloc (.cells #[] 41)) w.heap.size c r q a b (.slice aw ws.length cw)):=by
  have h:=heap_alloc_new w (.cells #[.int .i64 c,.int .i64 r,.int .i64 q,.int .i64 a,.int .i64 b,.slice aw ws.length cw] 30)
  exact TokAt.stays (B:=w.heap.size+1) h ((Below.refl _ _).alloc (by rw[hn1];exact Nat.le_refl _) _) (by omega)
 have S0:Hid (SlI ((w.alloc (.cells #[.int .i64 c,.int .i64 r,.int .i64 q,.int .i64 a,.int .i64 b,.slice aw ws.length cw] 30)).alloc (.cells #[] 41)) (w.heap.size+1) (.slice (some ⟨w.heap.size+1,0,none⟩) 0 0) []):=by
  have h:=SlI.made (w.alloc (.cells #[.int .i64 c,.int .i64 r,.int .i64 q,.int .i64 a,.int .i64 b,.slice aw ws.length cw] 30)) (w.heap.size+1) (by rw[hn1];exact Nat.le_refl _)
  rw[hn1]at h
  exact h
 have B0:Hid (Below w.heap.size w ((w.alloc (.cells #[.int .i64 c,.int .i64 r,.int .i64 q,.int .i64 a,.int .i64 b,.slice aw ws.length cw] 30)).alloc (.cells #[] 41))):=((Below.refl _ _).alloc (Nat.le_refl _) _).alloc (by simp) _
 have z0:w.heap.size+1≤((w.alloc (.cells #[.int .i64 c,.int .i64 r,.int .i64 q,.int .i64 a,.int .i64 b,.slice aw ws.length cw] 30)).alloc (.cells #[] 41)).heap.size:=by simp
 clear hn1
 go_enter Tryz.func64,Tryz.ntmps64
 go_wp2_with fail
 generalize (w.alloc (.cells #[.int .i64 c,.int .i64 r,.int .i64 q,.int .i64 a,.int .i64 b,.slice aw ws.length cw] 30)).alloc (.cells #[] 41)=W at *
 have HE:Hid (Below (w.heap.size+1) W W):=Below.refl _ _
 go_loopw [5,6] (fun v i wr=>∃(k:Nat),k≤ts.length∧i=.int .i64 k∧Hid (SlI wr (w.heap.size+1) v (qBf ws (ts.take k)))∧Hid (Below (w.heap.size+1) W wr)) (fun _ i _=>ts.length - (intOf i).toNat)
 case atStart=>exact⟨0,Nat.zero_le _,rfl,S0,HE⟩
 case round=>
  clear S0 HE
  obtain⟨k,hk,rfl,hS,hb'⟩:=hrel
  have hb:=Ag (B0.out.trans (hb'.out.mono (by omega)))
  have HT':=Ag (HT.out.stays hb'.out (by omega))
  obtain⟨t0,t1,t2,t3,t4,t5⟩:=HT'.out.cells
  clear t0 t1 t2 t3 t4
  by_cases hlt:k<ts.length
  ·obtain⟨bb,off,rfl,hbb,h0,h1,h2,h3⟩:=hx.out.stays hb.out k hlt
   have HP:Hid (∃x:It,x=ts[k]):=⟨_,rfl⟩
   obtain⟨⟨n,f,lv,tx⟩,hp⟩:=HP.out
   rw[←hp]at h0 h1 h2 h3
   have hst:=give_step (ws:=ws) hlt
   rw[←hp]at hst
   have HST:Hid _:=hst
   clear hp HP hst
   dsimp only at h0 h1 h2 h3
   have hY:=Ag (hy.out.stays hb.out)
   have i0:(0:Int)≤(k:Int):=by omega
   have i1:(k:Int)<(ts.length:Int):=by omega
   have z1:w.heap.size+1≤wr.heap.size:=Nat.le_trans z0 hb'.out.size
   have hlk:(qBf ws (ts.take k)).length≤1048576:=Nat.le_trans (give_len ws ts k) hl
   go_wp2_with fail
   go_quiet (first|(go_at_call 132;exact Calls.quiet_of_same (lin_any aw cw ws n _ (show Hid (IntsAt _ aw ws)from IntsAt.drawn hY.out _) hw)))
   have SD:Hid (SlI (wr.drewN nq) (w.heap.size+1) u5 (qBf ws (ts.take k))):=hS.out.drewN _
   have BD:Hid (Below (w.heap.size+1) W (wr.drewN nq)):=qAx hb'.out _
   have ZD:w.heap.size+1≤(wr.drewN nq).heap.size:=by rw[World.heap_drewN];exact z1
   cases hq:inB ws n with
   |true=>
    have HLS:Hid (qBf ws (ts.take (k+1))=qBf ws (ts.take k)++[(n,f,lv,tx)]):=by
     have:=HST.out
     rwa [if_pos (show inB ws (n,f,lv,tx).1=true from hq)]at this
    clear HST
    go_wp2_with (at_builtin;refine qAu rfl _ _ 27 rfl Tryz.underlying27 (w.heap.size+1) u5 _ rfl SD.out (n,f,lv,tx) rfl hlk ZD ?_;intro v2 w2 S2 g2 b2 _)
    have S2:Hid (SlI w2 (w.heap.size+1) v2 (qBf ws (ts.take (k+1)))):=by
     rw[HLS.out]
     exact S2
    have B2:=Ag (BD.out.trans b2)
    go_roundw
    case rel=>exact⟨k+1,by omega,by go_num,S2,B2⟩
    case measure=>simp[intOf];omega
   |false=>
    have HLS:Hid (qBf ws (ts.take (k+1))=qBf ws (ts.take k)):=by
     have:=HST.out
     rwa [if_neg (show ¬inB ws (n,f,lv,tx).1=true by simp[hq]),List.append_nil]at this
    clear HST
    have S2:Hid (SlI (wr.drewN nq) (w.heap.size+1) u5 (qBf ws (ts.take (k+1)))):=by
     rw[HLS.out]
     exact SD
    go_wp2_with fail
    go_roundw
    case rel=>exact⟨k+1,by omega,by go_num,S2,BD⟩
    case measure=>simp[intOf];omega
  ·obtain rfl:k=ts.length:=by omega
   go_wp2_with fail
   go_ret
   exact⟨_,rfl,by have:=hS.out;rw[List.take_length]at this;exact this.down (by omega),hb.out⟩
def RowI(w:World)(b m:Nat):Prop:=∀j,j<m→∃z:Int,w.cell? ⟨b,j,none⟩=some (.int .i64 z)
theorem RowI.stays{w0 w1:World}{b g m:Nat}(h:RowI w0 b m)(hb:b<w0.heap.size)(hg:b≠g)(hk:KeepBut g w0 w1):RowI w1 b m:=by
 intro j hj
 obtain⟨t,h2⟩:=h j hj
 refine⟨t,?_⟩
 rw[←h2]
 simp only[World.cell?]
 rw[hk.block b hb hg]
theorem OwnI_keep{w w':World}{B g:Nat}{v:Value}{ss:List Int}(h:OwnI w B v ss)(hk:KeepBut g w w')(hg:g<B):OwnI w' B v ss:=by
 refine⟨h.1,?_⟩
 rcases h.2 with hn|⟨k,cap,cur,rfl,hbg,hk2,rest⟩
 ·exact .inl hn
 ·exact .inr ⟨k,cap,cur,rfl,hbg,(hk.block k (Array.getElem?_eq_some_iff.1 hk2).1 (by omega)).trans hk2,rest⟩
theorem ItAt.set0{w:World}{g:Nat}{q f l:Int}{t:ByteArray}(h:ItAt w g q f l t)(x:Int):ItAt (w.setCell ⟨g,0,none⟩ (.int .i64 x)) g x f l t:=by
 have:=heap_setCell_same w g 0 _ 41 (.int .i64 x) h
 unfold ItAt;rw[this];rfl
theorem ItAt.set1{w:World}{g:Nat}{q f l:Int}{t:ByteArray}(h:ItAt w g q f l t)(x:Int):ItAt (w.setCell ⟨g,1,none⟩ (.int .i64 x)) g q x l t:=by
 have:=heap_setCell_same w g 1 _ 41 (.int .i64 x) h
 unfold ItAt;rw[this];rfl
theorem ItAt.set2{w:World}{g:Nat}{q f l:Int}{t:ByteArray}(h:ItAt w g q f l t)(x:Int):ItAt (w.setCell ⟨g,2,none⟩ (.int .i64 x)) g q f x t:=by
 have:=heap_setCell_same w g 2 _ 41 (.int .i64 x) h
 unfold ItAt;rw[this];rfl
theorem ItAt.set3{w:World}{g:Nat}{q f l:Int}{t:ByteArray}(h:ItAt w g q f l t)(x:ByteArray):ItAt (w.setCell ⟨g,3,none⟩ (.string x)) g q f l x:=by
 have:=heap_setCell_same w g 3 _ 41 (.string x) h
 unfold ItAt;rw[this];rfl
theorem ItAt.keep{w w':World}{g k:Nat}{q f l:Int}{t:ByteArray}(h:ItAt w g q f l t)(hk:KeepBut k w w')(hg:g≠k):ItAt w' g q f l t:=(hk.block g h.lt hg).trans h
theorem ItAt.agg{w:World}{g:Nat}{q f l:Int}{t:ByteArray}(h:ItAt w g q f l t)(q' f' l':Int)(t':ByteArray):
  ItAt ((((w.setCell ⟨g,0,none⟩ (.int .i64 q')).setCell ⟨g,1,none⟩ (.int .i64 f')).setCell ⟨g,2,none⟩ (.int .i64 l')).setCell ⟨g,3,none⟩ (.string t')) g q' f' l' t':=
 (((h.set0 q').set1 f').set2 l').set3 t'
def RowB(w:World)(b:Nat)(xs:List Int):Prop:=w.heap[b]? =some (.cells (xs.map (Value.int .u8)).toArray 5 (0,0))
theorem RowB.cell{w:World}{b:Nat}{xs:List Int}(h:RowB w b xs)(j:Nat)(hj:j<xs.length):w.cell? ⟨b,j,none⟩=some (.int .u8 (xs.getD j 0)):=by
 rw[cell_of_row w b j _ 5 (0,0) h]
 simp[hj]
theorem RowB.set{w:World}{b:Nat}{xs:List Int}(h:RowB w b xs)(j:Nat)(z:Int):RowB (w.setCell ⟨b,j,none⟩ (.int .u8 z)) b (xs.set j z):=by
 have:=heap_setCell_same w b j _ 5 (.int .u8 z) h
 unfold RowB
 rw[this]
 simp[List.map_set]
def RowS(w:World)(b m:Nat):Prop:=∀j,j<m→∃t:ByteArray,t.size≤13∧w.cell? ⟨b,j,none⟩=some (.string t)
theorem RowS.stays{w0 w1:World}{b g m:Nat}(h:RowS w0 b m)(hb:b<w0.heap.size)(hg:b≠g)(hk:KeepBut g w0 w1):RowS w1 b m:=by
 intro j hj
 obtain⟨t,h1,h2⟩:=h j hj
 refine⟨t,h1,?_⟩
 rw[←h2]
 simp only[World.cell?]
 rw[hk.block b hb hg]
theorem pick_any(w0 w:World)(B g n cap b m:Nat)(ao:Option Addr)(hn:n≤1048576)(hB:B≤g)(hm0:0<m)(hm:m≤256)(hb:b<w.heap.size)(hbg:b≠g)(hr:Hid (RowS w b m))(hd:Hid (Drw w0 w B g ao n cap)):
  Calls Tryz.prog 176 #[.pointer (some ⟨g,0,none⟩),.slice (some ⟨b,0,none⟩) m m] w fun e w'=>(∃t:ByteArray,t.size≤13∧e=.returned (.string t))∧Hid (Drw w0 w' B g ao n cap):=by
 have hd0:Hid (Drw w w B g ao n cap):=Drw.start hd.out.1 hd.out.2.1
 go_enter Tryz.func176,Tryz.ntmps176
 go_wp2_with (first|(go_at_call 50;refine(qAw w _ B g n cap m ao hn hB hm0 hm (by assumption)).mono ?_;rintro e w1 ⟨⟨x,hx,rfl⟩,hd1⟩;obtain⟨t,ht,hc⟩:=hr.out.stays hb hbg hd1.out.2.2 x hx))
 go_ret
 exact⟨⟨t,ht,rfl⟩,show Drw _ _ _ _ _ _ _ from⟨hd1.out.1,hd1.out.2.1,hd.out.2.2.trans hd1.out.2.2⟩⟩
theorem rowS_new(w:World)(ts:List ByteArray)(m:Nat)(hm:m=ts.length)(h: ∀t∈ts,t.size≤13):RowS (w.alloc (.cells (ts.map Value.string).toArray 9)) w.heap.size m:=by
 intro j hj
 rw[hm]at hj
 refine⟨ts[j],h _ (List.getElem_mem hj),?_⟩
 rw[cell_of_row _ w.heap.size j _ 9 (0,0) (heap_alloc_new w _)]
 simp[hj]
theorem Drw.here{w0 w:World}{B g n cap:Nat}{ao:Option Addr}(h:Drw w0 w B g ao n cap):Hid (Drw w w B g ao n cap):=Drw.start h.1 h.2.1
theorem Drw.back{w0 w w':World}{B g n cap:Nat}{ao:Option Addr}(h:Drw w0 w B g ao n cap)(h':Drw w w' B g ao n cap):Hid (Drw w0 w' B g ao n cap):=⟨h'.1,h'.2.1,h.2.2.trans h'.2.2⟩
theorem Drw.other{w0 w w':World}{B g k n cap:Nat}{ao:Option Addr}(h:Drw w0 w B g ao n cap)(hB:B≤k)(ht:TurnAt k w w')(hk:w0.heap.size≤k)(hg:g≠k):Hid (Drw w0 w' B g ao n cap):=by
 obtain⟨⟨i,z,h1,h2⟩,h3,h4⟩:=h
 exact⟨⟨i,z,h1,(ht.block g hg).trans h2⟩,h3.stays (ht.below hB) (Nat.le_refl _),⟨ht.os.trans h4.os,ht.tape.trans h4.tape,ht.output.trans h4.output,by rw[ht.size];exact h4.size,fun m hm hmg=>(ht.block m (by omega)).trans (h4.block m hm hmg)⟩⟩
theorem Drw.drew{w0 w:World}{B g n cap:Nat}{ao:Option Addr}(h:Drw w0 w B g ao n cap):Hid (Drw w0 w.drew B g ao n cap):=⟨h.1,h.2.1,h.2.2.trans ⟨rfl,rfl,rfl,Nat.le_refl _,fun _ _ _=>rfl⟩⟩
def RowZ(P:Int→Prop)(w:World)(b m:Nat):Prop:=∀j,j<m→∃z:Int,P z∧w.cell? ⟨b,j,none⟩=some (.int .i64 z)
theorem RowZ.stays{P:Int→Prop}{w0 w1:World}{b g m:Nat}(h:RowZ P w0 b m)(hb:b<w0.heap.size)(hg:b≠g)(hk:KeepBut g w0 w1):RowZ P w1 b m:=by
 intro j hj
 obtain⟨z,h1,h2⟩:=h j hj
 refine⟨z,h1,?_⟩
 rw[←h2]
 unfold World.cell?
 rw[hk.block b hb hg]
theorem rowZ_new(P:Int→Prop)(w:World)(ts:List Int)(m:Nat)(hm:m=ts.length)(h: ∀z∈ts,P z):RowZ P (w.alloc (.cells (ts.map (Value.int .i64)).toArray 3)) w.heap.size m:=by
 intro j hj
 subst hm
 refine⟨ts[j],h _ (List.getElem_mem hj),?_⟩
 rw[cell_of_row _ w.heap.size j _ 3 (0,0) (heap_alloc_new w _)]
 simp[hj]
theorem qHm(P:Int→Prop)(w0 w:World)(B g n cap b m:Nat)(ao:Option Addr)(hn:n≤1048576)(hB:B≤g)(hm0:0<m)(hm:m≤256)(hb:b<w.heap.size)(hbg:b≠g)(hr:Hid (RowZ P w b m))(hd:Hid (Drw w0 w B g ao n cap)):
  Calls Tryz.prog 141 #[.pointer (some ⟨g,0,none⟩),.slice (some ⟨b,0,none⟩) m m] w fun e w'=>(∃z:Int,P z∧e=.returned (.int .i64 z))∧Hid (Drw w0 w' B g ao n cap):=by
 have hd0:Hid (Drw w w B g ao n cap):=Drw.start hd.out.1 hd.out.2.1
 go_enter Tryz.func141,Tryz.ntmps141
 go_wp2_with (first|(go_at_call 50;refine(qAw w _ B g n cap m ao hn hB hm0 hm (by assumption)).mono ?_;rintro e w1 ⟨⟨x,hx,rfl⟩,hd1⟩;obtain⟨z,hPz,hc⟩:=hr.out.stays hb hbg hd1.out.2.2 x hx))
 go_ret
 exact⟨⟨z,hPz,rfl⟩,show Drw _ _ _ _ _ _ _ from⟨hd1.out.1,hd1.out.2.1,hd.out.2.2.trans hd1.out.2.2⟩⟩
theorem RowZ.later{P:Int→Prop}{w0 w1:World}{b m:Nat}(h:RowZ P w0 b m)(hb:b<w0.heap.size)(hk:Below w0.heap.size w0 w1):RowZ P w1 b m:=by
 intro j hj
 obtain⟨z,h1,h2⟩:=h j hj
 refine⟨z,h1,?_⟩
 rw[←h2]
 exact hk.cell (p:=⟨b,j,none⟩) hb
theorem nameZ_any(w0 w:World)(B g n cap:Nat)(ao:Option Addr)(hn:n≤1048576)(hB:B≤g)(hd:Hid (Drw w0 w B g ao n cap)):
  Calls Tryz.prog 181 #[.pointer (some ⟨g,0,none⟩)] w fun e w'=>(∃t:ByteArray,t.size≤13∧e=.returned (.string t))∧Hid (Drw w0 w' B g ao n cap):=by
 have hlt:=hd.out.lt
 have hr: ∀(a b c d e:ByteArray),a.size≤13→b.size≤13→c.size≤13→d.size≤13→e.size≤13→Hid (RowS (w.alloc (.cells #[.string a,.string b,.string c,.string d,.string e] 9)) w.heap.size 5):=fun a b c d e h1 h2 h3 h4 h5=>
  rowS_new w [a,b,c,d,e] 5 rfl (by simp[h1,h2,h3,h4,h5])
 have hd2: ∀o,Hid (Drw w0 (w.alloc o) B g ao n cap):=fun o=>hd.out.alloc hB o
 go_enter Tryz.func181,Tryz.ntmps181
 go_wp2_with (first|(go_at_call 176;refine(pick_any w0 _ B g n cap w.heap.size 5 ao hn hB (by omega) (by omega) (by simp) (by omega) (hr _ _ _ _ _ (by decide) (by decide) (by decide) (by decide) (by decide)) (hd2 _)).mono ?_;rintro e w1 ⟨⟨t,ht,rfl⟩,hd1⟩))
 go_ret
 exact⟨⟨t,ht,rfl⟩,hd1⟩
theorem same_same(v1 v2:Value)(ts:List It)(B1 B2:Nat)(w:World)(h1:SlI w B1 v1 ts)(h2:SlI w B2 v2 ts)(hl:ts.length≤1048576):
  Calls Tryz.prog 13 #[v1,v2] w fun e w'=>e=.returned (.bool true)∧Below w.heap.size w w':=by
 obtain⟨a1,c1,rfl,x1⟩:=h1.items
 obtain⟨a2,c2,rfl,x2⟩:=h2.items
 have X1:Hid (ItemsAt w a1 ts):=x1
 have X2:Hid (ItemsAt w a2 ts):=x2
 clear h1 h2 x1 x2
 go_enter Tryz.func13,Tryz.ntmps13
 go_wp2_with fail
 go_loopw [5] (fun i wr=>∃k:Nat,k≤ts.length∧i=.int .i64 k∧Hid (Below w.heap.size w wr)) (fun i _=>ts.length - (intOf i).toNat)
 case atStart=>exact⟨0,by omega,rfl,Below.refl _ _⟩
 case round=>
  obtain⟨k,hk,rfl,hb⟩:=hrel
  by_cases hlt:k<ts.length
  ·obtain⟨b1,off1,rfl,hbb1,h0,h1,h2,h3⟩:=X1.out.stays hb.out k hlt
   obtain⟨b2,off2,rfl,hbb2,g0,g1,g2,g3⟩:=X2.out.stays hb.out k hlt
   have HP:Hid (∃x:It,x=ts[k]):=⟨_,rfl⟩
   obtain⟨⟨q,f,lv,tx⟩,hp⟩:=HP.out
   rw[←hp]at h0 h1 h2 h3 g0 g1 g2 g3
   clear hp HP
   dsimp only at h0 h1 h2 h3 g0 g1 g2 g3
   have i0:(0:Int)≤(k:Int):=by omega
   have i1:(k:Int)<(ts.length:Int):=by omega
   go_wp2_with fail
   go_region
   have B1:=Ag (hb.out.drew)
   clear h0 h1 h2 h3 g0 g1 g2 g3
   generalize wr.drew=W1 at *
   go_wp2_with fail
   go_roundw
   case rel=>exact⟨k+1,by omega,by go_num,B1⟩
   case measure=>simp[intOf];omega
  ·go_wp2_with fail
   go_ret
   exact⟨rfl,hb.out⟩
end Go.Proofs.YthdjkkiegecgnaaGreat
