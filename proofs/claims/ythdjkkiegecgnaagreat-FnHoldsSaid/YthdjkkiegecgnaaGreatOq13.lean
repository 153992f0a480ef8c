/- Joined texts: CMk CTx CXm CMt CBw CShl CRl1 CNb CQb. -/
import Derived.Test.YthdjkkiegecgnaaGreatOq10
import Derived.Test.YthdjkkiegecgnaaGreatOq11
import Derived.Deep.RegionHeld3
import Derived.Deep.QuietTactic
import Derived.BigQuiet
import Derived.Test.YthdjkkiegecgnaaGreatOq1
import Derived.Test.YthdjkkiegecgnaaGreatOq5
import Derived.Test.YthdjkkiegecgnaaGreatOq12
import Derived.Deep.MidRow
import Derived.Test.YthdjkkiegecgnaaGreatOq7
set_option maxRecDepth 100000
set_option maxHeartbeats 16000000
namespace Go.Proofs.YthdjkkiegecgnaaGreat
open Go.RowKit Pl
set_option linter.unusedVariables false
def markS(k:Nat):ByteArray:=strOfNums (109::decR k)
def mkI(K n:Nat):List It:=(List.range n).map fun j=>(((K+4 * j:Nat):Int),((K+4 * j+1:Nat):Int),((K+4 * j+2:Nat):Int),markS (K+4 * j+3))
end Go.Proofs.YthdjkkiegecgnaaGreat
namespace Go.Proofs.YthdjkkiegecgnaaGreat
open Go.RowKit Pl
set_option linter.unusedVariables false
theorem Tryz.info9:(Tryz.prog.info? 9).map (fun i=>(i.zero,i.size,i.bytes))=some (some (.string ⟨#[]⟩),1,16):=by kernel_rfl
theorem ownS_kept{w w':World}{row:Option Nat}{B:Nat}{v:Value}{ss:List ByteArray}(h:OwnS w B v ss)(hg:w.grownBy w' row)(hne: ∀k,v.ownBlock=Option.some k→Option.some k≠row):OwnS w' B v ss:=by
 refine⟨h.1,?_⟩
 rcases h.2 with hn|⟨g,cap,cur,rfl,hbg,hk,rest⟩
 ·exact .inl hn
 ·exact .inr ⟨g,cap,cur,rfl,hbg,(hg.block g (Array.getElem?_eq_some_iff.1 hk).1 (hne g rfl)).trans hk,rest⟩
theorem ownS_later{w w':World}{B:Nat}{v:Value}{ss:List ByteArray}(h:OwnS w B v ss)(hb:Below w.heap.size w w'):OwnS w' B v ss:=h.stays hb (fun k hk=>(h.lt k hk).2)
end Go.Proofs.YthdjkkiegecgnaaGreat
namespace Go.Proofs.YthdjkkiegecgnaaGreat
open Go.RowKit Pl
set_option linter.unusedVariables false
def mkT(K n:Nat):List ByteArray:=(List.range n).map fun j=>markS (K+j)
end Go.Proofs.YthdjkkiegecgnaaGreat
namespace Go.Proofs.YthdjkkiegecgnaaGreat
open Go.RowKit Pl
set_option linter.unusedVariables false
structure Tok where
 c:Int
 r:Int
 q:Int
 a:Int
 b:Int
 ws:List Int
structure Mt where
 id:Int
 rid:Int
 ms:List Int
 its:List It
 lv:List Int
 tx:List ByteArray
 rd:Int
 se:Int
 li:Int
 he:Int
 la:Tok
structure Sv where
 a:Option Addr
 n:Nat
 c:Nat
def Sv.v(s:Sv):Value:=.slice s.a s.n s.c
structure Mv where
 ms:Sv
 its:Sv
 lv:Sv
 tx:Sv
 ws:Sv
def zTok:Tok:=⟨0,0,0,0,0,[]⟩
def zMt:Mt:=⟨0,0,[],[],[],[],0,0,0,0,zTok⟩
def zSv:Sv:=⟨none,0,0⟩
def zMv:Mv:=⟨zSv,zSv,zSv,zSv,zSv⟩
def Bx(w:World)(g:Nat)(T:TypeId)(cs:List Value):Prop:=w.heap[g]? =some (.cells cs.toArray T (0,0))
section
variable {w w' : World} {g T : Nat} {cs : List Value}
theorem Bx.new(w:World)(T:TypeId)(cs:List Value):Bx (w.alloc (.cells cs.toArray T)) w.heap.size T cs:=heap_alloc_new w _
theorem Bx.cell(h:Bx w g T cs)(k:Nat):w.cell? ⟨g,k,none⟩=cs[k]? :=by
 rw[cell_of_row w g k _ T (0,0) h];simp
theorem Bx.frozen(h:Bx w g T cs)(k:Nat):w.frozen? ⟨g,k,none⟩=false:=frozen_of_row w g k _ T h
theorem Bx.lt(h:Bx w g T cs):g<w.heap.size:=(Array.getElem?_eq_some_iff.1 h).1
theorem Bx.stays{B:Nat}(h:Bx w g T cs)(hb:Below B w w')(hg:g<B):Bx w' g T cs:=(hb.block g hg).trans h
theorem Bx.later(h:Bx w g T cs)(hb:Below w.heap.size w w'):Bx w' g T cs:=h.stays hb h.lt
theorem Bx.set(h:Bx w g T cs)(k:Nat)(u:Value):Bx (w.setCell ⟨g,k,none⟩ u) g T (cs.set k u):=by
 have:=heap_setCell_same w g k _ T u h
 simpa [Bx] using this
theorem Bx.turn{k:Nat}(h:Bx w g T cs)(ht:TurnAt k w w')(hne:g≠k):Bx w' g T cs:=(ht.block g hne).trans h
theorem Bx.other{k j:Nat}{u:Value}(h:Bx w g T cs)(hne:g≠k):Bx (w.setCell ⟨k,j,none⟩ u) g T cs:=(Below.heap_setCell w ⟨k,j,none⟩ u g hne).trans h
theorem Bx.grown{row:Option Nat}(h:Bx w g T cs)(hg:w.grownBy w' row)(hne:some g≠row):Bx w' g T cs:=(hg.block g h.lt hne).trans h
end
def RI(w:World)(v:Value)(xs:List Int):Prop:=∃ao cap,v=.slice ao xs.length cap∧IntsAt w ao xs
def RT(w:World)(v:Value)(xs:List ByteArray):Prop:=∃ao cap,v=.slice ao xs.length cap∧TextsAt w ao xs
def RIt(w:World)(v:Value)(xs:List It):Prop:=∃ao cap,v=.slice ao xs.length cap∧ItemsAt w ao xs
section
variable {w w' : World} {v : Value}
theorem RI.stays{xs:List Int}(h:RI w v xs)(hb:Below w.heap.size w w'):RI w' v xs:=by obtain⟨a,c,h1,h2⟩:=h;exact⟨a,c,h1,h2.stays hb⟩
theorem RT.stays{xs:List ByteArray}(h:RT w v xs)(hb:Below w.heap.size w w'):RT w' v xs:=by obtain⟨a,c,h1,h2⟩:=h;exact⟨a,c,h1,h2.stays hb⟩
theorem RIt.stays{xs:List It}(h:RIt w v xs)(hb:Below w.heap.size w w'):RIt w' v xs:=by obtain⟨a,c,h1,h2⟩:=h;exact⟨a,c,h1,h2.stays hb⟩
theorem Pl.OwnI.ri{B:Nat}{xs:List Int}(h:OwnI w B v xs):RI w v xs:=h.ints
theorem Pl.OwnS.rt{B:Nat}{xs:List ByteArray}(h:OwnS w B v xs):RT w v xs:=h.texts
theorem SlI.rit{B:Nat}{xs:List It}(h:SlI w B v xs):RIt w v xs:=h.items
end
structure MtR (w:World) (m:Mt) (v:Mv):Prop where
 ms:RI w v.ms.v m.ms
 its:RIt w v.its.v m.its
 lv:RI w v.lv.v m.lv
 tx:RT w v.tx.v m.tx
 ws:RI w v.ws.v m.la.ws
theorem MtR.stays{w w':World}{m:Mt}{v:Mv}(h:MtR w m v)(hb:Below w.heap.size w w'):MtR w' m v:=⟨h.ms.stays hb,h.its.stays hb,h.lv.stays hb,h.tx.stays hb,h.ws.stays hb⟩
structure MtS (m:Mt):Prop where
 ms:m.ms.length≤1048576
 its:m.its.length≤1048576
 lv:m.lv.length≤1048576
 tx:m.tx.length≤1048576
 ws:m.la.ws.length≤1048576
 it: ∀x∈m.its,x.2.2.2.size≤1048576
 te: ∀x∈m.tx,x.size≤1048576
 all:m.ms.length+m.its.length+m.lv.length+m.tx.length+m.la.ws.length≤1048576
def Ap(a b:Value):Prop:=∀k,a.ownBlock=some k→b.ownBlock≠some k
theorem Ap.symm{a b:Value}(h:Ap a b):Ap b a:=fun k hb ha=>h k ha hb
theorem ap_none(b:Value)(n c:Nat):Ap (.slice none n c) b:=fun k h=>by cases h
theorem ap_none'(a:Value)(n c:Nat):Ap a (.slice none n c):=(ap_none a n c).symm
theorem qBn{w:World}{B:Nat}{v:Value}{xs:List Int}(h:OwnI w B v xs){k:Nat}(hk:v.ownBlock=some k): ∃cs,w.heap[k]? =some (.cells cs 3 (0,0)):=by
 rcases h.2 with⟨rfl,_⟩|⟨g,cap,cur,rfl,_,hg,_⟩
 ·cases hk
 ·cases hk;exact⟨_,hg⟩
theorem qGv{w:World}{B:Nat}{v:Value}{xs:List ByteArray}(h:OwnS w B v xs){k:Nat}(hk:v.ownBlock=some k): ∃cs,w.heap[k]? =some (.cells cs 9 (0,0)):=by
 rcases h.2 with⟨rfl,_⟩|⟨g,cap,cur,rfl,_,hg,_⟩
 ·cases hk
 ·cases hk;exact⟨_,hg⟩
theorem qAp{w:World}{B:Nat}{v:Value}{xs:List It}(h:SlI w B v xs){k:Nat}(hk:v.ownBlock=some k): ∃cs,w.heap[k]? =some (.cells cs 41 (0,0)):=by
 rcases h.2 with⟨rfl,_⟩|⟨g,off,cap,cur,rfl,_,hg,_⟩
 ·cases hk
 ·cases hk;exact⟨_,hg⟩
theorem ap_i_s{w:World}{B B':Nat}{a b:Value}{xs:List Int}{ys:List ByteArray}(h:OwnI w B a xs)(k:OwnS w B' b ys):Ap a b:=fun n h1 h2=>by
 obtain⟨_,e1⟩:=qBn h h1;obtain⟨_,e2⟩:=qGv k h2;rw[e1]at e2;simp at e2
theorem ap_i_it{w:World}{B B':Nat}{a b:Value}{xs:List Int}{ys:List It}(h:OwnI w B a xs)(k:SlI w B' b ys):Ap a b:=fun n h1 h2=>by
 obtain⟨_,e1⟩:=qBn h h1;obtain⟨_,e2⟩:=qAp k h2;rw[e1]at e2;simp at e2
theorem ap_s_it{w:World}{B B':Nat}{a b:Value}{xs:List ByteArray}{ys:List It}(h:OwnS w B a xs)(k:SlI w B' b ys):Ap a b:=fun n h1 h2=>by
 obtain⟨_,e1⟩:=qGv h h1;obtain⟨_,e2⟩:=qAp k h2;rw[e1]at e2;simp at e2
theorem qCn{w:World}{B g T:Nat}{a:Value}{xs:List Int}{cs:List Value}(h:OwnI w B a xs)(k:Bx w g T cs)(hT:T≠3):a.ownBlock≠some g:=fun h1=>by
 obtain⟨_,e1⟩:=qBn h h1;unfold Bx at k;rw[e1]at k;simp at k;exact hT k.2.symm
theorem bx_s_ne{w:World}{B g T:Nat}{a:Value}{xs:List ByteArray}{cs:List Value}(h:OwnS w B a xs)(k:Bx w g T cs)(hT:T≠9):a.ownBlock≠some g:=fun h1=>by
 obtain⟨_,e1⟩:=qGv h h1;unfold Bx at k;rw[e1]at k;simp at k;exact hT k.2.symm
theorem qLf{w:World}{B g T:Nat}{a:Value}{xs:List It}{cs:List Value}(h:SlI w B a xs)(k:Bx w g T cs)(hT:T≠41):a.ownBlock≠some g:=fun h1=>by
 obtain⟨_,e1⟩:=qAp h h1;unfold Bx at k;rw[e1]at k;simp at k;exact hT k.2.symm
structure MtO (w:World) (B:Nat) (m:Mt) (v:Mv):Prop where
 ms:OwnI w B v.ms.v m.ms
 its:SlI w B v.its.v m.its
 lv:OwnI w B v.lv.v m.lv
 tx:OwnS w B v.tx.v m.tx
 ws:OwnI w B v.ws.v m.la.ws
 a1:Ap v.ms.v v.lv.v
 a2:Ap v.ms.v v.ws.v
 a3:Ap v.lv.v v.ws.v
def Mv.own(v:Mv)(k:Nat):Prop:=v.ms.v.ownBlock=some k∨v.its.v.ownBlock=some k∨v.lv.v.ownBlock=some k∨v.tx.v.ownBlock=some k∨v.ws.v.ownBlock=some k
section
variable {w w' : World} {B : Nat} {m : Mt} {v : Mv}
theorem MtO.r(h:MtO w B m v):MtR w m v:=⟨h.ms.ri,h.its.rit,h.lv.ri,h.tx.rt,h.ws.ri⟩
theorem MtO.lt(h:MtO w B m v){k:Nat}(hk:v.own k):B≤k∧k<w.heap.size:=by
 rcases hk with h1|h1|h1|h1|h1
 ·exact h.ms.lt k h1
 ·exact h.its.lt k h1
 ·exact h.lv.lt k h1
 ·exact h.tx.lt k h1
 ·exact h.ws.lt k h1
theorem Pl.OwnS.keep'{w w':World}{B:Nat}{v:Value}{ss:List ByteArray}(h:OwnS w B v ss)(hk: ∀k,v.ownBlock=Option.some k→k<w.heap.size→w'.heap[k]? =w.heap[k]?):OwnS w' B v ss:=by
 refine⟨h.1,?_⟩
 rcases h.2 with hn|⟨g,cap,cur,rfl,hbg,hg,rest⟩
 ·exact .inl hn
 ·exact .inr ⟨g,cap,cur,rfl,hbg,(hk g rfl (Array.getElem?_eq_some_iff.1 hg).1).trans hg,rest⟩
theorem MtO.keep(h:MtO w B m v)(hk: ∀k,v.own k→k<w.heap.size→w'.heap[k]? =w.heap[k]?):MtO w' B m v:=
 ⟨h.ms.keep fun k a b=>hk k (.inl a) b,h.its.keep fun k a b=>hk k (.inr (.inl a)) b,h.lv.keep fun k a b=>hk k (.inr (.inr (.inl a))) b,h.tx.keep' fun k a b=>hk k (.inr (.inr (.inr (.inl a)))) b,h.ws.keep fun k a b=>hk k (.inr (.inr (.inr (.inr a)))) b,h.a1,h.a2,h.a3⟩
theorem MtO.later(h:MtO w B m v)(hb:Below w.heap.size w w'):MtO w' B m v:=h.keep fun k _ hk=>hb.block k hk
theorem MtO.down{B':Nat}(h:MtO w B m v)(hB:B'≤B):MtO w B' m v:=⟨h.ms.down hB,h.its.down hB,h.lv.down hB,h.tx.down hB,h.ws.down hB,h.a1,h.a2,h.a3⟩
end
def MtB(w:World)(g T:Nat)(m:Mt)(v:Mv):Prop:=Bx w g T [.int .i64 m.id,.int .i64 m.rid,.slice v.ms.a v.ms.n v.ms.c,.slice v.its.a v.its.n v.its.c,.slice v.lv.a v.lv.n v.lv.c,.slice v.tx.a v.tx.n v.tx.c,.int .i64 m.rd,.int .i64 m.se,.int .i64 m.li,.int .i64 m.he,.int .i64 m.la.c,.int .i64 m.la.r,.int .i64 m.la.q,.int .i64 m.la.a,.int .i64 m.la.b,.slice v.ws.a v.ws.n v.ws.c]
theorem MtB.cells{w:World}{g T:Nat}{m:Mt}{v:Mv}(h:MtB w g T m v):
  (w.cell? ⟨g,0,none⟩=some (.int .i64 m.id)∧w.cell? ⟨g,1,none⟩=some (.int .i64 m.rid)∧w.cell? ⟨g,2,none⟩=some (.slice v.ms.a v.ms.n v.ms.c)∧w.cell? ⟨g,3,none⟩=some (.slice v.its.a v.its.n v.its.c)∧w.cell? ⟨g,4,none⟩=some (.slice v.lv.a v.lv.n v.lv.c)∧w.cell? ⟨g,5,none⟩=some (.slice v.tx.a v.tx.n v.tx.c))∧
  (w.cell? ⟨g,6,none⟩=some (.int .i64 m.rd)∧w.cell? ⟨g,7,none⟩=some (.int .i64 m.se)∧w.cell? ⟨g,8,none⟩=some (.int .i64 m.li)∧w.cell? ⟨g,9,none⟩=some (.int .i64 m.he))∧
  (w.cell? ⟨g,10,none⟩=some (.int .i64 m.la.c)∧w.cell? ⟨g,11,none⟩=some (.int .i64 m.la.r)∧w.cell? ⟨g,12,none⟩=some (.int .i64 m.la.q)∧w.cell? ⟨g,13,none⟩=some (.int .i64 m.la.a)∧w.cell? ⟨g,14,none⟩=some (.int .i64 m.la.b)∧w.cell? ⟨g,15,none⟩=some (.slice v.ws.a v.ws.n v.ws.c)):=
 ⟨⟨Bx.cell h 0,Bx.cell h 1,Bx.cell h 2,Bx.cell h 3,Bx.cell h 4,Bx.cell h 5⟩,⟨Bx.cell h 6,Bx.cell h 7,Bx.cell h 8,Bx.cell h 9⟩,Bx.cell h 10,Bx.cell h 11,Bx.cell h 12,Bx.cell h 13,Bx.cell h 14,Bx.cell h 15⟩
end Go.Proofs.YthdjkkiegecgnaaGreat
namespace Go.Proofs.YthdjkkiegecgnaaGreat
open Go.RowKit Pl
set_option linter.unusedVariables false
section
variable {P : Program} {ops : Array Oper} {rest : List Oper} {o : Oper} {a : Act} {w : World} {Q : Exit → Act → World → Prop}
theorem Bx.range{g T:Nat}{all:List Value}(h:Bx w g T all)(off:Nat)(cs:List Value)(hp:(all.drop off).take cs.length=cs):w.rangeAt g off cs:=by
 intro j v hv
 rw[h.cell]
 have hj:j<cs.length:=(List.getElem?_eq_some_iff.1 hv).1
 rw[←hp,List.getElem?_take,if_pos hj,List.getElem?_drop]at hv
 exact hv
theorem Bx.there{g T:Nat}{all:List Value}(h:Bx w g T all)(off n:Nat)(hn:off+n≤all.length):w.there g off n:=fun j hj=>by
 refine⟨?_,h.frozen _⟩
 rw[h.cell,List.getElem?_eq_getElem (by omega)]
 rfl
theorem qCv: ∀(vs:List Value) (w:World) (g o T:Nat) (all:List Value),Bx w g T all→o+vs.length≤all.length→Bx (w.setCells g o vs) g T (all.take o++vs++all.drop (o+vs.length)):=by
 intro vs
 induction vs with
 |nil=>intro w g o T all h _;simpa [World.setCells] using h
 |cons x vs ih=>
  intro w g o T all h hl
  simp only[List.length_cons]at hl
  have h1:=h.set o x
  have h2:=ih _ g (o+1) T _ h1 (by simp;omega)
  rw[World.setCells]
  have e:(all.set o x).take (o+1)++vs++(all.set o x).drop (o+1+vs.length)=all.take o++x::vs++all.drop (o+(x::vs).length):=by
   rw[List.drop_set,if_pos (by omega),List.take_set]
   have e1:(all.take (o+1)).set o x=all.take o++[x]:=by
    rw[List.take_succ_eq_append_getElem (by omega),List.set_append,if_neg (by rw[List.length_take];omega)]
    simp[List.length_take,Nat.min_eq_left (show o≤all.length by omega)]
   rw[e1]
   simp[Nat.add_assoc,Nat.add_comm 1 vs.length]
  rw[e]at h2
  exact h2
theorem qCu: ∀(vs:List Value) (w:World) (g o:Nat),TurnAt g w (w.setCells g o vs):=by
 intro vs
 induction vs with
 |nil=>intro w g o;exact TurnAt.refl _ _
 |cons x vs ih=>
  intro w g o
  rw[World.setCells]
  exact((TurnAt.refl g w).setCell o x).trans (ih _ g (o+1))
theorem wp_stB{K:Act→World→Prop}(ty:TypeId)(x y:Operand)(ho:o.op=.store ty x y)(g off:Nat)(hx:a.eval x=.pointer (some ⟨g,off,none⟩))(T:Nat)(all:List Value)(hB:Bx w g T all)(cs:List Value)(hy:a.eval y=.agg cs.toArray)
  (hl:off+cs.length≤all.length) (hi:(P.info? ty).map (·.size)=some cs.length) (h1:cs.all (·.oneCell')=true) (all':List Value) (he:all.take off++cs++all.drop (off+cs.length)=all')
  (h: ∀w',Bx w' g T all'→TurnAt g w w'→K (a.put o.dst undef) w'):o.wp P a w K Q:=by
 refine wp_store_mid ty x y ho g off cs.toArray hx hy (by simpa using hB.there off cs.length hl) (by simpa using hi) (all_oneCell_toArray (List.all_eq_true.1 h1)) ?_
 subst he
 exact h _ (by simpa using qCv cs w g off T all hB hl) (by simpa using qCu cs w g off)
theorem run_ld1{P:Program}{w:World}{g T:Nat}{all:List Value}(hB:Bx w g T all)(off:Nat)(u:Value)(hu:all[off]? =some u)(ty:TypeId)(d:TypeDesc)(ht:P.underlying ty=some d)(hd:d.isRow=false):(Instr.loadAt ty (.pointer (some ⟨g,off,none⟩))).run P w=.ok u w:=by
 have hc:w.cell? ⟨g,off,none⟩=some u:=by rw[hB.cell,hu]
 have hagg:(isAgg ty).run P w=.ok false w:=by
  unfold isAgg
  rw[Sem.run_bind,run_underlying ht w]
  cases d<;>simp_all
 simp[Instr.loadAt,Instr.sureAddr,loadVar,Sem.run_bind,hagg,hc]
theorem qAt(hw:Region.wanted o (yielded ops a.tmps)=true)(ty:TypeId)(x:Operand)(ho:o.op=.load ty x)(g off:Nat)(hx:a.eval x=.pointer (some ⟨g,off,none⟩))(T:Nat)(all:List Value)(hB:Bx w g T all)(u:Value)(hu:all[off]? =some u)
  (d:TypeDesc) (ht:P.underlying ty=some d) (hd:d.isRow=false) (h:wpList P ops Q rest (a.put o.dst u) w):wpList P ops Q (o::rest) a w:=
 wpList_step fun K hK=>by
  rw[if_pos hw]
  unfold Oper.wp execOp
  simp only[ho,hx,Sem.run_bind,run_ld1 hB off u hu ty d ht hd,Result.andThen_ok,Sem.run_pure]
  exact hK _ _ h
theorem run_st1{P:Program}{w:World}{g T:Nat}{all:List Value}(hB:Bx w g T all)(off:Nat)(u:Value)(hl:off<all.length)(h1:u.oneCell'=true)(ty:TypeId)(hi:(P.info? ty).map (·.size)=some 1):(Instr.storeAt ty (.pointer (some ⟨g,off,none⟩)) u).run P w=.ok () (w.setCell ⟨g,off,none⟩ u):=by
 have hc:w.cell? ⟨g,off,none⟩=some all[off]:=by rw[hB.cell,List.getElem?_eq_getElem hl]
 have hf:=hB.frozen off
 have hcs:u.cells= #[u]:=by cases u<;>first|rfl|(simp[Value.oneCell']at h1)
 cases hq:P.info? ty with
 |none=>simp[hq]at hi
 |some i=>
  have hs:i.size=1:=by simpa [hq] using hi
  have ha:(⟨g,off,none⟩:Addr).add 0=⟨g,off,none⟩:=by unfold Addr.add;split<;>simp_all
  have hst:=run_store P w ⟨g,off,none⟩ u .plain h1
  rw[hc,hf]at hst
  simp[Instr.storeAt,Instr.sureAddr,storeVar,sizeOf,typeInfo,hq,hs,hcs,storeCells,ha]
  simpa using hst
theorem qAe(hgd:o.guard=none)(ty:TypeId)(x y:Operand)(ho:o.op=.store ty x y)(g off:Nat)(hx:a.eval x=.pointer (some ⟨g,off,none⟩))(T:Nat)(all:List Value)(hB:Bx w g T all)(u:Value)(hy:a.eval y=u)(hl:off<all.length)(h1:u.oneCell'=true)
  (hi:(P.info? ty).map (·.size)=some 1) (all':List Value) (he:all.set off u=all') (h: ∀w',Bx w' g T all'→TurnAt g w w'→wpList P ops Q rest (a.put o.dst undef) w'):wpList P ops Q (o::rest) a w:=
 wpList_plain hgd fun K hK=>by
  unfold Oper.wp execOp
  simp only[ho,hx,hy,Sem.run_bind,run_st1 hB off u hl h1 ty hi,Result.andThen_ok,Sem.run_pure]
  subst he
  exact hK _ _ (h _ (hB.set off u) ((TurnAt.refl g w).setCell off u))
theorem qCy{K:Act→World→Prop}(ty:TypeId)(x y:Operand)(ho:o.op=.store ty x y)(g off:Nat)(hx:a.eval x=.pointer (some ⟨g,off,none⟩))(T:Nat)(all:List Value)(hB:Bx w g T all)(u:Value)(hy:a.eval y=u)(hl:off<all.length)(h1:u.oneCell'=true)
  (hi:(P.info? ty).map (·.size)=some 1) (all':List Value) (he:all.set off u=all') (h: ∀w',Bx w' g T all'→TurnAt g w w'→K (a.put o.dst undef) w'):o.wp P a w K Q:=by
 unfold Oper.wp execOp
 simp only[ho,hx,hy,Sem.run_bind,run_st1 hB off u hl h1 ty hi,Result.andThen_ok,Sem.run_pure]
 subst he
 exact h _ (hB.set off u) ((TurnAt.refl g w).setCell off u)
theorem qAf{S:World→Prop}(hw:Region.wanted o (yielded ops a.tmps)=true)(ty:TypeId)(x:Operand)(ho:o.op=.load ty x)(g off:Nat)(hx:a.eval x=.pointer (some ⟨g,off,none⟩))(T:Nat)(all:List Value)(hS: ∀w,S w→Bx w g T all)(u:Value)(hu:all[off]? =some u)
  (d:TypeDesc) (ht:P.underlying ty=some d) (hd:d.isRow=false):YieldsIf P ops S o u a:=
 .inl ⟨hw,fun w hw'=>by
  unfold execOp
  simp only[ho,hx,Sem.run_bind,run_ld1 (hS w hw') off u hu ty d ht hd,Result.andThen_ok,Sem.run_pure]⟩
theorem qBp{S:World→Prop}(hw:Region.wanted o (yielded ops a.tmps)=true)(ty:TypeId)(x:Operand)(ho:o.op=.load ty x)(g off:Nat)(hx:a.eval x=.pointer (some ⟨g,off,none⟩))(T:Nat)(all:List Value)(hS: ∀w,S w→Bx w g T all)(cs:List Value)(hp:(all.drop off).take cs.length=cs)
  (d:TypeDesc) (hu:P.underlying ty=some d) (hd:d.isRow=true) (hi:(P.info? ty).map (·.size)=some cs.length):YieldsIf P ops S o (.agg cs.toArray) a:=
 yieldsIf_load_mid hw ty x ho g off hx cs d (fun w h=>(hS w h).range off cs hp) hu hd hi
theorem Bx.store{g T:Nat}{all:List Value}(hB:Bx w g T all)(P:Program)(ty:TypeId)(off:Nat)(cs:List Value)(hl:off+cs.length≤all.length)(hi:(P.info? ty).map (·.size)=some cs.length)(h1:cs.all (·.oneCell')=true)(all':List Value)(he:all.take off++cs++all.drop (off+cs.length)=all'):
  ∃w',(storeVar ty ⟨g,off,none⟩ (.agg cs.toArray)).run P w=.ok () w'∧Bx w' g T all'∧TurnAt g w w':=by
 subst he
 exact⟨_,run_storeVar_mid w g off ty cs.toArray (by simpa using hB.there off cs.length hl) (by simpa using hi) (all_oneCell_toArray (List.all_eq_true.1 h1)),by simpa using qCv cs w g off T all hB hl,by simpa using qCu cs w g off⟩
theorem qAb(hw:Region.wanted o (yielded ops a.tmps)=true)(ty:TypeId)(x:Operand)(ho:o.op=.load ty x)(g off:Nat)(hx:a.eval x=.pointer (some ⟨g,off,none⟩))(T:Nat)(all:List Value)(hB:Bx w g T all)(cs:List Value)(hp:(all.drop off).take cs.length=cs)
  (d:TypeDesc) (hu:P.underlying ty=some d) (hd:d.isRow=true) (hi:(P.info? ty).map (·.size)=some cs.length)
  (h:wpList P ops Q rest (a.put o.dst (.agg cs.toArray)) w):wpList P ops Q (o::rest) a w:=
 wpList_step fun K hK=>by
  rw[if_pos hw]
  exact wp_load_mid ty x ho g off hx cs d (hB.range off cs hp) hu hd hi (hK _ _ h)
theorem qCk(hgd:o.guard=none)(ty:TypeId)(x y:Operand)(ho:o.op=.store ty x y)(g off:Nat)(hx:a.eval x=.pointer (some ⟨g,off,none⟩))(T:Nat)(all:List Value)(hB:Bx w g T all)(cs:List Value)(hy:a.eval y=.agg cs.toArray)
  (hl:off+cs.length≤all.length) (hi:(P.info? ty).map (·.size)=some cs.length) (h1:cs.all (·.oneCell')=true) (all':List Value) (he:all.take off++cs++all.drop (off+cs.length)=all')
  (h: ∀w',Bx w' g T all'→TurnAt g w w'→wpList P ops Q rest (a.put o.dst undef) w'):wpList P ops Q (o::rest) a w:=by
 refine wpList_store_mid hgd ty x y ho g off cs.toArray hx hy (by simpa using hB.there off cs.length hl) (by simpa using hi) (all_oneCell_toArray (List.all_eq_true.1 h1)) ?_
 subst he
 exact h _ (by simpa using qCv cs w g off T all hB hl) (by simpa using qCu cs w g off)
end
theorem Pl.OwnI.keepb{w w':World}{B g T:Nat}{v:Value}{xs:List Int}{cs:List Value}(h:OwnI w B v xs)(hB:Bx w g T cs)(ht:KeepBut g w w')(hT:T≠3):OwnI w' B v xs:=h.keep fun k hk hl=>ht.block k hl (fun e=>qCn h hB hT (e ▸ hk))
theorem Pl.OwnS.keepb{w w':World}{B g T:Nat}{v:Value}{xs:List ByteArray}{cs:List Value}(h:OwnS w B v xs)(hB:Bx w g T cs)(ht:KeepBut g w w')(hT:T≠9):OwnS w' B v xs:=h.keep' fun k hk hl=>ht.block k hl (fun e=>bx_s_ne h hB hT (e ▸ hk))
theorem SlI.keepb{w w':World}{B g T:Nat}{v:Value}{xs:List It}{cs:List Value}(h:SlI w B v xs)(hB:Bx w g T cs)(ht:KeepBut g w w')(hT:T≠41):SlI w' B v xs:=h.keep fun k hk hl=>ht.block k hl (fun e=>qLf h hB hT (e ▸ hk))
theorem qBy{g:Nat}{a c:World}{o:Obj}(h:(a.alloc o).grownBy c (some a.heap.size)):KeepBut g a c:=
 ⟨h.os,h.tape,h.output,Nat.le_trans (by simp) h.size,fun k hk _=>(h.block k (by simp;omega) (fun e=>by cases e;omega)).trans (heap_alloc_old a o hk)⟩
theorem Bx.keepb{w w':World}{g g' T:Nat}{cs:List Value}(h:Bx w g T cs)(k:KeepBut g' w w')(hne:g≠g'):Bx w' g T cs:=(k.block g h.lt hne).trans h
theorem Bx.afterGrown{g T:Nat}{a c:World}{o:Obj}{cs:List Value}(h:Bx a g T cs)(hg:(a.alloc o).grownBy c (some a.heap.size)):Bx c g T cs:=(hg.block g (by simp;have:=h.lt;omega) (fun e=>by cases e;have:=h.lt;omega)).trans ((heap_alloc_old a o h.lt).trans h)
theorem qCf{B:Nat}{w a c:World}{o:Obj}(h:Below B w a)(hB:B≤a.heap.size)(hg:(a.alloc o).grownBy c (some a.heap.size)):Below B w c:=(h.alloc hB o).grown hg (by simp;omega) (fun k hk=>by cases hk;exact hB)
theorem Pl.OwnI.past{w w':World}{B g T:Nat}{v:Value}{xs:List Int}{cs:List Value}(h:OwnI w B v xs)(hB:Bx w g T cs)(ht:TurnAt g w w')(hT:T≠3):OwnI w' B v xs:=h.keep fun k hk _=>ht.block k (fun e=>qCn h hB hT (e ▸ hk))
theorem Pl.OwnS.past{w w':World}{B g T:Nat}{v:Value}{xs:List ByteArray}{cs:List Value}(h:OwnS w B v xs)(hB:Bx w g T cs)(ht:TurnAt g w w')(hT:T≠9):OwnS w' B v xs:=h.keep' fun k hk _=>ht.block k (fun e=>bx_s_ne h hB hT (e ▸ hk))
theorem SlI.past{w w':World}{B g T:Nat}{v:Value}{xs:List It}{cs:List Value}(h:SlI w B v xs)(hB:Bx w g T cs)(ht:TurnAt g w w')(hT:T≠41):SlI w' B v xs:=h.keep fun k hk _=>ht.block k (fun e=>qLf h hB hT (e ▸ hk))
section
variable {P : Program} {w : World} {fn : Func} {tmps : Array Value}
theorem qBu{p q:Tmp}{ty:TypeId}(h:fn.results= #[.cell p ty,.tmp q])(g T:Nat)(cs:List Value)(d:TypeDesc)(hp:tmps.getD p undef=.pointer (some ⟨g,0,none⟩))(hB:Bx w g T cs)
  (hu:P.underlying ty=some d) (hd:d.isRow=true) (hi:(P.info? ty).map (·.size)=some cs.length):(results fn tmps).run P w=.ok (.tuple #[.agg cs.toArray,tmps.getD q undef]) w:=by
 have hl:=run_loadVar_mid (P:=P) w g 0 ty cs d (hB.range 0 cs (by simp)) hu hd hi
 have hp':tmps[p]?.getD undef=.pointer (some ⟨g,0,none⟩):=by simpa using hp
 simp[results,h,hp',asAddr,hl]
theorem qBd{p:Tmp}{ty:TypeId}(h:fn.results= #[.cell p ty])(g T:Nat)(cs:List Value)(d:TypeDesc)(hp:tmps.getD p undef=.pointer (some ⟨g,0,none⟩))(hB:Bx w g T cs)
  (hu:P.underlying ty=some d) (hd:d.isRow=true) (hi:(P.info? ty).map (·.size)=some cs.length):(results fn tmps).run P w=.ok (.agg cs.toArray) w:=by
 have hl:=run_loadVar_mid (P:=P) w g 0 ty cs d (hB.range 0 cs (by simp)) hu hd hi
 have hp':tmps[p]?.getD undef=.pointer (some ⟨g,0,none⟩):=by simpa using hp
 simp[results,h,hp',asAddr,hl]
end
theorem Tryz.sizeM:(Tryz.prog.info? 32).map (·.size)=some 16:=by kernel_rfl
theorem Tryz.size3:(Tryz.prog.info? 3).map (·.size)=some 1:=by kernel_rfl
theorem Tryz.sizeIs:(Tryz.prog.info? 27).map (·.size)=some 1:=by kernel_rfl
theorem Tryz.sizeNs:(Tryz.prog.info? 24).map (·.size)=some 1:=by kernel_rfl
theorem Tryz.sizeTs:(Tryz.prog.info? 28).map (·.size)=some 1:=by kernel_rfl
theorem Tryz.sizeSt:(Tryz.prog.info? 94).map (·.size)=some 1:=by kernel_rfl
theorem Tryz.sizeT:(Tryz.prog.info? 30).map (·.size)=some 6:=by kernel_rfl
theorem Tryz.sizeR:(Tryz.prog.info? 26).map (·.size)=some 2:=by kernel_rfl
theorem Tryz.sizeI:(Tryz.prog.info? 41).map (·.size)=some 4:=by kernel_rfl
end Go.Proofs.YthdjkkiegecgnaaGreat
namespace Go.Proofs.YthdjkkiegecgnaaGreat
open Go.RowKit Pl
theorem bxAt(w:World)(T:Nat)(cs:List Value)(z:Nat)(h:w.heap.size=z):Bx (w.alloc (.cells cs.toArray T)) z T cs:=h ▸ Bx.new w T cs
theorem enT(w:World)(c r q a b:Int)(u0:Value)(B0:Nat)(ws:List Int)(h:OwnI w B0 u0 ws):Hid (TokAt ((w.alloc (.cells #[.int .i64 c,.int .i64 r,.int .i64 q,.int .i64 a,.int .i64 b,u0] 30)).alloc (.cells #[.int .i64 0,.int .i64 0,.int .i64 0,.int .i64 0,.int .i64 0,.slice none 0 0] 30)) w.heap.size c r q a b u0)∧Hid (TokAt ((w.alloc (.cells #[.int .i64 c,.int .i64 r,.int .i64 q,.int .i64 a,.int .i64 b,u0] 30)).alloc (.cells #[.int .i64 0,.int .i64 0,.int .i64 0,.int .i64 0,.int .i64 0,.slice none 0 0] 30)) (w.heap.size+1) 0 0 0 0 0 (.slice none 0 0))∧Hid (Below w.heap.size w ((w.alloc (.cells #[.int .i64 c,.int .i64 r,.int .i64 q,.int .i64 a,.int .i64 b,u0] 30)).alloc (.cells #[.int .i64 0,.int .i64 0,.int .i64 0,.int .i64 0,.int .i64 0,.slice none 0 0] 30)))∧Hid (OwnI ((w.alloc (.cells #[.int .i64 c,.int .i64 r,.int .i64 q,.int .i64 a,.int .i64 b,u0] 30)).alloc (.cells #[.int .i64 0,.int .i64 0,.int .i64 0,.int .i64 0,.int .i64 0,.slice none 0 0] 30)) B0 u0 ws):=by
 have hn1:(w.alloc (.cells #[.int .i64 c,.int .i64 r,.int .i64 q,.int .i64 a,.int .i64 b,u0] 30)).heap.size=w.heap.size+1:=by simp
 refine⟨TokAt.stays (B:=w.heap.size+1) (heap_alloc_new w _) ((Below.refl _ _).alloc (by rw[hn1];exact Nat.le_refl _) _) (by omega),?_,((Below.refl _ _).alloc (Nat.le_refl _) _).alloc (by simp) _,(h.alloc _).alloc _⟩
 have h2:=heap_alloc_new (w.alloc (.cells #[.int .i64 c,.int .i64 r,.int .i64 q,.int .i64 a,.int .i64 b,u0] 30)) (.cells #[.int .i64 0,.int .i64 0,.int .i64 0,.int .i64 0,.int .i64 0,.slice none 0 0] 30)
 rw[hn1]at h2
 exact h2
theorem en1(w:World)(T1:Nat)(c1:List Value):Hid (Bx (w.alloc (.cells c1.toArray T1)) w.heap.size T1 c1)∧Hid (Below w.heap.size w (w.alloc (.cells c1.toArray T1))):=
 ⟨(Bx.new w T1 c1),((Below.refl _ _).alloc (by simp) _)⟩
theorem en2(w:World)(T1:Nat)(c1:List Value)(T2:Nat)(c2:List Value):Hid (Bx ((w.alloc (.cells c1.toArray T1)).alloc (.cells c2.toArray T2)) w.heap.size T1 c1)∧Hid (Bx ((w.alloc (.cells c1.toArray T1)).alloc (.cells c2.toArray T2)) (w.heap.size+1) T2 c2)∧Hid (Below w.heap.size w ((w.alloc (.cells c1.toArray T1)).alloc (.cells c2.toArray T2))):=
 ⟨((Bx.new w T1 c1).later (bA _ _)),(bxAt (w.alloc (.cells c1.toArray T1)) T2 c2 (w.heap.size+1) (by simp)),(((Below.refl _ _).alloc (by simp) _).alloc (by simp;try omega) _)⟩
theorem en3(w:World)(T1:Nat)(c1:List Value)(T2:Nat)(c2:List Value)(T3:Nat)(c3:List Value):Hid (Bx (((w.alloc (.cells c1.toArray T1)).alloc (.cells c2.toArray T2)).alloc (.cells c3.toArray T3)) w.heap.size T1 c1)∧Hid (Bx (((w.alloc (.cells c1.toArray T1)).alloc (.cells c2.toArray T2)).alloc (.cells c3.toArray T3)) (w.heap.size+1) T2 c2)∧Hid (Bx (((w.alloc (.cells c1.toArray T1)).alloc (.cells c2.toArray T2)).alloc (.cells c3.toArray T3)) (w.heap.size+2) T3 c3)∧Hid (Below w.heap.size w (((w.alloc (.cells c1.toArray T1)).alloc (.cells c2.toArray T2)).alloc (.cells c3.toArray T3))):=
 ⟨(((Bx.new w T1 c1).later (bA _ _)).later (bA _ _)),((bxAt (w.alloc (.cells c1.toArray T1)) T2 c2 (w.heap.size+1) (by simp)).later (bA _ _)),(bxAt ((w.alloc (.cells c1.toArray T1)).alloc (.cells c2.toArray T2)) T3 c3 (w.heap.size+2) (by simp)),((((Below.refl _ _).alloc (by simp) _).alloc (by simp;try omega) _).alloc (by simp;try omega) _)⟩
theorem en4(w:World)(T1:Nat)(c1:List Value)(T2:Nat)(c2:List Value)(T3:Nat)(c3:List Value)(T4:Nat)(c4:List Value):Hid (Bx ((((w.alloc (.cells c1.toArray T1)).alloc (.cells c2.toArray T2)).alloc (.cells c3.toArray T3)).alloc (.cells c4.toArray T4)) w.heap.size T1 c1)∧Hid (Bx ((((w.alloc (.cells c1.toArray T1)).alloc (.cells c2.toArray T2)).alloc (.cells c3.toArray T3)).alloc (.cells c4.toArray T4)) (w.heap.size+1) T2 c2)∧Hid (Bx ((((w.alloc (.cells c1.toArray T1)).alloc (.cells c2.toArray T2)).alloc (.cells c3.toArray T3)).alloc (.cells c4.toArray T4)) (w.heap.size+2) T3 c3)∧Hid (Bx ((((w.alloc (.cells c1.toArray T1)).alloc (.cells c2.toArray T2)).alloc (.cells c3.toArray T3)).alloc (.cells c4.toArray T4)) (w.heap.size+3) T4 c4)∧Hid (Below w.heap.size w ((((w.alloc (.cells c1.toArray T1)).alloc (.cells c2.toArray T2)).alloc (.cells c3.toArray T3)).alloc (.cells c4.toArray T4))):=
 ⟨((((Bx.new w T1 c1).later (bA _ _)).later (bA _ _)).later (bA _ _)),(((bxAt (w.alloc (.cells c1.toArray T1)) T2 c2 (w.heap.size+1) (by simp)).later (bA _ _)).later (bA _ _)),((bxAt ((w.alloc (.cells c1.toArray T1)).alloc (.cells c2.toArray T2)) T3 c3 (w.heap.size+2) (by simp)).later (bA _ _)),(bxAt (((w.alloc (.cells c1.toArray T1)).alloc (.cells c2.toArray T2)).alloc (.cells c3.toArray T3)) T4 c4 (w.heap.size+3) (by simp)),(((((Below.refl _ _).alloc (by simp) _).alloc (by simp;try omega) _).alloc (by simp;try omega) _).alloc (by simp;try omega) _)⟩
section
variable {P : Program} {w : World} {ops : Array Oper} {rest : List Oper} {o : Oper} {a : Act} {Q : Exit → Act → World → Prop}
theorem whole_eq{all cs:List Value}(hl:cs.length=all.length):all.take 0++cs++all.drop (0+cs.length)=cs:=by
 rw[Nat.zero_add,hl,List.drop_length,List.take_zero,List.nil_append,List.append_nil]
theorem qAd(hgd:o.guard=none)(ty:TypeId)(x y:Operand)(ho:o.op=.store ty x y)(g:Nat)(hx:a.eval x=.pointer (some ⟨g,0,none⟩))(T:Nat)(all:List Value)(hB:Bx w g T all)(cs:List Value)(hy:a.eval y=.agg cs.toArray)
  (hl:cs.length=all.length) (hi:(P.info? ty).map (·.size)=some cs.length) (h1:cs.all (·.oneCell')=true)
  (h: ∀w',Bx w' g T cs→TurnAt g w w'→wpList P ops Q rest (a.put o.dst undef) w'):wpList P ops Q (o::rest) a w:=
 qCk hgd ty x y ho g 0 hx T all hB cs hy (by omega) hi h1 cs (whole_eq hl) h
theorem qAm{K:Act→World→Prop}(ty:TypeId)(x y:Operand)(ho:o.op=.store ty x y)(g:Nat)(hx:a.eval x=.pointer (some ⟨g,0,none⟩))(T:Nat)(all:List Value)(hB:Bx w g T all)(cs:List Value)(hy:a.eval y=.agg cs.toArray)
  (hl:cs.length=all.length) (hi:(P.info? ty).map (·.size)=some cs.length) (h1:cs.all (·.oneCell')=true)
  (h: ∀w',Bx w' g T cs→TurnAt g w w'→K (a.put o.dst undef) w'):o.wp P a w K Q:=
 wp_stB ty x y ho g 0 hx T all hB cs hy (by omega) hi h1 cs (whole_eq hl) h
theorem tkH{md:Region.Mode}{S:World→Prop}{i:Nat}{oi:Oper}{v:Value}{fuel:Nat}{listed:Array Bool}(hi:ops[i]? =some oi)
  (hb:(Region.noSelect ops&&(Region.free md ops listed i&&(Region.ready md ops listed).contains i))=true)
  (hQ: ∀c a w,Q (.panic c) (a.put oi.dst v) w→Q (.panic c) a w) (hy:YieldsIf P ops S oi v a) (hS:S w)
  (h:wpAnyH P md ops Q S fuel (listed.setIfInBounds i true) (a.put oi.dst v) w):wpAnyH P md ops Q S (fuel+1) listed a w:=by
 simp only[Bool.and_eq_true]at hb
 exact wpAnyH_take hi hb.1 hb.2.1 hb.2.2 hQ hy hS h
theorem tkP{md:Region.Mode}{S:World→Prop}{i:Nat}{oi:Oper}{v:Value}{fuel:Nat}{listed:Array Bool}(hi:ops[i]? =some oi)
  (hb:(Region.noSelect ops&&(Region.free md ops listed i&&(Region.ready md ops listed).contains i))=true)
  (hQ: ∀c a w,Q (.panic c) (a.put oi.dst v) w→Q (.panic c) a w) (hw:Region.wanted oi (yielded ops a.tmps)=true) (hy: ∀w,S w→(execOp a.eval oi).run P w=.ok (.value v) w) (hS:S w)
  (h:wpAnyH P md ops Q S fuel (listed.setIfInBounds i true) (a.put oi.dst v) w):wpAnyH P md ops Q S (fuel+1) listed a w:=
 tkH hi hb hQ (.inl ⟨hw,hy⟩) hS h
theorem tkQ{md:Region.Mode}{S:World→Prop}(i:Nat){oi:Oper}{v:Value}{fuel:Nat}{listed:Array Bool}(hi:ops[i]? =some oi)
  (hb:(Region.noSelect ops&&(Region.free md ops listed i&&(Region.ready md ops listed).contains i))=true) (hw:Region.wanted oi (yielded ops a.tmps)=true) (hy: ∀w,S w→(execOp a.eval oi).run P w=.ok (.value v) w) (hS:S w)
  (h:wpAnyH P md ops Q S fuel (listed.setIfInBounds i true) (a.put oi.dst v) w) (hQ: ∀c a w,Q (.panic c) (a.put oi.dst v) w→Q (.panic c) a w):wpAnyH P md ops Q S (fuel+1) listed a w:=tkP hi hb hQ hw hy hS h
end
theorem qHi(w:World)(B z:Nat)(hb:B≤w.heap.size)(h:w.heap.size=z):SlI (w.alloc (.cells #[] 41)) B (.slice (some ⟨z,0,none⟩) 0 0) []:=h ▸ SlI.made w B hb
theorem owiAt(w:World)(B z:Nat)(hb:B≤w.heap.size)(h:w.heap.size=z):OwnI (w.alloc (.cells #[] 3)) B (.slice (some ⟨z,0,none⟩) 0 0) []:=h ▸ OwnI.made w B hb
abbrev mC(m:Mt)(v:Mv):List Value:=[.int .i64 m.id,.int .i64 m.rid,.slice v.ms.a v.ms.n v.ms.c,.slice v.its.a v.its.n v.its.c,.slice v.lv.a v.lv.n v.lv.c,.slice v.tx.a v.tx.n v.tx.c,.int .i64 m.rd,.int .i64 m.se,.int .i64 m.li,.int .i64 m.he,.int .i64 m.la.c,.int .i64 m.la.r,.int .i64 m.la.q,.int .i64 m.la.a,.int .i64 m.la.b,.slice v.ws.a v.ws.n v.ws.c]
abbrev mX(a b:Int)(p q r s:Sv)(c d e f g h i j k:Int)(t:Sv):List Value:=[.int .i64 a,.int .i64 b,.slice p.a p.n p.c,.slice q.a q.n q.c,.slice r.a r.n r.c,.slice s.a s.n s.c,.int .i64 c,.int .i64 d,.int .i64 e,.int .i64 f,.int .i64 g,.int .i64 h,.int .i64 i,.int .i64 j,.int .i64 k,.slice t.a t.n t.c]
abbrev tX(a b c d e:Int)(s:Sv):List Value:=[.int .i64 a,.int .i64 b,.int .i64 c,.int .i64 d,.int .i64 e,.slice s.a s.n s.c]
abbrev zzM:List Value:=[.int .i64 0,.int .i64 0,.slice none 0 0,.slice none 0 0,.slice none 0 0,.slice none 0 0,.int .i64 0,.int .i64 0,.int .i64 0,.int .i64 0,.int .i64 0,.int .i64 0,.int .i64 0,.int .i64 0,.int .i64 0,.slice none 0 0]
abbrev zzT:List Value:=[.int .i64 0,.int .i64 0,.int .i64 0,.int .i64 0,.int .i64 0,.slice none 0 0]
abbrev zzW:List Value:=[.int .i64 0,.slice none 0 0,.slice none 0 0,.slice none 0 0,.slice none 0 0,.slice none 0 0]
end Go.Proofs.YthdjkkiegecgnaaGreat
namespace Go.Proofs.YthdjkkiegecgnaaGreat.Pl
open Go Go.RowKit
set_option linter.unusedVariables false
section
variable {P : Program} {ops : Array Oper} {Q : Exit → Act → World → Prop} {a : Act} {w : World}
/-! ### a statement that leaves its order open, its last operation apart -/
def qHk(ops:Array Oper):Nat→Nat→Nat→Bool
 |0,_,_=>false
 |f+1,j,i=>((ops[j]?).map (fun o=>o.after.any fun e=>Region.binds .any e&&(e.on==i||qHk ops f e.on i))).getD false
def backB(ops:Array Oper):Bool:=(List.range ops.size).all fun i=>((ops[i]?).map (fun o=>o.after.all fun e=> !Region.binds .any e||decide (e.on<i))).getD true
def DownL(ops:Array Oper)(listed:Array Bool):Prop:=∀i o,ops[i]? =some o→listed.getD i false=true→∀e∈o.after,Region.binds .any e=true→listed.getD e.on false=true
theorem qGq{listed:Array Bool}(hd:DownL ops listed): ∀(f j i:Nat),qHk ops f j i=true→(∀o,ops[j]? =some o→∀e∈o.after,Region.binds .any e=true→listed.getD e.on false=true)→listed.getD i false=true
 |0,j,i,h,_=>by simp[qHk]at h
 |f+1,j,i,h,hj=>by
  unfold qHk at h
  cases ho:ops[j]? with
  |none=>simp[ho]at h
  |some o=>
   simp only[ho,Option.map_some,Option.getD_some]at h
   obtain⟨e,he,hb⟩:=Array.any_eq_true'.1 h
   simp only[Bool.and_eq_true,Bool.or_eq_true,beq_iff_eq]at hb
   have hl:=hj o ho e he hb.1
   rcases hb.2 with rfl|hr
   ·exact hl
   ·exact qGq hd f e.on i hr (fun o' ho' e' he' hb'=>hd e.on o' ho' hl e' he' hb')
theorem qJk{listed:Array Bool}(hs:listed.size=ops.size)(hb:backB ops=true){j:Nat}(hj:j<ops.size)(hu:listed.getD j false=false):Region.ready .any ops listed≠[]:=by
 have key: ∀n j,j≤n→j<ops.size→listed.getD j false=false→∃i,i∈Region.ready .any ops listed:=by
  intro n
  induction n with
  |zero=>
   intro j hj0 hj hu
   obtain rfl:j=0:=by omega
   refine⟨0,mem_ready.2 ⟨?_,ops[0],Array.getElem?_eq_getElem hj,fun e he hbe=>?_⟩⟩
   ·have:0<listed.size:=by omega
    simpa [this] using hu
   ·have:=List.all_eq_true.1 hb 0 (List.mem_range.2 hj)
    rw[Array.getElem?_eq_getElem hj]at this
    simp only[Option.map_some,Option.getD_some]at this
    have:=Array.all_eq_true_iff_forall_mem.1 this e he
    simp[hbe]at this
  |succ n ih=>
   intro j hjn hj hu
   by_cases hall: ∀e∈ops[j].after,Region.binds .any e=true→listed.getD e.on false=true
   ·refine⟨j,mem_ready.2 ⟨?_,ops[j],Array.getElem?_eq_getElem hj,hall⟩⟩
    have:j<listed.size:=by omega
    simpa [this] using hu
   ·simp only[Classical.not_forall]at hall
    obtain⟨e,he,hbe,hne⟩:=hall
    have h1:=List.all_eq_true.1 hb j (List.mem_range.2 hj)
    rw[Array.getElem?_eq_getElem hj]at h1
    simp only[Option.map_some,Option.getD_some]at h1
    have h2:=Array.all_eq_true_iff_forall_mem.1 h1 e he
    simp[hbe]at h2
    exact ih e.on (by omega) (by omega) (by simpa using hne)
 obtain⟨i,hi⟩:=key j j (Nat.le_refl _) hj hu
 intro h0
 rw[h0]at hi
 cases hi
theorem down_set{listed:Array Bool}(hd:DownL ops listed){i:Nat}(hi:i∈Region.ready .any ops listed):DownL ops (listed.setIfInBounds i true):=by
 obtain⟨_,oi,hoi,hall⟩:=mem_ready.1 hi
 intro k o ho hk e he hb
 by_cases hki:k=i
 ·subst hki
  rw[hoi]at ho
  cases ho
  exact getD_set_true (hall e he hb)
 ·rw[getD_set_ne false (Ne.symm hki)]at hk
  exact getD_set_true (hd k o ho hk e he hb)
theorem qGc{ops':Array Oper}(hsz:ops'.size=ops.size)(ha: ∀i:Nat,(ops'[i]?).map Oper.after=(ops[i]?).map Oper.after)(listed:Array Bool):Region.ready .any ops' listed=Region.ready .any ops listed:=by
 unfold Region.ready
 rw[hsz]
 refine congrArg (fun f=>List.filter f (List.range ops.size)) (funext fun i=>?_)
 have h:=ha i
 have e1: ∀x:Option Oper,(x.map (fun o=>o.after.all fun e=> !Region.binds .any e||listed.getD e.on false))=(x.map Oper.after).map (fun s=>s.all fun e=> !Region.binds .any e||listed.getD e.on false):=fun x=>by cases x<;>rfl
 rw[e1,e1,h]
theorem all_listed{listed:Array Bool}(hs:listed.size=ops.size)(h: ∀j,j<ops.size→listed.getD j false=true):Region.ready .any ops listed=[]:=by
 cases hr:Region.ready .any ops listed with
 |nil=>rfl
 |cons x xs=>
  have hx:x∈Region.ready .any ops listed:=by rw[hr];exact List.mem_cons_self ..
  obtain⟨h0,o,ho,_⟩:=mem_ready.1 hx
  have hlt:x<ops.size:=(Array.getElem?_eq_some_iff.1 ho).1
  have h1:=h x hlt
  have:x<listed.size:=by omega
  simp[this]at h0 h1
  rw[h0]at h1
  cases h1
end
section
variable {P : Program} {Q : Exit → Act → World → Prop} {S : World → Prop}
def qLi(P:Program)(ops:Array Oper)(Q:Exit→Act→World→Prop)(m:Nat):Exit→Act→World→Prop
 | .normal,a,w=>wpOp P ops Q m (fun a' w'=>Q .normal a' w') a w
 |e,a,w=>Q e a w
theorem letsOut_last{ops:Array Oper}{m:Nat}:LetsOut (qLi P ops Q m)=LetsOut Q:=rfl
theorem upon_last{ops:Array Oper}{m:Nat}{o:Oper}{a:Act}{K:Act→World→Prop}(r:Result Next):o.upon P a K (qLi P ops Q m) r=o.upon P a K Q r:=by
 cases r with
 |ok n w'=>cases n<;>rfl
 |_=>rfl
theorem wpOp_last{ops ops':Array Oper}{m i:Nat}{K:Act→World→Prop}{a:Act}{w:World}(hs:ops'[i]? =ops[i]?)(hy: ∀tmps,yielded ops' tmps=yielded ops tmps)(h:wpOp P ops' (qLi P ops Q m) i K a w):wpOp P ops Q i K a w:=by
 unfold wpOp at h⊢
 rw[hs]at h
 cases ho:ops[i]? with
 |none=>simpa [ho] using h
 |some o=>
  simp only[ho,hy]at h⊢
  unfold Oper.wp at h⊢
  rw[upon_last,letsOut_last]at h
  exact h
theorem any_last{ops ops':Array Oper}{m:Nat}(hm:ops.size=m+1)(hsz:ops'.size=ops.size)(hsame: ∀i:Nat,i≠m→ops'[i]? =ops[i]?){o':Oper}(ho':ops'[m]? =some o')(ha: ∀i:Nat,(ops'[i]?).map Oper.after=(ops[i]?).map Oper.after)
  (hop:o'.op=.move (.const undef)) (hdst:o'.dst=none) (hgd:o'.guard=none) (hy: ∀tmps,yielded ops' tmps=yielded ops tmps) (hback:backB ops=true) (hreach:(List.range m).all (fun i=>qHk ops (m+1) m i)=true):
  ∀(fuel:Nat) (listed:Array Bool) (a:Act) (w:World),listed.size=ops.size→DownL ops listed→listed.getD m false=false→wpAnyH P .any ops' (qLi P ops Q m) S fuel listed a w→wpAny P .any ops Q fuel listed a w:=by
 intro fuel
 induction fuel with
 |zero=>
  intro listed a w hs hd hu h
  have h0:=h.1
  rw[qGc hsz ha]at h0
  exact absurd h0 (qJk hs hback (by omega) hu)
 |succ fuel ih=>
  intro listed a w hs hd hu h
  obtain⟨_,h1⟩:=h
  rw[qGc hsz ha]at h1
  have hne:=qJk hs hback (j:=m) (by omega) hu
  refine⟨fun h0=>absurd h0 hne,fun i hir=>?_⟩
  have hq:=h1 i hir
  by_cases him:i=m
  ·subst him
   obtain⟨_,oi,hoi,hall⟩:=mem_ready.1 hir
   have hl: ∀j,j<ops.size→(listed.setIfInBounds i true).getD j false=true:=by
    intro j hj
    by_cases hji:j=i
    ·subst hji
     have:j<listed.size:=by omega
     simp[this]
    ·refine getD_set_true (qGq hd (i+1) i j (List.all_eq_true.1 hreach j (List.mem_range.2 (by omega))) (fun o ho e he hb=>?_))
     rw[hoi]at ho
     cases ho
     exact hall e he hb
   have hr0:=all_listed (ops:=ops) (listed:=listed.setIfInBounds i true) (by simpa using hs) hl
   have hr0':Region.ready .any ops' (listed.setIfInBounds i true)=[]:=by rw[qGc hsz ha];exact hr0
   have hk:qLi P ops Q i .normal a w:=by
    unfold wpOp at hq
    simp only[ho']at hq
    rw[if_pos (by simp[Region.wanted,hgd])]at hq
    have hk':wpAnyH P .any ops' (qLi P ops Q i) S fuel (listed.setIfInBounds i true) a w:=by
     rcases hq with hq|⟨hq,_⟩
     ·have:(execOp a.eval o').run P w=.ok (.value undef) w:=by simp[execOp,hop,Act.eval]
      unfold Oper.wp at hq
      rw[this]at hq
      simpa [Oper.upon,hdst,Act.put] using hq.2
     ·exfalso
      simp[Oper.asks,execOp,hop]at hq
      have e:Sem.events P (pure (Next.value (a.eval (Operand.const undef)))) w #[]= #[]:=rfl
      rw[e]at hq
      simp at hq
    cases fuel with
    |zero=>exact hk'.2
    |succ f=>exact hk'.1 hr0'
   refine wpOp_mono (fun a' w' hq'=>?_) (show wpOp P ops Q i (fun a' w'=>Q .normal a' w') a w from hk)
   cases fuel with
   |zero=>exact⟨hr0,hq'⟩
   |succ f=>exact⟨fun _=>hq',by rw[hr0];intro j hj;cases hj⟩
  ·exact wpOp_mono (fun a' w' hh=>ih _ a' w' (by simpa using hs) (down_set hd hir) (by rw[getD_set_ne false him];exact hu) hh.2) (wpOp_last (hsame i him) hy hq)
theorem qGw{id:Nat}{a:Act}{w:World}(pre:List Oper)(o:Oper)(hmx:P.follows .mixedOrders=true)(hdst:o.dst=none)(hgd:o.guard=none)(hback:backB (pre++[o]).toArray=true)(hreach:(List.range pre.length).all (fun i=>qHk (pre++[o]).toArray (pre.length+1) pre.length i)=true)
  (h:wpAnyH P .any (pre++[{o with op:=.move (.const undef)}]).toArray (qLi P (pre++[o]).toArray Q pre.length) S (pre.length+1) (Array.replicate (pre.length+1) false) a w.drew):(Code.region id (pre++[o]).toArray true).wp P Q a w:=by
 generalize ho':({o with op:=.move (.const undef)}:Oper)=o' at h
 have hgl:(pre++[o]).toArray[pre.length]? =some o:=by simp
 have hgl':(pre++[o']).toArray[pre.length]? =some o':=by simp
 have hget: ∀i:Nat,i≠pre.length→(pre++[o']).toArray[i]? =(pre++[o]).toArray[i]? :=by
  intro i hi
  by_cases h1:i<pre.length
  ·simp[List.getElem?_append_left h1]
  ·have:pre.length+1≤i:=by omega
   simp[this]
 have ha: ∀i:Nat,((pre++[o']).toArray[i]?).map Oper.after=((pre++[o]).toArray[i]?).map Oper.after:=by
  intro i
  by_cases hi:i=pre.length
  ·subst hi;rw[hgl,hgl',←ho'];rfl
  ·rw[hget i hi]
 have hy: ∀tmps,yielded (pre++[o']).toArray tmps=yielded (pre++[o]).toArray tmps:=by
  intro tmps
  funext g
  have:((pre++[o']).toArray[g]?).bind Oper.dst=((pre++[o]).toArray[g]?).bind Oper.dst:=by
   by_cases hi:g=pre.length
   ·subst hi;rw[hgl,hgl',←ho'];rfl
   ·rw[hget g hi]
  unfold yielded
  rw[this]
 refine wp_region_any hmx ?_
 have:=any_last (P:=P) (Q:=Q) (S:=S) (ops:=(pre++[o]).toArray) (ops':=(pre++[o']).toArray) (m:=pre.length) (by simp) (by simp) hget hgl' ha (by rw[←ho']) (by rw[←ho'];exact hdst) (by rw[←ho'];exact hgd) hy hback hreach (pre.length+1) (Array.replicate (pre.length+1) false) a w.drew (by simp)
  (fun i o ho hli=>by simp[Array.getElem?_replicate]at hli;split at hli<;>simp at hli) (by simp) h
 simpa using this
theorem qAj{id:Nat}{a:Act}{w:World}(l:List Oper)(hne:l≠[])(hmx:P.follows .mixedOrders=true)(hdst:(l.getLast hne).dst=none)(hgd:(l.getLast hne).guard=none)(hback:backB l.toArray=true)(hreach:(List.range l.dropLast.length).all (fun i=>qHk l.toArray (l.dropLast.length+1) l.dropLast.length i)=true)
  (hS:S w.drew) (h:S w.drew→wpAnyH P .any (l.dropLast++[{l.getLast hne with op:=.move (.const undef)}]).toArray (qLi P l.toArray Q l.dropLast.length) S (l.dropLast.length+1) (Array.replicate (l.dropLast.length+1) false) a w.drew):(Code.region id l.toArray true).wp P Q a w:=by
 have e:=List.dropLast_concat_getLast hne
 have:=qGw (P:=P) (Q:=Q) (S:=S) (id:=id) (a:=a) (w:=w) l.dropLast (l.getLast hne) hmx hdst hgd (by rw[e];exact hback) (by rw[e];exact hreach) (by rw[e];exact h hS)
 rw[e]at this
 exact this
end
theorem wpOp_of{P:Program}{ops:Array Oper}{Q:Exit→Act→World→Prop}{i:Nat}{K:Act→World→Prop}{a:Act}{w:World}{o:Oper}(ho:ops[i]? =some o)(hg:o.guard=none)(h:o.wp P a w K Q):wpOp P ops Q i K a w:=by
 unfold wpOp
 simp only[ho]
 rw[if_pos (by simp[Region.wanted,hg])]
 exact .inl h
theorem qBj{P:Program}{ops:Array Oper}{Q:Exit→Act→World→Prop}{m:Nat}{a:Act}{w:World}{o:Oper}(ho:ops[m]? =some o)(hg:o.guard=none)(h:o.wp P a w (fun a' w'=>Q .normal a' w') Q):qLi P ops Q m .normal a w:=wpOp_of ho hg h
end Go.Proofs.YthdjkkiegecgnaaGreat.Pl
namespace Go.Proofs.YthdjkkiegecgnaaGreat
open Go.RowKit Pl
set_option linter.unusedVariables false
def lvP(lv:List Int)(k:Nat):Int:=if lv[k]? =some 2 then 2 else 1
def qBx(f:Int)(lv:List Int):Int→Nat→List ByteArray→List It
 |_,_,[]=>[]
 |q,k,t::ts=>if k<3∧q<60∧t.size≤60 then(q+1,f,lvP lv k,t)::qBx f lv (q+1) (k+1) ts else[]
theorem qDt{f:Int}{lv:List Int}{q:Int}{k:Nat}{ts:List ByteArray}(h: ∀t,ts.head? =some t→¬(k<3∧q<60∧t.size≤60)):qBx f lv q k ts=[]:=by
 cases ts with
 |nil=>rfl
 |cons t ts=>unfold qBx;rw[if_neg (h t rfl)]
theorem qDu{f:Int}{lv:List Int}{q:Int}{k:Nat}{t:ByteArray}{ts:List ByteArray}(h:k<3∧q<60∧t.size≤60):qBx f lv q k (t::ts)=(q+1,f,lvP lv k,t)::qBx f lv (q+1) (k+1) ts:=by
 rw[qBx,if_pos h]
def NSt(f:Int)(lv:List Int)(q:Int)(ts:List ByteArray)(k:Nat)(L:List It):Prop:=
 L.length=k∧k≤3∧k≤ts.length∧(0≤q∧q+(k:Int)≤60)∧qBx f lv q 0 ts=L++qBx f lv (q+(k:Int)) k (ts.drop k)
theorem nSt_start{f:Int}{lv:List Int}{q:Int}{ts:List ByteArray}(h0:0≤q)(h1:q≤60):NSt f lv q ts 0 []:=
 ⟨rfl,by omega,by omega,⟨h0,by simpa using h1⟩,by simp⟩
theorem qDi{f:Int}{lv:List Int}{q:Int}{ts:List ByteArray}{k:Nat}{L:List It}(h:NSt f lv q ts k L)(hs: ∀(hk:k<ts.length),¬(k<3∧q+(k:Int)<60∧ts[k].size≤60)):qBx f lv q 0 ts=L:=by
 rw[h.2.2.2.2,qDt,List.append_nil]
 intro t ht
 by_cases hk:k<ts.length
 ·rw[List.head?_drop,List.getElem?_eq_getElem hk]at ht
  cases ht
  exact hs hk
 ·rw[List.drop_of_length_le (by omega)]at ht
  cases ht
theorem nSt_next{f:Int}{lv:List Int}{q:Int}{ts:List ByteArray}{k:Nat}{L:List It}(h:NSt f lv q ts k L)(hk:k<ts.length)(hs:k<3∧q+(k:Int)<60∧ts[k].size≤60):NSt f lv q ts (k+1) (L++[(q+(k:Int)+1,f,lvP lv k,ts[k])]):=by
 obtain⟨h1,h2,h3,h4,h5⟩:=h
 refine⟨by simp[h1],by omega,by omega,⟨h4.1,by omega⟩,?_⟩
 rw[h5,List.drop_eq_getElem_cons hk,qDu hs,List.append_assoc,List.singleton_append]
 rw[show q+(k:Int)+1=q+((k+1:Nat):Int) by omega]
theorem level_any(al:Option Addr)(cl:Nat)(lv:List Int)(k:Nat)(w:World)(hx:Hid (IntsAt w al lv))(hl:lv.length≤1048576)(hk:k≤1048576):
  Calls Tryz.prog 169 #[.slice al lv.length cl,.int .i64 k] w fun e w'=>e=.returned (.int .i64 (lvP lv k))∧w'=w:=by
 unfold lvP
 by_cases h1:k<lv.length
 ·have e1:lv[k]? =some lv[k]:=List.getElem?_eq_getElem h1
  obtain⟨b,off,rfl,hbb,hc⟩:=hx.out k h1
  obtain⟨x,ht⟩: ∃x,x=lv[k]:=⟨_,rfl⟩
  rw[←ht]at hc e1
  have HE:Hid (lv[k]? =some x):=e1
  have i1:(k:Int)<(lv.length:Int):=by omega
  clear e1 ht
  by_cases h2:x=2
  ·subst h2
   rw[if_pos HE.out]
   go_enter Tryz.func169,Tryz.ntmps169
   go_wp2
   go_ret
   exact⟨rfl,rfl⟩
  ·rw[if_neg (by rw[HE.out];simpa using h2)]
   go_enter Tryz.func169,Tryz.ntmps169
   go_wp2
   go_ret
   exact⟨rfl,rfl⟩
 ·rw[if_neg (by rw[List.getElem?_eq_none (by omega)];simp)]
  have i1: ¬(k:Int)<(lv.length:Int):=by omega
  go_enter Tryz.func169,Tryz.ntmps169
  go_wp2
  go_ret
  exact⟨rfl,rfl⟩
end Go.Proofs.YthdjkkiegecgnaaGreat
namespace Go.Proofs.YthdjkkiegecgnaaGreat
open Go.RowKit Pl
set_option linter.unusedVariables false
theorem q_callB{P:Program}{W:World}{o:Oper}{a:Act}{K:Act→Prop}(v:Value)(f:FuncId)(args:Array Value)(h: ∀w,Below W.heap.size W w→(execOp a.eval o).run P w=.ok (.enter f args) w)
  (hc: ∀w,Below W.heap.size W w→Calls P f args w fun e w'=>e=.returned v∧Below w.heap.size w w') (hk:K (a.put o.dst v)):o.quiet P a (fun w'=>Below W.heap.size W w') K:=
 qFu v f args h (fun w hw=>(hc w hw).mono fun e w' ⟨he,hb⟩=>⟨he,hw.trans (hb.mono hw.size)⟩) hk
end Go.Proofs.YthdjkkiegecgnaaGreat
