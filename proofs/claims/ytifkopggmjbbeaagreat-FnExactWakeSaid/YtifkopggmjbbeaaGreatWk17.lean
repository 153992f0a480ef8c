/- Joined texts: CHf CShr CSla CLem14 CLs CEv CEvs CBus CGee CGeb CEqw CDm CNm14. -/
import Derived.Test.YtifkopggmjbbeaaGreatWk16
import Derived.Test.YtifkopggmjbbeaaGreatWk15
import Derived.Test.YtifkopggmjbbeaaGreatWk14
import Derived.Test.YtifkopggmjbbeaaGreatWk8
import Derived.Test.YtifkopggmjbbeaaGreatWk11
import Derived.Laws.MakeOwn
import Derived.Test.YtifkopggmjbbeaaGreatWk13
set_option maxRecDepth 100000
set_option maxHeartbeats 16000000
/- Hear. -/
namespace Go.Proofs.YtifkopggmjbbeaaGreat
open Go.RowKit Pl
set_option linter.unusedSimpArgs false
set_option linter.unusedVariables false
/-- the member behind it. -/
def Mt.hadH(m:Mt):Mt:=m.setH (m.he+m.hear.length)
/-- whether a number is wanted yet. -/
def slB(ws lk:List Int)(its:List It)(n:Int):Bool:=(!hasP its n&&inB ws n)||inB lk n
def slGo(ws lk:List Int)(its:List It):Nat→Nat→List Int→List Int
  |0,_,acc=>acc
  |f+1,n,acc=>if acc.length<20 then slGo ws lk its f (n+1) (if slB ws lk its (n:Int)=true then acc++[(n:Int)]else acc)else acc
def slackP(ws:List Int)(its:List It)(q:Int):List Int:=slGo ws (missP its q) its 60 1 []
theorem qDm{P:Program}{ops:Array Oper}{o:Oper}{a:Act}{S:World→Prop}(hw:Region.wanted o (yielded ops a.tmps)=true)(ty:TypeId)(x:Operand)(ho:o.op=.load ty x)(g off:Nat)(hx:a.eval x=.pointer (some ⟨g,off,none⟩))(cs:List Value)(hS: ∀w,S w→w.rangeAt g off cs)
    (d:TypeDesc) (hu:P.underlying ty=some d) (hd:d.isRow=true) (hi:(P.info? ty).map (·.size)=some cs.length):YieldsIf P ops S o (.agg cs.toArray) a:=
  yieldsIf_load_mid hw ty x ho g off hx cs d hS hu hd hi
theorem qBp{w w':World}{g off:Nat}{cs:List Value}(h:w.rangeAt g off cs)(hg:g<w.heap.size)(b:Below w.heap.size w w'):w'.rangeAt g off cs:=fun j v hv=>(b.cell (p:=⟨g,off+j,none⟩) hg).trans (h j v hv)
theorem SlI.len{w:World}{B:Nat}{s:Sv}{ts:List It}(h:SlI w B s.v ts):s.n=ts.length:=by obtain⟨a,c,h1⟩:=Sl.form h;simp only[Sv.v,Value.slice.injEq]at h1;exact h1.2.1
theorem Pl.OwnI.slen{w:World}{B:Nat}{s:Sv}{ts:List Int}(h:OwnI w B s.v ts):s.n=ts.length:=by obtain⟨a,c,h1⟩:=h.form;simp only[Sv.v,Value.slice.injEq]at h1;exact h1.2.1
theorem Pl.OwnS.slen{w:World}{B:Nat}{s:Sv}{ts:List ByteArray}(h:OwnS w B s.v ts):s.n=ts.length:=by obtain⟨a,c,h1⟩:=h.form;simp only[Sv.v,Value.slice.injEq]at h1;exact h1.2.1
theorem SlI.at{w:World}{B:Nat}{s:Sv}{ts:List It}(h:SlI w B s.v ts){k:Nat}(hk:k<ts.length): ∃g off,s.a=some ⟨g,off,none⟩∧B≤g∧g<w.heap.size∧w.rangeAt g (off+k * 4) [.int .i64 ts[k].1,.int .i64 ts[k].2.1,.int .i64 ts[k].2.2.1,.string ts[k].2.2.2]:=by
  obtain⟨ao,cap,h1,h2⟩:=h.rit
  have hh:=h
  obtain⟨g,off,e,hlt,c0,c1,c2,c3⟩:=h2 k hk
  simp only[Sv.v,Value.slice.injEq]at h1
  refine⟨g,off,by rw[h1.1,e],?_,hlt,?_⟩
  · exact(h.lt g (by simp[Sv.v,Value.ownBlock,h1.1,e])).1
  · intro j v hv
    match j,hv with
    |0,hv=>simp at hv;subst hv;simpa using c0
    |1,hv=>simp at hv;subst hv;simpa using c1
    |2,hv=>simp at hv;subst hv;simpa using c2
    |3,hv=>simp at hv;subst hv;simpa using c3
/-- rows that are read. -/
def RwA(w:World)(a:Option Addr)(size:Nat)(rows:List (List Value)):Prop:=
  ∀i (h:i<rows.length),∃g off,a=some ⟨g,off,none⟩∧g<w.heap.size∧rows[i].length=size∧w.rangeAt g (off+i * size) rows[i]
section
variable {w w' : World} {a : Option Addr} {size T B : Nat} {rows : List (List Value)}
theorem RwA.stays(h:RwA w a size rows)(b:Below w.heap.size w w'):RwA w' a size rows:=fun i hi=>by
  obtain⟨g,off,h1,h2,h3,h4⟩:=h i hi
  exact⟨g,off,h1,Nat.lt_of_lt_of_le h2 b.size,h3,qBp h4 h2 b⟩
theorem RwA.nil(w:World)(a:Option Addr)(size:Nat):RwA w a size []:=fun i hi=>absurd hi (Nat.not_lt_zero _)
theorem SlN.rwa{s:Sv}(h:SlN w T size B s.v rows):RwA w s.a size rows:=fun i hi=>by
  obtain⟨g,off,cap,h1,h2,h3,h4⟩:=h.read hi
  simp only[Sv.v,Value.slice.injEq]at h1
  exact⟨g,off,h1.1,h3,h.lens _ (List.getElem_mem hi),h4⟩
theorem SlN.slen{s:Sv}(h:SlN w T size B s.v rows):s.n=rows.length:=by
  obtain⟨s',e,hn⟩:=h.form
  simp only[Sv.v,Value.slice.injEq]at e
  omega
end
theorem made_flat(zr:List Value)(h0:0<zr.length)(n:Nat):(madeCells zr.toArray (n * zr.length)).toList=(List.replicate n zr).flatten:=by
  apply List.ext_getElem?
  intro j
  have hl:((List.replicate n zr).flatten).length=n * zr.length:=by simp
  by_cases hj:j<n * zr.length
  · have hm : j % zr.length < zr.length := Nat.mod_lt _ h0
    have hd:j / zr.length<n:=Nat.div_lt_of_lt_mul (by rw[Nat.mul_comm];exact hj)
    have e:j=(j / zr.length) * zr.length+j % zr.length:=by rw[Nat.mul_comm];exact(Nat.div_add_mod j zr.length).symm
    have h1:(madeCells zr.toArray (n * zr.length)).toList[j]? =some (zr[j % zr.length]'hm):=by simp[madeCells,hj,hm]
    rw[h1]
    have h2: ∀(m i r:Nat) (hr:r<zr.length),i<m→((List.replicate m zr).flatten)[i * zr.length+r]? =zr[r]? :=by
      intro m
      induction m with
      |zero=>intro i r hr hi;omega
      | succ m ih =>
        intro i r hr hi
        rw[List.replicate_succ,List.flatten_cons]
        cases i with
        |zero=>rw[List.getElem?_append_left (by simpa using hr)];simp
        | succ i =>
          rw[List.getElem?_append_right (by rw[Nat.succ_mul];omega),show(i+1) * zr.length+r - zr.length=i * zr.length+r by rw[Nat.succ_mul];omega]
          exact ih i r hr (by omega)
    have h3:=h2 n (j / zr.length) (j % zr.length) hm hd
    rw[←e]at h3
    rw[h3,List.getElem?_eq_getElem hm]
  · rw[List.getElem?_eq_none (by simp[madeCells];omega),List.getElem?_eq_none (by rw[hl];omega)]
/-- a list that was just made. -/
theorem SlN.zeros(w:World)(T:TypeId)(zr:List Value)(h0:0<zr.length)(h1:zr.all (·.oneCell')=true)(n B:Nat)(hB:B≤w.heap.size)(hn:n≤1048576):SlN (w.alloc (.cells (madeCells zr.toArray (n * zr.length)) T)) T zr.length B (.slice (some ⟨w.heap.size,0,none⟩) n n) (List.replicate n zr):=by
  refine⟨?_,fun r hr=>?_⟩
  · rw [List.length_replicate]
    refine⟨by simp,.inr ⟨w.heap.size,0,n,_,rfl,hB,heap_alloc_new w _,Nat.le_refl _,by unfold maxLen;omega,by rw[size_madeCells];omega,fun j hj=>?_⟩⟩
    rw[←made_flat zr h0 n,Nat.zero_add,Array.getElem?_toList]
  · rw [(List.mem_replicate.1 hr).2]
    exact⟨rfl,List.all_eq_true.1 h1⟩
theorem set_snoc{α:Type}(xs:List α)(z x:α)(n:Nat):(xs++List.replicate (n+1) z).set xs.length x=(xs++[x])++List.replicate n z:=by
  rw[List.set_append_right _ _ (Nat.le_refl _),Nat.sub_self,List.replicate_succ,List.set_cons_zero,List.append_assoc]
  rfl
/-- an event, and where its lists lie. -/
structure Ev where
  k:Int
  rid:Int
  ms:List Int
  q:Int
  f:Int
  l:Int
  t:ByteArray
  wi:List Int
  sm:Sv
  sw:Sv
def Ev.row(e:Ev):List Value:=[.int .i64 e.k,.int .i64 e.rid,.slice e.sm.a e.sm.n e.sm.c,.int .i64 e.q,.int .i64 e.f,.int .i64 e.l,.string e.t,.slice e.sw.a e.sw.n e.sw.c]
/-- what an event says. -/
def Ev.pl(e:Ev):Int × Int × List Int × It × List Int:=(e.k,e.rid,e.ms,(e.q,e.f,e.l,e.t),e.wi)
/-- its lists are read. -/
def Ev.R(w:World)(e:Ev):Prop:=RI w e.sm.v e.ms∧RI w e.sw.v e.wi
theorem Ev.R.stays{w w':World}{e:Ev}(h:e.R w)(b:Below w.heap.size w w'):e.R w':=⟨h.1.stays b,h.2.stays b⟩
def Ev.S(e:Ev):Prop:=e.ms.length≤1048576∧e.wi.length≤1048576∧e.t.size≤1048576
def Ev.L(e:Ev):Prop:=e.ms.length≤9223372036854775807∧e.wi.length≤9223372036854775807∧e.t.size≤9223372036854775807
def Ev.sz(e:Ev):Nat:=e.ms.length+e.t.size+e.wi.length
/-- its lists are of a call's own. -/
def Ev.O(w:World)(B:Nat)(e:Ev):Prop:=OwnI w B e.sm.v e.ms∧OwnI w B e.sw.v e.wi
theorem Ev.O.r{w:World}{B:Nat}{e:Ev}(h:e.O w B):e.R w:=⟨h.1.ri,h.2.ri⟩
theorem szItem_left(q f l:Int)(t:ByteArray)(L:Nat)(w:World)(hL:L≤1048576)(hn:t.size≤9223372036854775807):
    Calls Tryz.prog 102 #[.agg #[.int .i64 q,.int .i64 f,.int .i64 l,.string t],.int .i64 L] w fun e w'=>Left L t.size e∧Below w.heap.size w w':=by
  by_cases h:L<t.size
  · exact(qEw q f l t L w h hn hL).mono fun e w' ⟨a,b⟩=>⟨.inl a,b⟩
  · exact(qFy q f l t L w (by omega) hL).mono fun e w' ⟨a,b⟩=>⟨.inr ⟨L - t.size,a,by omega⟩,b⟩
theorem szEvent_any(e:Ev)(L:Nat)(w:World)(h:Hid (e.R w))(hl:Hid e.L)(hL:L≤1048576):
    Calls Tryz.prog 59 #[.agg #[.int .i64 e.k,.int .i64 e.rid,.slice e.sm.a e.sm.n e.sm.c,.int .i64 e.q,.int .i64 e.f,.int .i64 e.l,.string e.t,.slice e.sw.a e.sw.n e.sw.c],.int .i64 L] w fun x w'=>Left L e.sz x∧Below w.heap.size w w':=by
  have LA:Hid (Bx (w.alloc (.cells #[.int .i64 e.k,.int .i64 e.rid,.slice e.sm.a e.sm.n e.sm.c,.int .i64 e.q,.int .i64 e.f,.int .i64 e.l,.string e.t,.slice e.sw.a e.sw.n e.sw.c] 98)) w.heap.size 98 [.int .i64 e.k,.int .i64 e.rid,.slice e.sm.a e.sm.n e.sm.c,.int .i64 e.q,.int .i64 e.f,.int .i64 e.l,.string e.t,.slice e.sw.a e.sw.n e.sw.c]):=by
    have h:=Bx.new w 98 [.int .i64 e.k,.int .i64 e.rid,.slice e.sm.a e.sm.n e.sm.c,.int .i64 e.q,.int .i64 e.f,.int .i64 e.l,.string e.t,.slice e.sw.a e.sw.n e.sw.c]
    exact h
  have BW:Hid (Below w.heap.size w (w.alloc (.cells #[.int .i64 e.k,.int .i64 e.rid,.slice e.sm.a e.sm.n e.sm.c,.int .i64 e.q,.int .i64 e.f,.int .i64 e.l,.string e.t,.slice e.sw.a e.sw.n e.sw.c] 98))):=((Below.refl _ _).alloc (by simp) _)
  have HS1:Hid (e.sm.n=e.ms.length):=h.out.1.len
  have HS2:Hid (e.sw.n=e.wi.length):=h.out.2.len
  have hx1:e.sm.n≤9223372036854775807:=by have:=hl.out.1;have:=HS1.out;omega
  have hx2:e.sw.n≤9223372036854775807:=by have:=hl.out.2.1;have:=HS2.out;omega
  go_enter Tryz.func59,Tryz.ntmps59
  go_wp2_with (first|(refine qAb rfl 24 _ rfl w.heap.size 1 rfl 98 _ LA.out [.int .i64 e.rid,.slice e.sm.a e.sm.n e.sm.c] rfl _ Tryz.underlying24 rfl Tryz.sizeLR ?_))
  generalize (w.alloc (.cells #[.int .i64 e.k,.int .i64 e.rid,.slice e.sm.a e.sm.n e.sm.c,.int .i64 e.q,.int .i64 e.f,.int .i64 e.l,.string e.t,.slice e.sw.a e.sw.n e.sw.c] 98))=W at *
  refine(qCz e.rid e.sm.a e.sm.n e.sm.c L _ hL hx1).mono ?_
  rintro x w1 ⟨rfl|⟨z1,rfl,hz1⟩,b⟩
  · go_wp2_with fail
    go_ret
    exact⟨.inl rfl,qAa BW.out b⟩
  have hd1:decide ((z1:Int)<0)=false:=by simp
  have LA:Hid (Bx w1 w.heap.size 98 [.int .i64 e.k,.int .i64 e.rid,.slice e.sm.a e.sm.n e.sm.c,.int .i64 e.q,.int .i64 e.f,.int .i64 e.l,.string e.t,.slice e.sw.a e.sw.n e.sw.c]):=LA.out.later b
  have BW:Hid (Below w.heap.size w w1):=qAa BW.out b
  clear b
  have HZ1:Hid (z1+e.sm.n=L):=hz1
  have hzl1:z1≤1048576:=by omega
  clear hz1
  go_wp2_with (first|(refine qAb rfl 96 _ rfl w.heap.size 3 rfl 98 _ LA.out [.int .i64 e.q,.int .i64 e.f,.int .i64 e.l,.string e.t] rfl _ Tryz.underlying96 rfl Tryz.sizeLI ?_))
  refine(szItem_left e.q e.f e.l e.t z1 _ hzl1 hl.out.2.2).mono ?_
  rintro x w2 ⟨rfl|⟨z2,rfl,hz2⟩,b⟩
  · go_wp2_with fail
    go_ret
    exact⟨.inl rfl,qAa BW.out b⟩
  have hd2:decide ((z2:Int)<0)=false:=by simp
  have LA:Hid (Bx w2 w.heap.size 98 [.int .i64 e.k,.int .i64 e.rid,.slice e.sm.a e.sm.n e.sm.c,.int .i64 e.q,.int .i64 e.f,.int .i64 e.l,.string e.t,.slice e.sw.a e.sw.n e.sw.c]):=LA.out.later b
  have BW:Hid (Below w.heap.size w w2):=qAa BW.out b
  clear b
  have HZ2:Hid (z2+e.t.size=z1):=hz2
  have hzl2:z2≤1048576:=by omega
  clear hz2
  have c7:=LA.out.cell 7
  simp only[List.getElem?_cons_succ,List.getElem?_cons_zero]at c7
  go_wp2_with fail
  refine(qEp e.sw.a e.sw.n e.sw.c z2 _ hzl2 hx2).mono ?_
  rintro x w3 ⟨rfl|⟨z3,rfl,hz3⟩,rfl⟩
  · go_wp2_with fail
    go_ret
    exact⟨.inl rfl,BW.out⟩
  have hd3:decide ((z3:Int)<0)=false:=by simp
  have HZ3:Hid (z3+e.sw.n=z2):=hz3
  clear hz3
  go_wp2_with fail
  go_ret
  exact⟨.inr ⟨z3,rfl,by have:=HZ1.out;have:=HZ2.out;have:=HZ3.out;have:=HS1.out;have:=HS2.out;unfold Ev.sz;omega⟩,BW.out⟩
theorem toEvent_any(e:Ev)(w:World)(h:Hid (e.R w))(hs:Hid e.S):
    Calls Tryz.prog 76 #[.agg #[.int .i64 e.k,.int .i64 e.rid,.slice e.sm.a e.sm.n e.sm.c,.int .i64 e.q,.int .i64 e.f,.int .i64 e.l,.string e.t,.slice e.sw.a e.sw.n e.sw.c]] w fun x w'=>∃u1 u2:Sv,x=.returned (.agg #[.int .i64 e.k,.int .i64 e.rid,.slice u1.a u1.n u1.c,.int .i64 e.q,.int .i64 e.f,.int .i64 e.l,.string e.t,.slice u2.a u2.n u2.c])∧OwnI w' w.heap.size u1.v e.ms∧OwnI w' w.heap.size u2.v e.wi∧(∀a c,u1.v.ownBlock=some a→u2.v.ownBlock=some c→a<c)∧Below w.heap.size w w':=by
  have hn1:(w.alloc (.cells #[.int .i64 e.k,.int .i64 e.rid,.slice e.sm.a e.sm.n e.sm.c,.int .i64 e.q,.int .i64 e.f,.int .i64 e.l,.string e.t,.slice e.sw.a e.sw.n e.sw.c] 98)).heap.size=w.heap.size+1:=by simp
  have hn2:((w.alloc (.cells #[.int .i64 e.k,.int .i64 e.rid,.slice e.sm.a e.sm.n e.sm.c,.int .i64 e.q,.int .i64 e.f,.int .i64 e.l,.string e.t,.slice e.sw.a e.sw.n e.sw.c] 98)).alloc (.cells #[.int .i64 0,.int .i64 0,.slice none 0 0,.int .i64 0,.int .i64 0,.int .i64 0,.string ⟨#[]⟩,.slice none 0 0] 110)).heap.size=w.heap.size+2:=by simp
  have LA:Hid (Bx (((w.alloc (.cells #[.int .i64 e.k,.int .i64 e.rid,.slice e.sm.a e.sm.n e.sm.c,.int .i64 e.q,.int .i64 e.f,.int .i64 e.l,.string e.t,.slice e.sw.a e.sw.n e.sw.c] 98)).alloc (.cells #[.int .i64 0,.int .i64 0,.slice none 0 0,.int .i64 0,.int .i64 0,.int .i64 0,.string ⟨#[]⟩,.slice none 0 0] 110)).alloc (.cells #[.int .i64 0,.int .i64 0,.slice none 0 0,.int .i64 0,.int .i64 0,.int .i64 0,.string ⟨#[]⟩,.slice none 0 0] 110)) w.heap.size 98 [.int .i64 e.k,.int .i64 e.rid,.slice e.sm.a e.sm.n e.sm.c,.int .i64 e.q,.int .i64 e.f,.int .i64 e.l,.string e.t,.slice e.sw.a e.sw.n e.sw.c]):=by
    have h:=Bx.new w 98 [.int .i64 e.k,.int .i64 e.rid,.slice e.sm.a e.sm.n e.sm.c,.int .i64 e.q,.int .i64 e.f,.int .i64 e.l,.string e.t,.slice e.sw.a e.sw.n e.sw.c]
    exact((h).later ((Below.refl _ _).alloc (Nat.le_refl _) _)).later ((Below.refl _ _).alloc (Nat.le_refl _) _)
  have EB:Hid (Bx (((w.alloc (.cells #[.int .i64 e.k,.int .i64 e.rid,.slice e.sm.a e.sm.n e.sm.c,.int .i64 e.q,.int .i64 e.f,.int .i64 e.l,.string e.t,.slice e.sw.a e.sw.n e.sw.c] 98)).alloc (.cells #[.int .i64 0,.int .i64 0,.slice none 0 0,.int .i64 0,.int .i64 0,.int .i64 0,.string ⟨#[]⟩,.slice none 0 0] 110)).alloc (.cells #[.int .i64 0,.int .i64 0,.slice none 0 0,.int .i64 0,.int .i64 0,.int .i64 0,.string ⟨#[]⟩,.slice none 0 0] 110)) (w.heap.size+1) 110 [.int .i64 0,.int .i64 0,.slice none 0 0,.int .i64 0,.int .i64 0,.int .i64 0,.string ⟨#[]⟩,.slice none 0 0]):=by
    have h:=Bx.new (w.alloc (.cells #[.int .i64 e.k,.int .i64 e.rid,.slice e.sm.a e.sm.n e.sm.c,.int .i64 e.q,.int .i64 e.f,.int .i64 e.l,.string e.t,.slice e.sw.a e.sw.n e.sw.c] 98)) 110 [.int .i64 0,.int .i64 0,.slice none 0 0,.int .i64 0,.int .i64 0,.int .i64 0,.string ⟨#[]⟩,.slice none 0 0]
    rw[hn1]at h
    exact(h).later ((Below.refl _ _).alloc (Nat.le_refl _) _)
  have VB:Hid (Bx (((w.alloc (.cells #[.int .i64 e.k,.int .i64 e.rid,.slice e.sm.a e.sm.n e.sm.c,.int .i64 e.q,.int .i64 e.f,.int .i64 e.l,.string e.t,.slice e.sw.a e.sw.n e.sw.c] 98)).alloc (.cells #[.int .i64 0,.int .i64 0,.slice none 0 0,.int .i64 0,.int .i64 0,.int .i64 0,.string ⟨#[]⟩,.slice none 0 0] 110)).alloc (.cells #[.int .i64 0,.int .i64 0,.slice none 0 0,.int .i64 0,.int .i64 0,.int .i64 0,.string ⟨#[]⟩,.slice none 0 0] 110)) (w.heap.size+2) 110 [.int .i64 0,.int .i64 0,.slice none 0 0,.int .i64 0,.int .i64 0,.int .i64 0,.string ⟨#[]⟩,.slice none 0 0]):=by
    have h:=Bx.new ((w.alloc (.cells #[.int .i64 e.k,.int .i64 e.rid,.slice e.sm.a e.sm.n e.sm.c,.int .i64 e.q,.int .i64 e.f,.int .i64 e.l,.string e.t,.slice e.sw.a e.sw.n e.sw.c] 98)).alloc (.cells #[.int .i64 0,.int .i64 0,.slice none 0 0,.int .i64 0,.int .i64 0,.int .i64 0,.string ⟨#[]⟩,.slice none 0 0] 110)) 110 [.int .i64 0,.int .i64 0,.slice none 0 0,.int .i64 0,.int .i64 0,.int .i64 0,.string ⟨#[]⟩,.slice none 0 0]
    rw[hn2]at h
    exact h
  have BW:Hid (Below w.heap.size w (((w.alloc (.cells #[.int .i64 e.k,.int .i64 e.rid,.slice e.sm.a e.sm.n e.sm.c,.int .i64 e.q,.int .i64 e.f,.int .i64 e.l,.string e.t,.slice e.sw.a e.sw.n e.sw.c] 98)).alloc (.cells #[.int .i64 0,.int .i64 0,.slice none 0 0,.int .i64 0,.int .i64 0,.int .i64 0,.string ⟨#[]⟩,.slice none 0 0] 110)).alloc (.cells #[.int .i64 0,.int .i64 0,.slice none 0 0,.int .i64 0,.int .i64 0,.int .i64 0,.string ⟨#[]⟩,.slice none 0 0] 110))):=((((Below.refl _ _).alloc (by simp) _).alloc (by simp;try omega) _).alloc (by simp;try omega) _)
  clear hn1 hn2
  have HR1:Hid (RI (((w.alloc (.cells #[.int .i64 e.k,.int .i64 e.rid,.slice e.sm.a e.sm.n e.sm.c,.int .i64 e.q,.int .i64 e.f,.int .i64 e.l,.string e.t,.slice e.sw.a e.sw.n e.sw.c] 98)).alloc (.cells #[.int .i64 0,.int .i64 0,.slice none 0 0,.int .i64 0,.int .i64 0,.int .i64 0,.string ⟨#[]⟩,.slice none 0 0] 110)).alloc (.cells #[.int .i64 0,.int .i64 0,.slice none 0 0,.int .i64 0,.int .i64 0,.int .i64 0,.string ⟨#[]⟩,.slice none 0 0] 110)) e.sm.v e.ms):=h.out.1.stays BW.out
  have HR2:Hid (RI (((w.alloc (.cells #[.int .i64 e.k,.int .i64 e.rid,.slice e.sm.a e.sm.n e.sm.c,.int .i64 e.q,.int .i64 e.f,.int .i64 e.l,.string e.t,.slice e.sw.a e.sw.n e.sw.c] 98)).alloc (.cells #[.int .i64 0,.int .i64 0,.slice none 0 0,.int .i64 0,.int .i64 0,.int .i64 0,.string ⟨#[]⟩,.slice none 0 0] 110)).alloc (.cells #[.int .i64 0,.int .i64 0,.slice none 0 0,.int .i64 0,.int .i64 0,.int .i64 0,.string ⟨#[]⟩,.slice none 0 0] 110)) e.sw.v e.wi):=h.out.2.stays BW.out
  have h0:=h
  clear h
  go_enter Tryz.func76,Tryz.ntmps76
  have c0:=LA.out.cell 0
  simp only[List.getElem?_cons_zero]at c0
  go_wp2_with (first|(with_reducible refine qAc 3 _ _ rfl ?_))
  refine Stp.go ?_
  generalize (((w.alloc (.cells #[.int .i64 e.k,.int .i64 e.rid,.slice e.sm.a e.sm.n e.sm.c,.int .i64 e.q,.int .i64 e.f,.int .i64 e.l,.string e.t,.slice e.sw.a e.sw.n e.sw.c] 98)).alloc (.cells #[.int .i64 0,.int .i64 0,.slice none 0 0,.int .i64 0,.int .i64 0,.int .i64 0,.string ⟨#[]⟩,.slice none 0 0] 110)).alloc (.cells #[.int .i64 0,.int .i64 0,.slice none 0 0,.int .i64 0,.int .i64 0,.int .i64 0,.string ⟨#[]⟩,.slice none 0 0] 110))=W at *
  have zW:w.heap.size+2<W.heap.size:=VB.out.lt
  clear c0
  refine qAg rfl 3 _ _ rfl (w.heap.size+2) 0 rfl 110 _ VB.out (.int .i64 e.k) rfl (by simp) rfl Tryz.size3 [.int .i64 e.k,.int .i64 0,.slice none 0 0,.int .i64 0,.int .i64 0,.int .i64 0,.string ⟨#[]⟩,.slice none 0 0] rfl ?_
  intro w1 OB TB
  have z_w1:W.heap.size≤w1.heap.size:=Nat.le_of_eq TB.size.symm
  have LA:Hid (Bx w1 w.heap.size 98 [.int .i64 e.k,.int .i64 e.rid,.slice e.sm.a e.sm.n e.sm.c,.int .i64 e.q,.int .i64 e.f,.int .i64 e.l,.string e.t,.slice e.sw.a e.sw.n e.sw.c]):=LA.out.turn TB (by omega)
  have EB:Hid (Bx w1 (w.heap.size+1) 110 [.int .i64 0,.int .i64 0,.slice none 0 0,.int .i64 0,.int .i64 0,.int .i64 0,.string ⟨#[]⟩,.slice none 0 0]):=EB.out.turn TB (by omega)
  have BW:Hid (Below w.heap.size w w1):=BW.out.trans (TB.below (by omega))
  have VB:Hid (Bx w1 (w.heap.size+2) 110 [.int .i64 e.k,.int .i64 0,.slice none 0 0,.int .i64 0,.int .i64 0,.int .i64 0,.string ⟨#[]⟩,.slice none 0 0]):=OB
  clear OB TB
  have HR1:Hid (RI w1 e.sm.v e.ms):=h0.out.1.stays BW.out
  have HR2:Hid (RI w1 e.sw.v e.wi):=h0.out.2.stays BW.out
  go_wp2_with (first|(refine qAb rfl 24 _ rfl w.heap.size 1 rfl 98 _ LA.out [.int .i64 e.rid,.slice e.sm.a e.sm.n e.sm.c] rfl _ Tryz.underlying24 rfl Tryz.sizeLR ?_))
  refine(qGh e.rid e.sm e.ms _ HR1 hs.out.1).mono ?_
  rintro e w2 ⟨u1,rfl,o1,b⟩
  have zo1:w.heap.size≤w1.heap.size:=BW.out.size
  have O1:Hid (OwnI w2 w.heap.size u1.v e.ms):=o1.down zo1
  have L1:Hid (∀a,u1.v.ownBlock=some a→a<w2.heap.size):=fun a ha=>(o1.lt a ha).2
  clear o1
  have z_w2:w1.heap.size≤w2.heap.size:=b.size
  have LA:Hid (Bx w2 w.heap.size 98 [.int .i64 e.k,.int .i64 e.rid,.slice e.sm.a e.sm.n e.sm.c,.int .i64 e.q,.int .i64 e.f,.int .i64 e.l,.string e.t,.slice e.sw.a e.sw.n e.sw.c]):=LA.out.later b
  have EB:Hid (Bx w2 (w.heap.size+1) 110 [.int .i64 0,.int .i64 0,.slice none 0 0,.int .i64 0,.int .i64 0,.int .i64 0,.string ⟨#[]⟩,.slice none 0 0]):=EB.out.later b
  have VB:Hid (Bx w2 (w.heap.size+2) 110 [.int .i64 e.k,.int .i64 0,.slice none 0 0,.int .i64 0,.int .i64 0,.int .i64 0,.string ⟨#[]⟩,.slice none 0 0]):=VB.out.later b
  have BW:Hid (Below w.heap.size w w2):=qAa BW.out b
  have HR1:Hid (RI w2 (e.sm.v) (e.ms)):=HR1.out.stays b
  have HR2:Hid (RI w2 (e.sw.v) (e.wi)):=HR2.out.stays b
  clear b
  go_wp2_with (first|(with_reducible refine qAc 37 _ _ rfl ?_))
  refine Stp.go ?_
  refine qAf rfl 37 _ _ rfl (w.heap.size+2) 1 rfl 110 _ VB.out [.int .i64 e.rid,.slice u1.a u1.n u1.c] rfl (by simp) Tryz.sizeR rfl [.int .i64 e.k,.int .i64 e.rid,.slice u1.a u1.n u1.c,.int .i64 0,.int .i64 0,.int .i64 0,.string ⟨#[]⟩,.slice none 0 0] rfl ?_
  intro w3 OB TB
  have z_w3:w2.heap.size≤w3.heap.size:=Nat.le_of_eq TB.size.symm
  have LA:Hid (Bx w3 w.heap.size 98 [.int .i64 e.k,.int .i64 e.rid,.slice e.sm.a e.sm.n e.sm.c,.int .i64 e.q,.int .i64 e.f,.int .i64 e.l,.string e.t,.slice e.sw.a e.sw.n e.sw.c]):=LA.out.turn TB (by omega)
  have EB:Hid (Bx w3 (w.heap.size+1) 110 [.int .i64 0,.int .i64 0,.slice none 0 0,.int .i64 0,.int .i64 0,.int .i64 0,.string ⟨#[]⟩,.slice none 0 0]):=EB.out.turn TB (by omega)
  have BW:Hid (Below w.heap.size w w3):=BW.out.trans (TB.below (by omega))
  have O1:Hid (OwnI w3 w.heap.size (u1.v) (e.ms)):=O1.out.past VB.out TB (by decide)
  have VB:Hid (Bx w3 (w.heap.size+2) 110 [.int .i64 e.k,.int .i64 e.rid,.slice u1.a u1.n u1.c,.int .i64 0,.int .i64 0,.int .i64 0,.string ⟨#[]⟩,.slice none 0 0]):=OB
  clear OB TB
  have HR2:Hid (RI w3 e.sw.v e.wi):=h0.out.2.stays BW.out
  go_wp2_with (first|(refine qAb rfl 96 _ rfl w.heap.size 3 rfl 98 _ LA.out [.int .i64 e.q,.int .i64 e.f,.int .i64 e.l,.string e.t] rfl _ Tryz.underlying96 rfl Tryz.sizeLI ?_))
  refine(qFx e.q e.f e.l e.t _).mono ?_
  rintro e w4 ⟨rfl,b⟩
  have z_w4:w3.heap.size≤w4.heap.size:=b.size
  have LA:Hid (Bx w4 w.heap.size 98 [.int .i64 e.k,.int .i64 e.rid,.slice e.sm.a e.sm.n e.sm.c,.int .i64 e.q,.int .i64 e.f,.int .i64 e.l,.string e.t,.slice e.sw.a e.sw.n e.sw.c]):=LA.out.later b
  have EB:Hid (Bx w4 (w.heap.size+1) 110 [.int .i64 0,.int .i64 0,.slice none 0 0,.int .i64 0,.int .i64 0,.int .i64 0,.string ⟨#[]⟩,.slice none 0 0]):=EB.out.later b
  have VB:Hid (Bx w4 (w.heap.size+2) 110 [.int .i64 e.k,.int .i64 e.rid,.slice u1.a u1.n u1.c,.int .i64 0,.int .i64 0,.int .i64 0,.string ⟨#[]⟩,.slice none 0 0]):=VB.out.later b
  have BW:Hid (Below w.heap.size w w4):=qAa BW.out b
  have O1:Hid (OwnI w4 w.heap.size (u1.v) (e.ms)):=O1.out.keep fun _ _ hk=>(b).block _ hk
  have HR2:Hid (RI w4 (e.sw.v) (e.wi)):=HR2.out.stays b
  clear b
  go_wp2_with (first|(with_reducible refine qAc 108 _ _ rfl ?_))
  refine Stp.go ?_
  refine qAf rfl 108 _ _ rfl (w.heap.size+2) 3 rfl 110 _ VB.out [.int .i64 e.q,.int .i64 e.f,.int .i64 e.l,.string e.t] rfl (by simp) Tryz.sizeI rfl [.int .i64 e.k,.int .i64 e.rid,.slice u1.a u1.n u1.c,.int .i64 e.q,.int .i64 e.f,.int .i64 e.l,.string e.t,.slice none 0 0] rfl ?_
  intro w5 OB TB
  have z_w5:w4.heap.size≤w5.heap.size:=Nat.le_of_eq TB.size.symm
  have LA:Hid (Bx w5 w.heap.size 98 [.int .i64 e.k,.int .i64 e.rid,.slice e.sm.a e.sm.n e.sm.c,.int .i64 e.q,.int .i64 e.f,.int .i64 e.l,.string e.t,.slice e.sw.a e.sw.n e.sw.c]):=LA.out.turn TB (by omega)
  have EB:Hid (Bx w5 (w.heap.size+1) 110 [.int .i64 0,.int .i64 0,.slice none 0 0,.int .i64 0,.int .i64 0,.int .i64 0,.string ⟨#[]⟩,.slice none 0 0]):=EB.out.turn TB (by omega)
  have BW:Hid (Below w.heap.size w w5):=BW.out.trans (TB.below (by omega))
  have O1:Hid (OwnI w5 w.heap.size (u1.v) (e.ms)):=O1.out.past VB.out TB (by decide)
  have VB:Hid (Bx w5 (w.heap.size+2) 110 [.int .i64 e.k,.int .i64 e.rid,.slice u1.a u1.n u1.c,.int .i64 e.q,.int .i64 e.f,.int .i64 e.l,.string e.t,.slice none 0 0]):=OB
  clear OB TB
  have HR2:Hid (RI w5 e.sw.v e.wi):=h0.out.2.stays BW.out
  have c7:=LA.out.cell 7
  simp only[List.getElem?_cons_succ,List.getElem?_cons_zero]at c7
  go_wp2_with fail
  clear c7
  refine(toI_r e.sw e.wi _ HR2 hs.out.2.1).mono ?_
  rintro e w6 ⟨u2,rfl,o2,b⟩
  have zo2:w.heap.size≤w5.heap.size:=BW.out.size
  have O2:Hid (OwnI w6 w.heap.size u2.v e.wi):=o2.down zo2
  have UP:Hid (∀a c,u1.v.ownBlock=some a→u2.v.ownBlock=some c→a<c):=fun a c ha hc=>by have h1:=L1.out a ha;have h2:=(o2.lt c hc).1;omega
  clear o2
  have z_w6:w5.heap.size≤w6.heap.size:=b.size
  have LA:Hid (Bx w6 w.heap.size 98 [.int .i64 e.k,.int .i64 e.rid,.slice e.sm.a e.sm.n e.sm.c,.int .i64 e.q,.int .i64 e.f,.int .i64 e.l,.string e.t,.slice e.sw.a e.sw.n e.sw.c]):=LA.out.later b
  have EB:Hid (Bx w6 (w.heap.size+1) 110 [.int .i64 0,.int .i64 0,.slice none 0 0,.int .i64 0,.int .i64 0,.int .i64 0,.string ⟨#[]⟩,.slice none 0 0]):=EB.out.later b
  have VB:Hid (Bx w6 (w.heap.size+2) 110 [.int .i64 e.k,.int .i64 e.rid,.slice u1.a u1.n u1.c,.int .i64 e.q,.int .i64 e.f,.int .i64 e.l,.string e.t,.slice none 0 0]):=VB.out.later b
  have BW:Hid (Below w.heap.size w w6):=qAa BW.out b
  have O1:Hid (OwnI w6 w.heap.size (u1.v) (e.ms)):=O1.out.keep fun _ _ hk=>(b).block _ hk
  have HR2:Hid (RI w6 (e.sw.v) (e.wi)):=HR2.out.stays b
  clear b
  go_wp2_with (first|(with_reducible refine qAc 22 _ _ rfl ?_))
  refine Stp.go ?_
  refine qAg rfl 22 _ _ rfl (w.heap.size+2) 7 rfl 110 _ VB.out (.slice u2.a u2.n u2.c) rfl (by simp) rfl Tryz.sizeNs [.int .i64 e.k,.int .i64 e.rid,.slice u1.a u1.n u1.c,.int .i64 e.q,.int .i64 e.f,.int .i64 e.l,.string e.t,.slice u2.a u2.n u2.c] rfl ?_
  intro w7 OB TB
  have z_w7:w6.heap.size≤w7.heap.size:=Nat.le_of_eq TB.size.symm
  have LA:Hid (Bx w7 w.heap.size 98 [.int .i64 e.k,.int .i64 e.rid,.slice e.sm.a e.sm.n e.sm.c,.int .i64 e.q,.int .i64 e.f,.int .i64 e.l,.string e.t,.slice e.sw.a e.sw.n e.sw.c]):=LA.out.turn TB (by omega)
  have EB:Hid (Bx w7 (w.heap.size+1) 110 [.int .i64 0,.int .i64 0,.slice none 0 0,.int .i64 0,.int .i64 0,.int .i64 0,.string ⟨#[]⟩,.slice none 0 0]):=EB.out.turn TB (by omega)
  have BW:Hid (Below w.heap.size w w7):=BW.out.trans (TB.below (by omega))
  have O1:Hid (OwnI w7 w.heap.size (u1.v) (e.ms)):=O1.out.past VB.out TB (by decide)
  have O2:Hid (OwnI w7 w.heap.size (u2.v) (e.wi)):=O2.out.past VB.out TB (by decide)
  have VB:Hid (Bx w7 (w.heap.size+2) 110 [.int .i64 e.k,.int .i64 e.rid,.slice u1.a u1.n u1.c,.int .i64 e.q,.int .i64 e.f,.int .i64 e.l,.string e.t,.slice u2.a u2.n u2.c]):=OB
  clear OB TB
  go_wp2_with (first|(refine qAb rfl 110 _ rfl (w.heap.size+2) 0 rfl 110 _ VB.out [.int .i64 e.k,.int .i64 e.rid,.slice u1.a u1.n u1.c,.int .i64 e.q,.int .i64 e.f,.int .i64 e.l,.string e.t,.slice u2.a u2.n u2.c] rfl _ Tryz.underlying110 rfl Tryz.sizeEv ?_)|(with_reducible refine qAc 110 _ _ rfl ?_))
  refine Stp.go ?_
  refine qAf rfl 110 _ _ rfl (w.heap.size+1) 0 rfl 110 _ EB.out [.int .i64 e.k,.int .i64 e.rid,.slice u1.a u1.n u1.c,.int .i64 e.q,.int .i64 e.f,.int .i64 e.l,.string e.t,.slice u2.a u2.n u2.c] rfl (by simp) Tryz.sizeEv rfl [.int .i64 e.k,.int .i64 e.rid,.slice u1.a u1.n u1.c,.int .i64 e.q,.int .i64 e.f,.int .i64 e.l,.string e.t,.slice u2.a u2.n u2.c] rfl ?_
  intro w8 OB TB
  have z_w8:w7.heap.size≤w8.heap.size:=Nat.le_of_eq TB.size.symm
  have LA:Hid (Bx w8 w.heap.size 98 [.int .i64 e.k,.int .i64 e.rid,.slice e.sm.a e.sm.n e.sm.c,.int .i64 e.q,.int .i64 e.f,.int .i64 e.l,.string e.t,.slice e.sw.a e.sw.n e.sw.c]):=LA.out.turn TB (by omega)
  have VB:Hid (Bx w8 (w.heap.size+2) 110 [.int .i64 e.k,.int .i64 e.rid,.slice u1.a u1.n u1.c,.int .i64 e.q,.int .i64 e.f,.int .i64 e.l,.string e.t,.slice u2.a u2.n u2.c]):=VB.out.turn TB (by omega)
  have BW:Hid (Below w.heap.size w w8):=BW.out.trans (TB.below (by omega))
  have O1:Hid (OwnI w8 w.heap.size (u1.v) (e.ms)):=O1.out.past EB.out TB (by decide)
  have O2:Hid (OwnI w8 w.heap.size (u2.v) (e.wi)):=O2.out.past EB.out TB (by decide)
  have EB:Hid (Bx w8 (w.heap.size+1) 110 [.int .i64 e.k,.int .i64 e.rid,.slice u1.a u1.n u1.c,.int .i64 e.q,.int .i64 e.f,.int .i64 e.l,.string e.t,.slice u2.a u2.n u2.c]):=OB
  clear OB TB
  go_wp2_with fail
  refine bodyPost_ret (qAw Tryz.results76 (w.heap.size+1) 110 [.int .i64 e.k,.int .i64 e.rid,.slice u1.a u1.n u1.c,.int .i64 e.q,.int .i64 e.f,.int .i64 e.l,.string e.t,.slice u2.a u2.n u2.c] _ rfl EB.out Tryz.underlying110 rfl Tryz.sizeEv) rfl ?_
  exact⟨u1,u2,rfl,O1.out,O2.out,UP.out,BW.out⟩
theorem eqEvent_any(e:Ev)(a1 a2 b1 b2:Sv)(w:World)(hs:Hid e.S)(h1:Hid (OwnI w 0 a1.v e.ms))(h2:Hid (OwnI w 0 a2.v e.wi))(h3:Hid (OwnI w 0 b1.v e.ms))(h4:Hid (OwnI w 0 b2.v e.wi)):
    Calls Tryz.prog 95 #[.agg #[.int .i64 e.k,.int .i64 e.rid,.slice a1.a a1.n a1.c,.int .i64 e.q,.int .i64 e.f,.int .i64 e.l,.string e.t,.slice a2.a a2.n a2.c],.agg #[.int .i64 e.k,.int .i64 e.rid,.slice b1.a b1.n b1.c,.int .i64 e.q,.int .i64 e.f,.int .i64 e.l,.string e.t,.slice b2.a b2.n b2.c]] w fun x w'=>x=.returned (.bool true)∧Below w.heap.size w w':=by
  have hn1:(w.alloc (.cells #[.int .i64 e.k,.int .i64 e.rid,.slice a1.a a1.n a1.c,.int .i64 e.q,.int .i64 e.f,.int .i64 e.l,.string e.t,.slice a2.a a2.n a2.c] 110)).heap.size=w.heap.size+1:=by simp
  have LA:Hid (Bx ((w.alloc (.cells #[.int .i64 e.k,.int .i64 e.rid,.slice a1.a a1.n a1.c,.int .i64 e.q,.int .i64 e.f,.int .i64 e.l,.string e.t,.slice a2.a a2.n a2.c] 110)).alloc (.cells #[.int .i64 e.k,.int .i64 e.rid,.slice b1.a b1.n b1.c,.int .i64 e.q,.int .i64 e.f,.int .i64 e.l,.string e.t,.slice b2.a b2.n b2.c] 110)) w.heap.size 110 [.int .i64 e.k,.int .i64 e.rid,.slice a1.a a1.n a1.c,.int .i64 e.q,.int .i64 e.f,.int .i64 e.l,.string e.t,.slice a2.a a2.n a2.c]):=by
    have h:=Bx.new w 110 [.int .i64 e.k,.int .i64 e.rid,.slice a1.a a1.n a1.c,.int .i64 e.q,.int .i64 e.f,.int .i64 e.l,.string e.t,.slice a2.a a2.n a2.c]
    exact(h).later ((Below.refl _ _).alloc (Nat.le_refl _) _)
  have LB:Hid (Bx ((w.alloc (.cells #[.int .i64 e.k,.int .i64 e.rid,.slice a1.a a1.n a1.c,.int .i64 e.q,.int .i64 e.f,.int .i64 e.l,.string e.t,.slice a2.a a2.n a2.c] 110)).alloc (.cells #[.int .i64 e.k,.int .i64 e.rid,.slice b1.a b1.n b1.c,.int .i64 e.q,.int .i64 e.f,.int .i64 e.l,.string e.t,.slice b2.a b2.n b2.c] 110)) (w.heap.size+1) 110 [.int .i64 e.k,.int .i64 e.rid,.slice b1.a b1.n b1.c,.int .i64 e.q,.int .i64 e.f,.int .i64 e.l,.string e.t,.slice b2.a b2.n b2.c]):=by
    have h:=Bx.new (w.alloc (.cells #[.int .i64 e.k,.int .i64 e.rid,.slice a1.a a1.n a1.c,.int .i64 e.q,.int .i64 e.f,.int .i64 e.l,.string e.t,.slice a2.a a2.n a2.c] 110)) 110 [.int .i64 e.k,.int .i64 e.rid,.slice b1.a b1.n b1.c,.int .i64 e.q,.int .i64 e.f,.int .i64 e.l,.string e.t,.slice b2.a b2.n b2.c]
    rw[hn1]at h
    exact h
  have BW:Hid (Below w.heap.size w ((w.alloc (.cells #[.int .i64 e.k,.int .i64 e.rid,.slice a1.a a1.n a1.c,.int .i64 e.q,.int .i64 e.f,.int .i64 e.l,.string e.t,.slice a2.a a2.n a2.c] 110)).alloc (.cells #[.int .i64 e.k,.int .i64 e.rid,.slice b1.a b1.n b1.c,.int .i64 e.q,.int .i64 e.f,.int .i64 e.l,.string e.t,.slice b2.a b2.n b2.c] 110))):=(((Below.refl _ _).alloc (by simp) _).alloc (by simp;try omega) _)
  clear hn1
  have H1:Hid (OwnI ((w.alloc (.cells #[.int .i64 e.k,.int .i64 e.rid,.slice a1.a a1.n a1.c,.int .i64 e.q,.int .i64 e.f,.int .i64 e.l,.string e.t,.slice a2.a a2.n a2.c] 110)).alloc (.cells #[.int .i64 e.k,.int .i64 e.rid,.slice b1.a b1.n b1.c,.int .i64 e.q,.int .i64 e.f,.int .i64 e.l,.string e.t,.slice b2.a b2.n b2.c] 110)) 0 a1.v e.ms):=h1.out.keep fun _ _ hk=>BW.out.block _ hk
  have H2:Hid (OwnI ((w.alloc (.cells #[.int .i64 e.k,.int .i64 e.rid,.slice a1.a a1.n a1.c,.int .i64 e.q,.int .i64 e.f,.int .i64 e.l,.string e.t,.slice a2.a a2.n a2.c] 110)).alloc (.cells #[.int .i64 e.k,.int .i64 e.rid,.slice b1.a b1.n b1.c,.int .i64 e.q,.int .i64 e.f,.int .i64 e.l,.string e.t,.slice b2.a b2.n b2.c] 110)) 0 a2.v e.wi):=h2.out.keep fun _ _ hk=>BW.out.block _ hk
  have H3:Hid (OwnI ((w.alloc (.cells #[.int .i64 e.k,.int .i64 e.rid,.slice a1.a a1.n a1.c,.int .i64 e.q,.int .i64 e.f,.int .i64 e.l,.string e.t,.slice a2.a a2.n a2.c] 110)).alloc (.cells #[.int .i64 e.k,.int .i64 e.rid,.slice b1.a b1.n b1.c,.int .i64 e.q,.int .i64 e.f,.int .i64 e.l,.string e.t,.slice b2.a b2.n b2.c] 110)) 0 b1.v e.ms):=h3.out.keep fun _ _ hk=>BW.out.block _ hk
  have H4:Hid (OwnI ((w.alloc (.cells #[.int .i64 e.k,.int .i64 e.rid,.slice a1.a a1.n a1.c,.int .i64 e.q,.int .i64 e.f,.int .i64 e.l,.string e.t,.slice a2.a a2.n a2.c] 110)).alloc (.cells #[.int .i64 e.k,.int .i64 e.rid,.slice b1.a b1.n b1.c,.int .i64 e.q,.int .i64 e.f,.int .i64 e.l,.string e.t,.slice b2.a b2.n b2.c] 110)) 0 b2.v e.wi):=h4.out.keep fun _ _ hk=>BW.out.block _ hk
  clear h1 h2 h3 h4
  have d0:(e.k !=e.k)=false:=by simp
  have a0:=LA.out.cell 0
  have b0:=LB.out.cell 0
  simp only[List.getElem?_cons_zero]at a0 b0
  go_enter Tryz.func95,Tryz.ntmps95
  go_wp2_with (first|(refine qAb rfl 37 _ rfl w.heap.size 1 rfl 110 _ LA.out [.int .i64 e.rid,.slice a1.a a1.n a1.c] rfl _ Tryz.underlying37 rfl Tryz.sizeR ?_)|(refine qAb rfl 37 _ rfl (w.heap.size+1) 1 rfl 110 _ LB.out [.int .i64 e.rid,.slice b1.a b1.n b1.c] rfl _ Tryz.underlying37 rfl Tryz.sizeR ?_))
  generalize ((w.alloc (.cells #[.int .i64 e.k,.int .i64 e.rid,.slice a1.a a1.n a1.c,.int .i64 e.q,.int .i64 e.f,.int .i64 e.l,.string e.t,.slice a2.a a2.n a2.c] 110)).alloc (.cells #[.int .i64 e.k,.int .i64 e.rid,.slice b1.a b1.n b1.c,.int .i64 e.q,.int .i64 e.f,.int .i64 e.l,.string e.t,.slice b2.a b2.n b2.c] 110))=W at *
  clear a0 b0 d0
  refine(qDb e.rid a1.v b1.v e.ms 0 0 _ H1 H3 hs.out.1).mono ?_
  rintro e w1 ⟨rfl,b⟩
  have z_w1:W.heap.size≤w1.heap.size:=b.size
  have H1:Hid (OwnI w1 0 (a1.v) (e.ms)):=H1.out.keep fun _ _ hk=>(b).block _ hk
  have H2:Hid (OwnI w1 0 (a2.v) (e.wi)):=H2.out.keep fun _ _ hk=>(b).block _ hk
  have H3:Hid (OwnI w1 0 (b1.v) (e.ms)):=H3.out.keep fun _ _ hk=>(b).block _ hk
  have H4:Hid (OwnI w1 0 (b2.v) (e.wi)):=H4.out.keep fun _ _ hk=>(b).block _ hk
  have LA:Hid (Bx w1 w.heap.size 110 [.int .i64 e.k,.int .i64 e.rid,.slice a1.a a1.n a1.c,.int .i64 e.q,.int .i64 e.f,.int .i64 e.l,.string e.t,.slice a2.a a2.n a2.c]):=LA.out.later b
  have LB:Hid (Bx w1 (w.heap.size+1) 110 [.int .i64 e.k,.int .i64 e.rid,.slice b1.a b1.n b1.c,.int .i64 e.q,.int .i64 e.f,.int .i64 e.l,.string e.t,.slice b2.a b2.n b2.c]):=LB.out.later b
  have BW:Hid (Below w.heap.size w w1):=qAa BW.out b
  clear b
  go_wp2_with (first|(refine qAb rfl 108 _ rfl w.heap.size 3 rfl 110 _ LA.out [.int .i64 e.q,.int .i64 e.f,.int .i64 e.l,.string e.t] rfl _ Tryz.underlying108 rfl Tryz.sizeI ?_)|(refine qAb rfl 108 _ rfl (w.heap.size+1) 3 rfl 110 _ LB.out [.int .i64 e.q,.int .i64 e.f,.int .i64 e.l,.string e.t] rfl _ Tryz.underlying108 rfl Tryz.sizeI ?_))
  refine(qFh e.q e.f e.l e.t _).mono ?_
  rintro e w2 ⟨rfl,b⟩
  have z_w2:w1.heap.size≤w2.heap.size:=b.size
  have H1:Hid (OwnI w2 0 (a1.v) (e.ms)):=H1.out.keep fun _ _ hk=>(b).block _ hk
  have H2:Hid (OwnI w2 0 (a2.v) (e.wi)):=H2.out.keep fun _ _ hk=>(b).block _ hk
  have H3:Hid (OwnI w2 0 (b1.v) (e.ms)):=H3.out.keep fun _ _ hk=>(b).block _ hk
  have H4:Hid (OwnI w2 0 (b2.v) (e.wi)):=H4.out.keep fun _ _ hk=>(b).block _ hk
  have LA:Hid (Bx w2 w.heap.size 110 [.int .i64 e.k,.int .i64 e.rid,.slice a1.a a1.n a1.c,.int .i64 e.q,.int .i64 e.f,.int .i64 e.l,.string e.t,.slice a2.a a2.n a2.c]):=LA.out.later b
  have LB:Hid (Bx w2 (w.heap.size+1) 110 [.int .i64 e.k,.int .i64 e.rid,.slice b1.a b1.n b1.c,.int .i64 e.q,.int .i64 e.f,.int .i64 e.l,.string e.t,.slice b2.a b2.n b2.c]):=LB.out.later b
  have BW:Hid (Below w.heap.size w w2):=qAa BW.out b
  clear b
  have a7:=LA.out.cell 7
  have b7:=LB.out.cell 7
  simp only[List.getElem?_cons_succ,List.getElem?_cons_zero]at a7 b7
  go_wp2_with fail
  clear a7 b7
  refine(qEs a2.v b2.v e.wi 0 0 _ H2.out H4.out hs.out.2.1).mono ?_
  rintro e w3 ⟨rfl,b⟩
  have z_w3:w2.heap.size≤w3.heap.size:=b.size
  have H1:Hid (OwnI w3 0 (a1.v) (e.ms)):=H1.out.keep fun _ _ hk=>(b).block _ hk
  have H2:Hid (OwnI w3 0 (a2.v) (e.wi)):=H2.out.keep fun _ _ hk=>(b).block _ hk
  have H3:Hid (OwnI w3 0 (b1.v) (e.ms)):=H3.out.keep fun _ _ hk=>(b).block _ hk
  have H4:Hid (OwnI w3 0 (b2.v) (e.wi)):=H4.out.keep fun _ _ hk=>(b).block _ hk
  have LA:Hid (Bx w3 w.heap.size 110 [.int .i64 e.k,.int .i64 e.rid,.slice a1.a a1.n a1.c,.int .i64 e.q,.int .i64 e.f,.int .i64 e.l,.string e.t,.slice a2.a a2.n a2.c]):=LA.out.later b
  have LB:Hid (Bx w3 (w.heap.size+1) 110 [.int .i64 e.k,.int .i64 e.rid,.slice b1.a b1.n b1.c,.int .i64 e.q,.int .i64 e.f,.int .i64 e.l,.string e.t,.slice b2.a b2.n b2.c]):=LB.out.later b
  have BW:Hid (Below w.heap.size w w3):=qAa BW.out b
  clear b
  go_wp2_with fail
  go_ret
  exact⟨rfl,BW.out⟩
theorem Ev.O.keep{w w':World}{B:Nat}{e:Ev}(h:e.O w B)(hk: ∀b,B≤b→b<w.heap.size→w'.heap[b]? =w.heap[b]?):e.O w' B:=⟨h.1.keep fun b hb hl=>hk b (h.1.lt b hb).1 hl,h.2.keep fun b hb hl=>hk b (h.2.lt b hb).1 hl⟩
theorem Ev.O.below{w w':World}{B:Nat}{e:Ev}(h:e.O w B)(b:Below w.heap.size w w'):e.O w' B:=h.keep fun k _ hk=>b.block k hk
theorem Ev.O.down{w:World}{B B':Nat}{e:Ev}(h:e.O w B)(hB:B'≤B):e.O w B':=⟨h.1.down hB,h.2.down hB⟩
def Ev.own(e:Ev)(x:Nat):Prop:=e.sm.v.ownBlock=some x∨e.sw.v.ownBlock=some x
theorem Ev.O.lt{w:World}{B:Nat}{e:Ev}(h:e.O w B)(x:Nat)(hx:e.own x):B≤x∧x<w.heap.size:=by
  rcases hx with hx|hx
  · exact h.1.lt x hx
  · exact h.2.lt x hx
def Ev.Up(e:Ev):Prop:=∀a c,e.sm.v.ownBlock=some a→e.sw.v.ownBlock=some c→a<c
/-- a list of them that is read. -/
def EvsR(w:World)(s:Sv)(es:List Ev):Prop:=s.n=es.length∧RwA w s.a 8 (es.map Ev.row)∧∀e∈es,e.R w
theorem EvsR.stays{w w':World}{s:Sv}{es:List Ev}(h:EvsR w s es)(b:Below w.heap.size w w'):EvsR w' s es:=⟨h.1,h.2.1.stays b,fun e he=>(h.2.2 e he).stays b⟩
/-- a list of the call's own. -/
def EvsO(w:World)(B:Nat)(s:Sv)(es:List Ev):Prop:=SlN w 110 8 B s.v (es.map Ev.row)∧∀e∈es,e.O w B
theorem EvsO.r{w:World}{B:Nat}{s:Sv}{es:List Ev}(h:EvsO w B s es):EvsR w s es:=⟨by have:=h.1.slen;simpa using this,h.1.rwa,fun e he=>(h.2 e he).r⟩
theorem EvsO.keep{w w':World}{B:Nat}{s:Sv}{es:List Ev}(h:EvsO w B s es)(hk: ∀b,B≤b→b<w.heap.size→w'.heap[b]? =w.heap[b]?):EvsO w' B s es:=⟨h.1.keep fun b hb hl=>hk b (h.1.lt b hb).1 hl,fun e he=>(h.2 e he).keep hk⟩
theorem EvsO.below{w w':World}{B:Nat}{s:Sv}{es:List Ev}(h:EvsO w B s es)(b:Below w.heap.size w w'):EvsO w' B s es:=h.keep fun k _ hk=>b.block k hk
theorem EvsO.down{w:World}{B B':Nat}{s:Sv}{es:List Ev}(h:EvsO w B s es)(hB:B'≤B):EvsO w B' s es:=⟨h.1.down hB,fun e he=>(h.2 e he).down hB⟩
theorem EvsO.nil(w:World)(B:Nat):EvsO w B zSv []:=⟨SlN.nil _ _ _ _,fun e he=>by cases he⟩
/-- each one's lists lie behind those of the ones ahead. -/
def EvsUp(es:List Ev):Prop:=(∀e∈es,e.Up)∧es.Pairwise fun a b=>∀x y,a.own x→b.own y→x<y
def Evs.tot(es:List Ev):Nat:=(es.map fun e=>e.sz).sum
theorem Evs.tot_take(es:List Ev)(k:Nat)(hk:k<es.length):Evs.tot (es.take (k+1))=Evs.tot (es.take k)+es[k].sz:=by
  unfold Evs.tot
  rw[List.take_succ_eq_append_getElem hk,List.map_append,List.sum_append]
  simp
theorem szEvents_any(s:Sv)(es:List Ev)(left:Nat)(w:World)(hx:Hid (EvsR w s es))(hleft:left≤1048576)(hl:es.length≤9223372036854775807)(hs:Hid (∀e∈es,e.L)):
    Calls Tryz.prog 23 #[.slice s.a s.n s.c,.int .i64 left] w fun x w'=>(x=.returned (.int .i64 (-1))∨ ∃z:Nat,x=.returned (.int .i64 z)∧Hid (z+(es.length+Evs.tot es)≤left))∧Below w.heap.size w w':=by
  obtain⟨a,n,c⟩:=s
  dsimp only
  have HN:Hid (n=es.length):=hx.out.1
  have hn:n≤9223372036854775807:=by have:=HN.out;omega
  clear hl
  by_cases h1:left<n
  · have hd : decide ((left : Int) - (n : Int) < 0) = true := by simp; omega
    go_enter Tryz.func23,Tryz.ntmps23
    go_wp2_with fail
    go_ret
    exact⟨.inl rfl,Below.refl _ _⟩
  have hd:decide ((left:Int) - (n:Int)<0)=false:=by simp;omega
  go_enter Tryz.func23,Tryz.ntmps23
  go_wp2_with fail
  clear hd
  go_loopw [1,5] (fun lf i wr=>∃(k z:Nat),k≤n∧z≤1048576∧lf=.int .i64 z∧i=.int .i64 k∧Hid (z+(es.length+Evs.tot (es.take k))≤left)∧Hid (Below w.heap.size w wr)) (fun _ i _=>n - (intOf i).toNat)
  case atStart=>exact⟨0,left - n,Nat.zero_le _,by omega,by congr 1;omega,rfl,(by have:=HN.out;simp[Evs.tot];omega:left - n+(es.length+Evs.tot (es.take 0))≤left),Below.refl _ _⟩
  case round=>
    obtain⟨k,z,hk,hz,rfl,rfl,hsm,hb⟩:=hrel
    by_cases hlt:k<n
    · have hlt2 : k < es.length := by have := HN.out; omega
      obtain⟨g,off,ha,hg,_,hr⟩:=(hx.out.stays hb.out).2.1 k (by simpa using hlt2)
      obtain⟨e,he⟩: ∃e,e=es[k]:=⟨_,rfl⟩
      have hr2:wr.rangeAt g (off+k * 8) e.row:=by rw[he];simpa using hr
      have HR:Hid (wr.rangeAt g (off+k * 8) e.row):=hr2
      have HE:Hid (e=es[k]):=he
      have RR:Hid (e.R wr):=by rw[he];exact(hx.out.stays hb.out).2.2 _ (List.getElem_mem hlt2)
      have LL:Hid e.L:=by rw[he];exact hs.out _ (List.getElem_mem hlt2)
      have ha:a=some ⟨g,off,none⟩:=ha
      subst ha
      have i0:(0:Int)≤(k:Int):=by omega
      have i1:(k:Int)<(n:Int):=by omega
      clear hr hr2 he hg
      go_wp2_with (first|(refine qAx rfl 98 _ rfl g (off+k * 8) (by rfl) e.row HR.out _ Tryz.underlying98 rfl Tryz.sizeLEv ?_))
      refine(szEvent_any e z _ RR LL (by omega)).mono ?_
      rintro x w1 ⟨rfl|⟨r,rfl,hr1⟩,hb1⟩
      · go_wp2_with fail
        go_ret
        exact⟨.inl rfl,qCy hb.out hb1⟩
      · have B1 : Hid (Below w.heap.size w w1) := qCy hb.out hb1
        have HR1:Hid (r+e.sz≤z):=(by omega:r+e.sz≤z)
        have hrz:r≤1048576:=by omega
        have hd:decide ((r:Int)<0)=false:=by simp
        have HS2:Hid (r+(es.length+Evs.tot (es.take (k+1)))≤left):=by
          have h1:=hsm.out
          have h2:=HR1.out
          have h3:=Evs.tot_take es k hlt2
          rw[←HE.out]at h3
          show _≤_
          omega
        clear hb1 hr1 HR
        go_wp2_with fail
        go_roundw
        case rel=>exact⟨k+1,r,by omega,hrz,rfl,by go_num,HS2,B1⟩
        case measure=>simp[intOf];omega
    · obtain rfl : k = n := by omega
      go_wp2_with fail
      go_ret
      exact⟨.inr ⟨z,rfl,by have:=hsm.out;rwa [HN.out,List.take_of_length_le (Nat.le_refl _)]at this⟩,hb.out⟩
theorem Tryz.infoEv:(Tryz.prog.info? 110).map (fun i=>(i.zero,i.size,i.bytes))=some (some (.agg #[.int .i64 0,.int .i64 0,.slice none 0 0,.int .i64 0,.int .i64 0,.int .i64 0,.string ⟨#[]⟩,.slice none 0 0]),8,104):=by kernel_rfl
theorem toEvents_any(s:Sv)(es:List Ev)(w:World)(hx:Hid (EvsR w s es))(hl:es.length≤1048576)(hs:Hid (∀e∈es,e.S)):
    Calls Tryz.prog 35 #[.slice s.a s.n s.c] w fun x w'=>∃(u:Sv) (cs:List Ev),x=.returned (.slice u.a u.n u.c)∧cs.map Ev.pl=es.map Ev.pl∧EvsO w' w.heap.size u cs∧EvsUp cs∧(∀b,u.v.ownBlock=some b→b=w.heap.size∧∀e∈cs,∀x,e.own x→b<x)∧Below w.heap.size w w':=by
  obtain⟨a,n,c⟩:=s
  dsimp only
  have HN:Hid (n=es.length):=hx.out.1
  have hn:n≤1048576:=by have:=HN.out;omega
  clear hl
  obtain⟨i0,hi,hz0,hz1,hz2⟩:=info_parts Tryz.infoEv
  obtain⟨A,hA⟩: ∃A:Array Value,A=madeCells (Value.agg #[.int .i64 0,.int .i64 0,.slice none 0 0,.int .i64 0,.int .i64 0,.int .i64 0,.string ⟨#[]⟩,.slice none 0 0]).cells (n * 8):=⟨_,rfl⟩
  have hmk: ∀W:World,(Instr.makeSlice 43 (.int .i64 (n:Int)) (.int .i64 (n:Int))).run Tryz.prog W=.ok (.slice (some ⟨W.heap.size,0,none⟩) n n) (W.alloc (.cells A 110)):=fun W=>by
    have h:=run_make (P:=Tryz.prog) W 43 110 i0 _ Tryz.underlying43 hi hz0 .i64 .i64 (n:Int) (n:Int) (by omega) (by omega) (by rw[hz2];omega) (by omega)
    rw[hz1,Int.toNat_natCast,←hA]at h
    simpa using h
  have H0:Hid (SlN (w.alloc (.cells A 110)) 110 8 w.heap.size (.slice (some ⟨w.heap.size,0,none⟩) n n) (List.replicate n [.int .i64 0,.int .i64 0,.slice none 0 0,.int .i64 0,.int .i64 0,.int .i64 0,.string ⟨#[]⟩,.slice none 0 0])):=by rw[hA];exact SlN.zeros w 110 [.int .i64 0,.int .i64 0,.slice none 0 0,.int .i64 0,.int .i64 0,.int .i64 0,.string ⟨#[]⟩,.slice none 0 0] (by simp) rfl n w.heap.size (Nat.le_refl _) hn
  clear hA
  have HB0:Hid (Below w.heap.size w (w.alloc (.cells A 110))):=(Below.refl _ _).alloc (Nat.le_refl _) _
  have HZ0:Hid (w.heap.size<(w.alloc (.cells A 110)).heap.size):=(by simp:_<_)
  go_enter Tryz.func35,Tryz.ntmps35
  go_wp2_with fail
  generalize w.alloc (.cells A 110)=W at *
  clear hmk hi hz0 hz1 hz2
  go_loopw [4] (fun i wr=>∃(k:Nat) (cs:List Ev),k≤n∧i=.int .i64 k∧Hid (cs.length=k)∧Hid (cs.map Ev.pl=(es.take k).map Ev.pl)∧Hid (SlN wr 110 8 w.heap.size (.slice (some ⟨w.heap.size,0,none⟩) n n) (cs.map Ev.row++List.replicate (n - k) ([.int .i64 0,.int .i64 0,.slice none 0 0,.int .i64 0,.int .i64 0,.int .i64 0,.string ⟨#[]⟩,.slice none 0 0]:List Value)))∧Hid (∀c∈cs,c.O wr (w.heap.size+1))∧Hid (EvsUp cs)∧Hid (w.heap.size<wr.heap.size)∧Hid (Below w.heap.size w wr)) (fun i _=>n - (intOf i).toNat)
  case atStart=>exact⟨0,[],Nat.zero_le _,rfl,rfl,rfl,(by have h:=H0.out;simpa using h:SlN _ _ _ _ _ _),(fun c hc=>(by cases hc): ∀c∈([]:List Ev),_),⟨fun e he=>(by cases he),List.Pairwise.nil⟩,HZ0,HB0⟩
  case round=>
    obtain⟨k,cs,hk,rfl,hcl,hpl,hrow,hown,hup,hzl,hb⟩:=hrel
    clear H0 HB0 HZ0
    by_cases hlt:k<n
    · have hlt2 : k < es.length := by have := HN.out; omega
      obtain⟨g,off,ha,hg,_,hr⟩:=(hx.out.stays hb.out).2.1 k (by simpa using hlt2)
      obtain⟨e,he⟩: ∃e,e=es[k]:=⟨_,rfl⟩
      have hr2:wr.rangeAt g (off+k * 8) e.row:=by rw[he];simpa using hr
      have HR:Hid (wr.rangeAt g (off+k * 8) e.row):=hr2
      have HE:Hid (e=es[k]):=he
      have RR:Hid (e.R wr):=by rw[he];exact(hx.out.stays hb.out).2.2 _ (List.getElem_mem hlt2)
      have SS:Hid e.S:=by rw[he];exact hs.out _ (List.getElem_mem hlt2)
      have ha:a=some ⟨g,off,none⟩:=ha
      subst ha
      have i0:(0:Int)≤(k:Int):=by omega
      have i1:(k:Int)<(n:Int):=by omega
      clear hr hr2 he hg
      go_wp2_with (first|(refine qAx rfl 98 _ rfl g (off+k * 8) (by rfl) e.row HR.out _ Tryz.underlying98 rfl Tryz.sizeLEv ?_))
      refine(toEvent_any e _ RR SS).mono ?_
      rintro x w1 ⟨u1,u2,rfl,o1,o2,up,b1⟩
      obtain⟨c1,hc⟩: ∃c:Ev,c={e with sm:=u1,sw:=u2}:=⟨_,rfl⟩
      have CO:Hid (c1.O w1 wr.heap.size):=by rw[hc];exact⟨o1,o2⟩
      have CU:Hid c1.Up:=by rw[hc];exact up
      have CP:Hid (c1.pl=e.pl):=by rw[hc];exact rfl
      have CR:Hid (([.int .i64 e.k,.int .i64 e.rid,.slice u1.a u1.n u1.c,.int .i64 e.q,.int .i64 e.f,.int .i64 e.l,.string e.t,.slice u2.a u2.n u2.c]:List Value)=c1.row):=by rw[hc];rfl
      have B1:Hid (Below w.heap.size w w1):=qCy hb.out b1
      have R1:Hid (SlN w1 110 8 w.heap.size (.slice (some ⟨w.heap.size,0,none⟩) n n) (cs.map Ev.row++List.replicate (n - k) ([.int .i64 0,.int .i64 0,.slice none 0 0,.int .i64 0,.int .i64 0,.int .i64 0,.string ⟨#[]⟩,.slice none 0 0]:List Value))):=hrow.out.below b1
      have O1:Hid (∀c∈cs,c.O w1 (w.heap.size+1)):=fun c hc=>(hown.out c hc).below b1
      have LT:Hid (∀c∈cs,∀x,c.own x→x<wr.heap.size):=fun c hc x hx=>((hown.out c hc).lt x hx).2
      have ZL:Hid (w.heap.size+1≤wr.heap.size):=hzl.out
      have ZL1:Hid (w.heap.size<w1.heap.size):=Nat.lt_of_lt_of_le hzl.out b1.size
      clear HR b1 hrow hown hb hc hzl
      go_wp2_with (first|(with_reducible refine qAc 110 _ _ rfl ?_))
      refine Stp.go ?_
      have HL:n=(cs.map Ev.row++List.replicate (n - k) ([.int .i64 0,.int .i64 0,.slice none 0 0,.int .i64 0,.int .i64 0,.int .i64 0,.string ⟨#[]⟩,.slice none 0 0]:List Value)).length:=by have:=hcl.out;simp;omega
      have R2:SlN w1 110 8 w.heap.size (.slice (some ⟨w.heap.size,0,none⟩) (cs.map Ev.row++List.replicate (n - k) ([.int .i64 0,.int .i64 0,.slice none 0 0,.int .i64 0,.int .i64 0,.int .i64 0,.string ⟨#[]⟩,.slice none 0 0]:List Value)).length n) (cs.map Ev.row++List.replicate (n - k) ([.int .i64 0,.int .i64 0,.slice none 0 0,.int .i64 0,.int .i64 0,.int .i64 0,.string ⟨#[]⟩,.slice none 0 0]:List Value)):=by rw[←HL];exact R1.out
      refine qFu (i:=k) rfl 110 _ _ rfl R2 (by rw[←HL];exact hlt) (by rw[Nat.zero_add];rfl) ([.int .i64 e.k,.int .i64 e.rid,.slice u1.a u1.n u1.c,.int .i64 e.q,.int .i64 e.f,.int .i64 e.l,.string e.t,.slice u2.a u2.n u2.c]) rfl rfl rfl Tryz.sizeEv ?_
      intro w2 R3 T3
      rw[←HL,CR.out]at R3
      have e3:(cs.map Ev.row++List.replicate (n - k) ([.int .i64 0,.int .i64 0,.slice none 0 0,.int .i64 0,.int .i64 0,.int .i64 0,.string ⟨#[]⟩,.slice none 0 0]:List Value)).set k c1.row=(cs++[c1]).map Ev.row++List.replicate (n - (k+1)) ([.int .i64 0,.int .i64 0,.slice none 0 0,.int .i64 0,.int .i64 0,.int .i64 0,.string ⟨#[]⟩,.slice none 0 0]:List Value):=by
        have h:=set_snoc (cs.map Ev.row) [.int .i64 0,.int .i64 0,.slice none 0 0,.int .i64 0,.int .i64 0,.int .i64 0,.string ⟨#[]⟩,.slice none 0 0] c1.row (n - (k+1))
        rw[show n - (k+1)+1=n - k by omega,List.length_map,hcl.out]at h
        rw[h,List.map_append]
        rfl
      rw[e3]at R3
      have R4:Hid (SlN w2 110 8 w.heap.size (.slice (some ⟨w.heap.size,0,none⟩) n n) ((cs++[c1]).map Ev.row++List.replicate (n - (k+1)) ([.int .i64 0,.int .i64 0,.slice none 0 0,.int .i64 0,.int .i64 0,.int .i64 0,.string ⟨#[]⟩,.slice none 0 0]:List Value))):=R3
      have T4:Hid (TurnAt w.heap.size w1 w2):=T3
      clear R1 R2 R3 T3 HL e3 CR
      go_wp2_with fail
      go_roundw
      case rel=>
        have kp: ∀c:Ev,c.O w1 (w.heap.size+1)→c.O w2 (w.heap.size+1):=fun c h=>h.keep fun b hb _=>T4.out.block b (by omega)
        refine⟨k+1,cs++[c1],by omega,by go_num,(by have:=hcl.out;simp;omega:_=_),?_,R4,fun x hx=>?_,⟨fun x hx=>?_,?_⟩,(by have h:=T4.out.size;have:=ZL1.out;omega:_<_),B1.out.trans (T4.out.below (Nat.le_refl _))⟩
        · show _ = _
          rw[List.map_append,hpl.out,List.take_succ_eq_append_getElem hlt2,List.map_append,←HE.out]
          simp[CP.out]
        · rcases List.mem_append.1 hx with h | h
          · exact kp _ (O1.out x h)
          · rw[List.mem_singleton.1 h];exact kp _ (CO.out.down ZL.out)
        · rcases List.mem_append.1 hx with h | h
          · exact hup.out.1 x h
          · rw[List.mem_singleton.1 h];exact CU.out
        · refine List.pairwise_append.2 ⟨hup.out.2, List.pairwise_singleton _ _, fun a ha b hb x y hx hy => ?_⟩
          rw[List.mem_singleton.1 hb]at hy
          have h1:=LT.out a ha x hx
          have h2:=(CO.out.lt y hy).1
          omega
      case measure=>simp[intOf];omega
    · obtain rfl : k = n := by omega
      go_wp2_with fail
      go_ret
      have hr:=hrow.out
      rw[Nat.sub_self,List.replicate_zero,List.append_nil]at hr
      refine⟨⟨some ⟨w.heap.size,0,none⟩,_,_⟩,cs,rfl,?_,⟨hr,fun e he=>(hown.out e he).down (Nat.le_succ _)⟩,hup.out,fun b hb=>?_,hb.out⟩
      · have h := hpl.out
        rwa [HN.out,List.take_of_length_le (Nat.le_refl _)]at h
      · simp [Sv.v, Value.ownBlock] at hb
        subst hb
        exact⟨rfl,fun e he x hx=>by have:=((hown.out e he).lt x hx).1;omega⟩
/-- a bundle, and where its list lies. -/
structure Bu where
  f:Int
  n:Int
  o:Int
  ts:List It
  s:Sv
def Bu.ok(b:Bu):Bool:=bunB b.f b.n b.o b.ts
/-- what a bundle says. -/
def Bu.pl(b:Bu):Int × Int × Int × List It:=(b.f,b.n,b.o,b.ts)
def Bu.row(b:Bu):List Value:=[.int .i64 b.f,.int .i64 b.n,.int .i64 b.o,.slice b.s.a b.s.n b.s.c]
def Bu.R(w:World)(b:Bu):Prop:=RSt w b.s b.ts
theorem Bu.R.stays{w w':World}{b:Bu}(h:b.R w)(hb:Below w.heap.size w w'):b.R w':=RSt.stays h hb
def Bu.S(b:Bu):Prop:=b.ts.length≤1048576
def Bu.L(b:Bu):Prop:=b.ts.length≤9223372036854775807∧∀x∈b.ts,x.2.2.2.size≤9223372036854775807
def Bu.sz(b:Bu):Nat:=b.ts.length
def Bu.O(w:World)(B:Nat)(b:Bu):Prop:=SlI w B b.s.v b.ts
theorem Bu.O.r{w:World}{B:Nat}{b:Bu}(h:b.O w B):b.R w:=SlI.rst h
theorem Bu.O.keep{w w':World}{B:Nat}{e:Bu}(h:e.O w B)(hk: ∀b,B≤b→b<w.heap.size→w'.heap[b]? =w.heap[b]?):e.O w' B:=Sl.keep h fun b hb hl=>hk b (Sl.lt h b hb).1 hl
theorem Bu.O.below{w w':World}{B:Nat}{e:Bu}(h:e.O w B)(b:Below w.heap.size w w'):e.O w' B:=h.keep fun k _ hk=>b.block k hk
theorem Bu.O.down{w:World}{B B':Nat}{e:Bu}(h:e.O w B)(hB:B'≤B):e.O w B':=Sl.down h hB
def Bu.own(e:Bu)(x:Nat):Prop:=e.s.v.ownBlock=some x
theorem Bu.O.lt{w:World}{B:Nat}{e:Bu}(h:e.O w B)(x:Nat)(hx:e.own x):B≤x∧x<w.heap.size:=Sl.lt h x hx
def Bu.Up(e:Bu):Prop:=True
theorem szBu_any(e:Bu)(L:Nat)(w:World)(h:Hid (e.R w))(hl:Hid e.L)(hL:L≤1048576):
    Calls Tryz.prog 58 #[.agg #[.int .i64 e.f,.int .i64 e.n,.int .i64 e.o,.slice e.s.a e.s.n e.s.c],.int .i64 L] w fun x w'=>(x=.returned (.int .i64 (-1))∨ ∃r:Nat,x=.returned (.int .i64 r)∧r+e.sz≤L)∧Below w.heap.size w w':=
  (szBundle_any e.f e.n e.o e.s e.ts L w h hl.out.1 hl.out.2 hL).mono fun x w' ⟨a,b⟩=>⟨a.imp id fun⟨r,h1,_,h2⟩=>⟨r,h1,h2.out.1⟩,b⟩
/-- a list of them that is read. -/
def BusR(w:World)(s:Sv)(es:List Bu):Prop:=s.n=es.length∧RwA w s.a 4 (es.map Bu.row)∧∀e∈es,e.R w
theorem BusR.stays{w w':World}{s:Sv}{es:List Bu}(h:BusR w s es)(b:Below w.heap.size w w'):BusR w' s es:=⟨h.1,h.2.1.stays b,fun e he=>(h.2.2 e he).stays b⟩
/-- a list of the call's own. -/
def BusO(w:World)(B:Nat)(s:Sv)(es:List Bu):Prop:=SlN w 70 4 B s.v (es.map Bu.row)∧∀e∈es,e.O w B
theorem BusO.r{w:World}{B:Nat}{s:Sv}{es:List Bu}(h:BusO w B s es):BusR w s es:=⟨by have:=h.1.slen;simpa using this,h.1.rwa,fun e he=>(h.2 e he).r⟩
theorem BusO.keep{w w':World}{B:Nat}{s:Sv}{es:List Bu}(h:BusO w B s es)(hk: ∀b,B≤b→b<w.heap.size→w'.heap[b]? =w.heap[b]?):BusO w' B s es:=⟨h.1.keep fun b hb hl=>hk b (h.1.lt b hb).1 hl,fun e he=>(h.2 e he).keep hk⟩
theorem BusO.below{w w':World}{B:Nat}{s:Sv}{es:List Bu}(h:BusO w B s es)(b:Below w.heap.size w w'):BusO w' B s es:=h.keep fun k _ hk=>b.block k hk
theorem BusO.down{w:World}{B B':Nat}{s:Sv}{es:List Bu}(h:BusO w B s es)(hB:B'≤B):BusO w B' s es:=⟨h.1.down hB,fun e he=>(h.2 e he).down hB⟩
theorem BusO.nil(w:World)(B:Nat):BusO w B zSv []:=⟨SlN.nil _ _ _ _,fun e he=>by cases he⟩
/-- each one's lists lie behind those of the ones ahead. -/
def BusUp(es:List Bu):Prop:=(∀e∈es,e.Up)∧es.Pairwise fun a b=>∀x y,a.own x→b.own y→x<y
def Bus.tot(es:List Bu):Nat:=(es.map fun e=>e.sz).sum
theorem Bus.tot_take(es:List Bu)(k:Nat)(hk:k<es.length):Bus.tot (es.take (k+1))=Bus.tot (es.take k)+es[k].sz:=by
  unfold Bus.tot
  rw[List.take_succ_eq_append_getElem hk,List.map_append,List.sum_append]
  simp
theorem qGj(s:Sv)(es:List Bu)(left:Nat)(w:World)(hx:Hid (BusR w s es))(hleft:left≤1048576)(hl:es.length≤9223372036854775807)(hs:Hid (∀e∈es,e.L)):
    Calls Tryz.prog 22 #[.slice s.a s.n s.c,.int .i64 left] w fun x w'=>(x=.returned (.int .i64 (-1))∨ ∃z:Nat,x=.returned (.int .i64 z)∧Hid (z+(es.length+Bus.tot es)≤left))∧Below w.heap.size w w':=by
  obtain⟨a,n,c⟩:=s
  dsimp only
  have HN:Hid (n=es.length):=hx.out.1
  have hn:n≤9223372036854775807:=by have:=HN.out;omega
  clear hl
  by_cases h1:left<n
  · have hd : decide ((left : Int) - (n : Int) < 0) = true := by simp; omega
    go_enter Tryz.func22,Tryz.ntmps22
    go_wp2_with fail
    go_ret
    exact⟨.inl rfl,Below.refl _ _⟩
  have hd:decide ((left:Int) - (n:Int)<0)=false:=by simp;omega
  go_enter Tryz.func22,Tryz.ntmps22
  go_wp2_with fail
  clear hd
  go_loopw [1,5] (fun lf i wr=>∃(k z:Nat),k≤n∧z≤1048576∧lf=.int .i64 z∧i=.int .i64 k∧Hid (z+(es.length+Bus.tot (es.take k))≤left)∧Hid (Below w.heap.size w wr)) (fun _ i _=>n - (intOf i).toNat)
  case atStart=>exact⟨0,left - n,Nat.zero_le _,by omega,by congr 1;omega,rfl,(by have:=HN.out;simp[Bus.tot];omega:left - n+(es.length+Bus.tot (es.take 0))≤left),Below.refl _ _⟩
  case round=>
    obtain⟨k,z,hk,hz,rfl,rfl,hsm,hb⟩:=hrel
    by_cases hlt:k<n
    · have hlt2 : k < es.length := by have := HN.out; omega
      obtain⟨g,off,ha,hg,_,hr⟩:=(hx.out.stays hb.out).2.1 k (by simpa using hlt2)
      obtain⟨e,he⟩: ∃e,e=es[k]:=⟨_,rfl⟩
      have hr2:wr.rangeAt g (off+k * 4) e.row:=by rw[he];simpa using hr
      have HR:Hid (wr.rangeAt g (off+k * 4) e.row):=hr2
      have HE:Hid (e=es[k]):=he
      have RR:Hid (e.R wr):=by rw[he];exact(hx.out.stays hb.out).2.2 _ (List.getElem_mem hlt2)
      have LL:Hid e.L:=by rw[he];exact hs.out _ (List.getElem_mem hlt2)
      have ha:a=some ⟨g,off,none⟩:=ha
      subst ha
      have i0:(0:Int)≤(k:Int):=by omega
      have i1:(k:Int)<(n:Int):=by omega
      clear hr hr2 he hg
      go_wp2_with (first|(refine qAx rfl 93 _ rfl g (off+k * 4) (by rfl) e.row HR.out _ Tryz.underlying93 rfl Tryz.sizeLBu ?_))
      refine(szBu_any e z _ RR LL (by omega)).mono ?_
      rintro x w1 ⟨rfl|⟨r,rfl,hr1⟩,hb1⟩
      · go_wp2_with fail
        go_ret
        exact⟨.inl rfl,qCy hb.out hb1⟩
      · have B1 : Hid (Below w.heap.size w w1) := qCy hb.out hb1
        have HR1:Hid (r+e.sz≤z):=(by omega:r+e.sz≤z)
        have hrz:r≤1048576:=by omega
        have hd:decide ((r:Int)<0)=false:=by simp
        have HS2:Hid (r+(es.length+Bus.tot (es.take (k+1)))≤left):=by
          have h1:=hsm.out
          have h2:=HR1.out
          have h3:=Bus.tot_take es k hlt2
          rw[←HE.out]at h3
          show _≤_
          omega
        clear hb1 hr1 HR
        go_wp2_with fail
        go_roundw
        case rel=>exact⟨k+1,r,by omega,hrz,rfl,by go_num,HS2,B1⟩
        case measure=>simp[intOf];omega
    · obtain rfl : k = n := by omega
      go_wp2_with fail
      go_ret
      exact⟨.inr ⟨z,rfl,by have:=hsm.out;rwa [HN.out,List.take_of_length_le (Nat.le_refl _)]at this⟩,hb.out⟩
theorem Tryz.infoBu:(Tryz.prog.info? 70).map (fun i=>(i.zero,i.size,i.bytes))=some (some (.agg #[.int .i64 0,.int .i64 0,.int .i64 0,.slice none 0 0]),4,48):=by kernel_rfl
theorem qGi(s:Sv)(es:List Bu)(w:World)(hx:Hid (BusR w s es))(hl:es.length≤1048576)(hs:Hid (∀e∈es,e.S)):
    Calls Tryz.prog 34 #[.slice s.a s.n s.c] w fun x w'=>∃(u:Sv) (cs:List Bu),x=.returned (.slice u.a u.n u.c)∧cs.map Bu.pl=es.map Bu.pl∧BusO w' w.heap.size u cs∧BusUp cs∧(∀b,u.v.ownBlock=some b→b=w.heap.size∧∀e∈cs,∀x,e.own x→b<x)∧Below w.heap.size w w':=by
  obtain⟨a,n,c⟩:=s
  dsimp only
  have HN:Hid (n=es.length):=hx.out.1
  have hn:n≤1048576:=by have:=HN.out;omega
  clear hl
  obtain⟨i0,hi,hz0,hz1,hz2⟩:=info_parts Tryz.infoBu
  obtain⟨A,hA⟩: ∃A:Array Value,A=madeCells (Value.agg #[.int .i64 0,.int .i64 0,.int .i64 0,.slice none 0 0]).cells (n * 4):=⟨_,rfl⟩
  have hmk: ∀W:World,(Instr.makeSlice 42 (.int .i64 (n:Int)) (.int .i64 (n:Int))).run Tryz.prog W=.ok (.slice (some ⟨W.heap.size,0,none⟩) n n) (W.alloc (.cells A 70)):=fun W=>by
    have h:=run_make (P:=Tryz.prog) W 42 70 i0 _ Tryz.underlying42 hi hz0 .i64 .i64 (n:Int) (n:Int) (by omega) (by omega) (by rw[hz2];omega) (by omega)
    rw[hz1,Int.toNat_natCast,←hA]at h
    simpa using h
  have H0:Hid (SlN (w.alloc (.cells A 70)) 70 4 w.heap.size (.slice (some ⟨w.heap.size,0,none⟩) n n) (List.replicate n [.int .i64 0,.int .i64 0,.int .i64 0,.slice none 0 0])):=by rw[hA];exact SlN.zeros w 70 [.int .i64 0,.int .i64 0,.int .i64 0,.slice none 0 0] (by simp) rfl n w.heap.size (Nat.le_refl _) hn
  clear hA
  have HB0:Hid (Below w.heap.size w (w.alloc (.cells A 70))):=(Below.refl _ _).alloc (Nat.le_refl _) _
  have HZ0:Hid (w.heap.size<(w.alloc (.cells A 70)).heap.size):=(by simp:_<_)
  go_enter Tryz.func34,Tryz.ntmps34
  go_wp2_with fail
  generalize w.alloc (.cells A 70)=W at *
  clear hmk hi hz0 hz1 hz2
  go_loopw [4] (fun i wr=>∃(k:Nat) (cs:List Bu),k≤n∧i=.int .i64 k∧Hid (cs.length=k)∧Hid (cs.map Bu.pl=(es.take k).map Bu.pl)∧Hid (SlN wr 70 4 w.heap.size (.slice (some ⟨w.heap.size,0,none⟩) n n) (cs.map Bu.row++List.replicate (n - k) ([.int .i64 0,.int .i64 0,.int .i64 0,.slice none 0 0]:List Value)))∧Hid (∀c∈cs,c.O wr (w.heap.size+1))∧Hid (BusUp cs)∧Hid (w.heap.size<wr.heap.size)∧Hid (Below w.heap.size w wr)) (fun i _=>n - (intOf i).toNat)
  case atStart=>exact⟨0,[],Nat.zero_le _,rfl,rfl,rfl,(by have h:=H0.out;simpa using h:SlN _ _ _ _ _ _),(fun c hc=>(by cases hc): ∀c∈([]:List Bu),_),⟨fun e he=>(by cases he),List.Pairwise.nil⟩,HZ0,HB0⟩
  case round=>
    obtain⟨k,cs,hk,rfl,hcl,hpl,hrow,hown,hup,hzl,hb⟩:=hrel
    clear H0 HB0 HZ0
    by_cases hlt:k<n
    · have hlt2 : k < es.length := by have := HN.out; omega
      obtain⟨g,off,ha,hg,_,hr⟩:=(hx.out.stays hb.out).2.1 k (by simpa using hlt2)
      obtain⟨e,he⟩: ∃e,e=es[k]:=⟨_,rfl⟩
      have hr2:wr.rangeAt g (off+k * 4) e.row:=by rw[he];simpa using hr
      have HR:Hid (wr.rangeAt g (off+k * 4) e.row):=hr2
      have HE:Hid (e=es[k]):=he
      have RR:Hid (e.R wr):=by rw[he];exact(hx.out.stays hb.out).2.2 _ (List.getElem_mem hlt2)
      have SS:Hid e.S:=by rw[he];exact hs.out _ (List.getElem_mem hlt2)
      have ha:a=some ⟨g,off,none⟩:=ha
      subst ha
      have i0:(0:Int)≤(k:Int):=by omega
      have i1:(k:Int)<(n:Int):=by omega
      clear hr hr2 he hg
      go_wp2_with (first|(refine qAx rfl 93 _ rfl g (off+k * 4) (by rfl) e.row HR.out _ Tryz.underlying93 rfl Tryz.sizeLBu ?_))
      refine(toBundle_any e.f e.n e.o e.s e.ts _ RR SS.out).mono ?_
      rintro x w1 ⟨u1,rfl,o1,b1⟩
      obtain⟨c1,hc⟩: ∃c:Bu,c={e with s:=u1}:=⟨_,rfl⟩
      have CO:Hid (c1.O w1 wr.heap.size):=by rw[hc];exact o1
      have CU:Hid c1.Up:=by rw[hc];exact trivial
      have CP:Hid (c1.pl=e.pl):=by rw[hc];exact rfl
      have CR:Hid (([.int .i64 e.f,.int .i64 e.n,.int .i64 e.o,.slice u1.a u1.n u1.c]:List Value)=c1.row):=by rw[hc];rfl
      have B1:Hid (Below w.heap.size w w1):=qCy hb.out b1
      have R1:Hid (SlN w1 70 4 w.heap.size (.slice (some ⟨w.heap.size,0,none⟩) n n) (cs.map Bu.row++List.replicate (n - k) ([.int .i64 0,.int .i64 0,.int .i64 0,.slice none 0 0]:List Value))):=hrow.out.below b1
      have O1:Hid (∀c∈cs,c.O w1 (w.heap.size+1)):=fun c hc=>(hown.out c hc).below b1
      have LT:Hid (∀c∈cs,∀x,c.own x→x<wr.heap.size):=fun c hc x hx=>((hown.out c hc).lt x hx).2
      have ZL:Hid (w.heap.size+1≤wr.heap.size):=hzl.out
      have ZL1:Hid (w.heap.size<w1.heap.size):=Nat.lt_of_lt_of_le hzl.out b1.size
      clear HR b1 hrow hown hb hc hzl
      go_wp2_with (first|(with_reducible refine qAc 70 _ _ rfl ?_))
      refine Stp.go ?_
      have HL:n=(cs.map Bu.row++List.replicate (n - k) ([.int .i64 0,.int .i64 0,.int .i64 0,.slice none 0 0]:List Value)).length:=by have:=hcl.out;simp;omega
      have R2:SlN w1 70 4 w.heap.size (.slice (some ⟨w.heap.size,0,none⟩) (cs.map Bu.row++List.replicate (n - k) ([.int .i64 0,.int .i64 0,.int .i64 0,.slice none 0 0]:List Value)).length n) (cs.map Bu.row++List.replicate (n - k) ([.int .i64 0,.int .i64 0,.int .i64 0,.slice none 0 0]:List Value)):=by rw[←HL];exact R1.out
      refine qFu (i:=k) rfl 70 _ _ rfl R2 (by rw[←HL];exact hlt) (by rw[Nat.zero_add];rfl) ([.int .i64 e.f,.int .i64 e.n,.int .i64 e.o,.slice u1.a u1.n u1.c]) rfl rfl rfl Tryz.sizeBu ?_
      intro w2 R3 T3
      rw[←HL,CR.out]at R3
      have e3:(cs.map Bu.row++List.replicate (n - k) ([.int .i64 0,.int .i64 0,.int .i64 0,.slice none 0 0]:List Value)).set k c1.row=(cs++[c1]).map Bu.row++List.replicate (n - (k+1)) ([.int .i64 0,.int .i64 0,.int .i64 0,.slice none 0 0]:List Value):=by
        have h:=set_snoc (cs.map Bu.row) [.int .i64 0,.int .i64 0,.int .i64 0,.slice none 0 0] c1.row (n - (k+1))
        rw[show n - (k+1)+1=n - k by omega,List.length_map,hcl.out]at h
        rw[h,List.map_append]
        rfl
      rw[e3]at R3
      have R4:Hid (SlN w2 70 4 w.heap.size (.slice (some ⟨w.heap.size,0,none⟩) n n) ((cs++[c1]).map Bu.row++List.replicate (n - (k+1)) ([.int .i64 0,.int .i64 0,.int .i64 0,.slice none 0 0]:List Value))):=R3
      have T4:Hid (TurnAt w.heap.size w1 w2):=T3
      clear R1 R2 R3 T3 HL e3 CR
      go_wp2_with fail
      go_roundw
      case rel=>
        have kp: ∀c:Bu,c.O w1 (w.heap.size+1)→c.O w2 (w.heap.size+1):=fun c h=>h.keep fun b hb _=>T4.out.block b (by omega)
        refine⟨k+1,cs++[c1],by omega,by go_num,(by have:=hcl.out;simp;omega:_=_),?_,R4,fun x hx=>?_,⟨fun x hx=>?_,?_⟩,(by have h:=T4.out.size;have:=ZL1.out;omega:_<_),B1.out.trans (T4.out.below (Nat.le_refl _))⟩
        · show _ = _
          rw[List.map_append,hpl.out,List.take_succ_eq_append_getElem hlt2,List.map_append,←HE.out]
          simp[CP.out]
        · rcases List.mem_append.1 hx with h | h
          · exact kp _ (O1.out x h)
          · rw[List.mem_singleton.1 h];exact kp _ (CO.out.down ZL.out)
        · rcases List.mem_append.1 hx with h | h
          · exact hup.out.1 x h
          · rw[List.mem_singleton.1 h];exact CU.out
        · refine List.pairwise_append.2 ⟨hup.out.2, List.pairwise_singleton _ _, fun a ha b hb x y hx hy => ?_⟩
          rw[List.mem_singleton.1 hb]at hy
          have h1:=LT.out a ha x hx
          have h2:=(CO.out.lt y hy).1
          omega
      case measure=>simp[intOf];omega
    · obtain rfl : k = n := by omega
      go_wp2_with fail
      go_ret
      have hr:=hrow.out
      rw[Nat.sub_self,List.replicate_zero,List.append_nil]at hr
      refine⟨⟨some ⟨w.heap.size,0,none⟩,_,_⟩,cs,rfl,?_,⟨hr,fun e he=>(hown.out e he).down (Nat.le_succ _)⟩,hup.out,fun b hb=>?_,hb.out⟩
      · have h := hpl.out
        rwa [HN.out,List.take_of_length_le (Nat.le_refl _)]at h
      · simp [Sv.v, Value.ownBlock] at hb
        subst hb
        exact⟨rfl,fun e he x hx=>by have:=((hown.out e he).lt x hx).1;omega⟩
theorem eqevents_sp(ao bo:Option Addr)(len c1 c2:Nat)(r1 r2:Nat→List Value)(w:World)(h1:Hid (∀j,j<len→∃g off,ao=some ⟨g,off,none⟩∧g<w.heap.size∧(r1 j).length=8∧w.rangeAt g (off+j * 8) (r1 j)))(h2:Hid (∀j,j<len→∃g off,bo=some ⟨g,off,none⟩∧g<w.heap.size∧(r2 j).length=8∧w.rangeAt g (off+j * 8) (r2 j)))(hE:Hid (∀j,j<len→∀W,Below w.heap.size w W→Calls Tryz.prog 95 #[.agg (r1 j).toArray,.agg (r2 j).toArray] W fun e w'=>e=.returned (.bool true)∧Below W.heap.size W w'))(hl:len≤39999990):
    Calls Tryz.prog 44 #[.slice ao len c1,.slice bo len c2] w fun e w'=>e=.returned (.bool true)∧Below w.heap.size w w':=by
  go_enter Tryz.func44,Tryz.ntmps44
  go_wp2_with fail
  go_loopw [5] (fun i wr=>∃(j:Nat),j≤len∧i=.int .i64 (j:Int)∧Hid (Below w.heap.size w wr)) (fun i _=>len - (intOf i).toNat)
  case atStart=>exact⟨0,by omega,rfl,Below.refl _ _⟩
  case round=>
    obtain⟨j,hj,rfl,HB⟩:=hrel
    by_cases hlt:j<len
    · obtain ⟨g1, o1, rfl, l1, n1, x1⟩ := h1.out j hlt
      obtain⟨g2,o2,rfl,l2,n2,x2⟩:=h2.out j hlt
      have X1:Hid (w.rangeAt g1 (o1+j * 8) (r1 j)):=x1
      have X2:Hid (w.rangeAt g2 (o2+j * 8) (r2 j)):=x2
      have N1:Hid ((Tryz.prog.info? 110).map (·.size)=some (r1 j).length):=(by rw[n1];exact Tryz.sizeEv:_=_)
      have N2:Hid ((Tryz.prog.info? 110).map (·.size)=some (r2 j).length):=(by rw[n2];exact Tryz.sizeEv:_=_)
      clear x1 x2 n1 n2
      have EJ:Hid _:=hE.out j hlt
      have i0:(0:Int)≤(j:Int):=by omega
      have i1:(j:Int)<(len:Int):=by omega
      go_wp2_with fail
      have c:Below w.heap.size w wr.drew:=HB.out.drew
      refine wp_region_held_drew (S:=fun w'=>Below w.heap.size w w') (by kernel_rfl) c (fun Ah=>?_)
      refine wpAnyH_take (i:=0) (v:=?v0b1) rfl (by kernel_rfl) (by kernel_rfl) (by kernel_rfl) (fun _ _ _ h=>h) (Or.inl ⟨by rfl,?hy0b1⟩) (by assumption) ?_
      case hy0b1=>(intro w hSw;(try dsimp only at hSw);simp only[List.getElem_toArray,List.getElem_cons_zero,List.getElem_cons_succ];go_simp;try with_reducible rfl)
      try simp only[Act.put,List.getElem_toArray,List.getElem_cons_zero,List.getElem_cons_succ,List.setIfInBounds_toArray,List.set_cons_zero,List.set_cons_succ]
      refine wpAnyH_take (i:=1) (v:=?v1b2) rfl (by kernel_rfl) (by kernel_rfl) (by kernel_rfl) (fun _ _ _ h=>h) (Or.inl ⟨by rfl,?hy1b2⟩) (by assumption) ?_
      case hy1b2=>(intro w hSw;(try dsimp only at hSw);simp only[List.getElem_toArray,List.getElem_cons_zero,List.getElem_cons_succ];go_simp;try with_reducible rfl)
      try simp only[Act.put,List.getElem_toArray,List.getElem_cons_zero,List.getElem_cons_succ,List.setIfInBounds_toArray,List.set_cons_zero,List.set_cons_succ]
      refine wpAnyH_take (i:=2) (v:=?v2b3) rfl (by kernel_rfl) (by kernel_rfl) (by kernel_rfl) (fun _ _ _ h=>h) (Or.inl ⟨by rfl,?hy2b3⟩) (by assumption) ?_
      case hy2b3=>(intro w hSw;(try dsimp only at hSw);simp only[List.getElem_toArray,List.getElem_cons_zero,List.getElem_cons_succ];go_simp;try with_reducible rfl)
      try simp only[Act.put,List.getElem_toArray,List.getElem_cons_zero,List.getElem_cons_succ,List.setIfInBounds_toArray,List.set_cons_zero,List.set_cons_succ]
      refine wpAnyH_take (i:=3) (v:=_) rfl (by kernel_rfl) (by kernel_rfl) (by kernel_rfl) (fun _ _ _ h=>h) (qDm (by rfl) 110 _ rfl g1 (o1+j * 8) (by rfl) (r1 j) (fun w hS=>qBp X1.out l1 hS) _ Tryz.underlying110 rfl N1.out) (by assumption) ?_
      try simp only[Act.put,List.setIfInBounds_toArray,List.set_cons_zero,List.set_cons_succ]
      refine wpAnyH_take (i:=4) (v:=?v4b5) rfl (by kernel_rfl) (by kernel_rfl) (by kernel_rfl) (fun _ _ _ h=>h) (Or.inl ⟨by rfl,?hy4b5⟩) (by assumption) ?_
      case hy4b5=>(intro w hSw;(try dsimp only at hSw);simp only[List.getElem_toArray,List.getElem_cons_zero,List.getElem_cons_succ];go_simp;try with_reducible rfl)
      try simp only[Act.put,List.getElem_toArray,List.getElem_cons_zero,List.getElem_cons_succ,List.setIfInBounds_toArray,List.set_cons_zero,List.set_cons_succ]
      refine wpAnyH_take (i:=5) (v:=?v5b6) rfl (by kernel_rfl) (by kernel_rfl) (by kernel_rfl) (fun _ _ _ h=>h) (Or.inl ⟨by rfl,?hy5b6⟩) (by assumption) ?_
      case hy5b6=>(intro w hSw;(try dsimp only at hSw);simp only[List.getElem_toArray,List.getElem_cons_zero,List.getElem_cons_succ];go_simp;try with_reducible rfl)
      try simp only[Act.put,List.getElem_toArray,List.getElem_cons_zero,List.getElem_cons_succ,List.setIfInBounds_toArray,List.set_cons_zero,List.set_cons_succ]
      refine wpAnyH_take (i:=6) (v:=?v6b7) rfl (by kernel_rfl) (by kernel_rfl) (by kernel_rfl) (fun _ _ _ h=>h) (Or.inl ⟨by rfl,?hy6b7⟩) (by assumption) ?_
      case hy6b7=>(intro w hSw;(try dsimp only at hSw);simp only[List.getElem_toArray,List.getElem_cons_zero,List.getElem_cons_succ];go_simp;try with_reducible rfl)
      try simp only[Act.put,List.getElem_toArray,List.getElem_cons_zero,List.getElem_cons_succ,List.setIfInBounds_toArray,List.set_cons_zero,List.set_cons_succ]
      refine wpAnyH_take (i:=7) (v:=_) rfl (by kernel_rfl) (by kernel_rfl) (by kernel_rfl) (fun _ _ _ h=>h) (qDm (by rfl) 110 _ rfl g2 (o2+j * 8) (by rfl) (r2 j) (fun w hS=>qBp X2.out l2 hS) _ Tryz.underlying110 rfl N2.out) (by assumption) ?_
      try simp only[Act.put,List.setIfInBounds_toArray,List.set_cons_zero,List.set_cons_succ]
      refine wpAnyH_ready (rs:=[8]) (by kernel_rfl) (by simp) ?_
      refine AllReadyH.cons (i:=8) rfl (fun K hK=>?_) AllReadyH.nil
      rw[if_pos (by rfl)]
      simp only[List.getElem_toArray,List.getElem_cons_zero,List.getElem_cons_succ]
      go_simp
      refine(EJ.out _ c).mono ?_
      rintro e y1 ⟨rfl,d1⟩
      have c1:Below w.heap.size w y1:=qAa c d1
      refine hK.out _ _ (c1) (fun Ah=>?_)
      clear hK K
      try simp only[Act.put,List.getElem_toArray,List.getElem_cons_zero,List.getElem_cons_succ,List.setIfInBounds_toArray,List.set_cons_zero,List.set_cons_succ]
      clear d1
      refine wpAnyH_take (i:=9) (v:=?v9b9) rfl (by kernel_rfl) (by kernel_rfl) (by kernel_rfl) (fun _ _ _ h=>h) (Or.inl ⟨by rfl,?hy9b9⟩) (by assumption) ?_
      case hy9b9=>(intro w hSw;(try dsimp only at hSw);simp only[List.getElem_toArray,List.getElem_cons_zero,List.getElem_cons_succ];go_simp;try with_reducible rfl)
      try simp only[Act.put,List.getElem_toArray,List.getElem_cons_zero,List.getElem_cons_succ,List.setIfInBounds_toArray,List.set_cons_zero,List.set_cons_succ]
      refine wpAnyH_done (by kernel_rfl) ?_ _
      have HB1:Hid (Below w.heap.size w y1):=c1
      clear c c1 Ah HB EJ X1 X2
      go_wp2_with fail
      go_roundw
      case rel=>exact⟨j+1,by omega,by go_num,HB1⟩
      case measure=>simp[intOf];omega
    · obtain rfl : j = len := by omega
      go_wp2_with fail
      go_ret
      exact⟨rfl,HB.out⟩
theorem eqbundles_sp(ao bo:Option Addr)(len c1 c2:Nat)(r1 r2:Nat→List Value)(w:World)(h1:Hid (∀j,j<len→∃g off,ao=some ⟨g,off,none⟩∧g<w.heap.size∧(r1 j).length=4∧w.rangeAt g (off+j * 4) (r1 j)))(h2:Hid (∀j,j<len→∃g off,bo=some ⟨g,off,none⟩∧g<w.heap.size∧(r2 j).length=4∧w.rangeAt g (off+j * 4) (r2 j)))(hE:Hid (∀j,j<len→∀W,Below w.heap.size w W→Calls Tryz.prog 45 #[.agg (r1 j).toArray,.agg (r2 j).toArray] W fun e w'=>e=.returned (.bool true)∧Below W.heap.size W w'))(hl:len≤39999990):
    Calls Tryz.prog 12 #[.slice ao len c1,.slice bo len c2] w fun e w'=>e=.returned (.bool true)∧Below w.heap.size w w':=by
  go_enter Tryz.func12,Tryz.ntmps12
  go_wp2_with fail
  go_loopw [5] (fun i wr=>∃(j:Nat),j≤len∧i=.int .i64 (j:Int)∧Hid (Below w.heap.size w wr)) (fun i _=>len - (intOf i).toNat)
  case atStart=>exact⟨0,by omega,rfl,Below.refl _ _⟩
  case round=>
    obtain⟨j,hj,rfl,HB⟩:=hrel
    by_cases hlt:j<len
    · obtain ⟨g1, o1, rfl, l1, n1, x1⟩ := h1.out j hlt
      obtain⟨g2,o2,rfl,l2,n2,x2⟩:=h2.out j hlt
      have X1:Hid (w.rangeAt g1 (o1+j * 4) (r1 j)):=x1
      have X2:Hid (w.rangeAt g2 (o2+j * 4) (r2 j)):=x2
      have N1:Hid ((Tryz.prog.info? 70).map (·.size)=some (r1 j).length):=(by rw[n1];exact Tryz.sizeBu:_=_)
      have N2:Hid ((Tryz.prog.info? 70).map (·.size)=some (r2 j).length):=(by rw[n2];exact Tryz.sizeBu:_=_)
      clear x1 x2 n1 n2
      have EJ:Hid _:=hE.out j hlt
      have i0:(0:Int)≤(j:Int):=by omega
      have i1:(j:Int)<(len:Int):=by omega
      go_wp2_with fail
      have c:Below w.heap.size w wr.drew:=HB.out.drew
      refine wp_region_held_drew (S:=fun w'=>Below w.heap.size w w') (by kernel_rfl) c (fun Ah=>?_)
      refine wpAnyH_take (i:=0) (v:=?v0b10) rfl (by kernel_rfl) (by kernel_rfl) (by kernel_rfl) (fun _ _ _ h=>h) (Or.inl ⟨by rfl,?hy0b10⟩) (by assumption) ?_
      case hy0b10=>(intro w hSw;(try dsimp only at hSw);simp only[List.getElem_toArray,List.getElem_cons_zero,List.getElem_cons_succ];go_simp;try with_reducible rfl)
      try simp only[Act.put,List.getElem_toArray,List.getElem_cons_zero,List.getElem_cons_succ,List.setIfInBounds_toArray,List.set_cons_zero,List.set_cons_succ]
      refine wpAnyH_take (i:=1) (v:=?v1b11) rfl (by kernel_rfl) (by kernel_rfl) (by kernel_rfl) (fun _ _ _ h=>h) (Or.inl ⟨by rfl,?hy1b11⟩) (by assumption) ?_
      case hy1b11=>(intro w hSw;(try dsimp only at hSw);simp only[List.getElem_toArray,List.getElem_cons_zero,List.getElem_cons_succ];go_simp;try with_reducible rfl)
      try simp only[Act.put,List.getElem_toArray,List.getElem_cons_zero,List.getElem_cons_succ,List.setIfInBounds_toArray,List.set_cons_zero,List.set_cons_succ]
      refine wpAnyH_take (i:=2) (v:=?v2b12) rfl (by kernel_rfl) (by kernel_rfl) (by kernel_rfl) (fun _ _ _ h=>h) (Or.inl ⟨by rfl,?hy2b12⟩) (by assumption) ?_
      case hy2b12=>(intro w hSw;(try dsimp only at hSw);simp only[List.getElem_toArray,List.getElem_cons_zero,List.getElem_cons_succ];go_simp;try with_reducible rfl)
      try simp only[Act.put,List.getElem_toArray,List.getElem_cons_zero,List.getElem_cons_succ,List.setIfInBounds_toArray,List.set_cons_zero,List.set_cons_succ]
      refine wpAnyH_take (i:=3) (v:=_) rfl (by kernel_rfl) (by kernel_rfl) (by kernel_rfl) (fun _ _ _ h=>h) (qDm (by rfl) 70 _ rfl g1 (o1+j * 4) (by rfl) (r1 j) (fun w hS=>qBp X1.out l1 hS) _ Tryz.underlying70 rfl N1.out) (by assumption) ?_
      try simp only[Act.put,List.setIfInBounds_toArray,List.set_cons_zero,List.set_cons_succ]
      refine wpAnyH_take (i:=4) (v:=?v4b14) rfl (by kernel_rfl) (by kernel_rfl) (by kernel_rfl) (fun _ _ _ h=>h) (Or.inl ⟨by rfl,?hy4b14⟩) (by assumption) ?_
      case hy4b14=>(intro w hSw;(try dsimp only at hSw);simp only[List.getElem_toArray,List.getElem_cons_zero,List.getElem_cons_succ];go_simp;try with_reducible rfl)
      try simp only[Act.put,List.getElem_toArray,List.getElem_cons_zero,List.getElem_cons_succ,List.setIfInBounds_toArray,List.set_cons_zero,List.set_cons_succ]
      refine wpAnyH_take (i:=5) (v:=?v5b15) rfl (by kernel_rfl) (by kernel_rfl) (by kernel_rfl) (fun _ _ _ h=>h) (Or.inl ⟨by rfl,?hy5b15⟩) (by assumption) ?_
      case hy5b15=>(intro w hSw;(try dsimp only at hSw);simp only[List.getElem_toArray,List.getElem_cons_zero,List.getElem_cons_succ];go_simp;try with_reducible rfl)
      try simp only[Act.put,List.getElem_toArray,List.getElem_cons_zero,List.getElem_cons_succ,List.setIfInBounds_toArray,List.set_cons_zero,List.set_cons_succ]
      refine wpAnyH_take (i:=6) (v:=?v6b16) rfl (by kernel_rfl) (by kernel_rfl) (by kernel_rfl) (fun _ _ _ h=>h) (Or.inl ⟨by rfl,?hy6b16⟩) (by assumption) ?_
      case hy6b16=>(intro w hSw;(try dsimp only at hSw);simp only[List.getElem_toArray,List.getElem_cons_zero,List.getElem_cons_succ];go_simp;try with_reducible rfl)
      try simp only[Act.put,List.getElem_toArray,List.getElem_cons_zero,List.getElem_cons_succ,List.setIfInBounds_toArray,List.set_cons_zero,List.set_cons_succ]
      refine wpAnyH_take (i:=7) (v:=_) rfl (by kernel_rfl) (by kernel_rfl) (by kernel_rfl) (fun _ _ _ h=>h) (qDm (by rfl) 70 _ rfl g2 (o2+j * 4) (by rfl) (r2 j) (fun w hS=>qBp X2.out l2 hS) _ Tryz.underlying70 rfl N2.out) (by assumption) ?_
      try simp only[Act.put,List.setIfInBounds_toArray,List.set_cons_zero,List.set_cons_succ]
      refine wpAnyH_ready (rs:=[8]) (by kernel_rfl) (by simp) ?_
      refine AllReadyH.cons (i:=8) rfl (fun K hK=>?_) AllReadyH.nil
      rw[if_pos (by rfl)]
      simp only[List.getElem_toArray,List.getElem_cons_zero,List.getElem_cons_succ]
      go_simp
      refine(EJ.out _ c).mono ?_
      rintro e y1 ⟨rfl,d1⟩
      have c1:Below w.heap.size w y1:=qAa c d1
      refine hK.out _ _ (c1) (fun Ah=>?_)
      clear hK K
      try simp only[Act.put,List.getElem_toArray,List.getElem_cons_zero,List.getElem_cons_succ,List.setIfInBounds_toArray,List.set_cons_zero,List.set_cons_succ]
      clear d1
      refine wpAnyH_take (i:=9) (v:=?v9b18) rfl (by kernel_rfl) (by kernel_rfl) (by kernel_rfl) (fun _ _ _ h=>h) (Or.inl ⟨by rfl,?hy9b18⟩) (by assumption) ?_
      case hy9b18=>(intro w hSw;(try dsimp only at hSw);simp only[List.getElem_toArray,List.getElem_cons_zero,List.getElem_cons_succ];go_simp;try with_reducible rfl)
      try simp only[Act.put,List.getElem_toArray,List.getElem_cons_zero,List.getElem_cons_succ,List.setIfInBounds_toArray,List.set_cons_zero,List.set_cons_succ]
      refine wpAnyH_done (by kernel_rfl) ?_ _
      have HB1:Hid (Below w.heap.size w y1):=c1
      clear c c1 Ah HB EJ X1 X2
      go_wp2_with fail
      go_roundw
      case rel=>exact⟨j+1,by omega,by go_num,HB1⟩
      case measure=>simp[intOf];omega
    · obtain rfl : j = len := by omega
      go_wp2_with fail
      go_ret
      exact⟨rfl,HB.out⟩
theorem rowsAt{w:World}{T size B:Nat}{s:Sv}{rows:List (List Value)}(h:SlN w T size B s.v rows)(j:Nat)(hj:j<rows.length): ∃g off,s.a=some ⟨g,off,none⟩∧g<w.heap.size∧((rows[j]?).getD []).length=size∧w.rangeAt g (off+j * size) ((rows[j]?).getD []):=by
  obtain⟨g,off,c,h1,h2,h3,h4⟩:=h.read hj
  simp only[Sv.v,Value.slice.injEq]at h1
  rw[List.getElem?_eq_getElem hj]
  exact⟨g,off,h1.1,h3,h.lens _ (List.getElem_mem hj),h4⟩
theorem eqEvs_any(s1 s2:Sv)(es fs:List Ev)(B1 B2:Nat)(w:World)(h1:Hid (EvsO w B1 s1 es))(h2:Hid (EvsO w B2 s2 fs))(hpl:Hid (es.map Ev.pl=fs.map Ev.pl))(hl:es.length≤1048576)(hs:Hid (∀e∈es,e.S)):
    Calls Tryz.prog 44 #[.slice s1.a s1.n s1.c,.slice s2.a s2.n s2.c] w fun x w'=>x=.returned (.bool true)∧Below w.heap.size w w':=by
  have n1:s1.n=es.length:=by have:=h1.out.1.slen;simpa using this
  have hfl:fs.length=es.length:=by have:=congrArg List.length hpl.out;simp at this;omega
  have n2:s2.n=es.length:=by have:=h2.out.1.slen;simp at this;omega
  rw[n1,n2]
  refine eqevents_sp s1.a s2.a es.length s1.c s2.c (fun j=>((es.map Ev.row)[j]?).getD []) (fun j=>((fs.map Ev.row)[j]?).getD []) w (fun j hj=>rowsAt h1.out.1 j (by simpa using hj)) (fun j hj=>rowsAt h2.out.1 j (by simpa [hfl] using hj)) ?_ (by omega)
  intro j hj W b
  have hj2:j<fs.length:=by omega
  have e1:((es.map Ev.row)[j]?).getD []=es[j].row:=by simp[hj]
  have e2:((fs.map Ev.row)[j]?).getD []=fs[j].row:=by simp[hj2]
  have hp:es[j].pl=fs[j].pl:=by
    have h:=congrArg (fun l=>l[j]?) hpl.out
    simpa [hj,hj2] using h
  try dsimp only
  rw[e1,e2]
  have o1:=(h1.out.2 _ (List.getElem_mem hj)).below b
  have o2:=(h2.out.2 _ (List.getElem_mem hj2)).below b
  obtain⟨e,he⟩: ∃e,e=es[j]:=⟨_,rfl⟩
  obtain⟨f,hf⟩: ∃f,f=fs[j]:=⟨_,rfl⟩
  have hS:=hs.out _ (List.getElem_mem hj)
  rw[←he]at o1 hS hp
  rw[←hf]at o2 hp
  rw[←he,←hf]
  obtain⟨k,rid,ms,q,ff,l,t,wi,sm,sw⟩:=f
  simp only[Ev.pl,Prod.mk.injEq]at hp
  obtain⟨rfl,rfl,rfl,⟨rfl,rfl,rfl,rfl⟩,rfl⟩:=hp
  exact eqEvent_any e e.sm e.sw sm sw W hS (o1.1.down (Nat.zero_le _)) (o1.2.down (Nat.zero_le _)) (o2.1.down (Nat.zero_le _)) (o2.2.down (Nat.zero_le _))
theorem eqBus_any(s1 s2:Sv)(es fs:List Bu)(B1 B2:Nat)(w:World)(h1:Hid (BusO w B1 s1 es))(h2:Hid (BusO w B2 s2 fs))(hpl:Hid (es.map Bu.pl=fs.map Bu.pl))(hl:es.length≤1048576)(hs:Hid (∀e∈es,e.S)):
    Calls Tryz.prog 12 #[.slice s1.a s1.n s1.c,.slice s2.a s2.n s2.c] w fun x w'=>x=.returned (.bool true)∧Below w.heap.size w w':=by
  have n1:s1.n=es.length:=by have:=h1.out.1.slen;simpa using this
  have hfl:fs.length=es.length:=by have:=congrArg List.length hpl.out;simp at this;omega
  have n2:s2.n=es.length:=by have:=h2.out.1.slen;simp at this;omega
  rw[n1,n2]
  refine eqbundles_sp s1.a s2.a es.length s1.c s2.c (fun j=>((es.map Bu.row)[j]?).getD []) (fun j=>((fs.map Bu.row)[j]?).getD []) w (fun j hj=>rowsAt h1.out.1 j (by simpa using hj)) (fun j hj=>rowsAt h2.out.1 j (by simpa [hfl] using hj)) ?_ (by omega)
  intro j hj W b
  have hj2:j<fs.length:=by omega
  have e1:((es.map Bu.row)[j]?).getD []=es[j].row:=by simp[hj]
  have e2:((fs.map Bu.row)[j]?).getD []=fs[j].row:=by simp[hj2]
  have hp:es[j].pl=fs[j].pl:=by
    have h:=congrArg (fun l=>l[j]?) hpl.out
    simpa [hj,hj2] using h
  try dsimp only
  rw[e1,e2]
  have o1:=(h1.out.2 _ (List.getElem_mem hj)).below b
  have o2:=(h2.out.2 _ (List.getElem_mem hj2)).below b
  obtain⟨e,he⟩: ∃e,e=es[j]:=⟨_,rfl⟩
  obtain⟨f,hf⟩: ∃f,f=fs[j]:=⟨_,rfl⟩
  have hS:=hs.out _ (List.getElem_mem hj)
  rw[←he]at o1 hS hp
  rw[←hf]at o2 hp
  rw[←he,←hf]
  obtain⟨f1,n1,o1',ts,s⟩:=f
  simp only[Bu.pl,Prod.mk.injEq]at hp
  obtain⟨rfl,rfl,rfl,rfl⟩:=hp
  exact qGw e.f e.n e.o e.s s e.ts B1 B2 W o1 o2 hS
theorem Tryz.sizeBo:(Tryz.prog.info? 4).map (·.size)=some 1:=by kernel_rfl
/-- a daemon, and where its lists lie. -/
structure Dm where
  id:Int
  dead:Bool
  m:Mt
  mv:Mv
  most:Int
  old:Int
  jid:Int
  jms:List Int
  js:Sv
  bu:List Bu
  bs:Sv
  lo:List Ev
  ls:Sv
/-- its lists are read. -/
structure DmR (w:World) (d:Dm):Prop where
  mt:MtR w d.m d.mv
  jo:RI w d.js.v d.jms
  bu:BusR w d.bs d.bu
  lo:EvsR w d.ls d.lo
theorem DmR.stays{w w':World}{d:Dm}(h:DmR w d)(b:Below w.heap.size w w'):DmR w' d:=⟨h.mt.stays b,h.jo.stays b,h.bu.stays b,h.lo.stays b⟩
/-- its lists are of a call's own. -/
structure DmO (w:World) (B:Nat) (d:Dm):Prop where
  mt:MtO w B d.m d.mv
  jo:OwnI w B d.js.v d.jms
  bu:BusO w B d.bs d.bu
  lo:EvsO w B d.ls d.lo
theorem DmO.r{w:World}{B:Nat}{d:Dm}(h:DmO w B d):DmR w d:=⟨h.mt.r,h.jo.ri,h.bu.r,h.lo.r⟩
theorem DmO.keep{w w':World}{B:Nat}{d:Dm}(h:DmO w B d)(hk: ∀b,B≤b→b<w.heap.size→w'.heap[b]? =w.heap[b]?):DmO w' B d:=
  ⟨h.mt.keep fun b hb hl=>hk b (h.mt.lt hb).1 hl,h.jo.keep fun b hb hl=>hk b (h.jo.lt b hb).1 hl,h.bu.keep hk,h.lo.keep hk⟩
theorem DmO.below{w w':World}{B:Nat}{d:Dm}(h:DmO w B d)(b:Below w.heap.size w w'):DmO w' B d:=h.keep fun k _ hk=>b.block k hk
theorem DmO.down{w:World}{B B':Nat}{d:Dm}(h:DmO w B d)(hB:B'≤B):DmO w B' d:=⟨h.mt.down hB,h.jo.down hB,h.bu.down hB,h.lo.down hB⟩
/-- no longer than can be. -/
structure DmL (d:Dm):Prop where
  mt:MtL d.m
  jo:d.jms.length≤9223372036854775807
  bu:d.bu.length≤9223372036854775807∧∀b∈d.bu,b.L
  lo:d.lo.length≤9223372036854775807∧∀e∈d.lo,e.L
/-- not too long. -/
structure DmS (d:Dm):Prop where
  mt:MtS d.m
  jo:d.jms.length≤1048576
  bu:d.bu.length+Bus.tot d.bu≤1048576
  lo:d.lo.length+Evs.tot d.lo≤1048576
theorem tot_le{α:Type}(f:α→Nat): ∀(l:List α) (x:α),x∈l→f x≤(l.map f).sum
  | a :: l, x, h => by
    rw[List.map_cons,List.sum_cons]
    rcases List.mem_cons.1 h with rfl|h
    · omega
    · have:=tot_le f l x h;omega
theorem DmS.bus{d:Dm}(h:DmS d):d.bu.length≤1048576∧∀b∈d.bu,b.S:=⟨by have:=h.bu;omega,fun b hb=>by have h1:=tot_le (fun e:Bu=>e.sz) _ b hb;have h2:=h.bu;unfold Bus.tot at h2;unfold Bu.S;unfold Bu.sz at h1 h2;omega⟩
theorem DmS.los{d:Dm}(h:DmS d):d.lo.length≤1048576∧∀e∈d.lo,e.S:=⟨by have:=h.lo;omega,fun e he=>by have h1:=tot_le (fun e:Ev=>e.sz) _ e he;have h2:=h.lo;unfold Evs.tot at h2;unfold Ev.S;unfold Ev.sz at h1 h2;omega⟩
/-- the same, in plain words. -/
structure Dm.Same (a b:Dm):Prop where
  id:a.id=b.id
  dead:a.dead=b.dead
  m:a.m=b.m
  most:a.most=b.most
  old:a.old=b.old
  jid:a.jid=b.jid
  jms:a.jms=b.jms
  bu:a.bu.map Bu.pl=b.bu.map Bu.pl
  lo:a.lo.map Ev.pl=b.lo.map Ev.pl
theorem Dm.Same.rfl'(d:Dm):d.Same d:=⟨rfl,rfl,rfl,rfl,rfl,rfl,rfl,rfl,rfl⟩
theorem Dm.Same.symm{a b:Dm}(h:a.Same b):b.Same a:=⟨h.id.symm,h.dead.symm,h.m.symm,h.most.symm,h.old.symm,h.jid.symm,h.jms.symm,h.bu.symm,h.lo.symm⟩
theorem Dm.Same.trans{a b c:Dm}(h:a.Same b)(k:b.Same c):a.Same c:=⟨h.id.trans k.id,h.dead.trans k.dead,h.m.trans k.m,h.most.trans k.most,h.old.trans k.old,h.jid.trans k.jid,h.jms.trans k.jms,h.bu.trans k.bu,h.lo.trans k.lo⟩
theorem sz_of_pl{a b:List Bu}(h:a.map Bu.pl=b.map Bu.pl):Bus.tot a=Bus.tot b:=by
  have e: ∀l:List Bu,l.map (fun e=>e.sz)=(l.map Bu.pl).map (fun p=>p.2.2.2.length):=fun l=>by rw[List.map_map];rfl
  unfold Bus.tot;rw[e,e,h]
theorem sz_of_ple{a b:List Ev}(h:a.map Ev.pl=b.map Ev.pl):Evs.tot a=Evs.tot b:=by
  have e: ∀l:List Ev,l.map (fun e=>e.sz)=(l.map Ev.pl).map (fun p=>p.2.2.1.length+p.2.2.2.1.2.2.2.size+p.2.2.2.2.length):=fun l=>by rw[List.map_map];rfl
  unfold Evs.tot;rw[e,e,h]
theorem Dm.Same.small{a b:Dm}(h:a.Same b)(k:DmS b):DmS a:=by
  have l1:a.bu.length=b.bu.length:=by have:=congrArg List.length h.bu;simpa using this
  have l2:a.lo.length=b.lo.length:=by have:=congrArg List.length h.lo;simpa using this
  exact⟨h.m ▸ k.mt,h.jms ▸ k.jo,by rw[l1,sz_of_pl h.bu];exact k.bu,by rw[l2,sz_of_ple h.lo];exact k.lo⟩
/-- the blocks of a list of bundles, of a list of events. -/
def qCd(s:Sv)(bs:List Bu)(y:Nat):Prop:=s.v.ownBlock=some y∨ ∃b∈bs,b.own y
def qCc(s:Sv)(es:List Ev)(y:Nat):Prop:=s.v.ownBlock=some y∨ ∃e∈es,e.own y
/-- each of its lists lies apart. -/
structure BusA (s:Sv) (bs:List Bu):Prop where
  row: ∀y,s.v.ownBlock=some y→∀b∈bs,¬b.own y
  two:bs.Pairwise fun a b=>∀x,a.own x→¬b.own x
structure EvsA (s:Sv) (es:List Ev):Prop where
  row: ∀y,s.v.ownBlock=some y→∀e∈es,¬e.own y
  one: ∀e∈es,∀x,e.sm.v.ownBlock=some x→e.sw.v.ownBlock≠some x
  two:es.Pairwise fun a b=>∀x,a.own x→¬b.own x
structure DmA (d:Dm):Prop where
  mj: ∀x,d.mv.own x→d.js.v.ownBlock≠some x
  mb: ∀x,d.mv.own x→¬qCd d.bs d.bu x
  ml: ∀x,d.mv.own x→¬qCc d.ls d.lo x
  jb: ∀x,d.js.v.ownBlock=some x→¬qCd d.bs d.bu x
  jl: ∀x,d.js.v.ownBlock=some x→¬qCc d.ls d.lo x
  bl: ∀x,qCd d.bs d.bu x→¬qCc d.ls d.lo x
  bu:BusA d.bs d.bu
  lo:EvsA d.ls d.lo
theorem BusO.olt{w:World}{B:Nat}{s:Sv}{bs:List Bu}(h:BusO w B s bs){y:Nat}(hy:qCd s bs y):B≤y∧y<w.heap.size:=by
  rcases hy with hy|⟨b,hb,hy⟩
  · exact h.1.lt y hy
  · exact(h.2 b hb).lt y hy
theorem EvsO.olt{w:World}{B:Nat}{s:Sv}{es:List Ev}(h:EvsO w B s es){y:Nat}(hy:qCc s es y):B≤y∧y<w.heap.size:=by
  rcases hy with hy|⟨b,hb,hy⟩
  · exact h.1.lt y hy
  · exact(h.2 b hb).lt y hy
theorem BusUp.a{s:Sv}{bs:List Bu}(h:BusUp bs)(hr: ∀b,s.v.ownBlock=some b→∀e∈bs,∀x,e.own x→b<x):BusA s bs:=
  ⟨fun y hy b hb hx=>by have:=hr y hy b hb y hx;omega,h.2.imp fun h x hx hy=>by have:=h x x hx hy;omega⟩
theorem EvsUp.a{s:Sv}{es:List Ev}(h:EvsUp es)(hr: ∀b,s.v.ownBlock=some b→∀e∈es,∀x,e.own x→b<x):EvsA s es:=
  ⟨fun y hy b hb hx=>by have:=hr y hy b hb y hx;omega,fun e he x h1 h2=>by have:=h.1 e he x x h1 h2;omega,h.2.imp fun h x hx hy=>by have:=h x x hx hy;omega⟩
theorem szDaemon_any(d:Dm)(w:World)(h:Hid (DmR w d))(hl:Hid (DmL d)):
    Calls Tryz.prog 5 #[.agg #[.int .i64 d.id,.bool d.dead,.int .i64 d.m.id,.int .i64 d.m.rid,.slice d.mv.ms.a d.mv.ms.n d.mv.ms.c,.slice d.mv.its.a d.mv.its.n d.mv.its.c,.slice d.mv.lv.a d.mv.lv.n d.mv.lv.c,.slice d.mv.tx.a d.mv.tx.n d.mv.tx.c,.int .i64 d.m.rd,.int .i64 d.m.se,.int .i64 d.m.li,.int .i64 d.m.he,.int .i64 d.m.la.c,.int .i64 d.m.la.r,.int .i64 d.m.la.q,.int .i64 d.m.la.a,.int .i64 d.m.la.b,.slice d.mv.ws.a d.mv.ws.n d.mv.ws.c,.int .i64 d.most,.int .i64 d.old,.int .i64 d.jid,.slice d.js.a d.js.n d.js.c,.slice d.bs.a d.bs.n d.bs.c,.slice d.ls.a d.ls.n d.ls.c],.int .i64 1048576] w fun x w'=>(x=.returned (.int .i64 (-1))∨ ∃z:Nat,x=.returned (.int .i64 z)∧z≤1048576∧Hid (DmS d))∧Below w.heap.size w w':=by
  have LA:Hid (Bx (w.alloc (.cells #[.int .i64 d.id,.bool d.dead,.int .i64 d.m.id,.int .i64 d.m.rid,.slice d.mv.ms.a d.mv.ms.n d.mv.ms.c,.slice d.mv.its.a d.mv.its.n d.mv.its.c,.slice d.mv.lv.a d.mv.lv.n d.mv.lv.c,.slice d.mv.tx.a d.mv.tx.n d.mv.tx.c,.int .i64 d.m.rd,.int .i64 d.m.se,.int .i64 d.m.li,.int .i64 d.m.he,.int .i64 d.m.la.c,.int .i64 d.m.la.r,.int .i64 d.m.la.q,.int .i64 d.m.la.a,.int .i64 d.m.la.b,.slice d.mv.ws.a d.mv.ws.n d.mv.ws.c,.int .i64 d.most,.int .i64 d.old,.int .i64 d.jid,.slice d.js.a d.js.n d.js.c,.slice d.bs.a d.bs.n d.bs.c,.slice d.ls.a d.ls.n d.ls.c] 34)) w.heap.size 34 [.int .i64 d.id,.bool d.dead,.int .i64 d.m.id,.int .i64 d.m.rid,.slice d.mv.ms.a d.mv.ms.n d.mv.ms.c,.slice d.mv.its.a d.mv.its.n d.mv.its.c,.slice d.mv.lv.a d.mv.lv.n d.mv.lv.c,.slice d.mv.tx.a d.mv.tx.n d.mv.tx.c,.int .i64 d.m.rd,.int .i64 d.m.se,.int .i64 d.m.li,.int .i64 d.m.he,.int .i64 d.m.la.c,.int .i64 d.m.la.r,.int .i64 d.m.la.q,.int .i64 d.m.la.a,.int .i64 d.m.la.b,.slice d.mv.ws.a d.mv.ws.n d.mv.ws.c,.int .i64 d.most,.int .i64 d.old,.int .i64 d.jid,.slice d.js.a d.js.n d.js.c,.slice d.bs.a d.bs.n d.bs.c,.slice d.ls.a d.ls.n d.ls.c]):=by
    have h:=Bx.new w 34 [.int .i64 d.id,.bool d.dead,.int .i64 d.m.id,.int .i64 d.m.rid,.slice d.mv.ms.a d.mv.ms.n d.mv.ms.c,.slice d.mv.its.a d.mv.its.n d.mv.its.c,.slice d.mv.lv.a d.mv.lv.n d.mv.lv.c,.slice d.mv.tx.a d.mv.tx.n d.mv.tx.c,.int .i64 d.m.rd,.int .i64 d.m.se,.int .i64 d.m.li,.int .i64 d.m.he,.int .i64 d.m.la.c,.int .i64 d.m.la.r,.int .i64 d.m.la.q,.int .i64 d.m.la.a,.int .i64 d.m.la.b,.slice d.mv.ws.a d.mv.ws.n d.mv.ws.c,.int .i64 d.most,.int .i64 d.old,.int .i64 d.jid,.slice d.js.a d.js.n d.js.c,.slice d.bs.a d.bs.n d.bs.c,.slice d.ls.a d.ls.n d.ls.c]
    exact h
  have BW:Hid (Below w.heap.size w (w.alloc (.cells #[.int .i64 d.id,.bool d.dead,.int .i64 d.m.id,.int .i64 d.m.rid,.slice d.mv.ms.a d.mv.ms.n d.mv.ms.c,.slice d.mv.its.a d.mv.its.n d.mv.its.c,.slice d.mv.lv.a d.mv.lv.n d.mv.lv.c,.slice d.mv.tx.a d.mv.tx.n d.mv.tx.c,.int .i64 d.m.rd,.int .i64 d.m.se,.int .i64 d.m.li,.int .i64 d.m.he,.int .i64 d.m.la.c,.int .i64 d.m.la.r,.int .i64 d.m.la.q,.int .i64 d.m.la.a,.int .i64 d.m.la.b,.slice d.mv.ws.a d.mv.ws.n d.mv.ws.c,.int .i64 d.most,.int .i64 d.old,.int .i64 d.jid,.slice d.js.a d.js.n d.js.c,.slice d.bs.a d.bs.n d.bs.c,.slice d.ls.a d.ls.n d.ls.c] 34))):=((Below.refl _ _).alloc (by simp) _)
  have HR:Hid (DmR (w.alloc (.cells #[.int .i64 d.id,.bool d.dead,.int .i64 d.m.id,.int .i64 d.m.rid,.slice d.mv.ms.a d.mv.ms.n d.mv.ms.c,.slice d.mv.its.a d.mv.its.n d.mv.its.c,.slice d.mv.lv.a d.mv.lv.n d.mv.lv.c,.slice d.mv.tx.a d.mv.tx.n d.mv.tx.c,.int .i64 d.m.rd,.int .i64 d.m.se,.int .i64 d.m.li,.int .i64 d.m.he,.int .i64 d.m.la.c,.int .i64 d.m.la.r,.int .i64 d.m.la.q,.int .i64 d.m.la.a,.int .i64 d.m.la.b,.slice d.mv.ws.a d.mv.ws.n d.mv.ws.c,.int .i64 d.most,.int .i64 d.old,.int .i64 d.jid,.slice d.js.a d.js.n d.js.c,.slice d.bs.a d.bs.n d.bs.c,.slice d.ls.a d.ls.n d.ls.c] 34)) d):=h.out.stays BW.out
  have HJ:Hid (d.js.n=d.jms.length):=h.out.jo.len
  have hj1:d.js.n≤9223372036854775807:=by have:=hl.out.jo;have:=HJ.out;omega
  clear h
  go_enter Tryz.func5,Tryz.ntmps5
  go_wp2_with (first|(refine qAb rfl 30 _ rfl w.heap.size 2 rfl 34 _ LA.out [.int .i64 d.m.id,.int .i64 d.m.rid,.slice d.mv.ms.a d.mv.ms.n d.mv.ms.c,.slice d.mv.its.a d.mv.its.n d.mv.its.c,.slice d.mv.lv.a d.mv.lv.n d.mv.lv.c,.slice d.mv.tx.a d.mv.tx.n d.mv.tx.c,.int .i64 d.m.rd,.int .i64 d.m.se,.int .i64 d.m.li,.int .i64 d.m.he,.int .i64 d.m.la.c,.int .i64 d.m.la.r,.int .i64 d.m.la.q,.int .i64 d.m.la.a,.int .i64 d.m.la.b,.slice d.mv.ws.a d.mv.ws.n d.mv.ws.c] rfl _ Tryz.underlying30 rfl Tryz.sizeL ?_))
  generalize (w.alloc (.cells #[.int .i64 d.id,.bool d.dead,.int .i64 d.m.id,.int .i64 d.m.rid,.slice d.mv.ms.a d.mv.ms.n d.mv.ms.c,.slice d.mv.its.a d.mv.its.n d.mv.its.c,.slice d.mv.lv.a d.mv.lv.n d.mv.lv.c,.slice d.mv.tx.a d.mv.tx.n d.mv.tx.c,.int .i64 d.m.rd,.int .i64 d.m.se,.int .i64 d.m.li,.int .i64 d.m.he,.int .i64 d.m.la.c,.int .i64 d.m.la.r,.int .i64 d.m.la.q,.int .i64 d.m.la.a,.int .i64 d.m.la.b,.slice d.mv.ws.a d.mv.ws.n d.mv.ws.c,.int .i64 d.most,.int .i64 d.old,.int .i64 d.jid,.slice d.js.a d.js.n d.js.c,.slice d.bs.a d.bs.n d.bs.c,.slice d.ls.a d.ls.n d.ls.c] 34))=W at *
  refine(szMate_any d.m d.mv _ HR.out.mt hl.out.mt).mono ?_
  rintro x w1 ⟨rfl|⟨z1,rfl,hm1,hz1⟩,b⟩
  · go_wp2_with fail
    go_ret
    exact⟨.inl rfl,qAa BW.out b⟩
  have HM:Hid (MtS d.m):=hm1
  have hd1:decide ((z1:Int)<0)=false:=by simp
  have LA:Hid (Bx w1 w.heap.size 34 [.int .i64 d.id,.bool d.dead,.int .i64 d.m.id,.int .i64 d.m.rid,.slice d.mv.ms.a d.mv.ms.n d.mv.ms.c,.slice d.mv.its.a d.mv.its.n d.mv.its.c,.slice d.mv.lv.a d.mv.lv.n d.mv.lv.c,.slice d.mv.tx.a d.mv.tx.n d.mv.tx.c,.int .i64 d.m.rd,.int .i64 d.m.se,.int .i64 d.m.li,.int .i64 d.m.he,.int .i64 d.m.la.c,.int .i64 d.m.la.r,.int .i64 d.m.la.q,.int .i64 d.m.la.a,.int .i64 d.m.la.b,.slice d.mv.ws.a d.mv.ws.n d.mv.ws.c,.int .i64 d.most,.int .i64 d.old,.int .i64 d.jid,.slice d.js.a d.js.n d.js.c,.slice d.bs.a d.bs.n d.bs.c,.slice d.ls.a d.ls.n d.ls.c]):=LA.out.later b
  have BW:Hid (Below w.heap.size w w1):=qAa BW.out b
  have HR:Hid (DmR w1 d):=HR.out.stays b
  clear b hm1
  go_wp2_with (first|(refine qAb rfl 24 _ rfl w.heap.size 20 rfl 34 _ LA.out [.int .i64 d.jid,.slice d.js.a d.js.n d.js.c] rfl _ Tryz.underlying24 rfl Tryz.sizeLR ?_))
  refine(qCz d.jid d.js.a d.js.n d.js.c z1 _ hz1 hj1).mono ?_
  rintro x w2 ⟨rfl|⟨z2,rfl,hz2⟩,b⟩
  · go_wp2_with fail
    go_ret
    exact⟨.inl rfl,qAa BW.out b⟩
  have HZ2:Hid (z2+d.js.n=z1):=hz2
  have hzl2:z2≤1048576:=by omega
  have hd2:decide ((z2:Int)<0)=false:=by simp
  have LA:Hid (Bx w2 w.heap.size 34 [.int .i64 d.id,.bool d.dead,.int .i64 d.m.id,.int .i64 d.m.rid,.slice d.mv.ms.a d.mv.ms.n d.mv.ms.c,.slice d.mv.its.a d.mv.its.n d.mv.its.c,.slice d.mv.lv.a d.mv.lv.n d.mv.lv.c,.slice d.mv.tx.a d.mv.tx.n d.mv.tx.c,.int .i64 d.m.rd,.int .i64 d.m.se,.int .i64 d.m.li,.int .i64 d.m.he,.int .i64 d.m.la.c,.int .i64 d.m.la.r,.int .i64 d.m.la.q,.int .i64 d.m.la.a,.int .i64 d.m.la.b,.slice d.mv.ws.a d.mv.ws.n d.mv.ws.c,.int .i64 d.most,.int .i64 d.old,.int .i64 d.jid,.slice d.js.a d.js.n d.js.c,.slice d.bs.a d.bs.n d.bs.c,.slice d.ls.a d.ls.n d.ls.c]):=LA.out.later b
  have BW:Hid (Below w.heap.size w w2):=qAa BW.out b
  have HR:Hid (DmR w2 d):=HR.out.stays b
  clear b hz2
  have c22:=LA.out.cell 22
  simp only[List.getElem?_cons_succ,List.getElem?_cons_zero]at c22
  go_wp2_with fail
  clear c22
  refine(qGj d.bs d.bu z2 _ (show Hid (BusR w2 d.bs d.bu)from HR.out.bu) hzl2 hl.out.bu.1 hl.out.bu.2).mono ?_
  rintro x w3 ⟨rfl|⟨z3,rfl,hz3⟩,b⟩
  · go_wp2_with fail
    go_ret
    exact⟨.inl rfl,qAa BW.out b⟩
  have hzl3:z3≤1048576:=by have:=hz3.out;omega
  have hd3:decide ((z3:Int)<0)=false:=by simp
  have LA:Hid (Bx w3 w.heap.size 34 [.int .i64 d.id,.bool d.dead,.int .i64 d.m.id,.int .i64 d.m.rid,.slice d.mv.ms.a d.mv.ms.n d.mv.ms.c,.slice d.mv.its.a d.mv.its.n d.mv.its.c,.slice d.mv.lv.a d.mv.lv.n d.mv.lv.c,.slice d.mv.tx.a d.mv.tx.n d.mv.tx.c,.int .i64 d.m.rd,.int .i64 d.m.se,.int .i64 d.m.li,.int .i64 d.m.he,.int .i64 d.m.la.c,.int .i64 d.m.la.r,.int .i64 d.m.la.q,.int .i64 d.m.la.a,.int .i64 d.m.la.b,.slice d.mv.ws.a d.mv.ws.n d.mv.ws.c,.int .i64 d.most,.int .i64 d.old,.int .i64 d.jid,.slice d.js.a d.js.n d.js.c,.slice d.bs.a d.bs.n d.bs.c,.slice d.ls.a d.ls.n d.ls.c]):=LA.out.later b
  have BW:Hid (Below w.heap.size w w3):=qAa BW.out b
  have HR:Hid (DmR w3 d):=HR.out.stays b
  clear b
  have c23:=LA.out.cell 23
  simp only[List.getElem?_cons_succ,List.getElem?_cons_zero]at c23
  go_wp2_with fail
  clear c23
  refine(szEvents_any d.ls d.lo z3 _ (show Hid (EvsR w3 d.ls d.lo)from HR.out.lo) hzl3 hl.out.lo.1 hl.out.lo.2).mono ?_
  rintro x w4 ⟨rfl|⟨z4,rfl,hz4⟩,b⟩
  · go_wp2_with fail
    go_ret
    exact⟨.inl rfl,qAa BW.out b⟩
  have hzl4:z4≤1048576:=by have:=hz4.out;omega
  have hd4:decide ((z4:Int)<0)=false:=by simp
  have LA:Hid (Bx w4 w.heap.size 34 [.int .i64 d.id,.bool d.dead,.int .i64 d.m.id,.int .i64 d.m.rid,.slice d.mv.ms.a d.mv.ms.n d.mv.ms.c,.slice d.mv.its.a d.mv.its.n d.mv.its.c,.slice d.mv.lv.a d.mv.lv.n d.mv.lv.c,.slice d.mv.tx.a d.mv.tx.n d.mv.tx.c,.int .i64 d.m.rd,.int .i64 d.m.se,.int .i64 d.m.li,.int .i64 d.m.he,.int .i64 d.m.la.c,.int .i64 d.m.la.r,.int .i64 d.m.la.q,.int .i64 d.m.la.a,.int .i64 d.m.la.b,.slice d.mv.ws.a d.mv.ws.n d.mv.ws.c,.int .i64 d.most,.int .i64 d.old,.int .i64 d.jid,.slice d.js.a d.js.n d.js.c,.slice d.bs.a d.bs.n d.bs.c,.slice d.ls.a d.ls.n d.ls.c]):=LA.out.later b
  have BW:Hid (Below w.heap.size w w4):=qAa BW.out b
  have HR:Hid (DmR w4 d):=HR.out.stays b
  clear b
  go_wp2_with fail
  go_ret
  exact⟨.inr ⟨z4,rfl,hzl4,⟨HM.out,by have:=HZ2.out;have:=HJ.out;omega,by have:=hz3.out;omega,by have:=hz4.out;omega⟩⟩,BW.out⟩
theorem qBu(d:Dm)(w:World)(h:Hid (DmR w d))(hs:Hid (DmS d)):
    Calls Tryz.prog 8 #[.agg #[.int .i64 d.id,.bool d.dead,.int .i64 d.m.id,.int .i64 d.m.rid,.slice d.mv.ms.a d.mv.ms.n d.mv.ms.c,.slice d.mv.its.a d.mv.its.n d.mv.its.c,.slice d.mv.lv.a d.mv.lv.n d.mv.lv.c,.slice d.mv.tx.a d.mv.tx.n d.mv.tx.c,.int .i64 d.m.rd,.int .i64 d.m.se,.int .i64 d.m.li,.int .i64 d.m.he,.int .i64 d.m.la.c,.int .i64 d.m.la.r,.int .i64 d.m.la.q,.int .i64 d.m.la.a,.int .i64 d.m.la.b,.slice d.mv.ws.a d.mv.ws.n d.mv.ws.c,.int .i64 d.most,.int .i64 d.old,.int .i64 d.jid,.slice d.js.a d.js.n d.js.c,.slice d.bs.a d.bs.n d.bs.c,.slice d.ls.a d.ls.n d.ls.c]] w fun x w'=>∃d':Dm,x=.returned (.agg #[.int .i64 d'.id,.bool d'.dead,.int .i64 d'.m.id,.int .i64 d'.m.rid,.slice d'.mv.ms.a d'.mv.ms.n d'.mv.ms.c,.slice d'.mv.its.a d'.mv.its.n d'.mv.its.c,.slice d'.mv.lv.a d'.mv.lv.n d'.mv.lv.c,.slice d'.mv.tx.a d'.mv.tx.n d'.mv.tx.c,.int .i64 d'.m.rd,.int .i64 d'.m.se,.int .i64 d'.m.li,.int .i64 d'.m.he,.int .i64 d'.m.la.c,.int .i64 d'.m.la.r,.int .i64 d'.m.la.q,.int .i64 d'.m.la.a,.int .i64 d'.m.la.b,.slice d'.mv.ws.a d'.mv.ws.n d'.mv.ws.c,.int .i64 d'.most,.int .i64 d'.old,.int .i64 d'.jid,.slice d'.js.a d'.js.n d'.js.c,.slice d'.bs.a d'.bs.n d'.bs.c,.slice d'.ls.a d'.ls.n d'.ls.c])∧d'.Same d∧DmO w' w.heap.size d'∧DmA d'∧Below w.heap.size w w':=by
  have hn1:(w.alloc (.cells #[.int .i64 d.id,.bool d.dead,.int .i64 d.m.id,.int .i64 d.m.rid,.slice d.mv.ms.a d.mv.ms.n d.mv.ms.c,.slice d.mv.its.a d.mv.its.n d.mv.its.c,.slice d.mv.lv.a d.mv.lv.n d.mv.lv.c,.slice d.mv.tx.a d.mv.tx.n d.mv.tx.c,.int .i64 d.m.rd,.int .i64 d.m.se,.int .i64 d.m.li,.int .i64 d.m.he,.int .i64 d.m.la.c,.int .i64 d.m.la.r,.int .i64 d.m.la.q,.int .i64 d.m.la.a,.int .i64 d.m.la.b,.slice d.mv.ws.a d.mv.ws.n d.mv.ws.c,.int .i64 d.most,.int .i64 d.old,.int .i64 d.jid,.slice d.js.a d.js.n d.js.c,.slice d.bs.a d.bs.n d.bs.c,.slice d.ls.a d.ls.n d.ls.c] 34)).heap.size=w.heap.size+1:=by simp
  have hn2:((w.alloc (.cells #[.int .i64 d.id,.bool d.dead,.int .i64 d.m.id,.int .i64 d.m.rid,.slice d.mv.ms.a d.mv.ms.n d.mv.ms.c,.slice d.mv.its.a d.mv.its.n d.mv.its.c,.slice d.mv.lv.a d.mv.lv.n d.mv.lv.c,.slice d.mv.tx.a d.mv.tx.n d.mv.tx.c,.int .i64 d.m.rd,.int .i64 d.m.se,.int .i64 d.m.li,.int .i64 d.m.he,.int .i64 d.m.la.c,.int .i64 d.m.la.r,.int .i64 d.m.la.q,.int .i64 d.m.la.a,.int .i64 d.m.la.b,.slice d.mv.ws.a d.mv.ws.n d.mv.ws.c,.int .i64 d.most,.int .i64 d.old,.int .i64 d.jid,.slice d.js.a d.js.n d.js.c,.slice d.bs.a d.bs.n d.bs.c,.slice d.ls.a d.ls.n d.ls.c] 34)).alloc (.cells #[.int .i64 0,.bool false,.int .i64 0,.int .i64 0,.slice none 0 0,.slice none 0 0,.slice none 0 0,.slice none 0 0,.int .i64 0,.int .i64 0,.int .i64 0,.int .i64 0,.int .i64 0,.int .i64 0,.int .i64 0,.int .i64 0,.int .i64 0,.slice none 0 0,.int .i64 0,.int .i64 0,.int .i64 0,.slice none 0 0,.slice none 0 0,.slice none 0 0] 45)).heap.size=w.heap.size+2:=by simp
  have LA:Hid (Bx (((w.alloc (.cells #[.int .i64 d.id,.bool d.dead,.int .i64 d.m.id,.int .i64 d.m.rid,.slice d.mv.ms.a d.mv.ms.n d.mv.ms.c,.slice d.mv.its.a d.mv.its.n d.mv.its.c,.slice d.mv.lv.a d.mv.lv.n d.mv.lv.c,.slice d.mv.tx.a d.mv.tx.n d.mv.tx.c,.int .i64 d.m.rd,.int .i64 d.m.se,.int .i64 d.m.li,.int .i64 d.m.he,.int .i64 d.m.la.c,.int .i64 d.m.la.r,.int .i64 d.m.la.q,.int .i64 d.m.la.a,.int .i64 d.m.la.b,.slice d.mv.ws.a d.mv.ws.n d.mv.ws.c,.int .i64 d.most,.int .i64 d.old,.int .i64 d.jid,.slice d.js.a d.js.n d.js.c,.slice d.bs.a d.bs.n d.bs.c,.slice d.ls.a d.ls.n d.ls.c] 34)).alloc (.cells #[.int .i64 0,.bool false,.int .i64 0,.int .i64 0,.slice none 0 0,.slice none 0 0,.slice none 0 0,.slice none 0 0,.int .i64 0,.int .i64 0,.int .i64 0,.int .i64 0,.int .i64 0,.int .i64 0,.int .i64 0,.int .i64 0,.int .i64 0,.slice none 0 0,.int .i64 0,.int .i64 0,.int .i64 0,.slice none 0 0,.slice none 0 0,.slice none 0 0] 45)).alloc (.cells #[.int .i64 0,.bool false,.int .i64 0,.int .i64 0,.slice none 0 0,.slice none 0 0,.slice none 0 0,.slice none 0 0,.int .i64 0,.int .i64 0,.int .i64 0,.int .i64 0,.int .i64 0,.int .i64 0,.int .i64 0,.int .i64 0,.int .i64 0,.slice none 0 0,.int .i64 0,.int .i64 0,.int .i64 0,.slice none 0 0,.slice none 0 0,.slice none 0 0] 45)) w.heap.size 34 [.int .i64 d.id,.bool d.dead,.int .i64 d.m.id,.int .i64 d.m.rid,.slice d.mv.ms.a d.mv.ms.n d.mv.ms.c,.slice d.mv.its.a d.mv.its.n d.mv.its.c,.slice d.mv.lv.a d.mv.lv.n d.mv.lv.c,.slice d.mv.tx.a d.mv.tx.n d.mv.tx.c,.int .i64 d.m.rd,.int .i64 d.m.se,.int .i64 d.m.li,.int .i64 d.m.he,.int .i64 d.m.la.c,.int .i64 d.m.la.r,.int .i64 d.m.la.q,.int .i64 d.m.la.a,.int .i64 d.m.la.b,.slice d.mv.ws.a d.mv.ws.n d.mv.ws.c,.int .i64 d.most,.int .i64 d.old,.int .i64 d.jid,.slice d.js.a d.js.n d.js.c,.slice d.bs.a d.bs.n d.bs.c,.slice d.ls.a d.ls.n d.ls.c]):=by
    have h:=Bx.new w 34 [.int .i64 d.id,.bool d.dead,.int .i64 d.m.id,.int .i64 d.m.rid,.slice d.mv.ms.a d.mv.ms.n d.mv.ms.c,.slice d.mv.its.a d.mv.its.n d.mv.its.c,.slice d.mv.lv.a d.mv.lv.n d.mv.lv.c,.slice d.mv.tx.a d.mv.tx.n d.mv.tx.c,.int .i64 d.m.rd,.int .i64 d.m.se,.int .i64 d.m.li,.int .i64 d.m.he,.int .i64 d.m.la.c,.int .i64 d.m.la.r,.int .i64 d.m.la.q,.int .i64 d.m.la.a,.int .i64 d.m.la.b,.slice d.mv.ws.a d.mv.ws.n d.mv.ws.c,.int .i64 d.most,.int .i64 d.old,.int .i64 d.jid,.slice d.js.a d.js.n d.js.c,.slice d.bs.a d.bs.n d.bs.c,.slice d.ls.a d.ls.n d.ls.c]
    exact((h).later ((Below.refl _ _).alloc (Nat.le_refl _) _)).later ((Below.refl _ _).alloc (Nat.le_refl _) _)
  have EB:Hid (Bx (((w.alloc (.cells #[.int .i64 d.id,.bool d.dead,.int .i64 d.m.id,.int .i64 d.m.rid,.slice d.mv.ms.a d.mv.ms.n d.mv.ms.c,.slice d.mv.its.a d.mv.its.n d.mv.its.c,.slice d.mv.lv.a d.mv.lv.n d.mv.lv.c,.slice d.mv.tx.a d.mv.tx.n d.mv.tx.c,.int .i64 d.m.rd,.int .i64 d.m.se,.int .i64 d.m.li,.int .i64 d.m.he,.int .i64 d.m.la.c,.int .i64 d.m.la.r,.int .i64 d.m.la.q,.int .i64 d.m.la.a,.int .i64 d.m.la.b,.slice d.mv.ws.a d.mv.ws.n d.mv.ws.c,.int .i64 d.most,.int .i64 d.old,.int .i64 d.jid,.slice d.js.a d.js.n d.js.c,.slice d.bs.a d.bs.n d.bs.c,.slice d.ls.a d.ls.n d.ls.c] 34)).alloc (.cells #[.int .i64 0,.bool false,.int .i64 0,.int .i64 0,.slice none 0 0,.slice none 0 0,.slice none 0 0,.slice none 0 0,.int .i64 0,.int .i64 0,.int .i64 0,.int .i64 0,.int .i64 0,.int .i64 0,.int .i64 0,.int .i64 0,.int .i64 0,.slice none 0 0,.int .i64 0,.int .i64 0,.int .i64 0,.slice none 0 0,.slice none 0 0,.slice none 0 0] 45)).alloc (.cells #[.int .i64 0,.bool false,.int .i64 0,.int .i64 0,.slice none 0 0,.slice none 0 0,.slice none 0 0,.slice none 0 0,.int .i64 0,.int .i64 0,.int .i64 0,.int .i64 0,.int .i64 0,.int .i64 0,.int .i64 0,.int .i64 0,.int .i64 0,.slice none 0 0,.int .i64 0,.int .i64 0,.int .i64 0,.slice none 0 0,.slice none 0 0,.slice none 0 0] 45)) (w.heap.size+1) 45 [.int .i64 0,.bool false,.int .i64 0,.int .i64 0,.slice none 0 0,.slice none 0 0,.slice none 0 0,.slice none 0 0,.int .i64 0,.int .i64 0,.int .i64 0,.int .i64 0,.int .i64 0,.int .i64 0,.int .i64 0,.int .i64 0,.int .i64 0,.slice none 0 0,.int .i64 0,.int .i64 0,.int .i64 0,.slice none 0 0,.slice none 0 0,.slice none 0 0]):=by
    have h:=Bx.new (w.alloc (.cells #[.int .i64 d.id,.bool d.dead,.int .i64 d.m.id,.int .i64 d.m.rid,.slice d.mv.ms.a d.mv.ms.n d.mv.ms.c,.slice d.mv.its.a d.mv.its.n d.mv.its.c,.slice d.mv.lv.a d.mv.lv.n d.mv.lv.c,.slice d.mv.tx.a d.mv.tx.n d.mv.tx.c,.int .i64 d.m.rd,.int .i64 d.m.se,.int .i64 d.m.li,.int .i64 d.m.he,.int .i64 d.m.la.c,.int .i64 d.m.la.r,.int .i64 d.m.la.q,.int .i64 d.m.la.a,.int .i64 d.m.la.b,.slice d.mv.ws.a d.mv.ws.n d.mv.ws.c,.int .i64 d.most,.int .i64 d.old,.int .i64 d.jid,.slice d.js.a d.js.n d.js.c,.slice d.bs.a d.bs.n d.bs.c,.slice d.ls.a d.ls.n d.ls.c] 34)) 45 [.int .i64 0,.bool false,.int .i64 0,.int .i64 0,.slice none 0 0,.slice none 0 0,.slice none 0 0,.slice none 0 0,.int .i64 0,.int .i64 0,.int .i64 0,.int .i64 0,.int .i64 0,.int .i64 0,.int .i64 0,.int .i64 0,.int .i64 0,.slice none 0 0,.int .i64 0,.int .i64 0,.int .i64 0,.slice none 0 0,.slice none 0 0,.slice none 0 0]
    rw[hn1]at h
    exact(h).later ((Below.refl _ _).alloc (Nat.le_refl _) _)
  have VB:Hid (Bx (((w.alloc (.cells #[.int .i64 d.id,.bool d.dead,.int .i64 d.m.id,.int .i64 d.m.rid,.slice d.mv.ms.a d.mv.ms.n d.mv.ms.c,.slice d.mv.its.a d.mv.its.n d.mv.its.c,.slice d.mv.lv.a d.mv.lv.n d.mv.lv.c,.slice d.mv.tx.a d.mv.tx.n d.mv.tx.c,.int .i64 d.m.rd,.int .i64 d.m.se,.int .i64 d.m.li,.int .i64 d.m.he,.int .i64 d.m.la.c,.int .i64 d.m.la.r,.int .i64 d.m.la.q,.int .i64 d.m.la.a,.int .i64 d.m.la.b,.slice d.mv.ws.a d.mv.ws.n d.mv.ws.c,.int .i64 d.most,.int .i64 d.old,.int .i64 d.jid,.slice d.js.a d.js.n d.js.c,.slice d.bs.a d.bs.n d.bs.c,.slice d.ls.a d.ls.n d.ls.c] 34)).alloc (.cells #[.int .i64 0,.bool false,.int .i64 0,.int .i64 0,.slice none 0 0,.slice none 0 0,.slice none 0 0,.slice none 0 0,.int .i64 0,.int .i64 0,.int .i64 0,.int .i64 0,.int .i64 0,.int .i64 0,.int .i64 0,.int .i64 0,.int .i64 0,.slice none 0 0,.int .i64 0,.int .i64 0,.int .i64 0,.slice none 0 0,.slice none 0 0,.slice none 0 0] 45)).alloc (.cells #[.int .i64 0,.bool false,.int .i64 0,.int .i64 0,.slice none 0 0,.slice none 0 0,.slice none 0 0,.slice none 0 0,.int .i64 0,.int .i64 0,.int .i64 0,.int .i64 0,.int .i64 0,.int .i64 0,.int .i64 0,.int .i64 0,.int .i64 0,.slice none 0 0,.int .i64 0,.int .i64 0,.int .i64 0,.slice none 0 0,.slice none 0 0,.slice none 0 0] 45)) (w.heap.size+2) 45 [.int .i64 0,.bool false,.int .i64 0,.int .i64 0,.slice none 0 0,.slice none 0 0,.slice none 0 0,.slice none 0 0,.int .i64 0,.int .i64 0,.int .i64 0,.int .i64 0,.int .i64 0,.int .i64 0,.int .i64 0,.int .i64 0,.int .i64 0,.slice none 0 0,.int .i64 0,.int .i64 0,.int .i64 0,.slice none 0 0,.slice none 0 0,.slice none 0 0]):=by
    have h:=Bx.new ((w.alloc (.cells #[.int .i64 d.id,.bool d.dead,.int .i64 d.m.id,.int .i64 d.m.rid,.slice d.mv.ms.a d.mv.ms.n d.mv.ms.c,.slice d.mv.its.a d.mv.its.n d.mv.its.c,.slice d.mv.lv.a d.mv.lv.n d.mv.lv.c,.slice d.mv.tx.a d.mv.tx.n d.mv.tx.c,.int .i64 d.m.rd,.int .i64 d.m.se,.int .i64 d.m.li,.int .i64 d.m.he,.int .i64 d.m.la.c,.int .i64 d.m.la.r,.int .i64 d.m.la.q,.int .i64 d.m.la.a,.int .i64 d.m.la.b,.slice d.mv.ws.a d.mv.ws.n d.mv.ws.c,.int .i64 d.most,.int .i64 d.old,.int .i64 d.jid,.slice d.js.a d.js.n d.js.c,.slice d.bs.a d.bs.n d.bs.c,.slice d.ls.a d.ls.n d.ls.c] 34)).alloc (.cells #[.int .i64 0,.bool false,.int .i64 0,.int .i64 0,.slice none 0 0,.slice none 0 0,.slice none 0 0,.slice none 0 0,.int .i64 0,.int .i64 0,.int .i64 0,.int .i64 0,.int .i64 0,.int .i64 0,.int .i64 0,.int .i64 0,.int .i64 0,.slice none 0 0,.int .i64 0,.int .i64 0,.int .i64 0,.slice none 0 0,.slice none 0 0,.slice none 0 0] 45)) 45 [.int .i64 0,.bool false,.int .i64 0,.int .i64 0,.slice none 0 0,.slice none 0 0,.slice none 0 0,.slice none 0 0,.int .i64 0,.int .i64 0,.int .i64 0,.int .i64 0,.int .i64 0,.int .i64 0,.int .i64 0,.int .i64 0,.int .i64 0,.slice none 0 0,.int .i64 0,.int .i64 0,.int .i64 0,.slice none 0 0,.slice none 0 0,.slice none 0 0]
    rw[hn2]at h
    exact h
  have BW:Hid (Below w.heap.size w (((w.alloc (.cells #[.int .i64 d.id,.bool d.dead,.int .i64 d.m.id,.int .i64 d.m.rid,.slice d.mv.ms.a d.mv.ms.n d.mv.ms.c,.slice d.mv.its.a d.mv.its.n d.mv.its.c,.slice d.mv.lv.a d.mv.lv.n d.mv.lv.c,.slice d.mv.tx.a d.mv.tx.n d.mv.tx.c,.int .i64 d.m.rd,.int .i64 d.m.se,.int .i64 d.m.li,.int .i64 d.m.he,.int .i64 d.m.la.c,.int .i64 d.m.la.r,.int .i64 d.m.la.q,.int .i64 d.m.la.a,.int .i64 d.m.la.b,.slice d.mv.ws.a d.mv.ws.n d.mv.ws.c,.int .i64 d.most,.int .i64 d.old,.int .i64 d.jid,.slice d.js.a d.js.n d.js.c,.slice d.bs.a d.bs.n d.bs.c,.slice d.ls.a d.ls.n d.ls.c] 34)).alloc (.cells #[.int .i64 0,.bool false,.int .i64 0,.int .i64 0,.slice none 0 0,.slice none 0 0,.slice none 0 0,.slice none 0 0,.int .i64 0,.int .i64 0,.int .i64 0,.int .i64 0,.int .i64 0,.int .i64 0,.int .i64 0,.int .i64 0,.int .i64 0,.slice none 0 0,.int .i64 0,.int .i64 0,.int .i64 0,.slice none 0 0,.slice none 0 0,.slice none 0 0] 45)).alloc (.cells #[.int .i64 0,.bool false,.int .i64 0,.int .i64 0,.slice none 0 0,.slice none 0 0,.slice none 0 0,.slice none 0 0,.int .i64 0,.int .i64 0,.int .i64 0,.int .i64 0,.int .i64 0,.int .i64 0,.int .i64 0,.int .i64 0,.int .i64 0,.slice none 0 0,.int .i64 0,.int .i64 0,.int .i64 0,.slice none 0 0,.slice none 0 0,.slice none 0 0] 45))):=((((Below.refl _ _).alloc (by simp) _).alloc (by simp;try omega) _).alloc (by simp;try omega) _)
  clear hn1 hn2
  have h0:=h
  clear h
  go_enter Tryz.func8,Tryz.ntmps8
  have c0:=LA.out.cell 0
  simp only[List.getElem?_cons_zero]at c0
  go_wp2_with (first|(with_reducible refine qAc 3 _ _ rfl ?_))
  refine Stp.go ?_
  generalize (((w.alloc (.cells #[.int .i64 d.id,.bool d.dead,.int .i64 d.m.id,.int .i64 d.m.rid,.slice d.mv.ms.a d.mv.ms.n d.mv.ms.c,.slice d.mv.its.a d.mv.its.n d.mv.its.c,.slice d.mv.lv.a d.mv.lv.n d.mv.lv.c,.slice d.mv.tx.a d.mv.tx.n d.mv.tx.c,.int .i64 d.m.rd,.int .i64 d.m.se,.int .i64 d.m.li,.int .i64 d.m.he,.int .i64 d.m.la.c,.int .i64 d.m.la.r,.int .i64 d.m.la.q,.int .i64 d.m.la.a,.int .i64 d.m.la.b,.slice d.mv.ws.a d.mv.ws.n d.mv.ws.c,.int .i64 d.most,.int .i64 d.old,.int .i64 d.jid,.slice d.js.a d.js.n d.js.c,.slice d.bs.a d.bs.n d.bs.c,.slice d.ls.a d.ls.n d.ls.c] 34)).alloc (.cells #[.int .i64 0,.bool false,.int .i64 0,.int .i64 0,.slice none 0 0,.slice none 0 0,.slice none 0 0,.slice none 0 0,.int .i64 0,.int .i64 0,.int .i64 0,.int .i64 0,.int .i64 0,.int .i64 0,.int .i64 0,.int .i64 0,.int .i64 0,.slice none 0 0,.int .i64 0,.int .i64 0,.int .i64 0,.slice none 0 0,.slice none 0 0,.slice none 0 0] 45)).alloc (.cells #[.int .i64 0,.bool false,.int .i64 0,.int .i64 0,.slice none 0 0,.slice none 0 0,.slice none 0 0,.slice none 0 0,.int .i64 0,.int .i64 0,.int .i64 0,.int .i64 0,.int .i64 0,.int .i64 0,.int .i64 0,.int .i64 0,.int .i64 0,.slice none 0 0,.int .i64 0,.int .i64 0,.int .i64 0,.slice none 0 0,.slice none 0 0,.slice none 0 0] 45))=W at *
  have zW:w.heap.size+2<W.heap.size:=VB.out.lt
  clear c0
  refine qAg rfl 3 _ _ rfl (w.heap.size+2) 0 rfl 45 _ VB.out (.int .i64 d.id) rfl (by simp) rfl Tryz.size3 [.int .i64 d.id,.bool false,.int .i64 0,.int .i64 0,.slice none 0 0,.slice none 0 0,.slice none 0 0,.slice none 0 0,.int .i64 0,.int .i64 0,.int .i64 0,.int .i64 0,.int .i64 0,.int .i64 0,.int .i64 0,.int .i64 0,.int .i64 0,.slice none 0 0,.int .i64 0,.int .i64 0,.int .i64 0,.slice none 0 0,.slice none 0 0,.slice none 0 0] rfl ?_
  intro w1 OB TB
  have z_w1:W.heap.size≤w1.heap.size:=Nat.le_of_eq TB.size.symm
  have LA:Hid (Bx w1 w.heap.size 34 [.int .i64 d.id,.bool d.dead,.int .i64 d.m.id,.int .i64 d.m.rid,.slice d.mv.ms.a d.mv.ms.n d.mv.ms.c,.slice d.mv.its.a d.mv.its.n d.mv.its.c,.slice d.mv.lv.a d.mv.lv.n d.mv.lv.c,.slice d.mv.tx.a d.mv.tx.n d.mv.tx.c,.int .i64 d.m.rd,.int .i64 d.m.se,.int .i64 d.m.li,.int .i64 d.m.he,.int .i64 d.m.la.c,.int .i64 d.m.la.r,.int .i64 d.m.la.q,.int .i64 d.m.la.a,.int .i64 d.m.la.b,.slice d.mv.ws.a d.mv.ws.n d.mv.ws.c,.int .i64 d.most,.int .i64 d.old,.int .i64 d.jid,.slice d.js.a d.js.n d.js.c,.slice d.bs.a d.bs.n d.bs.c,.slice d.ls.a d.ls.n d.ls.c]):=LA.out.turn TB (by omega)
  have EB:Hid (Bx w1 (w.heap.size+1) 45 [.int .i64 0,.bool false,.int .i64 0,.int .i64 0,.slice none 0 0,.slice none 0 0,.slice none 0 0,.slice none 0 0,.int .i64 0,.int .i64 0,.int .i64 0,.int .i64 0,.int .i64 0,.int .i64 0,.int .i64 0,.int .i64 0,.int .i64 0,.slice none 0 0,.int .i64 0,.int .i64 0,.int .i64 0,.slice none 0 0,.slice none 0 0,.slice none 0 0]):=EB.out.turn TB (by omega)
  have BW:Hid (Below w.heap.size w w1):=BW.out.trans (TB.below (by omega))
  have VB:Hid (Bx w1 (w.heap.size+2) 45 [.int .i64 d.id,.bool false,.int .i64 0,.int .i64 0,.slice none 0 0,.slice none 0 0,.slice none 0 0,.slice none 0 0,.int .i64 0,.int .i64 0,.int .i64 0,.int .i64 0,.int .i64 0,.int .i64 0,.int .i64 0,.int .i64 0,.int .i64 0,.slice none 0 0,.int .i64 0,.int .i64 0,.int .i64 0,.slice none 0 0,.slice none 0 0,.slice none 0 0]):=OB
  clear OB TB
  have c1:=LA.out.cell 1
  simp only[List.getElem?_cons_succ,List.getElem?_cons_zero]at c1
  go_wp2_with (first|(with_reducible refine qAc 4 _ _ rfl ?_))
  refine Stp.go ?_
  clear c1
  refine qAg rfl 4 _ _ rfl (w.heap.size+2) 1 rfl 45 _ VB.out (.bool d.dead) rfl (by simp) rfl Tryz.sizeBo [.int .i64 d.id,.bool d.dead,.int .i64 0,.int .i64 0,.slice none 0 0,.slice none 0 0,.slice none 0 0,.slice none 0 0,.int .i64 0,.int .i64 0,.int .i64 0,.int .i64 0,.int .i64 0,.int .i64 0,.int .i64 0,.int .i64 0,.int .i64 0,.slice none 0 0,.int .i64 0,.int .i64 0,.int .i64 0,.slice none 0 0,.slice none 0 0,.slice none 0 0] rfl ?_
  intro w2 OB TB
  have z_w2:w1.heap.size≤w2.heap.size:=Nat.le_of_eq TB.size.symm
  have LA:Hid (Bx w2 w.heap.size 34 [.int .i64 d.id,.bool d.dead,.int .i64 d.m.id,.int .i64 d.m.rid,.slice d.mv.ms.a d.mv.ms.n d.mv.ms.c,.slice d.mv.its.a d.mv.its.n d.mv.its.c,.slice d.mv.lv.a d.mv.lv.n d.mv.lv.c,.slice d.mv.tx.a d.mv.tx.n d.mv.tx.c,.int .i64 d.m.rd,.int .i64 d.m.se,.int .i64 d.m.li,.int .i64 d.m.he,.int .i64 d.m.la.c,.int .i64 d.m.la.r,.int .i64 d.m.la.q,.int .i64 d.m.la.a,.int .i64 d.m.la.b,.slice d.mv.ws.a d.mv.ws.n d.mv.ws.c,.int .i64 d.most,.int .i64 d.old,.int .i64 d.jid,.slice d.js.a d.js.n d.js.c,.slice d.bs.a d.bs.n d.bs.c,.slice d.ls.a d.ls.n d.ls.c]):=LA.out.turn TB (by omega)
  have EB:Hid (Bx w2 (w.heap.size+1) 45 [.int .i64 0,.bool false,.int .i64 0,.int .i64 0,.slice none 0 0,.slice none 0 0,.slice none 0 0,.slice none 0 0,.int .i64 0,.int .i64 0,.int .i64 0,.int .i64 0,.int .i64 0,.int .i64 0,.int .i64 0,.int .i64 0,.int .i64 0,.slice none 0 0,.int .i64 0,.int .i64 0,.int .i64 0,.slice none 0 0,.slice none 0 0,.slice none 0 0]):=EB.out.turn TB (by omega)
  have BW:Hid (Below w.heap.size w w2):=BW.out.trans (TB.below (by omega))
  have VB:Hid (Bx w2 (w.heap.size+2) 45 [.int .i64 d.id,.bool d.dead,.int .i64 0,.int .i64 0,.slice none 0 0,.slice none 0 0,.slice none 0 0,.slice none 0 0,.int .i64 0,.int .i64 0,.int .i64 0,.int .i64 0,.int .i64 0,.int .i64 0,.int .i64 0,.int .i64 0,.int .i64 0,.slice none 0 0,.int .i64 0,.int .i64 0,.int .i64 0,.slice none 0 0,.slice none 0 0,.slice none 0 0]):=OB
  clear OB TB
  have HR:Hid (MtR w2 d.m d.mv):=h0.out.mt.stays BW.out
  go_wp2_with (first|(refine qAb rfl 30 _ rfl w.heap.size 2 rfl 34 _ LA.out [.int .i64 d.m.id,.int .i64 d.m.rid,.slice d.mv.ms.a d.mv.ms.n d.mv.ms.c,.slice d.mv.its.a d.mv.its.n d.mv.its.c,.slice d.mv.lv.a d.mv.lv.n d.mv.lv.c,.slice d.mv.tx.a d.mv.tx.n d.mv.tx.c,.int .i64 d.m.rd,.int .i64 d.m.se,.int .i64 d.m.li,.int .i64 d.m.he,.int .i64 d.m.la.c,.int .i64 d.m.la.r,.int .i64 d.m.la.q,.int .i64 d.m.la.a,.int .i64 d.m.la.b,.slice d.mv.ws.a d.mv.ws.n d.mv.ws.c] rfl _ Tryz.underlying30 rfl Tryz.sizeL ?_))
  refine(toMate_any d.m d.mv _ HR hs.out.mt).mono ?_
  rintro e w3 ⟨u,rfl,o1,b⟩
  have MO:Hid (MtO w3 (w.heap.size+3) d.m u):=o1.down (by omega)
  have ML:Hid (∀x,u.own x→x<w3.heap.size):=fun x hx=>(o1.lt hx).2
  clear o1 HR
  have z_w3:w2.heap.size≤w3.heap.size:=b.size
  have LA:Hid (Bx w3 w.heap.size 34 [.int .i64 d.id,.bool d.dead,.int .i64 d.m.id,.int .i64 d.m.rid,.slice d.mv.ms.a d.mv.ms.n d.mv.ms.c,.slice d.mv.its.a d.mv.its.n d.mv.its.c,.slice d.mv.lv.a d.mv.lv.n d.mv.lv.c,.slice d.mv.tx.a d.mv.tx.n d.mv.tx.c,.int .i64 d.m.rd,.int .i64 d.m.se,.int .i64 d.m.li,.int .i64 d.m.he,.int .i64 d.m.la.c,.int .i64 d.m.la.r,.int .i64 d.m.la.q,.int .i64 d.m.la.a,.int .i64 d.m.la.b,.slice d.mv.ws.a d.mv.ws.n d.mv.ws.c,.int .i64 d.most,.int .i64 d.old,.int .i64 d.jid,.slice d.js.a d.js.n d.js.c,.slice d.bs.a d.bs.n d.bs.c,.slice d.ls.a d.ls.n d.ls.c]):=LA.out.later b
  have EB:Hid (Bx w3 (w.heap.size+1) 45 [.int .i64 0,.bool false,.int .i64 0,.int .i64 0,.slice none 0 0,.slice none 0 0,.slice none 0 0,.slice none 0 0,.int .i64 0,.int .i64 0,.int .i64 0,.int .i64 0,.int .i64 0,.int .i64 0,.int .i64 0,.int .i64 0,.int .i64 0,.slice none 0 0,.int .i64 0,.int .i64 0,.int .i64 0,.slice none 0 0,.slice none 0 0,.slice none 0 0]):=EB.out.later b
  have VB:Hid (Bx w3 (w.heap.size+2) 45 [.int .i64 d.id,.bool d.dead,.int .i64 0,.int .i64 0,.slice none 0 0,.slice none 0 0,.slice none 0 0,.slice none 0 0,.int .i64 0,.int .i64 0,.int .i64 0,.int .i64 0,.int .i64 0,.int .i64 0,.int .i64 0,.int .i64 0,.int .i64 0,.slice none 0 0,.int .i64 0,.int .i64 0,.int .i64 0,.slice none 0 0,.slice none 0 0,.slice none 0 0]):=VB.out.later b
  have BW:Hid (Below w.heap.size w w3):=qAa BW.out b
  clear b
  go_wp2_with (first|(with_reducible refine qAc 41 _ _ rfl ?_))
  refine Stp.go ?_
  refine qAf rfl 41 _ _ rfl (w.heap.size+2) 2 rfl 45 _ VB.out [.int .i64 d.m.id,.int .i64 d.m.rid,.slice u.ms.a u.ms.n u.ms.c,.slice u.its.a u.its.n u.its.c,.slice u.lv.a u.lv.n u.lv.c,.slice u.tx.a u.tx.n u.tx.c,.int .i64 d.m.rd,.int .i64 d.m.se,.int .i64 d.m.li,.int .i64 d.m.he,.int .i64 d.m.la.c,.int .i64 d.m.la.r,.int .i64 d.m.la.q,.int .i64 d.m.la.a,.int .i64 d.m.la.b,.slice u.ws.a u.ws.n u.ws.c] rfl (by simp) Tryz.sizeM rfl [.int .i64 d.id,.bool d.dead,.int .i64 d.m.id,.int .i64 d.m.rid,.slice u.ms.a u.ms.n u.ms.c,.slice u.its.a u.its.n u.its.c,.slice u.lv.a u.lv.n u.lv.c,.slice u.tx.a u.tx.n u.tx.c,.int .i64 d.m.rd,.int .i64 d.m.se,.int .i64 d.m.li,.int .i64 d.m.he,.int .i64 d.m.la.c,.int .i64 d.m.la.r,.int .i64 d.m.la.q,.int .i64 d.m.la.a,.int .i64 d.m.la.b,.slice u.ws.a u.ws.n u.ws.c,.int .i64 0,.int .i64 0,.int .i64 0,.slice none 0 0,.slice none 0 0,.slice none 0 0] rfl ?_
  intro w4 OB TB
  have z_w4:w3.heap.size≤w4.heap.size:=Nat.le_of_eq TB.size.symm
  have LA:Hid (Bx w4 w.heap.size 34 [.int .i64 d.id,.bool d.dead,.int .i64 d.m.id,.int .i64 d.m.rid,.slice d.mv.ms.a d.mv.ms.n d.mv.ms.c,.slice d.mv.its.a d.mv.its.n d.mv.its.c,.slice d.mv.lv.a d.mv.lv.n d.mv.lv.c,.slice d.mv.tx.a d.mv.tx.n d.mv.tx.c,.int .i64 d.m.rd,.int .i64 d.m.se,.int .i64 d.m.li,.int .i64 d.m.he,.int .i64 d.m.la.c,.int .i64 d.m.la.r,.int .i64 d.m.la.q,.int .i64 d.m.la.a,.int .i64 d.m.la.b,.slice d.mv.ws.a d.mv.ws.n d.mv.ws.c,.int .i64 d.most,.int .i64 d.old,.int .i64 d.jid,.slice d.js.a d.js.n d.js.c,.slice d.bs.a d.bs.n d.bs.c,.slice d.ls.a d.ls.n d.ls.c]):=LA.out.turn TB (by omega)
  have EB:Hid (Bx w4 (w.heap.size+1) 45 [.int .i64 0,.bool false,.int .i64 0,.int .i64 0,.slice none 0 0,.slice none 0 0,.slice none 0 0,.slice none 0 0,.int .i64 0,.int .i64 0,.int .i64 0,.int .i64 0,.int .i64 0,.int .i64 0,.int .i64 0,.int .i64 0,.int .i64 0,.slice none 0 0,.int .i64 0,.int .i64 0,.int .i64 0,.slice none 0 0,.slice none 0 0,.slice none 0 0]):=EB.out.turn TB (by omega)
  have BW:Hid (Below w.heap.size w w4):=BW.out.trans (TB.below (by omega))
  have MO:Hid (MtO w4 (w.heap.size+3) d.m u):=MO.out.keep fun b hb _=>TB.block b (by have:=(MO.out.lt hb).1;omega)
  have VB:Hid (Bx w4 (w.heap.size+2) 45 [.int .i64 d.id,.bool d.dead,.int .i64 d.m.id,.int .i64 d.m.rid,.slice u.ms.a u.ms.n u.ms.c,.slice u.its.a u.its.n u.its.c,.slice u.lv.a u.lv.n u.lv.c,.slice u.tx.a u.tx.n u.tx.c,.int .i64 d.m.rd,.int .i64 d.m.se,.int .i64 d.m.li,.int .i64 d.m.he,.int .i64 d.m.la.c,.int .i64 d.m.la.r,.int .i64 d.m.la.q,.int .i64 d.m.la.a,.int .i64 d.m.la.b,.slice u.ws.a u.ws.n u.ws.c,.int .i64 0,.int .i64 0,.int .i64 0,.slice none 0 0,.slice none 0 0,.slice none 0 0]):=OB
  clear OB TB
  have c18:=LA.out.cell 18
  simp only[List.getElem?_cons_succ,List.getElem?_cons_zero]at c18
  go_wp2_with (first|(with_reducible refine qAc 3 _ _ rfl ?_))
  refine Stp.go ?_
  clear c18
  refine qAg rfl 3 _ _ rfl (w.heap.size+2) 18 rfl 45 _ VB.out (.int .i64 d.most) rfl (by simp) rfl Tryz.size3 [.int .i64 d.id,.bool d.dead,.int .i64 d.m.id,.int .i64 d.m.rid,.slice u.ms.a u.ms.n u.ms.c,.slice u.its.a u.its.n u.its.c,.slice u.lv.a u.lv.n u.lv.c,.slice u.tx.a u.tx.n u.tx.c,.int .i64 d.m.rd,.int .i64 d.m.se,.int .i64 d.m.li,.int .i64 d.m.he,.int .i64 d.m.la.c,.int .i64 d.m.la.r,.int .i64 d.m.la.q,.int .i64 d.m.la.a,.int .i64 d.m.la.b,.slice u.ws.a u.ws.n u.ws.c,.int .i64 d.most,.int .i64 0,.int .i64 0,.slice none 0 0,.slice none 0 0,.slice none 0 0] rfl ?_
  intro w5 OB TB
  have z_w5:w4.heap.size≤w5.heap.size:=Nat.le_of_eq TB.size.symm
  have LA:Hid (Bx w5 w.heap.size 34 [.int .i64 d.id,.bool d.dead,.int .i64 d.m.id,.int .i64 d.m.rid,.slice d.mv.ms.a d.mv.ms.n d.mv.ms.c,.slice d.mv.its.a d.mv.its.n d.mv.its.c,.slice d.mv.lv.a d.mv.lv.n d.mv.lv.c,.slice d.mv.tx.a d.mv.tx.n d.mv.tx.c,.int .i64 d.m.rd,.int .i64 d.m.se,.int .i64 d.m.li,.int .i64 d.m.he,.int .i64 d.m.la.c,.int .i64 d.m.la.r,.int .i64 d.m.la.q,.int .i64 d.m.la.a,.int .i64 d.m.la.b,.slice d.mv.ws.a d.mv.ws.n d.mv.ws.c,.int .i64 d.most,.int .i64 d.old,.int .i64 d.jid,.slice d.js.a d.js.n d.js.c,.slice d.bs.a d.bs.n d.bs.c,.slice d.ls.a d.ls.n d.ls.c]):=LA.out.turn TB (by omega)
  have EB:Hid (Bx w5 (w.heap.size+1) 45 [.int .i64 0,.bool false,.int .i64 0,.int .i64 0,.slice none 0 0,.slice none 0 0,.slice none 0 0,.slice none 0 0,.int .i64 0,.int .i64 0,.int .i64 0,.int .i64 0,.int .i64 0,.int .i64 0,.int .i64 0,.int .i64 0,.int .i64 0,.slice none 0 0,.int .i64 0,.int .i64 0,.int .i64 0,.slice none 0 0,.slice none 0 0,.slice none 0 0]):=EB.out.turn TB (by omega)
  have BW:Hid (Below w.heap.size w w5):=BW.out.trans (TB.below (by omega))
  have MO:Hid (MtO w5 (w.heap.size+3) d.m u):=MO.out.keep fun b hb _=>TB.block b (by have:=(MO.out.lt hb).1;omega)
  have VB:Hid (Bx w5 (w.heap.size+2) 45 [.int .i64 d.id,.bool d.dead,.int .i64 d.m.id,.int .i64 d.m.rid,.slice u.ms.a u.ms.n u.ms.c,.slice u.its.a u.its.n u.its.c,.slice u.lv.a u.lv.n u.lv.c,.slice u.tx.a u.tx.n u.tx.c,.int .i64 d.m.rd,.int .i64 d.m.se,.int .i64 d.m.li,.int .i64 d.m.he,.int .i64 d.m.la.c,.int .i64 d.m.la.r,.int .i64 d.m.la.q,.int .i64 d.m.la.a,.int .i64 d.m.la.b,.slice u.ws.a u.ws.n u.ws.c,.int .i64 d.most,.int .i64 0,.int .i64 0,.slice none 0 0,.slice none 0 0,.slice none 0 0]):=OB
  clear OB TB
  have c19:=LA.out.cell 19
  simp only[List.getElem?_cons_succ,List.getElem?_cons_zero]at c19
  go_wp2_with (first|(with_reducible refine qAc 3 _ _ rfl ?_))
  refine Stp.go ?_
  clear c19
  refine qAg rfl 3 _ _ rfl (w.heap.size+2) 19 rfl 45 _ VB.out (.int .i64 d.old) rfl (by simp) rfl Tryz.size3 [.int .i64 d.id,.bool d.dead,.int .i64 d.m.id,.int .i64 d.m.rid,.slice u.ms.a u.ms.n u.ms.c,.slice u.its.a u.its.n u.its.c,.slice u.lv.a u.lv.n u.lv.c,.slice u.tx.a u.tx.n u.tx.c,.int .i64 d.m.rd,.int .i64 d.m.se,.int .i64 d.m.li,.int .i64 d.m.he,.int .i64 d.m.la.c,.int .i64 d.m.la.r,.int .i64 d.m.la.q,.int .i64 d.m.la.a,.int .i64 d.m.la.b,.slice u.ws.a u.ws.n u.ws.c,.int .i64 d.most,.int .i64 d.old,.int .i64 0,.slice none 0 0,.slice none 0 0,.slice none 0 0] rfl ?_
  intro w6 OB TB
  have z_w6:w5.heap.size≤w6.heap.size:=Nat.le_of_eq TB.size.symm
  have LA:Hid (Bx w6 w.heap.size 34 [.int .i64 d.id,.bool d.dead,.int .i64 d.m.id,.int .i64 d.m.rid,.slice d.mv.ms.a d.mv.ms.n d.mv.ms.c,.slice d.mv.its.a d.mv.its.n d.mv.its.c,.slice d.mv.lv.a d.mv.lv.n d.mv.lv.c,.slice d.mv.tx.a d.mv.tx.n d.mv.tx.c,.int .i64 d.m.rd,.int .i64 d.m.se,.int .i64 d.m.li,.int .i64 d.m.he,.int .i64 d.m.la.c,.int .i64 d.m.la.r,.int .i64 d.m.la.q,.int .i64 d.m.la.a,.int .i64 d.m.la.b,.slice d.mv.ws.a d.mv.ws.n d.mv.ws.c,.int .i64 d.most,.int .i64 d.old,.int .i64 d.jid,.slice d.js.a d.js.n d.js.c,.slice d.bs.a d.bs.n d.bs.c,.slice d.ls.a d.ls.n d.ls.c]):=LA.out.turn TB (by omega)
  have EB:Hid (Bx w6 (w.heap.size+1) 45 [.int .i64 0,.bool false,.int .i64 0,.int .i64 0,.slice none 0 0,.slice none 0 0,.slice none 0 0,.slice none 0 0,.int .i64 0,.int .i64 0,.int .i64 0,.int .i64 0,.int .i64 0,.int .i64 0,.int .i64 0,.int .i64 0,.int .i64 0,.slice none 0 0,.int .i64 0,.int .i64 0,.int .i64 0,.slice none 0 0,.slice none 0 0,.slice none 0 0]):=EB.out.turn TB (by omega)
  have BW:Hid (Below w.heap.size w w6):=BW.out.trans (TB.below (by omega))
  have MO:Hid (MtO w6 (w.heap.size+3) d.m u):=MO.out.keep fun b hb _=>TB.block b (by have:=(MO.out.lt hb).1;omega)
  have VB:Hid (Bx w6 (w.heap.size+2) 45 [.int .i64 d.id,.bool d.dead,.int .i64 d.m.id,.int .i64 d.m.rid,.slice u.ms.a u.ms.n u.ms.c,.slice u.its.a u.its.n u.its.c,.slice u.lv.a u.lv.n u.lv.c,.slice u.tx.a u.tx.n u.tx.c,.int .i64 d.m.rd,.int .i64 d.m.se,.int .i64 d.m.li,.int .i64 d.m.he,.int .i64 d.m.la.c,.int .i64 d.m.la.r,.int .i64 d.m.la.q,.int .i64 d.m.la.a,.int .i64 d.m.la.b,.slice u.ws.a u.ws.n u.ws.c,.int .i64 d.most,.int .i64 d.old,.int .i64 0,.slice none 0 0,.slice none 0 0,.slice none 0 0]):=OB
  clear OB TB
  have HR:Hid (RI w6 d.js.v d.jms):=h0.out.jo.stays BW.out
  go_wp2_with (first|(refine qAb rfl 24 _ rfl w.heap.size 20 rfl 34 _ LA.out [.int .i64 d.jid,.slice d.js.a d.js.n d.js.c] rfl _ Tryz.underlying24 rfl Tryz.sizeLR ?_))
  refine(qGh d.jid d.js d.jms _ HR hs.out.jo).mono ?_
  rintro e w7 ⟨s1,rfl,o1,b⟩
  have JO:Hid (OwnI w7 (w.heap.size+3) s1.v d.jms):=o1.down (by omega)
  have JL:Hid (∀x,s1.v.ownBlock=some x→w6.heap.size≤x∧x<w7.heap.size):=fun x hx=>o1.lt x hx
  clear o1 HR
  have z_w7:w6.heap.size≤w7.heap.size:=b.size
  have LA:Hid (Bx w7 w.heap.size 34 [.int .i64 d.id,.bool d.dead,.int .i64 d.m.id,.int .i64 d.m.rid,.slice d.mv.ms.a d.mv.ms.n d.mv.ms.c,.slice d.mv.its.a d.mv.its.n d.mv.its.c,.slice d.mv.lv.a d.mv.lv.n d.mv.lv.c,.slice d.mv.tx.a d.mv.tx.n d.mv.tx.c,.int .i64 d.m.rd,.int .i64 d.m.se,.int .i64 d.m.li,.int .i64 d.m.he,.int .i64 d.m.la.c,.int .i64 d.m.la.r,.int .i64 d.m.la.q,.int .i64 d.m.la.a,.int .i64 d.m.la.b,.slice d.mv.ws.a d.mv.ws.n d.mv.ws.c,.int .i64 d.most,.int .i64 d.old,.int .i64 d.jid,.slice d.js.a d.js.n d.js.c,.slice d.bs.a d.bs.n d.bs.c,.slice d.ls.a d.ls.n d.ls.c]):=LA.out.later b
  have EB:Hid (Bx w7 (w.heap.size+1) 45 [.int .i64 0,.bool false,.int .i64 0,.int .i64 0,.slice none 0 0,.slice none 0 0,.slice none 0 0,.slice none 0 0,.int .i64 0,.int .i64 0,.int .i64 0,.int .i64 0,.int .i64 0,.int .i64 0,.int .i64 0,.int .i64 0,.int .i64 0,.slice none 0 0,.int .i64 0,.int .i64 0,.int .i64 0,.slice none 0 0,.slice none 0 0,.slice none 0 0]):=EB.out.later b
  have VB:Hid (Bx w7 (w.heap.size+2) 45 [.int .i64 d.id,.bool d.dead,.int .i64 d.m.id,.int .i64 d.m.rid,.slice u.ms.a u.ms.n u.ms.c,.slice u.its.a u.its.n u.its.c,.slice u.lv.a u.lv.n u.lv.c,.slice u.tx.a u.tx.n u.tx.c,.int .i64 d.m.rd,.int .i64 d.m.se,.int .i64 d.m.li,.int .i64 d.m.he,.int .i64 d.m.la.c,.int .i64 d.m.la.r,.int .i64 d.m.la.q,.int .i64 d.m.la.a,.int .i64 d.m.la.b,.slice u.ws.a u.ws.n u.ws.c,.int .i64 d.most,.int .i64 d.old,.int .i64 0,.slice none 0 0,.slice none 0 0,.slice none 0 0]):=VB.out.later b
  have BW:Hid (Below w.heap.size w w7):=qAa BW.out b
  have MO:Hid (MtO w7 (w.heap.size+3) d.m u):=MO.out.later b
  clear b
  go_wp2_with (first|(with_reducible refine qAc 37 _ _ rfl ?_))
  refine Stp.go ?_
  refine qAf rfl 37 _ _ rfl (w.heap.size+2) 20 rfl 45 _ VB.out [.int .i64 d.jid,.slice s1.a s1.n s1.c] rfl (by simp) Tryz.sizeR rfl [.int .i64 d.id,.bool d.dead,.int .i64 d.m.id,.int .i64 d.m.rid,.slice u.ms.a u.ms.n u.ms.c,.slice u.its.a u.its.n u.its.c,.slice u.lv.a u.lv.n u.lv.c,.slice u.tx.a u.tx.n u.tx.c,.int .i64 d.m.rd,.int .i64 d.m.se,.int .i64 d.m.li,.int .i64 d.m.he,.int .i64 d.m.la.c,.int .i64 d.m.la.r,.int .i64 d.m.la.q,.int .i64 d.m.la.a,.int .i64 d.m.la.b,.slice u.ws.a u.ws.n u.ws.c,.int .i64 d.most,.int .i64 d.old,.int .i64 d.jid,.slice s1.a s1.n s1.c,.slice none 0 0,.slice none 0 0] rfl ?_
  intro w8 OB TB
  have z_w8:w7.heap.size≤w8.heap.size:=Nat.le_of_eq TB.size.symm
  have LA:Hid (Bx w8 w.heap.size 34 [.int .i64 d.id,.bool d.dead,.int .i64 d.m.id,.int .i64 d.m.rid,.slice d.mv.ms.a d.mv.ms.n d.mv.ms.c,.slice d.mv.its.a d.mv.its.n d.mv.its.c,.slice d.mv.lv.a d.mv.lv.n d.mv.lv.c,.slice d.mv.tx.a d.mv.tx.n d.mv.tx.c,.int .i64 d.m.rd,.int .i64 d.m.se,.int .i64 d.m.li,.int .i64 d.m.he,.int .i64 d.m.la.c,.int .i64 d.m.la.r,.int .i64 d.m.la.q,.int .i64 d.m.la.a,.int .i64 d.m.la.b,.slice d.mv.ws.a d.mv.ws.n d.mv.ws.c,.int .i64 d.most,.int .i64 d.old,.int .i64 d.jid,.slice d.js.a d.js.n d.js.c,.slice d.bs.a d.bs.n d.bs.c,.slice d.ls.a d.ls.n d.ls.c]):=LA.out.turn TB (by omega)
  have EB:Hid (Bx w8 (w.heap.size+1) 45 [.int .i64 0,.bool false,.int .i64 0,.int .i64 0,.slice none 0 0,.slice none 0 0,.slice none 0 0,.slice none 0 0,.int .i64 0,.int .i64 0,.int .i64 0,.int .i64 0,.int .i64 0,.int .i64 0,.int .i64 0,.int .i64 0,.int .i64 0,.slice none 0 0,.int .i64 0,.int .i64 0,.int .i64 0,.slice none 0 0,.slice none 0 0,.slice none 0 0]):=EB.out.turn TB (by omega)
  have BW:Hid (Below w.heap.size w w8):=BW.out.trans (TB.below (by omega))
  have MO:Hid (MtO w8 (w.heap.size+3) d.m u):=MO.out.keep fun b hb _=>TB.block b (by have:=(MO.out.lt hb).1;omega)
  have JO:Hid (OwnI w8 (w.heap.size+3) s1.v d.jms):=JO.out.keep fun b hb _=>TB.block b (by have:=(JO.out.lt b hb).1;omega)
  have VB:Hid (Bx w8 (w.heap.size+2) 45 [.int .i64 d.id,.bool d.dead,.int .i64 d.m.id,.int .i64 d.m.rid,.slice u.ms.a u.ms.n u.ms.c,.slice u.its.a u.its.n u.its.c,.slice u.lv.a u.lv.n u.lv.c,.slice u.tx.a u.tx.n u.tx.c,.int .i64 d.m.rd,.int .i64 d.m.se,.int .i64 d.m.li,.int .i64 d.m.he,.int .i64 d.m.la.c,.int .i64 d.m.la.r,.int .i64 d.m.la.q,.int .i64 d.m.la.a,.int .i64 d.m.la.b,.slice u.ws.a u.ws.n u.ws.c,.int .i64 d.most,.int .i64 d.old,.int .i64 d.jid,.slice s1.a s1.n s1.c,.slice none 0 0,.slice none 0 0]):=OB
  clear OB TB
  have HR:Hid (BusR w8 d.bs d.bu):=h0.out.bu.stays BW.out
  have c22:=LA.out.cell 22
  simp only[List.getElem?_cons_succ,List.getElem?_cons_zero]at c22
  go_wp2_with fail
  clear c22
  refine(qGi d.bs d.bu _ HR hs.out.bus.1 hs.out.bus.2).mono ?_
  rintro e w9 ⟨s2,cs,rfl,p2,o2,up2,r2,b⟩
  have BO:Hid (BusO w9 (w.heap.size+3) s2 cs):=o2.down (by omega)
  have BP:Hid (cs.map Bu.pl=d.bu.map Bu.pl):=p2
  have BA:Hid (BusA s2 cs):=up2.a fun b hb=>(r2 b hb).2
  have BL:Hid (∀x,qCd s2 cs x→w8.heap.size≤x∧x<w9.heap.size):=fun x hx=>o2.olt hx
  clear o2 p2 up2 r2 HR
  have z_w9:w8.heap.size≤w9.heap.size:=b.size
  have LA:Hid (Bx w9 w.heap.size 34 [.int .i64 d.id,.bool d.dead,.int .i64 d.m.id,.int .i64 d.m.rid,.slice d.mv.ms.a d.mv.ms.n d.mv.ms.c,.slice d.mv.its.a d.mv.its.n d.mv.its.c,.slice d.mv.lv.a d.mv.lv.n d.mv.lv.c,.slice d.mv.tx.a d.mv.tx.n d.mv.tx.c,.int .i64 d.m.rd,.int .i64 d.m.se,.int .i64 d.m.li,.int .i64 d.m.he,.int .i64 d.m.la.c,.int .i64 d.m.la.r,.int .i64 d.m.la.q,.int .i64 d.m.la.a,.int .i64 d.m.la.b,.slice d.mv.ws.a d.mv.ws.n d.mv.ws.c,.int .i64 d.most,.int .i64 d.old,.int .i64 d.jid,.slice d.js.a d.js.n d.js.c,.slice d.bs.a d.bs.n d.bs.c,.slice d.ls.a d.ls.n d.ls.c]):=LA.out.later b
  have EB:Hid (Bx w9 (w.heap.size+1) 45 [.int .i64 0,.bool false,.int .i64 0,.int .i64 0,.slice none 0 0,.slice none 0 0,.slice none 0 0,.slice none 0 0,.int .i64 0,.int .i64 0,.int .i64 0,.int .i64 0,.int .i64 0,.int .i64 0,.int .i64 0,.int .i64 0,.int .i64 0,.slice none 0 0,.int .i64 0,.int .i64 0,.int .i64 0,.slice none 0 0,.slice none 0 0,.slice none 0 0]):=EB.out.later b
  have VB:Hid (Bx w9 (w.heap.size+2) 45 [.int .i64 d.id,.bool d.dead,.int .i64 d.m.id,.int .i64 d.m.rid,.slice u.ms.a u.ms.n u.ms.c,.slice u.its.a u.its.n u.its.c,.slice u.lv.a u.lv.n u.lv.c,.slice u.tx.a u.tx.n u.tx.c,.int .i64 d.m.rd,.int .i64 d.m.se,.int .i64 d.m.li,.int .i64 d.m.he,.int .i64 d.m.la.c,.int .i64 d.m.la.r,.int .i64 d.m.la.q,.int .i64 d.m.la.a,.int .i64 d.m.la.b,.slice u.ws.a u.ws.n u.ws.c,.int .i64 d.most,.int .i64 d.old,.int .i64 d.jid,.slice s1.a s1.n s1.c,.slice none 0 0,.slice none 0 0]):=VB.out.later b
  have BW:Hid (Below w.heap.size w w9):=qAa BW.out b
  have MO:Hid (MtO w9 (w.heap.size+3) d.m u):=MO.out.later b
  have JO:Hid (OwnI w9 (w.heap.size+3) s1.v d.jms):=JO.out.keep fun _ _ hk=>(b).block _ hk
  clear b
  go_wp2_with (first|(with_reducible refine qAc 42 _ _ rfl ?_))
  refine Stp.go ?_
  refine qAg rfl 42 _ _ rfl (w.heap.size+2) 22 rfl 45 _ VB.out (.slice s2.a s2.n s2.c) rfl (by simp) rfl Tryz.sizeBus [.int .i64 d.id,.bool d.dead,.int .i64 d.m.id,.int .i64 d.m.rid,.slice u.ms.a u.ms.n u.ms.c,.slice u.its.a u.its.n u.its.c,.slice u.lv.a u.lv.n u.lv.c,.slice u.tx.a u.tx.n u.tx.c,.int .i64 d.m.rd,.int .i64 d.m.se,.int .i64 d.m.li,.int .i64 d.m.he,.int .i64 d.m.la.c,.int .i64 d.m.la.r,.int .i64 d.m.la.q,.int .i64 d.m.la.a,.int .i64 d.m.la.b,.slice u.ws.a u.ws.n u.ws.c,.int .i64 d.most,.int .i64 d.old,.int .i64 d.jid,.slice s1.a s1.n s1.c,.slice s2.a s2.n s2.c,.slice none 0 0] rfl ?_
  intro w10 OB TB
  have z_w10:w9.heap.size≤w10.heap.size:=Nat.le_of_eq TB.size.symm
  have LA:Hid (Bx w10 w.heap.size 34 [.int .i64 d.id,.bool d.dead,.int .i64 d.m.id,.int .i64 d.m.rid,.slice d.mv.ms.a d.mv.ms.n d.mv.ms.c,.slice d.mv.its.a d.mv.its.n d.mv.its.c,.slice d.mv.lv.a d.mv.lv.n d.mv.lv.c,.slice d.mv.tx.a d.mv.tx.n d.mv.tx.c,.int .i64 d.m.rd,.int .i64 d.m.se,.int .i64 d.m.li,.int .i64 d.m.he,.int .i64 d.m.la.c,.int .i64 d.m.la.r,.int .i64 d.m.la.q,.int .i64 d.m.la.a,.int .i64 d.m.la.b,.slice d.mv.ws.a d.mv.ws.n d.mv.ws.c,.int .i64 d.most,.int .i64 d.old,.int .i64 d.jid,.slice d.js.a d.js.n d.js.c,.slice d.bs.a d.bs.n d.bs.c,.slice d.ls.a d.ls.n d.ls.c]):=LA.out.turn TB (by omega)
  have EB:Hid (Bx w10 (w.heap.size+1) 45 [.int .i64 0,.bool false,.int .i64 0,.int .i64 0,.slice none 0 0,.slice none 0 0,.slice none 0 0,.slice none 0 0,.int .i64 0,.int .i64 0,.int .i64 0,.int .i64 0,.int .i64 0,.int .i64 0,.int .i64 0,.int .i64 0,.int .i64 0,.slice none 0 0,.int .i64 0,.int .i64 0,.int .i64 0,.slice none 0 0,.slice none 0 0,.slice none 0 0]):=EB.out.turn TB (by omega)
  have BW:Hid (Below w.heap.size w w10):=BW.out.trans (TB.below (by omega))
  have MO:Hid (MtO w10 (w.heap.size+3) d.m u):=MO.out.keep fun b hb _=>TB.block b (by have:=(MO.out.lt hb).1;omega)
  have JO:Hid (OwnI w10 (w.heap.size+3) s1.v d.jms):=JO.out.keep fun b hb _=>TB.block b (by have:=(JO.out.lt b hb).1;omega)
  have BO:Hid (BusO w10 (w.heap.size+3) s2 cs):=BO.out.keep fun b hb _=>TB.block b (by omega)
  have VB:Hid (Bx w10 (w.heap.size+2) 45 [.int .i64 d.id,.bool d.dead,.int .i64 d.m.id,.int .i64 d.m.rid,.slice u.ms.a u.ms.n u.ms.c,.slice u.its.a u.its.n u.its.c,.slice u.lv.a u.lv.n u.lv.c,.slice u.tx.a u.tx.n u.tx.c,.int .i64 d.m.rd,.int .i64 d.m.se,.int .i64 d.m.li,.int .i64 d.m.he,.int .i64 d.m.la.c,.int .i64 d.m.la.r,.int .i64 d.m.la.q,.int .i64 d.m.la.a,.int .i64 d.m.la.b,.slice u.ws.a u.ws.n u.ws.c,.int .i64 d.most,.int .i64 d.old,.int .i64 d.jid,.slice s1.a s1.n s1.c,.slice s2.a s2.n s2.c,.slice none 0 0]):=OB
  clear OB TB
  have HR:Hid (EvsR w10 d.ls d.lo):=h0.out.lo.stays BW.out
  have c23:=LA.out.cell 23
  simp only[List.getElem?_cons_succ,List.getElem?_cons_zero]at c23
  go_wp2_with fail
  clear c23
  refine(toEvents_any d.ls d.lo _ HR hs.out.los.1 hs.out.los.2).mono ?_
  rintro e w11 ⟨s3,es,rfl,p2,o2,up2,r2,b⟩
  have LO:Hid (EvsO w11 (w.heap.size+3) s3 es):=o2.down (by omega)
  have LP:Hid (es.map Ev.pl=d.lo.map Ev.pl):=p2
  have LA2:Hid (EvsA s3 es):=up2.a fun b hb=>(r2 b hb).2
  have LL:Hid (∀x,qCc s3 es x→w10.heap.size≤x∧x<w11.heap.size):=fun x hx=>o2.olt hx
  clear o2 p2 up2 r2 HR
  have z_w11:w10.heap.size≤w11.heap.size:=b.size
  have LA:Hid (Bx w11 w.heap.size 34 [.int .i64 d.id,.bool d.dead,.int .i64 d.m.id,.int .i64 d.m.rid,.slice d.mv.ms.a d.mv.ms.n d.mv.ms.c,.slice d.mv.its.a d.mv.its.n d.mv.its.c,.slice d.mv.lv.a d.mv.lv.n d.mv.lv.c,.slice d.mv.tx.a d.mv.tx.n d.mv.tx.c,.int .i64 d.m.rd,.int .i64 d.m.se,.int .i64 d.m.li,.int .i64 d.m.he,.int .i64 d.m.la.c,.int .i64 d.m.la.r,.int .i64 d.m.la.q,.int .i64 d.m.la.a,.int .i64 d.m.la.b,.slice d.mv.ws.a d.mv.ws.n d.mv.ws.c,.int .i64 d.most,.int .i64 d.old,.int .i64 d.jid,.slice d.js.a d.js.n d.js.c,.slice d.bs.a d.bs.n d.bs.c,.slice d.ls.a d.ls.n d.ls.c]):=LA.out.later b
  have EB:Hid (Bx w11 (w.heap.size+1) 45 [.int .i64 0,.bool false,.int .i64 0,.int .i64 0,.slice none 0 0,.slice none 0 0,.slice none 0 0,.slice none 0 0,.int .i64 0,.int .i64 0,.int .i64 0,.int .i64 0,.int .i64 0,.int .i64 0,.int .i64 0,.int .i64 0,.int .i64 0,.slice none 0 0,.int .i64 0,.int .i64 0,.int .i64 0,.slice none 0 0,.slice none 0 0,.slice none 0 0]):=EB.out.later b
  have VB:Hid (Bx w11 (w.heap.size+2) 45 [.int .i64 d.id,.bool d.dead,.int .i64 d.m.id,.int .i64 d.m.rid,.slice u.ms.a u.ms.n u.ms.c,.slice u.its.a u.its.n u.its.c,.slice u.lv.a u.lv.n u.lv.c,.slice u.tx.a u.tx.n u.tx.c,.int .i64 d.m.rd,.int .i64 d.m.se,.int .i64 d.m.li,.int .i64 d.m.he,.int .i64 d.m.la.c,.int .i64 d.m.la.r,.int .i64 d.m.la.q,.int .i64 d.m.la.a,.int .i64 d.m.la.b,.slice u.ws.a u.ws.n u.ws.c,.int .i64 d.most,.int .i64 d.old,.int .i64 d.jid,.slice s1.a s1.n s1.c,.slice s2.a s2.n s2.c,.slice none 0 0]):=VB.out.later b
  have BW:Hid (Below w.heap.size w w11):=qAa BW.out b
  have MO:Hid (MtO w11 (w.heap.size+3) d.m u):=MO.out.later b
  have JO:Hid (OwnI w11 (w.heap.size+3) s1.v d.jms):=JO.out.keep fun _ _ hk=>(b).block _ hk
  have BO:Hid (BusO w11 (w.heap.size+3) s2 cs):=BO.out.below b
  clear b
  go_wp2_with (first|(with_reducible refine qAc 43 _ _ rfl ?_))
  refine Stp.go ?_
  refine qAg rfl 43 _ _ rfl (w.heap.size+2) 23 rfl 45 _ VB.out (.slice s3.a s3.n s3.c) rfl (by simp) rfl Tryz.sizeEvs [.int .i64 d.id,.bool d.dead,.int .i64 d.m.id,.int .i64 d.m.rid,.slice u.ms.a u.ms.n u.ms.c,.slice u.its.a u.its.n u.its.c,.slice u.lv.a u.lv.n u.lv.c,.slice u.tx.a u.tx.n u.tx.c,.int .i64 d.m.rd,.int .i64 d.m.se,.int .i64 d.m.li,.int .i64 d.m.he,.int .i64 d.m.la.c,.int .i64 d.m.la.r,.int .i64 d.m.la.q,.int .i64 d.m.la.a,.int .i64 d.m.la.b,.slice u.ws.a u.ws.n u.ws.c,.int .i64 d.most,.int .i64 d.old,.int .i64 d.jid,.slice s1.a s1.n s1.c,.slice s2.a s2.n s2.c,.slice s3.a s3.n s3.c] rfl ?_
  intro w12 OB TB
  have z_w12:w11.heap.size≤w12.heap.size:=Nat.le_of_eq TB.size.symm
  have LA:Hid (Bx w12 w.heap.size 34 [.int .i64 d.id,.bool d.dead,.int .i64 d.m.id,.int .i64 d.m.rid,.slice d.mv.ms.a d.mv.ms.n d.mv.ms.c,.slice d.mv.its.a d.mv.its.n d.mv.its.c,.slice d.mv.lv.a d.mv.lv.n d.mv.lv.c,.slice d.mv.tx.a d.mv.tx.n d.mv.tx.c,.int .i64 d.m.rd,.int .i64 d.m.se,.int .i64 d.m.li,.int .i64 d.m.he,.int .i64 d.m.la.c,.int .i64 d.m.la.r,.int .i64 d.m.la.q,.int .i64 d.m.la.a,.int .i64 d.m.la.b,.slice d.mv.ws.a d.mv.ws.n d.mv.ws.c,.int .i64 d.most,.int .i64 d.old,.int .i64 d.jid,.slice d.js.a d.js.n d.js.c,.slice d.bs.a d.bs.n d.bs.c,.slice d.ls.a d.ls.n d.ls.c]):=LA.out.turn TB (by omega)
  have EB:Hid (Bx w12 (w.heap.size+1) 45 [.int .i64 0,.bool false,.int .i64 0,.int .i64 0,.slice none 0 0,.slice none 0 0,.slice none 0 0,.slice none 0 0,.int .i64 0,.int .i64 0,.int .i64 0,.int .i64 0,.int .i64 0,.int .i64 0,.int .i64 0,.int .i64 0,.int .i64 0,.slice none 0 0,.int .i64 0,.int .i64 0,.int .i64 0,.slice none 0 0,.slice none 0 0,.slice none 0 0]):=EB.out.turn TB (by omega)
  have BW:Hid (Below w.heap.size w w12):=BW.out.trans (TB.below (by omega))
  have MO:Hid (MtO w12 (w.heap.size+3) d.m u):=MO.out.keep fun b hb _=>TB.block b (by have:=(MO.out.lt hb).1;omega)
  have JO:Hid (OwnI w12 (w.heap.size+3) s1.v d.jms):=JO.out.keep fun b hb _=>TB.block b (by have:=(JO.out.lt b hb).1;omega)
  have BO:Hid (BusO w12 (w.heap.size+3) s2 cs):=BO.out.keep fun b hb _=>TB.block b (by omega)
  have LO:Hid (EvsO w12 (w.heap.size+3) s3 es):=LO.out.keep fun b hb _=>TB.block b (by omega)
  have VB:Hid (Bx w12 (w.heap.size+2) 45 [.int .i64 d.id,.bool d.dead,.int .i64 d.m.id,.int .i64 d.m.rid,.slice u.ms.a u.ms.n u.ms.c,.slice u.its.a u.its.n u.its.c,.slice u.lv.a u.lv.n u.lv.c,.slice u.tx.a u.tx.n u.tx.c,.int .i64 d.m.rd,.int .i64 d.m.se,.int .i64 d.m.li,.int .i64 d.m.he,.int .i64 d.m.la.c,.int .i64 d.m.la.r,.int .i64 d.m.la.q,.int .i64 d.m.la.a,.int .i64 d.m.la.b,.slice u.ws.a u.ws.n u.ws.c,.int .i64 d.most,.int .i64 d.old,.int .i64 d.jid,.slice s1.a s1.n s1.c,.slice s2.a s2.n s2.c,.slice s3.a s3.n s3.c]):=OB
  clear OB TB
  go_wp2_with (first|(refine qAb rfl 45 _ rfl (w.heap.size+2) 0 rfl 45 _ VB.out [.int .i64 d.id,.bool d.dead,.int .i64 d.m.id,.int .i64 d.m.rid,.slice u.ms.a u.ms.n u.ms.c,.slice u.its.a u.its.n u.its.c,.slice u.lv.a u.lv.n u.lv.c,.slice u.tx.a u.tx.n u.tx.c,.int .i64 d.m.rd,.int .i64 d.m.se,.int .i64 d.m.li,.int .i64 d.m.he,.int .i64 d.m.la.c,.int .i64 d.m.la.r,.int .i64 d.m.la.q,.int .i64 d.m.la.a,.int .i64 d.m.la.b,.slice u.ws.a u.ws.n u.ws.c,.int .i64 d.most,.int .i64 d.old,.int .i64 d.jid,.slice s1.a s1.n s1.c,.slice s2.a s2.n s2.c,.slice s3.a s3.n s3.c] rfl _ Tryz.underlying45 rfl Tryz.sizeDa ?_)|(with_reducible refine qAc 45 _ _ rfl ?_))
  refine Stp.go ?_
  refine qAf rfl 45 _ _ rfl (w.heap.size+1) 0 rfl 45 _ EB.out [.int .i64 d.id,.bool d.dead,.int .i64 d.m.id,.int .i64 d.m.rid,.slice u.ms.a u.ms.n u.ms.c,.slice u.its.a u.its.n u.its.c,.slice u.lv.a u.lv.n u.lv.c,.slice u.tx.a u.tx.n u.tx.c,.int .i64 d.m.rd,.int .i64 d.m.se,.int .i64 d.m.li,.int .i64 d.m.he,.int .i64 d.m.la.c,.int .i64 d.m.la.r,.int .i64 d.m.la.q,.int .i64 d.m.la.a,.int .i64 d.m.la.b,.slice u.ws.a u.ws.n u.ws.c,.int .i64 d.most,.int .i64 d.old,.int .i64 d.jid,.slice s1.a s1.n s1.c,.slice s2.a s2.n s2.c,.slice s3.a s3.n s3.c] rfl (by simp) Tryz.sizeDa rfl [.int .i64 d.id,.bool d.dead,.int .i64 d.m.id,.int .i64 d.m.rid,.slice u.ms.a u.ms.n u.ms.c,.slice u.its.a u.its.n u.its.c,.slice u.lv.a u.lv.n u.lv.c,.slice u.tx.a u.tx.n u.tx.c,.int .i64 d.m.rd,.int .i64 d.m.se,.int .i64 d.m.li,.int .i64 d.m.he,.int .i64 d.m.la.c,.int .i64 d.m.la.r,.int .i64 d.m.la.q,.int .i64 d.m.la.a,.int .i64 d.m.la.b,.slice u.ws.a u.ws.n u.ws.c,.int .i64 d.most,.int .i64 d.old,.int .i64 d.jid,.slice s1.a s1.n s1.c,.slice s2.a s2.n s2.c,.slice s3.a s3.n s3.c] rfl ?_
  intro w13 OB TB
  have z_w13:w12.heap.size≤w13.heap.size:=Nat.le_of_eq TB.size.symm
  have LA:Hid (Bx w13 w.heap.size 34 [.int .i64 d.id,.bool d.dead,.int .i64 d.m.id,.int .i64 d.m.rid,.slice d.mv.ms.a d.mv.ms.n d.mv.ms.c,.slice d.mv.its.a d.mv.its.n d.mv.its.c,.slice d.mv.lv.a d.mv.lv.n d.mv.lv.c,.slice d.mv.tx.a d.mv.tx.n d.mv.tx.c,.int .i64 d.m.rd,.int .i64 d.m.se,.int .i64 d.m.li,.int .i64 d.m.he,.int .i64 d.m.la.c,.int .i64 d.m.la.r,.int .i64 d.m.la.q,.int .i64 d.m.la.a,.int .i64 d.m.la.b,.slice d.mv.ws.a d.mv.ws.n d.mv.ws.c,.int .i64 d.most,.int .i64 d.old,.int .i64 d.jid,.slice d.js.a d.js.n d.js.c,.slice d.bs.a d.bs.n d.bs.c,.slice d.ls.a d.ls.n d.ls.c]):=LA.out.turn TB (by omega)
  have VB:Hid (Bx w13 (w.heap.size+2) 45 [.int .i64 d.id,.bool d.dead,.int .i64 d.m.id,.int .i64 d.m.rid,.slice u.ms.a u.ms.n u.ms.c,.slice u.its.a u.its.n u.its.c,.slice u.lv.a u.lv.n u.lv.c,.slice u.tx.a u.tx.n u.tx.c,.int .i64 d.m.rd,.int .i64 d.m.se,.int .i64 d.m.li,.int .i64 d.m.he,.int .i64 d.m.la.c,.int .i64 d.m.la.r,.int .i64 d.m.la.q,.int .i64 d.m.la.a,.int .i64 d.m.la.b,.slice u.ws.a u.ws.n u.ws.c,.int .i64 d.most,.int .i64 d.old,.int .i64 d.jid,.slice s1.a s1.n s1.c,.slice s2.a s2.n s2.c,.slice s3.a s3.n s3.c]):=VB.out.turn TB (by omega)
  have BW:Hid (Below w.heap.size w w13):=BW.out.trans (TB.below (by omega))
  have MO:Hid (MtO w13 (w.heap.size+3) d.m u):=MO.out.keep fun b hb _=>TB.block b (by have:=(MO.out.lt hb).1;omega)
  have JO:Hid (OwnI w13 (w.heap.size+3) s1.v d.jms):=JO.out.keep fun b hb _=>TB.block b (by have:=(JO.out.lt b hb).1;omega)
  have BO:Hid (BusO w13 (w.heap.size+3) s2 cs):=BO.out.keep fun b hb _=>TB.block b (by omega)
  have LO:Hid (EvsO w13 (w.heap.size+3) s3 es):=LO.out.keep fun b hb _=>TB.block b (by omega)
  have EB:Hid (Bx w13 (w.heap.size+1) 45 [.int .i64 d.id,.bool d.dead,.int .i64 d.m.id,.int .i64 d.m.rid,.slice u.ms.a u.ms.n u.ms.c,.slice u.its.a u.its.n u.its.c,.slice u.lv.a u.lv.n u.lv.c,.slice u.tx.a u.tx.n u.tx.c,.int .i64 d.m.rd,.int .i64 d.m.se,.int .i64 d.m.li,.int .i64 d.m.he,.int .i64 d.m.la.c,.int .i64 d.m.la.r,.int .i64 d.m.la.q,.int .i64 d.m.la.a,.int .i64 d.m.la.b,.slice u.ws.a u.ws.n u.ws.c,.int .i64 d.most,.int .i64 d.old,.int .i64 d.jid,.slice s1.a s1.n s1.c,.slice s2.a s2.n s2.c,.slice s3.a s3.n s3.c]):=OB
  clear OB TB
  go_wp2_with fail
  refine bodyPost_ret (qAw Tryz.results8 (w.heap.size+1) 45 [.int .i64 d.id,.bool d.dead,.int .i64 d.m.id,.int .i64 d.m.rid,.slice u.ms.a u.ms.n u.ms.c,.slice u.its.a u.its.n u.its.c,.slice u.lv.a u.lv.n u.lv.c,.slice u.tx.a u.tx.n u.tx.c,.int .i64 d.m.rd,.int .i64 d.m.se,.int .i64 d.m.li,.int .i64 d.m.he,.int .i64 d.m.la.c,.int .i64 d.m.la.r,.int .i64 d.m.la.q,.int .i64 d.m.la.a,.int .i64 d.m.la.b,.slice u.ws.a u.ws.n u.ws.c,.int .i64 d.most,.int .i64 d.old,.int .i64 d.jid,.slice s1.a s1.n s1.c,.slice s2.a s2.n s2.c,.slice s3.a s3.n s3.c] _ rfl EB.out Tryz.underlying45 rfl Tryz.sizeDa) rfl ?_
  refine⟨{d with mv:=u,js:=s1,bu:=cs,bs:=s2,lo:=es,ls:=s3},rfl,⟨rfl,rfl,rfl,rfl,rfl,rfl,rfl,BP.out,LP.out⟩,⟨MO.out.down (by omega),JO.out.down (by omega),BO.out.down (by omega),LO.out.down (by omega)⟩,?_,BW.out⟩
  exact⟨fun x h1 h2=>by have:=ML.out x h1;have:=(JL.out x h2).1;omega,fun x h1 h2=>by have:=ML.out x h1;have:=(BL.out x h2).1;omega,fun x h1 h2=>by have:=ML.out x h1;have:=(LL.out x h2).1;omega,fun x h1 h2=>by have:=(JL.out x h1).2;have:=(BL.out x h2).1;omega,fun x h1 h2=>by have:=(JL.out x h1).2;have:=(LL.out x h2).1;omega,fun x h1 h2=>by have:=(BL.out x h1).2;have:=(LL.out x h2).1;omega,BA.out,LA2.out⟩
theorem eqDaemon_0(d:Dm)(mv:Mv)(js bs ls:Sv)(bu:List Bu)(lo:List Ev)(B1 B2:Nat)(w:World)(h1:Hid (DmO w B1 d))(h2:Hid (DmO w B2 {d with mv:=mv,js:=js,bs:=bs,ls:=ls,bu:=bu,lo:=lo}))(hb:Hid (d.bu.map Bu.pl=bu.map Bu.pl))(hl:Hid (d.lo.map Ev.pl=lo.map Ev.pl))(hs:Hid (DmS d)):
    Calls Tryz.prog 11 #[.agg #[.int .i64 d.id,.bool d.dead,.int .i64 d.m.id,.int .i64 d.m.rid,.slice d.mv.ms.a d.mv.ms.n d.mv.ms.c,.slice d.mv.its.a d.mv.its.n d.mv.its.c,.slice d.mv.lv.a d.mv.lv.n d.mv.lv.c,.slice d.mv.tx.a d.mv.tx.n d.mv.tx.c,.int .i64 d.m.rd,.int .i64 d.m.se,.int .i64 d.m.li,.int .i64 d.m.he,.int .i64 d.m.la.c,.int .i64 d.m.la.r,.int .i64 d.m.la.q,.int .i64 d.m.la.a,.int .i64 d.m.la.b,.slice d.mv.ws.a d.mv.ws.n d.mv.ws.c,.int .i64 d.most,.int .i64 d.old,.int .i64 d.jid,.slice d.js.a d.js.n d.js.c,.slice d.bs.a d.bs.n d.bs.c,.slice d.ls.a d.ls.n d.ls.c],.agg #[.int .i64 d.id,.bool d.dead,.int .i64 d.m.id,.int .i64 d.m.rid,.slice mv.ms.a mv.ms.n mv.ms.c,.slice mv.its.a mv.its.n mv.its.c,.slice mv.lv.a mv.lv.n mv.lv.c,.slice mv.tx.a mv.tx.n mv.tx.c,.int .i64 d.m.rd,.int .i64 d.m.se,.int .i64 d.m.li,.int .i64 d.m.he,.int .i64 d.m.la.c,.int .i64 d.m.la.r,.int .i64 d.m.la.q,.int .i64 d.m.la.a,.int .i64 d.m.la.b,.slice mv.ws.a mv.ws.n mv.ws.c,.int .i64 d.most,.int .i64 d.old,.int .i64 d.jid,.slice js.a js.n js.c,.slice bs.a bs.n bs.c,.slice ls.a ls.n ls.c]] w fun x w'=>x=.returned (.bool true)∧Below w.heap.size w w':=by
  have hn1:(w.alloc (.cells #[.int .i64 d.id,.bool d.dead,.int .i64 d.m.id,.int .i64 d.m.rid,.slice d.mv.ms.a d.mv.ms.n d.mv.ms.c,.slice d.mv.its.a d.mv.its.n d.mv.its.c,.slice d.mv.lv.a d.mv.lv.n d.mv.lv.c,.slice d.mv.tx.a d.mv.tx.n d.mv.tx.c,.int .i64 d.m.rd,.int .i64 d.m.se,.int .i64 d.m.li,.int .i64 d.m.he,.int .i64 d.m.la.c,.int .i64 d.m.la.r,.int .i64 d.m.la.q,.int .i64 d.m.la.a,.int .i64 d.m.la.b,.slice d.mv.ws.a d.mv.ws.n d.mv.ws.c,.int .i64 d.most,.int .i64 d.old,.int .i64 d.jid,.slice d.js.a d.js.n d.js.c,.slice d.bs.a d.bs.n d.bs.c,.slice d.ls.a d.ls.n d.ls.c] 45)).heap.size=w.heap.size+1:=by simp
  have LA:Hid (Bx ((w.alloc (.cells #[.int .i64 d.id,.bool d.dead,.int .i64 d.m.id,.int .i64 d.m.rid,.slice d.mv.ms.a d.mv.ms.n d.mv.ms.c,.slice d.mv.its.a d.mv.its.n d.mv.its.c,.slice d.mv.lv.a d.mv.lv.n d.mv.lv.c,.slice d.mv.tx.a d.mv.tx.n d.mv.tx.c,.int .i64 d.m.rd,.int .i64 d.m.se,.int .i64 d.m.li,.int .i64 d.m.he,.int .i64 d.m.la.c,.int .i64 d.m.la.r,.int .i64 d.m.la.q,.int .i64 d.m.la.a,.int .i64 d.m.la.b,.slice d.mv.ws.a d.mv.ws.n d.mv.ws.c,.int .i64 d.most,.int .i64 d.old,.int .i64 d.jid,.slice d.js.a d.js.n d.js.c,.slice d.bs.a d.bs.n d.bs.c,.slice d.ls.a d.ls.n d.ls.c] 45)).alloc (.cells #[.int .i64 d.id,.bool d.dead,.int .i64 d.m.id,.int .i64 d.m.rid,.slice mv.ms.a mv.ms.n mv.ms.c,.slice mv.its.a mv.its.n mv.its.c,.slice mv.lv.a mv.lv.n mv.lv.c,.slice mv.tx.a mv.tx.n mv.tx.c,.int .i64 d.m.rd,.int .i64 d.m.se,.int .i64 d.m.li,.int .i64 d.m.he,.int .i64 d.m.la.c,.int .i64 d.m.la.r,.int .i64 d.m.la.q,.int .i64 d.m.la.a,.int .i64 d.m.la.b,.slice mv.ws.a mv.ws.n mv.ws.c,.int .i64 d.most,.int .i64 d.old,.int .i64 d.jid,.slice js.a js.n js.c,.slice bs.a bs.n bs.c,.slice ls.a ls.n ls.c] 45)) w.heap.size 45 [.int .i64 d.id,.bool d.dead,.int .i64 d.m.id,.int .i64 d.m.rid,.slice d.mv.ms.a d.mv.ms.n d.mv.ms.c,.slice d.mv.its.a d.mv.its.n d.mv.its.c,.slice d.mv.lv.a d.mv.lv.n d.mv.lv.c,.slice d.mv.tx.a d.mv.tx.n d.mv.tx.c,.int .i64 d.m.rd,.int .i64 d.m.se,.int .i64 d.m.li,.int .i64 d.m.he,.int .i64 d.m.la.c,.int .i64 d.m.la.r,.int .i64 d.m.la.q,.int .i64 d.m.la.a,.int .i64 d.m.la.b,.slice d.mv.ws.a d.mv.ws.n d.mv.ws.c,.int .i64 d.most,.int .i64 d.old,.int .i64 d.jid,.slice d.js.a d.js.n d.js.c,.slice d.bs.a d.bs.n d.bs.c,.slice d.ls.a d.ls.n d.ls.c]):=by
    have h:=Bx.new w 45 [.int .i64 d.id,.bool d.dead,.int .i64 d.m.id,.int .i64 d.m.rid,.slice d.mv.ms.a d.mv.ms.n d.mv.ms.c,.slice d.mv.its.a d.mv.its.n d.mv.its.c,.slice d.mv.lv.a d.mv.lv.n d.mv.lv.c,.slice d.mv.tx.a d.mv.tx.n d.mv.tx.c,.int .i64 d.m.rd,.int .i64 d.m.se,.int .i64 d.m.li,.int .i64 d.m.he,.int .i64 d.m.la.c,.int .i64 d.m.la.r,.int .i64 d.m.la.q,.int .i64 d.m.la.a,.int .i64 d.m.la.b,.slice d.mv.ws.a d.mv.ws.n d.mv.ws.c,.int .i64 d.most,.int .i64 d.old,.int .i64 d.jid,.slice d.js.a d.js.n d.js.c,.slice d.bs.a d.bs.n d.bs.c,.slice d.ls.a d.ls.n d.ls.c]
    exact(h).later ((Below.refl _ _).alloc (Nat.le_refl _) _)
  have LB:Hid (Bx ((w.alloc (.cells #[.int .i64 d.id,.bool d.dead,.int .i64 d.m.id,.int .i64 d.m.rid,.slice d.mv.ms.a d.mv.ms.n d.mv.ms.c,.slice d.mv.its.a d.mv.its.n d.mv.its.c,.slice d.mv.lv.a d.mv.lv.n d.mv.lv.c,.slice d.mv.tx.a d.mv.tx.n d.mv.tx.c,.int .i64 d.m.rd,.int .i64 d.m.se,.int .i64 d.m.li,.int .i64 d.m.he,.int .i64 d.m.la.c,.int .i64 d.m.la.r,.int .i64 d.m.la.q,.int .i64 d.m.la.a,.int .i64 d.m.la.b,.slice d.mv.ws.a d.mv.ws.n d.mv.ws.c,.int .i64 d.most,.int .i64 d.old,.int .i64 d.jid,.slice d.js.a d.js.n d.js.c,.slice d.bs.a d.bs.n d.bs.c,.slice d.ls.a d.ls.n d.ls.c] 45)).alloc (.cells #[.int .i64 d.id,.bool d.dead,.int .i64 d.m.id,.int .i64 d.m.rid,.slice mv.ms.a mv.ms.n mv.ms.c,.slice mv.its.a mv.its.n mv.its.c,.slice mv.lv.a mv.lv.n mv.lv.c,.slice mv.tx.a mv.tx.n mv.tx.c,.int .i64 d.m.rd,.int .i64 d.m.se,.int .i64 d.m.li,.int .i64 d.m.he,.int .i64 d.m.la.c,.int .i64 d.m.la.r,.int .i64 d.m.la.q,.int .i64 d.m.la.a,.int .i64 d.m.la.b,.slice mv.ws.a mv.ws.n mv.ws.c,.int .i64 d.most,.int .i64 d.old,.int .i64 d.jid,.slice js.a js.n js.c,.slice bs.a bs.n bs.c,.slice ls.a ls.n ls.c] 45)) (w.heap.size+1) 45 [.int .i64 d.id,.bool d.dead,.int .i64 d.m.id,.int .i64 d.m.rid,.slice mv.ms.a mv.ms.n mv.ms.c,.slice mv.its.a mv.its.n mv.its.c,.slice mv.lv.a mv.lv.n mv.lv.c,.slice mv.tx.a mv.tx.n mv.tx.c,.int .i64 d.m.rd,.int .i64 d.m.se,.int .i64 d.m.li,.int .i64 d.m.he,.int .i64 d.m.la.c,.int .i64 d.m.la.r,.int .i64 d.m.la.q,.int .i64 d.m.la.a,.int .i64 d.m.la.b,.slice mv.ws.a mv.ws.n mv.ws.c,.int .i64 d.most,.int .i64 d.old,.int .i64 d.jid,.slice js.a js.n js.c,.slice bs.a bs.n bs.c,.slice ls.a ls.n ls.c]):=by
    have h:=Bx.new (w.alloc (.cells #[.int .i64 d.id,.bool d.dead,.int .i64 d.m.id,.int .i64 d.m.rid,.slice d.mv.ms.a d.mv.ms.n d.mv.ms.c,.slice d.mv.its.a d.mv.its.n d.mv.its.c,.slice d.mv.lv.a d.mv.lv.n d.mv.lv.c,.slice d.mv.tx.a d.mv.tx.n d.mv.tx.c,.int .i64 d.m.rd,.int .i64 d.m.se,.int .i64 d.m.li,.int .i64 d.m.he,.int .i64 d.m.la.c,.int .i64 d.m.la.r,.int .i64 d.m.la.q,.int .i64 d.m.la.a,.int .i64 d.m.la.b,.slice d.mv.ws.a d.mv.ws.n d.mv.ws.c,.int .i64 d.most,.int .i64 d.old,.int .i64 d.jid,.slice d.js.a d.js.n d.js.c,.slice d.bs.a d.bs.n d.bs.c,.slice d.ls.a d.ls.n d.ls.c] 45)) 45 [.int .i64 d.id,.bool d.dead,.int .i64 d.m.id,.int .i64 d.m.rid,.slice mv.ms.a mv.ms.n mv.ms.c,.slice mv.its.a mv.its.n mv.its.c,.slice mv.lv.a mv.lv.n mv.lv.c,.slice mv.tx.a mv.tx.n mv.tx.c,.int .i64 d.m.rd,.int .i64 d.m.se,.int .i64 d.m.li,.int .i64 d.m.he,.int .i64 d.m.la.c,.int .i64 d.m.la.r,.int .i64 d.m.la.q,.int .i64 d.m.la.a,.int .i64 d.m.la.b,.slice mv.ws.a mv.ws.n mv.ws.c,.int .i64 d.most,.int .i64 d.old,.int .i64 d.jid,.slice js.a js.n js.c,.slice bs.a bs.n bs.c,.slice ls.a ls.n ls.c]
    rw[hn1]at h
    exact h
  have BW:Hid (Below w.heap.size w ((w.alloc (.cells #[.int .i64 d.id,.bool d.dead,.int .i64 d.m.id,.int .i64 d.m.rid,.slice d.mv.ms.a d.mv.ms.n d.mv.ms.c,.slice d.mv.its.a d.mv.its.n d.mv.its.c,.slice d.mv.lv.a d.mv.lv.n d.mv.lv.c,.slice d.mv.tx.a d.mv.tx.n d.mv.tx.c,.int .i64 d.m.rd,.int .i64 d.m.se,.int .i64 d.m.li,.int .i64 d.m.he,.int .i64 d.m.la.c,.int .i64 d.m.la.r,.int .i64 d.m.la.q,.int .i64 d.m.la.a,.int .i64 d.m.la.b,.slice d.mv.ws.a d.mv.ws.n d.mv.ws.c,.int .i64 d.most,.int .i64 d.old,.int .i64 d.jid,.slice d.js.a d.js.n d.js.c,.slice d.bs.a d.bs.n d.bs.c,.slice d.ls.a d.ls.n d.ls.c] 45)).alloc (.cells #[.int .i64 d.id,.bool d.dead,.int .i64 d.m.id,.int .i64 d.m.rid,.slice mv.ms.a mv.ms.n mv.ms.c,.slice mv.its.a mv.its.n mv.its.c,.slice mv.lv.a mv.lv.n mv.lv.c,.slice mv.tx.a mv.tx.n mv.tx.c,.int .i64 d.m.rd,.int .i64 d.m.se,.int .i64 d.m.li,.int .i64 d.m.he,.int .i64 d.m.la.c,.int .i64 d.m.la.r,.int .i64 d.m.la.q,.int .i64 d.m.la.a,.int .i64 d.m.la.b,.slice mv.ws.a mv.ws.n mv.ws.c,.int .i64 d.most,.int .i64 d.old,.int .i64 d.jid,.slice js.a js.n js.c,.slice bs.a bs.n bs.c,.slice ls.a ls.n ls.c] 45))):=(((Below.refl _ _).alloc (by simp) _).alloc (by simp;try omega) _)
  clear hn1
  have P1:Hid (DmO ((w.alloc (.cells #[.int .i64 d.id,.bool d.dead,.int .i64 d.m.id,.int .i64 d.m.rid,.slice d.mv.ms.a d.mv.ms.n d.mv.ms.c,.slice d.mv.its.a d.mv.its.n d.mv.its.c,.slice d.mv.lv.a d.mv.lv.n d.mv.lv.c,.slice d.mv.tx.a d.mv.tx.n d.mv.tx.c,.int .i64 d.m.rd,.int .i64 d.m.se,.int .i64 d.m.li,.int .i64 d.m.he,.int .i64 d.m.la.c,.int .i64 d.m.la.r,.int .i64 d.m.la.q,.int .i64 d.m.la.a,.int .i64 d.m.la.b,.slice d.mv.ws.a d.mv.ws.n d.mv.ws.c,.int .i64 d.most,.int .i64 d.old,.int .i64 d.jid,.slice d.js.a d.js.n d.js.c,.slice d.bs.a d.bs.n d.bs.c,.slice d.ls.a d.ls.n d.ls.c] 45)).alloc (.cells #[.int .i64 d.id,.bool d.dead,.int .i64 d.m.id,.int .i64 d.m.rid,.slice mv.ms.a mv.ms.n mv.ms.c,.slice mv.its.a mv.its.n mv.its.c,.slice mv.lv.a mv.lv.n mv.lv.c,.slice mv.tx.a mv.tx.n mv.tx.c,.int .i64 d.m.rd,.int .i64 d.m.se,.int .i64 d.m.li,.int .i64 d.m.he,.int .i64 d.m.la.c,.int .i64 d.m.la.r,.int .i64 d.m.la.q,.int .i64 d.m.la.a,.int .i64 d.m.la.b,.slice mv.ws.a mv.ws.n mv.ws.c,.int .i64 d.most,.int .i64 d.old,.int .i64 d.jid,.slice js.a js.n js.c,.slice bs.a bs.n bs.c,.slice ls.a ls.n ls.c] 45)) B1 d):=h1.out.below BW.out
  have P2:Hid (DmO ((w.alloc (.cells #[.int .i64 d.id,.bool d.dead,.int .i64 d.m.id,.int .i64 d.m.rid,.slice d.mv.ms.a d.mv.ms.n d.mv.ms.c,.slice d.mv.its.a d.mv.its.n d.mv.its.c,.slice d.mv.lv.a d.mv.lv.n d.mv.lv.c,.slice d.mv.tx.a d.mv.tx.n d.mv.tx.c,.int .i64 d.m.rd,.int .i64 d.m.se,.int .i64 d.m.li,.int .i64 d.m.he,.int .i64 d.m.la.c,.int .i64 d.m.la.r,.int .i64 d.m.la.q,.int .i64 d.m.la.a,.int .i64 d.m.la.b,.slice d.mv.ws.a d.mv.ws.n d.mv.ws.c,.int .i64 d.most,.int .i64 d.old,.int .i64 d.jid,.slice d.js.a d.js.n d.js.c,.slice d.bs.a d.bs.n d.bs.c,.slice d.ls.a d.ls.n d.ls.c] 45)).alloc (.cells #[.int .i64 d.id,.bool d.dead,.int .i64 d.m.id,.int .i64 d.m.rid,.slice mv.ms.a mv.ms.n mv.ms.c,.slice mv.its.a mv.its.n mv.its.c,.slice mv.lv.a mv.lv.n mv.lv.c,.slice mv.tx.a mv.tx.n mv.tx.c,.int .i64 d.m.rd,.int .i64 d.m.se,.int .i64 d.m.li,.int .i64 d.m.he,.int .i64 d.m.la.c,.int .i64 d.m.la.r,.int .i64 d.m.la.q,.int .i64 d.m.la.a,.int .i64 d.m.la.b,.slice mv.ws.a mv.ws.n mv.ws.c,.int .i64 d.most,.int .i64 d.old,.int .i64 d.jid,.slice js.a js.n js.c,.slice bs.a bs.n bs.c,.slice ls.a ls.n ls.c] 45)) B2 {d with mv:=mv,js:=js,bs:=bs,ls:=ls,bu:=bu,lo:=lo}):=h2.out.below BW.out
  clear h1 h2
  have a0:=LA.out.cell 0
  have b0:=LB.out.cell 0
  have a1:=LA.out.cell 1
  have b1:=LB.out.cell 1
  simp only[List.getElem?_cons_succ,List.getElem?_cons_zero]at a0 b0 a1 b1
  have d0:(d.id !=d.id)=false:=by simp
  have d1:(d.dead !=d.dead)=false:=by simp
  have d2:(d.most !=d.most)=false:=by simp
  have d3:(d.old !=d.old)=false:=by simp
  go_enter Tryz.func11,Tryz.ntmps11
  go_wp2_with (first|(refine qAb rfl 41 _ rfl w.heap.size 2 rfl 45 _ LA.out [.int .i64 d.m.id,.int .i64 d.m.rid,.slice d.mv.ms.a d.mv.ms.n d.mv.ms.c,.slice d.mv.its.a d.mv.its.n d.mv.its.c,.slice d.mv.lv.a d.mv.lv.n d.mv.lv.c,.slice d.mv.tx.a d.mv.tx.n d.mv.tx.c,.int .i64 d.m.rd,.int .i64 d.m.se,.int .i64 d.m.li,.int .i64 d.m.he,.int .i64 d.m.la.c,.int .i64 d.m.la.r,.int .i64 d.m.la.q,.int .i64 d.m.la.a,.int .i64 d.m.la.b,.slice d.mv.ws.a d.mv.ws.n d.mv.ws.c] rfl _ Tryz.underlying41 rfl Tryz.sizeM ?_)|(refine qAb rfl 41 _ rfl (w.heap.size+1) 2 rfl 45 _ LB.out [.int .i64 d.m.id,.int .i64 d.m.rid,.slice mv.ms.a mv.ms.n mv.ms.c,.slice mv.its.a mv.its.n mv.its.c,.slice mv.lv.a mv.lv.n mv.lv.c,.slice mv.tx.a mv.tx.n mv.tx.c,.int .i64 d.m.rd,.int .i64 d.m.se,.int .i64 d.m.li,.int .i64 d.m.he,.int .i64 d.m.la.c,.int .i64 d.m.la.r,.int .i64 d.m.la.q,.int .i64 d.m.la.a,.int .i64 d.m.la.b,.slice mv.ws.a mv.ws.n mv.ws.c] rfl _ Tryz.underlying41 rfl Tryz.sizeM ?_))
  generalize ((w.alloc (.cells #[.int .i64 d.id,.bool d.dead,.int .i64 d.m.id,.int .i64 d.m.rid,.slice d.mv.ms.a d.mv.ms.n d.mv.ms.c,.slice d.mv.its.a d.mv.its.n d.mv.its.c,.slice d.mv.lv.a d.mv.lv.n d.mv.lv.c,.slice d.mv.tx.a d.mv.tx.n d.mv.tx.c,.int .i64 d.m.rd,.int .i64 d.m.se,.int .i64 d.m.li,.int .i64 d.m.he,.int .i64 d.m.la.c,.int .i64 d.m.la.r,.int .i64 d.m.la.q,.int .i64 d.m.la.a,.int .i64 d.m.la.b,.slice d.mv.ws.a d.mv.ws.n d.mv.ws.c,.int .i64 d.most,.int .i64 d.old,.int .i64 d.jid,.slice d.js.a d.js.n d.js.c,.slice d.bs.a d.bs.n d.bs.c,.slice d.ls.a d.ls.n d.ls.c] 45)).alloc (.cells #[.int .i64 d.id,.bool d.dead,.int .i64 d.m.id,.int .i64 d.m.rid,.slice mv.ms.a mv.ms.n mv.ms.c,.slice mv.its.a mv.its.n mv.its.c,.slice mv.lv.a mv.lv.n mv.lv.c,.slice mv.tx.a mv.tx.n mv.tx.c,.int .i64 d.m.rd,.int .i64 d.m.se,.int .i64 d.m.li,.int .i64 d.m.he,.int .i64 d.m.la.c,.int .i64 d.m.la.r,.int .i64 d.m.la.q,.int .i64 d.m.la.a,.int .i64 d.m.la.b,.slice mv.ws.a mv.ws.n mv.ws.c,.int .i64 d.most,.int .i64 d.old,.int .i64 d.jid,.slice js.a js.n js.c,.slice bs.a bs.n bs.c,.slice ls.a ls.n ls.c] 45))=W at *
  clear a0 b0 a1 b1
  refine(eqMate_same d.m d.mv mv B1 B2 _ P1.out.mt (show Hid (MtO W B2 d.m mv)from P2.out.mt) hs.out.mt).mono ?_
  rintro e w1 ⟨rfl,b⟩
  have z_w1:W.heap.size≤w1.heap.size:=b.size
  have LA:Hid (Bx w1 w.heap.size 45 [.int .i64 d.id,.bool d.dead,.int .i64 d.m.id,.int .i64 d.m.rid,.slice d.mv.ms.a d.mv.ms.n d.mv.ms.c,.slice d.mv.its.a d.mv.its.n d.mv.its.c,.slice d.mv.lv.a d.mv.lv.n d.mv.lv.c,.slice d.mv.tx.a d.mv.tx.n d.mv.tx.c,.int .i64 d.m.rd,.int .i64 d.m.se,.int .i64 d.m.li,.int .i64 d.m.he,.int .i64 d.m.la.c,.int .i64 d.m.la.r,.int .i64 d.m.la.q,.int .i64 d.m.la.a,.int .i64 d.m.la.b,.slice d.mv.ws.a d.mv.ws.n d.mv.ws.c,.int .i64 d.most,.int .i64 d.old,.int .i64 d.jid,.slice d.js.a d.js.n d.js.c,.slice d.bs.a d.bs.n d.bs.c,.slice d.ls.a d.ls.n d.ls.c]):=LA.out.later b
  have LB:Hid (Bx w1 (w.heap.size+1) 45 [.int .i64 d.id,.bool d.dead,.int .i64 d.m.id,.int .i64 d.m.rid,.slice mv.ms.a mv.ms.n mv.ms.c,.slice mv.its.a mv.its.n mv.its.c,.slice mv.lv.a mv.lv.n mv.lv.c,.slice mv.tx.a mv.tx.n mv.tx.c,.int .i64 d.m.rd,.int .i64 d.m.se,.int .i64 d.m.li,.int .i64 d.m.he,.int .i64 d.m.la.c,.int .i64 d.m.la.r,.int .i64 d.m.la.q,.int .i64 d.m.la.a,.int .i64 d.m.la.b,.slice mv.ws.a mv.ws.n mv.ws.c,.int .i64 d.most,.int .i64 d.old,.int .i64 d.jid,.slice js.a js.n js.c,.slice bs.a bs.n bs.c,.slice ls.a ls.n ls.c]):=LB.out.later b
  have BW:Hid (Below w.heap.size w w1):=qAa BW.out b
  have P1:Hid (DmO w1 B1 d):=P1.out.below b
  have P2:Hid (DmO w1 B2 {d with mv:=mv,js:=js,bs:=bs,ls:=ls,bu:=bu,lo:=lo}):=P2.out.below b
  clear b
  have a18:=LA.out.cell 18
  have b18:=LB.out.cell 18
  have a19:=LA.out.cell 19
  have b19:=LB.out.cell 19
  simp only[List.getElem?_cons_succ,List.getElem?_cons_zero]at a18 b18 a19 b19
  go_wp2_with (first|(refine qAb rfl 37 _ rfl w.heap.size 20 rfl 45 _ LA.out [.int .i64 d.jid,.slice d.js.a d.js.n d.js.c] rfl _ Tryz.underlying37 rfl Tryz.sizeR ?_)|(refine qAb rfl 37 _ rfl (w.heap.size+1) 20 rfl 45 _ LB.out [.int .i64 d.jid,.slice js.a js.n js.c] rfl _ Tryz.underlying37 rfl Tryz.sizeR ?_))
  clear a18 b18 a19 b19
  refine(qDb d.jid d.js.v js.v d.jms B1 B2 _ P1.out.jo (show Hid (OwnI w1 B2 js.v d.jms)from P2.out.jo) hs.out.jo).mono ?_
  rintro e w2 ⟨rfl,b⟩
  have z_w2:w1.heap.size≤w2.heap.size:=b.size
  have LA:Hid (Bx w2 w.heap.size 45 [.int .i64 d.id,.bool d.dead,.int .i64 d.m.id,.int .i64 d.m.rid,.slice d.mv.ms.a d.mv.ms.n d.mv.ms.c,.slice d.mv.its.a d.mv.its.n d.mv.its.c,.slice d.mv.lv.a d.mv.lv.n d.mv.lv.c,.slice d.mv.tx.a d.mv.tx.n d.mv.tx.c,.int .i64 d.m.rd,.int .i64 d.m.se,.int .i64 d.m.li,.int .i64 d.m.he,.int .i64 d.m.la.c,.int .i64 d.m.la.r,.int .i64 d.m.la.q,.int .i64 d.m.la.a,.int .i64 d.m.la.b,.slice d.mv.ws.a d.mv.ws.n d.mv.ws.c,.int .i64 d.most,.int .i64 d.old,.int .i64 d.jid,.slice d.js.a d.js.n d.js.c,.slice d.bs.a d.bs.n d.bs.c,.slice d.ls.a d.ls.n d.ls.c]):=LA.out.later b
  have LB:Hid (Bx w2 (w.heap.size+1) 45 [.int .i64 d.id,.bool d.dead,.int .i64 d.m.id,.int .i64 d.m.rid,.slice mv.ms.a mv.ms.n mv.ms.c,.slice mv.its.a mv.its.n mv.its.c,.slice mv.lv.a mv.lv.n mv.lv.c,.slice mv.tx.a mv.tx.n mv.tx.c,.int .i64 d.m.rd,.int .i64 d.m.se,.int .i64 d.m.li,.int .i64 d.m.he,.int .i64 d.m.la.c,.int .i64 d.m.la.r,.int .i64 d.m.la.q,.int .i64 d.m.la.a,.int .i64 d.m.la.b,.slice mv.ws.a mv.ws.n mv.ws.c,.int .i64 d.most,.int .i64 d.old,.int .i64 d.jid,.slice js.a js.n js.c,.slice bs.a bs.n bs.c,.slice ls.a ls.n ls.c]):=LB.out.later b
  have BW:Hid (Below w.heap.size w w2):=qAa BW.out b
  have P1:Hid (DmO w2 B1 d):=P1.out.below b
  have P2:Hid (DmO w2 B2 {d with mv:=mv,js:=js,bs:=bs,ls:=ls,bu:=bu,lo:=lo}):=P2.out.below b
  clear b
  have a22:=LA.out.cell 22
  have b22:=LB.out.cell 22
  simp only[List.getElem?_cons_succ,List.getElem?_cons_zero]at a22 b22
  go_wp2_with fail
  clear a22 b22
  refine(eqBus_any d.bs bs d.bu bu B1 B2 _ P1.out.bu (show Hid (BusO w2 B2 bs bu)from P2.out.bu) hb hs.out.bus.1 hs.out.bus.2).mono ?_
  rintro e w3 ⟨rfl,b⟩
  have z_w3:w2.heap.size≤w3.heap.size:=b.size
  have LA:Hid (Bx w3 w.heap.size 45 [.int .i64 d.id,.bool d.dead,.int .i64 d.m.id,.int .i64 d.m.rid,.slice d.mv.ms.a d.mv.ms.n d.mv.ms.c,.slice d.mv.its.a d.mv.its.n d.mv.its.c,.slice d.mv.lv.a d.mv.lv.n d.mv.lv.c,.slice d.mv.tx.a d.mv.tx.n d.mv.tx.c,.int .i64 d.m.rd,.int .i64 d.m.se,.int .i64 d.m.li,.int .i64 d.m.he,.int .i64 d.m.la.c,.int .i64 d.m.la.r,.int .i64 d.m.la.q,.int .i64 d.m.la.a,.int .i64 d.m.la.b,.slice d.mv.ws.a d.mv.ws.n d.mv.ws.c,.int .i64 d.most,.int .i64 d.old,.int .i64 d.jid,.slice d.js.a d.js.n d.js.c,.slice d.bs.a d.bs.n d.bs.c,.slice d.ls.a d.ls.n d.ls.c]):=LA.out.later b
  have LB:Hid (Bx w3 (w.heap.size+1) 45 [.int .i64 d.id,.bool d.dead,.int .i64 d.m.id,.int .i64 d.m.rid,.slice mv.ms.a mv.ms.n mv.ms.c,.slice mv.its.a mv.its.n mv.its.c,.slice mv.lv.a mv.lv.n mv.lv.c,.slice mv.tx.a mv.tx.n mv.tx.c,.int .i64 d.m.rd,.int .i64 d.m.se,.int .i64 d.m.li,.int .i64 d.m.he,.int .i64 d.m.la.c,.int .i64 d.m.la.r,.int .i64 d.m.la.q,.int .i64 d.m.la.a,.int .i64 d.m.la.b,.slice mv.ws.a mv.ws.n mv.ws.c,.int .i64 d.most,.int .i64 d.old,.int .i64 d.jid,.slice js.a js.n js.c,.slice bs.a bs.n bs.c,.slice ls.a ls.n ls.c]):=LB.out.later b
  have BW:Hid (Below w.heap.size w w3):=qAa BW.out b
  have P1:Hid (DmO w3 B1 d):=P1.out.below b
  have P2:Hid (DmO w3 B2 {d with mv:=mv,js:=js,bs:=bs,ls:=ls,bu:=bu,lo:=lo}):=P2.out.below b
  clear b
  have a23:=LA.out.cell 23
  have b23:=LB.out.cell 23
  simp only[List.getElem?_cons_succ,List.getElem?_cons_zero]at a23 b23
  go_wp2_with fail
  clear a23 b23
  refine(eqEvs_any d.ls ls d.lo lo B1 B2 _ P1.out.lo (show Hid (EvsO w3 B2 ls lo)from P2.out.lo) hl hs.out.los.1 hs.out.los.2).mono ?_
  rintro e w4 ⟨rfl,b⟩
  have z_w4:w3.heap.size≤w4.heap.size:=b.size
  have LA:Hid (Bx w4 w.heap.size 45 [.int .i64 d.id,.bool d.dead,.int .i64 d.m.id,.int .i64 d.m.rid,.slice d.mv.ms.a d.mv.ms.n d.mv.ms.c,.slice d.mv.its.a d.mv.its.n d.mv.its.c,.slice d.mv.lv.a d.mv.lv.n d.mv.lv.c,.slice d.mv.tx.a d.mv.tx.n d.mv.tx.c,.int .i64 d.m.rd,.int .i64 d.m.se,.int .i64 d.m.li,.int .i64 d.m.he,.int .i64 d.m.la.c,.int .i64 d.m.la.r,.int .i64 d.m.la.q,.int .i64 d.m.la.a,.int .i64 d.m.la.b,.slice d.mv.ws.a d.mv.ws.n d.mv.ws.c,.int .i64 d.most,.int .i64 d.old,.int .i64 d.jid,.slice d.js.a d.js.n d.js.c,.slice d.bs.a d.bs.n d.bs.c,.slice d.ls.a d.ls.n d.ls.c]):=LA.out.later b
  have LB:Hid (Bx w4 (w.heap.size+1) 45 [.int .i64 d.id,.bool d.dead,.int .i64 d.m.id,.int .i64 d.m.rid,.slice mv.ms.a mv.ms.n mv.ms.c,.slice mv.its.a mv.its.n mv.its.c,.slice mv.lv.a mv.lv.n mv.lv.c,.slice mv.tx.a mv.tx.n mv.tx.c,.int .i64 d.m.rd,.int .i64 d.m.se,.int .i64 d.m.li,.int .i64 d.m.he,.int .i64 d.m.la.c,.int .i64 d.m.la.r,.int .i64 d.m.la.q,.int .i64 d.m.la.a,.int .i64 d.m.la.b,.slice mv.ws.a mv.ws.n mv.ws.c,.int .i64 d.most,.int .i64 d.old,.int .i64 d.jid,.slice js.a js.n js.c,.slice bs.a bs.n bs.c,.slice ls.a ls.n ls.c]):=LB.out.later b
  have BW:Hid (Below w.heap.size w w4):=qAa BW.out b
  have P1:Hid (DmO w4 B1 d):=P1.out.below b
  have P2:Hid (DmO w4 B2 {d with mv:=mv,js:=js,bs:=bs,ls:=ls,bu:=bu,lo:=lo}):=P2.out.below b
  clear b
  go_wp2_with fail
  go_ret
  exact⟨rfl,BW.out⟩
theorem qBy(a b:Dm)(B1 B2:Nat)(w:World)(h1:Hid (DmO w B1 a))(h2:Hid (DmO w B2 b))(he:Hid (a.Same b))(hs:Hid (DmS a)):
    Calls Tryz.prog 11 #[.agg #[.int .i64 a.id,.bool a.dead,.int .i64 a.m.id,.int .i64 a.m.rid,.slice a.mv.ms.a a.mv.ms.n a.mv.ms.c,.slice a.mv.its.a a.mv.its.n a.mv.its.c,.slice a.mv.lv.a a.mv.lv.n a.mv.lv.c,.slice a.mv.tx.a a.mv.tx.n a.mv.tx.c,.int .i64 a.m.rd,.int .i64 a.m.se,.int .i64 a.m.li,.int .i64 a.m.he,.int .i64 a.m.la.c,.int .i64 a.m.la.r,.int .i64 a.m.la.q,.int .i64 a.m.la.a,.int .i64 a.m.la.b,.slice a.mv.ws.a a.mv.ws.n a.mv.ws.c,.int .i64 a.most,.int .i64 a.old,.int .i64 a.jid,.slice a.js.a a.js.n a.js.c,.slice a.bs.a a.bs.n a.bs.c,.slice a.ls.a a.ls.n a.ls.c],.agg #[.int .i64 b.id,.bool b.dead,.int .i64 b.m.id,.int .i64 b.m.rid,.slice b.mv.ms.a b.mv.ms.n b.mv.ms.c,.slice b.mv.its.a b.mv.its.n b.mv.its.c,.slice b.mv.lv.a b.mv.lv.n b.mv.lv.c,.slice b.mv.tx.a b.mv.tx.n b.mv.tx.c,.int .i64 b.m.rd,.int .i64 b.m.se,.int .i64 b.m.li,.int .i64 b.m.he,.int .i64 b.m.la.c,.int .i64 b.m.la.r,.int .i64 b.m.la.q,.int .i64 b.m.la.a,.int .i64 b.m.la.b,.slice b.mv.ws.a b.mv.ws.n b.mv.ws.c,.int .i64 b.most,.int .i64 b.old,.int .i64 b.jid,.slice b.js.a b.js.n b.js.c,.slice b.bs.a b.bs.n b.bs.c,.slice b.ls.a b.ls.n b.ls.c]] w fun x w'=>x=.returned (.bool true)∧Below w.heap.size w w':=by
  obtain⟨e1,e2,e3,e4,e5,e6,e7,e8,e9⟩:=he.out
  obtain⟨id,dead,m,mv,most,old,jid,jms,js,bu,bs,lo,ls⟩:=b
  dsimp only at e1 e2 e3 e4 e5 e6 e7 e8 e9
  subst e1 e2 e3 e4 e5 e6 e7
  exact eqDaemon_0 a mv js bs ls bu lo B1 B2 w h1 h2 e8 e9 hs
def nrB(i:Int)(n:Nat):Bool:=(i==0)&&((n:Int)==0)
def nmS(m:Mt)(v:Mv):Bool:=(m.id==0)&&(nrB m.rid v.ms.n&&(((v.its.n:Int)==0)&&(((v.lv.n:Int)==0)&&(((v.tx.n:Int)==0)&&((m.rd==0)&&((m.se==0)&&((m.li==0)&&((m.he==0)&&ntB m.la.c m.la.r m.la.q m.la.a m.la.b m.la.ws))))))))
theorem qCa(i:Int)(s:Sv)(w:World):Calls Tryz.prog 78 #[.agg #[.int .i64 i,.slice s.a s.n s.c]] w fun e w'=>e=.returned (.bool (nrB i s.n))∧Below w.heap.size w w':=by
  obtain⟨R,hR0⟩: ∃R,nrB i s.n=R:=⟨_,rfl⟩
  rw[hR0]
  have hR:Hid (nrB i s.n=R):=hR0
  clear hR0
  have LA:Hid (Bx (w.alloc (.cells #[.int .i64 i,.slice s.a s.n s.c] 37)) w.heap.size 37 [.int .i64 i,.slice s.a s.n s.c]):=by
    have h:=Bx.new w 37 [.int .i64 i,.slice s.a s.n s.c]
    exact h
  have BW:Hid (Below w.heap.size w (w.alloc (.cells #[.int .i64 i,.slice s.a s.n s.c] 37))):=((Below.refl _ _).alloc (by simp) _)
  have c0:=LA.out.cell 0
  have c1:=LA.out.cell 1
  simp only[List.getElem?_cons_succ,List.getElem?_cons_zero]at c0 c1
  go_enter Tryz.func78,Tryz.ntmps78
  obtain⟨R1,k1⟩: ∃R:Bool,(i==0)=R:=⟨_,rfl⟩
  have K1:Hid ((i==0)=R1):=k1
  cases R1 with
  | false =>
    have e:nrB i s.n=false:=by
      unfold nrB
      simp only[K1.out,Bool.false_and,Bool.true_and,Bool.and_false,Bool.and_true,Bool.not_true,Bool.not_false,Bool.or_true,Bool.true_or,Bool.or_false,Bool.false_or,cond_true,cond_false]
    rw[hR.out]at e
    clear hR
    subst e
    go_wp2_with fail
    go_ret
    exact⟨rfl,BW.out⟩
  | true =>
    obtain⟨R2,k2⟩: ∃R:Bool,((s.n:Int)==0)=R:=⟨_,rfl⟩
    have K2:Hid (((s.n:Int)==0)=R2):=k2
    cases R2 with
    | false =>
      have e:nrB i s.n=false:=by
        unfold nrB
        simp only[K1.out,K2.out,Bool.false_and,Bool.true_and,Bool.and_false,Bool.and_true,Bool.not_true,Bool.not_false,Bool.or_true,Bool.true_or,Bool.or_false,Bool.false_or,cond_true,cond_false]
      rw[hR.out]at e
      clear hR
      subst e
      go_wp2_with fail
      go_ret
      exact⟨rfl,BW.out⟩
    | true =>
      have e:nrB i s.n=true:=by
        unfold nrB
        simp only[K1.out,K2.out,Bool.false_and,Bool.true_and,Bool.and_false,Bool.and_true,Bool.not_true,Bool.not_false,Bool.or_true,Bool.true_or,Bool.or_false,Bool.false_or,cond_true,cond_false]
      rw[hR.out]at e
      clear hR
      subst e
      go_wp2_with fail
      go_ret
      exact⟨rfl,BW.out⟩
theorem qCi(i:Int)(s:Sv)(w:World):Calls Tryz.prog 62 #[.agg #[.int .i64 i,.slice s.a s.n s.c]] w fun e w'=>e=.returned (.bool (nrB i s.n))∧Below w.heap.size w w':=by
  obtain⟨R,hR0⟩: ∃R,nrB i s.n=R:=⟨_,rfl⟩
  rw[hR0]
  have hR:Hid (nrB i s.n=R):=hR0
  clear hR0
  have LA:Hid (Bx (w.alloc (.cells #[.int .i64 i,.slice s.a s.n s.c] 37)) w.heap.size 37 [.int .i64 i,.slice s.a s.n s.c]):=by
    have h:=Bx.new w 37 [.int .i64 i,.slice s.a s.n s.c]
    exact h
  have BW:Hid (Below w.heap.size w (w.alloc (.cells #[.int .i64 i,.slice s.a s.n s.c] 37))):=((Below.refl _ _).alloc (by simp) _)
  have c0:=LA.out.cell 0
  have c1:=LA.out.cell 1
  simp only[List.getElem?_cons_succ,List.getElem?_cons_zero]at c0 c1
  go_enter Tryz.func62,Tryz.ntmps62
  obtain⟨R1,k1⟩: ∃R:Bool,(i==0)=R:=⟨_,rfl⟩
  have K1:Hid ((i==0)=R1):=k1
  cases R1 with
  | false =>
    have e:nrB i s.n=false:=by
      unfold nrB
      simp only[K1.out,Bool.false_and,Bool.true_and,Bool.and_false,Bool.and_true,Bool.not_true,Bool.not_false,Bool.or_true,Bool.true_or,Bool.or_false,Bool.false_or,cond_true,cond_false]
    rw[hR.out]at e
    clear hR
    subst e
    go_wp2_with fail
    go_ret
    exact⟨rfl,BW.out⟩
  | true =>
    obtain⟨R2,k2⟩: ∃R:Bool,((s.n:Int)==0)=R:=⟨_,rfl⟩
    have K2:Hid (((s.n:Int)==0)=R2):=k2
    cases R2 with
    | false =>
      have e:nrB i s.n=false:=by
        unfold nrB
        simp only[K1.out,K2.out,Bool.false_and,Bool.true_and,Bool.and_false,Bool.and_true,Bool.not_true,Bool.not_false,Bool.or_true,Bool.true_or,Bool.or_false,Bool.false_or,cond_true,cond_false]
      rw[hR.out]at e
      clear hR
      subst e
      go_wp2_with fail
      go_ret
      exact⟨rfl,BW.out⟩
    | true =>
      have e:nrB i s.n=true:=by
        unfold nrB
        simp only[K1.out,K2.out,Bool.false_and,Bool.true_and,Bool.and_false,Bool.and_true,Bool.not_true,Bool.not_false,Bool.or_true,Bool.true_or,Bool.or_false,Bool.false_or,cond_true,cond_false]
      rw[hR.out]at e
      clear hR
      subst e
      go_wp2_with fail
      go_ret
      exact⟨rfl,BW.out⟩
theorem qDv(m:Mt)(v:Mv)(w:World)(h:v.ws.n=m.la.ws.length):Calls Tryz.prog 77 #[.agg #[.int .i64 m.id,.int .i64 m.rid,.slice v.ms.a v.ms.n v.ms.c,.slice v.its.a v.its.n v.its.c,.slice v.lv.a v.lv.n v.lv.c,.slice v.tx.a v.tx.n v.tx.c,.int .i64 m.rd,.int .i64 m.se,.int .i64 m.li,.int .i64 m.he,.int .i64 m.la.c,.int .i64 m.la.r,.int .i64 m.la.q,.int .i64 m.la.a,.int .i64 m.la.b,.slice v.ws.a v.ws.n v.ws.c]] w fun e w'=>e=.returned (.bool (nmS m v))∧Below w.heap.size w w':=by
  obtain⟨R,hR0⟩: ∃R,nmS m v=R:=⟨_,rfl⟩
  rw[hR0]
  have hR:Hid (nmS m v=R):=hR0
  clear hR0
  have LA:Hid (Bx (w.alloc (.cells #[.int .i64 m.id,.int .i64 m.rid,.slice v.ms.a v.ms.n v.ms.c,.slice v.its.a v.its.n v.its.c,.slice v.lv.a v.lv.n v.lv.c,.slice v.tx.a v.tx.n v.tx.c,.int .i64 m.rd,.int .i64 m.se,.int .i64 m.li,.int .i64 m.he,.int .i64 m.la.c,.int .i64 m.la.r,.int .i64 m.la.q,.int .i64 m.la.a,.int .i64 m.la.b,.slice v.ws.a v.ws.n v.ws.c] 41)) w.heap.size 41 [.int .i64 m.id,.int .i64 m.rid,.slice v.ms.a v.ms.n v.ms.c,.slice v.its.a v.its.n v.its.c,.slice v.lv.a v.lv.n v.lv.c,.slice v.tx.a v.tx.n v.tx.c,.int .i64 m.rd,.int .i64 m.se,.int .i64 m.li,.int .i64 m.he,.int .i64 m.la.c,.int .i64 m.la.r,.int .i64 m.la.q,.int .i64 m.la.a,.int .i64 m.la.b,.slice v.ws.a v.ws.n v.ws.c]):=by
    have h:=Bx.new w 41 [.int .i64 m.id,.int .i64 m.rid,.slice v.ms.a v.ms.n v.ms.c,.slice v.its.a v.its.n v.its.c,.slice v.lv.a v.lv.n v.lv.c,.slice v.tx.a v.tx.n v.tx.c,.int .i64 m.rd,.int .i64 m.se,.int .i64 m.li,.int .i64 m.he,.int .i64 m.la.c,.int .i64 m.la.r,.int .i64 m.la.q,.int .i64 m.la.a,.int .i64 m.la.b,.slice v.ws.a v.ws.n v.ws.c]
    exact h
  have BW:Hid (Below w.heap.size w (w.alloc (.cells #[.int .i64 m.id,.int .i64 m.rid,.slice v.ms.a v.ms.n v.ms.c,.slice v.its.a v.its.n v.its.c,.slice v.lv.a v.lv.n v.lv.c,.slice v.tx.a v.tx.n v.tx.c,.int .i64 m.rd,.int .i64 m.se,.int .i64 m.li,.int .i64 m.he,.int .i64 m.la.c,.int .i64 m.la.r,.int .i64 m.la.q,.int .i64 m.la.a,.int .i64 m.la.b,.slice v.ws.a v.ws.n v.ws.c] 41))):=((Below.refl _ _).alloc (by simp) _)
  have HW:Hid (v.ws.n=m.la.ws.length):=h
  clear h
  have c0:=LA.out.cell 0
  have c3:=LA.out.cell 3
  have c4:=LA.out.cell 4
  have c5:=LA.out.cell 5
  have c6:=LA.out.cell 6
  have c7:=LA.out.cell 7
  have c8:=LA.out.cell 8
  have c9:=LA.out.cell 9
  simp only[List.getElem?_cons_succ,List.getElem?_cons_zero]at c0 c3 c4 c5 c6 c7 c8 c9
  go_enter Tryz.func77,Tryz.ntmps77
  obtain⟨R1,k1⟩: ∃R:Bool,(m.id==0)=R:=⟨_,rfl⟩
  have K1:Hid ((m.id==0)=R1):=k1
  cases R1 with
  | false =>
    have e:nmS m v=false:=by
      unfold nmS
      simp only[K1.out,Bool.false_and,Bool.true_and,Bool.and_false,Bool.and_true,Bool.not_true,Bool.not_false,Bool.or_true,Bool.true_or,Bool.or_false,Bool.false_or,cond_true,cond_false]
    rw[hR.out]at e
    clear hR
    subst e
    go_wp2_with fail
    go_ret
    exact⟨rfl,BW.out⟩
  | true =>
    go_wp2_with (first|(refine qAb rfl 37 _ rfl w.heap.size 1 rfl 41 _ LA.out [.int .i64 m.rid,.slice v.ms.a v.ms.n v.ms.c] rfl _ Tryz.underlying37 rfl Tryz.sizeR ?_))
    refine(qCa m.rid v.ms _).mono ?_
    rintro e t2 ⟨rfl,b⟩
    have LA:Hid (Bx t2 w.heap.size 41 [.int .i64 m.id,.int .i64 m.rid,.slice v.ms.a v.ms.n v.ms.c,.slice v.its.a v.its.n v.its.c,.slice v.lv.a v.lv.n v.lv.c,.slice v.tx.a v.tx.n v.tx.c,.int .i64 m.rd,.int .i64 m.se,.int .i64 m.li,.int .i64 m.he,.int .i64 m.la.c,.int .i64 m.la.r,.int .i64 m.la.q,.int .i64 m.la.a,.int .i64 m.la.b,.slice v.ws.a v.ws.n v.ws.c]):=LA.out.later b
    have BW:Hid (Below w.heap.size w t2):=qAa BW.out b
    clear b
    obtain⟨R2,k2⟩: ∃R:Bool,(nrB m.rid v.ms.n)=R:=⟨_,rfl⟩
    rw[k2]
    have K2:Hid ((nrB m.rid v.ms.n)=R2):=k2
    clear k2
    cases R2 with
    | false =>
      have e:nmS m v=false:=by
        unfold nmS
        simp only[K1.out,K2.out,Bool.false_and,Bool.true_and,Bool.and_false,Bool.and_true,Bool.not_true,Bool.not_false,Bool.or_true,Bool.true_or,Bool.or_false,Bool.false_or,cond_true,cond_false]
      rw[hR.out]at e
      clear hR
      subst e
      go_wp2_with fail
      go_ret
      exact⟨rfl,BW.out⟩
    | true =>
      obtain⟨R3,k3⟩: ∃R:Bool,((v.its.n:Int)==0)=R:=⟨_,rfl⟩
      have K3:Hid (((v.its.n:Int)==0)=R3):=k3
      cases R3 with
      | false =>
        have c3:=LA.out.cell 3
        have c4:=LA.out.cell 4
        have c5:=LA.out.cell 5
        have c6:=LA.out.cell 6
        have c7:=LA.out.cell 7
        have c8:=LA.out.cell 8
        have c9:=LA.out.cell 9
        simp only[List.getElem?_cons_succ,List.getElem?_cons_zero]at c3 c4 c5 c6 c7 c8 c9
        have e:nmS m v=false:=by
          unfold nmS
          simp only[K1.out,K2.out,K3.out,Bool.false_and,Bool.true_and,Bool.and_false,Bool.and_true,Bool.not_true,Bool.not_false,Bool.or_true,Bool.true_or,Bool.or_false,Bool.false_or,cond_true,cond_false]
        rw[hR.out]at e
        clear hR
        subst e
        go_wp2_with fail
        go_ret
        exact⟨rfl,BW.out⟩
      | true =>
        obtain⟨R4,k4⟩: ∃R:Bool,((v.lv.n:Int)==0)=R:=⟨_,rfl⟩
        have K4:Hid (((v.lv.n:Int)==0)=R4):=k4
        cases R4 with
        | false =>
          have c3:=LA.out.cell 3
          have c4:=LA.out.cell 4
          have c5:=LA.out.cell 5
          have c6:=LA.out.cell 6
          have c7:=LA.out.cell 7
          have c8:=LA.out.cell 8
          have c9:=LA.out.cell 9
          simp only[List.getElem?_cons_succ,List.getElem?_cons_zero]at c3 c4 c5 c6 c7 c8 c9
          have e:nmS m v=false:=by
            unfold nmS
            simp only[K1.out,K2.out,K3.out,K4.out,Bool.false_and,Bool.true_and,Bool.and_false,Bool.and_true,Bool.not_true,Bool.not_false,Bool.or_true,Bool.true_or,Bool.or_false,Bool.false_or,cond_true,cond_false]
          rw[hR.out]at e
          clear hR
          subst e
          go_wp2_with fail
          go_ret
          exact⟨rfl,BW.out⟩
        | true =>
          obtain⟨R5,k5⟩: ∃R:Bool,((v.tx.n:Int)==0)=R:=⟨_,rfl⟩
          have K5:Hid (((v.tx.n:Int)==0)=R5):=k5
          cases R5 with
          | false =>
            have c3:=LA.out.cell 3
            have c4:=LA.out.cell 4
            have c5:=LA.out.cell 5
            have c6:=LA.out.cell 6
            have c7:=LA.out.cell 7
            have c8:=LA.out.cell 8
            have c9:=LA.out.cell 9
            simp only[List.getElem?_cons_succ,List.getElem?_cons_zero]at c3 c4 c5 c6 c7 c8 c9
            have e:nmS m v=false:=by
              unfold nmS
              simp only[K1.out,K2.out,K3.out,K4.out,K5.out,Bool.false_and,Bool.true_and,Bool.and_false,Bool.and_true,Bool.not_true,Bool.not_false,Bool.or_true,Bool.true_or,Bool.or_false,Bool.false_or,cond_true,cond_false]
            rw[hR.out]at e
            clear hR
            subst e
            go_wp2_with fail
            go_ret
            exact⟨rfl,BW.out⟩
          | true =>
            obtain⟨R6,k6⟩: ∃R:Bool,(m.rd==0)=R:=⟨_,rfl⟩
            have K6:Hid ((m.rd==0)=R6):=k6
            cases R6 with
            | false =>
              have c3:=LA.out.cell 3
              have c4:=LA.out.cell 4
              have c5:=LA.out.cell 5
              have c6:=LA.out.cell 6
              have c7:=LA.out.cell 7
              have c8:=LA.out.cell 8
              have c9:=LA.out.cell 9
              simp only[List.getElem?_cons_succ,List.getElem?_cons_zero]at c3 c4 c5 c6 c7 c8 c9
              have e:nmS m v=false:=by
                unfold nmS
                simp only[K1.out,K2.out,K3.out,K4.out,K5.out,K6.out,Bool.false_and,Bool.true_and,Bool.and_false,Bool.and_true,Bool.not_true,Bool.not_false,Bool.or_true,Bool.true_or,Bool.or_false,Bool.false_or,cond_true,cond_false]
              rw[hR.out]at e
              clear hR
              subst e
              go_wp2_with fail
              go_ret
              exact⟨rfl,BW.out⟩
            | true =>
              obtain⟨R7,k7⟩: ∃R:Bool,(m.se==0)=R:=⟨_,rfl⟩
              have K7:Hid ((m.se==0)=R7):=k7
              cases R7 with
              | false =>
                have c3:=LA.out.cell 3
                have c4:=LA.out.cell 4
                have c5:=LA.out.cell 5
                have c6:=LA.out.cell 6
                have c7:=LA.out.cell 7
                have c8:=LA.out.cell 8
                have c9:=LA.out.cell 9
                simp only[List.getElem?_cons_succ,List.getElem?_cons_zero]at c3 c4 c5 c6 c7 c8 c9
                have e:nmS m v=false:=by
                  unfold nmS
                  simp only[K1.out,K2.out,K3.out,K4.out,K5.out,K6.out,K7.out,Bool.false_and,Bool.true_and,Bool.and_false,Bool.and_true,Bool.not_true,Bool.not_false,Bool.or_true,Bool.true_or,Bool.or_false,Bool.false_or,cond_true,cond_false]
                rw[hR.out]at e
                clear hR
                subst e
                go_wp2_with fail
                go_ret
                exact⟨rfl,BW.out⟩
              | true =>
                obtain⟨R8,k8⟩: ∃R:Bool,(m.li==0)=R:=⟨_,rfl⟩
                have K8:Hid ((m.li==0)=R8):=k8
                cases R8 with
                | false =>
                  have c3:=LA.out.cell 3
                  have c4:=LA.out.cell 4
                  have c5:=LA.out.cell 5
                  have c6:=LA.out.cell 6
                  have c7:=LA.out.cell 7
                  have c8:=LA.out.cell 8
                  have c9:=LA.out.cell 9
                  simp only[List.getElem?_cons_succ,List.getElem?_cons_zero]at c3 c4 c5 c6 c7 c8 c9
                  have e:nmS m v=false:=by
                    unfold nmS
                    simp only[K1.out,K2.out,K3.out,K4.out,K5.out,K6.out,K7.out,K8.out,Bool.false_and,Bool.true_and,Bool.and_false,Bool.and_true,Bool.not_true,Bool.not_false,Bool.or_true,Bool.true_or,Bool.or_false,Bool.false_or,cond_true,cond_false]
                  rw[hR.out]at e
                  clear hR
                  subst e
                  go_wp2_with fail
                  go_ret
                  exact⟨rfl,BW.out⟩
                | true =>
                  obtain⟨R9,k9⟩: ∃R:Bool,(m.he==0)=R:=⟨_,rfl⟩
                  have K9:Hid ((m.he==0)=R9):=k9
                  cases R9 with
                  | false =>
                    have c3:=LA.out.cell 3
                    have c4:=LA.out.cell 4
                    have c5:=LA.out.cell 5
                    have c6:=LA.out.cell 6
                    have c7:=LA.out.cell 7
                    have c8:=LA.out.cell 8
                    have c9:=LA.out.cell 9
                    simp only[List.getElem?_cons_succ,List.getElem?_cons_zero]at c3 c4 c5 c6 c7 c8 c9
                    have e:nmS m v=false:=by
                      unfold nmS
                      simp only[K1.out,K2.out,K3.out,K4.out,K5.out,K6.out,K7.out,K8.out,K9.out,Bool.false_and,Bool.true_and,Bool.and_false,Bool.and_true,Bool.not_true,Bool.not_false,Bool.or_true,Bool.true_or,Bool.or_false,Bool.false_or,cond_true,cond_false]
                    rw[hR.out]at e
                    clear hR
                    subst e
                    go_wp2_with fail
                    go_ret
                    exact⟨rfl,BW.out⟩
                  | true =>
                    have c3:=LA.out.cell 3
                    have c4:=LA.out.cell 4
                    have c5:=LA.out.cell 5
                    have c6:=LA.out.cell 6
                    have c7:=LA.out.cell 7
                    have c8:=LA.out.cell 8
                    have c9:=LA.out.cell 9
                    simp only[List.getElem?_cons_succ,List.getElem?_cons_zero]at c3 c4 c5 c6 c7 c8 c9
                    go_wp2_with (first|(refine qAb rfl 39 _ rfl w.heap.size 10 rfl 41 _ LA.out [.int .i64 m.la.c,.int .i64 m.la.r,.int .i64 m.la.q,.int .i64 m.la.a,.int .i64 m.la.b,.slice v.ws.a v.ws.n v.ws.c] rfl _ Tryz.underlying39 rfl Tryz.sizeT ?_))
                    refine(qFa m.la.c m.la.r m.la.q m.la.a m.la.b v.ws m.la.ws _ HW).mono ?_
                    rintro e t10 ⟨rfl,b⟩
                    have LA:Hid (Bx t10 w.heap.size 41 [.int .i64 m.id,.int .i64 m.rid,.slice v.ms.a v.ms.n v.ms.c,.slice v.its.a v.its.n v.its.c,.slice v.lv.a v.lv.n v.lv.c,.slice v.tx.a v.tx.n v.tx.c,.int .i64 m.rd,.int .i64 m.se,.int .i64 m.li,.int .i64 m.he,.int .i64 m.la.c,.int .i64 m.la.r,.int .i64 m.la.q,.int .i64 m.la.a,.int .i64 m.la.b,.slice v.ws.a v.ws.n v.ws.c]):=LA.out.later b
                    have BW:Hid (Below w.heap.size w t10):=qAa BW.out b
                    clear b
                    obtain⟨R10,k10⟩: ∃R:Bool,(ntB m.la.c m.la.r m.la.q m.la.a m.la.b m.la.ws)=R:=⟨_,rfl⟩
                    rw[k10]
                    have K10:Hid ((ntB m.la.c m.la.r m.la.q m.la.a m.la.b m.la.ws)=R10):=k10
                    clear k10
                    cases R10 with
                    | false =>
                      have e:nmS m v=false:=by
                        unfold nmS
                        simp only[K1.out,K2.out,K3.out,K4.out,K5.out,K6.out,K7.out,K8.out,K9.out,K10.out,Bool.false_and,Bool.true_and,Bool.and_false,Bool.and_true,Bool.not_true,Bool.not_false,Bool.or_true,Bool.true_or,Bool.or_false,Bool.false_or,cond_true,cond_false]
                      rw[hR.out]at e
                      clear hR
                      subst e
                      go_wp2_with fail
                      go_ret
                      exact⟨rfl,BW.out⟩
                    | true =>
                      have e:nmS m v=true:=by
                        unfold nmS
                        simp only[K1.out,K2.out,K3.out,K4.out,K5.out,K6.out,K7.out,K8.out,K9.out,K10.out,Bool.false_and,Bool.true_and,Bool.and_false,Bool.and_true,Bool.not_true,Bool.not_false,Bool.or_true,Bool.true_or,Bool.or_false,Bool.false_or,cond_true,cond_false]
                      rw[hR.out]at e
                      clear hR
                      subst e
                      go_wp2_with fail
                      go_ret
                      exact⟨rfl,BW.out⟩
theorem qDa(m:Mt)(v:Mv)(w:World)(h:v.ws.n=m.la.ws.length):Calls Tryz.prog 61 #[.agg #[.int .i64 m.id,.int .i64 m.rid,.slice v.ms.a v.ms.n v.ms.c,.slice v.its.a v.its.n v.its.c,.slice v.lv.a v.lv.n v.lv.c,.slice v.tx.a v.tx.n v.tx.c,.int .i64 m.rd,.int .i64 m.se,.int .i64 m.li,.int .i64 m.he,.int .i64 m.la.c,.int .i64 m.la.r,.int .i64 m.la.q,.int .i64 m.la.a,.int .i64 m.la.b,.slice v.ws.a v.ws.n v.ws.c]] w fun e w'=>e=.returned (.bool (nmS m v))∧Below w.heap.size w w':=by
  obtain⟨R,hR0⟩: ∃R,nmS m v=R:=⟨_,rfl⟩
  rw[hR0]
  have hR:Hid (nmS m v=R):=hR0
  clear hR0
  have LA:Hid (Bx (w.alloc (.cells #[.int .i64 m.id,.int .i64 m.rid,.slice v.ms.a v.ms.n v.ms.c,.slice v.its.a v.its.n v.its.c,.slice v.lv.a v.lv.n v.lv.c,.slice v.tx.a v.tx.n v.tx.c,.int .i64 m.rd,.int .i64 m.se,.int .i64 m.li,.int .i64 m.he,.int .i64 m.la.c,.int .i64 m.la.r,.int .i64 m.la.q,.int .i64 m.la.a,.int .i64 m.la.b,.slice v.ws.a v.ws.n v.ws.c] 41)) w.heap.size 41 [.int .i64 m.id,.int .i64 m.rid,.slice v.ms.a v.ms.n v.ms.c,.slice v.its.a v.its.n v.its.c,.slice v.lv.a v.lv.n v.lv.c,.slice v.tx.a v.tx.n v.tx.c,.int .i64 m.rd,.int .i64 m.se,.int .i64 m.li,.int .i64 m.he,.int .i64 m.la.c,.int .i64 m.la.r,.int .i64 m.la.q,.int .i64 m.la.a,.int .i64 m.la.b,.slice v.ws.a v.ws.n v.ws.c]):=by
    have h:=Bx.new w 41 [.int .i64 m.id,.int .i64 m.rid,.slice v.ms.a v.ms.n v.ms.c,.slice v.its.a v.its.n v.its.c,.slice v.lv.a v.lv.n v.lv.c,.slice v.tx.a v.tx.n v.tx.c,.int .i64 m.rd,.int .i64 m.se,.int .i64 m.li,.int .i64 m.he,.int .i64 m.la.c,.int .i64 m.la.r,.int .i64 m.la.q,.int .i64 m.la.a,.int .i64 m.la.b,.slice v.ws.a v.ws.n v.ws.c]
    exact h
  have BW:Hid (Below w.heap.size w (w.alloc (.cells #[.int .i64 m.id,.int .i64 m.rid,.slice v.ms.a v.ms.n v.ms.c,.slice v.its.a v.its.n v.its.c,.slice v.lv.a v.lv.n v.lv.c,.slice v.tx.a v.tx.n v.tx.c,.int .i64 m.rd,.int .i64 m.se,.int .i64 m.li,.int .i64 m.he,.int .i64 m.la.c,.int .i64 m.la.r,.int .i64 m.la.q,.int .i64 m.la.a,.int .i64 m.la.b,.slice v.ws.a v.ws.n v.ws.c] 41))):=((Below.refl _ _).alloc (by simp) _)
  have HW:Hid (v.ws.n=m.la.ws.length):=h
  clear h
  have c0:=LA.out.cell 0
  have c3:=LA.out.cell 3
  have c4:=LA.out.cell 4
  have c5:=LA.out.cell 5
  have c6:=LA.out.cell 6
  have c7:=LA.out.cell 7
  have c8:=LA.out.cell 8
  have c9:=LA.out.cell 9
  simp only[List.getElem?_cons_succ,List.getElem?_cons_zero]at c0 c3 c4 c5 c6 c7 c8 c9
  go_enter Tryz.func61,Tryz.ntmps61
  obtain⟨R1,k1⟩: ∃R:Bool,(m.id==0)=R:=⟨_,rfl⟩
  have K1:Hid ((m.id==0)=R1):=k1
  cases R1 with
  | false =>
    have e:nmS m v=false:=by
      unfold nmS
      simp only[K1.out,Bool.false_and,Bool.true_and,Bool.and_false,Bool.and_true,Bool.not_true,Bool.not_false,Bool.or_true,Bool.true_or,Bool.or_false,Bool.false_or,cond_true,cond_false]
    rw[hR.out]at e
    clear hR
    subst e
    go_wp2_with fail
    go_ret
    exact⟨rfl,BW.out⟩
  | true =>
    go_wp2_with (first|(refine qAb rfl 37 _ rfl w.heap.size 1 rfl 41 _ LA.out [.int .i64 m.rid,.slice v.ms.a v.ms.n v.ms.c] rfl _ Tryz.underlying37 rfl Tryz.sizeR ?_))
    refine(qCi m.rid v.ms _).mono ?_
    rintro e t2 ⟨rfl,b⟩
    have LA:Hid (Bx t2 w.heap.size 41 [.int .i64 m.id,.int .i64 m.rid,.slice v.ms.a v.ms.n v.ms.c,.slice v.its.a v.its.n v.its.c,.slice v.lv.a v.lv.n v.lv.c,.slice v.tx.a v.tx.n v.tx.c,.int .i64 m.rd,.int .i64 m.se,.int .i64 m.li,.int .i64 m.he,.int .i64 m.la.c,.int .i64 m.la.r,.int .i64 m.la.q,.int .i64 m.la.a,.int .i64 m.la.b,.slice v.ws.a v.ws.n v.ws.c]):=LA.out.later b
    have BW:Hid (Below w.heap.size w t2):=qAa BW.out b
    clear b
    obtain⟨R2,k2⟩: ∃R:Bool,(nrB m.rid v.ms.n)=R:=⟨_,rfl⟩
    rw[k2]
    have K2:Hid ((nrB m.rid v.ms.n)=R2):=k2
    clear k2
    cases R2 with
    | false =>
      have e:nmS m v=false:=by
        unfold nmS
        simp only[K1.out,K2.out,Bool.false_and,Bool.true_and,Bool.and_false,Bool.and_true,Bool.not_true,Bool.not_false,Bool.or_true,Bool.true_or,Bool.or_false,Bool.false_or,cond_true,cond_false]
      rw[hR.out]at e
      clear hR
      subst e
      go_wp2_with fail
      go_ret
      exact⟨rfl,BW.out⟩
    | true =>
      obtain⟨R3,k3⟩: ∃R:Bool,((v.its.n:Int)==0)=R:=⟨_,rfl⟩
      have K3:Hid (((v.its.n:Int)==0)=R3):=k3
      cases R3 with
      | false =>
        have c3:=LA.out.cell 3
        have c4:=LA.out.cell 4
        have c5:=LA.out.cell 5
        have c6:=LA.out.cell 6
        have c7:=LA.out.cell 7
        have c8:=LA.out.cell 8
        have c9:=LA.out.cell 9
        simp only[List.getElem?_cons_succ,List.getElem?_cons_zero]at c3 c4 c5 c6 c7 c8 c9
        have e:nmS m v=false:=by
          unfold nmS
          simp only[K1.out,K2.out,K3.out,Bool.false_and,Bool.true_and,Bool.and_false,Bool.and_true,Bool.not_true,Bool.not_false,Bool.or_true,Bool.true_or,Bool.or_false,Bool.false_or,cond_true,cond_false]
        rw[hR.out]at e
        clear hR
        subst e
        go_wp2_with fail
        go_ret
        exact⟨rfl,BW.out⟩
      | true =>
        obtain⟨R4,k4⟩: ∃R:Bool,((v.lv.n:Int)==0)=R:=⟨_,rfl⟩
        have K4:Hid (((v.lv.n:Int)==0)=R4):=k4
        cases R4 with
        | false =>
          have c3:=LA.out.cell 3
          have c4:=LA.out.cell 4
          have c5:=LA.out.cell 5
          have c6:=LA.out.cell 6
          have c7:=LA.out.cell 7
          have c8:=LA.out.cell 8
          have c9:=LA.out.cell 9
          simp only[List.getElem?_cons_succ,List.getElem?_cons_zero]at c3 c4 c5 c6 c7 c8 c9
          have e:nmS m v=false:=by
            unfold nmS
            simp only[K1.out,K2.out,K3.out,K4.out,Bool.false_and,Bool.true_and,Bool.and_false,Bool.and_true,Bool.not_true,Bool.not_false,Bool.or_true,Bool.true_or,Bool.or_false,Bool.false_or,cond_true,cond_false]
          rw[hR.out]at e
          clear hR
          subst e
          go_wp2_with fail
          go_ret
          exact⟨rfl,BW.out⟩
        | true =>
          obtain⟨R5,k5⟩: ∃R:Bool,((v.tx.n:Int)==0)=R:=⟨_,rfl⟩
          have K5:Hid (((v.tx.n:Int)==0)=R5):=k5
          cases R5 with
          | false =>
            have c3:=LA.out.cell 3
            have c4:=LA.out.cell 4
            have c5:=LA.out.cell 5
            have c6:=LA.out.cell 6
            have c7:=LA.out.cell 7
            have c8:=LA.out.cell 8
            have c9:=LA.out.cell 9
            simp only[List.getElem?_cons_succ,List.getElem?_cons_zero]at c3 c4 c5 c6 c7 c8 c9
            have e:nmS m v=false:=by
              unfold nmS
              simp only[K1.out,K2.out,K3.out,K4.out,K5.out,Bool.false_and,Bool.true_and,Bool.and_false,Bool.and_true,Bool.not_true,Bool.not_false,Bool.or_true,Bool.true_or,Bool.or_false,Bool.false_or,cond_true,cond_false]
            rw[hR.out]at e
            clear hR
            subst e
            go_wp2_with fail
            go_ret
            exact⟨rfl,BW.out⟩
          | true =>
            obtain⟨R6,k6⟩: ∃R:Bool,(m.rd==0)=R:=⟨_,rfl⟩
            have K6:Hid ((m.rd==0)=R6):=k6
            cases R6 with
            | false =>
              have c3:=LA.out.cell 3
              have c4:=LA.out.cell 4
              have c5:=LA.out.cell 5
              have c6:=LA.out.cell 6
              have c7:=LA.out.cell 7
              have c8:=LA.out.cell 8
              have c9:=LA.out.cell 9
              simp only[List.getElem?_cons_succ,List.getElem?_cons_zero]at c3 c4 c5 c6 c7 c8 c9
              have e:nmS m v=false:=by
                unfold nmS
                simp only[K1.out,K2.out,K3.out,K4.out,K5.out,K6.out,Bool.false_and,Bool.true_and,Bool.and_false,Bool.and_true,Bool.not_true,Bool.not_false,Bool.or_true,Bool.true_or,Bool.or_false,Bool.false_or,cond_true,cond_false]
              rw[hR.out]at e
              clear hR
              subst e
              go_wp2_with fail
              go_ret
              exact⟨rfl,BW.out⟩
            | true =>
              obtain⟨R7,k7⟩: ∃R:Bool,(m.se==0)=R:=⟨_,rfl⟩
              have K7:Hid ((m.se==0)=R7):=k7
              cases R7 with
              | false =>
                have c3:=LA.out.cell 3
                have c4:=LA.out.cell 4
                have c5:=LA.out.cell 5
                have c6:=LA.out.cell 6
                have c7:=LA.out.cell 7
                have c8:=LA.out.cell 8
                have c9:=LA.out.cell 9
                simp only[List.getElem?_cons_succ,List.getElem?_cons_zero]at c3 c4 c5 c6 c7 c8 c9
                have e:nmS m v=false:=by
                  unfold nmS
                  simp only[K1.out,K2.out,K3.out,K4.out,K5.out,K6.out,K7.out,Bool.false_and,Bool.true_and,Bool.and_false,Bool.and_true,Bool.not_true,Bool.not_false,Bool.or_true,Bool.true_or,Bool.or_false,Bool.false_or,cond_true,cond_false]
                rw[hR.out]at e
                clear hR
                subst e
                go_wp2_with fail
                go_ret
                exact⟨rfl,BW.out⟩
              | true =>
                obtain⟨R8,k8⟩: ∃R:Bool,(m.li==0)=R:=⟨_,rfl⟩
                have K8:Hid ((m.li==0)=R8):=k8
                cases R8 with
                | false =>
                  have c3:=LA.out.cell 3
                  have c4:=LA.out.cell 4
                  have c5:=LA.out.cell 5
                  have c6:=LA.out.cell 6
                  have c7:=LA.out.cell 7
                  have c8:=LA.out.cell 8
                  have c9:=LA.out.cell 9
                  simp only[List.getElem?_cons_succ,List.getElem?_cons_zero]at c3 c4 c5 c6 c7 c8 c9
                  have e:nmS m v=false:=by
                    unfold nmS
                    simp only[K1.out,K2.out,K3.out,K4.out,K5.out,K6.out,K7.out,K8.out,Bool.false_and,Bool.true_and,Bool.and_false,Bool.and_true,Bool.not_true,Bool.not_false,Bool.or_true,Bool.true_or,Bool.or_false,Bool.false_or,cond_true,cond_false]
                  rw[hR.out]at e
                  clear hR
                  subst e
                  go_wp2_with fail
                  go_ret
                  exact⟨rfl,BW.out⟩
                | true =>
                  obtain⟨R9,k9⟩: ∃R:Bool,(m.he==0)=R:=⟨_,rfl⟩
                  have K9:Hid ((m.he==0)=R9):=k9
                  cases R9 with
                  | false =>
                    have c3:=LA.out.cell 3
                    have c4:=LA.out.cell 4
                    have c5:=LA.out.cell 5
                    have c6:=LA.out.cell 6
                    have c7:=LA.out.cell 7
                    have c8:=LA.out.cell 8
                    have c9:=LA.out.cell 9
                    simp only[List.getElem?_cons_succ,List.getElem?_cons_zero]at c3 c4 c5 c6 c7 c8 c9
                    have e:nmS m v=false:=by
                      unfold nmS
                      simp only[K1.out,K2.out,K3.out,K4.out,K5.out,K6.out,K7.out,K8.out,K9.out,Bool.false_and,Bool.true_and,Bool.and_false,Bool.and_true,Bool.not_true,Bool.not_false,Bool.or_true,Bool.true_or,Bool.or_false,Bool.false_or,cond_true,cond_false]
                    rw[hR.out]at e
                    clear hR
                    subst e
                    go_wp2_with fail
                    go_ret
                    exact⟨rfl,BW.out⟩
                  | true =>
                    have c3:=LA.out.cell 3
                    have c4:=LA.out.cell 4
                    have c5:=LA.out.cell 5
                    have c6:=LA.out.cell 6
                    have c7:=LA.out.cell 7
                    have c8:=LA.out.cell 8
                    have c9:=LA.out.cell 9
                    simp only[List.getElem?_cons_succ,List.getElem?_cons_zero]at c3 c4 c5 c6 c7 c8 c9
                    go_wp2_with (first|(refine qAb rfl 39 _ rfl w.heap.size 10 rfl 41 _ LA.out [.int .i64 m.la.c,.int .i64 m.la.r,.int .i64 m.la.q,.int .i64 m.la.a,.int .i64 m.la.b,.slice v.ws.a v.ws.n v.ws.c] rfl _ Tryz.underlying39 rfl Tryz.sizeT ?_))
                    refine(blank_any m.la.c m.la.r m.la.q m.la.a m.la.b v.ws m.la.ws _ HW).mono ?_
                    rintro e t10 ⟨rfl,b⟩
                    have LA:Hid (Bx t10 w.heap.size 41 [.int .i64 m.id,.int .i64 m.rid,.slice v.ms.a v.ms.n v.ms.c,.slice v.its.a v.its.n v.its.c,.slice v.lv.a v.lv.n v.lv.c,.slice v.tx.a v.tx.n v.tx.c,.int .i64 m.rd,.int .i64 m.se,.int .i64 m.li,.int .i64 m.he,.int .i64 m.la.c,.int .i64 m.la.r,.int .i64 m.la.q,.int .i64 m.la.a,.int .i64 m.la.b,.slice v.ws.a v.ws.n v.ws.c]):=LA.out.later b
                    have BW:Hid (Below w.heap.size w t10):=qAa BW.out b
                    clear b
                    obtain⟨R10,k10⟩: ∃R:Bool,(ntB m.la.c m.la.r m.la.q m.la.a m.la.b m.la.ws)=R:=⟨_,rfl⟩
                    rw[k10]
                    have K10:Hid ((ntB m.la.c m.la.r m.la.q m.la.a m.la.b m.la.ws)=R10):=k10
                    clear k10
                    cases R10 with
                    | false =>
                      have e:nmS m v=false:=by
                        unfold nmS
                        simp only[K1.out,K2.out,K3.out,K4.out,K5.out,K6.out,K7.out,K8.out,K9.out,K10.out,Bool.false_and,Bool.true_and,Bool.and_false,Bool.and_true,Bool.not_true,Bool.not_false,Bool.or_true,Bool.true_or,Bool.or_false,Bool.false_or,cond_true,cond_false]
                      rw[hR.out]at e
                      clear hR
                      subst e
                      go_wp2_with fail
                      go_ret
                      exact⟨rfl,BW.out⟩
                    | true =>
                      have e:nmS m v=true:=by
                        unfold nmS
                        simp only[K1.out,K2.out,K3.out,K4.out,K5.out,K6.out,K7.out,K8.out,K9.out,K10.out,Bool.false_and,Bool.true_and,Bool.and_false,Bool.and_true,Bool.not_true,Bool.not_false,Bool.or_true,Bool.true_or,Bool.or_false,Bool.false_or,cond_true,cond_false]
                      rw[hR.out]at e
                      clear hR
                      subst e
                      go_wp2_with fail
                      go_ret
                      exact⟨rfl,BW.out⟩
end Go.Proofs.YtifkopggmjbbeaaGreat
