/- Joined texts: CTk2 CTk3 CWc CHs CCtc CBb CHb CRh13 CGst. -/
import Derived.Test.YtifkopggmjbbeaaGreatWk13
import Derived.Test.YtifkopggmjbbeaaGreatWk14
import Derived.Test.YtifkopggmjbbeaaGreatWk11
import Derived.Test.YtifkopggmjbbeaaGreatWk8
import Derived.Test.YtifkopggmjbbeaaGreatWk5
set_option maxRecDepth 100000
set_option maxHeartbeats 16000000
/- A member takes items in. -/
namespace Go.Proofs.YtifkopggmjbbeaaGreat
open Go.RowKit Pl
set_option linter.unusedSimpArgs false
set_option linter.unusedVariables false
/-- the member with these items put in. -/
def Mt.putX(m:Mt)(xs:List It):Mt:=⟨m.id,m.rid,m.ms,putAll m.its xs,m.lv,m.tx,m.rd,m.se,m.li,m.he,m.la⟩
def Mv.setI(u:Mv)(s:Sv):Mv:=⟨u.ms,s,u.lv,u.tx,u.ws⟩
/-- all but the box g and the row that the items lie in stays. -/
structure TakeK (w:World) (g:Nat) (v u:Value) (w':World):Prop where
  os:w'.os=w.os
  tape:w'.tape=w.tape
  output:w'.output=w.output
  size:w.heap.size≤w'.heap.size
  block: ∀k,k<w.heap.size→k≠g→v.ownBlock≠some k→w'.heap[k]? =w.heap[k]?
  o:u.ownBlock=v.ownBlock∨ ∃nb,u.ownBlock=some nb∧w.heap.size≤nb
def SlJ(w:World)(B:Nat)(v:Value)(xs:List Int):Prop:=Sl w 3 1 B v xs.length (xs.map (Value.int .i64))
def SlX(w:World)(B:Nat)(v:Value)(xs:List ByteArray):Prop:=Sl w 9 1 B v xs.length (xs.map Value.string)
section
variable {w w' : World} {B : Nat} {v : Value}
theorem Pl.OwnS.x{xs:List ByteArray}(h:OwnS w B v xs):SlX w B v xs:=by
  have:=Sl.ofOwn (w:=w) (e:=9) (size:=1) (B:=B) (v:=v) (n:=xs.length) (xs:=xs.map Value.string) h
  exact this
theorem SlJ.ri{xs:List Int}(h:SlJ w B v xs):RI w v xs:=by
  obtain⟨ao,cap,e⟩:=Sl.form h
  refine⟨ao,cap,e,fun i hi=>?_⟩
  obtain⟨g,off,cap',hv,hb,hlt,hc,_⟩:=Sl.read h (by omega)
  rw[e]at hv
  simp at hv
  exact⟨g,off,hv.1,hlt,hc i _ (by simp[hi])⟩
theorem SlX.rt{xs:List ByteArray}(h:SlX w B v xs):RT w v xs:=by
  obtain⟨ao,cap,e⟩:=Sl.form h
  refine⟨ao,cap,e,fun i hi=>?_⟩
  obtain⟨g,off,cap',hv,hb,hlt,hc,_⟩:=Sl.read h (by omega)
  rw[e]at hv
  simp at hv
  exact⟨g,off,hv.1,hlt,hc i _ (by simp[hi])⟩
theorem Sl.blk{e size n:Nat}{xs:List Value}(h:Sl w e size B v n xs){k:Nat}(hk:v.ownBlock=some k): ∃cs,w.heap[k]? =some (.cells cs e (0,0)):=by
  rcases h.2 with⟨rfl,_⟩|⟨g,off,cap,cur,rfl,_,hg,_⟩
  · cases hk
  · cases hk;exact⟨_,hg⟩
theorem SlJ.sv{xs:List Int}(h:SlJ w B v xs): ∃s:Sv,v=.slice s.a s.n s.c∧s.n=xs.length:=by obtain⟨a,c,h1⟩:=Sl.form h;exact⟨⟨a,xs.length,c⟩,h1,rfl⟩
theorem SlX.sv{xs:List ByteArray}(h:SlX w B v xs): ∃s:Sv,v=.slice s.a s.n s.c∧s.n=xs.length:=by obtain⟨a,c,h1⟩:=Sl.form h;exact⟨⟨a,xs.length,c⟩,h1,rfl⟩
theorem SlJ.below{xs:List Int}(h:SlJ w B v xs)(hb:Below w.heap.size w w'):SlJ w' B v xs:=Sl.below h hb
theorem SlX.below{xs:List ByteArray}(h:SlX w B v xs)(hb:Below w.heap.size w w'):SlX w' B v xs:=Sl.below h hb
end
section
variable {P : Program} {w : World} {ops : Array Oper} {rest : List Oper} {o : Oper} {a : Act} {Q : Exit → Act → World → Prop}
/-- a walk stops at a store. -/
theorem qAc(t:TypeId)(x y:Operand)(ho:o.op=.store t x y)(h:Stp (wpList P ops Q (o::rest) a w)):wpList P ops Q (o::rest) a w:=h.out
end
theorem qAr{P:Program}{w:World}{ops:Array Oper}{rest:List Oper}{o:Oper}{a:Act}{Q:Exit→Act→World→Prop}(x y:Operand)(ts:Array TypeId)(ho:o.op=.call {callee:=.builtin .append,args:=#[x,y],argTypes:=ts})(h:Stp (wpList P ops Q (o::rest) a w)):wpList P ops Q (o::rest) a w:=h.out
theorem qCy{w0 w w':World}(h:Below w0.heap.size w0 w)(hb:Below w.heap.size w w'):Below w0.heap.size w0 w':=h.trans (hb.mono h.size)
theorem SlI.zero(w:World)(B:Nat):SlI w B (.slice none 0 0) []:=Sl.zero w 108 4 B
/-- a slice of items that is read. -/
def RSt(w:World)(s:Sv)(ts:List It):Prop:=s.n=ts.length∧ItemsAt w s.a ts
theorem RSt.stays{w w':World}{s:Sv}{ts:List It}(h:RSt w s ts)(hb:Below w.heap.size w w'):RSt w' s ts:=⟨h.1,h.2.stays hb⟩
theorem SlI.rst{w:World}{B:Nat}{s:Sv}{ts:List It}(h:SlI w B s.v ts):RSt w s ts:=by
  obtain⟨ao,cap,h1,h2⟩:=h.items
  unfold Sv.v at h1
  simp only[Value.slice.injEq]at h1
  exact⟨h1.2.1,h1.1 ▸ h2⟩
theorem RSt.r{w:World}{s:Sv}{ts:List It}(h:RSt w s ts):RIt w s.v ts:=⟨s.a,s.c,by unfold Sv.v;rw[h.1],h.2⟩
theorem RIt.rst{w:World}{s:Sv}{ts:List It}(h:RIt w s.v ts):RSt w s ts:=by
  obtain⟨a,c,h1,h2⟩:=h
  simp only[Sv.v,Value.slice.injEq]at h1
  exact⟨h1.2.1,h1.1 ▸ h2⟩
theorem bx_next(w:World)(o:Obj)(T:TypeId)(cs:List Value):Bx ((w.alloc o).alloc (.cells cs.toArray T)) (w.heap.size+1) T cs:=by
  have h:=Bx.new (w.alloc o) T cs
  rw[show(w.alloc o).heap.size=w.heap.size+1 by simp]at h
  exact h
theorem Tryz.sizeBu:(Tryz.prog.info? 70).map (·.size)=some 4:=by kernel_rfl
theorem Tryz.sizeLBu:(Tryz.prog.info? 93).map (·.size)=some 4:=by kernel_rfl
theorem Tryz.sizeBus:(Tryz.prog.info? 42).map (·.size)=some 1:=by kernel_rfl
theorem Tryz.sizeEv:(Tryz.prog.info? 110).map (·.size)=some 8:=by kernel_rfl
theorem Tryz.sizeLEv:(Tryz.prog.info? 98).map (·.size)=some 8:=by kernel_rfl
theorem Tryz.sizeEvs:(Tryz.prog.info? 43).map (·.size)=some 1:=by kernel_rfl
theorem Tryz.sizeDa:(Tryz.prog.info? 45).map (·.size)=some 24:=by kernel_rfl
theorem Tryz.sizeLDa:(Tryz.prog.info? 34).map (·.size)=some 24:=by kernel_rfl
theorem Tryz.sizeLR:(Tryz.prog.info? 24).map (·.size)=some 2:=by kernel_rfl
theorem Tryz.sizeLI:(Tryz.prog.info? 96).map (·.size)=some 4:=by kernel_rfl
theorem MtO.past{w w':World}{B g T:Nat}{m:Mt}{v:Mv}{cs:List Value}(h:MtO w B m v)(hB:Bx w g T cs)(ht:TurnAt g w w')(h3:T≠3)(h9:T≠9)(hI:T≠108):MtO w' B m v:=
  ⟨h.ms.past hB ht h3,h.its.past hB ht hI,h.lv.past hB ht h3,h.tx.past hB ht h9,h.ws.past hB ht h3,h.a1,h.a2,h.a3⟩
theorem MtO.keepb{w w':World}{B g T:Nat}{m:Mt}{v:Mv}{cs:List Value}(h:MtO w B m v)(hB:Bx w g T cs)(ht:KeepBut g w w')(h3:T≠3)(h9:T≠9)(hI:T≠108):MtO w' B m v:=
  ⟨h.ms.keepb hB ht h3,h.its.keepb hB ht hI,h.lv.keepb hB ht h3,h.tx.keepb hB ht h9,h.ws.keepb hB ht h3,h.a1,h.a2,h.a3⟩
/-- the member behind it. -/
def Mt.setIt(m:Mt)(ts:List It):Mt:=⟨m.id,m.rid,m.ms,ts,m.lv,m.tx,m.rd,m.se,m.li,m.he,m.la⟩
def Mt.cat(m:Mt)(y:It):Mt:=m.setIt (if m.ok=true then putP m.its y else m.its)
/-- whether a bundle is right. -/
def bunB(f n o:Int)(ts:List It):Bool:=decide (1≤f∧f≤5)&&(decide (1≤n∧n≤9)&&(decide (0≤o∧o≤n - 1)&&(iGo 0 ts&&(decide (0<o)||decide (ts.length=0)))))
theorem qCv{ao:Option Addr}{cap:Nat}{ts:List It}{b:Bool}(w:World)(hx:Hid (ItemsAt w ao ts))(hl:ts.length≤1048576)(h:iGo 0 ts=b):
    Calls Tryz.prog 134 #[.slice ao ts.length cap] w fun e w'=>e=.returned (.bool b)∧Below w.heap.size w w':=by rw[←h];exact qFe ao cap ts w hx hl
theorem qBv{ao:Option Addr}{cap:Nat}{ts:List It}{b:Bool}(w:World)(hx:Hid (ItemsAt w ao ts))(hl:ts.length≤1048576)(h:iGo 0 ts=b):
    Calls Tryz.prog 104 #[.slice ao ts.length cap] w fun e w'=>e=.returned (.bool b)∧Below w.heap.size w w':=by rw[←h];exact qDf ao cap ts w hx hl
theorem bundleOk_0(f n o:Int)(ao:Option Addr)(cap:Nat)(ts:List It)(w:World)(hx:Hid (ItemsAt w ao ts))(hl:ts.length≤1048576)(h1:decide (1≤f∧f≤5)=false):
    Calls Tryz.prog 121 #[.agg #[.int .i64 f,.int .i64 n,.int .i64 o,.slice ao ts.length cap]] w fun e w'=>e=.returned (.bool (false))∧Below w.heap.size w w':=by
  have HB:Hid (Below w.heap.size w (w.alloc (.cells #[.int .i64 f,.int .i64 n,.int .i64 o,.slice ao ts.length cap] 70))):=(Below.refl _ _).alloc (Nat.le_refl _) _
  clear hx
  go_enter Tryz.func121,Tryz.ntmps121
  go_wp2_with fail
  refine(qAe _ h1).mono ?_
  rintro e w1 ⟨rfl,rfl⟩
  go_wp2_with fail
  go_ret
  exact⟨rfl,HB.out⟩
theorem bundleOk_1(f n o:Int)(ao:Option Addr)(cap:Nat)(ts:List It)(w:World)(hx:Hid (ItemsAt w ao ts))(hl:ts.length≤1048576)(h1:decide (1≤f∧f≤5)=true)(h2:decide (1≤n∧n≤9)=false):
    Calls Tryz.prog 121 #[.agg #[.int .i64 f,.int .i64 n,.int .i64 o,.slice ao ts.length cap]] w fun e w'=>e=.returned (.bool (false))∧Below w.heap.size w w':=by
  have HB:Hid (Below w.heap.size w (w.alloc (.cells #[.int .i64 f,.int .i64 n,.int .i64 o,.slice ao ts.length cap] 70))):=(Below.refl _ _).alloc (Nat.le_refl _) _
  clear hx
  go_enter Tryz.func121,Tryz.ntmps121
  go_wp2_with fail
  refine(qAe _ h1).mono ?_
  rintro e w1 ⟨rfl,rfl⟩
  go_wp2_with fail
  refine(qAe _ h2).mono ?_
  rintro e w2 ⟨rfl,rfl⟩
  go_wp2_with fail
  go_ret
  exact⟨rfl,HB.out⟩
theorem bundleOk_2(f n o:Int)(ao:Option Addr)(cap:Nat)(ts:List It)(w:World)(hx:Hid (ItemsAt w ao ts))(hl:ts.length≤1048576)(h1:decide (1≤f∧f≤5)=true)(h2:decide (1≤n∧n≤9)=true)(h3:decide (0≤o∧o≤n - 1)=false):
    Calls Tryz.prog 121 #[.agg #[.int .i64 f,.int .i64 n,.int .i64 o,.slice ao ts.length cap]] w fun e w'=>e=.returned (.bool (false))∧Below w.heap.size w w':=by
  have HB:Hid (Below w.heap.size w (w.alloc (.cells #[.int .i64 f,.int .i64 n,.int .i64 o,.slice ao ts.length cap] 70))):=(Below.refl _ _).alloc (Nat.le_refl _) _
  have hn:1≤n∧n≤9:=of_decide_eq_true h2
  have hw:IntKind.i64.wrap (n - 1)=n - 1:=by rw[IntKind.wrap_i64];omega
  clear hx
  go_enter Tryz.func121,Tryz.ntmps121
  go_wp2_with fail
  refine(qAe _ h1).mono ?_
  rintro e w1 ⟨rfl,rfl⟩
  go_wp2_with fail
  refine(qAe _ h2).mono ?_
  rintro e w2 ⟨rfl,rfl⟩
  go_wp2_with fail
  refine(qAe _ h3).mono ?_
  rintro e w3 ⟨rfl,rfl⟩
  go_wp2_with fail
  go_ret
  exact⟨rfl,HB.out⟩
theorem bundleOk_3(f n o:Int)(ao:Option Addr)(cap:Nat)(ts:List It)(w:World)(hx:Hid (ItemsAt w ao ts))(hl:ts.length≤1048576)(h1:decide (1≤f∧f≤5)=true)(h2:decide (1≤n∧n≤9)=true)(h3:decide (0≤o∧o≤n - 1)=true)(h4:Hid (iGo 0 ts=false)):
    Calls Tryz.prog 121 #[.agg #[.int .i64 f,.int .i64 n,.int .i64 o,.slice ao ts.length cap]] w fun e w'=>e=.returned (.bool (false))∧Below w.heap.size w w':=by
  have HB:Hid (Below w.heap.size w (w.alloc (.cells #[.int .i64 f,.int .i64 n,.int .i64 o,.slice ao ts.length cap] 70))):=(Below.refl _ _).alloc (Nat.le_refl _) _
  have hn:1≤n∧n≤9:=of_decide_eq_true h2
  have hw:IntKind.i64.wrap (n - 1)=n - 1:=by rw[IntKind.wrap_i64];omega
  have HX:Hid (ItemsAt (w.alloc (.cells #[.int .i64 f,.int .i64 n,.int .i64 o,.slice ao ts.length cap] 70)) ao ts):=hx.out.stays HB.out
  have HBx:Hid (Bx (w.alloc (.cells #[.int .i64 f,.int .i64 n,.int .i64 o,.slice ao ts.length cap] 70)) w.heap.size 70 [.int .i64 f,.int .i64 n,.int .i64 o,.slice ao ts.length cap]):=Bx.new w 70 _
  clear hx
  go_enter Tryz.func121,Tryz.ntmps121
  go_wp2_with fail
  refine(qAe _ h1).mono ?_
  rintro e w1 ⟨rfl,rfl⟩
  go_wp2_with fail
  refine(qAe _ h2).mono ?_
  rintro e w2 ⟨rfl,rfl⟩
  go_wp2_with fail
  refine(qAe _ h3).mono ?_
  rintro e w3 ⟨rfl,rfl⟩
  go_wp2_with fail
  generalize w.alloc (.cells #[.int .i64 f,.int .i64 n,.int .i64 o,.slice ao ts.length cap] 70)=W at *
  refine(qCv _ HX hl h4.out).mono ?_
  rintro e w4 ⟨rfl,hb4⟩
  have B4:Hid (Below w.heap.size w w4):=HB.out.trans (hb4.mono HB.out.size)
  have X4:=HBx.out.later hb4
  have c2:=X4.cell 2
  have c3:=X4.cell 3
  simp only[List.getElem?_cons_succ,List.getElem?_cons_zero]at c2 c3
  clear hb4 X4 HX HBx HB h1 h2 h3 h4 hn hw
  go_wp2_with fail
  go_ret
  exact⟨rfl,B4.out⟩
theorem bundleOk_4(f n o:Int)(ao:Option Addr)(cap:Nat)(ts:List It)(w:World)(hx:Hid (ItemsAt w ao ts))(hl:ts.length≤1048576)(h1:decide (1≤f∧f≤5)=true)(h2:decide (1≤n∧n≤9)=true)(h3:decide (0≤o∧o≤n - 1)=true)(h4:Hid (iGo 0 ts=true))(h5:0<o):
    Calls Tryz.prog 121 #[.agg #[.int .i64 f,.int .i64 n,.int .i64 o,.slice ao ts.length cap]] w fun e w'=>e=.returned (.bool (true))∧Below w.heap.size w w':=by
  have HB:Hid (Below w.heap.size w (w.alloc (.cells #[.int .i64 f,.int .i64 n,.int .i64 o,.slice ao ts.length cap] 70))):=(Below.refl _ _).alloc (Nat.le_refl _) _
  have hn:1≤n∧n≤9:=of_decide_eq_true h2
  have hw:IntKind.i64.wrap (n - 1)=n - 1:=by rw[IntKind.wrap_i64];omega
  have HX:Hid (ItemsAt (w.alloc (.cells #[.int .i64 f,.int .i64 n,.int .i64 o,.slice ao ts.length cap] 70)) ao ts):=hx.out.stays HB.out
  have HBx:Hid (Bx (w.alloc (.cells #[.int .i64 f,.int .i64 n,.int .i64 o,.slice ao ts.length cap] 70)) w.heap.size 70 [.int .i64 f,.int .i64 n,.int .i64 o,.slice ao ts.length cap]):=Bx.new w 70 _
  clear hx
  go_enter Tryz.func121,Tryz.ntmps121
  go_wp2_with fail
  refine(qAe _ h1).mono ?_
  rintro e w1 ⟨rfl,rfl⟩
  go_wp2_with fail
  refine(qAe _ h2).mono ?_
  rintro e w2 ⟨rfl,rfl⟩
  go_wp2_with fail
  refine(qAe _ h3).mono ?_
  rintro e w3 ⟨rfl,rfl⟩
  go_wp2_with fail
  generalize w.alloc (.cells #[.int .i64 f,.int .i64 n,.int .i64 o,.slice ao ts.length cap] 70)=W at *
  refine(qCv _ HX hl h4.out).mono ?_
  rintro e w4 ⟨rfl,hb4⟩
  have B4:Hid (Below w.heap.size w w4):=HB.out.trans (hb4.mono HB.out.size)
  have X4:=HBx.out.later hb4
  have c2:=X4.cell 2
  have c3:=X4.cell 3
  simp only[List.getElem?_cons_succ,List.getElem?_cons_zero]at c2 c3
  clear hb4 X4 HX HBx HB h1 h2 h3 h4 hn hw
  go_wp2_with fail
  go_ret
  exact⟨rfl,B4.out⟩
theorem bundleOk_5(f n o:Int)(ao:Option Addr)(cap:Nat)(ts:List It)(w:World)(hx:Hid (ItemsAt w ao ts))(hl:ts.length≤1048576)(h1:decide (1≤f∧f≤5)=true)(h2:decide (1≤n∧n≤9)=true)(h3:decide (0≤o∧o≤n - 1)=true)(h4:Hid (iGo 0 ts=true))(h5: ¬0<o)(he:((ts.length:Int)==0)=true):
    Calls Tryz.prog 121 #[.agg #[.int .i64 f,.int .i64 n,.int .i64 o,.slice ao ts.length cap]] w fun e w'=>e=.returned (.bool (true))∧Below w.heap.size w w':=by
  have HB:Hid (Below w.heap.size w (w.alloc (.cells #[.int .i64 f,.int .i64 n,.int .i64 o,.slice ao ts.length cap] 70))):=(Below.refl _ _).alloc (Nat.le_refl _) _
  have hn:1≤n∧n≤9:=of_decide_eq_true h2
  have hw:IntKind.i64.wrap (n - 1)=n - 1:=by rw[IntKind.wrap_i64];omega
  have HX:Hid (ItemsAt (w.alloc (.cells #[.int .i64 f,.int .i64 n,.int .i64 o,.slice ao ts.length cap] 70)) ao ts):=hx.out.stays HB.out
  have HBx:Hid (Bx (w.alloc (.cells #[.int .i64 f,.int .i64 n,.int .i64 o,.slice ao ts.length cap] 70)) w.heap.size 70 [.int .i64 f,.int .i64 n,.int .i64 o,.slice ao ts.length cap]):=Bx.new w 70 _
  clear hx
  go_enter Tryz.func121,Tryz.ntmps121
  go_wp2_with fail
  refine(qAe _ h1).mono ?_
  rintro e w1 ⟨rfl,rfl⟩
  go_wp2_with fail
  refine(qAe _ h2).mono ?_
  rintro e w2 ⟨rfl,rfl⟩
  go_wp2_with fail
  refine(qAe _ h3).mono ?_
  rintro e w3 ⟨rfl,rfl⟩
  go_wp2_with fail
  generalize w.alloc (.cells #[.int .i64 f,.int .i64 n,.int .i64 o,.slice ao ts.length cap] 70)=W at *
  refine(qCv _ HX hl h4.out).mono ?_
  rintro e w4 ⟨rfl,hb4⟩
  have B4:Hid (Below w.heap.size w w4):=HB.out.trans (hb4.mono HB.out.size)
  have X4:=HBx.out.later hb4
  have c2:=X4.cell 2
  have c3:=X4.cell 3
  simp only[List.getElem?_cons_succ,List.getElem?_cons_zero]at c2 c3
  clear hb4 X4 HX HBx HB h1 h2 h3 h4 hn hw
  go_wp2_with fail
  go_ret
  exact⟨rfl,B4.out⟩
theorem bundleOk_6(f n o:Int)(ao:Option Addr)(cap:Nat)(ts:List It)(w:World)(hx:Hid (ItemsAt w ao ts))(hl:ts.length≤1048576)(h1:decide (1≤f∧f≤5)=true)(h2:decide (1≤n∧n≤9)=true)(h3:decide (0≤o∧o≤n - 1)=true)(h4:Hid (iGo 0 ts=true))(h5: ¬0<o)(he:((ts.length:Int)==0)=false):
    Calls Tryz.prog 121 #[.agg #[.int .i64 f,.int .i64 n,.int .i64 o,.slice ao ts.length cap]] w fun e w'=>e=.returned (.bool (false))∧Below w.heap.size w w':=by
  have HB:Hid (Below w.heap.size w (w.alloc (.cells #[.int .i64 f,.int .i64 n,.int .i64 o,.slice ao ts.length cap] 70))):=(Below.refl _ _).alloc (Nat.le_refl _) _
  have hn:1≤n∧n≤9:=of_decide_eq_true h2
  have hw:IntKind.i64.wrap (n - 1)=n - 1:=by rw[IntKind.wrap_i64];omega
  have HX:Hid (ItemsAt (w.alloc (.cells #[.int .i64 f,.int .i64 n,.int .i64 o,.slice ao ts.length cap] 70)) ao ts):=hx.out.stays HB.out
  have HBx:Hid (Bx (w.alloc (.cells #[.int .i64 f,.int .i64 n,.int .i64 o,.slice ao ts.length cap] 70)) w.heap.size 70 [.int .i64 f,.int .i64 n,.int .i64 o,.slice ao ts.length cap]):=Bx.new w 70 _
  clear hx
  go_enter Tryz.func121,Tryz.ntmps121
  go_wp2_with fail
  refine(qAe _ h1).mono ?_
  rintro e w1 ⟨rfl,rfl⟩
  go_wp2_with fail
  refine(qAe _ h2).mono ?_
  rintro e w2 ⟨rfl,rfl⟩
  go_wp2_with fail
  refine(qAe _ h3).mono ?_
  rintro e w3 ⟨rfl,rfl⟩
  go_wp2_with fail
  generalize w.alloc (.cells #[.int .i64 f,.int .i64 n,.int .i64 o,.slice ao ts.length cap] 70)=W at *
  refine(qCv _ HX hl h4.out).mono ?_
  rintro e w4 ⟨rfl,hb4⟩
  have B4:Hid (Below w.heap.size w w4):=HB.out.trans (hb4.mono HB.out.size)
  have X4:=HBx.out.later hb4
  have c2:=X4.cell 2
  have c3:=X4.cell 3
  simp only[List.getElem?_cons_succ,List.getElem?_cons_zero]at c2 c3
  clear hb4 X4 HX HBx HB h1 h2 h3 h4 hn hw
  go_wp2_with fail
  go_ret
  exact⟨by simp;omega,B4.out⟩
theorem bundleOk_any(f n o:Int)(ao:Option Addr)(cap:Nat)(ts:List It)(w:World)(hx:Hid (ItemsAt w ao ts))(hl:ts.length≤1048576):
    Calls Tryz.prog 121 #[.agg #[.int .i64 f,.int .i64 n,.int .i64 o,.slice ao ts.length cap]] w fun e w'=>e=.returned (.bool (bunB f n o ts))∧Below w.heap.size w w':=by
  unfold bunB
  cases h1:decide (1≤f∧f≤5)with
  |false=>exact bundleOk_0 f n o ao cap ts w hx hl h1
  | true =>
    cases h2:decide (1≤n∧n≤9)with
    |false=>exact bundleOk_1 f n o ao cap ts w hx hl h1 h2
    | true =>
      cases h3:decide (0≤o∧o≤n - 1)with
      |false=>exact bundleOk_2 f n o ao cap ts w hx hl h1 h2 h3
      | true =>
        cases h4:iGo 0 ts with
        |false=>exact bundleOk_3 f n o ao cap ts w hx hl h1 h2 h3 h4
        | true =>
          by_cases h5:0<o
          · have h6 : decide (0 < o) = true := decide_eq_true h5
            rw[h6]
            exact bundleOk_4 f n o ao cap ts w hx hl h1 h2 h3 h4 h5
          · have h6 : decide (0 < o) = false := decide_eq_false h5
            rw[h6]
            by_cases h7:ts.length=0
            · rw [decide_eq_true h7]
              exact bundleOk_5 f n o ao cap ts w hx hl h1 h2 h3 h4 h5 (by simp[h7])
            · rw [decide_eq_false h7]
              exact bundleOk_6 f n o ao cap ts w hx hl h1 h2 h3 h4 h5 (by simp;intro h;exact h7 (by simp[h]))
theorem spBundleOk_0(f n o:Int)(ao:Option Addr)(cap:Nat)(ts:List It)(w:World)(hx:Hid (ItemsAt w ao ts))(hl:ts.length≤1048576)(h1:decide (1≤f∧f≤5)=false):
    Calls Tryz.prog 64 #[.agg #[.int .i64 f,.int .i64 n,.int .i64 o,.slice ao ts.length cap]] w fun e w'=>e=.returned (.bool (false))∧Below w.heap.size w w':=by
  have HB:Hid (Below w.heap.size w (w.alloc (.cells #[.int .i64 f,.int .i64 n,.int .i64 o,.slice ao ts.length cap] 70))):=(Below.refl _ _).alloc (Nat.le_refl _) _
  clear hx
  go_enter Tryz.func64,Tryz.ntmps64
  go_wp2_with fail
  refine(qAi _ h1).mono ?_
  rintro e w1 ⟨rfl,rfl⟩
  go_wp2_with fail
  go_ret
  exact⟨rfl,HB.out⟩
theorem spBundleOk_1(f n o:Int)(ao:Option Addr)(cap:Nat)(ts:List It)(w:World)(hx:Hid (ItemsAt w ao ts))(hl:ts.length≤1048576)(h1:decide (1≤f∧f≤5)=true)(h2:decide (1≤n∧n≤9)=false):
    Calls Tryz.prog 64 #[.agg #[.int .i64 f,.int .i64 n,.int .i64 o,.slice ao ts.length cap]] w fun e w'=>e=.returned (.bool (false))∧Below w.heap.size w w':=by
  have HB:Hid (Below w.heap.size w (w.alloc (.cells #[.int .i64 f,.int .i64 n,.int .i64 o,.slice ao ts.length cap] 70))):=(Below.refl _ _).alloc (Nat.le_refl _) _
  clear hx
  go_enter Tryz.func64,Tryz.ntmps64
  go_wp2_with fail
  refine(qAi _ h1).mono ?_
  rintro e w1 ⟨rfl,rfl⟩
  go_wp2_with fail
  refine(qAi _ h2).mono ?_
  rintro e w2 ⟨rfl,rfl⟩
  go_wp2_with fail
  go_ret
  exact⟨rfl,HB.out⟩
theorem spBundleOk_2(f n o:Int)(ao:Option Addr)(cap:Nat)(ts:List It)(w:World)(hx:Hid (ItemsAt w ao ts))(hl:ts.length≤1048576)(h1:decide (1≤f∧f≤5)=true)(h2:decide (1≤n∧n≤9)=true)(h3:decide (0≤o∧o≤n - 1)=false):
    Calls Tryz.prog 64 #[.agg #[.int .i64 f,.int .i64 n,.int .i64 o,.slice ao ts.length cap]] w fun e w'=>e=.returned (.bool (false))∧Below w.heap.size w w':=by
  have HB:Hid (Below w.heap.size w (w.alloc (.cells #[.int .i64 f,.int .i64 n,.int .i64 o,.slice ao ts.length cap] 70))):=(Below.refl _ _).alloc (Nat.le_refl _) _
  have hn:1≤n∧n≤9:=of_decide_eq_true h2
  have hw:IntKind.i64.wrap (n - 1)=n - 1:=by rw[IntKind.wrap_i64];omega
  clear hx
  go_enter Tryz.func64,Tryz.ntmps64
  go_wp2_with fail
  refine(qAi _ h1).mono ?_
  rintro e w1 ⟨rfl,rfl⟩
  go_wp2_with fail
  refine(qAi _ h2).mono ?_
  rintro e w2 ⟨rfl,rfl⟩
  go_wp2_with fail
  refine(qAi _ h3).mono ?_
  rintro e w3 ⟨rfl,rfl⟩
  go_wp2_with fail
  go_ret
  exact⟨rfl,HB.out⟩
theorem spBundleOk_3(f n o:Int)(ao:Option Addr)(cap:Nat)(ts:List It)(w:World)(hx:Hid (ItemsAt w ao ts))(hl:ts.length≤1048576)(h1:decide (1≤f∧f≤5)=true)(h2:decide (1≤n∧n≤9)=true)(h3:decide (0≤o∧o≤n - 1)=true)(h4:Hid (iGo 0 ts=false)):
    Calls Tryz.prog 64 #[.agg #[.int .i64 f,.int .i64 n,.int .i64 o,.slice ao ts.length cap]] w fun e w'=>e=.returned (.bool (false))∧Below w.heap.size w w':=by
  have HB:Hid (Below w.heap.size w (w.alloc (.cells #[.int .i64 f,.int .i64 n,.int .i64 o,.slice ao ts.length cap] 70))):=(Below.refl _ _).alloc (Nat.le_refl _) _
  have hn:1≤n∧n≤9:=of_decide_eq_true h2
  have hw:IntKind.i64.wrap (n - 1)=n - 1:=by rw[IntKind.wrap_i64];omega
  have HX:Hid (ItemsAt (w.alloc (.cells #[.int .i64 f,.int .i64 n,.int .i64 o,.slice ao ts.length cap] 70)) ao ts):=hx.out.stays HB.out
  have HBx:Hid (Bx (w.alloc (.cells #[.int .i64 f,.int .i64 n,.int .i64 o,.slice ao ts.length cap] 70)) w.heap.size 70 [.int .i64 f,.int .i64 n,.int .i64 o,.slice ao ts.length cap]):=Bx.new w 70 _
  clear hx
  go_enter Tryz.func64,Tryz.ntmps64
  go_wp2_with fail
  refine(qAi _ h1).mono ?_
  rintro e w1 ⟨rfl,rfl⟩
  go_wp2_with fail
  refine(qAi _ h2).mono ?_
  rintro e w2 ⟨rfl,rfl⟩
  go_wp2_with fail
  refine(qAi _ h3).mono ?_
  rintro e w3 ⟨rfl,rfl⟩
  go_wp2_with fail
  generalize w.alloc (.cells #[.int .i64 f,.int .i64 n,.int .i64 o,.slice ao ts.length cap] 70)=W at *
  refine(qBv _ HX hl h4.out).mono ?_
  rintro e w4 ⟨rfl,hb4⟩
  have B4:Hid (Below w.heap.size w w4):=HB.out.trans (hb4.mono HB.out.size)
  have X4:=HBx.out.later hb4
  have c2:=X4.cell 2
  have c3:=X4.cell 3
  simp only[List.getElem?_cons_succ,List.getElem?_cons_zero]at c2 c3
  clear hb4 X4 HX HBx HB h1 h2 h3 h4 hn hw
  go_wp2_with fail
  go_ret
  exact⟨rfl,B4.out⟩
theorem spBundleOk_4(f n o:Int)(ao:Option Addr)(cap:Nat)(ts:List It)(w:World)(hx:Hid (ItemsAt w ao ts))(hl:ts.length≤1048576)(h1:decide (1≤f∧f≤5)=true)(h2:decide (1≤n∧n≤9)=true)(h3:decide (0≤o∧o≤n - 1)=true)(h4:Hid (iGo 0 ts=true))(h5:0<o):
    Calls Tryz.prog 64 #[.agg #[.int .i64 f,.int .i64 n,.int .i64 o,.slice ao ts.length cap]] w fun e w'=>e=.returned (.bool (true))∧Below w.heap.size w w':=by
  have HB:Hid (Below w.heap.size w (w.alloc (.cells #[.int .i64 f,.int .i64 n,.int .i64 o,.slice ao ts.length cap] 70))):=(Below.refl _ _).alloc (Nat.le_refl _) _
  have hn:1≤n∧n≤9:=of_decide_eq_true h2
  have hw:IntKind.i64.wrap (n - 1)=n - 1:=by rw[IntKind.wrap_i64];omega
  have HX:Hid (ItemsAt (w.alloc (.cells #[.int .i64 f,.int .i64 n,.int .i64 o,.slice ao ts.length cap] 70)) ao ts):=hx.out.stays HB.out
  have HBx:Hid (Bx (w.alloc (.cells #[.int .i64 f,.int .i64 n,.int .i64 o,.slice ao ts.length cap] 70)) w.heap.size 70 [.int .i64 f,.int .i64 n,.int .i64 o,.slice ao ts.length cap]):=Bx.new w 70 _
  clear hx
  go_enter Tryz.func64,Tryz.ntmps64
  go_wp2_with fail
  refine(qAi _ h1).mono ?_
  rintro e w1 ⟨rfl,rfl⟩
  go_wp2_with fail
  refine(qAi _ h2).mono ?_
  rintro e w2 ⟨rfl,rfl⟩
  go_wp2_with fail
  refine(qAi _ h3).mono ?_
  rintro e w3 ⟨rfl,rfl⟩
  go_wp2_with fail
  generalize w.alloc (.cells #[.int .i64 f,.int .i64 n,.int .i64 o,.slice ao ts.length cap] 70)=W at *
  refine(qBv _ HX hl h4.out).mono ?_
  rintro e w4 ⟨rfl,hb4⟩
  have B4:Hid (Below w.heap.size w w4):=HB.out.trans (hb4.mono HB.out.size)
  have X4:=HBx.out.later hb4
  have c2:=X4.cell 2
  have c3:=X4.cell 3
  simp only[List.getElem?_cons_succ,List.getElem?_cons_zero]at c2 c3
  clear hb4 X4 HX HBx HB h1 h2 h3 h4 hn hw
  go_wp2_with fail
  go_ret
  exact⟨rfl,B4.out⟩
theorem spBundleOk_5(f n o:Int)(ao:Option Addr)(cap:Nat)(ts:List It)(w:World)(hx:Hid (ItemsAt w ao ts))(hl:ts.length≤1048576)(h1:decide (1≤f∧f≤5)=true)(h2:decide (1≤n∧n≤9)=true)(h3:decide (0≤o∧o≤n - 1)=true)(h4:Hid (iGo 0 ts=true))(h5: ¬0<o)(he:((ts.length:Int)==0)=true):
    Calls Tryz.prog 64 #[.agg #[.int .i64 f,.int .i64 n,.int .i64 o,.slice ao ts.length cap]] w fun e w'=>e=.returned (.bool (true))∧Below w.heap.size w w':=by
  have HB:Hid (Below w.heap.size w (w.alloc (.cells #[.int .i64 f,.int .i64 n,.int .i64 o,.slice ao ts.length cap] 70))):=(Below.refl _ _).alloc (Nat.le_refl _) _
  have hn:1≤n∧n≤9:=of_decide_eq_true h2
  have hw:IntKind.i64.wrap (n - 1)=n - 1:=by rw[IntKind.wrap_i64];omega
  have HX:Hid (ItemsAt (w.alloc (.cells #[.int .i64 f,.int .i64 n,.int .i64 o,.slice ao ts.length cap] 70)) ao ts):=hx.out.stays HB.out
  have HBx:Hid (Bx (w.alloc (.cells #[.int .i64 f,.int .i64 n,.int .i64 o,.slice ao ts.length cap] 70)) w.heap.size 70 [.int .i64 f,.int .i64 n,.int .i64 o,.slice ao ts.length cap]):=Bx.new w 70 _
  clear hx
  go_enter Tryz.func64,Tryz.ntmps64
  go_wp2_with fail
  refine(qAi _ h1).mono ?_
  rintro e w1 ⟨rfl,rfl⟩
  go_wp2_with fail
  refine(qAi _ h2).mono ?_
  rintro e w2 ⟨rfl,rfl⟩
  go_wp2_with fail
  refine(qAi _ h3).mono ?_
  rintro e w3 ⟨rfl,rfl⟩
  go_wp2_with fail
  generalize w.alloc (.cells #[.int .i64 f,.int .i64 n,.int .i64 o,.slice ao ts.length cap] 70)=W at *
  refine(qBv _ HX hl h4.out).mono ?_
  rintro e w4 ⟨rfl,hb4⟩
  have B4:Hid (Below w.heap.size w w4):=HB.out.trans (hb4.mono HB.out.size)
  have X4:=HBx.out.later hb4
  have c2:=X4.cell 2
  have c3:=X4.cell 3
  simp only[List.getElem?_cons_succ,List.getElem?_cons_zero]at c2 c3
  clear hb4 X4 HX HBx HB h1 h2 h3 h4 hn hw
  go_wp2_with fail
  go_ret
  exact⟨rfl,B4.out⟩
theorem spBundleOk_6(f n o:Int)(ao:Option Addr)(cap:Nat)(ts:List It)(w:World)(hx:Hid (ItemsAt w ao ts))(hl:ts.length≤1048576)(h1:decide (1≤f∧f≤5)=true)(h2:decide (1≤n∧n≤9)=true)(h3:decide (0≤o∧o≤n - 1)=true)(h4:Hid (iGo 0 ts=true))(h5: ¬0<o)(he:((ts.length:Int)==0)=false):
    Calls Tryz.prog 64 #[.agg #[.int .i64 f,.int .i64 n,.int .i64 o,.slice ao ts.length cap]] w fun e w'=>e=.returned (.bool (false))∧Below w.heap.size w w':=by
  have HB:Hid (Below w.heap.size w (w.alloc (.cells #[.int .i64 f,.int .i64 n,.int .i64 o,.slice ao ts.length cap] 70))):=(Below.refl _ _).alloc (Nat.le_refl _) _
  have hn:1≤n∧n≤9:=of_decide_eq_true h2
  have hw:IntKind.i64.wrap (n - 1)=n - 1:=by rw[IntKind.wrap_i64];omega
  have HX:Hid (ItemsAt (w.alloc (.cells #[.int .i64 f,.int .i64 n,.int .i64 o,.slice ao ts.length cap] 70)) ao ts):=hx.out.stays HB.out
  have HBx:Hid (Bx (w.alloc (.cells #[.int .i64 f,.int .i64 n,.int .i64 o,.slice ao ts.length cap] 70)) w.heap.size 70 [.int .i64 f,.int .i64 n,.int .i64 o,.slice ao ts.length cap]):=Bx.new w 70 _
  clear hx
  go_enter Tryz.func64,Tryz.ntmps64
  go_wp2_with fail
  refine(qAi _ h1).mono ?_
  rintro e w1 ⟨rfl,rfl⟩
  go_wp2_with fail
  refine(qAi _ h2).mono ?_
  rintro e w2 ⟨rfl,rfl⟩
  go_wp2_with fail
  refine(qAi _ h3).mono ?_
  rintro e w3 ⟨rfl,rfl⟩
  go_wp2_with fail
  generalize w.alloc (.cells #[.int .i64 f,.int .i64 n,.int .i64 o,.slice ao ts.length cap] 70)=W at *
  refine(qBv _ HX hl h4.out).mono ?_
  rintro e w4 ⟨rfl,hb4⟩
  have B4:Hid (Below w.heap.size w w4):=HB.out.trans (hb4.mono HB.out.size)
  have X4:=HBx.out.later hb4
  have c2:=X4.cell 2
  have c3:=X4.cell 3
  simp only[List.getElem?_cons_succ,List.getElem?_cons_zero]at c2 c3
  clear hb4 X4 HX HBx HB h1 h2 h3 h4 hn hw
  go_wp2_with fail
  go_ret
  exact⟨by simp;omega,B4.out⟩
theorem qFm(f n o:Int)(ao:Option Addr)(cap:Nat)(ts:List It)(w:World)(hx:Hid (ItemsAt w ao ts))(hl:ts.length≤1048576):
    Calls Tryz.prog 64 #[.agg #[.int .i64 f,.int .i64 n,.int .i64 o,.slice ao ts.length cap]] w fun e w'=>e=.returned (.bool (bunB f n o ts))∧Below w.heap.size w w':=by
  unfold bunB
  cases h1:decide (1≤f∧f≤5)with
  |false=>exact spBundleOk_0 f n o ao cap ts w hx hl h1
  | true =>
    cases h2:decide (1≤n∧n≤9)with
    |false=>exact spBundleOk_1 f n o ao cap ts w hx hl h1 h2
    | true =>
      cases h3:decide (0≤o∧o≤n - 1)with
      |false=>exact spBundleOk_2 f n o ao cap ts w hx hl h1 h2 h3
      | true =>
        cases h4:iGo 0 ts with
        |false=>exact spBundleOk_3 f n o ao cap ts w hx hl h1 h2 h3 h4
        | true =>
          by_cases h5:0<o
          · have h6 : decide (0 < o) = true := decide_eq_true h5
            rw[h6]
            exact spBundleOk_4 f n o ao cap ts w hx hl h1 h2 h3 h4 h5
          · have h6 : decide (0 < o) = false := decide_eq_false h5
            rw[h6]
            by_cases h7:ts.length=0
            · rw [decide_eq_true h7]
              exact spBundleOk_5 f n o ao cap ts w hx hl h1 h2 h3 h4 h5 (by simp[h7])
            · rw [decide_eq_false h7]
              exact spBundleOk_6 f n o ao cap ts w hx hl h1 h2 h3 h4 h5 (by simp;intro h;exact h7 (by simp[h]))
theorem szBundle_any(f n o:Int)(s:Sv)(ts:List It)(L:Nat)(w:World)(hx:Hid (RSt w s ts))(hlen:ts.length≤9223372036854775807)(hsz:Hid (∀x∈ts,x.2.2.2.size≤9223372036854775807))(hL:L≤1048576):
    Calls Tryz.prog 58 #[.agg #[.int .i64 f,.int .i64 n,.int .i64 o,.slice s.a s.n s.c],.int .i64 L] w fun e w'=>(e=.returned (.int .i64 (-1))∨ ∃r:Nat,e=.returned (.int .i64 r)∧r≤1048576∧Hid (r+ts.length≤L∧∀x∈ts,x.2.2.2.size≤1048576))∧Below w.heap.size w w':=by
  have B1:Hid (Below w.heap.size w (w.alloc (.cells #[.int .i64 f,.int .i64 n,.int .i64 o,.slice s.a s.n s.c] 93))):=(Below.refl _ _).alloc (Nat.le_refl _) _
  have X1:Hid (ItemsAt (w.alloc (.cells #[.int .i64 f,.int .i64 n,.int .i64 o,.slice s.a s.n s.c] 93)) s.a ts):=hx.out.2.stays B1.out
  have hn:Hid (s.n=ts.length):=hx.out.1
  go_enter Tryz.func58,Tryz.ntmps58
  go_wp2_with fail
  generalize (w.alloc (.cells #[.int .i64 f,.int .i64 n,.int .i64 o,.slice s.a s.n s.c] 93))=W at *
  have hc:=qEb L hL s.a s.c ts W X1 hlen hsz
  rw[←hn.out]at hc
  refine hc.mono ?_
  clear hc
  rintro e w1 ⟨rfl|⟨r,rfl,hr,hr2⟩,hb1⟩
  · have B2 : Hid (Below w.heap.size w w1) := qCy B1.out hb1
    go_wp2
    go_ret
    exact⟨.inl rfl,B2.out⟩
  · have B2 : Hid (Below w.heap.size w w1) := qCy B1.out hb1
    have HR:Hid (r+ts.length≤L∧∀x∈ts,x.2.2.2.size≤1048576):=⟨by rw[←hn.out];exact hr,hr2⟩
    have hr3:r≤1048576:=by have:=HR.out.1;omega
    have hd:decide ((r:Int)<0)=false:=by simp
    clear hr hr2 hb1
    go_wp2
    go_ret
    exact⟨.inr ⟨r,rfl,hr3,HR⟩,B2.out⟩
theorem toBundle_any(f n o:Int)(s:Sv)(ts:List It)(w:World)(hx:Hid (RSt w s ts))(hl:ts.length≤1048576):
    Calls Tryz.prog 75 #[.agg #[.int .i64 f,.int .i64 n,.int .i64 o,.slice s.a s.n s.c]] w fun e w'=>∃s':Sv,e=.returned (.agg #[.int .i64 f,.int .i64 n,.int .i64 o,.slice s'.a s'.n s'.c])∧SlI w' w.heap.size s'.v ts∧Below w.heap.size w w':=by
  have B0:Hid (Below w.heap.size w (((w.alloc (.cells #[.int .i64 f,.int .i64 n,.int .i64 o,.slice s.a s.n s.c] 93)).alloc (.cells #[.int .i64 0,.int .i64 0,.int .i64 0,.slice none 0 0] 70)).alloc (.cells #[.int .i64 0,.int .i64 0,.int .i64 0,.slice none 0 0] 70))):=(((Below.refl _ _).alloc (Nat.le_refl _) _).alloc (by simp) _).alloc (by simp;omega) _
  have A0:Hid (Bx (((w.alloc (.cells #[.int .i64 f,.int .i64 n,.int .i64 o,.slice s.a s.n s.c] 93)).alloc (.cells #[.int .i64 0,.int .i64 0,.int .i64 0,.slice none 0 0] 70)).alloc (.cells #[.int .i64 0,.int .i64 0,.int .i64 0,.slice none 0 0] 70)) w.heap.size 93 [.int .i64 f,.int .i64 n,.int .i64 o,.slice s.a s.n s.c]):=(Bx.new w 93 [.int .i64 f,.int .i64 n,.int .i64 o,.slice s.a s.n s.c]).stays (((Below.refl (w.heap.size+1) _).alloc (by simp) _).alloc (by simp) _) (by omega)
  have R0:Hid (Bx (((w.alloc (.cells #[.int .i64 f,.int .i64 n,.int .i64 o,.slice s.a s.n s.c] 93)).alloc (.cells #[.int .i64 0,.int .i64 0,.int .i64 0,.slice none 0 0] 70)).alloc (.cells #[.int .i64 0,.int .i64 0,.int .i64 0,.slice none 0 0] 70)) (w.heap.size+1) 70 [.int .i64 0,.int .i64 0,.int .i64 0,.slice none 0 0]):=(bx_next w _ 70 [.int .i64 0,.int .i64 0,.int .i64 0,.slice none 0 0]).stays ((Below.refl (w.heap.size+2) _).alloc (by simp) _) (by omega)
  have V0:Hid (Bx (((w.alloc (.cells #[.int .i64 f,.int .i64 n,.int .i64 o,.slice s.a s.n s.c] 93)).alloc (.cells #[.int .i64 0,.int .i64 0,.int .i64 0,.slice none 0 0] 70)).alloc (.cells #[.int .i64 0,.int .i64 0,.int .i64 0,.slice none 0 0] 70)) (w.heap.size+1+1) 70 [.int .i64 0,.int .i64 0,.int .i64 0,.slice none 0 0]):=by
    have h:=bx_next (w.alloc (.cells #[.int .i64 f,.int .i64 n,.int .i64 o,.slice s.a s.n s.c] 93)) (.cells #[.int .i64 0,.int .i64 0,.int .i64 0,.slice none 0 0] 70) 70 [.int .i64 0,.int .i64 0,.int .i64 0,.slice none 0 0]
    rw[show(w.alloc (.cells #[.int .i64 f,.int .i64 n,.int .i64 o,.slice s.a s.n s.c] 93)).heap.size=w.heap.size+1 by simp]at h
    exact h
  have hn:Hid (s.n=ts.length):=hx.out.1
  go_enter Tryz.func75,Tryz.ntmps75
  go_wp2_with (first|(with_reducible refine qAc 3 _ _ rfl ?_))
  refine Stp.go ?_
  generalize (((w.alloc (.cells #[.int .i64 f,.int .i64 n,.int .i64 o,.slice s.a s.n s.c] 93)).alloc (.cells #[.int .i64 0,.int .i64 0,.int .i64 0,.slice none 0 0] 70)).alloc (.cells #[.int .i64 0,.int .i64 0,.int .i64 0,.slice none 0 0] 70))=W at *
  generalize hg1:w.heap.size+1=g1 at *
  have HG1:Hid (w.heap.size+1=g1):=hg1
  clear hg1
  generalize hg2:g1+1=g2 at *
  have HG2:Hid (g1+1=g2):=hg2
  clear hg2
  have z2:w.heap.size<g1∧g1<g2:=by have:=HG1.out;have:=HG2.out;omega
  refine qAg rfl 3 _ _ rfl g2 0 rfl 70 _ V0.out (.int .i64 f) rfl (by simp) rfl Tryz.size3 [.int .i64 f,.int .i64 0,.int .i64 0,.slice none 0 0] rfl ?_
  intro W1 V1 T1
  have V1:Hid (Bx W1 g2 70 [.int .i64 f,.int .i64 0,.int .i64 0,.slice none 0 0]):=V1
  have A1:Hid (Bx W1 w.heap.size 93 [.int .i64 f,.int .i64 n,.int .i64 o,.slice s.a s.n s.c]):=A0.out.turn T1 (by omega)
  have R1:Hid (Bx W1 g1 70 [.int .i64 0,.int .i64 0,.int .i64 0,.slice none 0 0]):=R0.out.turn T1 (by omega)
  have B1:Hid (Below w.heap.size w W1):=B0.out.trans (T1.below (by omega))
  clear A0 R0 V0 B0 T1
  have a1:=A1.out.cell 1
  simp only[List.getElem?_cons_succ,List.getElem?_cons_zero]at a1
  go_wp2_with (first|(with_reducible refine qAc 3 _ _ rfl ?_))
  refine Stp.go ?_
  refine qAg rfl 3 _ _ rfl g2 1 rfl 70 _ V1.out (.int .i64 n) rfl (by simp) rfl Tryz.size3 [.int .i64 f,.int .i64 n,.int .i64 0,.slice none 0 0] rfl ?_
  intro W2 V2 T2
  have V2:Hid (Bx W2 g2 70 [.int .i64 f,.int .i64 n,.int .i64 0,.slice none 0 0]):=V2
  have A2:Hid (Bx W2 w.heap.size 93 [.int .i64 f,.int .i64 n,.int .i64 o,.slice s.a s.n s.c]):=A1.out.turn T2 (by omega)
  have R2:Hid (Bx W2 g1 70 [.int .i64 0,.int .i64 0,.int .i64 0,.slice none 0 0]):=R1.out.turn T2 (by omega)
  have B2:Hid (Below w.heap.size w W2):=B1.out.trans (T2.below (by omega))
  clear A1 R1 V1 B1 T2 a1
  have a2:=A2.out.cell 2
  simp only[List.getElem?_cons_succ,List.getElem?_cons_zero]at a2
  go_wp2_with (first|(with_reducible refine qAc 3 _ _ rfl ?_))
  refine Stp.go ?_
  refine qAg rfl 3 _ _ rfl g2 2 rfl 70 _ V2.out (.int .i64 o) rfl (by simp) rfl Tryz.size3 [.int .i64 f,.int .i64 n,.int .i64 o,.slice none 0 0] rfl ?_
  intro W3 V3 T3
  have V3:Hid (Bx W3 g2 70 [.int .i64 f,.int .i64 n,.int .i64 o,.slice none 0 0]):=V3
  have A3:Hid (Bx W3 w.heap.size 93 [.int .i64 f,.int .i64 n,.int .i64 o,.slice s.a s.n s.c]):=A2.out.turn T3 (by omega)
  have R3:Hid (Bx W3 g1 70 [.int .i64 0,.int .i64 0,.int .i64 0,.slice none 0 0]):=R2.out.turn T3 (by omega)
  have B3:Hid (Below w.heap.size w W3):=B2.out.trans (T3.below (by omega))
  clear A2 R2 V2 B2 T3 a2
  have a3:=A3.out.cell 3
  simp only[List.getElem?_cons_succ,List.getElem?_cons_zero]at a3
  have X3:Hid (ItemsAt W3 s.a ts):=hx.out.2.stays B3.out
  go_wp2_with (first|(with_reducible refine qAc 38 _ _ rfl ?_))
  have hc:=qFw W3 s.a s.c ts X3 hl
  rw[←hn.out]at hc
  refine hc.mono ?_
  clear hc
  rintro e W4 ⟨rfl,hv4, -,hb4⟩
  obtain⟨s4,hs4⟩: ∃s4:Sv,s4=⟨some ⟨W3.heap.size,0,none⟩,s.n,s.n⟩:=⟨_,rfl⟩
  have hq:Value.slice (some ⟨W3.heap.size,0,none⟩) s.n s.n=s4.v:=by rw[hs4];rfl
  rw[hq]at hv4⊢
  clear hq hs4
  unfold Sv.v
  have V4:Hid (Bx W4 g2 70 [.int .i64 f,.int .i64 n,.int .i64 o,.slice none 0 0]):=V3.out.later hb4
  have R4:Hid (Bx W4 g1 70 [.int .i64 0,.int .i64 0,.int .i64 0,.slice none 0 0]):=R3.out.later hb4
  have B4:Hid (Below w.heap.size w W4):=B3.out.trans (hb4.mono B3.out.size)
  have O4:Hid (SlI W4 w.heap.size s4.v ts):=hv4.down B3.out.size
  clear A3 R3 V3 B3 X3 a3 hv4 hb4
  go_wp2_with (first|(with_reducible refine qAc 38 _ _ rfl ?_))
  refine Stp.go ?_
  refine qAg rfl 38 _ _ rfl g2 3 rfl 70 _ V4.out (.slice s4.a s4.n s4.c) rfl (by simp) rfl Tryz.sizeIs [.int .i64 f,.int .i64 n,.int .i64 o,.slice s4.a s4.n s4.c] rfl ?_
  intro W5 V5 T5
  have R5:Hid (Bx W5 g1 70 [.int .i64 0,.int .i64 0,.int .i64 0,.slice none 0 0]):=R4.out.turn T5 (by omega)
  have B5:Hid (Below w.heap.size w W5):=B4.out.trans (T5.below (by omega))
  have O5:Hid (SlI W5 w.heap.size s4.v ts):=O4.out.past V4.out T5 (by decide)
  have V5:Hid (Bx W5 g2 70 [.int .i64 f,.int .i64 n,.int .i64 o,.slice s4.a s4.n s4.c]):=V5
  clear V4 R4 B4 O4 T5
  have c0:=V5.out.cell 0
  have c1:=V5.out.cell 1
  have c2:=V5.out.cell 2
  have c3:=V5.out.cell 3
  simp only[List.getElem?_cons_succ,List.getElem?_cons_zero]at c0 c1 c2 c3
  go_wp2_with (first|(with_reducible refine qAc 70 _ _ rfl ?_))
  refine Stp.go ?_
  refine qAf rfl 70 _ _ rfl g1 0 rfl 70 _ R5.out [.int .i64 f,.int .i64 n,.int .i64 o,.slice s4.a s4.n s4.c] rfl (by simp) Tryz.sizeBu rfl [.int .i64 f,.int .i64 n,.int .i64 o,.slice s4.a s4.n s4.c] rfl ?_
  intro W6 R6 T6
  have O6:=O5.out.past R5.out T6 (by decide)
  have B6:=B5.out.trans (T6.below (by omega))
  go_wp2_with fail
  refine bodyPost_ret (qAw Tryz.results75 g1 70 [.int .i64 f,.int .i64 n,.int .i64 o,.slice s4.a s4.n s4.c] _ rfl R6 Tryz.underlying70 rfl Tryz.sizeBu) rfl ?_
  exact⟨s4,rfl,O6,B6⟩
theorem qGw(f n o:Int)(s s':Sv)(ts:List It)(B1 B2:Nat)(w:World)(h1:Hid (SlI w B1 s.v ts))(h2:Hid (SlI w B2 s'.v ts))(hl:ts.length≤1048576):
    Calls Tryz.prog 45 #[.agg #[.int .i64 f,.int .i64 n,.int .i64 o,.slice s.a s.n s.c],.agg #[.int .i64 f,.int .i64 n,.int .i64 o,.slice s'.a s'.n s'.c]] w fun e w'=>e=.returned (.bool true)∧Below w.heap.size w w':=by
  have d0:(f !=f)=false:=by simp
  have d1:(n !=n)=false:=by simp
  have d2:(o !=o)=false:=by simp
  have BB:Hid (Below w.heap.size w ((w.alloc (.cells #[.int .i64 f,.int .i64 n,.int .i64 o,.slice s.a s.n s.c] 70)).alloc (.cells #[.int .i64 f,.int .i64 n,.int .i64 o,.slice s'.a s'.n s'.c] 70))):=((Below.refl _ _).alloc (Nat.le_refl _) _).alloc (by simp) _
  have P1:Hid (Bx ((w.alloc (.cells #[.int .i64 f,.int .i64 n,.int .i64 o,.slice s.a s.n s.c] 70)).alloc (.cells #[.int .i64 f,.int .i64 n,.int .i64 o,.slice s'.a s'.n s'.c] 70)) w.heap.size 70 [.int .i64 f,.int .i64 n,.int .i64 o,.slice s.a s.n s.c]):=(Bx.new w 70 [.int .i64 f,.int .i64 n,.int .i64 o,.slice s.a s.n s.c]).stays ((Below.refl (w.heap.size+1) _).alloc (by simp) _) (by omega)
  have P2:Hid (Bx ((w.alloc (.cells #[.int .i64 f,.int .i64 n,.int .i64 o,.slice s.a s.n s.c] 70)).alloc (.cells #[.int .i64 f,.int .i64 n,.int .i64 o,.slice s'.a s'.n s'.c] 70)) (w.heap.size+1) 70 [.int .i64 f,.int .i64 n,.int .i64 o,.slice s'.a s'.n s'.c]):=bx_next w (.cells #[.int .i64 f,.int .i64 n,.int .i64 o,.slice s.a s.n s.c] 70) 70 [.int .i64 f,.int .i64 n,.int .i64 o,.slice s'.a s'.n s'.c]
  have O1:Hid (SlI ((w.alloc (.cells #[.int .i64 f,.int .i64 n,.int .i64 o,.slice s.a s.n s.c] 70)).alloc (.cells #[.int .i64 f,.int .i64 n,.int .i64 o,.slice s'.a s'.n s'.c] 70)) B1 s.v ts):=h1.out.below BB.out
  have O2:Hid (SlI ((w.alloc (.cells #[.int .i64 f,.int .i64 n,.int .i64 o,.slice s.a s.n s.c] 70)).alloc (.cells #[.int .i64 f,.int .i64 n,.int .i64 o,.slice s'.a s'.n s'.c] 70)) B2 s'.v ts):=h2.out.below BB.out
  have a0:=P1.out.cell 0
  have a1:=P1.out.cell 1
  have a2:=P1.out.cell 2
  have a3:=P1.out.cell 3
  have b0:=P2.out.cell 0
  have b1:=P2.out.cell 1
  have b2:=P2.out.cell 2
  have b3:=P2.out.cell 3
  simp only[List.getElem?_cons_succ,List.getElem?_cons_zero]at a0 a1 a2 a3 b0 b1 b2 b3
  go_enter Tryz.func45,Tryz.ntmps45
  go_wp2_with fail
  generalize ((w.alloc (.cells #[.int .i64 f,.int .i64 n,.int .i64 o,.slice s.a s.n s.c] 70)).alloc (.cells #[.int .i64 f,.int .i64 n,.int .i64 o,.slice s'.a s'.n s'.c] 70))=W at *
  have hc:=qGe s.v s'.v ts B1 B2 W O1.out O2.out hl
  unfold Sv.v at hc
  refine hc.mono ?_
  clear hc
  rintro e w1 ⟨rfl,hb1⟩
  go_wp2
  go_ret
  exact⟨rfl,BB.out.trans (hb1.mono BB.out.size)⟩
theorem bundleOk_r(f n o:Int)(s:Sv)(ts:List It)(w:World)(hx:Hid (RSt w s ts))(hl:ts.length≤1048576):
    Calls Tryz.prog 121 #[.agg #[.int .i64 f,.int .i64 n,.int .i64 o,.slice s.a s.n s.c]] w fun e w'=>e=.returned (.bool (bunB f n o ts))∧Below w.heap.size w w':=by
  have h:=bundleOk_any f n o s.a s.c ts w hx.out.2 hl
  rw[←hx.out.1]at h
  exact h
theorem qAy(f n o:Int)(s:Sv)(ts:List It)(w:World)(hx:Hid (RSt w s ts))(hl:ts.length≤1048576):
    Calls Tryz.prog 64 #[.agg #[.int .i64 f,.int .i64 n,.int .i64 o,.slice s.a s.n s.c]] w fun e w'=>e=.returned (.bool (bunB f n o ts))∧Below w.heap.size w w':=by
  have h:=qFm f n o s.a s.c ts w hx.out.2 hl
  rw[←hx.out.1]at h
  exact h
theorem Tryz.sizeK3:(Tryz.prog.info? 3).map (·.size)=some 1:=by kernel_rfl
theorem Tryz.sizeK9:(Tryz.prog.info? 9).map (·.size)=some 1:=by kernel_rfl
theorem vk_one(d k:Nat):(vk d k).oneCell'=true:=by
  unfold vk
  split
  · rfl
  · split<;>rfl
section
variable {P : Program} {ops : Array Oper} {rest : List Oper} {o : Oper} {a : Act} {w w0 ws : World} {Q : Exit → Act → World → Prop} {TL : List Spot} {K n g off d : Nat}
/-- the next place is marked by a store. -/
theorem qAu(hgd:o.guard=none)(ty:TypeId)(x y:Operand)(ho:o.op=.store ty x y)(hx:a.eval x=.pointer (some ⟨g,off,none⟩))(v:Value)(hy:a.eval y=v)(hi:(P.info? ty).map (·.size)=some 1)
    (hT:TLok w0 TL) (hI:MkI w0 ws TL K n w) (hs:TL[n]? =some (g,off,d)) (hv:v=vk d (K+n)) (h: ∀w',MkI w0 ws TL K (n+1) w'→wpList P ops Q rest (a.put o.dst undef) w'):wpList P ops Q (o::rest) a w:=by
  obtain⟨⟨u,hc⟩,hf⟩:=hI.next hT hs
  have h1:v.oneCell'=true:=by rw[hv];exact vk_one _ _
  have hr:(Instr.storeAt ty (.pointer (some ⟨g,off,none⟩)) v).run P w=.ok () (w.setCell ⟨g,off,none⟩ v):=by
    have hcs:v.cells= #[v]:=by cases v<;>first|rfl|(simp[Value.oneCell']at h1)
    cases hq:P.info? ty with
    |none=>simp[hq]at hi
    | some i =>
      have hs:i.size=1:=by simpa [hq] using hi
      have ha:(⟨g,off,none⟩:Addr).add 0=⟨g,off,none⟩:=by unfold Addr.add;split<;>simp_all
      have hst:=run_store P w ⟨g,off,none⟩ v .plain h1
      rw[hc,hf]at hst
      simp[Instr.storeAt,Instr.sureAddr,storeVar,sizeOf,typeInfo,hq,hs,hcs,storeCells,ha]
      simpa using hst
  exact wpList_plain hgd fun K hK=>by
    unfold Oper.wp execOp
    simp only[ho,hx,hy,Sem.run_bind,hr,Result.andThen_ok,Sem.run_pure]
    exact hK _ _ (h _ (hI.stepV hT hs hv))
end
theorem MkI.cell{w0 ws w:World}{TL:List Spot}{K n g o:Nat}{v:Value}(h:MkI w0 ws TL K n w)(hg:g<w0.heap.size)(hn: ∀s∈TL,¬(s.1=g∧s.2.1=o))(hc:w0.cell? ⟨g,o,none⟩=some v):w.cell? ⟨g,o,none⟩=some v:=(h.cells g o hg hn).trans hc
theorem Held.int{w:World}{TL:List Spot}{K i g o:Nat}{z:Int}(h:Held w TL K)(hs:TL[i]? =some (g,o,0))(hz:z=((K+i:Nat):Int)):w.cell? ⟨g,o,none⟩=some (.int .i64 z):=(h i _ hs).2.trans (congrArg some (vkI hz).symm)
theorem Held.text{w:World}{TL:List Spot}{K i g o k:Nat}(h:Held w TL K)(hs:TL[i]? =some (g,o,2))(hz:k=K+i):w.cell? ⟨g,o,none⟩=some (.string (qAq k)):=by subst hz;exact(h i _ hs).2
theorem Held.bool{w:World}{TL:List Spot}{K i g o k:Nat}(h:Held w TL K)(hs:TL[i]? =some (g,o,1))(hz:k=K+i):w.cell? ⟨g,o,none⟩=some (.bool (decide (k % 3=0))):=by subst hz;exact(h i _ hs).2
theorem markI_z(w0:World)(TL:List Spot)(K n:Nat)(ao:Option Addr)(len cap:Nat)(z:Int)(w:World)(hT:Hid (TLok w0 TL))(hI:Hid (MkI w0 w TL K n w))(hs:Seg TL n ao len [0])(hz:z=((K+n:Nat):Int))(hl:K+n+len≤39999990):
    Calls Tryz.prog 49 #[.slice ao len cap,.int .i64 z] w fun e w'=>∃M:Nat,e=.returned (.int .i64 (M:Int))∧M=K+(n+len)∧MkI w0 w TL K (n+len) w':=by
  subst hz
  refine(markI_sp w0 TL K n ao len cap w hT hI hs hl).mono ?_
  rintro e w' ⟨rfl,h⟩
  exact⟨K+n+len,rfl,by omega,h⟩
theorem markItems_z(w0:World)(TL:List Spot)(K n:Nat)(ao:Option Addr)(len cap:Nat)(z:Int)(w:World)(hT:Hid (TLok w0 TL))(hI:Hid (MkI w0 w TL K n w))(hs:Seg TL n ao len [0,0,0,2])(hz:z=((K+n:Nat):Int))(hl:K+n+4 * len≤39999990)(hK:0<K):
    Calls Tryz.prog 50 #[.slice ao len cap,.int .i64 z] w fun e w'=>∃M:Nat,e=.returned (.int .i64 (M:Int))∧M=K+(n+4 * len)∧MkI w0 w TL K (n+4 * len) w':=by
  subst hz
  refine(markItems_sp w0 TL K n ao len cap w hT hI hs hl hK).mono ?_
  rintro e w' ⟨rfl,h⟩
  exact⟨K+n+4 * len,rfl,by omega,h⟩
theorem heldI_z(TL:List Spot)(K n:Nat)(ao:Option Addr)(len cap:Nat)(z:Int)(w:World)(hH:Hid (Held w TL K))(hs:Seg TL n ao len [0])(hz:z=((K+n:Nat):Int))(hl:K+n+len≤39999990):
    Calls Tryz.prog 99 #[.slice ao len cap,.int .i64 z] w fun e w'=>∃M:Nat,e=.returned (.int .i64 (M:Int))∧M=K+(n+len)∧Below w.heap.size w w':=by
  subst hz
  refine(heldI_sp TL K n ao len cap w hH hs hl).mono ?_
  rintro e w' ⟨rfl,h⟩
  exact⟨K+n+len,rfl,by omega,by subst h;exact Below.refl _ _⟩
theorem heldItems_z(TL:List Spot)(K n:Nat)(ao:Option Addr)(len cap:Nat)(z:Int)(w:World)(hH:Hid (Held w TL K))(hs:Seg TL n ao len [0,0,0,2])(hz:z=((K+n:Nat):Int))(hl:K+n+4 * len≤39999990)(hK:0<K):
    Calls Tryz.prog 54 #[.slice ao len cap,.int .i64 z] w fun e w'=>∃M:Nat,e=.returned (.int .i64 (M:Int))∧M=K+(n+4 * len)∧Below w.heap.size w w':=by
  subst hz
  refine(heldItems_sp TL K n ao len cap w hH hs hl hK).mono ?_
  rintro e w' ⟨rfl,h⟩
  exact⟨K+n+4 * len,rfl,by omega,h⟩
end Go.Proofs.YtifkopggmjbbeaaGreat
