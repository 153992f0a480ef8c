/- Joined texts: CNu CSz CEs CA1 CA2 CA3 CA4 CGv CBs CA5 CA6. -/
import Derived.Test.YtifkopggmjbbeaaGreatWk5
import Derived.Test.YtifkopggmjbbeaaGreatWk6
import Derived.Test.YtifkopggmjbbeaaGreatWk1
import Derived.Test.YtifkopggmjbbeaaGreatWk7
import Derived.Laws.MakeOwn
import Derived.BigQuiet
set_option maxRecDepth 100000
set_option maxHeartbeats 16000000
/- Numbers of items, by the interface; slices of items. -/
namespace Go.Proofs.YtifkopggmjbbeaaGreat
open Go.RowKit Pl
set_option linter.unusedVariables false
theorem met_str{P:Program}{w:World}{n:Nat}{t:TypeId}{d:TypeDesc}{name:String}{m:Method}{f:FuncId}{v:Value}(hi:((P.info? t).bind fun i=>i.methods.find? (·.name==name))=some m)(hp:m.path= #[])(hf:m.func=some (f,false))(hu:P.underlying t=some d)(hd: ∀e,d≠ .pointer e):
    (method (n+1) t v name).run P w=.ok (f,v) w:=by
  obtain⟨i,hi1,hi2⟩:=Option.bind_eq_some_iff.1 hi
  unfold method
  cases d with
  |pointer e=>exact absurd rfl (hd e)
  |_=>simp[typeInfo,hi1,hi2,hp,hf,follow,receiverAt,run_underlying hu,Place.get]
theorem mNum(w:World)(v:Value):(method 324 108 v "loop.example/g00183/impl.number").run Tryz.prog w=.ok (206,v) w:=
  met_str (m:=⟨ "loop.example/g00183/impl.number",169,#[],some (206,false)⟩) (by kernel_rfl) rfl rfl Tryz.underlying108 (by intro e h;cases h)
theorem qGc(q f l:Int)(t:ByteArray)(w:World):
    Calls Tryz.prog 206 #[.agg #[.int .i64 q,.int .i64 f,.int .i64 l,.string t]] w fun e w'=>e=.returned (.int .i64 q)∧Below w.heap.size w w':=by
  go_enter Tryz.func206,Tryz.ntmps206
  go_wp2_with fail
  go_ret
  exact⟨rfl,(Below.refl _ _).alloc (Nat.le_refl _) _⟩
/-- an item as a value. -/
def agg(x:It):Value:=.agg #[.int .i64 x.1,.int .i64 x.2.1,.int .i64 x.2.2.1,.string x.2.2.2]
/-- the item of which all is zero. -/
def zIt:It:=(0,0,0,⟨#[]⟩)
/-- an item's cells. -/
def cel(x:It):List Value:=[.int .i64 x.1,.int .i64 x.2.1,.int .i64 x.2.2.1,.string x.2.2.2]
/-- items' cells. -/
def cels(ts:List It):List Value:=ts.flatMap cel
theorem qFj(x:It)(ts:List It):cels (x::ts)=cel x++cels ts:=rfl
theorem qCj(a b:List It):cels (a++b)=cels a++cels b:=by simp[cels]
theorem qBr: ∀(ts:List It),(cels ts).length=ts.length * 4
  | []=>rfl
  |x::ts=>by rw[qFj,List.length_append,qBr ts,List.length_cons];show 4+ts.length * 4=_;omega
theorem cels_drop: ∀(ts:List It) (k:Nat),(cels ts).drop (k * 4)=cels (ts.drop k)
  |ts,0=>by simp
  | [],k+1=>by simp[cels]
  | x :: ts, k + 1 => by
    rw[qFj,show(k+1) * 4=4+k * 4 by omega,←List.drop_drop,List.drop_succ_cons,←cels_drop ts k]
    rfl
theorem cels_at{ts:List It}{i:Nat}(h:i<ts.length):(cels ts)[i * 4]? =some (.int .i64 ts[i].1)∧(cels ts)[i * 4+1]? =some (.int .i64 ts[i].2.1)∧(cels ts)[i * 4+2]? =some (.int .i64 ts[i].2.2.1)∧(cels ts)[i * 4+3]? =some (.string ts[i].2.2.2):=by
  have e: ∀j,(cels ts)[i * 4+j]? =(cels (ts.drop i))[j]? :=fun j=>by rw[←cels_drop,List.getElem?_drop]
  have e0:=e 0
  rw[Nat.add_zero]at e0
  rw[e0,e 1,e 2,e 3,List.drop_eq_getElem_cons h,qFj]
  exact⟨rfl,rfl,rfl,rfl⟩
theorem cels_one{ts:List It}: ∀u∈cels ts,u.oneCell'=true:=by
  intro u hu
  obtain⟨x,_,hx⟩:=List.mem_flatMap.1 hu
  simp[cel]at hx
  rcases hx with rfl|rfl|rfl|rfl<;>rfl
/-- the slice v lies in a block from B on and holds the items ts. -/
def SlI(w:World)(B:Nat)(v:Value)(ts:List It):Prop:=Sl w 108 4 B v ts.length (cels ts)
section
variable {w w' : World} {B : Nat} {v : Value} {ts : List It}
theorem SlI.lt(h:SlI w B v ts): ∀k,v.ownBlock=some k→B≤k∧k<w.heap.size:=Sl.lt h
theorem SlI.keep(h:SlI w B v ts)(hk: ∀k,v.ownBlock=some k→k<w.heap.size→w'.heap[k]? =w.heap[k]?):SlI w' B v ts:=Sl.keep h hk
theorem SlI.below(h:SlI w B v ts)(hb:Below w.heap.size w w'):SlI w' B v ts:=Sl.below h hb
theorem SlI.down{B':Nat}(h:SlI w B v ts)(hB:B'≤B):SlI w B' v ts:=Sl.down h hB
theorem SlI.kept{row:Option Nat}(h:SlI w B v ts)(hg:w.grownBy w' row)(hne: ∀k,v.ownBlock=some k→some k≠row):SlI w' B v ts:=Sl.kept h hg hne
theorem SlI.drew(h:SlI w B v ts):SlI w.drew B v ts:=Sl.keep h fun _ _ _=>rfl
theorem SlI.drewN(h:SlI w B v ts)(m:Nat):SlI (w.drewN m) B v ts:=Sl.keep h fun _ _ _=>by rw[World.heap_drewN]
theorem SlI.made(w:World)(B:Nat)(hb:B≤w.heap.size):SlI (w.alloc (.cells #[] 108)) B (.slice (some ⟨w.heap.size,0,none⟩) 0 0) []:=Sl.made w 108 4 B hb
/-- it is read as a list that was handed in. -/
theorem SlI.items(h:SlI w B v ts): ∃ao cap,v=.slice ao ts.length cap∧ItemsAt w ao ts:=by
  by_cases h0:0<ts.length
  · obtain ⟨g, off, cap, rfl, h1, h2, h3, h4⟩ := Sl.read h h0
    refine⟨_,cap,rfl,fun i hi=>⟨g,off,rfl,h2,?_⟩⟩
    obtain⟨c0,c1,c2,c3⟩:=cels_at hi
    refine⟨h3 _ _ c0,?_,?_,?_⟩
    · rw[Nat.add_assoc];exact h3 _ _ c1
    · rw[Nat.add_assoc];exact h3 _ _ c2
    · rw[Nat.add_assoc];exact h3 _ _ c3
  · obtain ⟨ao, cap, rfl⟩ := Sl.form h
    exact⟨ao,cap,rfl,fun i hi=>by omega⟩
end
/-- a row of items is a slice. -/
theorem RowIt.sl{w:World}{g n B:Nat}{ts:List It}(h:RowIt w g n ts n)(hn:ts.length=n)(hm:n≤1048576)(hB:B≤g):SlI w B (.slice (some ⟨g,0,none⟩) n n) ts:=by
  obtain⟨arr,h1,h2,h3⟩:=h
  subst hn
  refine⟨qBr ts,.inr ⟨g,0,ts.length,arr,rfl,hB,h1,Nat.le_refl _,by unfold maxLen;omega,by omega,fun j hj=>?_⟩⟩
  rw[Nat.zero_add]
  obtain⟨i,r,hr,rfl⟩: ∃i r,r<4∧j=i * 4+r:=⟨j / 4,j % 4,by omega,by omega⟩
  have hi:i<ts.length:=by omega
  obtain⟨a0,a1,a2,a3⟩:=h3 i hi hi
  obtain⟨c0,c1,c2,c3⟩:=cels_at hi
  match r,hr with
  |0,_=>rw[Nat.add_zero,a0,c0]
  |1,_=>rw[a1,c1]
  |2,_=>rw[a2,c2]
  |3,_=>rw[a3,c3]
/-- what an append takes: a slice of one item, new. -/
theorem src_one(w:World)(t:TypeId)(ht:Tryz.prog.underlying t=some (.slice 108))(x:It):Src Tryz.prog 4 t (.slice (some ⟨w.heap.size,0,none⟩) 1 1) 1 (cels [x]) (w.alloc (.cells #[.int .i64 x.1,.int .i64 x.2.1,.int .i64 x.2.2.1,.string x.2.2.2] 108)):=by
  refine Src.ofSlice _ ht ⟨w.heap.size,0,none⟩ 1 1 (cels [x]) rfl (fun j u hu=>?_) cels_one
  rw[Addr.add_lit,Nat.zero_add,cell_of_row _ _ _ _ 108 (0,0) (heap_alloc_new w _),←hu]
  have hj:j<4:=(List.getElem?_eq_some_iff.1 hu).1
  match j,hj with
  |0,_=>rfl
  |1,_=>rfl
  |2,_=>rfl
  |3,_=>rfl
/-- .. and of items that lie there. -/
theorem src_items{w:World}{ao:Option Addr}{ts:List It}(t:TypeId)(ht:Tryz.prog.underlying t=some (.slice 108))(cap:Nat)(h:ItemsAt w ao ts):Src Tryz.prog 4 t (.slice ao ts.length cap) ts.length (cels ts) w:=by
  by_cases h0:0<ts.length
  · obtain ⟨b, off, rfl, _⟩ := h 0 h0
    refine Src.ofSlice _ ht ⟨b,off,none⟩ ts.length cap (cels ts) (qBr ts) (fun j u hu=>?_) cels_one
    have hj:j<ts.length * 4:=by rw[←qBr];exact(List.getElem?_eq_some_iff.1 hu).1
    obtain⟨i,r,hr,rfl⟩: ∃i r,r<4∧j=i * 4+r:=⟨j / 4,j % 4,by omega,by omega⟩
    have hi:i<ts.length:=by omega
    obtain⟨b',off',e,_,a0,a1,a2,a3⟩:=h i hi
    simp at e
    obtain⟨rfl,rfl⟩:=e
    obtain⟨c0,c1,c2,c3⟩:=cels_at hi
    rw[Addr.add_lit,←hu]
    match r,hr with
    |0,_=>rw[Nat.add_zero,a0,c0]
    |1,_=>rw[←Nat.add_assoc,a1,c1]
    |2,_=>rw[←Nat.add_assoc,a2,c2]
    |3,_=>rw[←Nat.add_assoc,a3,c3]
  · have : ts = [] := List.eq_nil_of_length_eq_zero (by omega)
    subst this
    cases ao with
    |none=>exact Src.ofNil _ ht cap
    |some a=>exact Src.ofSlice _ ht a 0 cap [] rfl (fun j u hu=>by simp at hu) (fun u hu=>by simp at hu)
theorem qGf{w:World}{ops:Array Oper}{rest:List Oper}{o:Oper}{a:Act}{Q:Exit→Act→World→Prop}
    (hgd:o.guard=none) (s x:Operand) (t:TypeId) (ho:o.op=.call {callee:=.builtin .append,args:=#[s,x],argTypes:=#[t,t]})
    (ht:Tryz.prog.underlying t=some (.slice 108)) (B:Nat) (v:Value) (ts:List It) (hs:a.eval s=v) (hown:SlI w B v ts) (y:It)
    (hx:a.eval x=.slice (some ⟨w.heap.size,0,none⟩) 1 1) (hn:ts.length≤1048576) (hB:B≤w.heap.size)
    (h: ∀v' w',SlI w' B v' (ts++[y])→w.grownBy w' v.ownBlock→Below B w w'→(v'.ownBlock=v.ownBlock∨v'.ownBlock=some (w.heap.size+1))→wpList Tryz.prog ops Q rest (a.put o.dst v') w'):
    wpList Tryz.prog ops Q (o::rest) a (w.alloc (.cells #[.int .i64 y.1,.int .i64 y.2.1,.int .i64 y.2.2.1,.string y.2.2.2] 108)):=by
  refine qCx hgd s x t ho _ 40 ht Tryz.infoI rfl hs (Sl.alloc hown _) _ 1 (cels [y]) hx (src_one w t ht y) (by unfold maxLen;omega) (by omega) (by simp;omega) ?_
  intro v' w' h1 h2 h3
  have hg:w.grownBy w' v.ownBlock:=⟨h2.os,h2.tape,h2.output,Nat.le_trans (by simp) h2.size,fun k hk hne=>(h2.block k (by simp;omega) hne).trans (heap_alloc_old w _ hk)⟩
  refine h v' w' ?_ hg ?_ ?_
  · unfold SlI
    rw[List.length_append,qCj]
    exact h1
  · exact((Below.refl B w).alloc hB _).grown h2 (by simp;omega) (fun k hk=>(Sl.lt hown k hk).1)
  · simpa using h3
theorem qEb(left:Nat)(hleft:left≤1048576)(ao:Option Addr)(cap:Nat)(ts:List It)(w:World)(hx:Hid (ItemsAt w ao ts))(hl:ts.length≤9223372036854775807)(hs:Hid (∀x∈ts,x.2.2.2.size≤9223372036854775807)):
    Calls Tryz.prog 55 #[.slice ao ts.length cap,.int .i64 left] w fun e w'=>(e=.returned (.int .i64 (-1))∨(∃z:Nat,e=.returned (.int .i64 z)∧z+ts.length≤left∧∀x∈ts,x.2.2.2.size≤1048576))∧Below w.heap.size w w':=by
  by_cases h1:left<ts.length
  · have hd : decide ((left : Int) - (ts.length : Int) < 0) = true := by simp; omega
    go_enter Tryz.func55,Tryz.ntmps55
    go_wp2
    go_ret
    exact⟨.inl rfl,Below.refl _ _⟩
  have hl2:ts.length≤left:=by omega
  have hd:decide ((left:Int) - (ts.length:Int)<0)=false:=by simp;omega
  go_enter Tryz.func55,Tryz.ntmps55
  go_wp2
  clear hd
  go_loopw [1,5] (fun lf i wr=>∃(k z:Nat),k≤ts.length∧z+ts.length≤left∧lf=.int .i64 z∧i=.int .i64 k∧Hid (∀x∈ts.take k,x.2.2.2.size≤1048576)∧Hid (Below w.heap.size w wr)) (fun _ i _=>ts.length - (intOf i).toNat)
  case atStart=>exact⟨0,left - ts.length,Nat.zero_le _,by omega,by congr 1;omega,rfl,(fun x hx=>by simp at hx: ∀x∈ts.take 0,x.2.2.2.size≤1048576),Below.refl _ _⟩
  case round=>
    obtain⟨k,z,hk,hz,rfl,rfl,hsm,hb⟩:=hrel
    by_cases hlt:k<ts.length
    · obtain ⟨b, off, rfl, hbb, c0, c1, c2, c3⟩ := hx.out.stays hb.out k hlt
      have hsz:=hs.out _ (List.getElem_mem hlt)
      have HP:Hid (∃x:It,x=ts[k]):=⟨_,rfl⟩
      obtain⟨⟨q,f,lv,tx⟩,hp⟩:=HP.out
      rw[←hp]at c0 c1 c2 c3 hsz
      have HQ:Hid ((q,f,lv,tx)=ts[k]):=hp
      clear hp HP
      dsimp only at c0 c1 c2 c3 hsz
      go_wp2_with fail
      by_cases hlong:z<tx.size
      · refine (qEw q f lv tx z _ hlong hsz (by omega)).mono ?_
        rintro e w1 ⟨rfl,hb1⟩
        go_wp2_with fail
        go_ret
        exact⟨.inl rfl,hb.out.trans (hb1.mono hb.out.size)⟩
      · refine (qFy q f lv tx z _ (by omega) (by omega)).mono ?_
        rintro e w1 ⟨rfl,hb1⟩
        have B1:Hid (Below w.heap.size w w1):=hb.out.trans (hb1.mono hb.out.size)
        have hzz:z - tx.size+ts.length≤left:=by omega
        have HSM:Hid (∀x∈ts.take (k+1),x.2.2.2.size≤1048576):=by
          intro x hx
          rw[List.take_succ_eq_append_getElem hlt]at hx
          rcases List.mem_append.1 hx with h1|h1
          · exact hsm.out x h1
          · rw[List.mem_singleton.1 h1,←HQ.out];show tx.size≤1048576;omega
        generalize z - tx.size=zz at *
        have hd:decide ((zz:Int)<0)=false:=by simp
        clear hb1 c0 c1 c2 c3
        go_wp2_with fail
        go_roundw
        case rel=>exact⟨k+1,zz,by omega,hzz,rfl,by go_num,HSM,B1⟩
        case measure=>simp[intOf];omega
    · go_wp2_with fail
      go_ret
      exact⟨.inr ⟨z,rfl,hz,by have:=hsm.out;rwa [List.take_of_length_le (by omega)]at this⟩,hb.out⟩
theorem toItems_row(w:World)(ao:Option Addr)(cap:Nat)(ts:List It)(hx:Hid (ItemsAt w ao ts))(hl:ts.length≤1048576):
    Calls Tryz.prog 72 #[.slice ao ts.length cap] w fun e w'=>e=.returned (.slice (some ⟨w.heap.size,0,none⟩) ts.length ts.length)∧RowIt w' w.heap.size ts.length ts ts.length∧Below w.heap.size w w':=by
  obtain⟨i0,hi,hz0,hz1,hz2⟩:=info_parts Tryz.infoI
  obtain⟨A,hA,hAs⟩: ∃A:Array Value,A=madeCells (Value.agg #[.int .i64 0,.int .i64 0,.int .i64 0,.string ⟨#[]⟩]).cells (ts.length * 4)∧A.size=ts.length * 4:=⟨_,rfl,size_madeCells _ _⟩
  have hmk: ∀W:World,(Instr.makeSlice 38 (.int .i64 (ts.length:Int)) (.int .i64 (ts.length:Int))).run Tryz.prog W=.ok (.slice (some ⟨W.heap.size,0,none⟩) ts.length ts.length) (W.alloc (.cells A 108)):=fun W=>by
    have h:=run_make (P:=Tryz.prog) W 38 108 i0 _ Tryz.underlying38 hi hz0 .i64 .i64 (ts.length:Int) (ts.length:Int) (by omega) (by omega) (by rw[hz2];omega) (by omega)
    rw[hz1,Int.toNat_natCast,←hA]at h
    simpa using h
  clear hA
  have H0:Hid (RowIt (w.alloc (.cells A 108)) w.heap.size ts.length ts 0):=⟨A,heap_alloc_new w _,hAs,fun i _ h=>absurd h (by omega)⟩
  clear hAs
  go_enter Tryz.func72,Tryz.ntmps72
  go_wp2
  go_loopw [4] (fun i wr=>∃(k:Nat),k≤ts.length∧i=.int .i64 k∧Hid (RowIt wr w.heap.size ts.length ts k)∧Below w.heap.size w wr) (fun i _=>ts.length - (intOf i).toNat)
  case atStart=>exact⟨0,by omega,rfl,H0.out,(Below.refl _ _).alloc (Nat.le_refl _) _⟩
  case round=>
    obtain⟨k,hk,rfl,hrow,hb⟩:=hrel
    clear H0 hmk hi hz0 hz1 hz2
    by_cases hlt:k<ts.length
    · obtain ⟨b, off, rfl, hbb, h0, h1, h2, h3⟩ := hx.out.stays hb k hlt
      have HP:Hid (∃x:It,x=ts[k]):=⟨_,rfl⟩
      obtain⟨⟨q,f,lv,tx⟩,hp⟩:=HP.out
      rw[←hp]at h0 h1 h2 h3
      have HQ:Hid ((q,f,lv,tx)=ts[k]):=hp
      clear hp HP
      dsimp only at h0 h1 h2 h3
      go_wp2_with fail
      refine(qFx q f lv tx _).mono ?_
      rintro e w1 ⟨rfl,hb1⟩
      have R1:Hid (RowIt w1 w.heap.size ts.length ts k):=hrow.out.stays hb1 hrow.out.lt
      have B1:Hid (Below w.heap.size w w1):=hb.trans (hb1.mono hb.size)
      obtain⟨v0,z0⟩:=R1.out.cell (k * 4) (by omega)
      obtain⟨v1,z1⟩:=R1.out.cell (k * 4+1) (by omega)
      obtain⟨v2,z2⟩:=R1.out.cell (k * 4+2) (by omega)
      obtain⟨v3,z3⟩:=R1.out.cell (k * 4+3) (by omega)
      have f0:=R1.out.frozen (k * 4)
      have f1:=R1.out.frozen (k * 4+1)
      have f2:=R1.out.frozen (k * 4+2)
      have f3:=R1.out.frozen (k * 4+3)
      clear hb1 h0 h1 h2 h3 hrow hb
      go_wp2_with fail
      go_roundw
      case rel=>
        have:=R1.out.set hlt
        rw[←HQ.out]at this
        exact⟨k+1,by omega,by go_num,this,(((B1.out.setCell (Nat.le_refl _) _).setCell (Nat.le_refl _) _).setCell (Nat.le_refl _) _).setCell (Nat.le_refl _) _⟩
      case measure=>simp[intOf];omega
    · obtain rfl : k = ts.length := by omega
      go_wp2_with fail
      go_ret
      exact⟨rfl,hrow.out,hb⟩
/-- a list that was handed in is copied. -/
theorem qFw(w:World)(ao:Option Addr)(cap:Nat)(ts:List It)(hx:Hid (ItemsAt w ao ts))(hl:ts.length≤1048576):
    Calls Tryz.prog 72 #[.slice ao ts.length cap] w fun e w'=>e=.returned (.slice (some ⟨w.heap.size,0,none⟩) ts.length ts.length)∧SlI w' w.heap.size (.slice (some ⟨w.heap.size,0,none⟩) ts.length ts.length) ts∧ItemsAt w' (some ⟨w.heap.size,0,none⟩) ts∧Below w.heap.size w w':=
  (toItems_row w ao cap ts hx hl).mono fun e w' ⟨h1,h2,h3⟩=>⟨h1,h2.sl rfl hl (Nat.le_refl _),h2.items,h3⟩
theorem qGe(v1 v2:Value)(ts:List It)(B1 B2:Nat)(w:World)(h1:SlI w B1 v1 ts)(h2:SlI w B2 v2 ts)(hl:ts.length≤1048576):
    Calls Tryz.prog 92 #[v1,v2] w fun e w'=>e=.returned (.bool true)∧Below w.heap.size w w':=by
  obtain⟨a1,c1,rfl,x1⟩:=h1.items
  obtain⟨a2,c2,rfl,x2⟩:=h2.items
  exact eqItems_same a1 a2 c1 c2 ts w x1 x2 hl
/-- the first item that has the number n. -/
def atP(ts:List It)(n:Int):Option It:=ts.find? fun x=>decide (x.1=n)
/-- whether one has it. -/
def hasP(ts:List It)(n:Int):Bool:=(atP ts n).isSome
theorem atP_here{ts:List It}{n:Int}{k:Nat}(hk:k<ts.length)(hn:ts[k].1=n)(h: ∀x∈ts.take k,¬x.1=n):atP ts n=some ts[k]:=by
  unfold atP
  have e:ts.find? (fun x=>decide (x.1=n))=(ts.take k++ts.drop k).find? (fun x=>decide (x.1=n)):=by rw[List.take_append_drop]
  rw[e,List.find?_append,List.find?_eq_none.2 (fun x hx=>by simpa using h x hx),List.drop_eq_getElem_cons hk,List.find?_cons_of_pos (by simpa using hn)]
  rfl
theorem atP_none{ts:List It}{n:Int}(h: ∀x∈ts,¬x.1=n):atP ts n=none:=by
  unfold atP
  exact List.find?_eq_none.2 fun x hx=>by simpa using h x hx
theorem take_step{ts:List It}{n:Int}{k:Nat}(hk:k<ts.length)(h: ∀x∈ts.take k,¬x.1=n)(hn: ¬ts[k].1=n): ∀x∈ts.take (k+1),¬x.1=n:=by
  intro x hx
  rw[List.take_succ_eq_append_getElem hk]at hx
  rcases List.mem_append.1 hx with h1|h1
  · exact h x h1
  · rw[List.mem_singleton.1 h1];exact hn
theorem zt(w:World):ItAt (w.alloc (.cells #[.int .i64 0,.int .i64 0,.int .i64 0,.string ⟨#[]⟩] 108)) w.heap.size 0 0 0 ⟨#[]⟩:=heap_alloc_new w _
/-- four cells stored. -/
theorem ItAt.put4{w:World}{g:Nat}{q f l q' f' l':Int}{t t':ByteArray}(h:ItAt w g q f l t):
    ItAt ((((w.setCell ⟨g,0,none⟩ (.int .i64 q')).setCell ⟨g,1,none⟩ (.int .i64 f')).setCell ⟨g,2,none⟩ (.int .i64 l')).setCell ⟨g,3,none⟩ (.string t')) g q' f' l' t':=by
  have e0:=heap_setCell_same w g 0 _ 108 (.int .i64 q') h
  have e1:=heap_setCell_same _ g 1 _ 108 (.int .i64 f') e0
  have e2:=heap_setCell_same _ g 2 _ 108 (.int .i64 l') e1
  exact heap_setCell_same _ g 3 _ 108 (.string t') e2
theorem ItAt.frozen{w:World}{g:Nat}{q f l:Int}{t:ByteArray}(h:ItAt w g q f l t)(i:Nat):w.frozen? ⟨g,i,none⟩=false:=frozen_of_row w g i _ 108 h
theorem spAt_any(ao:Option Addr)(cap:Nat)(ts:List It)(n:Int)(w:World)(hx:Hid (ItemsAt w ao ts))(hl:ts.length≤1048576):
    Calls Tryz.prog 131 #[.slice ao ts.length cap,.int .i64 n] w fun e w'=>e=.returned (.tuple #[agg ((atP ts n).getD zIt),.bool (hasP ts n)])∧Below w.heap.size w w':=by
  have HZ:Hid (ItAt (w.alloc (.cells #[.int .i64 0,.int .i64 0,.int .i64 0,.string ⟨#[]⟩] 108)) w.heap.size 0 0 0 ⟨#[]⟩):=zt w
  have HB:Hid (Below w.heap.size w (w.alloc (.cells #[.int .i64 0,.int .i64 0,.int .i64 0,.string ⟨#[]⟩] 108))):=(Below.refl _ _).alloc (Nat.le_refl _) _
  go_enter Tryz.func131,Tryz.ntmps131
  go_wp2
  go_loopw [6] (fun i wr=>∃(k:Nat),k≤ts.length∧i=.int .i64 k∧Hid (∀x∈ts.take k,¬x.1=n)∧Hid (Below w.heap.size w wr)∧Hid (ItAt wr w.heap.size 0 0 0 ⟨#[]⟩)) (fun i _=>ts.length - (intOf i).toNat)
  case atStart=>exact⟨0,Nat.zero_le _,rfl,(fun x hx=>by simp at hx: ∀x∈ts.take 0,¬x.1=n),HB,HZ⟩
  case round=>
    clear HZ HB
    obtain⟨k,hk,rfl,hst,hb,hz⟩:=hrel
    by_cases hlt:k<ts.length
    · obtain ⟨b, off, rfl, hbb, h0, h1, h2, h3⟩ := hx.out.stays hb.out k hlt
      have HP:Hid (∃x:It,x=ts[k]):=⟨_,rfl⟩
      obtain⟨⟨q,f,lv,tx⟩,hp⟩:=HP.out
      rw[←hp]at h0 h1 h2 h3
      have HQ:Hid ((q,f,lv,tx)=ts[k]):=hp
      clear hp HP
      dsimp only at h0 h1 h2 h3
      by_cases hn:q=n
      · have HR:Hid (atP ts n=some (q,f,lv,tx)):=by
          rw[HQ.out]
          exact atP_here hlt (by rw[←HQ.out];exact hn) hst.out
        subst hn
        obtain⟨d0,d1,d2,d3⟩:=hz.out.cells
        have f0:=hz.out.frozen 0
        have f1:=hz.out.frozen 1
        have f2:=hz.out.frozen 2
        have f3:=hz.out.frozen 3
        obtain⟨r0,r1,r2,r3⟩:=(hz.out.put4 (q':=q) (f':=f) (l':=lv) (t':=tx)).cells
        go_wp2_with fail
        refine bodyPost_ret (v:=.tuple #[.agg #[.int .i64 q,.int .i64 f,.int .i64 lv,.string tx],.bool true]) (by simp[results,Tryz.results131,go_sem,r0,r1,r2,r3]) rfl ⟨?_,?_⟩
        · unfold hasP
          rw[HR.out];rfl
        · exact(((hb.out.setCell (Nat.le_refl _) _).setCell (Nat.le_refl _) _).setCell (Nat.le_refl _) _).setCell (Nat.le_refl _) _
      · have HN : Hid (∀ x ∈ ts.take (k + 1), ¬ x.1 = n) := take_step hlt hst.out (by rw [← HQ.out]; exact hn)
        go_wp2_with fail
        go_roundw
        case rel=>exact⟨k+1,by omega,by go_num,HN,hb,hz⟩
        case measure=>simp[intOf];omega
    · have HR : Hid (atP ts n = none) := atP_none (by have := hst.out; rwa [List.take_of_length_le (by omega)] at this)
      obtain⟨d0,d1,d2,d3⟩:=hz.out.cells
      have f0:=hz.out.frozen 0
      have f1:=hz.out.frozen 1
      have f2:=hz.out.frozen 2
      have f3:=hz.out.frozen 3
      obtain⟨r0,r1,r2,r3⟩:=(hz.out.put4 (q':=0) (f':=0) (l':=0) (t':=⟨#[]⟩)).cells
      go_wp2_with fail
      refine bodyPost_ret (v:=.tuple #[.agg #[.int .i64 0,.int .i64 0,.int .i64 0,.string ⟨#[]⟩],.bool false]) (by simp[results,Tryz.results131,go_sem,r0,r1,r2,r3]) rfl ⟨?_,?_⟩
      · unfold hasP
        rw[HR.out];rfl
      · exact(((hb.out.setCell (Nat.le_refl _) _).setCell (Nat.le_refl _) _).setCell (Nat.le_refl _) _).setCell (Nat.le_refl _) _
theorem qEj(q f l:Int)(t:ByteArray)(w:World)(ht:t.size≤1048576):
    Calls Tryz.prog 120 #[.agg #[.int .i64 q,.int .i64 f,.int .i64 l,.string t]] w fun e w'=>e=.returned (.agg #[.int .i64 q,.int .i64 f,.int .i64 l,.string t])∧Below w.heap.size w w':=by
  obtain⟨W,hW⟩: ∃W,W=(w.alloc (.cells #[.int .i64 q,.int .i64 f,.int .i64 l,.string t] 108)).alloc (.cells #[.int .i64 0,.int .i64 0,.int .i64 0,.string ⟨#[]⟩] 108):=⟨_,rfl⟩
  have I0:Hid (ItAt W w.heap.size q f l t):=by
    rw[hW]
    exact ItAt.stays (show ItAt (w.alloc (.cells #[.int .i64 q,.int .i64 f,.int .i64 l,.string t] 108)) w.heap.size q f l t from heap_alloc_new w _) ((Below.refl _ _).alloc (Nat.le_refl _) _) (by simp)
  have Z0:Hid (ItAt W (w.heap.size+1) 0 0 0 ⟨#[]⟩):=by
    rw[hW]
    have h:=zt (w.alloc (.cells #[.int .i64 q,.int .i64 f,.int .i64 l,.string t] 108))
    rw[show(w.alloc (.cells #[.int .i64 q,.int .i64 f,.int .i64 l,.string t] 108)).heap.size=w.heap.size+1 by simp]at h
    exact h
  have B0:Hid (Below w.heap.size w W):=by
    rw[hW]
    exact((Below.refl _ _).alloc (Nat.le_refl _) _).alloc (by simp) _
  have HW:Hid (W=(w.alloc (.cells #[.int .i64 q,.int .i64 f,.int .i64 l,.string t] 108)).alloc (.cells #[.int .i64 0,.int .i64 0,.int .i64 0,.string ⟨#[]⟩] 108)):=hW
  clear hW
  go_enter Tryz.func120,Tryz.ntmps120
  go_wp2_with fail
  rw[←HW.out]
  clear HW
  refine(clone_any t _ ht).mono ?_
  rintro e w1 ⟨rfl,hb1⟩
  have I1:Hid (ItAt w1 w.heap.size q f l t):=I0.out.stays hb1 I0.out.lt
  have Z1:Hid (ItAt w1 (w.heap.size+1) 0 0 0 ⟨#[]⟩):=Z0.out.stays hb1 Z0.out.lt
  have B1:Hid (Below w.heap.size w w1):=B0.out.trans (hb1.mono B0.out.size)
  clear I0 Z0 B0 hb1
  obtain⟨c0,c1,c2,c3⟩:=I1.out.cells
  have g3:=I1.out.frozen 3
  have I2:Hid (ItAt (w1.setCell ⟨w.heap.size,3,none⟩ (.string t)) w.heap.size q f l t):=heap_setCell_same w1 w.heap.size 3 _ 108 (.string t) I1.out
  have Z2:Hid (ItAt (w1.setCell ⟨w.heap.size,3,none⟩ (.string t)) (w.heap.size+1) 0 0 0 ⟨#[]⟩):=(Below.heap_setCell w1 ⟨w.heap.size,3,none⟩ _ (w.heap.size+1) (by simp)).trans Z1.out
  have B2:Hid (Below w.heap.size w (w1.setCell ⟨w.heap.size,3,none⟩ (.string t))):=B1.out.setCell (Nat.le_refl _) _
  obtain⟨e0,e1,e2,e3⟩:=I2.out.cells
  obtain⟨d0,d1,d2,d3⟩:=Z2.out.cells
  have f0:=Z2.out.frozen 0
  have f1:=Z2.out.frozen 1
  have f2:=Z2.out.frozen 2
  have f3:=Z2.out.frozen 3
  obtain⟨r0,r1,r2,r3⟩:=(Z2.out.put4 (q':=q) (f':=f) (l':=l) (t':=t)).cells
  go_wp2_with fail
  refine bodyPost_ret (v:=.agg #[.int .i64 q,.int .i64 f,.int .i64 l,.string t]) (by simp[results,Tryz.results120,go_sem,r0,r1,r2,r3]) rfl ⟨rfl,?_⟩
  exact(((B2.out.setCell (by simp) _).setCell (by simp) _).setCell (by simp) _).setCell (by simp) _
/-- from n on, as long as there is the next one. -/
def qDc(ts:List It):Nat→Nat→Nat
  |0,n=>n
  |f+1,n=>if hasP ts ((n+1:Nat):Int)=true then qDc ts f (n+1)else n
/-- the greatest number up to which none is missing. -/
def aruP(ts:List It):Nat:=qDc ts ts.length 0
theorem aruGo_on{ts:List It}{n:Nat}(h:n<ts.length)(hh:hasP ts ((n+1:Nat):Int)=true):qDc ts (ts.length - n) n=qDc ts (ts.length - (n+1)) (n+1):=by
  rw[show ts.length - n=(ts.length - (n+1))+1 by omega,qDc,if_pos hh]
theorem aruGo_off{ts:List It}{n:Nat}(h:n<ts.length)(hh:hasP ts ((n+1:Nat):Int)=false):qDc ts (ts.length - n) n=n:=by
  rw[show ts.length - n=(ts.length - (n+1))+1 by omega,qDc,if_neg (by rw[hh];simp)]
theorem aruGo_end{ts:List It}{n:Nat}(h:ts.length≤n):qDc ts (ts.length - n) n=n:=by
  rw[show ts.length - n=0 by omega,qDc]
/-- which numbers are marked behind the first k items. -/
def flg(ts:List It)(k j:Nat):Bool:=decide (1≤j∧j≤ts.length)&&(ts.take k).any fun x=>decide (x.1=(j:Int))
theorem flg_zero(ts:List It)(j:Nat):flg ts 0 j=false:=by simp[flg]
theorem flg_end(ts:List It){j:Nat}(h1:1≤j)(h2:j≤ts.length):flg ts ts.length j=hasP ts (j:Int):=by
  unfold flg hasP atP
  rw[List.take_length,decide_eq_true (by omega),Bool.true_and,Bool.eq_iff_iff]
  simp
theorem flg_out(ts:List It)(k:Nat){j:Nat}(h: ¬(1≤j∧j≤ts.length)):flg ts k j=false:=by
  unfold flg
  rw[decide_eq_false h,Bool.false_and]
theorem flg_in{ts:List It}{k:Nat}(hk:k<ts.length){q:Nat}(h1:1≤q)(h2:q≤ts.length)(e:ts[k].1=(q:Int))(j:Nat):flg ts (k+1) j=if j=q then true else flg ts k j:=by
  unfold flg
  rw[List.take_succ_eq_append_getElem hk,List.any_append]
  by_cases hj:j=q
  · subst hj
    simp[e,h1,h2]
  · rw [if_neg hj]
    have: ¬(q:Int)=(j:Int):=by omega
    simp[e,this]
theorem flg_no{ts:List It}{k:Nat}(hk:k<ts.length)(h: ¬(1≤ts[k].1∧ts[k].1≤(ts.length:Int)))(j:Nat):flg ts (k+1) j=flg ts k j:=by
  unfold flg
  rw[List.take_succ_eq_append_getElem hk,List.any_append]
  by_cases hj:1≤j∧j≤ts.length
  · have : ¬ ts[k].1 = (j : Int) := by omega
    simp[this]
  · rw[decide_eq_false hj,Bool.false_and,Bool.false_and]
/-- a row of N flags. -/
def FlAt(w:World)(g N:Nat)(p:Nat→Bool):Prop:=∃arr:Array Value,w.heap[g]? =some (.cells arr 4 (0,0))∧arr.size=N∧∀j,j<N→arr[j]? =some (.bool (p j))
theorem FlAt.lt{w:World}{g N:Nat}{p:Nat→Bool}(h:FlAt w g N p):g<w.heap.size:=by
  obtain⟨arr,h1,_⟩:=h
  exact(Array.getElem?_eq_some_iff.1 h1).1
theorem FlAt.below{w w':World}{g N:Nat}{p:Nat→Bool}(h:FlAt w g N p)(hb:Below w.heap.size w w'):FlAt w' g N p:=by
  have:=h.lt
  obtain⟨arr,h1,h2⟩:=h
  exact⟨arr,(hb.block g this).trans h1,h2⟩
theorem FlAt.cell{w:World}{g N:Nat}{p:Nat→Bool}(h:FlAt w g N p){j:Nat}(hj:j<N):w.cell? ⟨g,j,none⟩=some (.bool (p j))∧w.frozen? ⟨g,j,none⟩=false:=by
  obtain⟨arr,h1,h2,h3⟩:=h
  exact⟨by rw[cell_of_row w g j _ 4 (0,0) h1];exact h3 j hj,frozen_of_row w g j _ 4 h1⟩
theorem FlAt.set{w:World}{g N:Nat}{p p':Nat→Bool}(h:FlAt w g N p)(k:Nat)(hp: ∀j,p' j=if j=k then true else p j):FlAt (w.setCell ⟨g,k,none⟩ (.bool true)) g N p':=by
  obtain⟨arr,h1,h2,h3⟩:=h
  refine⟨_,heap_setCell_same w g k _ 4 (.bool true) h1,by simp[h2],fun j hj=>?_⟩
  rw[Array.getElem?_setIfInBounds,hp]
  by_cases hjk:k=j
  · subst hjk
    simp[h2,hj]
  · have : ¬ j = k := fun e => hjk e.symm
    simp[hjk,this,h3 j hj]
theorem FlAt.eq{w:World}{g N:Nat}{p p':Nat→Bool}(h:FlAt w g N p)(hp: ∀j,p' j=p j):FlAt w g N p':=by
  obtain⟨arr,h1,h2,h3⟩:=h
  exact⟨arr,h1,h2,fun j hj=>by rw[hp];exact h3 j hj⟩
theorem Tryz.info4b:(Tryz.prog.info? 4).map (fun i=>(i.zero,i.size,i.bytes))=some (some (.bool false),1,1):=by kernel_rfl
theorem aru_any(ao:Option Addr)(cap:Nat)(ts:List It)(w:World)(hx:Hid (ItemsAt w ao ts))(hl:ts.length≤1048576):
    Calls Tryz.prog 145 #[.slice ao ts.length cap] w fun e w'=>e=.returned (.int .i64 (aruP ts:Nat))∧Below w.heap.size w w':=by
  obtain⟨i0,hi,hz0,hz1,hz2⟩:=info_parts Tryz.info4b
  obtain⟨N,hN⟩: ∃N,N=ts.length+2:=⟨_,rfl⟩
  obtain⟨A,hA,hAs⟩: ∃A:Array Value,A=madeCells (Value.bool false).cells (N * 1)∧A.size=N:=⟨_,rfl,by rw[size_madeCells];omega⟩
  have hmk:(Instr.makeSlice 176 (.int .i64 ((ts.length:Int)+2)) (.int .i64 ((ts.length:Int)+2))).run Tryz.prog w=.ok (.slice (some ⟨w.heap.size,0,none⟩) N N) (w.alloc (.cells A 4)):=by
    have h:=run_make (P:=Tryz.prog) w 176 4 i0 _ Tryz.underlying176 hi hz0 .i64 .i64 (N:Int) (N:Int) (by omega) (by omega) (by rw[hz2];omega) (by omega)
    rw[hz1,Int.toNat_natCast,←hA]at h
    rw[show(ts.length:Int)+2=(N:Int) by omega]
    simpa using h
  have H0:Hid (FlAt (w.alloc (.cells A 4)) w.heap.size N (flg ts 0)):=⟨A,heap_alloc_new w _,hAs,fun j hj=>by
    have e:madeCells (Value.bool false).cells (N * 1)=((List.replicate N false).map Value.bool).toArray:=by
      apply Array.ext'
      rw[show(Value.bool false).cells= #[Value.bool false]from rfl,Nat.mul_one,toList_madeCells_one]
      simp
    rw[hA,flg_zero,e]
    simp[hj]⟩
  have B0:Hid (Below w.heap.size w (w.alloc (.cells A 4))):=(Below.refl _ _).alloc (Nat.le_refl _) _
  clear hA hAs hi hz0 hz1 hz2
  go_enter Tryz.func145,Tryz.ntmps145
  go_wp2
  go_loopw [13] (fun i wr=>∃(k:Nat),k≤ts.length∧i=.int .i64 k∧Hid (FlAt wr w.heap.size N (flg ts k))∧Hid (Below w.heap.size w wr)) (fun i _=>ts.length - (intOf i).toNat)
  case atStart=>exact⟨0,Nat.zero_le _,rfl,H0,B0⟩
  case round=>
    clear H0 B0 hmk
    obtain⟨k,hk,rfl,hf,hb⟩:=hrel
    by_cases hlt:k<ts.length
    · obtain ⟨b, off, rfl, hbb, h0, h1, h2, h3⟩ := hx.out.stays hb.out k hlt
      have HP:Hid (∃x:It,x=ts[k]):=⟨_,rfl⟩
      obtain⟨⟨q,f,lv,tx⟩,hp⟩:=HP.out
      rw[←hp]at h0 h1 h2 h3
      have HQ:Hid ((q,f,lv,tx)=ts[k]):=hp
      clear hp HP
      dsimp only at h0 h1 h2 h3
      have I0:Hid (ItAt (wr.alloc (.cells #[.int .i64 q,.int .i64 f,.int .i64 lv,.string tx] 108)) wr.heap.size q f lv tx):=heap_alloc_new wr _
      have B0:Hid (Below w.heap.size w (wr.alloc (.cells #[.int .i64 q,.int .i64 f,.int .i64 lv,.string tx] 108))):=hb.out.alloc hb.out.size _
      have F0:Hid (FlAt (wr.alloc (.cells #[.int .i64 q,.int .i64 f,.int .i64 lv,.string tx] 108)) w.heap.size N (flg ts k)):=hf.out.below ((Below.refl _ _).alloc (Nat.le_refl _) _)
      have mn:=mNum (wr.alloc (.cells #[.int .i64 q,.int .i64 f,.int .i64 lv,.string tx] 108)) (.agg #[.int .i64 q,.int .i64 f,.int .i64 lv,.string tx])
      go_wp2_with fail
      clear mn
      generalize wr.alloc (.cells #[.int .i64 q,.int .i64 f,.int .i64 lv,.string tx] 108)=W0 at *
      clear h0 h1 h2 h3
      refine(qGc q f lv tx _).mono ?_
      rintro e w1 ⟨rfl,hb1⟩
      have I1:Hid (ItAt w1 wr.heap.size q f lv tx):=I0.out.stays hb1 I0.out.lt
      have F1:Hid (FlAt w1 w.heap.size N (flg ts k)):=F0.out.below hb1
      have B1:Hid (Below w.heap.size w w1):=B0.out.trans (hb1.mono B0.out.size)
      clear hb1 I0 B0 F0 hf
      go_wp2_with fail
      by_cases hq:1≤q∧q≤(ts.length:Int)
      · refine (qAe _ (decide_eq_true hq)).mono ?_
        rintro e w2 ⟨rfl,hw2⟩
        obtain rfl:=hw2.symm
        clear hw2
        obtain⟨c0,c1,c2,c3⟩:=I1.out.cells
        have mn:=mNum w1 (.agg #[.int .i64 q,.int .i64 f,.int .i64 lv,.string tx])
        go_wp2_with fail
        clear mn
        refine(qGc q f lv tx _).mono ?_
        rintro e w3 ⟨rfl,hb3⟩
        have F3:Hid (FlAt w3 w.heap.size N (flg ts k)):=F1.out.below hb3
        have B3:Hid (Below w.heap.size w w3):=B1.out.trans (hb3.mono B1.out.size)
        clear hb3 c0 c1 c2 c3 I1 F1 B1
        obtain⟨m,rfl⟩: ∃m:Nat,q=(m:Int):=⟨q.toNat,by omega⟩
        obtain⟨c0,f0⟩:=F3.out.cell (j:=m) (by omega)
        have hmN:(m:Int)<(N:Int):=by omega
        have F4:Hid (FlAt (w3.setCell ⟨w.heap.size,m,none⟩ (.bool true)) w.heap.size N (flg ts (k+1))):=F3.out.set m (flg_in hlt (by omega) (by omega) (by rw[←HQ.out]))
        have B4:Hid (Below w.heap.size w (w3.setCell ⟨w.heap.size,m,none⟩ (.bool true))):=B3.out.setCell (Nat.le_refl _) _
        go_wp2_with fail
        go_roundw
        case rel=>exact⟨k+1,by omega,by go_num,F4,B4⟩
        case measure=>simp[intOf];omega
      · refine (qAe _ (decide_eq_false hq)).mono ?_
        rintro e w2 ⟨rfl,hw2⟩
        obtain rfl:=hw2.symm
        clear hw2
        have F4:Hid (FlAt w1 w.heap.size N (flg ts (k+1))):=F1.out.eq (flg_no hlt (by rw[←HQ.out];exact hq))
        go_wp2_with fail
        go_roundw
        case rel=>exact⟨k+1,by omega,by go_num,F4,B1⟩
        case measure=>simp[intOf];omega
    · obtain rfl : k = ts.length := by omega
      go_wp2
      go_loopw [6] (fun i wr'=>∃(n:Nat),n≤ts.length∧i=.int .i64 n∧wr'=wr∧Hid (qDc ts (ts.length - n) n=aruP ts)) (fun i _=>ts.length+1 - (intOf i).toNat)
      case atStart=>exact⟨0,Nat.zero_le _,rfl,rfl,(rfl:qDc ts (ts.length - 0) 0=aruP ts)⟩
      case round=>
        obtain⟨n,hn,rfl,rfl,hg⟩:=hrel
        obtain⟨c0,f0⟩:=hf.out.cell (j:=n+1) (by omega)
        have hwn:IntKind.i64.wrap ((n:Int)+1)=((n+1:Nat):Int):=by rw[IntKind.wrap_i64];omega
        have hnN:((n+1:Nat):Int)<(N:Int):=by omega
        by_cases hlt2:n<ts.length
        · rw [flg_end ts (by omega) (by omega)] at c0
          cases hh:hasP ts ((n+1:Nat):Int)with
          | true =>
            rw[hh]at c0
            have HN:Hid (qDc ts (ts.length - (n+1)) (n+1)=aruP ts):=by
              have:=hg.out
              rwa [aruGo_on hlt2 hh]at this
            clear hh
            go_wp2_with fail
            go_roundw
            case rel=>exact⟨n+1,by omega,by go_num,by simp,HN⟩
            case measure=>simp[intOf];omega
          | false =>
            rw[hh]at c0
            have HN:Hid (n=aruP ts):=by
              have:=hg.out
              rwa [aruGo_off hlt2 hh]at this
            clear hh
            go_wp2_with fail
            go_ret
            exact⟨by rw[←HN.out];rfl,hb.out⟩
        · rw [flg_out ts _ (by omega)] at c0
          have HN:Hid (n=aruP ts):=by
            have:=hg.out
            rwa [aruGo_end (by omega)]at this
          go_wp2_with fail
          go_ret
          exact⟨by rw[←HN.out];rfl,hb.out⟩
theorem aruOf_any(ao:Option Addr)(cap:Nat)(ts:List It)(w:World)(hx:Hid (ItemsAt w ao ts))(hl:ts.length≤1048576):
    Calls Tryz.prog 133 #[.slice ao ts.length cap] w fun e w'=>e=.returned (.int .i64 (aruP ts:Nat))∧Below w.heap.size w w':=by
  go_enter Tryz.func133,Tryz.ntmps133
  go_wp2_with fail
  refine(aru_any ao cap ts w hx hl).mono ?_
  rintro e w1 ⟨rfl,hb1⟩
  go_wp2_with fail
  go_ret
  exact⟨rfl,hb1⟩
theorem spAru_any(ao:Option Addr)(cap:Nat)(ts:List It)(w:World)(hx:Hid (ItemsAt w ao ts))(hl:ts.length≤1048576):
    Calls Tryz.prog 106 #[.slice ao ts.length cap] w fun e w'=>e=.returned (.int .i64 (aruP ts:Nat))∧Below w.heap.size w w':=by
  go_enter Tryz.func106,Tryz.ntmps106
  go_wp2
  go_loopw [3,4] (fun n i wr=>∃(k:Nat),k≤ts.length∧n=.int .i64 k∧i=.int .i64 k∧Hid (qDc ts (ts.length - k) k=aruP ts)∧Hid (Below w.heap.size w wr)) (fun _ i _=>ts.length - (intOf i).toNat)
  case atStart=>exact⟨0,Nat.zero_le _,rfl,rfl,(rfl:qDc ts (ts.length - 0) 0=aruP ts),Below.refl _ _⟩
  case round=>
    obtain⟨k,hk,rfl,rfl,hg,hb⟩:=hrel
    by_cases hlt:k<ts.length
    · have X0 : Hid (ItemsAt wr ao ts) := hx.out.stays hb.out
      have hwn:IntKind.i64.wrap ((k:Int)+1)=((k+1:Nat):Int):=by rw[IntKind.wrap_i64];omega
      have A:=spAt_any ao cap ts ((k+1:Nat):Int) wr X0 hl
      generalize (atP ts ((k+1:Nat):Int)).getD zIt=y at A
      obtain⟨q,f,l,t⟩:=y
      cases hh:hasP ts ((k+1:Nat):Int)with
      | true =>
        rw[hh]at A
        have A:Hid _:=A
        have HN:Hid (qDc ts (ts.length - (k+1)) (k+1)=aruP ts):=by
          have:=hg.out
          rwa [aruGo_on hlt hh]at this
        clear hh
        go_wp2_with fail
        refine(show Calls _ _ _ _ _ from A.out).mono ?_
        rintro e w1 ⟨rfl,hb1⟩
        have B1:Hid (Below w.heap.size w (w1.alloc (.cells #[.int .i64 q,.int .i64 f,.int .i64 l,.string t] 108))):=(hb.out.trans (hb1.mono hb.out.size)).alloc (hb.out.trans (hb1.mono hb.out.size)).size _
        clear A hb1
        unfold agg
        go_wp2_with fail
        go_roundw
        case rel=>exact⟨k+1,by omega,rfl,rfl,HN,B1⟩
        case measure=>simp[intOf];omega
      | false =>
        rw[hh]at A
        have A:Hid _:=A
        have HN:Hid (k=aruP ts):=by
          have:=hg.out
          rwa [aruGo_off hlt hh]at this
        clear hh
        go_wp2_with fail
        refine(show Calls _ _ _ _ _ from A.out).mono ?_
        rintro e w1 ⟨rfl,hb1⟩
        have B1:Hid (Below w.heap.size w (w1.alloc (.cells #[.int .i64 q,.int .i64 f,.int .i64 l,.string t] 108))):=(hb.out.trans (hb1.mono hb.out.size)).alloc (hb.out.trans (hb1.mono hb.out.size)).size _
        clear A hb1
        unfold agg
        go_wp2_with fail
        go_ret
        exact⟨by rw[←HN.out];rfl,B1.out⟩
    · have HN:Hid (k=aruP ts):=by
        have:=hg.out
        rwa [aruGo_end (by omega)]at this
      go_wp2_with fail
      go_ret
      exact⟨by rw[←HN.out];rfl,hb.out⟩
theorem qFg{a b:World}(h:a.grownBy b none):Below a.heap.size a b:=⟨h.os,h.tape,h.output,h.size,fun k hk=>h.block k hk (by simp)⟩
theorem qGz(ao:Option Addr)(cap:Nat)(ts:List It)(w:World)(hx:Hid (ItemsAt w ao ts))(hl:ts.length≤1048576)(hs:Hid (∀x∈ts,x.2.2.2.size≤1048576)):
    Calls Tryz.prog 88 #[.slice ao ts.length cap] w fun e w'=>∃v,e=.returned v∧SlI w' w.heap.size v ts∧Below w.heap.size w w':=by
  obtain⟨i0,hi,hz0,hz1,hz2⟩:=info_parts Tryz.infoI
  obtain⟨W,hmk,own,hgr⟩:=run_make_own (P:=Tryz.prog) w w.heap.size 124 108 i0 _ 4 Tryz.underlying124 hi hz0 hz1 .i64 .i64 ts.length (by rw[hz2];omega) (by unfold maxLen;omega) (Nat.le_refl _)
  have S0:Hid (SlI W w.heap.size (.slice (some ⟨w.heap.size,0,none⟩) 0 ts.length) []):=Sl.ofOwn own
  have B0:Hid (Below w.heap.size w W):=qFg hgr
  clear own hgr hi hz0 hz1 hz2
  go_enter Tryz.func88,Tryz.ntmps88
  go_wp2
  go_loopw [3,11] (fun v i wr=>∃(k:Nat),k≤ts.length∧i=.int .i64 k∧Hid (SlI wr w.heap.size v (ts.take k))∧Hid (Below w.heap.size w wr)) (fun _ i _=>ts.length - (intOf i).toNat)
  case atStart=>exact⟨0,Nat.zero_le _,rfl,S0,B0⟩
  case round=>
    clear S0 B0 hmk
    obtain⟨k,hk,rfl,hS,hb⟩:=hrel
    by_cases hlt:k<ts.length
    · obtain ⟨b, off, rfl, hbb, h0, h1, h2, h3⟩ := hx.out.stays hb.out k hlt
      have hsz:=hs.out _ (List.getElem_mem hlt)
      have HP:Hid (∃x:It,x=ts[k]):=⟨_,rfl⟩
      obtain⟨⟨q,f,lv,tx⟩,hp⟩:=HP.out
      rw[←hp]at h0 h1 h2 h3 hsz
      have HQ:Hid ((q,f,lv,tx)=ts[k]):=hp
      clear hp HP
      dsimp only at h0 h1 h2 h3 hsz
      have S0:Hid (SlI (wr.alloc (.cells #[.int .i64 q,.int .i64 f,.int .i64 lv,.string tx] 108)) w.heap.size u3 (ts.take k)):=hS.out.below ((Below.refl _ _).alloc (Nat.le_refl _) _)
      have B0:Hid (Below w.heap.size w (wr.alloc (.cells #[.int .i64 q,.int .i64 f,.int .i64 lv,.string tx] 108))):=hb.out.alloc hb.out.size _
      go_wp2_with fail
      generalize wr.alloc (.cells #[.int .i64 q,.int .i64 f,.int .i64 lv,.string tx] 108)=W0 at *
      clear h0 h1 h2 h3
      refine(qEj q f lv tx _ hsz).mono ?_
      rintro e w1 ⟨rfl,hb1⟩
      have S1:SlI w1 w.heap.size u3 (ts.take k):=S0.out.below hb1
      have B1:Below w.heap.size w w1:=B0.out.trans (hb1.mono B0.out.size)
      have z1:w.heap.size≤w1.heap.size:=B1.size
      have hlk:(ts.take k).length≤1048576:=by rw[List.length_take];omega
      clear hb1 S0 B0 hS
      go_wp2_with (at_builtin;refine qGf rfl _ _ 124 rfl Tryz.underlying124 w.heap.size u3 (ts.take k) rfl S1 (q,f,lv,tx) rfl hlk z1 ?_;intro v2 w2 S2 g2 b2 _)
      have S2:Hid (SlI w2 w.heap.size v2 (ts.take (k+1))):=by
        rw[List.take_succ_eq_append_getElem hlt,←HQ.out]
        exact S2
      have B2:Hid (Below w.heap.size w w2):=B1.trans b2
      go_roundw
      case rel=>exact⟨k+1,by omega,by go_num,S2,B2⟩
      case measure=>simp[intOf];omega
    · obtain rfl : k = ts.length := by omega
      go_wp2_with fail
      go_ret
      exact⟨_,rfl,by have:=hS.out;rwa [List.take_length]at this,hb.out⟩
/-- those up to the aru. -/
def wholeP(ts:List It):List It:=ts.filter fun x=>decide (x.1≤(aruP ts:Int))
/-- n is one of them. -/
def inB(ws:List Int)(n:Int):Bool:=decide (n∈ws)
theorem inB_first{ws:List Int}{n:Int}{k:Nat}(h:qDz ws n k):inB ws n=true:=by
  obtain⟨hk,he,_⟩:=h
  unfold inB
  simp only[decide_eq_true_eq]
  rw[←he]
  exact List.getElem_mem hk
theorem inB_none{ws:List Int}{n:Int}(h:qCw ws n ws.length):inB ws n=false:=by
  unfold inB
  simp only[decide_eq_false_iff_not]
  intro hm
  obtain⟨j,hj,he⟩:=List.getElem_of_mem hm
  exact h j hj hj he
theorem contains_any(ao:Option Addr)(cap:Nat)(ws:List Int)(d:Int)(w:World)(hx:Hid (IntsAt w ao ws))(hl:ws.length≤1048576):
    Calls Tryz.prog 83 #[.slice ao ws.length cap,.int .i64 d] w fun e w'=>e=.returned (.bool (inB ws d))∧w'=w:=by
  rcases qGv ws d with⟨k,hk⟩|hn
  · rw [inB_first hk]
    have HK:Hid (qDz ws d k):=hk
    have h0:(0:Int)≤(k:Int):=by omega
    clear hk
    go_enter Tryz.func83,Tryz.ntmps83
    go_wp2_with fail
    refine(index_at ao cap ws d k w hx hl HK).mono ?_
    rintro e w1 ⟨rfl,rfl⟩
    go_wp2_with fail
    go_ret
    exact⟨by simp,rfl⟩
  · rw [inB_none hn]
    have HN:Hid (qCw ws d ws.length):=hn
    clear hn
    go_enter Tryz.func83,Tryz.ntmps83
    go_wp2_with fail
    refine(index_none ao cap ws d w hx hl HN).mono ?_
    rintro e w1 ⟨rfl,rfl⟩
    go_wp2_with fail
    go_ret
    exact⟨rfl,rfl⟩
theorem lin_any(ao:Option Addr)(cap:Nat)(ws:List Int)(d:Int)(w:World)(hx:Hid (IntsAt w ao ws))(hl:ws.length≤1048576):
    Calls Tryz.prog 27 #[.slice ao ws.length cap,.int .i64 d] w fun e w'=>e=.returned (.bool (inB ws d))∧w'=w:=by
  go_enter Tryz.func27,Tryz.ntmps27
  go_wp2
  go_loop [5] (fun i=>∃(k:Nat),k≤ws.length∧i=.int .i64 k∧Hid (qCw ws d k)) (fun i=>ws.length - (intOf i).toNat)
  case atStart=>exact⟨0,Nat.zero_le _,rfl,fun j _ h=>by omega⟩
  case round=>
    obtain⟨k,hk,rfl,hnu⟩:=hrel
    by_cases hlt:k<ws.length
    · obtain ⟨b, off, rfl, hbb, hc⟩ := hx.out k hlt
      obtain⟨x,ht⟩: ∃x,x=ws[k]:=⟨_,rfl⟩
      rw[←ht]at hc
      have HT:Hid (x=ws[k]):=ht
      clear ht
      by_cases h1:x=d
      · have HF : Hid (qDz ws d k) := ⟨hlt, by rw [← HT.out]; exact h1, fun j hj => hnu.out j (by omega) hj⟩
        go_wp2
        go_ret
        exact⟨by rw[inB_first HF.out];rfl,rfl⟩
      · have HE : Hid (¬ x = d) := h1
        go_wp2
        go_round
        case rel=>exact⟨k+1,by omega,by go_num,(fun j hj h=>by
            by_cases e:j=k
            · subst e;rw[←HT.out];exact HE.out
            · exact hnu.out j hj (by omega))⟩
        case measure=>simp[intOf];omega
    · obtain rfl : k = ws.length := by omega
      go_wp2
      go_ret
      exact⟨by rw[inB_none hnu.out];rfl,rfl⟩
/-- those of the list that ws has. -/
def giveP(ws:List Int)(ts:List It):List It:=ts.filter fun x=>inB ws x.1
/-- how two numbers stand. -/
def cmpP(a b:Int):Int:=if a<b then -1 else if b<a then 1 else 0
/-- where a list that ascends parts at n. -/
def Parts(ts:List It)(n:Int)(p:Nat):Prop:=p≤ts.length∧(∀x∈ts.take p,x.1<n)∧∀x∈ts.drop p,n≤x.1
/-- ascending. -/
def Asc(ts:List It):Prop:=ts.Pairwise fun a b=>a.1<b.1
theorem Asc.at{ts:List It}(h:Asc ts){i j:Nat}(hij:i<j)(hj:j<ts.length):(ts[i]'(by omega)).1<ts[j].1:=List.pairwise_iff_getElem.1 h i j (by omega) hj hij
theorem ahead{ts:List It}(h:Asc ts){n:Int}{k:Nat}(hk:k<ts.length)(hlt:ts[k].1<n): ∀x∈ts.take (k+1),x.1<n:=by
  intro x hx
  obtain⟨i,hi,rfl⟩:=List.mem_take_iff_getElem.1 hx
  have hi2:i<ts.length:=by omega
  by_cases hik:i=k
  · subst hik;exact hlt
  · have := h.at (i := i) (j := k) (by omega) hk
    omega
theorem qBt{ts:List It}(h:Asc ts){n:Int}{k:Nat}(hk:k<ts.length)(hge:n≤ts[k].1): ∀x∈ts.drop k,n≤x.1:=by
  intro x hx
  obtain⟨i,hi,rfl⟩:=List.mem_drop_iff_getElem.1 hx
  by_cases hi0:i=0
  · subst hi0;simpa using hge
  · have := h.at (i := k) (j := k + i) (by omega) (by omega)
    omega
/-- from n on, up to last, twenty at most. -/
def missGo(ts:List It)(last:Int):Nat→Nat→List Int→List Int
  |0,_,acc=>acc
  |f+1,n,acc=>if(n:Int)≤last∧acc.length<20 then missGo ts last f (n+1) (if hasP ts (n:Int)=true then acc else acc++[(n:Int)])else acc
/-- what is missing. -/
def missP(ts:List It)(u:Int):List Int:=missGo ts (if u≤60 then u else 60) (61 - (aruP ts+1)) (aruP ts+1) []
end Go.Proofs.YtifkopggmjbbeaaGreat
