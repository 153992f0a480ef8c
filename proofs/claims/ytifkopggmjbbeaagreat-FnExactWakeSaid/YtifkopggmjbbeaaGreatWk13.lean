/- Joined texts: CWr CWt CPb CWl CSm CCp CWk CKt CCt1 CMn CMb CMo CMp CMq1 CTm CEm CMw CMs1 CLmn. -/
import Derived.Test.YtifkopggmjbbeaaGreatWk11
import Derived.Test.YtifkopggmjbbeaaGreatWk8
import Derived.Test.YtifkopggmjbbeaaGreatWk5
import Derived.Test.YtifkopggmjbbeaaGreatWk12
import Derived.Test.YtifkopggmjbbeaaGreatWk7
import Derived.Laws.MakeOwn
import Derived.BigQuiet
import Derived.Deep.QuietTactic
set_option maxRecDepth 100000
set_option maxHeartbeats 16000000
/- Contracts over lists that are read; what is appended is read. -/
namespace Go.Proofs.YtifkopggmjbbeaaGreat
open Go.RowKit Pl
set_option linter.unusedSimpArgs false
set_option linter.unusedVariables false
theorem qAz{w w':World}(h:w'=w):Below w.heap.size w w':=by subst h;exact Below.refl _ _
section
variable {w : World} {v : Value}
theorem ringOk_r(i:Int)(ms:List Int)(h:Hid (RI w v ms))(hl:ms.length≤1048576):Calls Tryz.prog 82 #[.agg #[.int .i64 i,v]] w fun e w'=>e=.returned (.bool (qBc i ms))∧Below w.heap.size w w':=by
  obtain⟨ao,cap,rfl,hx⟩:=h.out;exact ringOk_any i ao cap ms w hx hl
theorem qDs(i:Int)(ms:List Int)(h:Hid (RI w v ms))(hl:ms.length≤1048576):Calls Tryz.prog 26 #[.agg #[.int .i64 i,v]] w fun e w'=>e=.returned (.bool (qBc i ms))∧Below w.heap.size w w':=by
  obtain⟨ao,cap,rfl,hx⟩:=h.out;exact spRingOk_any i ao cap ms w hx hl
theorem contains_r(ms:List Int)(d:Int)(h:Hid (RI w v ms))(hl:ms.length≤1048576):Calls Tryz.prog 83 #[v,.int .i64 d] w fun e w'=>e=.returned (.bool (inB ms d))∧Below w.heap.size w w':=by
  obtain⟨ao,cap,rfl,hx⟩:=h.out;exact(contains_any ao cap ms d w hx hl).mono fun e w' ⟨a,b⟩=>⟨a,qAz b⟩
theorem lin_r(ms:List Int)(d:Int)(h:Hid (RI w v ms))(hl:ms.length≤1048576):Calls Tryz.prog 27 #[v,.int .i64 d] w fun e w'=>e=.returned (.bool (inB ms d))∧Below w.heap.size w w':=by
  obtain⟨ao,cap,rfl,hx⟩:=h.out;exact(lin_any ao cap ms d w hx hl).mono fun e w' ⟨a,b⟩=>⟨a,qAz b⟩
theorem tokenOk_r(c r q a b:Int)(ws:List Int)(h:Hid (RI w v ws))(hl:ws.length≤1048576):Calls Tryz.prog 136 #[.agg #[.int .i64 c,.int .i64 r,.int .i64 q,.int .i64 a,.int .i64 b,v]] w fun e w'=>e=.returned (.bool (tkB c r q a b ws))∧Below w.heap.size w w':=by
  obtain⟨ao,cap,rfl,hx⟩:=h.out;exact tokenOk_any c r q a b ao cap ws w hx hl
theorem spTokenOk_r(c r q a b:Int)(ws:List Int)(h:Hid (RI w v ws))(hl:ws.length≤1048576):Calls Tryz.prog 107 #[.agg #[.int .i64 c,.int .i64 r,.int .i64 q,.int .i64 a,.int .i64 b,v]] w fun e w'=>e=.returned (.bool (tkB c r q a b ws))∧Below w.heap.size w w':=by
  obtain⟨ao,cap,rfl,hx⟩:=h.out;exact qGk c r q a b ao cap ws w hx hl
theorem itemsOk_r(ts:List It)(h:Hid (RIt w v ts))(hl:ts.length≤1048576):Calls Tryz.prog 134 #[v] w fun e w'=>e=.returned (.bool (iGo 0 ts))∧Below w.heap.size w w':=by
  obtain⟨ao,cap,rfl,hx⟩:=h.out;exact qFe ao cap ts w hx hl
theorem spItemsOk_r(ts:List It)(h:Hid (RIt w v ts))(hl:ts.length≤1048576):Calls Tryz.prog 104 #[v] w fun e w'=>e=.returned (.bool (iGo 0 ts))∧Below w.heap.size w w':=by
  obtain⟨ao,cap,rfl,hx⟩:=h.out;exact qDf ao cap ts w hx hl
theorem aruOf_r(ts:List It)(h:Hid (RIt w v ts))(hl:ts.length≤1048576):Calls Tryz.prog 133 #[v] w fun e w'=>e=.returned (.int .i64 (aruP ts:Nat))∧Below w.heap.size w w':=by
  obtain⟨ao,cap,rfl,hx⟩:=h.out;exact aruOf_any ao cap ts w hx hl
theorem spAru_r(ts:List It)(h:Hid (RIt w v ts))(hl:ts.length≤1048576):Calls Tryz.prog 106 #[v] w fun e w'=>e=.returned (.int .i64 (aruP ts:Nat))∧Below w.heap.size w w':=by
  obtain⟨ao,cap,rfl,hx⟩:=h.out;exact spAru_any ao cap ts w hx hl
theorem qAj(n a b:Int)(w:World):Calls Tryz.prog 79 #[.int .i64 n,.int .i64 a,.int .i64 b] w fun e w'=>e=.returned (.bool (decide (a≤n∧n≤b)))∧Below w.heap.size w w':=(qFv n a b w).mono fun e w' ⟨x,y⟩=>⟨x,qAz y⟩
theorem in_b(n a b:Int)(w:World):Calls Tryz.prog 60 #[.int .i64 n,.int .i64 a,.int .i64 b] w fun e w'=>e=.returned (.bool (decide (a≤n∧n≤b)))∧Below w.heap.size w w':=(in_any n a b w).mono fun e w' ⟨x,y⟩=>⟨x,qAz y⟩
end
theorem wp_catR{P:Program}{w:World}{o:Oper}{a:Act}{K:Act→World→Prop}{Q:Exit→Act→World→Prop}
    (s x:Operand) (t:TypeId) (ho:o.op=.call {callee:=.builtin .append,args:=#[s,x],argTypes:=#[t,t]})
    (ht:P.underlying t=some (.slice 3)) (hinfo:(P.info? 3).map (fun i=>(i.zero,i.size,i.bytes))=some (some (.int .i64 0),1,8))
    (B:Nat) (v:Value) (xs:List Int) (hs:a.eval s=v) (hown:OwnI w B v xs)
    (u:Value) (ys:List Int) (hx:a.eval x=u) (hu:RI w u ys) (hn:xs.length+ys.length<4000000) (hB:B≤w.heap.size) (hv:v≠ .slice none 0 0)
    (h: ∀v' w',OwnI w' B v' (xs++ys)→w.grownBy w' v.ownBlock→K (a.put o.dst v') w'):o.wp P a w K Q:=by
  obtain⟨i0,hi,hz0,hz1,hz2⟩:=info_parts hinfo
  obtain⟨ao,cap,rfl,hr⟩:=hu
  have hcat: ∀(ad:Addr),ao=some ad→(∀j u,(ys.map (Value.int .i64))[j]? =some u→w.cell? (ad.add j)=some u)→o.wp P a w K Q:=by
    intro ad had hcell
    subst had
    refine wp_append_own w s x t ho B 3 i0 (.int .i64 0) 1 8 ht hi hz0 hz1 hz2 rfl (by decide) v xs.length (xs.map (Value.int .i64)) hs hown ad ys.length cap (ys.map (Value.int .i64)) hx (by simp) hcell ?_ (by unfold maxLen;omega) (by omega) hB ?_
    · intro u hu'
      obtain⟨y,_,rfl⟩:=List.mem_map.1 hu'
      rfl
    · intro v' w' hown' hg _
      exact h v' w' (by simpa [OwnI] using hown') hg
  by_cases h0:0<ys.length
  · obtain ⟨b, off, rfl, _, _⟩ := hr 0 h0
    refine hcat ⟨b,off,none⟩ rfl fun j u hj=>?_
    have hjl:j<ys.length:=by have:=(List.getElem?_eq_some_iff.1 hj).1;simpa using this
    obtain⟨b',off',e,_,hc⟩:=hr j hjl
    simp at e
    obtain⟨rfl,rfl⟩:=e
    rw[Addr.add_lit,hc]
    simp[hjl]at hj
    rw[hj]
  · have e : ys = [] := List.eq_nil_of_length_eq_zero (by omega)
    subst e
    cases ao with
    |some ad=>exact hcat ad rfl fun j u hj=>by simp at hj
    | none =>
      have hc0:=h v w (by rw[List.append_nil];exact hown) (World.grownBy.refl _ _)
      rcases hown.2 with⟨hv0,_⟩|⟨g,cp,cur,hvv,_⟩
      · exact absurd hv0 hv
      · have hs' : Sl w 3 1 B v xs.length (xs.map (Value.int .i64)) := Sl.ofOwn hown
        have hsrc:Src P i0.size t (.slice none 0 cap) 0 [] w:=Src.ofNil _ ht cap
        subst hvv
        have hroom:xs.length+0≤cp:=by
          rcases hs'.2 with⟨h1,_⟩|⟨g',off',cap',cur',h1,_,_,hle,_⟩
          · cases h1
          · simp at h1;omega
        unfold Oper.wp execOp
        have hr:=run_append_room_src (P:=P) w t t o.type 3 i0 ht hi g 0 xs.length cp (.slice none 0 cap) 0 [] hsrc hroom (fun j hj=>by simp at hj) (fun j hj=>by simp at hj)
        simp only[ho,resolve,invoke,builtin,Sem.run_bind,Sem.run_pure,Result.andThen_ok,List.map_toArray,List.map_cons,List.map_nil,hs,hx,List.length_nil,hr]
        exact hc0
theorem qBn{P:Program}{w:World}{ops:Array Oper}{rest:List Oper}{o:Oper}{a:Act}{Q:Exit→Act→World→Prop}
    (hgd:o.guard=none) (s x:Operand) (t:TypeId) (ho:o.op=.call {callee:=.builtin .append,args:=#[s,x],argTypes:=#[t,t]})
    (ht:P.underlying t=some (.slice 3)) (hinfo:(P.info? 3).map (fun i=>(i.zero,i.size,i.bytes))=some (some (.int .i64 0),1,8))
    (B:Nat) (v:Value) (xs:List Int) (hs:a.eval s=v) (hown:OwnI w B v xs)
    (u:Value) (ys:List Int) (hx:a.eval x=u) (hu:RI w u ys) (hn:xs.length+ys.length<4000000) (hB:B≤w.heap.size) (hv:v≠ .slice none 0 0)
    (h: ∀v' w',OwnI w' B v' (xs++ys)→w.grownBy w' v.ownBlock→wpList P ops Q rest (a.put o.dst v') w'):
    wpList P ops Q (o::rest) a w:=
  wpList_plain hgd fun _ hK=>wp_catR s x t ho ht hinfo B v xs hs hown u ys hx hu hn hB hv fun v' w' h1 h2=>hK _ _ (h v' w' h1 h2)
theorem wp_catT{P:Program}{w:World}{o:Oper}{a:Act}{K:Act→World→Prop}{Q:Exit→Act→World→Prop}
    (s x:Operand) (t:TypeId) (ho:o.op=.call {callee:=.builtin .append,args:=#[s,x],argTypes:=#[t,t]})
    (ht:P.underlying t=some (.slice 9)) (hinfo:(P.info? 9).map (fun i=>(i.zero,i.size,i.bytes))=some (some (.string ⟨#[]⟩),1,16))
    (B:Nat) (v:Value) (xs:List ByteArray) (hs:a.eval s=v) (hown:OwnS w B v xs)
    (u:Value) (ys:List ByteArray) (hx:a.eval x=u) (hu:RT w u ys) (hn:xs.length+ys.length<4000000) (hB:B≤w.heap.size) (hv:v≠ .slice none 0 0)
    (h: ∀v' w',OwnS w' B v' (xs++ys)→w.grownBy w' v.ownBlock→K (a.put o.dst v') w'):o.wp P a w K Q:=by
  obtain⟨i0,hi,hz0,hz1,hz2⟩:=info_parts hinfo
  obtain⟨ao,cap,rfl,hr⟩:=hu
  have hcat: ∀(ad:Addr),ao=some ad→(∀j u,(ys.map Value.string)[j]? =some u→w.cell? (ad.add j)=some u)→o.wp P a w K Q:=by
    intro ad had hcell
    subst had
    refine wp_append_own w s x t ho B 9 i0 (.string ⟨#[]⟩) 1 16 ht hi hz0 hz1 hz2 rfl (by decide) v xs.length (xs.map Value.string) hs hown ad ys.length cap (ys.map Value.string) hx (by simp) hcell ?_ (by unfold maxLen;omega) (by omega) hB ?_
    · intro u hu'
      obtain⟨y,_,rfl⟩:=List.mem_map.1 hu'
      rfl
    · intro v' w' hown' hg _
      exact h v' w' (by simpa [OwnS] using hown') hg
  by_cases h0:0<ys.length
  · obtain ⟨b, off, rfl, _, _⟩ := hr 0 h0
    refine hcat ⟨b,off,none⟩ rfl fun j u hj=>?_
    have hjl:j<ys.length:=by have:=(List.getElem?_eq_some_iff.1 hj).1;simpa using this
    obtain⟨b',off',e,_,hc⟩:=hr j hjl
    simp at e
    obtain⟨rfl,rfl⟩:=e
    rw[Addr.add_lit,hc]
    simp[hjl]at hj
    rw[hj]
  · have e : ys = [] := List.eq_nil_of_length_eq_zero (by omega)
    subst e
    cases ao with
    |some ad=>exact hcat ad rfl fun j u hj=>by simp at hj
    | none =>
      have hc0:=h v w (by rw[List.append_nil];exact hown) (World.grownBy.refl _ _)
      rcases hown.2 with⟨hv0,_⟩|⟨g,cp,cur,hvv,_⟩
      · exact absurd hv0 hv
      · have hs' : Sl w 9 1 B v xs.length (xs.map Value.string) := Sl.ofOwn hown
        have hsrc:Src P i0.size t (.slice none 0 cap) 0 [] w:=Src.ofNil _ ht cap
        subst hvv
        have hroom:xs.length+0≤cp:=by
          rcases hs'.2 with⟨h1,_⟩|⟨g',off',cap',cur',h1,_,_,hle,_⟩
          · cases h1
          · simp at h1;omega
        unfold Oper.wp execOp
        have hr:=run_append_room_src (P:=P) w t t o.type 9 i0 ht hi g 0 xs.length cp (.slice none 0 cap) 0 [] hsrc hroom (fun j hj=>by simp at hj) (fun j hj=>by simp at hj)
        simp only[ho,resolve,invoke,builtin,Sem.run_bind,Sem.run_pure,Result.andThen_ok,List.map_toArray,List.map_cons,List.map_nil,hs,hx,List.length_nil,hr]
        exact hc0
theorem wpList_catT{P:Program}{w:World}{ops:Array Oper}{rest:List Oper}{o:Oper}{a:Act}{Q:Exit→Act→World→Prop}
    (hgd:o.guard=none) (s x:Operand) (t:TypeId) (ho:o.op=.call {callee:=.builtin .append,args:=#[s,x],argTypes:=#[t,t]})
    (ht:P.underlying t=some (.slice 9)) (hinfo:(P.info? 9).map (fun i=>(i.zero,i.size,i.bytes))=some (some (.string ⟨#[]⟩),1,16))
    (B:Nat) (v:Value) (xs:List ByteArray) (hs:a.eval s=v) (hown:OwnS w B v xs)
    (u:Value) (ys:List ByteArray) (hx:a.eval x=u) (hu:RT w u ys) (hn:xs.length+ys.length<4000000) (hB:B≤w.heap.size) (hv:v≠ .slice none 0 0)
    (h: ∀v' w',OwnS w' B v' (xs++ys)→w.grownBy w' v.ownBlock→wpList P ops Q rest (a.put o.dst v') w'):
    wpList P ops Q (o::rest) a w:=
  wpList_plain hgd fun _ hK=>wp_catT s x t ho ht hinfo B v xs hs hown u ys hx hu hn hB hv fun v' w' h1 h2=>hK _ _ (h v' w' h1 h2)
theorem wp_catIt{w:World}{o:Oper}{a:Act}{K:Act→World→Prop}{Q:Exit→Act→World→Prop}
    (s x:Operand) (t:TypeId) (ho:o.op=.call {callee:=.builtin .append,args:=#[s,x],argTypes:=#[t,t]})
    (ht:Tryz.prog.underlying t=some (.slice 108)) (B:Nat) (v:Value) (xs:List It) (hs:a.eval s=v) (hown:SlI w B v xs)
    (u:Value) (ys:List It) (hx:a.eval x=u) (hu:RIt w u ys) (hn:xs.length+ys.length≤2097152) (hB:B≤w.heap.size)
    (h: ∀v' w',SlI w' B v' (xs++ys)→w.grownBy w' v.ownBlock→(v'.ownBlock=v.ownBlock∨v'.ownBlock=some w.heap.size)→K (a.put o.dst v') w'):o.wp Tryz.prog a w K Q:=by
  obtain⟨ao,cap,rfl,hr⟩:=hu
  refine qDr s x t ho _ 40 ht Tryz.infoI rfl hs hown _ ys.length (cels ys) hx (src_items t ht cap hr) (by unfold maxLen;omega) (by omega) hB ?_
  intro v' w' h1 h2 h3
  refine h v' w' ?_ h2 h3
  unfold SlI
  rw[List.length_append,qCj]
  exact h1
theorem qEa{w:World}{ops:Array Oper}{rest:List Oper}{o:Oper}{a:Act}{Q:Exit→Act→World→Prop}
    (hgd:o.guard=none) (s x:Operand) (t:TypeId) (ho:o.op=.call {callee:=.builtin .append,args:=#[s,x],argTypes:=#[t,t]})
    (ht:Tryz.prog.underlying t=some (.slice 108)) (B:Nat) (v:Value) (xs:List It) (hs:a.eval s=v) (hown:SlI w B v xs)
    (u:Value) (ys:List It) (hx:a.eval x=u) (hu:RIt w u ys) (hn:xs.length+ys.length≤2097152) (hB:B≤w.heap.size)
    (h: ∀v' w',SlI w' B v' (xs++ys)→w.grownBy w' v.ownBlock→(v'.ownBlock=v.ownBlock∨v'.ownBlock=some w.heap.size)→wpList Tryz.prog ops Q rest (a.put o.dst v') w'):wpList Tryz.prog ops Q (o::rest) a w:=
  wpList_plain hgd fun _ hK=>wp_catIt s x t ho ht B v xs hs hown u ys hx hu hn hB fun v' w' h1 h2 h3=>hK _ _ (h v' w' h1 h2 h3)
/-- a walk stops where a slice is built, a struct is stored, a call is made. -/
theorem qCp{P:Program}{w:World}{ops:Array Oper}{rest:List Oper}{o:Oper}{a:Act}{Q:Exit→Act→World→Prop}(t n:Nat)(ps:Array (Nat × Operand))(ho:o.op=.buildSlice t n ps)(h:Stp (wpList P ops Q (o::rest) a w)):wpList P ops Q (o::rest) a w:=h.out
section
variable {P : Program} {w : World}
end
section
variable {P : Program} {w : World} {ops : Array Oper} {rest : List Oper} {o : Oper} {a : Act} {Q : Exit → Act → World → Prop} {K : Act → World → Prop}
end
/-- the slice v holds these rows, each of so many cells. -/
def SlN(w:World)(T size B:Nat)(v:Value)(rs:List (List Value)):Prop:=Sl w T size B v rs.length rs.flatten∧∀r∈rs,r.length=size∧∀u∈r,u.oneCell'=true
theorem flat_len{s:Nat}: ∀{rs:List (List Value)},(∀r∈rs,r.length=s)→rs.flatten.length=rs.length * s:=by
  intro rs
  induction rs with
  |nil=>intro _;simp
  | cons r rs ih =>
    intro h
    rw[List.flatten_cons,List.length_append,List.length_cons,ih fun r hr=>h r (List.mem_cons_of_mem _ hr),h r (List.mem_cons_self ..),Nat.add_mul]
    omega
theorem flat_drop{s:Nat}: ∀{rs:List (List Value)} (k:Nat),(∀r∈rs,r.length=s)→rs.flatten.drop (k * s)=(rs.drop k).flatten:=by
  intro rs
  induction rs with
  |nil=>intro k _;simp
  | cons r rs ih =>
    intro k h
    cases k with
    |zero=>simp
    | succ k =>
      have hr:=h r (List.mem_cons_self ..)
      rw[List.flatten_cons,List.drop_succ_cons,←ih k fun r hr=>h r (List.mem_cons_of_mem _ hr),Nat.add_mul,List.drop_append,List.drop_eq_nil_of_le (by omega),List.nil_append]
      congr 1;omega
theorem flat_take{s:Nat}: ∀{rs:List (List Value)} (k:Nat),(∀r∈rs,r.length=s)→rs.flatten.take (k * s)=(rs.take k).flatten:=by
  intro rs
  induction rs with
  |nil=>intro k _;simp
  | cons r rs ih =>
    intro k h
    cases k with
    |zero=>simp
    | succ k =>
      have hr:=h r (List.mem_cons_self ..)
      rw[List.flatten_cons,List.take_succ_cons,List.flatten_cons,←ih k fun r hr=>h r (List.mem_cons_of_mem _ hr),Nat.add_mul,List.take_append,List.take_of_length_le (by omega)]
      congr 2;omega
theorem flat_row{s:Nat}{rs:List (List Value)}(h: ∀r∈rs,r.length=s){i:Nat}(hi:i<rs.length):(rs.flatten.drop (i * s)).take s=rs[i]:=by
  rw[flat_drop i h,List.drop_eq_getElem_cons hi,List.flatten_cons,List.take_append,List.take_of_length_le (by rw[h _ (List.getElem_mem hi)];exact Nat.le_refl _),h _ (List.getElem_mem hi)]
  simp
theorem flat_set{s:Nat}{rs:List (List Value)}(h: ∀r∈rs,r.length=s){i:Nat}(hi:i<rs.length)(r:List Value)(hr:r.length=s):rs.flatten.take (i * s)++r++rs.flatten.drop (i * s+r.length)=(rs.set i r).flatten:=by
  rw[hr,show i * s+s=(i+1) * s by rw[Nat.add_mul];omega,flat_take i h,flat_drop (i+1) h,List.set_eq_take_append_cons_drop,if_pos hi,List.flatten_append,List.flatten_cons]
  simp
section
variable {w w' : World} {T size B : Nat} {v : Value} {rs : List (List Value)}
theorem SlN.lens(h:SlN w T size B v rs): ∀r∈rs,r.length=size:=fun r hr=>(h.2 r hr).1
theorem SlN.ones(h:SlN w T size B v rs): ∀u∈rs.flatten,u.oneCell'=true:=fun u hu=>by
  obtain⟨r,hr,hu⟩:=List.mem_flatten.1 hu
  exact(h.2 r hr).2 u hu
theorem SlN.form(h:SlN w T size B v rs): ∃s:Sv,v=.slice s.a s.n s.c∧s.n=rs.length:=by
  obtain⟨a,c,e⟩:=h.1.form
  exact⟨⟨a,rs.length,c⟩,e,rfl⟩
theorem SlN.lt(h:SlN w T size B v rs): ∀k,v.ownBlock=some k→B≤k∧k<w.heap.size:=h.1.lt
theorem SlN.keep(h:SlN w T size B v rs)(hk: ∀k,v.ownBlock=some k→k<w.heap.size→w'.heap[k]? =w.heap[k]?):SlN w' T size B v rs:=⟨h.1.keep hk,h.2⟩
theorem SlN.below(h:SlN w T size B v rs)(hb:Below w.heap.size w w'):SlN w' T size B v rs:=⟨h.1.below hb,h.2⟩
theorem SlN.down{B':Nat}(h:SlN w T size B v rs)(hB:B'≤B):SlN w T size B' v rs:=⟨h.1.down hB,h.2⟩
theorem SlN.kept{row:Option Nat}(h:SlN w T size B v rs)(hg:w.grownBy w' row)(hne: ∀k,v.ownBlock=some k→some k≠row):SlN w' T size B v rs:=⟨h.1.kept hg hne,h.2⟩
theorem SlN.nil(w:World)(T size B:Nat):SlN w T size B (.slice none 0 0) []:=⟨Sl.zero w T size B,fun r hr=>by cases hr⟩
theorem SlN.made(w:World)(T size B:Nat)(hb:B≤w.heap.size):SlN (w.alloc (.cells #[] T)) T size B (.slice (some ⟨w.heap.size,0,none⟩) 0 0) []:=⟨Sl.made w T size B hb,fun r hr=>by cases hr⟩
theorem SlN.one(w:World)(T size B:Nat)(r:List Value)(hr:r.length=size)(h1:r.all (·.oneCell')=true)(hb:B≤w.heap.size):SlN (w.alloc (.cells r.toArray T)) T size B (.slice (some ⟨w.heap.size,0,none⟩) 1 1) [r]:=
  ⟨⟨by simp[hr],.inr ⟨w.heap.size,0,1,r.toArray,rfl,hb,heap_alloc_new w _,Nat.le_refl _,by unfold maxLen;omega,by simp[hr],fun j hj=>by simp⟩⟩,fun x hx=>by simp at hx;subst hx;exact⟨hr,List.all_eq_true.1 h1⟩⟩
/-- the block that it lies in has elements of this type. -/
theorem SlN.blk(h:SlN w T size B v rs){k:Nat}(hk:v.ownBlock=some k): ∃cs,w.heap[k]? =some (.cells cs T (0,0)):=by
  rcases h.1.2 with⟨rfl,_⟩|⟨g,off,cap,cur,rfl,_,hg,_⟩
  · cases hk
  · cases hk;exact⟨_,hg⟩
theorem SlN.box_ne{g T':Nat}{cs:List Value}(h:SlN w T size B v rs)(hB:Bx w g T' cs)(hT:T'≠T): ∀k,v.ownBlock=some k→k≠g:=fun k hk he=>by
  subst he
  obtain⟨c,hc⟩:=h.blk hk
  unfold Bx at hB
  rw[hc]at hB
  simp at hB
  exact hT hB.2.symm
theorem SlN.keepb{g T':Nat}{cs:List Value}(h:SlN w T size B v rs)(hB:Bx w g T' cs)(hk:KeepBut g w w')(hT:T'≠T):SlN w' T size B v rs:=
  h.keep fun k hb hlt=>hk.block k hlt (h.box_ne hB hT k hb)
/-- a row, as it lies there. -/
theorem SlN.read(h:SlN w T size B v rs){i:Nat}(hi:i<rs.length):
    ∃g off cap,v=.slice (some ⟨g,off,none⟩) rs.length cap∧B≤g∧g<w.heap.size∧w.rangeAt g (off+i * size) rs[i]:=by
  obtain⟨g,off,cap,hv,hb,hlt,hc,_⟩:=h.1.read (by omega)
  refine⟨g,off,cap,hv,hb,hlt,fun j u hu=>?_⟩
  have hj:j<size:=by rw[←h.lens _ (List.getElem_mem hi)];exact(List.getElem?_eq_some_iff.1 hu).1
  have h2:=flat_row h.lens hi
  rw[←h2,List.getElem?_take,if_pos hj,List.getElem?_drop]at hu
  have:=hc _ u hu
  rw[←Nat.add_assoc]at this
  exact this
/-- as a source of what is appended. -/
theorem SlN.src{P:Program}{tx e':TypeId}(h:SlN w T size B v rs)(hk:P.underlying tx=some (.slice e')):Src P size tx v rs.length rs.flatten w:=h.1.src hk h.ones
theorem src_row{P:Program}(w:World)(t:TypeId)(ht:P.underlying t=some (.slice T))(r:List Value)(hr:r.length=size)(h1: ∀u∈r,u.oneCell'=true):Src P size t (.slice (some ⟨w.heap.size,0,none⟩) 1 1) 1 r (w.alloc (.cells r.toArray T)):=by
  refine Src.ofSlice _ ht ⟨w.heap.size,0,none⟩ 1 1 r (by omega) (fun j u hu=>?_) h1
  rw[Addr.add_lit,Nat.zero_add,cell_of_row _ _ _ _ T (0,0) (heap_alloc_new w _)]
  simpa using hu
theorem SlN.snoc{P:Program}{w1:World}{v':Value}{r:List Value}(h:SlN w T size B v rs)(hs:Sl w1 T size B v' (rs.length+1) (rs.flatten++r))(hr:r.length=size)(h1: ∀u∈r,u.oneCell'=true):SlN w1 T size B v' (rs++[r]):=by
  refine⟨?_,fun x hx=>?_⟩
  · rw [List.length_append, List.flatten_append]
    simpa using hs
  · rcases List.mem_append.1 hx with hx | hx
    · exact h.2 x hx
    · simp at hx;subst hx;exact⟨hr,h1⟩
end
section
variable {P : Program} {w : World} {ops : Array Oper} {rest : List Oper} {o : Oper} {a : Act} {Q : Exit → Act → World → Prop} {K : Act → World → Prop}
/-- one element put behind. -/
theorem qCn{T size:Nat}(hgd:o.guard=none)(s x:Operand)(t:TypeId)(ho:o.op=.call {callee:=.builtin .append,args:=#[s,x],argTypes:=#[t,t]})
    (z:Value) (bytes:Nat) (ht:P.underlying t=some (.slice T)) (hinfo:(P.info? T).map (fun i=>(i.zero,i.size,i.bytes))=some (some z,size,bytes)) (hzs:z.cells.size=size) (hby:bytes≤400)
    (B:Nat) (v:Value) (rs:List (List Value)) (hs:a.eval s=v) (hown:SlN w T size B v rs) (r:List Value) (hr:r.length=size) (h1:r.all (·.oneCell')=true)
    (hx:a.eval x=.slice (some ⟨w.heap.size,0,none⟩) 1 1) (hn:rs.length≤1048576) (hB:B≤w.heap.size)
    (h: ∀v' w',SlN w' T size B v' (rs++[r])→w.grownBy w' v.ownBlock→Below B w w'→(v'.ownBlock=v.ownBlock∨v'.ownBlock=some (w.heap.size+1))→wpList P ops Q rest (a.put o.dst v') w'):
    wpList P ops Q (o::rest) a (w.alloc (.cells r.toArray T)):=by
  have h1': ∀u∈r,u.oneCell'=true:=List.all_eq_true.1 h1
  refine qCx hgd s x t ho z bytes ht hinfo hzs hs (Sl.alloc hown.1 _) _ 1 r hx (src_row w t ht r hr h1') (by unfold maxLen;omega) (Nat.le_trans (Nat.mul_le_mul (by omega:rs.length+1≤1048577) hby) (by decide)) (by simp;omega) ?_
  intro v' w' h3 h2 h4
  have hg:w.grownBy w' v.ownBlock:=⟨h2.os,h2.tape,h2.output,Nat.le_trans (by simp) h2.size,fun k hk hne=>(h2.block k (by simp;omega) hne).trans (heap_alloc_old w _ hk)⟩
  refine h v' w' (hown.snoc (P:=P) h3 hr h1') hg ?_ ?_
  · exact((Below.refl B w).alloc hB _).grown h2 (by simp;omega) (fun k hk=>(Sl.lt hown.1 k hk).1)
  · simpa using h4
/-- a row is loaded. -/
theorem qAx(hw:Region.wanted o (yielded ops a.tmps)=true)(ty:TypeId)(x:Operand)(ho:o.op=.load ty x)(g off:Nat)(hx:a.eval x=.pointer (some ⟨g,off,none⟩))(cs:List Value)(hr:w.rangeAt g off cs)
    (d:TypeDesc) (hu:P.underlying ty=some d) (hd:d.isRow=true) (hi:(P.info? ty).map (·.size)=some cs.length)
    (h:wpList P ops Q rest (a.put o.dst (.agg cs.toArray)) w):wpList P ops Q (o::rest) a w:=
  wpList_step fun K hK=>by
    rw[if_pos hw]
    exact wp_load_mid ty x ho g off hx cs d hr hu hd hi (hK _ _ h)
/-- a row is set. -/
theorem SlN.stored{T size B:Nat}{g off cap i:Nat}{rs:List (List Value)}(h:SlN w T size B (.slice (some ⟨g,off,none⟩) rs.length cap) rs)(hi:i<rs.length)(r:List Value)(hr:r.length=size)(h1: ∀u∈r,u.oneCell'=true):
    w.there g (off+i * size) r.length∧SlN (w.setCells g (off+i * size) r) T size B (.slice (some ⟨g,off,none⟩) rs.length cap) (rs.set i r)∧TurnAt g w (w.setCells g (off+i * size) r):=by
  rcases h.1.2 with⟨hv,_⟩|⟨g',off',cap',cur,hv,hb,hg,hc,hm,hs,ht⟩
  · simp at hv
  simp at hv
  obtain⟨⟨rfl,rfl⟩,rfl⟩:=hv
  have hle:i * size+size≤rs.length * size:=by
    have:(i+1) * size≤rs.length * size:=Nat.mul_le_mul_right _ hi
    rw[Nat.add_mul]at this;omega
  have hcs:rs.length * size≤cap * size:=Nat.mul_le_mul_right _ hc
  have hin:off+i * size+r.length≤cur.size:=by omega
  refine⟨fun j hj=>⟨?_,frozen_of_row w g _ _ T hg⟩,⟨?_,fun x hx=>?_⟩,qCf r w g _⟩
  · rw[cell_of_row w g _ _ T (0,0) hg,Array.getElem?_eq_getElem (by omega)];rfl
  · obtain ⟨cur', q1, q2, q3, q4⟩ := qDj r w g (off + i * size) cur T hg hin
    have hbx:Bx w g T cur.toList:=by unfold Bx;simpa using hg
    have hbx2:=qCg r w g (off+i * size) T cur.toList hbx (by simpa using hin)
    have he:cur'=(cur.toList.take (off+i * size)++r++cur.toList.drop (off+i * size+r.length)).toArray:=by
      unfold Bx at hbx2
      rw[q1]at hbx2
      simpa using hbx2
    have hfl:(rs.set i r).flatten=rs.flatten.take (i * size)++r++rs.flatten.drop (i * size+r.length):=(flat_set h.lens hi r hr).symm
    refine⟨by rw[flat_len (s:=size)];intro x hx;rcases List.mem_or_eq_of_mem_set hx with hx|rfl;exact h.lens x hx;exact hr,.inr ⟨g,off,cap,cur',by simp,hb,q1,by simpa using hc,hm,by omega,fun j hj=>?_⟩⟩
    rw[List.length_set]at hj
    have hfr:rs.flatten.length=rs.length * size:=flat_len h.lens
    by_cases hj1:j<i * size
    · rw[q3 _ (by omega),ht j hj,hfl,List.append_assoc,List.getElem?_append_left (by rw[List.length_take];omega),List.getElem?_take,if_pos hj1]
    · by_cases hj2 : j < i * size + r.length
      · have h5 := q4 (j - i * size) (by omega)
        rw[show off+i * size+(j - i * size)=off+j by omega]at h5
        rw[h5,hfl,List.append_assoc,List.getElem?_append_right (by rw[List.length_take];omega),List.getElem?_append_left (by rw[List.length_take];omega),List.length_take]
        congr 1;omega
      · have h6:cur'[off+j]? =cur[off+j]? :=by
          rw[he]
          simp only[List.getElem?_toArray]
          rw[List.getElem?_append_right (by simp[List.length_take];omega),List.getElem?_drop,←Array.getElem?_toList]
          congr 1
          simp[List.length_take];omega
        rw[h6,ht j hj,hfl,List.append_assoc,List.getElem?_append_right (by rw[List.length_take];omega),List.getElem?_append_right (by rw[List.length_take];omega),List.getElem?_drop,List.length_take]
        congr 1;omega
  · rcases List.mem_or_eq_of_mem_set hx with hx | rfl
    · exact h.2 x hx
    · exact⟨hr,h1⟩
theorem qFu{T size B:Nat}(hgd:o.guard=none)(ty:TypeId)(x y:Operand)(ho:o.op=.store ty x y){g off cap i:Nat}{rs:List (List Value)}(hown:SlN w T size B (.slice (some ⟨g,off,none⟩) rs.length cap) rs)(hi:i<rs.length)
    (hx:a.eval x=.pointer (some ⟨g,off+i * size,none⟩)) (r:List Value) (hy:a.eval y=.agg r.toArray) (hr:r.length=size) (h1:r.all (·.oneCell')=true) (hinf:(P.info? ty).map (·.size)=some r.length)
    (h: ∀w',SlN w' T size B (.slice (some ⟨g,off,none⟩) rs.length cap) (rs.set i r)→TurnAt g w w'→wpList P ops Q rest (a.put o.dst undef) w'):wpList P ops Q (o::rest) a w:=by
  obtain⟨h2,h3,h4⟩:=hown.stored hi r hr (List.all_eq_true.1 h1)
  refine wpList_store_mid hgd ty x y ho g (off+i * size) r.toArray hx hy (by simpa using h2) (by simpa using hinf) (all_oneCell_toArray (List.all_eq_true.1 h1)) ?_
  exact h _ (by simpa using h3) (by simpa using h4)
end
/-- what is left of a budget, or nothing. -/
def Left(L n:Nat)(e:Ending):Prop:=e=.returned (.int .i64 (-1))∨ ∃z:Nat,e=.returned (.int .i64 z)∧z+n=L
theorem qEp(ao:Option Addr)(n cap L:Nat)(w:World)(hL:L≤1048576)(hn:n≤9223372036854775807):
    Calls Tryz.prog 24 #[.slice ao n cap,.int .i64 L] w fun e w'=>Left L n e∧w'=w:=by
  by_cases h:L<n
  · have hd : decide ((L : Int) - (n : Int) < 0) = true := by simp; omega
    go_enter Tryz.func24,Tryz.ntmps24
    go_wp2
    go_ret
    exact⟨.inl rfl,rfl⟩
  · have hd : decide ((L : Int) - (n : Int) < 0) = false := by simp; omega
    go_enter Tryz.func24,Tryz.ntmps24
    go_wp2
    go_ret
    exact⟨.inr ⟨L - n,by rw[show((L - n:Nat):Int)=(L:Int) - (n:Int) by omega];rfl,by omega⟩,rfl⟩
theorem qCz(i:Int)(ao:Option Addr)(n cap L:Nat)(w:World)(hL:L≤1048576)(hn:n≤9223372036854775807):
    Calls Tryz.prog 6 #[.agg #[.int .i64 i,.slice ao n cap],.int .i64 L] w fun e w'=>Left L n e∧Below w.heap.size w w':=by
  go_enter Tryz.func6,Tryz.ntmps6
  go_wp2_with fail
  refine(qEp ao n cap L _ hL hn).mono ?_
  rintro e w1 ⟨hl,rfl⟩
  rcases hl with rfl|⟨z,rfl,hz⟩
  · go_wp2_with fail
    go_ret
    exact⟨.inl rfl,(Below.refl _ _).alloc (Nat.le_refl _) _⟩
  · have HZ : Hid (z + n = L) := hz
    have hd:decide ((z:Int)<0)=false:=by simp
    clear hz
    go_wp2_with fail
    go_ret
    exact⟨.inr ⟨z,rfl,HZ.out⟩,(Below.refl _ _).alloc (Nat.le_refl _) _⟩
theorem szTok_left(c r q a b:Int)(ao:Option Addr)(n cap L:Nat)(w:World)(hL:L≤1048576)(hn:n≤9223372036854775807):
    Calls Tryz.prog 57 #[.agg #[.int .i64 c,.int .i64 r,.int .i64 q,.int .i64 a,.int .i64 b,.slice ao n cap],.int .i64 L] w fun e w'=>Left L n e∧Below w.heap.size w w':=by
  go_enter Tryz.func57,Tryz.ntmps57
  go_wp2_with fail
  refine(qEp ao n cap L _ hL hn).mono ?_
  rintro e w1 ⟨hl,rfl⟩
  rcases hl with rfl|⟨z,rfl,hz⟩
  · go_wp2_with fail
    go_ret
    exact⟨.inl rfl,(Below.refl _ _).alloc (Nat.le_refl _) _⟩
  · have HZ : Hid (z + n = L) := hz
    have hd:decide ((z:Int)<0)=false:=by simp
    clear hz
    go_wp2_with fail
    go_ret
    exact⟨.inr ⟨z,rfl,HZ.out⟩,(Below.refl _ _).alloc (Nat.le_refl _) _⟩
theorem RI.len{w:World}{s:Sv}{xs:List Int}(h:RI w s.v xs):s.n=xs.length:=by
  obtain⟨ao,cap,h1,_⟩:=h;unfold Sv.v at h1;simp at h1;exact h1.2.1
theorem RT.len{w:World}{s:Sv}{xs:List ByteArray}(h:RT w s.v xs):s.n=xs.length:=by
  obtain⟨ao,cap,h1,_⟩:=h;unfold Sv.v at h1;simp at h1;exact h1.2.1
theorem RIt.len{w:World}{s:Sv}{xs:List It}(h:RIt w s.v xs):s.n=xs.length:=by
  obtain⟨ao,cap,h1,_⟩:=h;unfold Sv.v at h1;simp at h1;exact h1.2.1
theorem szIt_r(s:Sv)(ts:List It)(L:Nat)(w:World)(h:Hid (RIt w s.v ts))(hL:L≤1048576)(hl:ts.length≤9223372036854775807)(hs:Hid (∀x∈ts,x.2.2.2.size≤9223372036854775807)):
    Calls Tryz.prog 55 #[.slice s.a s.n s.c,.int .i64 L] w fun e w'=>(e=.returned (.int .i64 (-1))∨(∃z:Nat,e=.returned (.int .i64 z)∧z+ts.length≤L∧∀x∈ts,x.2.2.2.size≤1048576))∧Below w.heap.size w w':=by
  obtain⟨ao,cap,h1,h2⟩:=h.out;unfold Sv.v at h1;rw[h1];exact qEb L hL ao cap ts w h2 hl hs
theorem szT_r(s:Sv)(ts:List ByteArray)(L:Nat)(w:World)(h:Hid (RT w s.v ts))(hL:L≤1048576)(hl:ts.length≤9223372036854775807)(hs:Hid (∀x∈ts,x.size≤9223372036854775807)):
    Calls Tryz.prog 56 #[.slice s.a s.n s.c,.int .i64 L] w fun e w'=>(e=.returned (.int .i64 (-1))∨ ∃r:Nat,e=.returned (.int .i64 r)∧Hid (r+ts.length≤L∧∀t∈ts,t.size≤1048576))∧w'=w:=by
  obtain⟨ao,cap,h1,h2⟩:=h.out;unfold Sv.v at h1;rw[h1];exact szS_any w ao cap L ts h2 (by unfold maxLen;omega) (fun t ht=>by have:=hs.out t ht;unfold maxLen;omega) hL
/-- a member's lists are no longer than can be. -/
structure MtL (m:Mt):Prop where
  ms:m.ms.length≤9223372036854775807
  its:m.its.length≤9223372036854775807
  lv:m.lv.length≤9223372036854775807
  tx:m.tx.length≤9223372036854775807
  ws:m.la.ws.length≤9223372036854775807
  it: ∀x∈m.its,x.2.2.2.size≤9223372036854775807
  te: ∀x∈m.tx,x.size≤9223372036854775807
/-- what is left when a member has been measured. -/
def LeftM(m:Mt)(e:Ending):Prop:=e=.returned (.int .i64 (-1))∨ ∃z:Nat,e=.returned (.int .i64 z)∧MtS m∧z≤1048576
theorem szMate_any(m:Mt)(v:Mv)(w:World)(h:Hid (MtR w m v))(hl:Hid (MtL m)):
    Calls Tryz.prog 21 #[.agg #[.int .i64 m.id,.int .i64 m.rid,.slice v.ms.a v.ms.n v.ms.c,.slice v.its.a v.its.n v.its.c,.slice v.lv.a v.lv.n v.lv.c,.slice v.tx.a v.tx.n v.tx.c,.int .i64 m.rd,.int .i64 m.se,.int .i64 m.li,.int .i64 m.he,.int .i64 m.la.c,.int .i64 m.la.r,.int .i64 m.la.q,.int .i64 m.la.a,.int .i64 m.la.b,.slice v.ws.a v.ws.n v.ws.c],.int .i64 1048576] w fun e w'=>LeftM m e∧Below w.heap.size w w':=by
  have HB:Hid (MtB (w.alloc (.cells #[.int .i64 m.id,.int .i64 m.rid,.slice v.ms.a v.ms.n v.ms.c,.slice v.its.a v.its.n v.its.c,.slice v.lv.a v.lv.n v.lv.c,.slice v.tx.a v.tx.n v.tx.c,.int .i64 m.rd,.int .i64 m.se,.int .i64 m.li,.int .i64 m.he,.int .i64 m.la.c,.int .i64 m.la.r,.int .i64 m.la.q,.int .i64 m.la.a,.int .i64 m.la.b,.slice v.ws.a v.ws.n v.ws.c] 30)) w.heap.size 30 m v):=Bx.new w 30 _
  have HL:Hid (Below w.heap.size w (w.alloc (.cells #[.int .i64 m.id,.int .i64 m.rid,.slice v.ms.a v.ms.n v.ms.c,.slice v.its.a v.its.n v.its.c,.slice v.lv.a v.lv.n v.lv.c,.slice v.tx.a v.tx.n v.tx.c,.int .i64 m.rd,.int .i64 m.se,.int .i64 m.li,.int .i64 m.he,.int .i64 m.la.c,.int .i64 m.la.r,.int .i64 m.la.q,.int .i64 m.la.a,.int .i64 m.la.b,.slice v.ws.a v.ws.n v.ws.c] 30))):=(Below.refl _ _).alloc (Nat.le_refl _) _
  have HR:Hid (MtR (w.alloc (.cells #[.int .i64 m.id,.int .i64 m.rid,.slice v.ms.a v.ms.n v.ms.c,.slice v.its.a v.its.n v.its.c,.slice v.lv.a v.lv.n v.lv.c,.slice v.tx.a v.tx.n v.tx.c,.int .i64 m.rd,.int .i64 m.se,.int .i64 m.li,.int .i64 m.he,.int .i64 m.la.c,.int .i64 m.la.r,.int .i64 m.la.q,.int .i64 m.la.a,.int .i64 m.la.b,.slice v.ws.a v.ws.n v.ws.c] 30)) m v):=h.out.stays HL.out
  have LEN:Hid (v.ms.n=m.ms.length∧v.lv.n=m.lv.length∧v.ws.n=m.la.ws.length):=⟨RI.len h.out.ms,RI.len h.out.lv,RI.len h.out.ws⟩
  clear h
  go_enter Tryz.func21,Tryz.ntmps21
  go_wp2_with fail
  generalize w.alloc (.cells #[.int .i64 m.id,.int .i64 m.rid,.slice v.ms.a v.ms.n v.ms.c,.slice v.its.a v.its.n v.its.c,.slice v.lv.a v.lv.n v.lv.c,.slice v.tx.a v.tx.n v.tx.c,.int .i64 m.rd,.int .i64 m.se,.int .i64 m.li,.int .i64 m.he,.int .i64 m.la.c,.int .i64 m.la.r,.int .i64 m.la.q,.int .i64 m.la.a,.int .i64 m.la.b,.slice v.ws.a v.ws.n v.ws.c] 30)=W at *
  refine(qCz m.rid v.ms.a v.ms.n v.ms.c 1048576 _ (by omega) (by have:=LEN.out.1;have:=hl.out.ms;omega)).mono ?_
  rintro e w1 ⟨hl1,b1⟩
  have HB:Hid (MtB w1 w.heap.size 30 m v):=Bx.later HB.out b1
  have HR:Hid (MtR w1 m v):=HR.out.stays b1
  have HL:Hid (Below w.heap.size w w1):=qAa HL.out b1
  clear b1
  rcases hl1 with rfl|⟨z1,rfl,hz1⟩
  · go_wp2_with fail
    go_ret
    exact⟨.inl rfl,HL.out⟩
  have E1:Hid _:=hz1
  have k1:z1≤1048576:=by omega
  have hd1:decide ((z1:Int)<0)=false:=by simp
  clear hz1
  obtain⟨⟨c0,c1,c2,c3,c4,c5⟩,⟨c6,c7,c8,c9⟩,c10,c11,c12,c13,c14,c15⟩:=HB.out.cells
  go_wp2_with fail
  clear hd1 c0 c1 c2 c3 c4 c5 c6 c7 c8 c9 c10 c11 c12 c13 c14 c15
  refine(szIt_r v.its m.its z1 _ (show Hid (RIt w1 v.its.v m.its)from(HR.out).its) (by omega) hl.out.its hl.out.it).mono ?_
  rintro e w2 ⟨hl2,b2⟩
  have HB:Hid (MtB w2 w.heap.size 30 m v):=Bx.later HB.out b2
  have HR:Hid (MtR w2 m v):=HR.out.stays b2
  have HL:Hid (Below w.heap.size w w2):=qAa HL.out b2
  clear b2
  rcases hl2 with rfl|⟨z2,rfl,hz2⟩
  · go_wp2_with fail
    go_ret
    exact⟨.inl rfl,HL.out⟩
  have E2:Hid _:=hz2
  have k2:z2≤1048576:=by have:=hz2.1;omega
  have hd2:decide ((z2:Int)<0)=false:=by simp
  clear hz2
  obtain⟨⟨c0,c1,c2,c3,c4,c5⟩,⟨c6,c7,c8,c9⟩,c10,c11,c12,c13,c14,c15⟩:=HB.out.cells
  go_wp2_with fail
  clear hd2 c0 c1 c2 c3 c4 c5 c6 c7 c8 c9 c10 c11 c12 c13 c14 c15
  refine(qEp v.lv.a v.lv.n v.lv.c z2 _ (by omega) (by have:=LEN.out.2.1;have:=hl.out.lv;omega)).mono ?_
  rintro e w3 ⟨hl3,hq3⟩
  have b3:Below w2.heap.size w2 w3:=qAz hq3
  clear hq3
  have HB:Hid (MtB w3 w.heap.size 30 m v):=Bx.later HB.out b3
  have HR:Hid (MtR w3 m v):=HR.out.stays b3
  have HL:Hid (Below w.heap.size w w3):=qAa HL.out b3
  clear b3
  rcases hl3 with rfl|⟨z3,rfl,hz3⟩
  · go_wp2_with fail
    go_ret
    exact⟨.inl rfl,HL.out⟩
  have E3:Hid _:=hz3
  have k3:z3≤1048576:=by omega
  have hd3:decide ((z3:Int)<0)=false:=by simp
  clear hz3
  obtain⟨⟨c0,c1,c2,c3,c4,c5⟩,⟨c6,c7,c8,c9⟩,c10,c11,c12,c13,c14,c15⟩:=HB.out.cells
  go_wp2_with fail
  clear hd3 c0 c1 c2 c3 c4 c5 c6 c7 c8 c9 c10 c11 c12 c13 c14 c15
  refine(szT_r v.tx m.tx z3 _ (show Hid (RT w3 v.tx.v m.tx)from(HR.out).tx) (by omega) hl.out.tx hl.out.te).mono ?_
  rintro e w4 ⟨hl4,hq4⟩
  have b4:Below w3.heap.size w3 w4:=qAz hq4
  clear hq4
  have HB:Hid (MtB w4 w.heap.size 30 m v):=Bx.later HB.out b4
  have HR:Hid (MtR w4 m v):=HR.out.stays b4
  have HL:Hid (Below w.heap.size w w4):=qAa HL.out b4
  clear b4
  rcases hl4 with rfl|⟨z4,rfl,hz4⟩
  · go_wp2_with fail
    go_ret
    exact⟨.inl rfl,HL.out⟩
  have E4:Hid _:=hz4
  have k4:z4≤1048576:=by have:=hz4.out.1;omega
  have hd4:decide ((z4:Int)<0)=false:=by simp
  clear hz4
  obtain⟨⟨c0,c1,c2,c3,c4,c5⟩,⟨c6,c7,c8,c9⟩,c10,c11,c12,c13,c14,c15⟩:=HB.out.cells
  go_wp2_with fail
  clear hd4 c0 c1 c2 c3 c4 c5 c6 c7 c8 c9 c10 c11 c12 c13 c14 c15
  refine(szTok_left m.la.c m.la.r m.la.q m.la.a m.la.b v.ws.a v.ws.n v.ws.c z4 _ (by omega) (by have:=LEN.out.2.2;have:=hl.out.ws;omega)).mono ?_
  rintro e w5 ⟨hl5,b5⟩
  have HB:Hid (MtB w5 w.heap.size 30 m v):=Bx.later HB.out b5
  have HR:Hid (MtR w5 m v):=HR.out.stays b5
  have HL:Hid (Below w.heap.size w w5):=qAa HL.out b5
  clear b5
  rcases hl5 with rfl|⟨z5,rfl,hz5⟩
  · go_wp2_with fail
    go_ret
    exact⟨.inl rfl,HL.out⟩
  have E5:Hid _:=hz5
  have k5:z5≤1048576:=by omega
  have hd5:decide ((z5:Int)<0)=false:=by simp
  clear hz5
  obtain⟨⟨c0,c1,c2,c3,c4,c5⟩,⟨c6,c7,c8,c9⟩,c10,c11,c12,c13,c14,c15⟩:=HB.out.cells
  go_wp2_with fail
  go_ret
  obtain⟨q1,q3,q5⟩:=LEN.out
  have e1:=E1.out
  have e2:=E2.out
  have e3:=E3.out
  have e4:=E4.out
  have e5:=E5.out
  exact⟨.inr ⟨z5,rfl,⟨by omega,by omega,by omega,by omega,by omega,e2.2,e4.2,by omega⟩,by omega⟩,HL.out⟩
/-- a member's lists lie there, whoever made them. -/
structure MtP (w:World) (m:Mt) (v:Mv):Prop where
  ms:OwnI w 0 v.ms.v m.ms
  its:SlI w 0 v.its.v m.its
  lv:OwnI w 0 v.lv.v m.lv
  tx:OwnS w 0 v.tx.v m.tx
  ws:OwnI w 0 v.ws.v m.la.ws
theorem MtO.p{w:World}{B:Nat}{m:Mt}{v:Mv}(h:MtO w B m v):MtP w m v:=⟨h.ms.down (Nat.zero_le _),h.its.down (Nat.zero_le _),h.lv.down (Nat.zero_le _),h.tx.down (Nat.zero_le _),h.ws.down (Nat.zero_le _)⟩
theorem MtP.r{w:World}{m:Mt}{v:Mv}(h:MtP w m v):MtR w m v:=⟨h.ms.ri,h.its.rit,h.lv.ri,h.tx.rt,h.ws.ri⟩
theorem MtP.keep{w w':World}{m:Mt}{v:Mv}(h:MtP w m v)(hk: ∀k,v.own k→k<w.heap.size→w'.heap[k]? =w.heap[k]?):MtP w' m v:=
  ⟨h.ms.keep fun k a b=>hk k (.inl a) b,h.its.keep fun k a b=>hk k (.inr (.inl a)) b,h.lv.keep fun k a b=>hk k (.inr (.inr (.inl a))) b,h.tx.keep' fun k a b=>hk k (.inr (.inr (.inr (.inl a)))) b,h.ws.keep fun k a b=>hk k (.inr (.inr (.inr (.inr a)))) b⟩
theorem MtP.later{w w':World}{m:Mt}{v:Mv}(h:MtP w m v)(hb:Below w.heap.size w w'):MtP w' m v:=h.keep fun k _ hk=>hb.block k hk
theorem Pl.OwnI.sv{w:World}{B:Nat}{v:Value}{xs:List Int}(h:OwnI w B v xs): ∃s:Sv,v=.slice s.a s.n s.c:=by obtain⟨a,c,h1⟩:=h.form;exact⟨⟨a,xs.length,c⟩,h1⟩
theorem Pl.OwnS.sv{w:World}{B:Nat}{v:Value}{xs:List ByteArray}(h:OwnS w B v xs): ∃s:Sv,v=.slice s.a s.n s.c:=by obtain⟨a,c,h1⟩:=h.form;exact⟨⟨a,xs.length,c⟩,h1⟩
theorem SlI.sv{w:World}{B:Nat}{v:Value}{xs:List It}(h:SlI w B v xs): ∃s:Sv,v=.slice s.a s.n s.c:=by obtain⟨a,c,h1⟩:=Sl.form h;exact⟨⟨a,xs.length,c⟩,h1⟩
theorem spCopyTok_s(c r q a b:Int)(s:Sv)(ws:List Int)(w:World)(h:Hid (OwnI w 0 s.v ws))(hl:ws.length≤1048576):
    Calls Tryz.prog 108 #[.agg #[.int .i64 c,.int .i64 r,.int .i64 q,.int .i64 a,.int .i64 b,.slice s.a s.n s.c]] w fun e w'=>∃u:Sv,e=.returned (.agg #[.int .i64 c,.int .i64 r,.int .i64 q,.int .i64 a,.int .i64 b,.slice u.a u.n u.c])∧OwnI w' w.heap.size u.v ws∧Below w.heap.size w w':=
  (spCopyTok c r q a b s.v ws 0 w h hl).mono fun e w' ⟨v,x,y,z⟩=>by obtain⟨u,rfl⟩:=y.sv;exact⟨u,x,y,z⟩
theorem copyTok_s(c r q a b:Int)(s:Sv)(ws:List Int)(w:World)(h:Hid (OwnI w 0 s.v ws))(hl:ws.length≤1048576):
    Calls Tryz.prog 119 #[.agg #[.int .i64 c,.int .i64 r,.int .i64 q,.int .i64 a,.int .i64 b,.slice s.a s.n s.c]] w fun e w'=>∃u:Sv,e=.returned (.agg #[.int .i64 c,.int .i64 r,.int .i64 q,.int .i64 a,.int .i64 b,.slice u.a u.n u.c])∧OwnI w' w.heap.size u.v ws∧Below w.heap.size w w':=
  (copyTok c r q a b s.v ws 0 w h hl).mono fun e w' ⟨v,x,y,z⟩=>by obtain⟨u,rfl⟩:=y.sv;exact⟨u,x,y,z⟩
theorem tenCopy_any(m:Mt)(v:Mv)(w:World)(h:Hid (MtP w m v))(hs:Hid (MtS m)):
    Calls Tryz.prog 65 #[.agg #[.int .i64 m.id,.int .i64 m.rid,.slice v.ms.a v.ms.n v.ms.c,.slice v.its.a v.its.n v.its.c,.slice v.lv.a v.lv.n v.lv.c,.slice v.tx.a v.tx.n v.tx.c,.int .i64 m.rd,.int .i64 m.se,.int .i64 m.li,.int .i64 m.he,.int .i64 m.la.c,.int .i64 m.la.r,.int .i64 m.la.q,.int .i64 m.la.a,.int .i64 m.la.b,.slice v.ws.a v.ws.n v.ws.c]] w fun e w'=>∃u:Mv,e=.returned (.agg #[.int .i64 m.id,.int .i64 m.rid,.slice u.ms.a u.ms.n u.ms.c,.slice u.its.a u.its.n u.its.c,.slice u.lv.a u.lv.n u.lv.c,.slice u.tx.a u.tx.n u.tx.c,.int .i64 m.rd,.int .i64 m.se,.int .i64 m.li,.int .i64 m.he,.int .i64 m.la.c,.int .i64 m.la.r,.int .i64 m.la.q,.int .i64 m.la.a,.int .i64 m.la.b,.slice u.ws.a u.ws.n u.ws.c])∧MtO w' w.heap.size m u∧Below w.heap.size w w':=by
  have hn1:(w.alloc (.cells #[.int .i64 m.id,.int .i64 m.rid,.slice v.ms.a v.ms.n v.ms.c,.slice v.its.a v.its.n v.its.c,.slice v.lv.a v.lv.n v.lv.c,.slice v.tx.a v.tx.n v.tx.c,.int .i64 m.rd,.int .i64 m.se,.int .i64 m.li,.int .i64 m.he,.int .i64 m.la.c,.int .i64 m.la.r,.int .i64 m.la.q,.int .i64 m.la.a,.int .i64 m.la.b,.slice v.ws.a v.ws.n v.ws.c] 41)).heap.size=w.heap.size+1:=by simp
  have HA:Hid (MtB ((w.alloc (.cells #[.int .i64 m.id,.int .i64 m.rid,.slice v.ms.a v.ms.n v.ms.c,.slice v.its.a v.its.n v.its.c,.slice v.lv.a v.lv.n v.lv.c,.slice v.tx.a v.tx.n v.tx.c,.int .i64 m.rd,.int .i64 m.se,.int .i64 m.li,.int .i64 m.he,.int .i64 m.la.c,.int .i64 m.la.r,.int .i64 m.la.q,.int .i64 m.la.a,.int .i64 m.la.b,.slice v.ws.a v.ws.n v.ws.c] 41)).alloc (.cells #[.int .i64 0,.int .i64 0,.slice none 0 0,.slice none 0 0,.slice none 0 0,.slice none 0 0,.int .i64 0,.int .i64 0,.int .i64 0,.int .i64 0,.int .i64 0,.int .i64 0,.int .i64 0,.int .i64 0,.int .i64 0,.slice none 0 0] 41)) w.heap.size 41 m v):=by
    have h:=Bx.new w 41 [.int .i64 m.id,.int .i64 m.rid,.slice v.ms.a v.ms.n v.ms.c,.slice v.its.a v.its.n v.its.c,.slice v.lv.a v.lv.n v.lv.c,.slice v.tx.a v.tx.n v.tx.c,.int .i64 m.rd,.int .i64 m.se,.int .i64 m.li,.int .i64 m.he,.int .i64 m.la.c,.int .i64 m.la.r,.int .i64 m.la.q,.int .i64 m.la.a,.int .i64 m.la.b,.slice v.ws.a v.ws.n v.ws.c]
    exact h.stays (B:=w.heap.size+1) ((Below.refl _ _).alloc (by rw[hn1];exact Nat.le_refl _) _) (by omega)
  have HR:Hid (Bx ((w.alloc (.cells #[.int .i64 m.id,.int .i64 m.rid,.slice v.ms.a v.ms.n v.ms.c,.slice v.its.a v.its.n v.its.c,.slice v.lv.a v.lv.n v.lv.c,.slice v.tx.a v.tx.n v.tx.c,.int .i64 m.rd,.int .i64 m.se,.int .i64 m.li,.int .i64 m.he,.int .i64 m.la.c,.int .i64 m.la.r,.int .i64 m.la.q,.int .i64 m.la.a,.int .i64 m.la.b,.slice v.ws.a v.ws.n v.ws.c] 41)).alloc (.cells #[.int .i64 0,.int .i64 0,.slice none 0 0,.slice none 0 0,.slice none 0 0,.slice none 0 0,.int .i64 0,.int .i64 0,.int .i64 0,.int .i64 0,.int .i64 0,.int .i64 0,.int .i64 0,.int .i64 0,.int .i64 0,.slice none 0 0] 41)) (w.heap.size+1) 41 [.int .i64 0,.int .i64 0,.slice none 0 0,.slice none 0 0,.slice none 0 0,.slice none 0 0,.int .i64 0,.int .i64 0,.int .i64 0,.int .i64 0,.int .i64 0,.int .i64 0,.int .i64 0,.int .i64 0,.int .i64 0,.slice none 0 0]):=by
    have h:=Bx.new (w.alloc (.cells #[.int .i64 m.id,.int .i64 m.rid,.slice v.ms.a v.ms.n v.ms.c,.slice v.its.a v.its.n v.its.c,.slice v.lv.a v.lv.n v.lv.c,.slice v.tx.a v.tx.n v.tx.c,.int .i64 m.rd,.int .i64 m.se,.int .i64 m.li,.int .i64 m.he,.int .i64 m.la.c,.int .i64 m.la.r,.int .i64 m.la.q,.int .i64 m.la.a,.int .i64 m.la.b,.slice v.ws.a v.ws.n v.ws.c] 41)) 41 [.int .i64 0,.int .i64 0,.slice none 0 0,.slice none 0 0,.slice none 0 0,.slice none 0 0,.int .i64 0,.int .i64 0,.int .i64 0,.int .i64 0,.int .i64 0,.int .i64 0,.int .i64 0,.int .i64 0,.int .i64 0,.slice none 0 0]
    rw[hn1]at h
    exact h
  have HB:Hid (Below w.heap.size w ((w.alloc (.cells #[.int .i64 m.id,.int .i64 m.rid,.slice v.ms.a v.ms.n v.ms.c,.slice v.its.a v.its.n v.its.c,.slice v.lv.a v.lv.n v.lv.c,.slice v.tx.a v.tx.n v.tx.c,.int .i64 m.rd,.int .i64 m.se,.int .i64 m.li,.int .i64 m.he,.int .i64 m.la.c,.int .i64 m.la.r,.int .i64 m.la.q,.int .i64 m.la.a,.int .i64 m.la.b,.slice v.ws.a v.ws.n v.ws.c] 41)).alloc (.cells #[.int .i64 0,.int .i64 0,.slice none 0 0,.slice none 0 0,.slice none 0 0,.slice none 0 0,.int .i64 0,.int .i64 0,.int .i64 0,.int .i64 0,.int .i64 0,.int .i64 0,.int .i64 0,.int .i64 0,.int .i64 0,.slice none 0 0] 41))):=((Below.refl _ _).alloc (Nat.le_refl _) _).alloc (by simp) _
  clear hn1
  go_enter Tryz.func65,Tryz.ntmps65
  go_wp2_with (first|(refine qCp _ _ _ rfl ?_))
  generalize (w.alloc (.cells #[.int .i64 m.id,.int .i64 m.rid,.slice v.ms.a v.ms.n v.ms.c,.slice v.its.a v.its.n v.its.c,.slice v.lv.a v.lv.n v.lv.c,.slice v.tx.a v.tx.n v.tx.c,.int .i64 m.rd,.int .i64 m.se,.int .i64 m.li,.int .i64 m.he,.int .i64 m.la.c,.int .i64 m.la.r,.int .i64 m.la.q,.int .i64 m.la.a,.int .i64 m.la.b,.slice v.ws.a v.ws.n v.ws.c] 41)).alloc (.cells #[.int .i64 0,.int .i64 0,.slice none 0 0,.slice none 0 0,.slice none 0 0,.slice none 0 0,.int .i64 0,.int .i64 0,.int .i64 0,.int .i64 0,.int .i64 0,.int .i64 0,.int .i64 0,.int .i64 0,.int .i64 0,.slice none 0 0] 41)=W at *
  refine Stp.go ?_
  have zB1:w.heap.size≤W.heap.size:=HB.out.size
  have HA2:Hid (Bx (W.alloc (.cells #[] 3)) w.heap.size 41 [.int .i64 m.id,.int .i64 m.rid,.slice v.ms.a v.ms.n v.ms.c,.slice v.its.a v.its.n v.its.c,.slice v.lv.a v.lv.n v.lv.c,.slice v.tx.a v.tx.n v.tx.c,.int .i64 m.rd,.int .i64 m.se,.int .i64 m.li,.int .i64 m.he,.int .i64 m.la.c,.int .i64 m.la.r,.int .i64 m.la.q,.int .i64 m.la.a,.int .i64 m.la.b,.slice v.ws.a v.ws.n v.ws.c]):=HA.out.later ((Below.refl _ _).alloc (Nat.le_refl _) _)
  have SR:Hid (RI (W.alloc (.cells #[] 3)) (.slice v.ms.a v.ms.n v.ms.c) m.ms):=(h.out.ms.ri).stays (HB.out.trans (((Below.refl _ _).alloc (Nat.le_refl _) _).mono zB1))
  have OW:Hid (OwnI (W.alloc (.cells #[] 3)) W.heap.size (.slice (some ⟨W.heap.size,0,none⟩) 0 0) []):=OwnI.made W W.heap.size (Nat.le_refl _)
  go_wp2_with (first|(refine qBe rfl 22 _ rfl w.heap.size 2 rfl 41 _ HA2.out (.slice v.ms.a v.ms.n v.ms.c) rfl _ Tryz.underlying22 rfl ?_)|(at_builtin;refine qBn rfl _ _ 22 rfl Tryz.underlying22 Tryz.info3' W.heap.size (.slice (some ⟨W.heap.size,0,none⟩) 0 0) [] rfl OW.out (.slice v.ms.a v.ms.n v.ms.c) m.ms rfl SR.out (by have:=hs.out.ms;simp;omega) (Nat.le_of_lt (by simp)) (fun h=>by cases h) ?_;intro v1 w1 ho hg;have Xms:Hid (OwnI w1 W.heap.size v1 m.ms):=ho;have G1:Hid ((W.alloc (.cells #[] 3)).grownBy w1 (some W.heap.size)):=hg;clear ho hg;refine Stp.here ?_))
  refine Stp.go ?_
  obtain⟨ums,hf1⟩:=Xms.out.sv
  subst hf1
  have K1a:Hid (KeepBut w.heap.size W w1):=qAv G1.out
  have HA:Hid (Bx w1 w.heap.size 41 [.int .i64 m.id,.int .i64 m.rid,.slice v.ms.a v.ms.n v.ms.c,.slice v.its.a v.its.n v.its.c,.slice v.lv.a v.lv.n v.lv.c,.slice v.tx.a v.tx.n v.tx.c,.int .i64 m.rd,.int .i64 m.se,.int .i64 m.li,.int .i64 m.he,.int .i64 m.la.c,.int .i64 m.la.r,.int .i64 m.la.q,.int .i64 m.la.a,.int .i64 m.la.b,.slice v.ws.a v.ws.n v.ws.c]):=HA.out.afterGrown G1.out
  have HR:Hid (Bx w1 (w.heap.size+1) 41 [.int .i64 0,.int .i64 0,.slice none 0 0,.slice none 0 0,.slice none 0 0,.slice none 0 0,.int .i64 0,.int .i64 0,.int .i64 0,.int .i64 0,.int .i64 0,.int .i64 0,.int .i64 0,.int .i64 0,.int .i64 0,.slice none 0 0]):=HR.out.afterGrown G1.out
  have HB:Hid (Below w.heap.size w w1):=qBs HB.out HB.out.size G1.out
  clear HA2 SR OW G1
  go_wp2_with (first|(refine qAg rfl 22 _ _ rfl w.heap.size 2 rfl 41 _ HA.out (.slice ums.a ums.n ums.c) rfl (by simp) rfl Tryz.sizeNs [.int .i64 m.id,.int .i64 m.rid,.slice ums.a ums.n ums.c,.slice v.its.a v.its.n v.its.c,.slice v.lv.a v.lv.n v.lv.c,.slice v.tx.a v.tx.n v.tx.c,.int .i64 m.rd,.int .i64 m.se,.int .i64 m.li,.int .i64 m.he,.int .i64 m.la.c,.int .i64 m.la.r,.int .i64 m.la.q,.int .i64 m.la.a,.int .i64 m.la.b,.slice v.ws.a v.ws.n v.ws.c] rfl ?_;intro s1 OB TB;refine Stp.here ?_))
  refine Stp.go ?_
  have BX1:Hid (Bx w1 w.heap.size 41 [.int .i64 m.id,.int .i64 m.rid,.slice v.ms.a v.ms.n v.ms.c,.slice v.its.a v.its.n v.its.c,.slice v.lv.a v.lv.n v.lv.c,.slice v.tx.a v.tx.n v.tx.c,.int .i64 m.rd,.int .i64 m.se,.int .i64 m.li,.int .i64 m.he,.int .i64 m.la.c,.int .i64 m.la.r,.int .i64 m.la.q,.int .i64 m.la.a,.int .i64 m.la.b,.slice v.ws.a v.ws.n v.ws.c]):=HA.out
  have K1b:Hid (KeepBut w.heap.size w1 s1):=TB.keep
  have HR:Hid (Bx s1 (w.heap.size+1) 41 [.int .i64 0,.int .i64 0,.slice none 0 0,.slice none 0 0,.slice none 0 0,.slice none 0 0,.int .i64 0,.int .i64 0,.int .i64 0,.int .i64 0,.int .i64 0,.int .i64 0,.int .i64 0,.int .i64 0,.int .i64 0,.slice none 0 0]):=HR.out.turn TB (by omega)
  have HB:Hid (Below w.heap.size w s1):=HB.out.trans (TB.below (Nat.le_refl _))
  have HA:Hid (Bx s1 w.heap.size 41 [.int .i64 m.id,.int .i64 m.rid,.slice ums.a ums.n ums.c,.slice v.its.a v.its.n v.its.c,.slice v.lv.a v.lv.n v.lv.c,.slice v.tx.a v.tx.n v.tx.c,.int .i64 m.rd,.int .i64 m.se,.int .i64 m.li,.int .i64 m.he,.int .i64 m.la.c,.int .i64 m.la.r,.int .i64 m.la.q,.int .i64 m.la.a,.int .i64 m.la.b,.slice v.ws.a v.ws.n v.ws.c]):=OB
  clear OB TB
  have zB2:w.heap.size≤s1.heap.size:=HB.out.size
  have HA2:Hid (Bx (s1.alloc (.cells #[] 108)) w.heap.size 41 [.int .i64 m.id,.int .i64 m.rid,.slice ums.a ums.n ums.c,.slice v.its.a v.its.n v.its.c,.slice v.lv.a v.lv.n v.lv.c,.slice v.tx.a v.tx.n v.tx.c,.int .i64 m.rd,.int .i64 m.se,.int .i64 m.li,.int .i64 m.he,.int .i64 m.la.c,.int .i64 m.la.r,.int .i64 m.la.q,.int .i64 m.la.a,.int .i64 m.la.b,.slice v.ws.a v.ws.n v.ws.c]):=HA.out.later ((Below.refl _ _).alloc (Nat.le_refl _) _)
  have SR:Hid (RIt (s1.alloc (.cells #[] 108)) (.slice v.its.a v.its.n v.its.c) m.its):=(h.out.its.rit).stays (HB.out.trans (((Below.refl _ _).alloc (Nat.le_refl _) _).mono zB2))
  have OW:Hid (SlI (s1.alloc (.cells #[] 108)) s1.heap.size (.slice (some ⟨s1.heap.size,0,none⟩) 0 0) []):=SlI.made s1 s1.heap.size (Nat.le_refl _)
  go_wp2_with (first|(refine qBe rfl 38 _ rfl w.heap.size 3 rfl 41 _ HA2.out (.slice v.its.a v.its.n v.its.c) rfl _ Tryz.underlying38 rfl ?_)|(at_builtin;refine qEa rfl _ _ 38 rfl Tryz.underlying38 s1.heap.size (.slice (some ⟨s1.heap.size,0,none⟩) 0 0) [] rfl OW.out (.slice v.its.a v.its.n v.its.c) m.its rfl SR.out (by have:=hs.out.its;simp;omega) (Nat.le_of_lt (by simp)) ?_;intro v2 w2 ho hg _;have Xits:Hid (SlI w2 s1.heap.size v2 m.its):=ho;have G2:Hid ((s1.alloc (.cells #[] 108)).grownBy w2 (some s1.heap.size)):=hg;clear ho hg;refine Stp.here ?_))
  refine Stp.go ?_
  obtain⟨uits,hf2⟩:=Xits.out.sv
  subst hf2
  have K2a:Hid (KeepBut w.heap.size s1 w2):=qAv G2.out
  have HA:Hid (Bx w2 w.heap.size 41 [.int .i64 m.id,.int .i64 m.rid,.slice ums.a ums.n ums.c,.slice v.its.a v.its.n v.its.c,.slice v.lv.a v.lv.n v.lv.c,.slice v.tx.a v.tx.n v.tx.c,.int .i64 m.rd,.int .i64 m.se,.int .i64 m.li,.int .i64 m.he,.int .i64 m.la.c,.int .i64 m.la.r,.int .i64 m.la.q,.int .i64 m.la.a,.int .i64 m.la.b,.slice v.ws.a v.ws.n v.ws.c]):=HA.out.afterGrown G2.out
  have HR:Hid (Bx w2 (w.heap.size+1) 41 [.int .i64 0,.int .i64 0,.slice none 0 0,.slice none 0 0,.slice none 0 0,.slice none 0 0,.int .i64 0,.int .i64 0,.int .i64 0,.int .i64 0,.int .i64 0,.int .i64 0,.int .i64 0,.int .i64 0,.int .i64 0,.slice none 0 0]):=HR.out.afterGrown G2.out
  have HB:Hid (Below w.heap.size w w2):=qBs HB.out HB.out.size G2.out
  clear HA2 SR OW G2
  go_wp2_with (first|(refine qAg rfl 38 _ _ rfl w.heap.size 3 rfl 41 _ HA.out (.slice uits.a uits.n uits.c) rfl (by simp) rfl Tryz.sizeIs [.int .i64 m.id,.int .i64 m.rid,.slice ums.a ums.n ums.c,.slice uits.a uits.n uits.c,.slice v.lv.a v.lv.n v.lv.c,.slice v.tx.a v.tx.n v.tx.c,.int .i64 m.rd,.int .i64 m.se,.int .i64 m.li,.int .i64 m.he,.int .i64 m.la.c,.int .i64 m.la.r,.int .i64 m.la.q,.int .i64 m.la.a,.int .i64 m.la.b,.slice v.ws.a v.ws.n v.ws.c] rfl ?_;intro s2 OB TB;refine Stp.here ?_))
  refine Stp.go ?_
  have BX2:Hid (Bx w2 w.heap.size 41 [.int .i64 m.id,.int .i64 m.rid,.slice ums.a ums.n ums.c,.slice v.its.a v.its.n v.its.c,.slice v.lv.a v.lv.n v.lv.c,.slice v.tx.a v.tx.n v.tx.c,.int .i64 m.rd,.int .i64 m.se,.int .i64 m.li,.int .i64 m.he,.int .i64 m.la.c,.int .i64 m.la.r,.int .i64 m.la.q,.int .i64 m.la.a,.int .i64 m.la.b,.slice v.ws.a v.ws.n v.ws.c]):=HA.out
  have K2b:Hid (KeepBut w.heap.size w2 s2):=TB.keep
  have HR:Hid (Bx s2 (w.heap.size+1) 41 [.int .i64 0,.int .i64 0,.slice none 0 0,.slice none 0 0,.slice none 0 0,.slice none 0 0,.int .i64 0,.int .i64 0,.int .i64 0,.int .i64 0,.int .i64 0,.int .i64 0,.int .i64 0,.int .i64 0,.int .i64 0,.slice none 0 0]):=HR.out.turn TB (by omega)
  have HB:Hid (Below w.heap.size w s2):=HB.out.trans (TB.below (Nat.le_refl _))
  have HA:Hid (Bx s2 w.heap.size 41 [.int .i64 m.id,.int .i64 m.rid,.slice ums.a ums.n ums.c,.slice uits.a uits.n uits.c,.slice v.lv.a v.lv.n v.lv.c,.slice v.tx.a v.tx.n v.tx.c,.int .i64 m.rd,.int .i64 m.se,.int .i64 m.li,.int .i64 m.he,.int .i64 m.la.c,.int .i64 m.la.r,.int .i64 m.la.q,.int .i64 m.la.a,.int .i64 m.la.b,.slice v.ws.a v.ws.n v.ws.c]):=OB
  clear OB TB
  have zB3:w.heap.size≤s2.heap.size:=HB.out.size
  have HA2:Hid (Bx (s2.alloc (.cells #[] 3)) w.heap.size 41 [.int .i64 m.id,.int .i64 m.rid,.slice ums.a ums.n ums.c,.slice uits.a uits.n uits.c,.slice v.lv.a v.lv.n v.lv.c,.slice v.tx.a v.tx.n v.tx.c,.int .i64 m.rd,.int .i64 m.se,.int .i64 m.li,.int .i64 m.he,.int .i64 m.la.c,.int .i64 m.la.r,.int .i64 m.la.q,.int .i64 m.la.a,.int .i64 m.la.b,.slice v.ws.a v.ws.n v.ws.c]):=HA.out.later ((Below.refl _ _).alloc (Nat.le_refl _) _)
  have SR:Hid (RI (s2.alloc (.cells #[] 3)) (.slice v.lv.a v.lv.n v.lv.c) m.lv):=(h.out.lv.ri).stays (HB.out.trans (((Below.refl _ _).alloc (Nat.le_refl _) _).mono zB3))
  have OW:Hid (OwnI (s2.alloc (.cells #[] 3)) s2.heap.size (.slice (some ⟨s2.heap.size,0,none⟩) 0 0) []):=OwnI.made s2 s2.heap.size (Nat.le_refl _)
  go_wp2_with (first|(refine qBe rfl 22 _ rfl w.heap.size 4 rfl 41 _ HA2.out (.slice v.lv.a v.lv.n v.lv.c) rfl _ Tryz.underlying22 rfl ?_)|(at_builtin;refine qBn rfl _ _ 22 rfl Tryz.underlying22 Tryz.info3' s2.heap.size (.slice (some ⟨s2.heap.size,0,none⟩) 0 0) [] rfl OW.out (.slice v.lv.a v.lv.n v.lv.c) m.lv rfl SR.out (by have:=hs.out.lv;simp;omega) (Nat.le_of_lt (by simp)) (fun h=>by cases h) ?_;intro v3 w3 ho hg;have Xlv:Hid (OwnI w3 s2.heap.size v3 m.lv):=ho;have G3:Hid ((s2.alloc (.cells #[] 3)).grownBy w3 (some s2.heap.size)):=hg;clear ho hg;refine Stp.here ?_))
  refine Stp.go ?_
  obtain⟨ulv,hf3⟩:=Xlv.out.sv
  subst hf3
  have K3a:Hid (KeepBut w.heap.size s2 w3):=qAv G3.out
  have HA:Hid (Bx w3 w.heap.size 41 [.int .i64 m.id,.int .i64 m.rid,.slice ums.a ums.n ums.c,.slice uits.a uits.n uits.c,.slice v.lv.a v.lv.n v.lv.c,.slice v.tx.a v.tx.n v.tx.c,.int .i64 m.rd,.int .i64 m.se,.int .i64 m.li,.int .i64 m.he,.int .i64 m.la.c,.int .i64 m.la.r,.int .i64 m.la.q,.int .i64 m.la.a,.int .i64 m.la.b,.slice v.ws.a v.ws.n v.ws.c]):=HA.out.afterGrown G3.out
  have HR:Hid (Bx w3 (w.heap.size+1) 41 [.int .i64 0,.int .i64 0,.slice none 0 0,.slice none 0 0,.slice none 0 0,.slice none 0 0,.int .i64 0,.int .i64 0,.int .i64 0,.int .i64 0,.int .i64 0,.int .i64 0,.int .i64 0,.int .i64 0,.int .i64 0,.slice none 0 0]):=HR.out.afterGrown G3.out
  have HB:Hid (Below w.heap.size w w3):=qBs HB.out HB.out.size G3.out
  clear HA2 SR OW G3
  go_wp2_with (first|(refine qAg rfl 22 _ _ rfl w.heap.size 4 rfl 41 _ HA.out (.slice ulv.a ulv.n ulv.c) rfl (by simp) rfl Tryz.sizeNs [.int .i64 m.id,.int .i64 m.rid,.slice ums.a ums.n ums.c,.slice uits.a uits.n uits.c,.slice ulv.a ulv.n ulv.c,.slice v.tx.a v.tx.n v.tx.c,.int .i64 m.rd,.int .i64 m.se,.int .i64 m.li,.int .i64 m.he,.int .i64 m.la.c,.int .i64 m.la.r,.int .i64 m.la.q,.int .i64 m.la.a,.int .i64 m.la.b,.slice v.ws.a v.ws.n v.ws.c] rfl ?_;intro s3 OB TB;refine Stp.here ?_))
  refine Stp.go ?_
  have BX3:Hid (Bx w3 w.heap.size 41 [.int .i64 m.id,.int .i64 m.rid,.slice ums.a ums.n ums.c,.slice uits.a uits.n uits.c,.slice v.lv.a v.lv.n v.lv.c,.slice v.tx.a v.tx.n v.tx.c,.int .i64 m.rd,.int .i64 m.se,.int .i64 m.li,.int .i64 m.he,.int .i64 m.la.c,.int .i64 m.la.r,.int .i64 m.la.q,.int .i64 m.la.a,.int .i64 m.la.b,.slice v.ws.a v.ws.n v.ws.c]):=HA.out
  have K3b:Hid (KeepBut w.heap.size w3 s3):=TB.keep
  have HR:Hid (Bx s3 (w.heap.size+1) 41 [.int .i64 0,.int .i64 0,.slice none 0 0,.slice none 0 0,.slice none 0 0,.slice none 0 0,.int .i64 0,.int .i64 0,.int .i64 0,.int .i64 0,.int .i64 0,.int .i64 0,.int .i64 0,.int .i64 0,.int .i64 0,.slice none 0 0]):=HR.out.turn TB (by omega)
  have HB:Hid (Below w.heap.size w s3):=HB.out.trans (TB.below (Nat.le_refl _))
  have HA:Hid (Bx s3 w.heap.size 41 [.int .i64 m.id,.int .i64 m.rid,.slice ums.a ums.n ums.c,.slice uits.a uits.n uits.c,.slice ulv.a ulv.n ulv.c,.slice v.tx.a v.tx.n v.tx.c,.int .i64 m.rd,.int .i64 m.se,.int .i64 m.li,.int .i64 m.he,.int .i64 m.la.c,.int .i64 m.la.r,.int .i64 m.la.q,.int .i64 m.la.a,.int .i64 m.la.b,.slice v.ws.a v.ws.n v.ws.c]):=OB
  clear OB TB
  have zB4:w.heap.size≤s3.heap.size:=HB.out.size
  have HA2:Hid (Bx (s3.alloc (.cells #[] 9)) w.heap.size 41 [.int .i64 m.id,.int .i64 m.rid,.slice ums.a ums.n ums.c,.slice uits.a uits.n uits.c,.slice ulv.a ulv.n ulv.c,.slice v.tx.a v.tx.n v.tx.c,.int .i64 m.rd,.int .i64 m.se,.int .i64 m.li,.int .i64 m.he,.int .i64 m.la.c,.int .i64 m.la.r,.int .i64 m.la.q,.int .i64 m.la.a,.int .i64 m.la.b,.slice v.ws.a v.ws.n v.ws.c]):=HA.out.later ((Below.refl _ _).alloc (Nat.le_refl _) _)
  have SR:Hid (RT (s3.alloc (.cells #[] 9)) (.slice v.tx.a v.tx.n v.tx.c) m.tx):=(h.out.tx.rt).stays (HB.out.trans (((Below.refl _ _).alloc (Nat.le_refl _) _).mono zB4))
  have OW:Hid (OwnS (s3.alloc (.cells #[] 9)) s3.heap.size (.slice (some ⟨s3.heap.size,0,none⟩) 0 0) []):=OwnS.made s3 s3.heap.size (Nat.le_refl _)
  go_wp2_with (first|(refine qBe rfl 26 _ rfl w.heap.size 5 rfl 41 _ HA2.out (.slice v.tx.a v.tx.n v.tx.c) rfl _ Tryz.underlying26 rfl ?_)|(at_builtin;refine wpList_catT rfl _ _ 26 rfl Tryz.underlying26 Tryz.info9 s3.heap.size (.slice (some ⟨s3.heap.size,0,none⟩) 0 0) [] rfl OW.out (.slice v.tx.a v.tx.n v.tx.c) m.tx rfl SR.out (by have:=hs.out.tx;simp;omega) (Nat.le_of_lt (by simp)) (fun h=>by cases h) ?_;intro v4 w4 ho hg;have Xtx:Hid (OwnS w4 s3.heap.size v4 m.tx):=ho;have G4:Hid ((s3.alloc (.cells #[] 9)).grownBy w4 (some s3.heap.size)):=hg;clear ho hg;refine Stp.here ?_))
  refine Stp.go ?_
  obtain⟨utx,hf4⟩:=Xtx.out.sv
  subst hf4
  have K4a:Hid (KeepBut w.heap.size s3 w4):=qAv G4.out
  have HA:Hid (Bx w4 w.heap.size 41 [.int .i64 m.id,.int .i64 m.rid,.slice ums.a ums.n ums.c,.slice uits.a uits.n uits.c,.slice ulv.a ulv.n ulv.c,.slice v.tx.a v.tx.n v.tx.c,.int .i64 m.rd,.int .i64 m.se,.int .i64 m.li,.int .i64 m.he,.int .i64 m.la.c,.int .i64 m.la.r,.int .i64 m.la.q,.int .i64 m.la.a,.int .i64 m.la.b,.slice v.ws.a v.ws.n v.ws.c]):=HA.out.afterGrown G4.out
  have HR:Hid (Bx w4 (w.heap.size+1) 41 [.int .i64 0,.int .i64 0,.slice none 0 0,.slice none 0 0,.slice none 0 0,.slice none 0 0,.int .i64 0,.int .i64 0,.int .i64 0,.int .i64 0,.int .i64 0,.int .i64 0,.int .i64 0,.int .i64 0,.int .i64 0,.slice none 0 0]):=HR.out.afterGrown G4.out
  have HB:Hid (Below w.heap.size w w4):=qBs HB.out HB.out.size G4.out
  clear HA2 SR OW G4
  go_wp2_with (first|(refine qAg rfl 26 _ _ rfl w.heap.size 5 rfl 41 _ HA.out (.slice utx.a utx.n utx.c) rfl (by simp) rfl Tryz.sizeTs [.int .i64 m.id,.int .i64 m.rid,.slice ums.a ums.n ums.c,.slice uits.a uits.n uits.c,.slice ulv.a ulv.n ulv.c,.slice utx.a utx.n utx.c,.int .i64 m.rd,.int .i64 m.se,.int .i64 m.li,.int .i64 m.he,.int .i64 m.la.c,.int .i64 m.la.r,.int .i64 m.la.q,.int .i64 m.la.a,.int .i64 m.la.b,.slice v.ws.a v.ws.n v.ws.c] rfl ?_;intro s4 OB TB;refine Stp.here ?_))
  refine Stp.go ?_
  have BX4:Hid (Bx w4 w.heap.size 41 [.int .i64 m.id,.int .i64 m.rid,.slice ums.a ums.n ums.c,.slice uits.a uits.n uits.c,.slice ulv.a ulv.n ulv.c,.slice v.tx.a v.tx.n v.tx.c,.int .i64 m.rd,.int .i64 m.se,.int .i64 m.li,.int .i64 m.he,.int .i64 m.la.c,.int .i64 m.la.r,.int .i64 m.la.q,.int .i64 m.la.a,.int .i64 m.la.b,.slice v.ws.a v.ws.n v.ws.c]):=HA.out
  have K4b:Hid (KeepBut w.heap.size w4 s4):=TB.keep
  have HR:Hid (Bx s4 (w.heap.size+1) 41 [.int .i64 0,.int .i64 0,.slice none 0 0,.slice none 0 0,.slice none 0 0,.slice none 0 0,.int .i64 0,.int .i64 0,.int .i64 0,.int .i64 0,.int .i64 0,.int .i64 0,.int .i64 0,.int .i64 0,.int .i64 0,.slice none 0 0]):=HR.out.turn TB (by omega)
  have HB:Hid (Below w.heap.size w s4):=HB.out.trans (TB.below (Nat.le_refl _))
  have HA:Hid (Bx s4 w.heap.size 41 [.int .i64 m.id,.int .i64 m.rid,.slice ums.a ums.n ums.c,.slice uits.a uits.n uits.c,.slice ulv.a ulv.n ulv.c,.slice utx.a utx.n utx.c,.int .i64 m.rd,.int .i64 m.se,.int .i64 m.li,.int .i64 m.he,.int .i64 m.la.c,.int .i64 m.la.r,.int .i64 m.la.q,.int .i64 m.la.a,.int .i64 m.la.b,.slice v.ws.a v.ws.n v.ws.c]):=OB
  clear OB TB
  have zB5:w.heap.size≤s4.heap.size:=HB.out.size
  go_wp2_with (first|(refine qAb rfl 39 _ rfl w.heap.size 10 rfl 41 _ HA.out [.int .i64 m.la.c,.int .i64 m.la.r,.int .i64 m.la.q,.int .i64 m.la.a,.int .i64 m.la.b,.slice v.ws.a v.ws.n v.ws.c] rfl _ Tryz.underlying39 rfl Tryz.sizeT ?_))
  refine(spCopyTok_s m.la.c m.la.r m.la.q m.la.a m.la.b v.ws m.la.ws _ (h.out.ws.stays HB.out (fun k hk=>(h.out.ws.lt k hk).2)) hs.out.ws).mono ?_
  rintro e w5 ⟨uws,rfl,ho,b⟩
  have Xws:Hid (OwnI w5 s4.heap.size uws.v m.la.ws):=ho
  have K5a:Hid (KeepBut w.heap.size s4 w5):=qBb b
  have HA:Hid (Bx w5 w.heap.size 41 [.int .i64 m.id,.int .i64 m.rid,.slice ums.a ums.n ums.c,.slice uits.a uits.n uits.c,.slice ulv.a ulv.n ulv.c,.slice utx.a utx.n utx.c,.int .i64 m.rd,.int .i64 m.se,.int .i64 m.li,.int .i64 m.he,.int .i64 m.la.c,.int .i64 m.la.r,.int .i64 m.la.q,.int .i64 m.la.a,.int .i64 m.la.b,.slice v.ws.a v.ws.n v.ws.c]):=HA.out.later b
  have HR:Hid (Bx w5 (w.heap.size+1) 41 [.int .i64 0,.int .i64 0,.slice none 0 0,.slice none 0 0,.slice none 0 0,.slice none 0 0,.int .i64 0,.int .i64 0,.int .i64 0,.int .i64 0,.int .i64 0,.int .i64 0,.int .i64 0,.int .i64 0,.int .i64 0,.slice none 0 0]):=HR.out.later b
  have HB:Hid (Below w.heap.size w w5):=qAa HB.out b
  clear ho b
  have BX5:Hid (Bx w5 w.heap.size 41 [.int .i64 m.id,.int .i64 m.rid,.slice ums.a ums.n ums.c,.slice uits.a uits.n uits.c,.slice ulv.a ulv.n ulv.c,.slice utx.a utx.n utx.c,.int .i64 m.rd,.int .i64 m.se,.int .i64 m.li,.int .i64 m.he,.int .i64 m.la.c,.int .i64 m.la.r,.int .i64 m.la.q,.int .i64 m.la.a,.int .i64 m.la.b,.slice v.ws.a v.ws.n v.ws.c]):=HA.out
  go_wp2_with (first|(refine qAf rfl 39 _ _ rfl w.heap.size 10 rfl 41 _ HA.out [.int .i64 m.la.c,.int .i64 m.la.r,.int .i64 m.la.q,.int .i64 m.la.a,.int .i64 m.la.b,.slice uws.a uws.n uws.c] rfl (by simp) Tryz.sizeT rfl [.int .i64 m.id,.int .i64 m.rid,.slice ums.a ums.n ums.c,.slice uits.a uits.n uits.c,.slice ulv.a ulv.n ulv.c,.slice utx.a utx.n utx.c,.int .i64 m.rd,.int .i64 m.se,.int .i64 m.li,.int .i64 m.he,.int .i64 m.la.c,.int .i64 m.la.r,.int .i64 m.la.q,.int .i64 m.la.a,.int .i64 m.la.b,.slice uws.a uws.n uws.c] rfl ?_;intro s5 OB TB;have K5b:Hid (KeepBut w.heap.size w5 s5):=TB.keep;have HR:Hid (Bx s5 (w.heap.size+1) 41 [.int .i64 0,.int .i64 0,.slice none 0 0,.slice none 0 0,.slice none 0 0,.slice none 0 0,.int .i64 0,.int .i64 0,.int .i64 0,.int .i64 0,.int .i64 0,.int .i64 0,.int .i64 0,.int .i64 0,.int .i64 0,.slice none 0 0]):=HR.out.turn TB (by omega);have HB:Hid (Below w.heap.size w s5):=HB.out.trans (TB.below (Nat.le_refl _));have HA:Hid (Bx s5 w.heap.size 41 [.int .i64 m.id,.int .i64 m.rid,.slice ums.a ums.n ums.c,.slice uits.a uits.n uits.c,.slice ulv.a ulv.n ulv.c,.slice utx.a utx.n utx.c,.int .i64 m.rd,.int .i64 m.se,.int .i64 m.li,.int .i64 m.he,.int .i64 m.la.c,.int .i64 m.la.r,.int .i64 m.la.q,.int .i64 m.la.a,.int .i64 m.la.b,.slice uws.a uws.n uws.c]):=OB;clear OB TB)|(refine qAb rfl 41 _ rfl w.heap.size 0 rfl 41 _ HA.out [.int .i64 m.id,.int .i64 m.rid,.slice ums.a ums.n ums.c,.slice uits.a uits.n uits.c,.slice ulv.a ulv.n ulv.c,.slice utx.a utx.n utx.c,.int .i64 m.rd,.int .i64 m.se,.int .i64 m.li,.int .i64 m.he,.int .i64 m.la.c,.int .i64 m.la.r,.int .i64 m.la.q,.int .i64 m.la.a,.int .i64 m.la.b,.slice uws.a uws.n uws.c] rfl _ Tryz.underlying41 rfl Tryz.sizeM ?_)|(refine qAf rfl 41 _ _ rfl (w.heap.size+1) 0 rfl 41 _ HR.out [.int .i64 m.id,.int .i64 m.rid,.slice ums.a ums.n ums.c,.slice uits.a uits.n uits.c,.slice ulv.a ulv.n ulv.c,.slice utx.a utx.n utx.c,.int .i64 m.rd,.int .i64 m.se,.int .i64 m.li,.int .i64 m.he,.int .i64 m.la.c,.int .i64 m.la.r,.int .i64 m.la.q,.int .i64 m.la.a,.int .i64 m.la.b,.slice uws.a uws.n uws.c] rfl (by simp) Tryz.sizeM rfl [.int .i64 m.id,.int .i64 m.rid,.slice ums.a ums.n ums.c,.slice uits.a uits.n uits.c,.slice ulv.a ulv.n ulv.c,.slice utx.a utx.n utx.c,.int .i64 m.rd,.int .i64 m.se,.int .i64 m.li,.int .i64 m.he,.int .i64 m.la.c,.int .i64 m.la.r,.int .i64 m.la.q,.int .i64 m.la.a,.int .i64 m.la.b,.slice uws.a uws.n uws.c] rfl ?_;intro wz RZ TZ))
  have BZ:=HB.out.trans (TZ.below (by omega))
  refine bodyPost_ret (qAw Tryz.results65 (w.heap.size+1) 41 [.int .i64 m.id,.int .i64 m.rid,.slice ums.a ums.n ums.c,.slice uits.a uits.n uits.c,.slice ulv.a ulv.n ulv.c,.slice utx.a utx.n utx.c,.int .i64 m.rd,.int .i64 m.se,.int .i64 m.li,.int .i64 m.he,.int .i64 m.la.c,.int .i64 m.la.r,.int .i64 m.la.q,.int .i64 m.la.a,.int .i64 m.la.b,.slice uws.a uws.n uws.c] _ rfl RZ Tryz.underlying41 rfl Tryz.sizeM) rfl ?_
  have Yms:=(Xms.out.keepb BX1.out ((((K1b.out.trans (K2a.out.trans K2b.out)).trans (K3a.out.trans K3b.out)).trans (K4a.out.trans K4b.out)).trans (K5a.out.trans K5b.out)) (by decide)).past HR.out TZ (by decide)
  have Yits:=(Xits.out.keepb BX2.out (((K2b.out.trans (K3a.out.trans K3b.out)).trans (K4a.out.trans K4b.out)).trans (K5a.out.trans K5b.out)) (by decide)).past HR.out TZ (by decide)
  have Ylv:=(Xlv.out.keepb BX3.out ((K3b.out.trans (K4a.out.trans K4b.out)).trans (K5a.out.trans K5b.out)) (by decide)).past HR.out TZ (by decide)
  have Ytx:=(Xtx.out.keepb BX4.out (K4b.out.trans (K5a.out.trans K5b.out)) (by decide)).past HR.out TZ (by decide)
  have Yws:=(Xws.out.keepb BX5.out K5b.out (by decide)).past HR.out TZ (by decide)
  have ga1:=K1a.out.size
  have gb1:=K1b.out.size
  have ga2:=K2a.out.size
  have gb2:=K2b.out.size
  have ga3:=K3a.out.size
  have gb3:=K3b.out.size
  have ga4:=K4a.out.size
  have gb4:=K4b.out.size
  have ga5:=K5a.out.size
  have gb5:=K5b.out.size
  refine⟨⟨ums,uits,ulv,utx,uws⟩,rfl,⟨Yms.down (by omega),Yits.down (by omega),Ylv.down (by omega),Ytx.down (by omega),Yws.down (by omega),?_,?_,?_⟩,BZ⟩
  · exact fun k h1 h2=>by have:=(Xms.out.lt k h1).2;have:=(Xlv.out.lt k h2).1;omega
  · exact fun k h1 h2=>by have:=(Xms.out.lt k h1).2;have:=(Xws.out.lt k h2).1;omega
  · exact fun k h1 h2=>by have:=(Xlv.out.lt k h1).2;have:=(Xws.out.lt k h2).1;omega
/-- what is on the way. -/
structure Fl where
  to:Int
  tk:Bool
  t:Tok
  x:It
/-- cells of a member, of what is on the way, of a list of lists. -/
def mcel(e:Mt × Mv):List Value:=[.int .i64 e.1.id,.int .i64 e.1.rid,.slice e.2.ms.a e.2.ms.n e.2.ms.c,.slice e.2.its.a e.2.its.n e.2.its.c,.slice e.2.lv.a e.2.lv.n e.2.lv.c,.slice e.2.tx.a e.2.tx.n e.2.tx.c,.int .i64 e.1.rd,.int .i64 e.1.se,.int .i64 e.1.li,.int .i64 e.1.he,.int .i64 e.1.la.c,.int .i64 e.1.la.r,.int .i64 e.1.la.q,.int .i64 e.1.la.a,.int .i64 e.1.la.b,.slice e.2.ws.a e.2.ws.n e.2.ws.c]
def fcel(e:Fl × Sv):List Value:=[.int .i64 e.1.to,.bool e.1.tk,.int .i64 e.1.t.c,.int .i64 e.1.t.r,.int .i64 e.1.t.q,.int .i64 e.1.t.a,.int .i64 e.1.t.b,.slice e.2.a e.2.n e.2.c,.int .i64 e.1.x.1,.int .i64 e.1.x.2.1,.int .i64 e.1.x.2.2.1,.string e.1.x.2.2.2]
def hcel(e:List It × Sv):List Value:=[.slice e.2.a e.2.n e.2.c]
/-- lists of members, of what is on the way, of lists of items, that lie there. -/
def MsP(w:World)(B:Nat)(v:Value)(es:List (Mt × Mv)):Prop:=SlN w 41 16 B v (es.map mcel)∧∀e∈es,MtP w e.1 e.2
def HsP(w:World)(B:Nat)(v:Value)(es:List (List It × Sv)):Prop:=SlN w 38 1 B v (es.map hcel)∧∀e∈es,SlI w 0 e.2.v e.1
/-- a ring at work: its ring, its members, what is on the way, what was heard and said, and the slices. -/
structure Wv where
  rid:Int
  ms:List Int
  mv:Sv
  ma:List (Mt × Mv)
  mav:Sv
  fl:List (Fl × Sv)
  flv:Sv
  he:List (List It × Sv)
  hev:Sv
  sa:List It
  sav:Sv
def Wv.cells(k:Wv):List Value:=[.int .i64 k.rid,.slice k.mv.a k.mv.n k.mv.c,.slice k.mav.a k.mav.n k.mav.c,.slice k.flv.a k.flv.n k.flv.c,.slice k.hev.a k.hev.n k.hev.c,.slice k.sav.a k.sav.n k.sav.c]
section
variable {w w' : World} {B : Nat} {v : Value}
/-- lists stay where a box of another type alone may have turned. -/
theorem MtP.keepb{m:Mt}{u:Mv}{g T:Nat}{cs:List Value}(h:MtP w m u)(hB:Bx w g T cs)(hk:KeepBut g w w')(h3:T≠3)(h9:T≠9)(hi:T≠108):MtP w' m u:=
  ⟨h.ms.keepb hB hk h3,h.its.keepb hB hk hi,h.lv.keepb hB hk h3,h.tx.keepb hB hk h9,h.ws.keepb hB hk h3⟩
theorem MsP.below{es:List (Mt × Mv)}(h:MsP w B v es)(hb:Below w.heap.size w w'):MsP w' B v es:=⟨h.1.below hb,fun e he=>(h.2 e he).later hb⟩
theorem HsP.below{es:List (List It × Sv)}(h:HsP w B v es)(hb:Below w.heap.size w w'):HsP w' B v es:=⟨h.1.below hb,fun e he=>(h.2 e he).below hb⟩
theorem MsP.down{B':Nat}{es:List (Mt × Mv)}(h:MsP w B v es)(hB:B'≤B):MsP w B' v es:=⟨h.1.down hB,h.2⟩
theorem HsP.down{B':Nat}{es:List (List It × Sv)}(h:HsP w B v es)(hB:B'≤B):HsP w B' v es:=⟨h.1.down hB,h.2⟩
end
/-- blocks whose elements are of none of these types stay as they are. -/
structure KeepTy (S:Nat→Prop) (w w':World):Prop where
  os:w'.os=w.os
  tape:w'.tape=w.tape
  output:w'.output=w.output
  size:w.heap.size≤w'.heap.size
  block: ∀k,k<w.heap.size→(∀cs T z,w.heap[k]? =some (.cells cs T z)→¬S T)→w'.heap[k]? =w.heap[k]?
section
variable {S : Nat → Prop} {w w' w'' : World}
theorem KeepTy.refl(S:Nat→Prop)(w:World):KeepTy S w w:=⟨rfl,rfl,rfl,Nat.le_refl _,fun _ _ _=>rfl⟩
theorem KeepTy.trans(h:KeepTy S w w')(k:KeepTy S w' w''):KeepTy S w w'':=
  ⟨k.os.trans h.os,k.tape.trans h.tape,k.output.trans h.output,Nat.le_trans h.size k.size,fun b hb ht=>by
    have h1:=h.block b hb ht
    exact(k.block b (Nat.lt_of_lt_of_le hb h.size) (fun cs T z hc=>ht cs T z (h1 ▸ hc))).trans h1⟩
theorem KeepTy.ofGrown{row:Option Nat}(h:w.grownBy w' row)(hT: ∀k,row=some k→∃cs T z,w.heap[k]? =some (.cells cs T z)∧S T):KeepTy S w w':=
  ⟨h.os,h.tape,h.output,h.size,fun k hk ht=>h.block k hk fun e=>by
    obtain⟨cs,T,z,h1,h2⟩:=hT k e.symm
    exact ht cs T z h1 h2⟩
end
theorem qGy(ao:Option Addr)(cap:Nat)(ts:List ByteArray)(w:World)(hx:Hid (TextsAt w ao ts))(hl:ts.length≤1048576)(hs:Hid (∀x∈ts,x.size≤1048576)):
    Calls Tryz.prog 118 #[.slice ao ts.length cap] w fun e w'=>∃v,e=.returned v∧OwnS w' w.heap.size v ts∧Below w.heap.size w w':=by
  obtain⟨i0,hi,hz0,hz1,hz2⟩:=info_parts Tryz.info9
  obtain⟨W,hmk,own,hgr⟩:=run_make_own (P:=Tryz.prog) w w.heap.size 26 9 i0 _ 1 Tryz.underlying26 hi hz0 hz1 .i64 .i64 ts.length (by rw[hz2];omega) (by unfold maxLen;omega) (Nat.le_refl _)
  have S0:Hid (OwnS W w.heap.size (.slice (some ⟨w.heap.size,0,none⟩) 0 ts.length) []):=own
  have B0:Hid (Below w.heap.size w W):=qFg hgr
  clear own hgr hi hz0 hz1 hz2
  go_enter Tryz.func118,Tryz.ntmps118
  go_wp2
  go_loopw [3,11] (fun v i wr=>∃(k:Nat),k≤ts.length∧i=.int .i64 k∧Hid (OwnS wr w.heap.size v (ts.take k))∧Hid (Below w.heap.size w wr)) (fun _ i _=>ts.length - (intOf i).toNat)
  case atStart=>exact⟨0,Nat.zero_le _,rfl,S0,B0⟩
  case round=>
    clear S0 B0 hmk
    obtain⟨k,hk,rfl,hS,hb⟩:=hrel
    by_cases hlt:k<ts.length
    · obtain ⟨b, off, rfl, hbb, h0⟩ := hx.out.stays hb.out k hlt
      have hsz:=hs.out _ (List.getElem_mem hlt)
      have HP:Hid (∃x:ByteArray,x=ts[k]):=⟨_,rfl⟩
      obtain⟨tx,hp⟩:=HP.out
      rw[←hp]at h0 hsz
      have HQ:Hid (tx=ts[k]):=hp
      clear hp HP
      go_wp2_with fail
      clear h0
      refine(clone_any tx _ hsz).mono ?_
      rintro e w1 ⟨rfl,hb1⟩
      have S1:OwnS w1 w.heap.size u3 (ts.take k):=qGa hS.out hb1
      have B1:Below w.heap.size w w1:=hb.out.trans (hb1.mono hb.out.size)
      have z1:w.heap.size≤w1.heap.size:=B1.size
      have hlk:(ts.take k).length<4000000:=by rw[List.length_take];omega
      clear hb1 hS
      go_wp2_with (at_builtin;refine wpList_pushS rfl _ _ 26 rfl Tryz.underlying26 Tryz.info9 w.heap.size u3 (ts.take k) rfl S1 tx rfl hlk z1 ?_;intro v2 w2 S2 b2)
      have S2:Hid (OwnS w2 w.heap.size v2 (ts.take (k+1))):=by
        rw[List.take_succ_eq_append_getElem hlt,←HQ.out]
        exact S2
      have B2:Hid (Below w.heap.size w w2):=B1.trans b2
      go_roundw
      case rel=>exact⟨k+1,by omega,by go_num,S2,B2⟩
      case measure=>simp[intOf];omega
    · obtain rfl : k = ts.length := by omega
      go_wp2_with fail
      go_ret
      exact⟨_,rfl,by have:=hS.out;rwa [List.take_length]at this,hb.out⟩
theorem qAt(id i:Int)(v:Value)(ms:List Int)(w:World)(h:Hid (RI w v ms))(hl:ms.length≤1048576):
    Calls Tryz.prog 38 #[.int .i64 id,.agg #[.int .i64 i,v]] w fun e w'=>e=.returned (.bool (qBc i ms&&inB ms id))∧Below w.heap.size w w':=by
  have HB:Hid (Bx (w.alloc (.cells #[.int .i64 i,v] 37)) w.heap.size 37 [.int .i64 i,v]):=Bx.new w 37 _
  have HL:Hid (Below w.heap.size w (w.alloc (.cells #[.int .i64 i,v] 37))):=(Below.refl _ _).alloc (Nat.le_refl _) _
  have HX:Hid (RI (w.alloc (.cells #[.int .i64 i,v] 37)) v ms):=h.out.stays HL.out
  clear h
  go_enter Tryz.func38,Tryz.ntmps38
  go_wp2_with fail
  generalize w.alloc (.cells #[.int .i64 i,v] 37)=W at *
  refine(ringOk_r i ms HX hl).mono ?_
  rintro e w1 ⟨rfl,b1⟩
  have B1:Hid (Below w.heap.size w w1):=qAa HL.out b1
  have X1:Hid (RI w1 v ms):=HX.out.stays b1
  have c0:w1.cell? ⟨w.heap.size,0,none⟩=some (.int .i64 i):=(HB.out.later b1).cell 0
  have c1:w1.cell? ⟨w.heap.size,1,none⟩=some v:=(HB.out.later b1).cell 1
  clear HB HL HX b1
  obtain⟨R,hR⟩: ∃R,qBc i ms=R:=⟨_,rfl⟩
  rw[hR]
  have HR:Hid (qBc i ms=R):=hR
  clear hR
  cases R with
  | false =>
    go_wp2_with fail
    go_ret
    exact⟨by rw[HR.out];rfl,B1.out⟩
  | true =>
    go_wp2_with fail
    refine(contains_r ms id X1 hl).mono ?_
    rintro e w2 ⟨rfl,b2⟩
    have B2:Hid (Below w.heap.size w w2):=qAa B1.out b2
    clear b2
    go_wp2_with fail
    go_ret
    exact⟨by rw[HR.out];rfl,B2.out⟩
theorem copyRing_any(i:Int)(v:Value)(ms:List Int)(w:World)(h:Hid (RI w v ms))(hl:ms.length≤1048576):
    Calls Tryz.prog 40 #[.agg #[.int .i64 i,v]] w fun e w'=>∃v',e=.returned (.agg #[.int .i64 i,v'])∧OwnI w' w.heap.size v' ms∧Below w.heap.size w w':=by
  have hn1:(w.alloc (.cells #[.int .i64 i,v] 37)).heap.size=w.heap.size+1:=by simp
  have hn2:((w.alloc (.cells #[.int .i64 i,v] 37)).alloc (.cells #[.int .i64 0,.slice none 0 0] 37)).heap.size=w.heap.size+2:=by simp
  have HA:Hid (Bx (((w.alloc (.cells #[.int .i64 i,v] 37)).alloc (.cells #[.int .i64 0,.slice none 0 0] 37)).alloc (.cells #[] 3)) w.heap.size 37 [.int .i64 i,v]):=by
    have h:=Bx.new w 37 [.int .i64 i,v]
    exact h.stays (B:=w.heap.size+1) (((Below.refl _ _).alloc (by rw[hn1];exact Nat.le_refl _) _).alloc (by rw[hn2];omega) _) (by omega)
  have HR:Hid (Bx (((w.alloc (.cells #[.int .i64 i,v] 37)).alloc (.cells #[.int .i64 0,.slice none 0 0] 37)).alloc (.cells #[] 3)) (w.heap.size+1) 37 [.int .i64 0,.slice none 0 0]):=by
    have h:=Bx.new (w.alloc (.cells #[.int .i64 i,v] 37)) 37 [.int .i64 0,.slice none 0 0]
    rw[hn1]at h
    exact h.stays (B:=w.heap.size+2) ((Below.refl _ _).alloc (by rw[hn2];exact Nat.le_refl _) _) (by omega)
  have HO:Hid (OwnI (((w.alloc (.cells #[.int .i64 i,v] 37)).alloc (.cells #[.int .i64 0,.slice none 0 0] 37)).alloc (.cells #[] 3)) w.heap.size (.slice (some ⟨w.heap.size+2,0,none⟩) 0 0) []):=by
    have h:=OwnI.made ((w.alloc (.cells #[.int .i64 i,v] 37)).alloc (.cells #[.int .i64 0,.slice none 0 0] 37)) w.heap.size (by rw[hn2];omega)
    rw[hn2]at h
    exact h
  have HB:Hid (Below w.heap.size w (((w.alloc (.cells #[.int .i64 i,v] 37)).alloc (.cells #[.int .i64 0,.slice none 0 0] 37)).alloc (.cells #[] 3))):=(((Below.refl _ _).alloc (Nat.le_refl _) _).alloc (by simp) _).alloc (by simp;omega) _
  have HU:Hid (RI (((w.alloc (.cells #[.int .i64 i,v] 37)).alloc (.cells #[.int .i64 0,.slice none 0 0] 37)).alloc (.cells #[] 3)) v ms):=h.out.stays HB.out
  have hsz:w.heap.size≤(((w.alloc (.cells #[.int .i64 i,v] 37)).alloc (.cells #[.int .i64 0,.slice none 0 0] 37)).alloc (.cells #[] 3)).heap.size:=HB.out.size
  have a1:=HA.out.cell 1
  clear h hn1 hn2
  go_enter Tryz.func40,Tryz.ntmps40
  go_wp2_with (first|(at_builtin;refine qBn rfl _ _ 22 rfl Tryz.underlying22 Tryz.info3' w.heap.size (.slice (some ⟨w.heap.size+2,0,none⟩) 0 0) [] rfl HO.out _ ms rfl HU.out (by simp;omega) hsz (fun h=>by cases h) ?_;intro v1 w1 hv1 hg1;have hs1:Hid (World.grownBy _ w1 (some (w.heap.size+2))):=hg1;have ht1:Hid (OwnI w1 w.heap.size v1 ms):=hv1;clear hv1 hg1;refine Stp.here ?_))
  refine Stp.go ?_
  have hv1:=ht1.out
  have hg1:=hs1.out
  obtain⟨ao1,cap1,hf1⟩:=hv1.form
  subst hf1
  generalize (((w.alloc (.cells #[.int .i64 i,v] 37)).alloc (.cells #[.int .i64 0,.slice none 0 0] 37)).alloc (.cells #[] 3))=W at *
  have A1:Hid (Bx w1 w.heap.size 37 [.int .i64 i,v]):=HA.out.grown hg1 (by simp)
  have R1:Hid (Bx w1 (w.heap.size+1) 37 [.int .i64 0,.slice none 0 0]):=HR.out.grown hg1 (by simp)
  have B1:Hid (Below w.heap.size w w1):=HB.out.grown hg1 hsz (fun k hk=>by simp at hk;omega)
  have V1:Hid (OwnI w1 w.heap.size (.slice ao1 ms.length cap1) ms):=hv1
  clear hs1 ht1 hv1 hg1 HA HR HB HO HU hsz a1
  have c1:=A1.out.cell 1
  have f1:=A1.out.frozen 1
  have T2:=(TurnAt.refl w.heap.size w1).setCell 1 (.slice ao1 ms.length cap1)
  have O2:Hid (Bx (w1.setCell ⟨w.heap.size,1,none⟩ (.slice ao1 ms.length cap1)) w.heap.size 37 [.int .i64 i,.slice ao1 ms.length cap1]):=A1.out.set 1 (.slice ao1 ms.length cap1)
  have R2:Hid (Bx (w1.setCell ⟨w.heap.size,1,none⟩ (.slice ao1 ms.length cap1)) (w.heap.size+1) 37 [.int .i64 0,.slice none 0 0]):=R1.out.turn T2 (by omega)
  have B2:Hid (Below w.heap.size w (w1.setCell ⟨w.heap.size,1,none⟩ (.slice ao1 ms.length cap1))):=B1.out.trans (T2.below (by omega))
  have V2:Hid (OwnI (w1.setCell ⟨w.heap.size,1,none⟩ (.slice ao1 ms.length cap1)) w.heap.size (.slice ao1 ms.length cap1) ms):=V1.out.keep fun k hk _=>T2.block k (fun e=>qHb V1.out A1.out (by decide) (e ▸ hk))
  have o0:=O2.out.cell 0
  have o1:=O2.out.cell 1
  have r0:=R2.out.cell 0
  have r1:=R2.out.cell 1
  have z0:=R2.out.frozen 0
  have z1:=R2.out.frozen 1
  have R3:Bx _ (w.heap.size+1) 37 [.int .i64 i,.slice ao1 ms.length cap1]:=(R2.out.set 0 (.int .i64 i)).set 1 (.slice ao1 ms.length cap1)
  have T3:=((TurnAt.refl (w.heap.size+1) (w1.setCell ⟨w.heap.size,1,none⟩ (.slice ao1 ms.length cap1))).setCell 0 (.int .i64 i)).setCell 1 (.slice ao1 ms.length cap1)
  have B3:=B2.out.trans (T3.below (by omega))
  have V3:=V2.out.keep fun k hk _=>T3.block k (fun e=>qHb V2.out R2.out (by decide) (e ▸ hk))
  clear T2 T3 R1 A1 B1 V1 V2 R2 O2 B2
  go_wp2_with fail
  generalize ((w1.setCell ⟨w.heap.size,1,none⟩ (.slice ao1 ms.length cap1)).setCell ⟨w.heap.size+1,0,none⟩ (.int .i64 i)).setCell ⟨w.heap.size+1,1,none⟩ (.slice ao1 ms.length cap1)=W3 at *
  have q0:=R3.cell 0
  have q1:=R3.cell 1
  refine bodyPost_ret (v:=.agg #[.int .i64 i,.slice ao1 ms.length cap1]) (by simp[results,Tryz.results40,go_sem,q0,q1]) rfl ?_
  exact⟨_,rfl,V3,B3⟩
theorem copyItems_s(s:Sv)(ts:List It)(w:World)(h:Hid (RIt w s.v ts))(hl:ts.length≤1048576)(hs:Hid (∀x∈ts,x.2.2.2.size≤1048576)):
    Calls Tryz.prog 88 #[.slice s.a s.n s.c] w fun e w'=>∃u:Sv,e=.returned (.slice u.a u.n u.c)∧SlI w' w.heap.size u.v ts∧Below w.heap.size w w':=by
  obtain⟨ao,cap,h1,h2⟩:=h.out;unfold Sv.v at h1;rw[h1]
  exact(qGz ao cap ts w h2 hl hs).mono fun e w' ⟨v,a,b,c⟩=>by obtain⟨u,rfl⟩:=b.sv;exact⟨u,a,b,c⟩
theorem copyTexts_s(s:Sv)(ts:List ByteArray)(w:World)(h:Hid (RT w s.v ts))(hl:ts.length≤1048576)(hs:Hid (∀x∈ts,x.size≤1048576)):
    Calls Tryz.prog 118 #[.slice s.a s.n s.c] w fun e w'=>∃u:Sv,e=.returned (.slice u.a u.n u.c)∧OwnS w' w.heap.size u.v ts∧Below w.heap.size w w':=by
  obtain⟨ao,cap,h1,h2⟩:=h.out;unfold Sv.v at h1;rw[h1]
  exact(qGy ao cap ts w h2 hl hs).mono fun e w' ⟨v,a,b,c⟩=>by obtain⟨u,rfl⟩:=b.sv;exact⟨u,a,b,c⟩
theorem qDy(i:Int)(s:Sv)(ms:List Int)(w:World)(h:Hid (RI w s.v ms))(hl:ms.length≤1048576):
    Calls Tryz.prog 40 #[.agg #[.int .i64 i,.slice s.a s.n s.c]] w fun e w'=>∃u:Sv,e=.returned (.agg #[.int .i64 i,.slice u.a u.n u.c])∧OwnI w' w.heap.size u.v ms∧Below w.heap.size w w':=
  (copyRing_any i s.v ms w h hl).mono fun e w' ⟨v,a,b,c⟩=>by obtain⟨u,rfl⟩:=b.sv;exact⟨u,a,b,c⟩
/-- a member at work: what its box holds; its items stand in its store alone, 'it' is what its Mate has in their place. -/
def MbB(w:World)(g:Nat)(m:Mt)(u:Mv)(it:Sv):Prop:=Bx w g 145 [.slice u.its.a u.its.n u.its.c,.int .i64 m.id,.int .i64 m.rid,.slice u.ms.a u.ms.n u.ms.c,.slice it.a it.n it.c,.slice u.lv.a u.lv.n u.lv.c,.slice u.tx.a u.tx.n u.tx.c,.int .i64 m.rd,.int .i64 m.se,.int .i64 m.li,.int .i64 m.he,.int .i64 m.la.c,.int .i64 m.la.r,.int .i64 m.la.q,.int .i64 m.la.a,.int .i64 m.la.b,.slice u.ws.a u.ws.n u.ws.c]
theorem memberOf_any(m:Mt)(v:Mv)(w:World)(h:Hid (MtP w m v))(hs:Hid (MtS m)):
    Calls Tryz.prog 84 #[.agg #[.int .i64 m.id,.int .i64 m.rid,.slice v.ms.a v.ms.n v.ms.c,.slice v.its.a v.its.n v.its.c,.slice v.lv.a v.lv.n v.lv.c,.slice v.tx.a v.tx.n v.tx.c,.int .i64 m.rd,.int .i64 m.se,.int .i64 m.li,.int .i64 m.he,.int .i64 m.la.c,.int .i64 m.la.r,.int .i64 m.la.q,.int .i64 m.la.a,.int .i64 m.la.b,.slice v.ws.a v.ws.n v.ws.c]] w fun e w'=>∃(g:Nat) (u:Mv),e=.returned (.pointer (some ⟨g,0,none⟩))∧MbB w' g m u zSv∧MtO w' w.heap.size m u∧w.heap.size≤g∧Below w.heap.size w w':=by
  have HA:Hid (MtB (w.alloc (.cells #[.int .i64 m.id,.int .i64 m.rid,.slice v.ms.a v.ms.n v.ms.c,.slice v.its.a v.its.n v.its.c,.slice v.lv.a v.lv.n v.lv.c,.slice v.tx.a v.tx.n v.tx.c,.int .i64 m.rd,.int .i64 m.se,.int .i64 m.li,.int .i64 m.he,.int .i64 m.la.c,.int .i64 m.la.r,.int .i64 m.la.q,.int .i64 m.la.a,.int .i64 m.la.b,.slice v.ws.a v.ws.n v.ws.c] 41)) w.heap.size 41 m v):=Bx.new w 41 _
  have HB:Hid (Below w.heap.size w (w.alloc (.cells #[.int .i64 m.id,.int .i64 m.rid,.slice v.ms.a v.ms.n v.ms.c,.slice v.its.a v.its.n v.its.c,.slice v.lv.a v.lv.n v.lv.c,.slice v.tx.a v.tx.n v.tx.c,.int .i64 m.rd,.int .i64 m.se,.int .i64 m.li,.int .i64 m.he,.int .i64 m.la.c,.int .i64 m.la.r,.int .i64 m.la.q,.int .i64 m.la.a,.int .i64 m.la.b,.slice v.ws.a v.ws.n v.ws.c] 41))):=(Below.refl _ _).alloc (Nat.le_refl _) _
  go_enter Tryz.func84,Tryz.ntmps84
  go_wp2_with fail
  generalize w.alloc (.cells #[.int .i64 m.id,.int .i64 m.rid,.slice v.ms.a v.ms.n v.ms.c,.slice v.its.a v.its.n v.its.c,.slice v.lv.a v.lv.n v.lv.c,.slice v.tx.a v.tx.n v.tx.c,.int .i64 m.rd,.int .i64 m.se,.int .i64 m.li,.int .i64 m.he,.int .i64 m.la.c,.int .i64 m.la.r,.int .i64 m.la.q,.int .i64 m.la.a,.int .i64 m.la.b,.slice v.ws.a v.ws.n v.ws.c] 41)=W at *
  have HA0:Hid (MtB W w.heap.size 41 m v):=HA.out
  have zW:Hid (W.heap.size≥w.heap.size):=HB.out.size
  have SI:Hid (RIt W.drew v.its.v m.its):=h.out.its.rit.stays HB.out.drew
  refine wp_region_held_drew (S:=fun w'=>Below W.heap.size W w') (by kernel_rfl) (Below.refl _ _).drew (fun Ah=>?_)
  refine wpAnyH_take (i:=0) (v:=?v0) rfl (by kernel_rfl) (by kernel_rfl) (by kernel_rfl) (fun _ _ _ h=>h) (Or.inl ⟨by rfl,?hy0⟩) (by assumption) ?_
  case hy0=>(intro w hSw;(try dsimp only at hSw);simp only[List.getElem_toArray,List.getElem_cons_zero,List.getElem_cons_succ];go_simp;try with_reducible rfl)
  try simp only[Act.put,List.getElem_toArray,List.getElem_cons_zero,List.getElem_cons_succ,List.setIfInBounds_toArray,List.set_cons_zero,List.set_cons_succ]
  refine wpAnyH_take (i:=1) (v:=_) rfl (by kernel_rfl) (by kernel_rfl) (by kernel_rfl) (fun _ _ _ h=>h) (qAp (by rfl) 38 _ rfl w.heap.size 3 rfl 41 _ (fun w hS=>Bx.later HA.out hS) (.slice v.its.a v.its.n v.its.c) rfl _ Tryz.underlying38 rfl) (by assumption) ?_
  try simp only[Act.put,List.getElem_toArray,List.getElem_cons_zero,List.getElem_cons_succ,List.setIfInBounds_toArray,List.set_cons_zero,List.set_cons_succ]
  refine wpAnyH_take (i:=3) (v:=_) rfl (by kernel_rfl) (by kernel_rfl) (by kernel_rfl) (fun _ _ _ h=>h) (qBx (by rfl) 41 _ rfl w.heap.size 0 rfl 41 _ (fun w hS=>Bx.later HA.out hS) [.int .i64 m.id,.int .i64 m.rid,.slice v.ms.a v.ms.n v.ms.c,.slice v.its.a v.its.n v.its.c,.slice v.lv.a v.lv.n v.lv.c,.slice v.tx.a v.tx.n v.tx.c,.int .i64 m.rd,.int .i64 m.se,.int .i64 m.li,.int .i64 m.he,.int .i64 m.la.c,.int .i64 m.la.r,.int .i64 m.la.q,.int .i64 m.la.a,.int .i64 m.la.b,.slice v.ws.a v.ws.n v.ws.c] rfl _ Tryz.underlying41 rfl Tryz.sizeM) (by assumption) ?_
  try simp only[Act.put,List.getElem_toArray,List.getElem_cons_zero,List.getElem_cons_succ,List.setIfInBounds_toArray,List.set_cons_zero,List.set_cons_succ]
  refine wpAnyH_ready (rs:=[2]) (by kernel_rfl) (by simp) ?_
  refine AllReadyH.cons (i:=2) rfl (fun K hK=>?_) AllReadyH.nil
  rw[if_pos (by rfl)]
  simp only[List.getElem_toArray,List.getElem_cons_zero,List.getElem_cons_succ]
  go_simp
  refine(copyItems_s v.its m.its _ SI hs.out.its hs.out.it).mono ?_
  rintro e w1 ⟨uits,rfl,o1,b1⟩
  have c1:Below W.heap.size W w1:=(Below.refl W.heap.size W).drew.trans b1
  have Xits:Hid (SlI w1 W.heap.size uits.v m.its):=o1
  refine hK.out _ _ (c1) (fun Ah=>?_)
  clear hK K
  try simp only[Act.put,List.getElem_toArray,List.getElem_cons_zero,List.getElem_cons_succ,List.setIfInBounds_toArray,List.set_cons_zero,List.set_cons_succ]
  refine wpAnyH_take (i:=4) (v:=?v4) rfl (by kernel_rfl) (by kernel_rfl) (by kernel_rfl) (fun _ _ _ h=>h) (Or.inl ⟨by rfl,?hy4⟩) (by assumption) ?_
  case hy4=>(intro w hSw;(try dsimp only at hSw);simp only[List.getElem_toArray,List.getElem_cons_zero,List.getElem_cons_succ];go_simp;try with_reducible rfl)
  try simp only[Act.put,List.getElem_toArray,List.getElem_cons_zero,List.getElem_cons_succ,List.setIfInBounds_toArray,List.set_cons_zero,List.set_cons_succ]
  refine wpAnyH_ready (rs:=[5]) (by kernel_rfl) (by simp) ?_
  refine AllReadyH.cons (i:=5) rfl (fun K hK=>?_) AllReadyH.nil
  rw[if_pos (by rfl)]
  simp only[List.getElem_toArray,List.getElem_cons_zero,List.getElem_cons_succ]
  go_simp
  refine hK.out _ _ (c1.alloc c1.size _) (fun Ah=>?_)
  clear hK K
  try simp only[Act.put,List.getElem_toArray,List.getElem_cons_zero,List.getElem_cons_succ,List.setIfInBounds_toArray,List.set_cons_zero,List.set_cons_succ]
  refine wpAnyH_take (i:=6) (v:=?v6) rfl (by kernel_rfl) (by kernel_rfl) (by kernel_rfl) (fun _ _ _ h=>h) (Or.inl ⟨by rfl,?hy6⟩) (by assumption) ?_
  case hy6=>(intro w hSw;(try dsimp only at hSw);simp only[List.getElem_toArray,List.getElem_cons_zero,List.getElem_cons_succ];go_simp;try with_reducible rfl)
  try simp only[Act.put,List.getElem_toArray,List.getElem_cons_zero,List.getElem_cons_succ,List.setIfInBounds_toArray,List.set_cons_zero,List.set_cons_succ]
  refine wpAnyH_done (by kernel_rfl) ?_ _
  have HG:Hid (Bx (w1.alloc (.cells #[.slice uits.a uits.n uits.c,.int .i64 m.id,.int .i64 m.rid,.slice v.ms.a v.ms.n v.ms.c,.slice v.its.a v.its.n v.its.c,.slice v.lv.a v.lv.n v.lv.c,.slice v.tx.a v.tx.n v.tx.c,.int .i64 m.rd,.int .i64 m.se,.int .i64 m.li,.int .i64 m.he,.int .i64 m.la.c,.int .i64 m.la.r,.int .i64 m.la.q,.int .i64 m.la.a,.int .i64 m.la.b,.slice v.ws.a v.ws.n v.ws.c] 145)) w1.heap.size 145 [.slice uits.a uits.n uits.c,.int .i64 m.id,.int .i64 m.rid,.slice v.ms.a v.ms.n v.ms.c,.slice v.its.a v.its.n v.its.c,.slice v.lv.a v.lv.n v.lv.c,.slice v.tx.a v.tx.n v.tx.c,.int .i64 m.rd,.int .i64 m.se,.int .i64 m.li,.int .i64 m.he,.int .i64 m.la.c,.int .i64 m.la.r,.int .i64 m.la.q,.int .i64 m.la.a,.int .i64 m.la.b,.slice v.ws.a v.ws.n v.ws.c]):=Bx.new w1 145 _
  have bb:Below w1.heap.size w1 (w1.alloc (.cells #[.slice uits.a uits.n uits.c,.int .i64 m.id,.int .i64 m.rid,.slice v.ms.a v.ms.n v.ms.c,.slice v.its.a v.its.n v.its.c,.slice v.lv.a v.lv.n v.lv.c,.slice v.tx.a v.tx.n v.tx.c,.int .i64 m.rd,.int .i64 m.se,.int .i64 m.li,.int .i64 m.he,.int .i64 m.la.c,.int .i64 m.la.r,.int .i64 m.la.q,.int .i64 m.la.a,.int .i64 m.la.b,.slice v.ws.a v.ws.n v.ws.c] 145)):=(Below.refl _ _).alloc (Nat.le_refl _) _
  have Xits:Hid (SlI (w1.alloc (.cells #[.slice uits.a uits.n uits.c,.int .i64 m.id,.int .i64 m.rid,.slice v.ms.a v.ms.n v.ms.c,.slice v.its.a v.its.n v.its.c,.slice v.lv.a v.lv.n v.lv.c,.slice v.tx.a v.tx.n v.tx.c,.int .i64 m.rd,.int .i64 m.se,.int .i64 m.li,.int .i64 m.he,.int .i64 m.la.c,.int .i64 m.la.r,.int .i64 m.la.q,.int .i64 m.la.a,.int .i64 m.la.b,.slice v.ws.a v.ws.n v.ws.c] 145)) W.heap.size uits.v m.its):=Xits.out.below bb
  have HA:Hid (MtB (w1.alloc (.cells #[.slice uits.a uits.n uits.c,.int .i64 m.id,.int .i64 m.rid,.slice v.ms.a v.ms.n v.ms.c,.slice v.its.a v.its.n v.its.c,.slice v.lv.a v.lv.n v.lv.c,.slice v.tx.a v.tx.n v.tx.c,.int .i64 m.rd,.int .i64 m.se,.int .i64 m.li,.int .i64 m.he,.int .i64 m.la.c,.int .i64 m.la.r,.int .i64 m.la.q,.int .i64 m.la.a,.int .i64 m.la.b,.slice v.ws.a v.ws.n v.ws.c] 145)) w.heap.size 41 m v):=Bx.later (Bx.later HA.out c1) bb
  have HB:Hid (Below w.heap.size w (w1.alloc (.cells #[.slice uits.a uits.n uits.c,.int .i64 m.id,.int .i64 m.rid,.slice v.ms.a v.ms.n v.ms.c,.slice v.its.a v.its.n v.its.c,.slice v.lv.a v.lv.n v.lv.c,.slice v.tx.a v.tx.n v.tx.c,.int .i64 m.rd,.int .i64 m.se,.int .i64 m.li,.int .i64 m.he,.int .i64 m.la.c,.int .i64 m.la.r,.int .i64 m.la.q,.int .i64 m.la.a,.int .i64 m.la.b,.slice v.ws.a v.ws.n v.ws.c] 145))):=qAa (qAa HB.out c1) bb
  have zg:Hid (w.heap.size<w1.heap.size):=Nat.lt_of_lt_of_le (Bx.lt HA0.out) c1.size
  clear o1 b1 c1 bb Ah SI
  generalize w1.alloc (.cells #[.slice uits.a uits.n uits.c,.int .i64 m.id,.int .i64 m.rid,.slice v.ms.a v.ms.n v.ms.c,.slice v.its.a v.its.n v.its.c,.slice v.lv.a v.lv.n v.lv.c,.slice v.tx.a v.tx.n v.tx.c,.int .i64 m.rd,.int .i64 m.se,.int .i64 m.li,.int .i64 m.he,.int .i64 m.la.c,.int .i64 m.la.r,.int .i64 m.la.q,.int .i64 m.la.a,.int .i64 m.la.b,.slice v.ws.a v.ws.n v.ws.c] 145)=W1 at *
  generalize w1.heap.size=g at *
  have zg:=zg.out
  have HG0:Hid (Bx W1 g 145 [.slice uits.a uits.n uits.c,.int .i64 m.id,.int .i64 m.rid,.slice v.ms.a v.ms.n v.ms.c,.slice v.its.a v.its.n v.its.c,.slice v.lv.a v.lv.n v.lv.c,.slice v.tx.a v.tx.n v.tx.c,.int .i64 m.rd,.int .i64 m.se,.int .i64 m.li,.int .i64 m.he,.int .i64 m.la.c,.int .i64 m.la.r,.int .i64 m.la.q,.int .i64 m.la.a,.int .i64 m.la.b,.slice v.ws.a v.ws.n v.ws.c]):=HG.out
  have zW1:Hid (w.heap.size≤W1.heap.size):=HB.out.size
  go_wp2_with (first|(refine qAb rfl 37 _ rfl w.heap.size 1 rfl 41 _ HA.out [.int .i64 m.rid,.slice v.ms.a v.ms.n v.ms.c] rfl _ Tryz.underlying37 rfl Tryz.sizeR ?_))
  refine(qDy m.rid v.ms m.ms _ (h.out.ms.ri.stays HB.out) hs.out.ms).mono ?_
  rintro e w2 ⟨ums,rfl,ho,b⟩
  have Xms:Hid (OwnI w2 W1.heap.size ums.v m.ms):=ho
  have LOms:Hid (W1.heap.size≤w2.heap.size):=b.size
  have HA:Hid (Bx w2 w.heap.size 41 [.int .i64 m.id,.int .i64 m.rid,.slice v.ms.a v.ms.n v.ms.c,.slice v.its.a v.its.n v.its.c,.slice v.lv.a v.lv.n v.lv.c,.slice v.tx.a v.tx.n v.tx.c,.int .i64 m.rd,.int .i64 m.se,.int .i64 m.li,.int .i64 m.he,.int .i64 m.la.c,.int .i64 m.la.r,.int .i64 m.la.q,.int .i64 m.la.a,.int .i64 m.la.b,.slice v.ws.a v.ws.n v.ws.c]):=Bx.later HA.out b
  have HG:Hid (Bx w2 g 145 [.slice uits.a uits.n uits.c,.int .i64 m.id,.int .i64 m.rid,.slice v.ms.a v.ms.n v.ms.c,.slice v.its.a v.its.n v.its.c,.slice v.lv.a v.lv.n v.lv.c,.slice v.tx.a v.tx.n v.tx.c,.int .i64 m.rd,.int .i64 m.se,.int .i64 m.li,.int .i64 m.he,.int .i64 m.la.c,.int .i64 m.la.r,.int .i64 m.la.q,.int .i64 m.la.a,.int .i64 m.la.b,.slice v.ws.a v.ws.n v.ws.c]):=HG.out.later b
  have HB:Hid (Below w.heap.size w w2):=qAa HB.out b
  have K1:Hid (KeepBut g W1 w2):=qBb b
  have BXms:Hid (Bx w2 g 145 [.slice uits.a uits.n uits.c,.int .i64 m.id,.int .i64 m.rid,.slice v.ms.a v.ms.n v.ms.c,.slice v.its.a v.its.n v.its.c,.slice v.lv.a v.lv.n v.lv.c,.slice v.tx.a v.tx.n v.tx.c,.int .i64 m.rd,.int .i64 m.se,.int .i64 m.li,.int .i64 m.he,.int .i64 m.la.c,.int .i64 m.la.r,.int .i64 m.la.q,.int .i64 m.la.a,.int .i64 m.la.b,.slice v.ws.a v.ws.n v.ws.c]):=HG.out
  clear ho b
  go_wp2_with (first|(refine qAf rfl 37 _ _ rfl g 2 rfl 145 _ HG.out [.int .i64 m.rid,.slice ums.a ums.n ums.c] rfl (by simp) Tryz.sizeR rfl [.slice uits.a uits.n uits.c,.int .i64 m.id,.int .i64 m.rid,.slice ums.a ums.n ums.c,.slice v.its.a v.its.n v.its.c,.slice v.lv.a v.lv.n v.lv.c,.slice v.tx.a v.tx.n v.tx.c,.int .i64 m.rd,.int .i64 m.se,.int .i64 m.li,.int .i64 m.he,.int .i64 m.la.c,.int .i64 m.la.r,.int .i64 m.la.q,.int .i64 m.la.a,.int .i64 m.la.b,.slice v.ws.a v.ws.n v.ws.c] rfl ?_;intro w3 OB TB;have K2:Hid (KeepBut g w2 w3):=TB.keep;have HA:Hid (Bx w3 w.heap.size 41 [.int .i64 m.id,.int .i64 m.rid,.slice v.ms.a v.ms.n v.ms.c,.slice v.its.a v.its.n v.its.c,.slice v.lv.a v.lv.n v.lv.c,.slice v.tx.a v.tx.n v.tx.c,.int .i64 m.rd,.int .i64 m.se,.int .i64 m.li,.int .i64 m.he,.int .i64 m.la.c,.int .i64 m.la.r,.int .i64 m.la.q,.int .i64 m.la.a,.int .i64 m.la.b,.slice v.ws.a v.ws.n v.ws.c]):=Bx.turn HA.out TB (by omega);have HB:Hid (Below w.heap.size w w3):=HB.out.trans (TB.below (by omega));have HG:Hid (Bx w3 g 145 [.slice uits.a uits.n uits.c,.int .i64 m.id,.int .i64 m.rid,.slice ums.a ums.n ums.c,.slice v.its.a v.its.n v.its.c,.slice v.lv.a v.lv.n v.lv.c,.slice v.tx.a v.tx.n v.tx.c,.int .i64 m.rd,.int .i64 m.se,.int .i64 m.li,.int .i64 m.he,.int .i64 m.la.c,.int .i64 m.la.r,.int .i64 m.la.q,.int .i64 m.la.a,.int .i64 m.la.b,.slice v.ws.a v.ws.n v.ws.c]):=OB;clear OB TB)|(refine qAg rfl 38 _ _ rfl g 4 rfl 145 _ HG.out (.slice none 0 0) rfl (by simp) rfl Tryz.sizeIs [.slice uits.a uits.n uits.c,.int .i64 m.id,.int .i64 m.rid,.slice ums.a ums.n ums.c,.slice none 0 0,.slice v.lv.a v.lv.n v.lv.c,.slice v.tx.a v.tx.n v.tx.c,.int .i64 m.rd,.int .i64 m.se,.int .i64 m.li,.int .i64 m.he,.int .i64 m.la.c,.int .i64 m.la.r,.int .i64 m.la.q,.int .i64 m.la.a,.int .i64 m.la.b,.slice v.ws.a v.ws.n v.ws.c] rfl ?_;intro w4 OB TB;have K3:Hid (KeepBut g w3 w4):=TB.keep;have HA:Hid (Bx w4 w.heap.size 41 [.int .i64 m.id,.int .i64 m.rid,.slice v.ms.a v.ms.n v.ms.c,.slice v.its.a v.its.n v.its.c,.slice v.lv.a v.lv.n v.lv.c,.slice v.tx.a v.tx.n v.tx.c,.int .i64 m.rd,.int .i64 m.se,.int .i64 m.li,.int .i64 m.he,.int .i64 m.la.c,.int .i64 m.la.r,.int .i64 m.la.q,.int .i64 m.la.a,.int .i64 m.la.b,.slice v.ws.a v.ws.n v.ws.c]):=Bx.turn HA.out TB (by omega);have HB:Hid (Below w.heap.size w w4):=HB.out.trans (TB.below (by omega));have HG:Hid (Bx w4 g 145 [.slice uits.a uits.n uits.c,.int .i64 m.id,.int .i64 m.rid,.slice ums.a ums.n ums.c,.slice none 0 0,.slice v.lv.a v.lv.n v.lv.c,.slice v.tx.a v.tx.n v.tx.c,.int .i64 m.rd,.int .i64 m.se,.int .i64 m.li,.int .i64 m.he,.int .i64 m.la.c,.int .i64 m.la.r,.int .i64 m.la.q,.int .i64 m.la.a,.int .i64 m.la.b,.slice v.ws.a v.ws.n v.ws.c]):=OB;clear OB TB)|(refine qCp _ _ _ rfl ?_))
  refine Stp.go ?_
  have zB4:w.heap.size≤w4.heap.size:=HB.out.size
  have HA2:Hid (Bx (w4.alloc (.cells #[] 3)) w.heap.size 41 [.int .i64 m.id,.int .i64 m.rid,.slice v.ms.a v.ms.n v.ms.c,.slice v.its.a v.its.n v.its.c,.slice v.lv.a v.lv.n v.lv.c,.slice v.tx.a v.tx.n v.tx.c,.int .i64 m.rd,.int .i64 m.se,.int .i64 m.li,.int .i64 m.he,.int .i64 m.la.c,.int .i64 m.la.r,.int .i64 m.la.q,.int .i64 m.la.a,.int .i64 m.la.b,.slice v.ws.a v.ws.n v.ws.c]):=HA.out.later ((Below.refl _ _).alloc (Nat.le_refl _) _)
  have SR:Hid (RI (w4.alloc (.cells #[] 3)) (.slice v.lv.a v.lv.n v.lv.c) m.lv):=(h.out.lv.ri).stays (HB.out.trans (((Below.refl _ _).alloc (Nat.le_refl _) _).mono zB4))
  have OW:Hid (OwnI (w4.alloc (.cells #[] 3)) w4.heap.size (.slice (some ⟨w4.heap.size,0,none⟩) 0 0) []):=OwnI.made w4 w4.heap.size (Nat.le_refl _)
  go_wp2_with (first|(refine qBe rfl 22 _ rfl w.heap.size 4 rfl 41 _ HA2.out (.slice v.lv.a v.lv.n v.lv.c) rfl _ Tryz.underlying22 rfl ?_)|(at_builtin;refine qBn rfl _ _ 22 rfl Tryz.underlying22 Tryz.info3' w4.heap.size (.slice (some ⟨w4.heap.size,0,none⟩) 0 0) [] rfl OW.out (.slice v.lv.a v.lv.n v.lv.c) m.lv rfl SR.out (by have:=hs.out.lv;simp;omega) (Nat.le_of_lt (by simp)) (fun h=>by cases h) ?_;intro v5 w5 ho hg;have Xlv:Hid (OwnI w5 w4.heap.size v5 m.lv):=ho;have G5:Hid ((w4.alloc (.cells #[] 3)).grownBy w5 (some w4.heap.size)):=hg;clear ho hg;refine Stp.here ?_))
  refine Stp.go ?_
  obtain⟨ulv,hf⟩:=Xlv.out.sv
  subst hf
  have LOlv:Hid (w4.heap.size≤w5.heap.size):=(qAv (g:=g) G5.out).size
  have HA:Hid (Bx w5 w.heap.size 41 [.int .i64 m.id,.int .i64 m.rid,.slice v.ms.a v.ms.n v.ms.c,.slice v.its.a v.its.n v.its.c,.slice v.lv.a v.lv.n v.lv.c,.slice v.tx.a v.tx.n v.tx.c,.int .i64 m.rd,.int .i64 m.se,.int .i64 m.li,.int .i64 m.he,.int .i64 m.la.c,.int .i64 m.la.r,.int .i64 m.la.q,.int .i64 m.la.a,.int .i64 m.la.b,.slice v.ws.a v.ws.n v.ws.c]):=HA.out.afterGrown G5.out
  have HG:Hid (Bx w5 g 145 [.slice uits.a uits.n uits.c,.int .i64 m.id,.int .i64 m.rid,.slice ums.a ums.n ums.c,.slice none 0 0,.slice v.lv.a v.lv.n v.lv.c,.slice v.tx.a v.tx.n v.tx.c,.int .i64 m.rd,.int .i64 m.se,.int .i64 m.li,.int .i64 m.he,.int .i64 m.la.c,.int .i64 m.la.r,.int .i64 m.la.q,.int .i64 m.la.a,.int .i64 m.la.b,.slice v.ws.a v.ws.n v.ws.c]):=HG.out.afterGrown G5.out
  have HB:Hid (Below w.heap.size w w5):=qBs HB.out HB.out.size G5.out
  have K4:Hid (KeepBut g w4 w5):=qAv G5.out
  have BXlv:Hid (Bx w5 g 145 [.slice uits.a uits.n uits.c,.int .i64 m.id,.int .i64 m.rid,.slice ums.a ums.n ums.c,.slice none 0 0,.slice v.lv.a v.lv.n v.lv.c,.slice v.tx.a v.tx.n v.tx.c,.int .i64 m.rd,.int .i64 m.se,.int .i64 m.li,.int .i64 m.he,.int .i64 m.la.c,.int .i64 m.la.r,.int .i64 m.la.q,.int .i64 m.la.a,.int .i64 m.la.b,.slice v.ws.a v.ws.n v.ws.c]):=HG.out
  clear HA2 SR OW G5
  go_wp2_with (first|(refine qAg rfl 22 _ _ rfl g 5 rfl 145 _ HG.out (.slice ulv.a ulv.n ulv.c) rfl (by simp) rfl Tryz.sizeNs [.slice uits.a uits.n uits.c,.int .i64 m.id,.int .i64 m.rid,.slice ums.a ums.n ums.c,.slice none 0 0,.slice ulv.a ulv.n ulv.c,.slice v.tx.a v.tx.n v.tx.c,.int .i64 m.rd,.int .i64 m.se,.int .i64 m.li,.int .i64 m.he,.int .i64 m.la.c,.int .i64 m.la.r,.int .i64 m.la.q,.int .i64 m.la.a,.int .i64 m.la.b,.slice v.ws.a v.ws.n v.ws.c] rfl ?_;intro w6 OB TB;have K5:Hid (KeepBut g w5 w6):=TB.keep;have HA:Hid (Bx w6 w.heap.size 41 [.int .i64 m.id,.int .i64 m.rid,.slice v.ms.a v.ms.n v.ms.c,.slice v.its.a v.its.n v.its.c,.slice v.lv.a v.lv.n v.lv.c,.slice v.tx.a v.tx.n v.tx.c,.int .i64 m.rd,.int .i64 m.se,.int .i64 m.li,.int .i64 m.he,.int .i64 m.la.c,.int .i64 m.la.r,.int .i64 m.la.q,.int .i64 m.la.a,.int .i64 m.la.b,.slice v.ws.a v.ws.n v.ws.c]):=Bx.turn HA.out TB (by omega);have HB:Hid (Below w.heap.size w w6):=HB.out.trans (TB.below (by omega));have HG:Hid (Bx w6 g 145 [.slice uits.a uits.n uits.c,.int .i64 m.id,.int .i64 m.rid,.slice ums.a ums.n ums.c,.slice none 0 0,.slice ulv.a ulv.n ulv.c,.slice v.tx.a v.tx.n v.tx.c,.int .i64 m.rd,.int .i64 m.se,.int .i64 m.li,.int .i64 m.he,.int .i64 m.la.c,.int .i64 m.la.r,.int .i64 m.la.q,.int .i64 m.la.a,.int .i64 m.la.b,.slice v.ws.a v.ws.n v.ws.c]):=OB;clear OB TB)|(refine qBe rfl 26 _ rfl w.heap.size 5 rfl 41 _ HA.out (.slice v.tx.a v.tx.n v.tx.c) rfl _ Tryz.underlying26 rfl ?_))
  refine(copyTexts_s v.tx m.tx _ (h.out.tx.rt.stays HB.out) hs.out.tx hs.out.te).mono ?_
  rintro e w7 ⟨utx,rfl,ho,b⟩
  have Xtx:Hid (OwnS w7 w6.heap.size utx.v m.tx):=ho
  have LOtx:Hid (w6.heap.size≤w7.heap.size):=b.size
  have HA:Hid (Bx w7 w.heap.size 41 [.int .i64 m.id,.int .i64 m.rid,.slice v.ms.a v.ms.n v.ms.c,.slice v.its.a v.its.n v.its.c,.slice v.lv.a v.lv.n v.lv.c,.slice v.tx.a v.tx.n v.tx.c,.int .i64 m.rd,.int .i64 m.se,.int .i64 m.li,.int .i64 m.he,.int .i64 m.la.c,.int .i64 m.la.r,.int .i64 m.la.q,.int .i64 m.la.a,.int .i64 m.la.b,.slice v.ws.a v.ws.n v.ws.c]):=Bx.later HA.out b
  have HG:Hid (Bx w7 g 145 [.slice uits.a uits.n uits.c,.int .i64 m.id,.int .i64 m.rid,.slice ums.a ums.n ums.c,.slice none 0 0,.slice ulv.a ulv.n ulv.c,.slice v.tx.a v.tx.n v.tx.c,.int .i64 m.rd,.int .i64 m.se,.int .i64 m.li,.int .i64 m.he,.int .i64 m.la.c,.int .i64 m.la.r,.int .i64 m.la.q,.int .i64 m.la.a,.int .i64 m.la.b,.slice v.ws.a v.ws.n v.ws.c]):=HG.out.later b
  have HB:Hid (Below w.heap.size w w7):=qAa HB.out b
  have K6:Hid (KeepBut g w6 w7):=qBb b
  have BXtx:Hid (Bx w7 g 145 [.slice uits.a uits.n uits.c,.int .i64 m.id,.int .i64 m.rid,.slice ums.a ums.n ums.c,.slice none 0 0,.slice ulv.a ulv.n ulv.c,.slice v.tx.a v.tx.n v.tx.c,.int .i64 m.rd,.int .i64 m.se,.int .i64 m.li,.int .i64 m.he,.int .i64 m.la.c,.int .i64 m.la.r,.int .i64 m.la.q,.int .i64 m.la.a,.int .i64 m.la.b,.slice v.ws.a v.ws.n v.ws.c]):=HG.out
  clear ho b
  go_wp2_with (first|(refine qAg rfl 26 _ _ rfl g 6 rfl 145 _ HG.out (.slice utx.a utx.n utx.c) rfl (by simp) rfl Tryz.sizeTs [.slice uits.a uits.n uits.c,.int .i64 m.id,.int .i64 m.rid,.slice ums.a ums.n ums.c,.slice none 0 0,.slice ulv.a ulv.n ulv.c,.slice utx.a utx.n utx.c,.int .i64 m.rd,.int .i64 m.se,.int .i64 m.li,.int .i64 m.he,.int .i64 m.la.c,.int .i64 m.la.r,.int .i64 m.la.q,.int .i64 m.la.a,.int .i64 m.la.b,.slice v.ws.a v.ws.n v.ws.c] rfl ?_;intro w8 OB TB;have K7:Hid (KeepBut g w7 w8):=TB.keep;have HA:Hid (Bx w8 w.heap.size 41 [.int .i64 m.id,.int .i64 m.rid,.slice v.ms.a v.ms.n v.ms.c,.slice v.its.a v.its.n v.its.c,.slice v.lv.a v.lv.n v.lv.c,.slice v.tx.a v.tx.n v.tx.c,.int .i64 m.rd,.int .i64 m.se,.int .i64 m.li,.int .i64 m.he,.int .i64 m.la.c,.int .i64 m.la.r,.int .i64 m.la.q,.int .i64 m.la.a,.int .i64 m.la.b,.slice v.ws.a v.ws.n v.ws.c]):=Bx.turn HA.out TB (by omega);have HB:Hid (Below w.heap.size w w8):=HB.out.trans (TB.below (by omega));have HG:Hid (Bx w8 g 145 [.slice uits.a uits.n uits.c,.int .i64 m.id,.int .i64 m.rid,.slice ums.a ums.n ums.c,.slice none 0 0,.slice ulv.a ulv.n ulv.c,.slice utx.a utx.n utx.c,.int .i64 m.rd,.int .i64 m.se,.int .i64 m.li,.int .i64 m.he,.int .i64 m.la.c,.int .i64 m.la.r,.int .i64 m.la.q,.int .i64 m.la.a,.int .i64 m.la.b,.slice v.ws.a v.ws.n v.ws.c]):=OB;clear OB TB)|(refine qAb rfl 39 _ rfl w.heap.size 10 rfl 41 _ HA.out [.int .i64 m.la.c,.int .i64 m.la.r,.int .i64 m.la.q,.int .i64 m.la.a,.int .i64 m.la.b,.slice v.ws.a v.ws.n v.ws.c] rfl _ Tryz.underlying39 rfl Tryz.sizeT ?_))
  refine(copyTok_s m.la.c m.la.r m.la.q m.la.a m.la.b v.ws m.la.ws _ (h.out.ws.stays HB.out (fun k hk=>(h.out.ws.lt k hk).2)) hs.out.ws).mono ?_
  rintro e w9 ⟨uws,rfl,ho,b⟩
  have Xws:Hid (OwnI w9 w8.heap.size uws.v m.la.ws):=ho
  have LOws:Hid (w8.heap.size≤w9.heap.size):=b.size
  have HA:Hid (Bx w9 w.heap.size 41 [.int .i64 m.id,.int .i64 m.rid,.slice v.ms.a v.ms.n v.ms.c,.slice v.its.a v.its.n v.its.c,.slice v.lv.a v.lv.n v.lv.c,.slice v.tx.a v.tx.n v.tx.c,.int .i64 m.rd,.int .i64 m.se,.int .i64 m.li,.int .i64 m.he,.int .i64 m.la.c,.int .i64 m.la.r,.int .i64 m.la.q,.int .i64 m.la.a,.int .i64 m.la.b,.slice v.ws.a v.ws.n v.ws.c]):=Bx.later HA.out b
  have HG:Hid (Bx w9 g 145 [.slice uits.a uits.n uits.c,.int .i64 m.id,.int .i64 m.rid,.slice ums.a ums.n ums.c,.slice none 0 0,.slice ulv.a ulv.n ulv.c,.slice utx.a utx.n utx.c,.int .i64 m.rd,.int .i64 m.se,.int .i64 m.li,.int .i64 m.he,.int .i64 m.la.c,.int .i64 m.la.r,.int .i64 m.la.q,.int .i64 m.la.a,.int .i64 m.la.b,.slice v.ws.a v.ws.n v.ws.c]):=HG.out.later b
  have HB:Hid (Below w.heap.size w w9):=qAa HB.out b
  have K8:Hid (KeepBut g w8 w9):=qBb b
  have BXws:Hid (Bx w9 g 145 [.slice uits.a uits.n uits.c,.int .i64 m.id,.int .i64 m.rid,.slice ums.a ums.n ums.c,.slice none 0 0,.slice ulv.a ulv.n ulv.c,.slice utx.a utx.n utx.c,.int .i64 m.rd,.int .i64 m.se,.int .i64 m.li,.int .i64 m.he,.int .i64 m.la.c,.int .i64 m.la.r,.int .i64 m.la.q,.int .i64 m.la.a,.int .i64 m.la.b,.slice v.ws.a v.ws.n v.ws.c]):=HG.out
  clear ho b
  go_wp2_with (first|(refine qAf rfl 39 _ _ rfl g 11 rfl 145 _ HG.out [.int .i64 m.la.c,.int .i64 m.la.r,.int .i64 m.la.q,.int .i64 m.la.a,.int .i64 m.la.b,.slice uws.a uws.n uws.c] rfl (by simp) Tryz.sizeT rfl [.slice uits.a uits.n uits.c,.int .i64 m.id,.int .i64 m.rid,.slice ums.a ums.n ums.c,.slice none 0 0,.slice ulv.a ulv.n ulv.c,.slice utx.a utx.n utx.c,.int .i64 m.rd,.int .i64 m.se,.int .i64 m.li,.int .i64 m.he,.int .i64 m.la.c,.int .i64 m.la.r,.int .i64 m.la.q,.int .i64 m.la.a,.int .i64 m.la.b,.slice uws.a uws.n uws.c] rfl ?_;intro wz OB TB;have K9:Hid (KeepBut g w9 wz):=TB.keep;have HA:Hid (Bx wz w.heap.size 41 [.int .i64 m.id,.int .i64 m.rid,.slice v.ms.a v.ms.n v.ms.c,.slice v.its.a v.its.n v.its.c,.slice v.lv.a v.lv.n v.lv.c,.slice v.tx.a v.tx.n v.tx.c,.int .i64 m.rd,.int .i64 m.se,.int .i64 m.li,.int .i64 m.he,.int .i64 m.la.c,.int .i64 m.la.r,.int .i64 m.la.q,.int .i64 m.la.a,.int .i64 m.la.b,.slice v.ws.a v.ws.n v.ws.c]):=Bx.turn HA.out TB (by omega);have HB:Hid (Below w.heap.size w wz):=HB.out.trans (TB.below (by omega));have HG:Hid (Bx wz g 145 [.slice uits.a uits.n uits.c,.int .i64 m.id,.int .i64 m.rid,.slice ums.a ums.n ums.c,.slice none 0 0,.slice ulv.a ulv.n ulv.c,.slice utx.a utx.n utx.c,.int .i64 m.rd,.int .i64 m.se,.int .i64 m.li,.int .i64 m.he,.int .i64 m.la.c,.int .i64 m.la.r,.int .i64 m.la.q,.int .i64 m.la.a,.int .i64 m.la.b,.slice uws.a uws.n uws.c]):=OB;clear OB TB))
  go_ret
  have Yits:=Xits.out.keepb HG0.out ((((((((K1.out.trans K2.out).trans K3.out).trans K4.out).trans K5.out).trans K6.out).trans K7.out).trans K8.out).trans K9.out) (by decide)
  have Yms:=Xms.out.keepb BXms.out (((((((K2.out.trans K3.out).trans K4.out).trans K5.out).trans K6.out).trans K7.out).trans K8.out).trans K9.out) (by decide)
  have Ylv:=Xlv.out.keepb BXlv.out ((((K5.out.trans K6.out).trans K7.out).trans K8.out).trans K9.out) (by decide)
  have Ytx:=Xtx.out.keepb BXtx.out ((K7.out.trans K8.out).trans K9.out) (by decide)
  have Yws:=Xws.out.keepb BXws.out K9.out (by decide)
  have gK1:=K1.out.size
  have gK2:=K2.out.size
  have gK3:=K3.out.size
  have gK4:=K4.out.size
  have gK5:=K5.out.size
  have gK6:=K6.out.size
  have gK7:=K7.out.size
  have gK8:=K8.out.size
  have gK9:=K9.out.size
  have e1:=LOms.out
  have e2:=LOlv.out
  have e3:=LOtx.out
  have e4:=LOws.out
  have e5:=zW.out
  have e6:=zW1.out
  refine⟨g,⟨ums,uits,ulv,utx,uws⟩,rfl,HG.out,⟨Yms.down (by omega),Yits.down (by omega),Ylv.down (by omega),Ytx.down (by omega),Yws.down (by omega),?_,?_,?_⟩,by omega,HB.out⟩
  · exact fun k h1 h2=>by have:=(Xms.out.lt k h1).2;have:=(Xlv.out.lt k h2).1;omega
  · exact fun k h1 h2=>by have:=(Xms.out.lt k h1).2;have:=(Xws.out.lt k h2).1;omega
  · exact fun k h1 h2=>by have:=(Xlv.out.lt k h1).2;have:=(Xws.out.lt k h2).1;omega
theorem mate_any(m:Mt)(u:Mv)(it:Sv)(g:Nat)(w:World)(h:Hid (MbB w g m u it)):
    Calls Tryz.prog 85 #[.pointer (some ⟨g,0,none⟩)] w fun e w'=>e=.returned (.agg #[.int .i64 m.id,.int .i64 m.rid,.slice u.ms.a u.ms.n u.ms.c,.slice u.its.a u.its.n u.its.c,.slice u.lv.a u.lv.n u.lv.c,.slice u.tx.a u.tx.n u.tx.c,.int .i64 m.rd,.int .i64 m.se,.int .i64 m.li,.int .i64 m.he,.int .i64 m.la.c,.int .i64 m.la.r,.int .i64 m.la.q,.int .i64 m.la.a,.int .i64 m.la.b,.slice u.ws.a u.ws.n u.ws.c])∧MbB w' g m u u.its∧KeepBut g w w':=by
  have HG:Hid (Bx (w.alloc (.cells #[.int .i64 0,.int .i64 0,.slice none 0 0,.slice none 0 0,.slice none 0 0,.slice none 0 0,.int .i64 0,.int .i64 0,.int .i64 0,.int .i64 0,.int .i64 0,.int .i64 0,.int .i64 0,.int .i64 0,.int .i64 0,.slice none 0 0] 41)) g 145 [.slice u.its.a u.its.n u.its.c,.int .i64 m.id,.int .i64 m.rid,.slice u.ms.a u.ms.n u.ms.c,.slice it.a it.n it.c,.slice u.lv.a u.lv.n u.lv.c,.slice u.tx.a u.tx.n u.tx.c,.int .i64 m.rd,.int .i64 m.se,.int .i64 m.li,.int .i64 m.he,.int .i64 m.la.c,.int .i64 m.la.r,.int .i64 m.la.q,.int .i64 m.la.a,.int .i64 m.la.b,.slice u.ws.a u.ws.n u.ws.c]):=h.out.later ((Below.refl _ _).alloc (Nat.le_refl _) _)
  have HR:Hid (Bx (w.alloc (.cells #[.int .i64 0,.int .i64 0,.slice none 0 0,.slice none 0 0,.slice none 0 0,.slice none 0 0,.int .i64 0,.int .i64 0,.int .i64 0,.int .i64 0,.int .i64 0,.int .i64 0,.int .i64 0,.int .i64 0,.int .i64 0,.slice none 0 0] 41)) w.heap.size 41 [.int .i64 0,.int .i64 0,.slice none 0 0,.slice none 0 0,.slice none 0 0,.slice none 0 0,.int .i64 0,.int .i64 0,.int .i64 0,.int .i64 0,.int .i64 0,.int .i64 0,.int .i64 0,.int .i64 0,.int .i64 0,.slice none 0 0]):=Bx.new w 41 _
  have HK:Hid (KeepBut g w (w.alloc (.cells #[.int .i64 0,.int .i64 0,.slice none 0 0,.slice none 0 0,.slice none 0 0,.slice none 0 0,.int .i64 0,.int .i64 0,.int .i64 0,.int .i64 0,.int .i64 0,.int .i64 0,.int .i64 0,.int .i64 0,.int .i64 0,.slice none 0 0] 41))):=qBb ((Below.refl _ _).alloc (Nat.le_refl _) _)
  have zg:g<w.heap.size:=Bx.lt h.out
  go_enter Tryz.func85,Tryz.ntmps85
  go_wp2_with (first|(refine qBe rfl 124 _ rfl g 0 rfl 145 _ HG.out (.slice u.its.a u.its.n u.its.c) rfl _ Tryz.underlying124 rfl ?_)|(refine qAg rfl 38 _ _ rfl g 4 rfl 145 _ HG.out (.slice u.its.a u.its.n u.its.c) rfl (by simp) rfl Tryz.sizeIs [.slice u.its.a u.its.n u.its.c,.int .i64 m.id,.int .i64 m.rid,.slice u.ms.a u.ms.n u.ms.c,.slice u.its.a u.its.n u.its.c,.slice u.lv.a u.lv.n u.lv.c,.slice u.tx.a u.tx.n u.tx.c,.int .i64 m.rd,.int .i64 m.se,.int .i64 m.li,.int .i64 m.he,.int .i64 m.la.c,.int .i64 m.la.r,.int .i64 m.la.q,.int .i64 m.la.a,.int .i64 m.la.b,.slice u.ws.a u.ws.n u.ws.c] rfl ?_;intro w1 OB TB;have HR:Hid (Bx w1 w.heap.size 41 [.int .i64 0,.int .i64 0,.slice none 0 0,.slice none 0 0,.slice none 0 0,.slice none 0 0,.int .i64 0,.int .i64 0,.int .i64 0,.int .i64 0,.int .i64 0,.int .i64 0,.int .i64 0,.int .i64 0,.int .i64 0,.slice none 0 0]):=HR.out.turn TB (by omega);have HK:Hid (KeepBut g w w1):=HK.out.trans TB.keep;have HG1:Hid (Bx w1 g 145 [.slice u.its.a u.its.n u.its.c,.int .i64 m.id,.int .i64 m.rid,.slice u.ms.a u.ms.n u.ms.c,.slice u.its.a u.its.n u.its.c,.slice u.lv.a u.lv.n u.lv.c,.slice u.tx.a u.tx.n u.tx.c,.int .i64 m.rd,.int .i64 m.se,.int .i64 m.li,.int .i64 m.he,.int .i64 m.la.c,.int .i64 m.la.r,.int .i64 m.la.q,.int .i64 m.la.a,.int .i64 m.la.b,.slice u.ws.a u.ws.n u.ws.c]):=OB;clear OB TB)|(refine qAb rfl 41 _ rfl g 1 rfl 145 _ HG1.out [.int .i64 m.id,.int .i64 m.rid,.slice u.ms.a u.ms.n u.ms.c,.slice u.its.a u.its.n u.its.c,.slice u.lv.a u.lv.n u.lv.c,.slice u.tx.a u.tx.n u.tx.c,.int .i64 m.rd,.int .i64 m.se,.int .i64 m.li,.int .i64 m.he,.int .i64 m.la.c,.int .i64 m.la.r,.int .i64 m.la.q,.int .i64 m.la.a,.int .i64 m.la.b,.slice u.ws.a u.ws.n u.ws.c] rfl _ Tryz.underlying41 rfl Tryz.sizeM ?_)|(refine qAf rfl 41 _ _ rfl w.heap.size 0 rfl 41 _ HR.out [.int .i64 m.id,.int .i64 m.rid,.slice u.ms.a u.ms.n u.ms.c,.slice u.its.a u.its.n u.its.c,.slice u.lv.a u.lv.n u.lv.c,.slice u.tx.a u.tx.n u.tx.c,.int .i64 m.rd,.int .i64 m.se,.int .i64 m.li,.int .i64 m.he,.int .i64 m.la.c,.int .i64 m.la.r,.int .i64 m.la.q,.int .i64 m.la.a,.int .i64 m.la.b,.slice u.ws.a u.ws.n u.ws.c] rfl (by simp) Tryz.sizeM rfl [.int .i64 m.id,.int .i64 m.rid,.slice u.ms.a u.ms.n u.ms.c,.slice u.its.a u.its.n u.its.c,.slice u.lv.a u.lv.n u.lv.c,.slice u.tx.a u.tx.n u.tx.c,.int .i64 m.rd,.int .i64 m.se,.int .i64 m.li,.int .i64 m.he,.int .i64 m.la.c,.int .i64 m.la.r,.int .i64 m.la.q,.int .i64 m.la.a,.int .i64 m.la.b,.slice u.ws.a u.ws.n u.ws.c] rfl ?_;intro wz RZ TZ))
  refine bodyPost_ret (qAw Tryz.results85 w.heap.size 41 [.int .i64 m.id,.int .i64 m.rid,.slice u.ms.a u.ms.n u.ms.c,.slice u.its.a u.its.n u.its.c,.slice u.lv.a u.lv.n u.lv.c,.slice u.tx.a u.tx.n u.tx.c,.int .i64 m.rd,.int .i64 m.se,.int .i64 m.li,.int .i64 m.he,.int .i64 m.la.c,.int .i64 m.la.r,.int .i64 m.la.q,.int .i64 m.la.a,.int .i64 m.la.b,.slice u.ws.a u.ws.n u.ws.c] _ rfl RZ Tryz.underlying41 rfl Tryz.sizeM) rfl ?_
  refine⟨rfl,HG1.out.turn TZ (by omega),?_⟩
  have k1:=HK.out
  exact⟨TZ.os.trans k1.os,TZ.tape.trans k1.tape,TZ.output.trans k1.output,Nat.le_trans k1.size (Nat.le_of_eq TZ.size.symm),fun k hk hne=>(TZ.block k (by omega)).trans (k1.block k hk hne)⟩
/-- whether texts are short. -/
def fitB(ts:List ByteArray):Bool:=ts.all fun t=>decide (t.size≤60)
theorem fitB_true{ts:List ByteArray}:fitB ts=true↔ ∀t∈ts,t.size≤60:=by
  unfold fitB
  simp[List.all_eq_true]
theorem fitB_step{ts:List ByteArray}{k:Nat}(h: ∀t∈ts.take k,t.size≤60)(hk:k<ts.length)(hs:ts[k].size≤60): ∀t∈ts.take (k+1),t.size≤60:=by
  intro t ht
  rw[List.take_succ_eq_append_getElem hk]at ht
  rcases List.mem_append.1 ht with h1|h1
  · exact h t h1
  · simp at h1;subst h1;exact hs
theorem fitB_bad{ts:List ByteArray}{k:Nat}(hk:k<ts.length)(hs:60<ts[k].size):fitB ts=false:=by
  cases h:fitB ts with
  |false=>rfl
  |true=>have:=fitB_true.1 h _ (List.getElem_mem hk);omega
theorem fitB_all{ts:List ByteArray}{k:Nat}(h: ∀t∈ts.take k,t.size≤60)(hk:ts.length≤k):fitB ts=true:=by
  rw[List.take_of_length_le hk]at h
  exact fitB_true.2 h
/-- whether a number is a level. -/
def lvB(l:Int):Bool:=decide (1≤l∧l≤2)
def lvsB(lv:List Int):Bool:=lv.all lvB
/-- whether it may stand there to be said. -/
def sayB(lv:List Int)(tx:List ByteArray):Bool:=decide (tx.length≤20)&&(decide (lv.length=tx.length)&&(lvsB lv&&fitB tx))
theorem fits_any(ao:Option Addr)(cap:Nat)(ts:List ByteArray)(w:World)(hx:Hid (TextsAt w ao ts))(hl:ts.length≤1048576):
    Calls Tryz.prog 149 #[.slice ao ts.length cap] w fun e w'=>e=.returned (.bool (fitB ts))∧w'=w:=by
  go_enter Tryz.func149,Tryz.ntmps149
  go_wp2
  go_loop [7] (fun i=>∃k:Nat,k≤ts.length∧i=.int .i64 k∧Hid (∀t∈ts.take k,t.size≤60)) (fun i=>ts.length - (intOf i).toNat)
  case atStart=>exact⟨0,Nat.zero_le _,rfl,fun t ht=>by simp at ht⟩
  case round=>
    obtain⟨k,hk,rfl,hst⟩:=hrel
    by_cases hlt:k<ts.length
    · obtain ⟨b, off, rfl, hbb, hc⟩ := hx.out k hlt
      obtain⟨x,ht⟩: ∃x,x=ts[k]:=⟨_,rfl⟩
      rw[←ht]at hc
      have HT:Hid (x=ts[k]):=ht
      clear ht
      by_cases h1:60<x.size
      · have hd : decide (60 < (x.size : Int)) = true := by simp; omega
        go_wp2
        go_ret
        exact⟨by rw[fitB_bad hlt (by rw[←HT.out];exact h1)];rfl,rfl⟩
      · have hd : decide (60 < (x.size : Int)) = false := by simp; omega
        go_wp2
        go_round
        case rel=>exact⟨k+1,by omega,by go_num,fitB_step hst.out hlt (by rw[←HT.out];omega)⟩
        case measure=>simp[intOf];omega
    · go_wp2
      go_ret
      exact⟨by rw[fitB_all hst.out (by omega)];rfl,rfl⟩
theorem isLevel_any(l:Int)(w:World):Calls Tryz.prog 148 #[.int .i64 l] w fun e w'=>e=.returned (.bool (lvB l))∧w'=w:=by
  unfold lvB
  by_cases h1:l=1
  · subst h1
    go_enter Tryz.func148,Tryz.ntmps148
    go_wp2
    go_ret
    exact⟨rfl,rfl⟩
  · by_cases h2 : l = 2
    · subst h2
      go_enter Tryz.func148,Tryz.ntmps148
      go_wp2
      go_ret
      exact⟨rfl,rfl⟩
    · have h3 : decide (1 ≤ l ∧ l ≤ 2) = false := by simp; omega
      have HD:Hid (decide (1≤l∧l≤2)=false):=h3
      have k1:(l==1)=false:=by simp;exact h1
      have k2:(l==2)=false:=by simp;exact h2
      clear h3 h1 h2
      go_enter Tryz.func148,Tryz.ntmps148
      go_wp2
      go_ret
      exact⟨by rw[HD.out];rfl,rfl⟩
theorem filt_next{lv:List Int}{k:Nat}(hk:k<lv.length):(lv.take (k+1)).filter lvB=(lv.take k).filter lvB++if lvB lv[k]=true then[lv[k]]else[]:=by
  rw[List.take_succ_eq_append_getElem hk,List.filter_append]
  congr 1
  by_cases h:lvB lv[k]=true<;>simp[h]
theorem keptI_any(ao:Option Addr)(cap:Nat)(lv:List Int)(w:World)(hx:Hid (IntsAt w ao lv))(hl:lv.length≤1048576):
    Calls Tryz.prog 147 #[.slice ao lv.length cap,.func (Fn.func 148) #[] #[]] w fun e w'=>∃v,e=.returned v∧OwnI w' w.heap.size v (lv.filter lvB)∧Below w.heap.size w w':=by
  have S0:Hid (OwnI (w.alloc (.cells #[] 3)) w.heap.size (.slice (some ⟨w.heap.size,0,none⟩) 0 0) []):=OwnI.made w w.heap.size (Nat.le_refl _)
  have B0:Hid (Below w.heap.size w (w.alloc (.cells #[] 3))):=(Below.refl _ _).alloc (Nat.le_refl _) _
  go_enter Tryz.func147,Tryz.ntmps147
  go_wp2
  go_loopw [5,11] (fun v i wr=>∃(k:Nat),k≤lv.length∧i=.int .i64 k∧Hid (OwnI wr w.heap.size v ((lv.take k).filter lvB))∧Hid (Below w.heap.size w wr)) (fun _ i _=>lv.length - (intOf i).toNat)
  case atStart=>exact⟨0,Nat.zero_le _,rfl,S0,B0⟩
  case round=>
    clear S0 B0
    obtain⟨k,hk,rfl,hS,hb⟩:=hrel
    by_cases hlt:k<lv.length
    · obtain ⟨bb, off, rfl, hbb, h0⟩ := hx.out.stays hb.out k hlt
      have hst:=filt_next hlt
      have HP:Hid (∃x:Int,x=lv[k]):=⟨_,rfl⟩
      obtain⟨x,hp⟩:=HP.out
      rw[←hp]at h0 hst
      have HST:Hid _:=hst
      clear hp HP hst
      have S1:=hS.out
      have B1:=hb.out
      have z1:w.heap.size≤wr.heap.size:=B1.size
      have hlk:((lv.take k).filter lvB).length≤1048576:=Nat.le_trans (List.length_filter_le _ _) (by rw[List.length_take];omega)
      go_wp2_with fail
      refine(isLevel_any x _).mono ?_
      rintro e w1 ⟨rfl,rfl⟩
      obtain⟨R,hR⟩: ∃R,lvB x=R:=⟨_,rfl⟩
      rw[hR]
      have HR:Hid (lvB x=R):=hR
      have S1:Hid _:=S1
      have B1:Hid _:=B1
      clear hR hS hb h0
      cases R with
      | true =>
        have HLS:Hid ((lv.take (k+1)).filter lvB=(lv.take k).filter lvB++[x]):=by
          have:=HST.out
          rwa [if_pos HR.out]at this
        clear HST
        go_wp2_with (at_builtin;refine wpList_pushI rfl _ _ 22 rfl Tryz.underlying22 Tryz.info3' w.heap.size u5 _ rfl S1.out x rfl (by omega) z1 ?_;intro v2 w2 o2 b2)
        have S2:Hid (OwnI w2 w.heap.size v2 ((lv.take (k+1)).filter lvB)):=by
          rw[HLS.out]
          exact o2
        have B2:Hid (Below w.heap.size w w2):=B1.out.trans b2
        go_roundw
        case rel=>exact⟨k+1,by omega,by go_num,S2,B2⟩
        case measure=>simp[intOf];omega
      | false =>
        have HLS:Hid ((lv.take (k+1)).filter lvB=(lv.take k).filter lvB):=by
          have:=HST.out
          rwa [if_neg (by rw[HR.out];simp),List.append_nil]at this
        clear HST
        have S2:=S1.out
        rw[←HLS.out]at S2
        have S3:Hid _:=S2
        clear S2
        go_wp2_with fail
        go_roundw
        case rel=>exact⟨k+1,by omega,by go_num,S3.out,B1⟩
        case measure=>simp[intOf];omega
    · obtain rfl : k = lv.length := by omega
      go_wp2_with fail
      go_ret
      exact⟨_,rfl,by have:=hS.out;rw[List.take_length]at this;exact this,hb.out⟩
theorem filt_all{lv:List Int}:(lv.filter lvB).length=lv.length↔lvsB lv=true:=by
  unfold lvsB
  rw[List.length_filter_eq_length_iff,List.all_eq_true]
theorem toSay_any(s u:Sv)(lv:List Int)(tx:List ByteArray)(w:World)(hx:Hid (RI w s.v lv))(hy:Hid (RT w u.v tx))(hl:lv.length≤1048576)(ht:tx.length≤1048576):
    Calls Tryz.prog 135 #[.slice s.a s.n s.c,.slice u.a u.n u.c] w fun e w'=>e=.returned (.bool (sayB lv tx))∧Below w.heap.size w w':=by
  obtain⟨ao,cap,e1,h1⟩:=hx.out
  obtain⟨at_,ct,e2,h2⟩:=hy.out
  unfold Sv.v at e1 e2
  rw[e1,e2]
  clear e1 e2 hx hy
  have X1:Hid (IntsAt w ao lv):=h1
  have Y1:Hid (TextsAt w at_ tx):=h2
  clear h1 h2
  unfold sayB
  by_cases c1:tx.length≤20
  · rw [decide_eq_true c1]
    have d1:(tx.length:Int)≤20:=by omega
    by_cases c2:lv.length=tx.length
    · rw [decide_eq_true c2]
      have C2:Hid (lv.length=tx.length):=c2
      have d2:((lv.length:Int)==(tx.length:Int))=true:=by simp;omega
      clear c2
      go_enter Tryz.func135,Tryz.ntmps135
      go_wp2_with fail
      refine(keptI_any ao cap lv w X1 hl).mono ?_
      rintro e w1 ⟨v1,rfl,o1,b1⟩
      obtain⟨ao1,cap1,hf⟩:=o1.form
      subst hf
      have Y2:Hid (TextsAt w1 at_ tx):=Y1.out.stays b1
      have B1:Hid (Below w.heap.size w w1):=b1
      clear o1 b1
      by_cases c3:(lv.filter lvB).length=lv.length
      · have E3 : Hid (lvsB lv = true) := filt_all.1 c3
        have d3:(((lv.filter lvB).length:Int)==(lv.length:Int))=true:=by simp;omega
        clear c3
        go_wp2_with fail
        refine(fits_any at_ ct tx w1 Y2 ht).mono ?_
        rintro e w2 ⟨rfl,rfl⟩
        go_wp2_with fail
        go_ret
        exact⟨by rw[E3.out];rfl,B1.out⟩
      · have E3:Hid (lvsB lv=false):=by
          cases h:lvsB lv with
          |false=>rfl
          |true=>exact absurd (filt_all.2 h) c3
        have d3:(((lv.filter lvB).length:Int)==(lv.length:Int))=false:=by simp;omega
        clear c3
        go_wp2_with fail
        go_ret
        exact⟨by rw[E3.out];rfl,B1.out⟩
    · rw [decide_eq_false c2]
      have d2:((lv.length:Int)==(tx.length:Int))=false:=by simp;omega
      clear c2
      go_enter Tryz.func135,Tryz.ntmps135
      go_wp2_with fail
      go_ret
      exact⟨rfl,Below.refl _ _⟩
  · rw [decide_eq_false c1]
    have d1: ¬(tx.length:Int)≤20:=by omega
    go_enter Tryz.func135,Tryz.ntmps135
    go_wp2_with fail
    go_ret
    exact⟨rfl,Below.refl _ _⟩
/-- whether all of a token is zero. -/
def ntB(c r q a b:Int)(ws:List Int):Bool:=(c==0)&&((r==0)&&((q==0)&&((a==0)&&((b==0)&&((ws.length:Int)==0)))))
theorem qFa(c r q a b:Int)(s:Sv)(ws:List Int)(w:World)(hn:Hid (s.n=ws.length)):
    Calls Tryz.prog 112 #[.agg #[.int .i64 c,.int .i64 r,.int .i64 q,.int .i64 a,.int .i64 b,.slice s.a s.n s.c]] w fun e w'=>e=.returned (.bool (ntB c r q a b ws))∧Below w.heap.size w w':=by
  unfold ntB
  rw[←hn.out]
  clear hn
  have HL:Hid (Below w.heap.size w (w.alloc (.cells #[.int .i64 c,.int .i64 r,.int .i64 q,.int .i64 a,.int .i64 b,.slice s.a s.n s.c] 39))):=(Below.refl _ _).alloc (Nat.le_refl _) _
  obtain⟨R0,k0⟩: ∃R,(c==0)=R:=⟨_,rfl⟩
  rw[k0]
  cases R0 with
  | false =>
    go_enter Tryz.func112,Tryz.ntmps112
    go_wp2_with fail
    go_ret
    exact⟨rfl,HL.out⟩
  | true =>
    obtain⟨R1,k1⟩: ∃R,(r==0)=R:=⟨_,rfl⟩
    rw[k1]
    cases R1 with
    | false =>
      go_enter Tryz.func112,Tryz.ntmps112
      go_wp2_with fail
      go_ret
      exact⟨rfl,HL.out⟩
    | true =>
      obtain⟨R2,k2⟩: ∃R,(q==0)=R:=⟨_,rfl⟩
      rw[k2]
      cases R2 with
      | false =>
        go_enter Tryz.func112,Tryz.ntmps112
        go_wp2_with fail
        go_ret
        exact⟨rfl,HL.out⟩
      | true =>
        obtain⟨R3,k3⟩: ∃R,(a==0)=R:=⟨_,rfl⟩
        rw[k3]
        cases R3 with
        | false =>
          go_enter Tryz.func112,Tryz.ntmps112
          go_wp2_with fail
          go_ret
          exact⟨rfl,HL.out⟩
        | true =>
          obtain⟨R4,k4⟩: ∃R,(b==0)=R:=⟨_,rfl⟩
          rw[k4]
          cases R4 with
          | false =>
            go_enter Tryz.func112,Tryz.ntmps112
            go_wp2_with fail
            go_ret
            exact⟨rfl,HL.out⟩
          | true =>
            obtain⟨R5,k5⟩: ∃R,((s.n:Int)==0)=R:=⟨_,rfl⟩
            rw[k5]
            cases R5 with
            | false =>
              go_enter Tryz.func112,Tryz.ntmps112
              go_wp2_with fail
              go_ret
              exact⟨rfl,HL.out⟩
            | true =>
              go_enter Tryz.func112,Tryz.ntmps112
              go_wp2_with fail
              go_ret
              exact⟨rfl,HL.out⟩
theorem sameInts_nil(s:Sv)(w:World):Calls Tryz.prog 144 #[.slice s.a s.n s.c,.slice none 0 0] w fun e w'=>e=.returned (.bool ((s.n:Int)==0))∧w'=w:=by
  obtain⟨sa,sn,sc⟩:=s
  by_cases h:sn=0
  · subst h
    go_enter Tryz.func144,Tryz.ntmps144
    go_wp2
    refine wp_loop_rounds 1 ?_
    rw[rounds_succ]
    go_wp2
    go_ret
    exact⟨rfl,rfl⟩
  · have k : ((sn : Int) == 0) = false := by simp; omega
    have K:Hid (((sn:Int)==0)=false):=k
    have k2:((sn:Int) !=0)=true:=by simp;omega
    clear h k
    go_enter Tryz.func144,Tryz.ntmps144
    go_wp2
    go_ret
    exact⟨by rw[K.out];rfl,rfl⟩
theorem sameZero_any(c r q a b:Int)(s:Sv)(w:World):
    Calls Tryz.prog 129 #[.agg #[.int .i64 c,.int .i64 r,.int .i64 q,.int .i64 a,.int .i64 b,.slice s.a s.n s.c],.agg #[.int .i64 0,.int .i64 0,.int .i64 0,.int .i64 0,.int .i64 0,.slice none 0 0]] w fun e w'=>e=.returned (.bool ((c==0)&&((r==0)&&((q==0)&&((a==0)&&((b==0)&&((s.n:Int)==0)))))))∧Below w.heap.size w w':=by
  have HL:Hid (Below w.heap.size w ((w.alloc (.cells #[.int .i64 c,.int .i64 r,.int .i64 q,.int .i64 a,.int .i64 b,.slice s.a s.n s.c] 39)).alloc (.cells #[.int .i64 0,.int .i64 0,.int .i64 0,.int .i64 0,.int .i64 0,.slice none 0 0] 39))):=((Below.refl _ _).alloc (Nat.le_refl _) _).alloc (by simp) _
  obtain⟨R0,k0⟩: ∃R,(c==0)=R:=⟨_,rfl⟩
  rw[k0]
  cases R0 with
  | false =>
    go_enter Tryz.func129,Tryz.ntmps129
    go_wp2_with fail
    go_ret
    exact⟨rfl,HL.out⟩
  | true =>
    obtain⟨R1,k1⟩: ∃R,(r==0)=R:=⟨_,rfl⟩
    rw[k1]
    cases R1 with
    | false =>
      go_enter Tryz.func129,Tryz.ntmps129
      go_wp2_with fail
      go_ret
      exact⟨rfl,HL.out⟩
    | true =>
      obtain⟨R2,k2⟩: ∃R,(q==0)=R:=⟨_,rfl⟩
      rw[k2]
      cases R2 with
      | false =>
        go_enter Tryz.func129,Tryz.ntmps129
        go_wp2_with fail
        go_ret
        exact⟨rfl,HL.out⟩
      | true =>
        obtain⟨R3,k3⟩: ∃R,(a==0)=R:=⟨_,rfl⟩
        rw[k3]
        cases R3 with
        | false =>
          go_enter Tryz.func129,Tryz.ntmps129
          go_wp2_with fail
          go_ret
          exact⟨rfl,HL.out⟩
        | true =>
          obtain⟨R4,k4⟩: ∃R,(b==0)=R:=⟨_,rfl⟩
          rw[k4]
          cases R4 with
          | false =>
            go_enter Tryz.func129,Tryz.ntmps129
            go_wp2_with fail
            go_ret
            exact⟨rfl,HL.out⟩
          | true =>
            go_enter Tryz.func129,Tryz.ntmps129
            go_wp2_with fail
            refine(sameInts_nil s _).mono ?_
            rintro e w1 ⟨rfl,rfl⟩
            go_wp2_with fail
            go_ret
            exact⟨rfl,HL.out⟩
theorem blank_any(c r q a b:Int)(s:Sv)(ws:List Int)(w:World)(hn:Hid (s.n=ws.length)):
    Calls Tryz.prog 103 #[.agg #[.int .i64 c,.int .i64 r,.int .i64 q,.int .i64 a,.int .i64 b,.slice s.a s.n s.c]] w fun e w'=>e=.returned (.bool (ntB c r q a b ws))∧Below w.heap.size w w':=by
  unfold ntB
  rw[←hn.out]
  clear hn
  go_enter Tryz.func103,Tryz.ntmps103
  go_wp2_with fail
  refine(sameZero_any c r q a b s _).mono ?_
  rintro e w1 ⟨rfl,b1⟩
  go_wp2_with fail
  go_ret
  exact⟨rfl,((Below.refl _ _).alloc (Nat.le_refl _) _).trans (b1.mono (by simp))⟩
/-- the first k of them may be said. -/
def SaySt(lv:List Int)(tx:List ByteArray)(k:Nat):Prop:=(∀t∈tx.take k,t.size≤60)∧∀l∈lv.take k,lvB l=true
theorem say_step{lv:List Int}{tx:List ByteArray}{k:Nat}(h:SaySt lv tx k)(h1:k<lv.length)(h2:k<tx.length)(hl:lvB lv[k]=true)(ht:tx[k].size≤60):SaySt lv tx (k+1):=by
  refine⟨fitB_step h.1 h2 ht,fun l hm=>?_⟩
  rw[List.take_succ_eq_append_getElem h1]at hm
  rcases List.mem_append.1 hm with h3|h3
  · exact h.2 l h3
  · simp at h3;subst h3;exact hl
theorem say_bad1{lv:List Int}{tx:List ByteArray}{k:Nat}(h1:k<lv.length)(hl:lvB lv[k]=false):sayB lv tx=false:=by
  have:lvsB lv=false:=by
    cases h:lvsB lv with
    |false=>rfl
    |true=>unfold lvsB at h;have:=List.all_eq_true.1 h _ (List.getElem_mem h1);rw[hl]at this;cases this
  unfold sayB;rw[this];simp
theorem say_bad2{lv:List Int}{tx:List ByteArray}{k:Nat}(h1:k<tx.length)(hl:60<tx[k].size):sayB lv tx=false:=by
  unfold sayB;rw[fitB_bad h1 hl];simp
theorem say_end{lv:List Int}{tx:List ByteArray}{k:Nat}(h:SaySt lv tx k)(hk: ¬(k<tx.length∧k<lv.length)):sayB lv tx=(decide (tx.length≤20)&&decide (lv.length=tx.length)):=by
  unfold sayB
  by_cases he:lv.length=tx.length
  · have h1 := fitB_all (k := k) h.1 (by omega)
    have h2:lvsB lv=true:=by
      unfold lvsB
      have:=h.2
      rw[List.take_of_length_le (by omega)]at this
      exact List.all_eq_true.2 this
    rw[h1,h2];simp
  · simp[he]
theorem tenTexts_any(s u:Sv)(lv:List Int)(tx:List ByteArray)(w:World)(hx:Hid (RI w s.v lv))(hy:Hid (RT w u.v tx))(hl:lv.length≤1048576)(ht:tx.length≤1048576):
    Calls Tryz.prog 105 #[.slice s.a s.n s.c,.slice u.a u.n u.c] w fun e w'=>e=.returned (.bool (sayB lv tx))∧w'=w:=by
  obtain⟨ao,cap,e1,h1⟩:=hx.out
  obtain⟨at_,ct,e2,h2⟩:=hy.out
  unfold Sv.v at e1 e2
  rw[e1,e2]
  clear e1 e2 hx hy
  have X1:Hid (IntsAt w ao lv):=h1
  have Y1:Hid (TextsAt w at_ tx):=h2
  clear h1 h2
  go_enter Tryz.func105,Tryz.ntmps105
  go_wp2
  go_loop [5] (fun i=>∃k:Nat,k≤tx.length∧i=.int .i64 k∧Hid (SaySt lv tx k)) (fun i=>tx.length - (intOf i).toNat)
  case atStart=>exact⟨0,Nat.zero_le _,rfl,⟨fun t h=>by simp at h,fun t h=>by simp at h⟩⟩
  case round=>
    obtain⟨k,hk,rfl,hst⟩:=hrel
    by_cases hlt:k<tx.length
    · have i1 : (k : Int) < (tx.length : Int) := by omega
      by_cases hlv:k<lv.length
      · have i2 : (k : Int) < (lv.length : Int) := by omega
        obtain⟨b,off,rfl,hbb,hc⟩:=Y1.out k hlt
        obtain⟨b',off',rfl,hbb',hc'⟩:=X1.out k hlv
        obtain⟨x,hx⟩: ∃x,x=tx[k]:=⟨_,rfl⟩
        obtain⟨l,hll⟩: ∃l,l=lv[k]:=⟨_,rfl⟩
        rw[←hx]at hc
        rw[←hll]at hc'
        have HX:Hid (x=tx[k]):=hx
        have HV:Hid (l=lv[k]):=hll
        clear hx hll
        go_wp2_with fail
        refine(in_any l 1 2 w).mono ?_
        rintro e w1 ⟨rfl,rfl⟩
        obtain⟨R,hR⟩: ∃R,decide (1≤l∧l≤2)=R:=⟨_,rfl⟩
        rw[hR]
        have HR:Hid (lvB l=R):=hR
        clear hR
        cases R with
        | false =>
          go_wp2_with fail
          go_ret
          exact⟨by rw[say_bad1 hlv (by rw[←HV.out];exact HR.out)];rfl,rfl⟩
        | true =>
          by_cases h60:60<x.size
          · have hd : decide (60 < (x.size : Int)) = true := by simp; omega
            go_wp2_with fail
            go_ret
            exact⟨by rw[say_bad2 hlt (by rw[←HX.out];exact h60)];rfl,rfl⟩
          · have hd : decide (60 < (x.size : Int)) = false := by simp; omega
            go_wp2_with fail
            go_round
            case rel=>exact⟨k+1,by omega,by go_num,say_step hst.out hlv hlt (by rw[←HV.out];exact HR.out) (by rw[←HX.out];omega)⟩
            case measure=>simp[intOf];omega
      · have i2 : ¬ (k : Int) < (lv.length : Int) := by omega
        have HE:Hid (sayB lv tx=(decide (tx.length≤20)&&decide (lv.length=tx.length))):=say_end hst.out (by omega)
        have c2:((lv.length:Int)==(tx.length:Int))=false:=by simp;omega
        have C2:Hid (decide (lv.length=tx.length)=false):=(by simp;omega:decide (lv.length=tx.length)=false)
        by_cases c1:tx.length≤20
        · have d1 : (tx.length : Int) ≤ 20 := by omega
          go_wp2_with fail
          go_ret
          exact⟨by rw[HE.out,C2.out];simp,rfl⟩
        · have d1 : ¬ (tx.length : Int) ≤ 20 := by omega
          go_wp2_with fail
          go_ret
          exact⟨by rw[HE.out,C2.out];simp,rfl⟩
    · have i1 : ¬ (k : Int) < (tx.length : Int) := by omega
      have HE:Hid (sayB lv tx=(decide (tx.length≤20)&&decide (lv.length=tx.length))):=say_end hst.out (by omega)
      by_cases c1:tx.length≤20
      · have d1 : (tx.length : Int) ≤ 20 := by omega
        have D1:Hid (decide (tx.length≤20)=true):=(by simp;omega:decide (tx.length≤20)=true)
        by_cases c2:lv.length=tx.length
        · have k2 : ((lv.length : Int) == (tx.length : Int)) = true := by simp; omega
          have C2:Hid (decide (lv.length=tx.length)=true):=(by simp;omega:decide (lv.length=tx.length)=true)
          clear c2
          go_wp2_with fail
          go_ret
          exact⟨by rw[HE.out,C2.out,D1.out];rfl,rfl⟩
        · have k2 : ((lv.length : Int) == (tx.length : Int)) = false := by simp; omega
          have C2:Hid (decide (lv.length=tx.length)=false):=(by simp;omega:decide (lv.length=tx.length)=false)
          clear c2
          go_wp2_with fail
          go_ret
          exact⟨by rw[HE.out,C2.out];simp,rfl⟩
      · have d1 : ¬ (tx.length : Int) ≤ 20 := by omega
        have D1:Hid (decide (tx.length≤20)=false):=(by simp;omega:decide (tx.length≤20)=false)
        go_wp2_with fail
        go_ret
        exact⟨by rw[HE.out,D1.out];rfl,rfl⟩
/-- whether a member is right. -/
def Mt.ok(m:Mt):Bool:=qBc m.rid m.ms&&(inB m.ms m.id&&(iGo 0 m.its&&(sayB m.lv m.tx&&(decide (0≤m.rd∧m.rd≤1000000000)&&(decide (0≤m.se∧m.se≤60)&&(decide (0≤m.li∧m.li≤((aruP m.its:Nat):Int))&&(decide (0≤m.he∧m.he≤((aruP m.its:Nat):Int))&&(ntB m.la.c m.la.r m.la.q m.la.a m.la.b m.la.ws||tkB m.la.c m.la.r m.la.q m.la.a m.la.b m.la.ws))))))))
theorem qBa(m:Mt):m.ok=((qBc m.rid m.ms&&inB m.ms m.id)&&(iGo 0 m.its&&(sayB m.lv m.tx&&(decide (0≤m.rd∧m.rd≤1000000000)&&(decide (0≤m.se∧m.se≤60)&&(decide (0≤m.li∧m.li≤((aruP m.its:Nat):Int))&&(decide (0≤m.he∧m.he≤((aruP m.its:Nat):Int))&&(ntB m.la.c m.la.r m.la.q m.la.a m.la.b m.la.ws||tkB m.la.c m.la.r m.la.q m.la.a m.la.b m.la.ws)))))))):=by
  unfold Mt.ok
  rw[Bool.and_assoc]
theorem mateOk_any(m:Mt)(v:Mv)(w:World)(h:Hid (MtR w m v))(hs:Hid (MtS m)):
    Calls Tryz.prog 113 #[.agg #[.int .i64 m.id,.int .i64 m.rid,.slice v.ms.a v.ms.n v.ms.c,.slice v.its.a v.its.n v.its.c,.slice v.lv.a v.lv.n v.lv.c,.slice v.tx.a v.tx.n v.tx.c,.int .i64 m.rd,.int .i64 m.se,.int .i64 m.li,.int .i64 m.he,.int .i64 m.la.c,.int .i64 m.la.r,.int .i64 m.la.q,.int .i64 m.la.a,.int .i64 m.la.b,.slice v.ws.a v.ws.n v.ws.c]] w fun e w'=>e=.returned (.bool m.ok)∧Below w.heap.size w w':=by
  have HA:Hid (MtB (w.alloc (.cells #[.int .i64 m.id,.int .i64 m.rid,.slice v.ms.a v.ms.n v.ms.c,.slice v.its.a v.its.n v.its.c,.slice v.lv.a v.lv.n v.lv.c,.slice v.tx.a v.tx.n v.tx.c,.int .i64 m.rd,.int .i64 m.se,.int .i64 m.li,.int .i64 m.he,.int .i64 m.la.c,.int .i64 m.la.r,.int .i64 m.la.q,.int .i64 m.la.a,.int .i64 m.la.b,.slice v.ws.a v.ws.n v.ws.c] 41)) w.heap.size 41 m v):=Bx.new w 41 _
  have HL:Hid (Below w.heap.size w (w.alloc (.cells #[.int .i64 m.id,.int .i64 m.rid,.slice v.ms.a v.ms.n v.ms.c,.slice v.its.a v.its.n v.its.c,.slice v.lv.a v.lv.n v.lv.c,.slice v.tx.a v.tx.n v.tx.c,.int .i64 m.rd,.int .i64 m.se,.int .i64 m.li,.int .i64 m.he,.int .i64 m.la.c,.int .i64 m.la.r,.int .i64 m.la.q,.int .i64 m.la.a,.int .i64 m.la.b,.slice v.ws.a v.ws.n v.ws.c] 41))):=(Below.refl _ _).alloc (Nat.le_refl _) _
  have HR:Hid (MtR (w.alloc (.cells #[.int .i64 m.id,.int .i64 m.rid,.slice v.ms.a v.ms.n v.ms.c,.slice v.its.a v.its.n v.its.c,.slice v.lv.a v.lv.n v.lv.c,.slice v.tx.a v.tx.n v.tx.c,.int .i64 m.rd,.int .i64 m.se,.int .i64 m.li,.int .i64 m.he,.int .i64 m.la.c,.int .i64 m.la.r,.int .i64 m.la.q,.int .i64 m.la.a,.int .i64 m.la.b,.slice v.ws.a v.ws.n v.ws.c] 41)) m v):=h.out.stays HL.out
  have LW:Hid (v.ws.n=m.la.ws.length):=RI.len h.out.ws
  obtain⟨⟨c0,c1,c2,c3,c4,c5⟩,⟨c6,c7,c8,c9⟩,c10,c11,c12,c13,c14,c15⟩:=HA.out.cells
  clear h
  go_enter Tryz.func113,Tryz.ntmps113
  go_wp2_with fail
  clear c0 c1 c2 c3 c4 c5 c6 c7 c8 c9 c10 c11 c12 c13 c14 c15
  generalize w.alloc (.cells #[.int .i64 m.id,.int .i64 m.rid,.slice v.ms.a v.ms.n v.ms.c,.slice v.its.a v.its.n v.its.c,.slice v.lv.a v.lv.n v.lv.c,.slice v.tx.a v.tx.n v.tx.c,.int .i64 m.rd,.int .i64 m.se,.int .i64 m.li,.int .i64 m.he,.int .i64 m.la.c,.int .i64 m.la.r,.int .i64 m.la.q,.int .i64 m.la.a,.int .i64 m.la.b,.slice v.ws.a v.ws.n v.ws.c] 41)=W at *
  refine(aruOf_r m.its (show Hid (RIt W v.its.v m.its)from HR.out.its) hs.out.its).mono ?_
  rintro e w1 ⟨rfl,b⟩
  have HA:Hid (MtB w1 w.heap.size 41 m v):=Bx.later HA.out b
  have HR:Hid (MtR w1 m v):=HR.out.stays b
  have HL:Hid (Below w.heap.size w w1):=qAa HL.out b
  clear b
  obtain⟨⟨c0,c1,c2,c3,c4,c5⟩,⟨c6,c7,c8,c9⟩,c10,c11,c12,c13,c14,c15⟩:=HA.out.cells
  go_wp2_with fail
  clear c0 c1 c2 c3 c4 c5 c6 c7 c8 c9 c10 c11 c12 c13 c14 c15
  refine(qAt m.id m.rid v.ms.v m.ms _ HR.out.ms hs.out.ms).mono ?_
  rintro e w2 ⟨rfl,b⟩
  have HA:Hid (MtB w2 w.heap.size 41 m v):=Bx.later HA.out b
  have HR:Hid (MtR w2 m v):=HR.out.stays b
  have HL:Hid (Below w.heap.size w w2):=qAa HL.out b
  clear b
  obtain⟨R,hR⟩: ∃R,(qBc m.rid m.ms&&inB m.ms m.id)=R:=⟨_,rfl⟩
  rw[hR]
  have K0:Hid ((qBc m.rid m.ms&&inB m.ms m.id)=R):=hR
  clear hR
  cases R with
  | false =>
    obtain⟨⟨c0,c1,c2,c3,c4,c5⟩,⟨c6,c7,c8,c9⟩,c10,c11,c12,c13,c14,c15⟩:=HA.out.cells
    go_wp2_with fail
    go_ret
    exact⟨by rw[qBa,K0.out];rfl,HL.out⟩
  | true =>
    obtain⟨⟨c0,c1,c2,c3,c4,c5⟩,⟨c6,c7,c8,c9⟩,c10,c11,c12,c13,c14,c15⟩:=HA.out.cells
    go_wp2_with fail
    clear c0 c1 c2 c3 c4 c5 c6 c7 c8 c9 c10 c11 c12 c13 c14 c15
    refine(itemsOk_r m.its HR.out.its hs.out.its).mono ?_
    rintro e w3 ⟨rfl,b⟩
    have HA:Hid (MtB w3 w.heap.size 41 m v):=Bx.later HA.out b
    have HR:Hid (MtR w3 m v):=HR.out.stays b
    have HL:Hid (Below w.heap.size w w3):=qAa HL.out b
    clear b
    obtain⟨R2,hR⟩: ∃R,(iGo 0 m.its)=R:=⟨_,rfl⟩
    rw[hR]
    have K2:Hid ((iGo 0 m.its)=R2):=hR
    clear hR
    cases R2 with
    | false =>
      obtain⟨⟨c0,c1,c2,c3,c4,c5⟩,⟨c6,c7,c8,c9⟩,c10,c11,c12,c13,c14,c15⟩:=HA.out.cells
      go_wp2_with fail
      go_ret
      exact⟨by rw[qBa,K0.out,K2.out];rfl,HL.out⟩
    | true =>
      obtain⟨⟨c0,c1,c2,c3,c4,c5⟩,⟨c6,c7,c8,c9⟩,c10,c11,c12,c13,c14,c15⟩:=HA.out.cells
      go_wp2_with fail
      clear c0 c1 c2 c3 c4 c5 c6 c7 c8 c9 c10 c11 c12 c13 c14 c15
      refine(toSay_any v.lv v.tx m.lv m.tx _ HR.out.lv HR.out.tx hs.out.lv hs.out.tx).mono ?_
      rintro e w4 ⟨rfl,b⟩
      have HA:Hid (MtB w4 w.heap.size 41 m v):=Bx.later HA.out b
      have HR:Hid (MtR w4 m v):=HR.out.stays b
      have HL:Hid (Below w.heap.size w w4):=qAa HL.out b
      clear b
      obtain⟨R3,hR⟩: ∃R,(sayB m.lv m.tx)=R:=⟨_,rfl⟩
      rw[hR]
      have K3:Hid ((sayB m.lv m.tx)=R3):=hR
      clear hR
      cases R3 with
      | false =>
        obtain⟨⟨c0,c1,c2,c3,c4,c5⟩,⟨c6,c7,c8,c9⟩,c10,c11,c12,c13,c14,c15⟩:=HA.out.cells
        go_wp2_with fail
        go_ret
        exact⟨by rw[qBa,K0.out,K2.out,K3.out];rfl,HL.out⟩
      | true =>
        obtain⟨⟨c0,c1,c2,c3,c4,c5⟩,⟨c6,c7,c8,c9⟩,c10,c11,c12,c13,c14,c15⟩:=HA.out.cells
        go_wp2_with fail
        clear c0 c1 c2 c3 c4 c5 c6 c7 c8 c9 c10 c11 c12 c13 c14 c15
        refine(qAj m.rd 0 1000000000 _).mono ?_
        rintro e w5 ⟨rfl,b⟩
        have HA:Hid (MtB w5 w.heap.size 41 m v):=Bx.later HA.out b
        have HR:Hid (MtR w5 m v):=HR.out.stays b
        have HL:Hid (Below w.heap.size w w5):=qAa HL.out b
        clear b
        obtain⟨R4,hR⟩: ∃R,(decide (0≤m.rd∧m.rd≤1000000000))=R:=⟨_,rfl⟩
        rw[hR]
        have K4:Hid ((decide (0≤m.rd∧m.rd≤1000000000))=R4):=hR
        clear hR
        cases R4 with
        | false =>
          obtain⟨⟨c0,c1,c2,c3,c4,c5⟩,⟨c6,c7,c8,c9⟩,c10,c11,c12,c13,c14,c15⟩:=HA.out.cells
          go_wp2_with fail
          go_ret
          exact⟨by rw[qBa,K0.out,K2.out,K3.out,K4.out];rfl,HL.out⟩
        | true =>
          obtain⟨⟨c0,c1,c2,c3,c4,c5⟩,⟨c6,c7,c8,c9⟩,c10,c11,c12,c13,c14,c15⟩:=HA.out.cells
          go_wp2_with fail
          clear c0 c1 c2 c3 c4 c5 c6 c7 c8 c9 c10 c11 c12 c13 c14 c15
          refine(qAj m.se 0 60 _).mono ?_
          rintro e w6 ⟨rfl,b⟩
          have HA:Hid (MtB w6 w.heap.size 41 m v):=Bx.later HA.out b
          have HR:Hid (MtR w6 m v):=HR.out.stays b
          have HL:Hid (Below w.heap.size w w6):=qAa HL.out b
          clear b
          obtain⟨R5,hR⟩: ∃R,(decide (0≤m.se∧m.se≤60))=R:=⟨_,rfl⟩
          rw[hR]
          have K5:Hid ((decide (0≤m.se∧m.se≤60))=R5):=hR
          clear hR
          cases R5 with
          | false =>
            obtain⟨⟨c0,c1,c2,c3,c4,c5⟩,⟨c6,c7,c8,c9⟩,c10,c11,c12,c13,c14,c15⟩:=HA.out.cells
            go_wp2_with fail
            go_ret
            exact⟨by rw[qBa,K0.out,K2.out,K3.out,K4.out,K5.out];rfl,HL.out⟩
          | true =>
            obtain⟨⟨c0,c1,c2,c3,c4,c5⟩,⟨c6,c7,c8,c9⟩,c10,c11,c12,c13,c14,c15⟩:=HA.out.cells
            go_wp2_with fail
            clear c0 c1 c2 c3 c4 c5 c6 c7 c8 c9 c10 c11 c12 c13 c14 c15
            refine(qAj m.li 0 ((aruP m.its:Nat):Int) _).mono ?_
            rintro e w7 ⟨rfl,b⟩
            have HA:Hid (MtB w7 w.heap.size 41 m v):=Bx.later HA.out b
            have HR:Hid (MtR w7 m v):=HR.out.stays b
            have HL:Hid (Below w.heap.size w w7):=qAa HL.out b
            clear b
            obtain⟨R6,hR⟩: ∃R,(decide (0≤m.li∧m.li≤((aruP m.its:Nat):Int)))=R:=⟨_,rfl⟩
            rw[hR]
            have K6:Hid ((decide (0≤m.li∧m.li≤((aruP m.its:Nat):Int)))=R6):=hR
            clear hR
            cases R6 with
            | false =>
              obtain⟨⟨c0,c1,c2,c3,c4,c5⟩,⟨c6,c7,c8,c9⟩,c10,c11,c12,c13,c14,c15⟩:=HA.out.cells
              go_wp2_with fail
              go_ret
              exact⟨by rw[qBa,K0.out,K2.out,K3.out,K4.out,K5.out,K6.out];rfl,HL.out⟩
            | true =>
              obtain⟨⟨c0,c1,c2,c3,c4,c5⟩,⟨c6,c7,c8,c9⟩,c10,c11,c12,c13,c14,c15⟩:=HA.out.cells
              go_wp2_with fail
              clear c0 c1 c2 c3 c4 c5 c6 c7 c8 c9 c10 c11 c12 c13 c14 c15
              refine(qAj m.he 0 ((aruP m.its:Nat):Int) _).mono ?_
              rintro e w8 ⟨rfl,b⟩
              have HA:Hid (MtB w8 w.heap.size 41 m v):=Bx.later HA.out b
              have HR:Hid (MtR w8 m v):=HR.out.stays b
              have HL:Hid (Below w.heap.size w w8):=qAa HL.out b
              clear b
              obtain⟨R7,hR⟩: ∃R,(decide (0≤m.he∧m.he≤((aruP m.its:Nat):Int)))=R:=⟨_,rfl⟩
              rw[hR]
              have K7:Hid ((decide (0≤m.he∧m.he≤((aruP m.its:Nat):Int)))=R7):=hR
              clear hR
              cases R7 with
              | false =>
                obtain⟨⟨c0,c1,c2,c3,c4,c5⟩,⟨c6,c7,c8,c9⟩,c10,c11,c12,c13,c14,c15⟩:=HA.out.cells
                go_wp2_with fail
                go_ret
                exact⟨by rw[qBa,K0.out,K2.out,K3.out,K4.out,K5.out,K6.out,K7.out];rfl,HL.out⟩
              | true =>
                obtain⟨⟨c0,c1,c2,c3,c4,c5⟩,⟨c6,c7,c8,c9⟩,c10,c11,c12,c13,c14,c15⟩:=HA.out.cells
                go_wp2_with fail
                clear c0 c1 c2 c3 c4 c5 c6 c7 c8 c9 c10 c11 c12 c13 c14 c15
                refine(qFa m.la.c m.la.r m.la.q m.la.a m.la.b v.ws m.la.ws _ LW).mono ?_
                rintro e w9 ⟨rfl,b⟩
                have HA:Hid (MtB w9 w.heap.size 41 m v):=Bx.later HA.out b
                have HR:Hid (MtR w9 m v):=HR.out.stays b
                have HL:Hid (Below w.heap.size w w9):=qAa HL.out b
                clear b
                obtain⟨R8,hR⟩: ∃R,(ntB m.la.c m.la.r m.la.q m.la.a m.la.b m.la.ws)=R:=⟨_,rfl⟩
                rw[hR]
                have K8:Hid ((ntB m.la.c m.la.r m.la.q m.la.a m.la.b m.la.ws)=R8):=hR
                clear hR
                cases R8 with
                | true =>
                  obtain⟨⟨c0,c1,c2,c3,c4,c5⟩,⟨c6,c7,c8,c9⟩,c10,c11,c12,c13,c14,c15⟩:=HA.out.cells
                  go_wp2_with fail
                  go_ret
                  exact⟨by rw[qBa,K0.out,K2.out,K3.out,K4.out,K5.out,K6.out,K7.out,K8.out];rfl,HL.out⟩
                | false =>
                  obtain⟨⟨c0,c1,c2,c3,c4,c5⟩,⟨c6,c7,c8,c9⟩,c10,c11,c12,c13,c14,c15⟩:=HA.out.cells
                  go_wp2_with fail
                  clear c0 c1 c2 c3 c4 c5 c6 c7 c8 c9 c10 c11 c12 c13 c14 c15
                  refine(tokenOk_r m.la.c m.la.r m.la.q m.la.a m.la.b m.la.ws HR.out.ws hs.out.ws).mono ?_
                  rintro e w10 ⟨rfl,b⟩
                  have HA:Hid (MtB w10 w.heap.size 41 m v):=Bx.later HA.out b
                  have HR:Hid (MtR w10 m v):=HR.out.stays b
                  have HL:Hid (Below w.heap.size w w10):=qAa HL.out b
                  clear b
                  go_wp2_with fail
                  go_ret
                  exact⟨by rw[qBa,K0.out,K2.out,K3.out,K4.out,K5.out,K6.out,K7.out,K8.out];rfl,HL.out⟩
theorem qEc(m:Mt)(v:Mv)(w:World)(h:Hid (MtR w m v))(hs:Hid (MtS m)):
    Calls Tryz.prog 63 #[.agg #[.int .i64 m.id,.int .i64 m.rid,.slice v.ms.a v.ms.n v.ms.c,.slice v.its.a v.its.n v.its.c,.slice v.lv.a v.lv.n v.lv.c,.slice v.tx.a v.tx.n v.tx.c,.int .i64 m.rd,.int .i64 m.se,.int .i64 m.li,.int .i64 m.he,.int .i64 m.la.c,.int .i64 m.la.r,.int .i64 m.la.q,.int .i64 m.la.a,.int .i64 m.la.b,.slice v.ws.a v.ws.n v.ws.c]] w fun e w'=>e=.returned (.bool m.ok)∧Below w.heap.size w w':=by
  have HA:Hid (MtB (w.alloc (.cells #[.int .i64 m.id,.int .i64 m.rid,.slice v.ms.a v.ms.n v.ms.c,.slice v.its.a v.its.n v.its.c,.slice v.lv.a v.lv.n v.lv.c,.slice v.tx.a v.tx.n v.tx.c,.int .i64 m.rd,.int .i64 m.se,.int .i64 m.li,.int .i64 m.he,.int .i64 m.la.c,.int .i64 m.la.r,.int .i64 m.la.q,.int .i64 m.la.a,.int .i64 m.la.b,.slice v.ws.a v.ws.n v.ws.c] 41)) w.heap.size 41 m v):=Bx.new w 41 _
  have HL:Hid (Below w.heap.size w (w.alloc (.cells #[.int .i64 m.id,.int .i64 m.rid,.slice v.ms.a v.ms.n v.ms.c,.slice v.its.a v.its.n v.its.c,.slice v.lv.a v.lv.n v.lv.c,.slice v.tx.a v.tx.n v.tx.c,.int .i64 m.rd,.int .i64 m.se,.int .i64 m.li,.int .i64 m.he,.int .i64 m.la.c,.int .i64 m.la.r,.int .i64 m.la.q,.int .i64 m.la.a,.int .i64 m.la.b,.slice v.ws.a v.ws.n v.ws.c] 41))):=(Below.refl _ _).alloc (Nat.le_refl _) _
  have HR:Hid (MtR (w.alloc (.cells #[.int .i64 m.id,.int .i64 m.rid,.slice v.ms.a v.ms.n v.ms.c,.slice v.its.a v.its.n v.its.c,.slice v.lv.a v.lv.n v.lv.c,.slice v.tx.a v.tx.n v.tx.c,.int .i64 m.rd,.int .i64 m.se,.int .i64 m.li,.int .i64 m.he,.int .i64 m.la.c,.int .i64 m.la.r,.int .i64 m.la.q,.int .i64 m.la.a,.int .i64 m.la.b,.slice v.ws.a v.ws.n v.ws.c] 41)) m v):=h.out.stays HL.out
  have LW:Hid (v.ws.n=m.la.ws.length):=RI.len h.out.ws
  obtain⟨⟨c0,c1,c2,c3,c4,c5⟩,⟨c6,c7,c8,c9⟩,c10,c11,c12,c13,c14,c15⟩:=HA.out.cells
  clear h
  go_enter Tryz.func63,Tryz.ntmps63
  go_wp2_with fail
  clear c0 c1 c2 c3 c4 c5 c6 c7 c8 c9 c10 c11 c12 c13 c14 c15
  generalize w.alloc (.cells #[.int .i64 m.id,.int .i64 m.rid,.slice v.ms.a v.ms.n v.ms.c,.slice v.its.a v.its.n v.its.c,.slice v.lv.a v.lv.n v.lv.c,.slice v.tx.a v.tx.n v.tx.c,.int .i64 m.rd,.int .i64 m.se,.int .i64 m.li,.int .i64 m.he,.int .i64 m.la.c,.int .i64 m.la.r,.int .i64 m.la.q,.int .i64 m.la.a,.int .i64 m.la.b,.slice v.ws.a v.ws.n v.ws.c] 41)=W at *
  refine(qDs m.rid m.ms (show Hid (RI W v.ms.v m.ms)from HR.out.ms) hs.out.ms).mono ?_
  rintro e w1 ⟨rfl,b⟩
  have HA:Hid (MtB w1 w.heap.size 41 m v):=Bx.later HA.out b
  have HR:Hid (MtR w1 m v):=HR.out.stays b
  have HL:Hid (Below w.heap.size w w1):=qAa HL.out b
  clear b
  obtain⟨R0,hR⟩: ∃R,(qBc m.rid m.ms)=R:=⟨_,rfl⟩
  rw[hR]
  have K0:Hid ((qBc m.rid m.ms)=R0):=hR
  clear hR
  cases R0 with
  | false =>
    obtain⟨⟨c0,c1,c2,c3,c4,c5⟩,⟨c6,c7,c8,c9⟩,c10,c11,c12,c13,c14,c15⟩:=HA.out.cells
    go_wp2_with fail
    go_ret
    exact⟨by unfold Mt.ok;rw[K0.out];rfl,HL.out⟩
  | true =>
    obtain⟨⟨c0,c1,c2,c3,c4,c5⟩,⟨c6,c7,c8,c9⟩,c10,c11,c12,c13,c14,c15⟩:=HA.out.cells
    go_wp2_with fail
    clear c0 c1 c2 c3 c4 c5 c6 c7 c8 c9 c10 c11 c12 c13 c14 c15
    refine(lin_r m.ms m.id HR.out.ms hs.out.ms).mono ?_
    rintro e w2 ⟨rfl,b⟩
    have HA:Hid (MtB w2 w.heap.size 41 m v):=Bx.later HA.out b
    have HR:Hid (MtR w2 m v):=HR.out.stays b
    have HL:Hid (Below w.heap.size w w2):=qAa HL.out b
    clear b
    obtain⟨R1,hR⟩: ∃R,(inB m.ms m.id)=R:=⟨_,rfl⟩
    rw[hR]
    have K1:Hid ((inB m.ms m.id)=R1):=hR
    clear hR
    cases R1 with
    | false =>
      obtain⟨⟨c0,c1,c2,c3,c4,c5⟩,⟨c6,c7,c8,c9⟩,c10,c11,c12,c13,c14,c15⟩:=HA.out.cells
      go_wp2_with fail
      go_ret
      exact⟨by unfold Mt.ok;rw[K0.out,K1.out];rfl,HL.out⟩
    | true =>
      obtain⟨⟨c0,c1,c2,c3,c4,c5⟩,⟨c6,c7,c8,c9⟩,c10,c11,c12,c13,c14,c15⟩:=HA.out.cells
      go_wp2_with fail
      clear c0 c1 c2 c3 c4 c5 c6 c7 c8 c9 c10 c11 c12 c13 c14 c15
      refine(spItemsOk_r m.its HR.out.its hs.out.its).mono ?_
      rintro e w3 ⟨rfl,b⟩
      have HA:Hid (MtB w3 w.heap.size 41 m v):=Bx.later HA.out b
      have HR:Hid (MtR w3 m v):=HR.out.stays b
      have HL:Hid (Below w.heap.size w w3):=qAa HL.out b
      clear b
      obtain⟨R2,hR⟩: ∃R,(iGo 0 m.its)=R:=⟨_,rfl⟩
      rw[hR]
      have K2:Hid ((iGo 0 m.its)=R2):=hR
      clear hR
      cases R2 with
      | false =>
        obtain⟨⟨c0,c1,c2,c3,c4,c5⟩,⟨c6,c7,c8,c9⟩,c10,c11,c12,c13,c14,c15⟩:=HA.out.cells
        go_wp2_with fail
        go_ret
        exact⟨by unfold Mt.ok;rw[K0.out,K1.out,K2.out];rfl,HL.out⟩
      | true =>
        obtain⟨⟨c0,c1,c2,c3,c4,c5⟩,⟨c6,c7,c8,c9⟩,c10,c11,c12,c13,c14,c15⟩:=HA.out.cells
        go_wp2_with fail
        clear c0 c1 c2 c3 c4 c5 c6 c7 c8 c9 c10 c11 c12 c13 c14 c15
        refine(show Calls Tryz.prog 105 #[.slice v.lv.a v.lv.n v.lv.c,.slice v.tx.a v.tx.n v.tx.c] _ (fun e w'=>e=.returned (.bool (sayB m.lv m.tx))∧Below _ _ w')from(tenTexts_any v.lv v.tx m.lv m.tx _ HR.out.lv HR.out.tx hs.out.lv hs.out.tx).mono fun e w' ⟨x,y⟩=>⟨x,qAz y⟩).mono ?_
        rintro e w4 ⟨rfl,b⟩
        have HA:Hid (MtB w4 w.heap.size 41 m v):=Bx.later HA.out b
        have HR:Hid (MtR w4 m v):=HR.out.stays b
        have HL:Hid (Below w.heap.size w w4):=qAa HL.out b
        clear b
        obtain⟨R3,hR⟩: ∃R,(sayB m.lv m.tx)=R:=⟨_,rfl⟩
        rw[hR]
        have K3:Hid ((sayB m.lv m.tx)=R3):=hR
        clear hR
        cases R3 with
        | false =>
          obtain⟨⟨c0,c1,c2,c3,c4,c5⟩,⟨c6,c7,c8,c9⟩,c10,c11,c12,c13,c14,c15⟩:=HA.out.cells
          go_wp2_with fail
          go_ret
          exact⟨by unfold Mt.ok;rw[K0.out,K1.out,K2.out,K3.out];rfl,HL.out⟩
        | true =>
          obtain⟨⟨c0,c1,c2,c3,c4,c5⟩,⟨c6,c7,c8,c9⟩,c10,c11,c12,c13,c14,c15⟩:=HA.out.cells
          go_wp2_with fail
          clear c0 c1 c2 c3 c4 c5 c6 c7 c8 c9 c10 c11 c12 c13 c14 c15
          refine(in_b m.rd 0 1000000000 _).mono ?_
          rintro e w5 ⟨rfl,b⟩
          have HA:Hid (MtB w5 w.heap.size 41 m v):=Bx.later HA.out b
          have HR:Hid (MtR w5 m v):=HR.out.stays b
          have HL:Hid (Below w.heap.size w w5):=qAa HL.out b
          clear b
          obtain⟨R4,hR⟩: ∃R,(decide (0≤m.rd∧m.rd≤1000000000))=R:=⟨_,rfl⟩
          rw[hR]
          have K4:Hid ((decide (0≤m.rd∧m.rd≤1000000000))=R4):=hR
          clear hR
          cases R4 with
          | false =>
            obtain⟨⟨c0,c1,c2,c3,c4,c5⟩,⟨c6,c7,c8,c9⟩,c10,c11,c12,c13,c14,c15⟩:=HA.out.cells
            go_wp2_with fail
            go_ret
            exact⟨by unfold Mt.ok;rw[K0.out,K1.out,K2.out,K3.out,K4.out];rfl,HL.out⟩
          | true =>
            obtain⟨⟨c0,c1,c2,c3,c4,c5⟩,⟨c6,c7,c8,c9⟩,c10,c11,c12,c13,c14,c15⟩:=HA.out.cells
            go_wp2_with fail
            clear c0 c1 c2 c3 c4 c5 c6 c7 c8 c9 c10 c11 c12 c13 c14 c15
            refine(in_b m.se 0 60 _).mono ?_
            rintro e w6 ⟨rfl,b⟩
            have HA:Hid (MtB w6 w.heap.size 41 m v):=Bx.later HA.out b
            have HR:Hid (MtR w6 m v):=HR.out.stays b
            have HL:Hid (Below w.heap.size w w6):=qAa HL.out b
            clear b
            obtain⟨R5,hR⟩: ∃R,(decide (0≤m.se∧m.se≤60))=R:=⟨_,rfl⟩
            rw[hR]
            have K5:Hid ((decide (0≤m.se∧m.se≤60))=R5):=hR
            clear hR
            cases R5 with
            | false =>
              obtain⟨⟨c0,c1,c2,c3,c4,c5⟩,⟨c6,c7,c8,c9⟩,c10,c11,c12,c13,c14,c15⟩:=HA.out.cells
              go_wp2_with fail
              go_ret
              exact⟨by unfold Mt.ok;rw[K0.out,K1.out,K2.out,K3.out,K4.out,K5.out];rfl,HL.out⟩
            | true =>
              obtain⟨⟨c0,c1,c2,c3,c4,c5⟩,⟨c6,c7,c8,c9⟩,c10,c11,c12,c13,c14,c15⟩:=HA.out.cells
              go_wp2_with fail
              clear c0 c1 c2 c3 c4 c5 c6 c7 c8 c9 c10 c11 c12 c13 c14 c15
              refine(spAru_r m.its HR.out.its hs.out.its).mono ?_
              rintro e w7 ⟨rfl,b⟩
              have HA:Hid (MtB w7 w.heap.size 41 m v):=Bx.later HA.out b
              have HR:Hid (MtR w7 m v):=HR.out.stays b
              have HL:Hid (Below w.heap.size w w7):=qAa HL.out b
              clear b
              obtain⟨⟨c0,c1,c2,c3,c4,c5⟩,⟨c6,c7,c8,c9⟩,c10,c11,c12,c13,c14,c15⟩:=HA.out.cells
              go_wp2_with fail
              clear c0 c1 c2 c3 c4 c5 c6 c7 c8 c9 c10 c11 c12 c13 c14 c15
              refine(in_b m.li 0 ((aruP m.its:Nat):Int) _).mono ?_
              rintro e w8 ⟨rfl,b⟩
              have HA:Hid (MtB w8 w.heap.size 41 m v):=Bx.later HA.out b
              have HR:Hid (MtR w8 m v):=HR.out.stays b
              have HL:Hid (Below w.heap.size w w8):=qAa HL.out b
              clear b
              obtain⟨R6,hR⟩: ∃R,(decide (0≤m.li∧m.li≤((aruP m.its:Nat):Int)))=R:=⟨_,rfl⟩
              rw[hR]
              have K6:Hid ((decide (0≤m.li∧m.li≤((aruP m.its:Nat):Int)))=R6):=hR
              clear hR
              cases R6 with
              | false =>
                obtain⟨⟨c0,c1,c2,c3,c4,c5⟩,⟨c6,c7,c8,c9⟩,c10,c11,c12,c13,c14,c15⟩:=HA.out.cells
                go_wp2_with fail
                go_ret
                exact⟨by unfold Mt.ok;rw[K0.out,K1.out,K2.out,K3.out,K4.out,K5.out,K6.out];rfl,HL.out⟩
              | true =>
                obtain⟨⟨c0,c1,c2,c3,c4,c5⟩,⟨c6,c7,c8,c9⟩,c10,c11,c12,c13,c14,c15⟩:=HA.out.cells
                go_wp2_with fail
                clear c0 c1 c2 c3 c4 c5 c6 c7 c8 c9 c10 c11 c12 c13 c14 c15
                refine(in_b m.he 0 ((aruP m.its:Nat):Int) _).mono ?_
                rintro e w9 ⟨rfl,b⟩
                have HA:Hid (MtB w9 w.heap.size 41 m v):=Bx.later HA.out b
                have HR:Hid (MtR w9 m v):=HR.out.stays b
                have HL:Hid (Below w.heap.size w w9):=qAa HL.out b
                clear b
                obtain⟨R7,hR⟩: ∃R,(decide (0≤m.he∧m.he≤((aruP m.its:Nat):Int)))=R:=⟨_,rfl⟩
                rw[hR]
                have K7:Hid ((decide (0≤m.he∧m.he≤((aruP m.its:Nat):Int)))=R7):=hR
                clear hR
                cases R7 with
                | false =>
                  obtain⟨⟨c0,c1,c2,c3,c4,c5⟩,⟨c6,c7,c8,c9⟩,c10,c11,c12,c13,c14,c15⟩:=HA.out.cells
                  go_wp2_with fail
                  go_ret
                  exact⟨by unfold Mt.ok;rw[K0.out,K1.out,K2.out,K3.out,K4.out,K5.out,K6.out,K7.out];rfl,HL.out⟩
                | true =>
                  obtain⟨⟨c0,c1,c2,c3,c4,c5⟩,⟨c6,c7,c8,c9⟩,c10,c11,c12,c13,c14,c15⟩:=HA.out.cells
                  go_wp2_with fail
                  clear c0 c1 c2 c3 c4 c5 c6 c7 c8 c9 c10 c11 c12 c13 c14 c15
                  refine(blank_any m.la.c m.la.r m.la.q m.la.a m.la.b v.ws m.la.ws _ LW).mono ?_
                  rintro e w10 ⟨rfl,b⟩
                  have HA:Hid (MtB w10 w.heap.size 41 m v):=Bx.later HA.out b
                  have HR:Hid (MtR w10 m v):=HR.out.stays b
                  have HL:Hid (Below w.heap.size w w10):=qAa HL.out b
                  clear b
                  obtain⟨R8,hR⟩: ∃R,(ntB m.la.c m.la.r m.la.q m.la.a m.la.b m.la.ws)=R:=⟨_,rfl⟩
                  rw[hR]
                  have K8:Hid ((ntB m.la.c m.la.r m.la.q m.la.a m.la.b m.la.ws)=R8):=hR
                  clear hR
                  cases R8 with
                  | true =>
                    obtain⟨⟨c0,c1,c2,c3,c4,c5⟩,⟨c6,c7,c8,c9⟩,c10,c11,c12,c13,c14,c15⟩:=HA.out.cells
                    go_wp2_with fail
                    go_ret
                    exact⟨by unfold Mt.ok;rw[K0.out,K1.out,K2.out,K3.out,K4.out,K5.out,K6.out,K7.out,K8.out];rfl,HL.out⟩
                  | false =>
                    obtain⟨⟨c0,c1,c2,c3,c4,c5⟩,⟨c6,c7,c8,c9⟩,c10,c11,c12,c13,c14,c15⟩:=HA.out.cells
                    go_wp2_with fail
                    clear c0 c1 c2 c3 c4 c5 c6 c7 c8 c9 c10 c11 c12 c13 c14 c15
                    refine(spTokenOk_r m.la.c m.la.r m.la.q m.la.a m.la.b m.la.ws HR.out.ws hs.out.ws).mono ?_
                    rintro e w11 ⟨rfl,b⟩
                    have HA:Hid (MtB w11 w.heap.size 41 m v):=Bx.later HA.out b
                    have HR:Hid (MtR w11 m v):=HR.out.stays b
                    have HL:Hid (Below w.heap.size w w11):=qAa HL.out b
                    clear b
                    go_wp2_with fail
                    go_ret
                    exact⟨by unfold Mt.ok;rw[K0.out,K1.out,K2.out,K3.out,K4.out,K5.out,K6.out,K7.out,K8.out];rfl,HL.out⟩
theorem qGh(i:Int)(s:Sv)(ms:List Int)(w:World)(h:Hid (RI w s.v ms))(hl:ms.length≤1048576):
    Calls Tryz.prog 9 #[.agg #[.int .i64 i,.slice s.a s.n s.c]] w fun e w'=>∃u:Sv,e=.returned (.agg #[.int .i64 i,.slice u.a u.n u.c])∧OwnI w' w.heap.size u.v ms∧Below w.heap.size w w':=by
  obtain⟨ao,cap,h1,h2⟩:=h.out;unfold Sv.v at h1;rw[h1]
  refine(toRing_any i ao cap ms w h2 hl).mono fun e w' ⟨v,a,b,c⟩=>?_
  obtain⟨ao',cap',rfl⟩:=b.form
  exact⟨⟨ao',ms.length,cap'⟩,a,b,c⟩
theorem toI_r(s:Sv)(ms:List Int)(w:World)(h:Hid (RI w s.v ms))(hl:ms.length≤1048576):
    Calls Tryz.prog 36 #[.slice s.a s.n s.c] w fun e w'=>∃u:Sv,e=.returned (.slice u.a u.n u.c)∧OwnI w' w.heap.size u.v ms∧Below w.heap.size w w':=by
  obtain⟨ao,cap,h1,h2⟩:=h.out;unfold Sv.v at h1;rw[h1]
  refine(toI_any w ao cap ms h2 hl).mono fun e w' ⟨v,a,b,c⟩=>?_
  obtain⟨ao',cap',rfl⟩:=b.form
  exact⟨⟨ao',ms.length,cap'⟩,a,b,c⟩
theorem toT_r(s:Sv)(ms:List ByteArray)(w:World)(h:Hid (RT w s.v ms))(hl:ms.length≤1048576):
    Calls Tryz.prog 73 #[.slice s.a s.n s.c] w fun e w'=>∃u:Sv,e=.returned (.slice u.a u.n u.c)∧OwnS w' w.heap.size u.v ms∧Below w.heap.size w w':=by
  obtain⟨ao,cap,h1,h2⟩:=h.out;unfold Sv.v at h1;rw[h1]
  refine(toS_any w ao cap ms h2 hl).mono fun e w' ⟨v,a,b,c⟩=>?_
  obtain⟨ao',cap',rfl⟩:=b.form
  exact⟨⟨ao',ms.length,cap'⟩,a,b,c⟩
theorem toIt_r(s:Sv)(ms:List It)(w:World)(h:Hid (RIt w s.v ms))(hl:ms.length≤1048576):
    Calls Tryz.prog 72 #[.slice s.a s.n s.c] w fun e w'=>∃u:Sv,e=.returned (.slice u.a u.n u.c)∧SlI w' w.heap.size u.v ms∧Below w.heap.size w w':=by
  obtain⟨ao,cap,h1,h2⟩:=h.out;unfold Sv.v at h1;rw[h1]
  refine(qFw w ao cap ms h2 hl).mono fun e w' ⟨a,b,_,c⟩=>?_
  exact⟨⟨_,ms.length,ms.length⟩,a,b,c⟩
theorem toTok_r(c r q a b:Int)(s:Sv)(ms:List Int)(w:World)(h:Hid (RI w s.v ms))(hl:ms.length≤1048576):
    Calls Tryz.prog 74 #[.agg #[.int .i64 c,.int .i64 r,.int .i64 q,.int .i64 a,.int .i64 b,.slice s.a s.n s.c]] w fun e w'=>∃u:Sv,e=.returned (.agg #[.int .i64 c,.int .i64 r,.int .i64 q,.int .i64 a,.int .i64 b,.slice u.a u.n u.c])∧OwnI w' w.heap.size u.v ms∧Below w.heap.size w w':=by
  obtain⟨ao,cap,h1,h2⟩:=h.out;unfold Sv.v at h1;rw[h1]
  refine(toTok_any c r q a b ao cap ms w h2 hl).mono fun e w' ⟨v,x,y,z⟩=>?_
  obtain⟨ao',cap',rfl⟩:=y.form
  exact⟨⟨ao',ms.length,cap'⟩,x,y,z⟩
theorem toMate_any(m:Mt)(v:Mv)(w:World)(h:Hid (MtR w m v))(hs:Hid (MtS m)):
    Calls Tryz.prog 33 #[.agg #[.int .i64 m.id,.int .i64 m.rid,.slice v.ms.a v.ms.n v.ms.c,.slice v.its.a v.its.n v.its.c,.slice v.lv.a v.lv.n v.lv.c,.slice v.tx.a v.tx.n v.tx.c,.int .i64 m.rd,.int .i64 m.se,.int .i64 m.li,.int .i64 m.he,.int .i64 m.la.c,.int .i64 m.la.r,.int .i64 m.la.q,.int .i64 m.la.a,.int .i64 m.la.b,.slice v.ws.a v.ws.n v.ws.c]] w fun e w'=>∃u:Mv,e=.returned (.agg #[.int .i64 m.id,.int .i64 m.rid,.slice u.ms.a u.ms.n u.ms.c,.slice u.its.a u.its.n u.its.c,.slice u.lv.a u.lv.n u.lv.c,.slice u.tx.a u.tx.n u.tx.c,.int .i64 m.rd,.int .i64 m.se,.int .i64 m.li,.int .i64 m.he,.int .i64 m.la.c,.int .i64 m.la.r,.int .i64 m.la.q,.int .i64 m.la.a,.int .i64 m.la.b,.slice u.ws.a u.ws.n u.ws.c])∧MtO w' w.heap.size m u∧Below w.heap.size w w':=by
  have hn1:(w.alloc (.cells #[.int .i64 m.id,.int .i64 m.rid,.slice v.ms.a v.ms.n v.ms.c,.slice v.its.a v.its.n v.its.c,.slice v.lv.a v.lv.n v.lv.c,.slice v.tx.a v.tx.n v.tx.c,.int .i64 m.rd,.int .i64 m.se,.int .i64 m.li,.int .i64 m.he,.int .i64 m.la.c,.int .i64 m.la.r,.int .i64 m.la.q,.int .i64 m.la.a,.int .i64 m.la.b,.slice v.ws.a v.ws.n v.ws.c] 30)).heap.size=w.heap.size+1:=by simp
  have hn2:((w.alloc (.cells #[.int .i64 m.id,.int .i64 m.rid,.slice v.ms.a v.ms.n v.ms.c,.slice v.its.a v.its.n v.its.c,.slice v.lv.a v.lv.n v.lv.c,.slice v.tx.a v.tx.n v.tx.c,.int .i64 m.rd,.int .i64 m.se,.int .i64 m.li,.int .i64 m.he,.int .i64 m.la.c,.int .i64 m.la.r,.int .i64 m.la.q,.int .i64 m.la.a,.int .i64 m.la.b,.slice v.ws.a v.ws.n v.ws.c] 30)).alloc (.cells #[.int .i64 0,.int .i64 0,.slice none 0 0,.slice none 0 0,.slice none 0 0,.slice none 0 0,.int .i64 0,.int .i64 0,.int .i64 0,.int .i64 0,.int .i64 0,.int .i64 0,.int .i64 0,.int .i64 0,.int .i64 0,.slice none 0 0] 41)).heap.size=w.heap.size+2:=by simp
  have HA:Hid (MtB (((w.alloc (.cells #[.int .i64 m.id,.int .i64 m.rid,.slice v.ms.a v.ms.n v.ms.c,.slice v.its.a v.its.n v.its.c,.slice v.lv.a v.lv.n v.lv.c,.slice v.tx.a v.tx.n v.tx.c,.int .i64 m.rd,.int .i64 m.se,.int .i64 m.li,.int .i64 m.he,.int .i64 m.la.c,.int .i64 m.la.r,.int .i64 m.la.q,.int .i64 m.la.a,.int .i64 m.la.b,.slice v.ws.a v.ws.n v.ws.c] 30)).alloc (.cells #[.int .i64 0,.int .i64 0,.slice none 0 0,.slice none 0 0,.slice none 0 0,.slice none 0 0,.int .i64 0,.int .i64 0,.int .i64 0,.int .i64 0,.int .i64 0,.int .i64 0,.int .i64 0,.int .i64 0,.int .i64 0,.slice none 0 0] 41)).alloc (.cells #[.int .i64 m.id,.int .i64 0,.slice none 0 0,.slice none 0 0,.slice none 0 0,.slice none 0 0,.int .i64 0,.int .i64 0,.int .i64 0,.int .i64 0,.int .i64 0,.int .i64 0,.int .i64 0,.int .i64 0,.int .i64 0,.slice none 0 0] 41)) w.heap.size 30 m v):=by
    have h:=Bx.new w 30 [.int .i64 m.id,.int .i64 m.rid,.slice v.ms.a v.ms.n v.ms.c,.slice v.its.a v.its.n v.its.c,.slice v.lv.a v.lv.n v.lv.c,.slice v.tx.a v.tx.n v.tx.c,.int .i64 m.rd,.int .i64 m.se,.int .i64 m.li,.int .i64 m.he,.int .i64 m.la.c,.int .i64 m.la.r,.int .i64 m.la.q,.int .i64 m.la.a,.int .i64 m.la.b,.slice v.ws.a v.ws.n v.ws.c]
    exact h.stays (B:=w.heap.size+1) (((Below.refl _ _).alloc (by rw[hn1];exact Nat.le_refl _) _).alloc (by rw[hn2];omega) _) (by omega)
  have HR:Hid (Bx (((w.alloc (.cells #[.int .i64 m.id,.int .i64 m.rid,.slice v.ms.a v.ms.n v.ms.c,.slice v.its.a v.its.n v.its.c,.slice v.lv.a v.lv.n v.lv.c,.slice v.tx.a v.tx.n v.tx.c,.int .i64 m.rd,.int .i64 m.se,.int .i64 m.li,.int .i64 m.he,.int .i64 m.la.c,.int .i64 m.la.r,.int .i64 m.la.q,.int .i64 m.la.a,.int .i64 m.la.b,.slice v.ws.a v.ws.n v.ws.c] 30)).alloc (.cells #[.int .i64 0,.int .i64 0,.slice none 0 0,.slice none 0 0,.slice none 0 0,.slice none 0 0,.int .i64 0,.int .i64 0,.int .i64 0,.int .i64 0,.int .i64 0,.int .i64 0,.int .i64 0,.int .i64 0,.int .i64 0,.slice none 0 0] 41)).alloc (.cells #[.int .i64 m.id,.int .i64 0,.slice none 0 0,.slice none 0 0,.slice none 0 0,.slice none 0 0,.int .i64 0,.int .i64 0,.int .i64 0,.int .i64 0,.int .i64 0,.int .i64 0,.int .i64 0,.int .i64 0,.int .i64 0,.slice none 0 0] 41)) (w.heap.size+1) 41 [.int .i64 0,.int .i64 0,.slice none 0 0,.slice none 0 0,.slice none 0 0,.slice none 0 0,.int .i64 0,.int .i64 0,.int .i64 0,.int .i64 0,.int .i64 0,.int .i64 0,.int .i64 0,.int .i64 0,.int .i64 0,.slice none 0 0]):=by
    have h:=Bx.new (w.alloc (.cells #[.int .i64 m.id,.int .i64 m.rid,.slice v.ms.a v.ms.n v.ms.c,.slice v.its.a v.its.n v.its.c,.slice v.lv.a v.lv.n v.lv.c,.slice v.tx.a v.tx.n v.tx.c,.int .i64 m.rd,.int .i64 m.se,.int .i64 m.li,.int .i64 m.he,.int .i64 m.la.c,.int .i64 m.la.r,.int .i64 m.la.q,.int .i64 m.la.a,.int .i64 m.la.b,.slice v.ws.a v.ws.n v.ws.c] 30)) 41 [.int .i64 0,.int .i64 0,.slice none 0 0,.slice none 0 0,.slice none 0 0,.slice none 0 0,.int .i64 0,.int .i64 0,.int .i64 0,.int .i64 0,.int .i64 0,.int .i64 0,.int .i64 0,.int .i64 0,.int .i64 0,.slice none 0 0]
    rw[hn1]at h
    exact h.stays (B:=w.heap.size+2) ((Below.refl _ _).alloc (by rw[hn2];exact Nat.le_refl _) _) (by omega)
  have HO:Hid (Bx (((w.alloc (.cells #[.int .i64 m.id,.int .i64 m.rid,.slice v.ms.a v.ms.n v.ms.c,.slice v.its.a v.its.n v.its.c,.slice v.lv.a v.lv.n v.lv.c,.slice v.tx.a v.tx.n v.tx.c,.int .i64 m.rd,.int .i64 m.se,.int .i64 m.li,.int .i64 m.he,.int .i64 m.la.c,.int .i64 m.la.r,.int .i64 m.la.q,.int .i64 m.la.a,.int .i64 m.la.b,.slice v.ws.a v.ws.n v.ws.c] 30)).alloc (.cells #[.int .i64 0,.int .i64 0,.slice none 0 0,.slice none 0 0,.slice none 0 0,.slice none 0 0,.int .i64 0,.int .i64 0,.int .i64 0,.int .i64 0,.int .i64 0,.int .i64 0,.int .i64 0,.int .i64 0,.int .i64 0,.slice none 0 0] 41)).alloc (.cells #[.int .i64 m.id,.int .i64 0,.slice none 0 0,.slice none 0 0,.slice none 0 0,.slice none 0 0,.int .i64 0,.int .i64 0,.int .i64 0,.int .i64 0,.int .i64 0,.int .i64 0,.int .i64 0,.int .i64 0,.int .i64 0,.slice none 0 0] 41)) (w.heap.size+1+1) 41 [.int .i64 m.id,.int .i64 0,.slice none 0 0,.slice none 0 0,.slice none 0 0,.slice none 0 0,.int .i64 0,.int .i64 0,.int .i64 0,.int .i64 0,.int .i64 0,.int .i64 0,.int .i64 0,.int .i64 0,.int .i64 0,.slice none 0 0]):=by
    have h:=Bx.new ((w.alloc (.cells #[.int .i64 m.id,.int .i64 m.rid,.slice v.ms.a v.ms.n v.ms.c,.slice v.its.a v.its.n v.its.c,.slice v.lv.a v.lv.n v.lv.c,.slice v.tx.a v.tx.n v.tx.c,.int .i64 m.rd,.int .i64 m.se,.int .i64 m.li,.int .i64 m.he,.int .i64 m.la.c,.int .i64 m.la.r,.int .i64 m.la.q,.int .i64 m.la.a,.int .i64 m.la.b,.slice v.ws.a v.ws.n v.ws.c] 30)).alloc (.cells #[.int .i64 0,.int .i64 0,.slice none 0 0,.slice none 0 0,.slice none 0 0,.slice none 0 0,.int .i64 0,.int .i64 0,.int .i64 0,.int .i64 0,.int .i64 0,.int .i64 0,.int .i64 0,.int .i64 0,.int .i64 0,.slice none 0 0] 41)) 41 [.int .i64 m.id,.int .i64 0,.slice none 0 0,.slice none 0 0,.slice none 0 0,.slice none 0 0,.int .i64 0,.int .i64 0,.int .i64 0,.int .i64 0,.int .i64 0,.int .i64 0,.int .i64 0,.int .i64 0,.int .i64 0,.slice none 0 0]
    rw[hn2]at h
    exact h
  have HB:Hid (Below w.heap.size w (((w.alloc (.cells #[.int .i64 m.id,.int .i64 m.rid,.slice v.ms.a v.ms.n v.ms.c,.slice v.its.a v.its.n v.its.c,.slice v.lv.a v.lv.n v.lv.c,.slice v.tx.a v.tx.n v.tx.c,.int .i64 m.rd,.int .i64 m.se,.int .i64 m.li,.int .i64 m.he,.int .i64 m.la.c,.int .i64 m.la.r,.int .i64 m.la.q,.int .i64 m.la.a,.int .i64 m.la.b,.slice v.ws.a v.ws.n v.ws.c] 30)).alloc (.cells #[.int .i64 0,.int .i64 0,.slice none 0 0,.slice none 0 0,.slice none 0 0,.slice none 0 0,.int .i64 0,.int .i64 0,.int .i64 0,.int .i64 0,.int .i64 0,.int .i64 0,.int .i64 0,.int .i64 0,.int .i64 0,.slice none 0 0] 41)).alloc (.cells #[.int .i64 m.id,.int .i64 0,.slice none 0 0,.slice none 0 0,.slice none 0 0,.slice none 0 0,.int .i64 0,.int .i64 0,.int .i64 0,.int .i64 0,.int .i64 0,.int .i64 0,.int .i64 0,.int .i64 0,.int .i64 0,.slice none 0 0] 41))):=(((Below.refl _ _).alloc (Nat.le_refl _) _).alloc (by simp) _).alloc (by simp;omega) _
  obtain⟨⟨c0,c1,c2,c3,c4,c5⟩,⟨c6,c7,c8,c9⟩,c10,c11,c12,c13,c14,c15⟩:=HA.out.cells
  clear hn1 hn2
  go_enter Tryz.func33,Tryz.ntmps33
  go_wp2_with fail
  clear c0 c1 c2 c3 c4 c5 c6 c7 c8 c9 c10 c11 c12 c13 c14 c15
  generalize (((w.alloc (.cells #[.int .i64 m.id,.int .i64 m.rid,.slice v.ms.a v.ms.n v.ms.c,.slice v.its.a v.its.n v.its.c,.slice v.lv.a v.lv.n v.lv.c,.slice v.tx.a v.tx.n v.tx.c,.int .i64 m.rd,.int .i64 m.se,.int .i64 m.li,.int .i64 m.he,.int .i64 m.la.c,.int .i64 m.la.r,.int .i64 m.la.q,.int .i64 m.la.a,.int .i64 m.la.b,.slice v.ws.a v.ws.n v.ws.c] 30)).alloc (.cells #[.int .i64 0,.int .i64 0,.slice none 0 0,.slice none 0 0,.slice none 0 0,.slice none 0 0,.int .i64 0,.int .i64 0,.int .i64 0,.int .i64 0,.int .i64 0,.int .i64 0,.int .i64 0,.int .i64 0,.int .i64 0,.slice none 0 0] 41)).alloc (.cells #[.int .i64 m.id,.int .i64 0,.slice none 0 0,.slice none 0 0,.slice none 0 0,.slice none 0 0,.int .i64 0,.int .i64 0,.int .i64 0,.int .i64 0,.int .i64 0,.int .i64 0,.int .i64 0,.int .i64 0,.int .i64 0,.slice none 0 0] 41))=W at *
  refine(qGh m.rid v.ms m.ms W (h.out.ms.stays HB.out) hs.out.ms).mono ?_
  rintro e w1 ⟨ums,rfl,ho,b⟩
  have Xms:Hid (OwnI w1 w.heap.size ums.v m.ms):=ho.down HB.out.size
  have Lms:Hid (∀k,ums.v.ownBlock=some k→W.heap.size≤k∧k<w1.heap.size):=ho.lt
  have D1:Hid (W.heap.size≤w1.heap.size):=b.size
  have HA:Hid (MtB w1 w.heap.size 30 m v):=Bx.later HA.out b
  have HR:Hid (Bx w1 (w.heap.size+1) 41 [.int .i64 0,.int .i64 0,.slice none 0 0,.slice none 0 0,.slice none 0 0,.slice none 0 0,.int .i64 0,.int .i64 0,.int .i64 0,.int .i64 0,.int .i64 0,.int .i64 0,.int .i64 0,.int .i64 0,.int .i64 0,.slice none 0 0]):=HR.out.later b
  have HO:Hid (Bx w1 (w.heap.size+1+1) 41 [.int .i64 m.id,.int .i64 0,.slice none 0 0,.slice none 0 0,.slice none 0 0,.slice none 0 0,.int .i64 0,.int .i64 0,.int .i64 0,.int .i64 0,.int .i64 0,.int .i64 0,.int .i64 0,.int .i64 0,.int .i64 0,.slice none 0 0]):=HO.out.later b
  have HB:Hid (Below w.heap.size w w1):=qAa HB.out b
  clear ho b
  go_wp2_with (first|(refine qAf rfl 37 _ _ rfl (w.heap.size+1+1) 1 rfl 41 _ HO.out [.int .i64 m.rid,.slice ums.a ums.n ums.c] rfl (by simp) Tryz.sizeR rfl [.int .i64 m.id,.int .i64 m.rid,.slice ums.a ums.n ums.c,.slice none 0 0,.slice none 0 0,.slice none 0 0,.int .i64 0,.int .i64 0,.int .i64 0,.int .i64 0,.int .i64 0,.int .i64 0,.int .i64 0,.int .i64 0,.int .i64 0,.slice none 0 0] rfl ?_;intro w2 OB TB;have Xms:Hid (OwnI w2 w.heap.size ums.v m.ms):=Xms.out.past HO.out TB (by decide);have HA:Hid (MtB w2 w.heap.size 30 m v):=Bx.turn HA.out TB (by omega);have HR:Hid (Bx w2 (w.heap.size+1) 41 [.int .i64 0,.int .i64 0,.slice none 0 0,.slice none 0 0,.slice none 0 0,.slice none 0 0,.int .i64 0,.int .i64 0,.int .i64 0,.int .i64 0,.int .i64 0,.int .i64 0,.int .i64 0,.int .i64 0,.int .i64 0,.slice none 0 0]):=HR.out.turn TB (by omega);have HB:Hid (Below w.heap.size w w2):=HB.out.trans (TB.below (by omega));have D2:Hid (w1.heap.size≤w2.heap.size):=Nat.le_of_eq TB.size.symm;have HO:Hid (Bx w2 (w.heap.size+1+1) 41 [.int .i64 m.id,.int .i64 m.rid,.slice ums.a ums.n ums.c,.slice none 0 0,.slice none 0 0,.slice none 0 0,.int .i64 0,.int .i64 0,.int .i64 0,.int .i64 0,.int .i64 0,.int .i64 0,.int .i64 0,.int .i64 0,.int .i64 0,.slice none 0 0]):=OB;clear TB OB;obtain⟨⟨c0,c1,c2,c3,c4,c5⟩,⟨c6,c7,c8,c9⟩,c10,c11,c12,c13,c14,c15⟩:=HA.out.cells))
  clear c0 c1 c2 c3 c4 c5 c6 c7 c8 c9 c10 c11 c12 c13 c14 c15
  refine(toIt_r v.its m.its w2 (h.out.its.stays HB.out) hs.out.its).mono ?_
  rintro e w3 ⟨uits,rfl,ho,b⟩
  have Xms:Hid (OwnI w3 w.heap.size ums.v m.ms):=Xms.out.under b
  have Xits:Hid (SlI w3 w.heap.size uits.v m.its):=ho.down HB.out.size
  have Lits:Hid (∀k,uits.v.ownBlock=some k→w2.heap.size≤k∧k<w3.heap.size):=ho.lt
  have D3:Hid (w2.heap.size≤w3.heap.size):=b.size
  have HA:Hid (MtB w3 w.heap.size 30 m v):=Bx.later HA.out b
  have HR:Hid (Bx w3 (w.heap.size+1) 41 [.int .i64 0,.int .i64 0,.slice none 0 0,.slice none 0 0,.slice none 0 0,.slice none 0 0,.int .i64 0,.int .i64 0,.int .i64 0,.int .i64 0,.int .i64 0,.int .i64 0,.int .i64 0,.int .i64 0,.int .i64 0,.slice none 0 0]):=HR.out.later b
  have HO:Hid (Bx w3 (w.heap.size+1+1) 41 [.int .i64 m.id,.int .i64 m.rid,.slice ums.a ums.n ums.c,.slice none 0 0,.slice none 0 0,.slice none 0 0,.int .i64 0,.int .i64 0,.int .i64 0,.int .i64 0,.int .i64 0,.int .i64 0,.int .i64 0,.int .i64 0,.int .i64 0,.slice none 0 0]):=HO.out.later b
  have HB:Hid (Below w.heap.size w w3):=qAa HB.out b
  clear ho b
  obtain⟨⟨c0,c1,c2,c3,c4,c5⟩,⟨c6,c7,c8,c9⟩,c10,c11,c12,c13,c14,c15⟩:=HA.out.cells
  have o3:=HO.out.cell 3
  have z3:=HO.out.frozen 3
  go_wp2_with fail
  clear c0 c1 c2 c3 c4 c5 c6 c7 c8 c9 c10 c11 c12 c13 c14 c15
  clear o3 z3
  have OB:Bx _ (w.heap.size+1+1) 41 [.int .i64 m.id,.int .i64 m.rid,.slice ums.a ums.n ums.c,.slice uits.a uits.n uits.c,.slice none 0 0,.slice none 0 0,.int .i64 0,.int .i64 0,.int .i64 0,.int .i64 0,.int .i64 0,.int .i64 0,.int .i64 0,.int .i64 0,.int .i64 0,.slice none 0 0]:=(HO.out.set 3 (.slice uits.a uits.n uits.c))
  have TB:=((TurnAt.refl (w.heap.size+1+1) w3).setCell 3 (.slice uits.a uits.n uits.c))
  generalize (w3.setCell ⟨w.heap.size+1+1,3,none⟩ (.slice uits.a uits.n uits.c))=S4 at *
  have Xms:Hid (OwnI S4 w.heap.size ums.v m.ms):=Xms.out.past HO.out TB (by decide)
  have Xits:Hid (SlI S4 w.heap.size uits.v m.its):=Xits.out.past HO.out TB (by decide)
  have HA:Hid (MtB S4 w.heap.size 30 m v):=Bx.turn HA.out TB (by omega)
  have HR:Hid (Bx S4 (w.heap.size+1) 41 [.int .i64 0,.int .i64 0,.slice none 0 0,.slice none 0 0,.slice none 0 0,.slice none 0 0,.int .i64 0,.int .i64 0,.int .i64 0,.int .i64 0,.int .i64 0,.int .i64 0,.int .i64 0,.int .i64 0,.int .i64 0,.slice none 0 0]):=HR.out.turn TB (by omega)
  have HB:Hid (Below w.heap.size w S4):=HB.out.trans (TB.below (by omega))
  have D4:Hid (w3.heap.size≤S4.heap.size):=Nat.le_of_eq TB.size.symm
  have HO:Hid (Bx S4 (w.heap.size+1+1) 41 [.int .i64 m.id,.int .i64 m.rid,.slice ums.a ums.n ums.c,.slice uits.a uits.n uits.c,.slice none 0 0,.slice none 0 0,.int .i64 0,.int .i64 0,.int .i64 0,.int .i64 0,.int .i64 0,.int .i64 0,.int .i64 0,.int .i64 0,.int .i64 0,.slice none 0 0]):=OB
  clear TB OB
  refine(toI_r v.lv m.lv S4 (h.out.lv.stays HB.out) hs.out.lv).mono ?_
  rintro e w5 ⟨ulv,rfl,ho,b⟩
  have Xms:Hid (OwnI w5 w.heap.size ums.v m.ms):=Xms.out.under b
  have Xits:Hid (SlI w5 w.heap.size uits.v m.its):=Xits.out.below b
  have Xlv:Hid (OwnI w5 w.heap.size ulv.v m.lv):=ho.down HB.out.size
  have Llv:Hid (∀k,ulv.v.ownBlock=some k→S4.heap.size≤k∧k<w5.heap.size):=ho.lt
  have D5:Hid (S4.heap.size≤w5.heap.size):=b.size
  have HA:Hid (MtB w5 w.heap.size 30 m v):=Bx.later HA.out b
  have HR:Hid (Bx w5 (w.heap.size+1) 41 [.int .i64 0,.int .i64 0,.slice none 0 0,.slice none 0 0,.slice none 0 0,.slice none 0 0,.int .i64 0,.int .i64 0,.int .i64 0,.int .i64 0,.int .i64 0,.int .i64 0,.int .i64 0,.int .i64 0,.int .i64 0,.slice none 0 0]):=HR.out.later b
  have HO:Hid (Bx w5 (w.heap.size+1+1) 41 [.int .i64 m.id,.int .i64 m.rid,.slice ums.a ums.n ums.c,.slice uits.a uits.n uits.c,.slice none 0 0,.slice none 0 0,.int .i64 0,.int .i64 0,.int .i64 0,.int .i64 0,.int .i64 0,.int .i64 0,.int .i64 0,.int .i64 0,.int .i64 0,.slice none 0 0]):=HO.out.later b
  have HB:Hid (Below w.heap.size w w5):=qAa HB.out b
  clear ho b
  obtain⟨⟨c0,c1,c2,c3,c4,c5⟩,⟨c6,c7,c8,c9⟩,c10,c11,c12,c13,c14,c15⟩:=HA.out.cells
  have o4:=HO.out.cell 4
  have z4:=HO.out.frozen 4
  go_wp2_with fail
  clear c0 c1 c2 c3 c4 c5 c6 c7 c8 c9 c10 c11 c12 c13 c14 c15
  clear o4 z4
  have OB:Bx _ (w.heap.size+1+1) 41 [.int .i64 m.id,.int .i64 m.rid,.slice ums.a ums.n ums.c,.slice uits.a uits.n uits.c,.slice ulv.a ulv.n ulv.c,.slice none 0 0,.int .i64 0,.int .i64 0,.int .i64 0,.int .i64 0,.int .i64 0,.int .i64 0,.int .i64 0,.int .i64 0,.int .i64 0,.slice none 0 0]:=(HO.out.set 4 (.slice ulv.a ulv.n ulv.c))
  have TB:=((TurnAt.refl (w.heap.size+1+1) w5).setCell 4 (.slice ulv.a ulv.n ulv.c))
  generalize (w5.setCell ⟨w.heap.size+1+1,4,none⟩ (.slice ulv.a ulv.n ulv.c))=S6 at *
  have Xms:Hid (OwnI S6 w.heap.size ums.v m.ms):=Xms.out.past HO.out TB (by decide)
  have Xits:Hid (SlI S6 w.heap.size uits.v m.its):=Xits.out.past HO.out TB (by decide)
  have Xlv:Hid (OwnI S6 w.heap.size ulv.v m.lv):=Xlv.out.past HO.out TB (by decide)
  have HA:Hid (MtB S6 w.heap.size 30 m v):=Bx.turn HA.out TB (by omega)
  have HR:Hid (Bx S6 (w.heap.size+1) 41 [.int .i64 0,.int .i64 0,.slice none 0 0,.slice none 0 0,.slice none 0 0,.slice none 0 0,.int .i64 0,.int .i64 0,.int .i64 0,.int .i64 0,.int .i64 0,.int .i64 0,.int .i64 0,.int .i64 0,.int .i64 0,.slice none 0 0]):=HR.out.turn TB (by omega)
  have HB:Hid (Below w.heap.size w S6):=HB.out.trans (TB.below (by omega))
  have D6:Hid (w5.heap.size≤S6.heap.size):=Nat.le_of_eq TB.size.symm
  have HO:Hid (Bx S6 (w.heap.size+1+1) 41 [.int .i64 m.id,.int .i64 m.rid,.slice ums.a ums.n ums.c,.slice uits.a uits.n uits.c,.slice ulv.a ulv.n ulv.c,.slice none 0 0,.int .i64 0,.int .i64 0,.int .i64 0,.int .i64 0,.int .i64 0,.int .i64 0,.int .i64 0,.int .i64 0,.int .i64 0,.slice none 0 0]):=OB
  clear TB OB
  refine(toT_r v.tx m.tx S6 (h.out.tx.stays HB.out) hs.out.tx).mono ?_
  rintro e w7 ⟨utx,rfl,ho,b⟩
  have Xms:Hid (OwnI w7 w.heap.size ums.v m.ms):=Xms.out.under b
  have Xits:Hid (SlI w7 w.heap.size uits.v m.its):=Xits.out.below b
  have Xlv:Hid (OwnI w7 w.heap.size ulv.v m.lv):=Xlv.out.under b
  have Xtx:Hid (OwnS w7 w.heap.size utx.v m.tx):=ho.down HB.out.size
  have Ltx:Hid (∀k,utx.v.ownBlock=some k→S6.heap.size≤k∧k<w7.heap.size):=ho.lt
  have D7:Hid (S6.heap.size≤w7.heap.size):=b.size
  have HA:Hid (MtB w7 w.heap.size 30 m v):=Bx.later HA.out b
  have HR:Hid (Bx w7 (w.heap.size+1) 41 [.int .i64 0,.int .i64 0,.slice none 0 0,.slice none 0 0,.slice none 0 0,.slice none 0 0,.int .i64 0,.int .i64 0,.int .i64 0,.int .i64 0,.int .i64 0,.int .i64 0,.int .i64 0,.int .i64 0,.int .i64 0,.slice none 0 0]):=HR.out.later b
  have HO:Hid (Bx w7 (w.heap.size+1+1) 41 [.int .i64 m.id,.int .i64 m.rid,.slice ums.a ums.n ums.c,.slice uits.a uits.n uits.c,.slice ulv.a ulv.n ulv.c,.slice none 0 0,.int .i64 0,.int .i64 0,.int .i64 0,.int .i64 0,.int .i64 0,.int .i64 0,.int .i64 0,.int .i64 0,.int .i64 0,.slice none 0 0]):=HO.out.later b
  have HB:Hid (Below w.heap.size w w7):=qAa HB.out b
  clear ho b
  obtain⟨⟨c0,c1,c2,c3,c4,c5⟩,⟨c6,c7,c8,c9⟩,c10,c11,c12,c13,c14,c15⟩:=HA.out.cells
  have o5:=HO.out.cell 5
  have z5:=HO.out.frozen 5
  have o6:=HO.out.cell 6
  have z6:=HO.out.frozen 6
  have o7:=HO.out.cell 7
  have z7:=HO.out.frozen 7
  have o8:=HO.out.cell 8
  have z8:=HO.out.frozen 8
  have o9:=HO.out.cell 9
  have z9:=HO.out.frozen 9
  go_wp2_with fail
  clear c0 c1 c2 c3 c4 c5 c6 c7 c8 c9 c10 c11 c12 c13 c14 c15
  clear o5 z5 o6 z6 o7 z7 o8 z8 o9 z9
  have OB:Bx _ (w.heap.size+1+1) 41 [.int .i64 m.id,.int .i64 m.rid,.slice ums.a ums.n ums.c,.slice uits.a uits.n uits.c,.slice ulv.a ulv.n ulv.c,.slice utx.a utx.n utx.c,.int .i64 m.rd,.int .i64 m.se,.int .i64 m.li,.int .i64 m.he,.int .i64 0,.int .i64 0,.int .i64 0,.int .i64 0,.int .i64 0,.slice none 0 0]:=(((((HO.out.set 5 (.slice utx.a utx.n utx.c)).set 6 (.int .i64 m.rd)).set 7 (.int .i64 m.se)).set 8 (.int .i64 m.li)).set 9 (.int .i64 m.he))
  have TB:=((((((TurnAt.refl (w.heap.size+1+1) w7).setCell 5 (.slice utx.a utx.n utx.c)).setCell 6 (.int .i64 m.rd)).setCell 7 (.int .i64 m.se)).setCell 8 (.int .i64 m.li)).setCell 9 (.int .i64 m.he))
  generalize (((((w7.setCell ⟨w.heap.size+1+1,5,none⟩ (.slice utx.a utx.n utx.c)).setCell ⟨w.heap.size+1+1,6,none⟩ (.int .i64 m.rd)).setCell ⟨w.heap.size+1+1,7,none⟩ (.int .i64 m.se)).setCell ⟨w.heap.size+1+1,8,none⟩ (.int .i64 m.li)).setCell ⟨w.heap.size+1+1,9,none⟩ (.int .i64 m.he))=S8 at *
  have Xms:Hid (OwnI S8 w.heap.size ums.v m.ms):=Xms.out.past HO.out TB (by decide)
  have Xits:Hid (SlI S8 w.heap.size uits.v m.its):=Xits.out.past HO.out TB (by decide)
  have Xlv:Hid (OwnI S8 w.heap.size ulv.v m.lv):=Xlv.out.past HO.out TB (by decide)
  have Xtx:Hid (OwnS S8 w.heap.size utx.v m.tx):=Xtx.out.past HO.out TB (by decide)
  have HA:Hid (MtB S8 w.heap.size 30 m v):=Bx.turn HA.out TB (by omega)
  have HR:Hid (Bx S8 (w.heap.size+1) 41 [.int .i64 0,.int .i64 0,.slice none 0 0,.slice none 0 0,.slice none 0 0,.slice none 0 0,.int .i64 0,.int .i64 0,.int .i64 0,.int .i64 0,.int .i64 0,.int .i64 0,.int .i64 0,.int .i64 0,.int .i64 0,.slice none 0 0]):=HR.out.turn TB (by omega)
  have HB:Hid (Below w.heap.size w S8):=HB.out.trans (TB.below (by omega))
  have D8:Hid (w7.heap.size≤S8.heap.size):=Nat.le_of_eq TB.size.symm
  have HO:Hid (Bx S8 (w.heap.size+1+1) 41 [.int .i64 m.id,.int .i64 m.rid,.slice ums.a ums.n ums.c,.slice uits.a uits.n uits.c,.slice ulv.a ulv.n ulv.c,.slice utx.a utx.n utx.c,.int .i64 m.rd,.int .i64 m.se,.int .i64 m.li,.int .i64 m.he,.int .i64 0,.int .i64 0,.int .i64 0,.int .i64 0,.int .i64 0,.slice none 0 0]):=OB
  clear TB OB
  refine(toTok_r m.la.c m.la.r m.la.q m.la.a m.la.b v.ws m.la.ws S8 (h.out.ws.stays HB.out) hs.out.ws).mono ?_
  rintro e w9 ⟨uws,rfl,ho,b⟩
  have Xms:Hid (OwnI w9 w.heap.size ums.v m.ms):=Xms.out.under b
  have Xits:Hid (SlI w9 w.heap.size uits.v m.its):=Xits.out.below b
  have Xlv:Hid (OwnI w9 w.heap.size ulv.v m.lv):=Xlv.out.under b
  have Xtx:Hid (OwnS w9 w.heap.size utx.v m.tx):=qGa Xtx.out b
  have Xws:Hid (OwnI w9 w.heap.size uws.v m.la.ws):=ho.down HB.out.size
  have Lws:Hid (∀k,uws.v.ownBlock=some k→S8.heap.size≤k∧k<w9.heap.size):=ho.lt
  have D9:Hid (S8.heap.size≤w9.heap.size):=b.size
  have HA:Hid (MtB w9 w.heap.size 30 m v):=Bx.later HA.out b
  have HR:Hid (Bx w9 (w.heap.size+1) 41 [.int .i64 0,.int .i64 0,.slice none 0 0,.slice none 0 0,.slice none 0 0,.slice none 0 0,.int .i64 0,.int .i64 0,.int .i64 0,.int .i64 0,.int .i64 0,.int .i64 0,.int .i64 0,.int .i64 0,.int .i64 0,.slice none 0 0]):=HR.out.later b
  have HO:Hid (Bx w9 (w.heap.size+1+1) 41 [.int .i64 m.id,.int .i64 m.rid,.slice ums.a ums.n ums.c,.slice uits.a uits.n uits.c,.slice ulv.a ulv.n ulv.c,.slice utx.a utx.n utx.c,.int .i64 m.rd,.int .i64 m.se,.int .i64 m.li,.int .i64 m.he,.int .i64 0,.int .i64 0,.int .i64 0,.int .i64 0,.int .i64 0,.slice none 0 0]):=HO.out.later b
  have HB:Hid (Below w.heap.size w w9):=qAa HB.out b
  clear ho b
  go_wp2_with (first|(refine qAf rfl 39 _ _ rfl (w.heap.size+1+1) 10 rfl 41 _ HO.out [.int .i64 m.la.c,.int .i64 m.la.r,.int .i64 m.la.q,.int .i64 m.la.a,.int .i64 m.la.b,.slice uws.a uws.n uws.c] rfl (by simp) Tryz.sizeT rfl [.int .i64 m.id,.int .i64 m.rid,.slice ums.a ums.n ums.c,.slice uits.a uits.n uits.c,.slice ulv.a ulv.n ulv.c,.slice utx.a utx.n utx.c,.int .i64 m.rd,.int .i64 m.se,.int .i64 m.li,.int .i64 m.he,.int .i64 m.la.c,.int .i64 m.la.r,.int .i64 m.la.q,.int .i64 m.la.a,.int .i64 m.la.b,.slice uws.a uws.n uws.c] rfl ?_;intro w10 OB TB;have Xms:Hid (OwnI w10 w.heap.size ums.v m.ms):=Xms.out.past HO.out TB (by decide);have Xits:Hid (SlI w10 w.heap.size uits.v m.its):=Xits.out.past HO.out TB (by decide);have Xlv:Hid (OwnI w10 w.heap.size ulv.v m.lv):=Xlv.out.past HO.out TB (by decide);have Xtx:Hid (OwnS w10 w.heap.size utx.v m.tx):=Xtx.out.past HO.out TB (by decide);have Xws:Hid (OwnI w10 w.heap.size uws.v m.la.ws):=Xws.out.past HO.out TB (by decide);have HA:Hid (MtB w10 w.heap.size 30 m v):=Bx.turn HA.out TB (by omega);have HR:Hid (Bx w10 (w.heap.size+1) 41 [.int .i64 0,.int .i64 0,.slice none 0 0,.slice none 0 0,.slice none 0 0,.slice none 0 0,.int .i64 0,.int .i64 0,.int .i64 0,.int .i64 0,.int .i64 0,.int .i64 0,.int .i64 0,.int .i64 0,.int .i64 0,.slice none 0 0]):=HR.out.turn TB (by omega);have HB:Hid (Below w.heap.size w w10):=HB.out.trans (TB.below (by omega));have D10:Hid (w9.heap.size≤w10.heap.size):=Nat.le_of_eq TB.size.symm;have HO:Hid (Bx w10 (w.heap.size+1+1) 41 [.int .i64 m.id,.int .i64 m.rid,.slice ums.a ums.n ums.c,.slice uits.a uits.n uits.c,.slice ulv.a ulv.n ulv.c,.slice utx.a utx.n utx.c,.int .i64 m.rd,.int .i64 m.se,.int .i64 m.li,.int .i64 m.he,.int .i64 m.la.c,.int .i64 m.la.r,.int .i64 m.la.q,.int .i64 m.la.a,.int .i64 m.la.b,.slice uws.a uws.n uws.c]):=OB;clear TB OB)|(refine wpList_ldB rfl 41 _ rfl (w.heap.size+1+1) 0 rfl 41 _ HO.out [.int .i64 m.id,.int .i64 m.rid,.slice ums.a ums.n ums.c,.slice uits.a uits.n uits.c,.slice ulv.a ulv.n ulv.c,.slice utx.a utx.n utx.c,.int .i64 m.rd,.int .i64 m.se,.int .i64 m.li,.int .i64 m.he,.int .i64 m.la.c,.int .i64 m.la.r,.int .i64 m.la.q,.int .i64 m.la.a,.int .i64 m.la.b,.slice uws.a uws.n uws.c] rfl _ Tryz.underlying41 rfl Tryz.sizeM ?_)|(refine qAf rfl 41 _ _ rfl (w.heap.size+1) 0 rfl 41 _ HR.out [.int .i64 m.id,.int .i64 m.rid,.slice ums.a ums.n ums.c,.slice uits.a uits.n uits.c,.slice ulv.a ulv.n ulv.c,.slice utx.a utx.n utx.c,.int .i64 m.rd,.int .i64 m.se,.int .i64 m.li,.int .i64 m.he,.int .i64 m.la.c,.int .i64 m.la.r,.int .i64 m.la.q,.int .i64 m.la.a,.int .i64 m.la.b,.slice uws.a uws.n uws.c] rfl (by simp) Tryz.sizeM rfl [.int .i64 m.id,.int .i64 m.rid,.slice ums.a ums.n ums.c,.slice uits.a uits.n uits.c,.slice ulv.a ulv.n ulv.c,.slice utx.a utx.n utx.c,.int .i64 m.rd,.int .i64 m.se,.int .i64 m.li,.int .i64 m.he,.int .i64 m.la.c,.int .i64 m.la.r,.int .i64 m.la.q,.int .i64 m.la.a,.int .i64 m.la.b,.slice uws.a uws.n uws.c] rfl ?_;intro wz RZ TZ))
  have Xms:=Xms.out.past HR.out TZ (by decide)
  have Xits:=Xits.out.past HR.out TZ (by decide)
  have Xlv:=Xlv.out.past HR.out TZ (by decide)
  have Xtx:=Xtx.out.past HR.out TZ (by decide)
  have Xws:=Xws.out.past HR.out TZ (by decide)
  have BZ:=HB.out.trans (TZ.below (by omega))
  refine bodyPost_ret (qAw Tryz.results33 (w.heap.size+1) 41 [.int .i64 m.id,.int .i64 m.rid,.slice ums.a ums.n ums.c,.slice uits.a uits.n uits.c,.slice ulv.a ulv.n ulv.c,.slice utx.a utx.n utx.c,.int .i64 m.rd,.int .i64 m.se,.int .i64 m.li,.int .i64 m.he,.int .i64 m.la.c,.int .i64 m.la.r,.int .i64 m.la.q,.int .i64 m.la.a,.int .i64 m.la.b,.slice uws.a uws.n uws.c] _ rfl RZ Tryz.underlying41 rfl Tryz.sizeM) rfl ?_
  have d1:=D1.out
  have d2:=D2.out
  have d3:=D3.out
  have d4:=D4.out
  have d5:=D5.out
  have d6:=D6.out
  have d7:=D7.out
  have d8:=D8.out
  have d9:=D9.out
  have d10:=D10.out
  refine⟨⟨ums,uits,ulv,utx,uws⟩,rfl,⟨Xms,Xits,Xlv,Xtx,Xws,?_,?_,?_⟩,BZ⟩
  · exact fun k h1 h2=>by have:=(Lms.out k h1).2;have:=(Llv.out k h2).1;omega
  · exact fun k h1 h2=>by have:=(Lms.out k h1).2;have:=(Lws.out k h2).1;omega
  · exact fun k h1 h2=>by have:=(Llv.out k h1).2;have:=(Lws.out k h2).1;omega
theorem eqMate_same(m:Mt)(u v:Mv)(B1 B2:Nat)(w:World)(h1:Hid (MtO w B1 m u))(h2:Hid (MtO w B2 m v))(hs:Hid (MtS m)):
    Calls Tryz.prog 43 #[.agg #[.int .i64 m.id,.int .i64 m.rid,.slice u.ms.a u.ms.n u.ms.c,.slice u.its.a u.its.n u.its.c,.slice u.lv.a u.lv.n u.lv.c,.slice u.tx.a u.tx.n u.tx.c,.int .i64 m.rd,.int .i64 m.se,.int .i64 m.li,.int .i64 m.he,.int .i64 m.la.c,.int .i64 m.la.r,.int .i64 m.la.q,.int .i64 m.la.a,.int .i64 m.la.b,.slice u.ws.a u.ws.n u.ws.c],.agg #[.int .i64 m.id,.int .i64 m.rid,.slice v.ms.a v.ms.n v.ms.c,.slice v.its.a v.its.n v.its.c,.slice v.lv.a v.lv.n v.lv.c,.slice v.tx.a v.tx.n v.tx.c,.int .i64 m.rd,.int .i64 m.se,.int .i64 m.li,.int .i64 m.he,.int .i64 m.la.c,.int .i64 m.la.r,.int .i64 m.la.q,.int .i64 m.la.a,.int .i64 m.la.b,.slice v.ws.a v.ws.n v.ws.c]] w fun e w'=>e=.returned (.bool true)∧Below w.heap.size w w':=by
  have hn1:(w.alloc (.cells #[.int .i64 m.id,.int .i64 m.rid,.slice u.ms.a u.ms.n u.ms.c,.slice u.its.a u.its.n u.its.c,.slice u.lv.a u.lv.n u.lv.c,.slice u.tx.a u.tx.n u.tx.c,.int .i64 m.rd,.int .i64 m.se,.int .i64 m.li,.int .i64 m.he,.int .i64 m.la.c,.int .i64 m.la.r,.int .i64 m.la.q,.int .i64 m.la.a,.int .i64 m.la.b,.slice u.ws.a u.ws.n u.ws.c] 41)).heap.size=w.heap.size+1:=by simp
  have HA:Hid (MtB ((w.alloc (.cells #[.int .i64 m.id,.int .i64 m.rid,.slice u.ms.a u.ms.n u.ms.c,.slice u.its.a u.its.n u.its.c,.slice u.lv.a u.lv.n u.lv.c,.slice u.tx.a u.tx.n u.tx.c,.int .i64 m.rd,.int .i64 m.se,.int .i64 m.li,.int .i64 m.he,.int .i64 m.la.c,.int .i64 m.la.r,.int .i64 m.la.q,.int .i64 m.la.a,.int .i64 m.la.b,.slice u.ws.a u.ws.n u.ws.c] 41)).alloc (.cells #[.int .i64 m.id,.int .i64 m.rid,.slice v.ms.a v.ms.n v.ms.c,.slice v.its.a v.its.n v.its.c,.slice v.lv.a v.lv.n v.lv.c,.slice v.tx.a v.tx.n v.tx.c,.int .i64 m.rd,.int .i64 m.se,.int .i64 m.li,.int .i64 m.he,.int .i64 m.la.c,.int .i64 m.la.r,.int .i64 m.la.q,.int .i64 m.la.a,.int .i64 m.la.b,.slice v.ws.a v.ws.n v.ws.c] 41)) w.heap.size 41 m u):=by
    have h:=Bx.new w 41 [.int .i64 m.id,.int .i64 m.rid,.slice u.ms.a u.ms.n u.ms.c,.slice u.its.a u.its.n u.its.c,.slice u.lv.a u.lv.n u.lv.c,.slice u.tx.a u.tx.n u.tx.c,.int .i64 m.rd,.int .i64 m.se,.int .i64 m.li,.int .i64 m.he,.int .i64 m.la.c,.int .i64 m.la.r,.int .i64 m.la.q,.int .i64 m.la.a,.int .i64 m.la.b,.slice u.ws.a u.ws.n u.ws.c]
    exact h.stays (B:=w.heap.size+1) ((Below.refl _ _).alloc (by rw[hn1];exact Nat.le_refl _) _) (by omega)
  have HC:Hid (MtB ((w.alloc (.cells #[.int .i64 m.id,.int .i64 m.rid,.slice u.ms.a u.ms.n u.ms.c,.slice u.its.a u.its.n u.its.c,.slice u.lv.a u.lv.n u.lv.c,.slice u.tx.a u.tx.n u.tx.c,.int .i64 m.rd,.int .i64 m.se,.int .i64 m.li,.int .i64 m.he,.int .i64 m.la.c,.int .i64 m.la.r,.int .i64 m.la.q,.int .i64 m.la.a,.int .i64 m.la.b,.slice u.ws.a u.ws.n u.ws.c] 41)).alloc (.cells #[.int .i64 m.id,.int .i64 m.rid,.slice v.ms.a v.ms.n v.ms.c,.slice v.its.a v.its.n v.its.c,.slice v.lv.a v.lv.n v.lv.c,.slice v.tx.a v.tx.n v.tx.c,.int .i64 m.rd,.int .i64 m.se,.int .i64 m.li,.int .i64 m.he,.int .i64 m.la.c,.int .i64 m.la.r,.int .i64 m.la.q,.int .i64 m.la.a,.int .i64 m.la.b,.slice v.ws.a v.ws.n v.ws.c] 41)) (w.heap.size+1) 41 m v):=by
    have h:=Bx.new (w.alloc (.cells #[.int .i64 m.id,.int .i64 m.rid,.slice u.ms.a u.ms.n u.ms.c,.slice u.its.a u.its.n u.its.c,.slice u.lv.a u.lv.n u.lv.c,.slice u.tx.a u.tx.n u.tx.c,.int .i64 m.rd,.int .i64 m.se,.int .i64 m.li,.int .i64 m.he,.int .i64 m.la.c,.int .i64 m.la.r,.int .i64 m.la.q,.int .i64 m.la.a,.int .i64 m.la.b,.slice u.ws.a u.ws.n u.ws.c] 41)) 41 [.int .i64 m.id,.int .i64 m.rid,.slice v.ms.a v.ms.n v.ms.c,.slice v.its.a v.its.n v.its.c,.slice v.lv.a v.lv.n v.lv.c,.slice v.tx.a v.tx.n v.tx.c,.int .i64 m.rd,.int .i64 m.se,.int .i64 m.li,.int .i64 m.he,.int .i64 m.la.c,.int .i64 m.la.r,.int .i64 m.la.q,.int .i64 m.la.a,.int .i64 m.la.b,.slice v.ws.a v.ws.n v.ws.c]
    rw[hn1]at h
    exact h
  have HB:Hid (Below w.heap.size w ((w.alloc (.cells #[.int .i64 m.id,.int .i64 m.rid,.slice u.ms.a u.ms.n u.ms.c,.slice u.its.a u.its.n u.its.c,.slice u.lv.a u.lv.n u.lv.c,.slice u.tx.a u.tx.n u.tx.c,.int .i64 m.rd,.int .i64 m.se,.int .i64 m.li,.int .i64 m.he,.int .i64 m.la.c,.int .i64 m.la.r,.int .i64 m.la.q,.int .i64 m.la.a,.int .i64 m.la.b,.slice u.ws.a u.ws.n u.ws.c] 41)).alloc (.cells #[.int .i64 m.id,.int .i64 m.rid,.slice v.ms.a v.ms.n v.ms.c,.slice v.its.a v.its.n v.its.c,.slice v.lv.a v.lv.n v.lv.c,.slice v.tx.a v.tx.n v.tx.c,.int .i64 m.rd,.int .i64 m.se,.int .i64 m.li,.int .i64 m.he,.int .i64 m.la.c,.int .i64 m.la.r,.int .i64 m.la.q,.int .i64 m.la.a,.int .i64 m.la.b,.slice v.ws.a v.ws.n v.ws.c] 41))):=((Below.refl _ _).alloc (Nat.le_refl _) _).alloc (by simp) _
  have H1:Hid (MtO ((w.alloc (.cells #[.int .i64 m.id,.int .i64 m.rid,.slice u.ms.a u.ms.n u.ms.c,.slice u.its.a u.its.n u.its.c,.slice u.lv.a u.lv.n u.lv.c,.slice u.tx.a u.tx.n u.tx.c,.int .i64 m.rd,.int .i64 m.se,.int .i64 m.li,.int .i64 m.he,.int .i64 m.la.c,.int .i64 m.la.r,.int .i64 m.la.q,.int .i64 m.la.a,.int .i64 m.la.b,.slice u.ws.a u.ws.n u.ws.c] 41)).alloc (.cells #[.int .i64 m.id,.int .i64 m.rid,.slice v.ms.a v.ms.n v.ms.c,.slice v.its.a v.its.n v.its.c,.slice v.lv.a v.lv.n v.lv.c,.slice v.tx.a v.tx.n v.tx.c,.int .i64 m.rd,.int .i64 m.se,.int .i64 m.li,.int .i64 m.he,.int .i64 m.la.c,.int .i64 m.la.r,.int .i64 m.la.q,.int .i64 m.la.a,.int .i64 m.la.b,.slice v.ws.a v.ws.n v.ws.c] 41)) B1 m u):=h1.out.later HB.out
  have H2:Hid (MtO ((w.alloc (.cells #[.int .i64 m.id,.int .i64 m.rid,.slice u.ms.a u.ms.n u.ms.c,.slice u.its.a u.its.n u.its.c,.slice u.lv.a u.lv.n u.lv.c,.slice u.tx.a u.tx.n u.tx.c,.int .i64 m.rd,.int .i64 m.se,.int .i64 m.li,.int .i64 m.he,.int .i64 m.la.c,.int .i64 m.la.r,.int .i64 m.la.q,.int .i64 m.la.a,.int .i64 m.la.b,.slice u.ws.a u.ws.n u.ws.c] 41)).alloc (.cells #[.int .i64 m.id,.int .i64 m.rid,.slice v.ms.a v.ms.n v.ms.c,.slice v.its.a v.its.n v.its.c,.slice v.lv.a v.lv.n v.lv.c,.slice v.tx.a v.tx.n v.tx.c,.int .i64 m.rd,.int .i64 m.se,.int .i64 m.li,.int .i64 m.he,.int .i64 m.la.c,.int .i64 m.la.r,.int .i64 m.la.q,.int .i64 m.la.a,.int .i64 m.la.b,.slice v.ws.a v.ws.n v.ws.c] 41)) B2 m v):=h2.out.later HB.out
  obtain⟨⟨c0,c1,c2,c3,c4,c5⟩,⟨c6,c7,c8,c9⟩,c10,c11,c12,c13,c14,c15⟩:=HA.out.cells
  obtain⟨⟨d0,d1,d2,d3,d4,d5⟩,⟨d6,d7,d8,d9⟩,d10,d11,d12,d13,d14,d15⟩:=HC.out.cells
  clear h1 h2 hn1
  go_enter Tryz.func43,Tryz.ntmps43
  go_wp2_with fail
  generalize ((w.alloc (.cells #[.int .i64 m.id,.int .i64 m.rid,.slice u.ms.a u.ms.n u.ms.c,.slice u.its.a u.its.n u.its.c,.slice u.lv.a u.lv.n u.lv.c,.slice u.tx.a u.tx.n u.tx.c,.int .i64 m.rd,.int .i64 m.se,.int .i64 m.li,.int .i64 m.he,.int .i64 m.la.c,.int .i64 m.la.r,.int .i64 m.la.q,.int .i64 m.la.a,.int .i64 m.la.b,.slice u.ws.a u.ws.n u.ws.c] 41)).alloc (.cells #[.int .i64 m.id,.int .i64 m.rid,.slice v.ms.a v.ms.n v.ms.c,.slice v.its.a v.its.n v.its.c,.slice v.lv.a v.lv.n v.lv.c,.slice v.tx.a v.tx.n v.tx.c,.int .i64 m.rd,.int .i64 m.se,.int .i64 m.li,.int .i64 m.he,.int .i64 m.la.c,.int .i64 m.la.r,.int .i64 m.la.q,.int .i64 m.la.a,.int .i64 m.la.b,.slice v.ws.a v.ws.n v.ws.c] 41))=W at *
  clear c0 c1 c2 c3 c4 c5 c6 c7 c8 c9 c10 c11 c12 c13 c14 c15 d0 d1 d2 d3 d4 d5 d6 d7 d8 d9 d10 d11 d12 d13 d14 d15
  refine(qDb m.rid u.ms.v v.ms.v m.ms B1 B2 _ H1.out.ms H2.out.ms hs.out.ms).mono ?_
  rintro e w1 ⟨rfl,b⟩
  have HA:Hid (MtB w1 w.heap.size 41 m u):=Bx.later HA.out b
  have HC:Hid (MtB w1 (w.heap.size+1) 41 m v):=Bx.later HC.out b
  have H1:Hid (MtO w1 B1 m u):=H1.out.later b
  have H2:Hid (MtO w1 B2 m v):=H2.out.later b
  have HB:Hid (Below w.heap.size w w1):=qAa HB.out b
  clear b
  obtain⟨⟨c0,c1,c2,c3,c4,c5⟩,⟨c6,c7,c8,c9⟩,c10,c11,c12,c13,c14,c15⟩:=HA.out.cells
  obtain⟨⟨d0,d1,d2,d3,d4,d5⟩,⟨d6,d7,d8,d9⟩,d10,d11,d12,d13,d14,d15⟩:=HC.out.cells
  go_wp2_with fail
  clear c0 c1 c2 c3 c4 c5 c6 c7 c8 c9 c10 c11 c12 c13 c14 c15 d0 d1 d2 d3 d4 d5 d6 d7 d8 d9 d10 d11 d12 d13 d14 d15
  refine(qGe u.its.v v.its.v m.its B1 B2 _ H1.out.its H2.out.its hs.out.its).mono ?_
  rintro e w2 ⟨rfl,b⟩
  have HA:Hid (MtB w2 w.heap.size 41 m u):=Bx.later HA.out b
  have HC:Hid (MtB w2 (w.heap.size+1) 41 m v):=Bx.later HC.out b
  have H1:Hid (MtO w2 B1 m u):=H1.out.later b
  have H2:Hid (MtO w2 B2 m v):=H2.out.later b
  have HB:Hid (Below w.heap.size w w2):=qAa HB.out b
  clear b
  obtain⟨⟨c0,c1,c2,c3,c4,c5⟩,⟨c6,c7,c8,c9⟩,c10,c11,c12,c13,c14,c15⟩:=HA.out.cells
  obtain⟨⟨d0,d1,d2,d3,d4,d5⟩,⟨d6,d7,d8,d9⟩,d10,d11,d12,d13,d14,d15⟩:=HC.out.cells
  go_wp2_with fail
  clear c0 c1 c2 c3 c4 c5 c6 c7 c8 c9 c10 c11 c12 c13 c14 c15 d0 d1 d2 d3 d4 d5 d6 d7 d8 d9 d10 d11 d12 d13 d14 d15
  refine(qEs u.lv.v v.lv.v m.lv B1 B2 _ H1.out.lv H2.out.lv hs.out.lv).mono ?_
  rintro e w3 ⟨rfl,b⟩
  have HA:Hid (MtB w3 w.heap.size 41 m u):=Bx.later HA.out b
  have HC:Hid (MtB w3 (w.heap.size+1) 41 m v):=Bx.later HC.out b
  have H1:Hid (MtO w3 B1 m u):=H1.out.later b
  have H2:Hid (MtO w3 B2 m v):=H2.out.later b
  have HB:Hid (Below w.heap.size w w3):=qAa HB.out b
  clear b
  obtain⟨⟨c0,c1,c2,c3,c4,c5⟩,⟨c6,c7,c8,c9⟩,c10,c11,c12,c13,c14,c15⟩:=HA.out.cells
  obtain⟨⟨d0,d1,d2,d3,d4,d5⟩,⟨d6,d7,d8,d9⟩,d10,d11,d12,d13,d14,d15⟩:=HC.out.cells
  go_wp2_with fail
  clear c0 c1 c2 c3 c4 c5 c6 c7 c8 c9 c10 c11 c12 c13 c14 c15 d0 d1 d2 d3 d4 d5 d6 d7 d8 d9 d10 d11 d12 d13 d14 d15
  refine(eqS_same u.tx.v v.tx.v m.tx B1 B2 _ H1.out.tx H2.out.tx (by have:=hs.out.tx;omega)).mono ?_
  rintro e w4 ⟨rfl,b⟩
  have HA:Hid (MtB w4 w.heap.size 41 m u):=Bx.later HA.out b
  have HC:Hid (MtB w4 (w.heap.size+1) 41 m v):=Bx.later HC.out b
  have H1:Hid (MtO w4 B1 m u):=H1.out.later b
  have H2:Hid (MtO w4 B2 m v):=H2.out.later b
  have HB:Hid (Below w.heap.size w w4):=qAa HB.out b
  clear b
  obtain⟨⟨c0,c1,c2,c3,c4,c5⟩,⟨c6,c7,c8,c9⟩,c10,c11,c12,c13,c14,c15⟩:=HA.out.cells
  obtain⟨⟨d0,d1,d2,d3,d4,d5⟩,⟨d6,d7,d8,d9⟩,d10,d11,d12,d13,d14,d15⟩:=HC.out.cells
  go_wp2_with fail
  clear c0 c1 c2 c3 c4 c5 c6 c7 c8 c9 c10 c11 c12 c13 c14 c15 d0 d1 d2 d3 d4 d5 d6 d7 d8 d9 d10 d11 d12 d13 d14 d15
  refine(eqTok_same m.la.c m.la.r m.la.q m.la.a m.la.b u.ws.v v.ws.v m.la.ws B1 B2 _ H1.out.ws H2.out.ws hs.out.ws).mono ?_
  rintro e w5 ⟨rfl,b⟩
  have HA:Hid (MtB w5 w.heap.size 41 m u):=Bx.later HA.out b
  have HC:Hid (MtB w5 (w.heap.size+1) 41 m v):=Bx.later HC.out b
  have H1:Hid (MtO w5 B1 m u):=H1.out.later b
  have H2:Hid (MtO w5 B2 m v):=H2.out.later b
  have HB:Hid (Below w.heap.size w w5):=qAa HB.out b
  clear b
  obtain⟨⟨c0,c1,c2,c3,c4,c5⟩,⟨c6,c7,c8,c9⟩,c10,c11,c12,c13,c14,c15⟩:=HA.out.cells
  obtain⟨⟨d0,d1,d2,d3,d4,d5⟩,⟨d6,d7,d8,d9⟩,d10,d11,d12,d13,d14,d15⟩:=HC.out.cells
  go_wp2_with fail
  go_ret
  exact⟨rfl,HB.out⟩
/-- a member whose lists are marks. -/
def qCm(K:Nat)(m:Mt):Mt:=
  ⟨m.id,m.rid,qAm K m.ms.length,mkI (K+m.ms.length) m.its.length,qAm (K+m.ms.length+4 * m.its.length) m.lv.length,mkT (K+m.ms.length+4 * m.its.length+m.lv.length) m.tx.length,m.rd,m.se,m.li,m.he,
    ⟨m.la.c,m.la.r,m.la.q,m.la.a,m.la.b,qAm (K+m.ms.length+4 * m.its.length+m.lv.length+m.tx.length) m.la.ws.length⟩⟩
def endM(K:Nat)(m:Mt):Nat:=K+m.ms.length+4 * m.its.length+m.lv.length+m.tx.length+m.la.ws.length
theorem markMate_any(m:Mt)(v:Mv)(B K:Nat)(w:World)(h:Hid (MtO w B m v))(hl:endM K m≤39999990)(hK:0<K):
    Calls Tryz.prog 47 #[.agg #[.int .i64 m.id,.int .i64 m.rid,.slice v.ms.a v.ms.n v.ms.c,.slice v.its.a v.its.n v.its.c,.slice v.lv.a v.lv.n v.lv.c,.slice v.tx.a v.tx.n v.tx.c,.int .i64 m.rd,.int .i64 m.se,.int .i64 m.li,.int .i64 m.he,.int .i64 m.la.c,.int .i64 m.la.r,.int .i64 m.la.q,.int .i64 m.la.a,.int .i64 m.la.b,.slice v.ws.a v.ws.n v.ws.c],.int .i64 K] w fun e w'=>e=.returned (.int .i64 ((endM K m:Nat):Int))∧MtO w' B (qCm K m) v∧Gr v.own w w':=by
  unfold endM at hl
  have HA:Hid (MtB (w.alloc (.cells #[.int .i64 m.id,.int .i64 m.rid,.slice v.ms.a v.ms.n v.ms.c,.slice v.its.a v.its.n v.its.c,.slice v.lv.a v.lv.n v.lv.c,.slice v.tx.a v.tx.n v.tx.c,.int .i64 m.rd,.int .i64 m.se,.int .i64 m.li,.int .i64 m.he,.int .i64 m.la.c,.int .i64 m.la.r,.int .i64 m.la.q,.int .i64 m.la.a,.int .i64 m.la.b,.slice v.ws.a v.ws.n v.ws.c] 41)) w.heap.size 41 m v):=Bx.new w 41 _
  have HG:Hid (Gr v.own w (w.alloc (.cells #[.int .i64 m.id,.int .i64 m.rid,.slice v.ms.a v.ms.n v.ms.c,.slice v.its.a v.its.n v.its.c,.slice v.lv.a v.lv.n v.lv.c,.slice v.tx.a v.tx.n v.tx.c,.int .i64 m.rd,.int .i64 m.se,.int .i64 m.li,.int .i64 m.he,.int .i64 m.la.c,.int .i64 m.la.r,.int .i64 m.la.q,.int .i64 m.la.a,.int .i64 m.la.b,.slice v.ws.a v.ws.n v.ws.c] 41))):=gr_below ((Below.refl _ _).alloc (Nat.le_refl _) _)
  have HO:Hid (MtO (w.alloc (.cells #[.int .i64 m.id,.int .i64 m.rid,.slice v.ms.a v.ms.n v.ms.c,.slice v.its.a v.its.n v.its.c,.slice v.lv.a v.lv.n v.lv.c,.slice v.tx.a v.tx.n v.tx.c,.int .i64 m.rd,.int .i64 m.se,.int .i64 m.li,.int .i64 m.he,.int .i64 m.la.c,.int .i64 m.la.r,.int .i64 m.la.q,.int .i64 m.la.a,.int .i64 m.la.b,.slice v.ws.a v.ws.n v.ws.c] 41)) B m v):=h.out.later ((Below.refl _ _).alloc (Nat.le_refl _) _)
  have NE:Hid (∀k,v.own k→k≠w.heap.size):=fun k hk=>by have:=(h.out.lt hk).2;omega
  obtain⟨⟨c0,c1,c2,c3,c4,c5⟩,⟨c6,c7,c8,c9⟩,c10,c11,c12,c13,c14,c15⟩:=HA.out.cells
  clear h
  go_enter Tryz.func47,Tryz.ntmps47
  go_wp2_with fail
  generalize (w.alloc (.cells #[.int .i64 m.id,.int .i64 m.rid,.slice v.ms.a v.ms.n v.ms.c,.slice v.its.a v.its.n v.its.c,.slice v.lv.a v.lv.n v.lv.c,.slice v.tx.a v.tx.n v.tx.c,.int .i64 m.rd,.int .i64 m.se,.int .i64 m.li,.int .i64 m.he,.int .i64 m.la.c,.int .i64 m.la.r,.int .i64 m.la.q,.int .i64 m.la.a,.int .i64 m.la.b,.slice v.ws.a v.ws.n v.ws.c] 41))=W at *
  have O1:Hid (OwnI W B v.ms.v m.ms):=HO.out.ms
  have O2:Hid (SlI W B v.its.v m.its):=HO.out.its
  have O3:Hid (OwnI W B v.lv.v m.lv):=HO.out.lv
  have O4:Hid (OwnS W B v.tx.v m.tx):=HO.out.tx
  have O5:Hid (OwnI W B v.ws.v m.la.ws):=HO.out.ws
  have A1:=HO.out.a1
  have A2:=HO.out.a2
  have A3:=HO.out.a3
  have A4:=ap_i_s O1.out O4.out
  have A5:=ap_i_s O3.out O4.out
  have A6:=ap_i_s O5.out O4.out
  have A7:=ap_i_it O1.out O2.out
  have A8:=ap_i_it O3.out O2.out
  have A9:=ap_i_it O5.out O2.out
  have A10:=ap_s_it O4.out O2.out
  have AP:Hid _:=And.intro A1 (And.intro A2 (And.intro A3 (And.intro A4 (And.intro A5 (And.intro A6 (And.intro A7 (And.intro A8 (And.intro A9 A10))))))))
  clear A1 A2 A3 A4 A5 A6 A7 A8 A9 A10 HO
  clear c0 c1 c2 c3 c4 c5 c6 c7 c8 c9 c10 c11 c12 c13 c14 c15
  refine(qEf m.rid v.ms.v m.ms B K _ O1 (by omega) (by omega)).mono ?_
  rintro e w1 ⟨rfl,hv,hg⟩
  have P1:Hid (OwnI w1 B v.ms.v (qAm K m.ms.length)):=hv
  have P2:Hid (SlI w1 B v.its.v m.its):=O2.out.kept hg (fun k h1 h2=>(Ap.symm (AP.out.2.2.2.2.2.2.1)) k h1 h2.symm)
  have P3:Hid (OwnI w1 B v.lv.v m.lv):=O3.out.kept hg (fun k h1 h2=>(Ap.symm (AP.out.1)) k h1 h2.symm)
  have P4:Hid (OwnS w1 B v.tx.v m.tx):=qDk O4.out hg (fun k h1 h2=>(Ap.symm (AP.out.2.2.2.1)) k h1 h2.symm)
  have P5:Hid (OwnI w1 B v.ws.v m.la.ws):=O5.out.kept hg (fun k h1 h2=>(Ap.symm (AP.out.2.1)) k h1 h2.symm)
  have HA:Hid (MtB w1 w.heap.size 41 m v):=Bx.grown HA.out hg (fun he=>NE.out w.heap.size (.inl he.symm) rfl)
  have HG:Hid (Gr v.own w w1):=HG.out.trans (Gr.ofGrown hg (fun k hk=>.inl hk))
  clear O1 O2 O3 O4 O5 hv hg
  have O1:Hid (OwnI w1 B v.ms.v (qAm K m.ms.length)):=P1.out
  have O2:Hid (SlI w1 B v.its.v m.its):=P2.out
  have O3:Hid (OwnI w1 B v.lv.v m.lv):=P3.out
  have O4:Hid (OwnS w1 B v.tx.v m.tx):=P4.out
  have O5:Hid (OwnI w1 B v.ws.v m.la.ws):=P5.out
  clear P1 P2 P3 P4 P5
  obtain⟨⟨c0,c1,c2,c3,c4,c5⟩,⟨c6,c7,c8,c9⟩,c10,c11,c12,c13,c14,c15⟩:=HA.out.cells
  go_wp2_with fail
  clear c0 c1 c2 c3 c4 c5 c6 c7 c8 c9 c10 c11 c12 c13 c14 c15
  refine(qGp v.its.v m.its B (K+m.ms.length) _ O2 (by omega) (by omega)).mono ?_
  rintro e w2 ⟨rfl,hv,hg⟩
  have P1:Hid (OwnI w2 B v.ms.v (qAm K m.ms.length)):=O1.out.kept hg (fun k h1 h2=>AP.out.2.2.2.2.2.2.1 k h1 h2.symm)
  have P2:Hid (SlI w2 B v.its.v (mkI (K+m.ms.length) m.its.length)):=hv
  have P3:Hid (OwnI w2 B v.lv.v m.lv):=O3.out.kept hg (fun k h1 h2=>AP.out.2.2.2.2.2.2.2.1 k h1 h2.symm)
  have P4:Hid (OwnS w2 B v.tx.v m.tx):=qDk O4.out hg (fun k h1 h2=>AP.out.2.2.2.2.2.2.2.2.2 k h1 h2.symm)
  have P5:Hid (OwnI w2 B v.ws.v m.la.ws):=O5.out.kept hg (fun k h1 h2=>AP.out.2.2.2.2.2.2.2.2.1 k h1 h2.symm)
  have HA:Hid (MtB w2 w.heap.size 41 m v):=Bx.grown HA.out hg (fun he=>NE.out w.heap.size (.inr (.inl he.symm)) rfl)
  have HG:Hid (Gr v.own w w2):=HG.out.trans (Gr.ofGrown hg (fun k hk=>.inr (.inl hk)))
  clear O1 O2 O3 O4 O5 hv hg
  have O1:Hid (OwnI w2 B v.ms.v (qAm K m.ms.length)):=P1.out
  have O2:Hid (SlI w2 B v.its.v (mkI (K+m.ms.length) m.its.length)):=P2.out
  have O3:Hid (OwnI w2 B v.lv.v m.lv):=P3.out
  have O4:Hid (OwnS w2 B v.tx.v m.tx):=P4.out
  have O5:Hid (OwnI w2 B v.ws.v m.la.ws):=P5.out
  clear P1 P2 P3 P4 P5
  obtain⟨⟨c0,c1,c2,c3,c4,c5⟩,⟨c6,c7,c8,c9⟩,c10,c11,c12,c13,c14,c15⟩:=HA.out.cells
  go_wp2_with fail
  clear c0 c1 c2 c3 c4 c5 c6 c7 c8 c9 c10 c11 c12 c13 c14 c15
  refine(qFb v.lv.v m.lv B (K+m.ms.length+4 * m.its.length) _ O3.out (by omega) (by omega)).mono ?_
  rintro e w3 ⟨rfl,hv,hg⟩
  have P1:Hid (OwnI w3 B v.ms.v (qAm K m.ms.length)):=O1.out.kept hg (fun k h1 h2=>AP.out.1 k h1 h2.symm)
  have P2:Hid (SlI w3 B v.its.v (mkI (K+m.ms.length) m.its.length)):=O2.out.kept hg (fun k h1 h2=>(Ap.symm (AP.out.2.2.2.2.2.2.2.1)) k h1 h2.symm)
  have P3:Hid (OwnI w3 B v.lv.v (qAm (K+m.ms.length+4 * m.its.length) m.lv.length)):=hv
  have P4:Hid (OwnS w3 B v.tx.v m.tx):=qDk O4.out hg (fun k h1 h2=>(Ap.symm (AP.out.2.2.2.2.1)) k h1 h2.symm)
  have P5:Hid (OwnI w3 B v.ws.v m.la.ws):=O5.out.kept hg (fun k h1 h2=>(Ap.symm (AP.out.2.2.1)) k h1 h2.symm)
  have HA:Hid (MtB w3 w.heap.size 41 m v):=Bx.grown HA.out hg (fun he=>NE.out w.heap.size (.inr (.inr (.inl he.symm))) rfl)
  have HG:Hid (Gr v.own w w3):=HG.out.trans (Gr.ofGrown hg (fun k hk=>.inr (.inr (.inl hk))))
  clear O1 O2 O3 O4 O5 hv hg
  have O1:Hid (OwnI w3 B v.ms.v (qAm K m.ms.length)):=P1.out
  have O2:Hid (SlI w3 B v.its.v (mkI (K+m.ms.length) m.its.length)):=P2.out
  have O3:Hid (OwnI w3 B v.lv.v (qAm (K+m.ms.length+4 * m.its.length) m.lv.length)):=P3.out
  have O4:Hid (OwnS w3 B v.tx.v m.tx):=P4.out
  have O5:Hid (OwnI w3 B v.ws.v m.la.ws):=P5.out
  clear P1 P2 P3 P4 P5
  obtain⟨⟨c0,c1,c2,c3,c4,c5⟩,⟨c6,c7,c8,c9⟩,c10,c11,c12,c13,c14,c15⟩:=HA.out.cells
  go_wp2_with fail
  clear c0 c1 c2 c3 c4 c5 c6 c7 c8 c9 c10 c11 c12 c13 c14 c15
  refine(markSo_any v.tx.v m.tx B (K+m.ms.length+4 * m.its.length+m.lv.length) _ O4.out (by omega) (by omega)).mono ?_
  rintro e w4 ⟨rfl,hv,hg⟩
  have P1:Hid (OwnI w4 B v.ms.v (qAm K m.ms.length)):=O1.out.kept hg (fun k h1 h2=>AP.out.2.2.2.1 k h1 h2.symm)
  have P2:Hid (SlI w4 B v.its.v (mkI (K+m.ms.length) m.its.length)):=O2.out.kept hg (fun k h1 h2=>(Ap.symm (AP.out.2.2.2.2.2.2.2.2.2)) k h1 h2.symm)
  have P3:Hid (OwnI w4 B v.lv.v (qAm (K+m.ms.length+4 * m.its.length) m.lv.length)):=O3.out.kept hg (fun k h1 h2=>AP.out.2.2.2.2.1 k h1 h2.symm)
  have P4:Hid (OwnS w4 B v.tx.v (mkT (K+m.ms.length+4 * m.its.length+m.lv.length) m.tx.length)):=hv
  have P5:Hid (OwnI w4 B v.ws.v m.la.ws):=O5.out.kept hg (fun k h1 h2=>AP.out.2.2.2.2.2.1 k h1 h2.symm)
  have HA:Hid (MtB w4 w.heap.size 41 m v):=Bx.grown HA.out hg (fun he=>NE.out w.heap.size (.inr (.inr (.inr (.inl he.symm)))) rfl)
  have HG:Hid (Gr v.own w w4):=HG.out.trans (Gr.ofGrown hg (fun k hk=>.inr (.inr (.inr (.inl hk)))))
  clear O1 O2 O3 O4 O5 hv hg
  have O1:Hid (OwnI w4 B v.ms.v (qAm K m.ms.length)):=P1.out
  have O2:Hid (SlI w4 B v.its.v (mkI (K+m.ms.length) m.its.length)):=P2.out
  have O3:Hid (OwnI w4 B v.lv.v (qAm (K+m.ms.length+4 * m.its.length) m.lv.length)):=P3.out
  have O4:Hid (OwnS w4 B v.tx.v (mkT (K+m.ms.length+4 * m.its.length+m.lv.length) m.tx.length)):=P4.out
  have O5:Hid (OwnI w4 B v.ws.v m.la.ws):=P5.out
  clear P1 P2 P3 P4 P5
  obtain⟨⟨c0,c1,c2,c3,c4,c5⟩,⟨c6,c7,c8,c9⟩,c10,c11,c12,c13,c14,c15⟩:=HA.out.cells
  go_wp2_with fail
  clear c0 c1 c2 c3 c4 c5 c6 c7 c8 c9 c10 c11 c12 c13 c14 c15
  refine(markTok_any m.la.c m.la.r m.la.q m.la.a m.la.b v.ws.v m.la.ws B (K+m.ms.length+4 * m.its.length+m.lv.length+m.tx.length) _ O5 (by omega) (by omega)).mono ?_
  rintro e w5 ⟨rfl,hv,hg⟩
  have P1:Hid (OwnI w5 B v.ms.v (qAm K m.ms.length)):=O1.out.kept hg (fun k h1 h2=>AP.out.2.1 k h1 h2.symm)
  have P2:Hid (SlI w5 B v.its.v (mkI (K+m.ms.length) m.its.length)):=O2.out.kept hg (fun k h1 h2=>(Ap.symm (AP.out.2.2.2.2.2.2.2.2.1)) k h1 h2.symm)
  have P3:Hid (OwnI w5 B v.lv.v (qAm (K+m.ms.length+4 * m.its.length) m.lv.length)):=O3.out.kept hg (fun k h1 h2=>AP.out.2.2.1 k h1 h2.symm)
  have P4:Hid (OwnS w5 B v.tx.v (mkT (K+m.ms.length+4 * m.its.length+m.lv.length) m.tx.length)):=qDk O4.out hg (fun k h1 h2=>(Ap.symm (AP.out.2.2.2.2.2.1)) k h1 h2.symm)
  have P5:Hid (OwnI w5 B v.ws.v (qAm (K+m.ms.length+4 * m.its.length+m.lv.length+m.tx.length) m.la.ws.length)):=hv
  have HA:Hid (MtB w5 w.heap.size 41 m v):=Bx.grown HA.out hg (fun he=>NE.out w.heap.size (.inr (.inr (.inr (.inr he.symm)))) rfl)
  have HG:Hid (Gr v.own w w5):=HG.out.trans (Gr.ofGrown hg (fun k hk=>.inr (.inr (.inr (.inr hk)))))
  clear O1 O2 O3 O4 O5 hv hg
  have O1:Hid (OwnI w5 B v.ms.v (qAm K m.ms.length)):=P1.out
  have O2:Hid (SlI w5 B v.its.v (mkI (K+m.ms.length) m.its.length)):=P2.out
  have O3:Hid (OwnI w5 B v.lv.v (qAm (K+m.ms.length+4 * m.its.length) m.lv.length)):=P3.out
  have O4:Hid (OwnS w5 B v.tx.v (mkT (K+m.ms.length+4 * m.its.length+m.lv.length) m.tx.length)):=P4.out
  have O5:Hid (OwnI w5 B v.ws.v (qAm (K+m.ms.length+4 * m.its.length+m.lv.length+m.tx.length) m.la.ws.length)):=P5.out
  clear P1 P2 P3 P4 P5
  obtain⟨⟨c0,c1,c2,c3,c4,c5⟩,⟨c6,c7,c8,c9⟩,c10,c11,c12,c13,c14,c15⟩:=HA.out.cells
  go_wp2_with fail
  go_ret
  exact⟨rfl,⟨O1.out,O2.out,O3.out,O4.out,O5.out,AP.out.1,AP.out.2.1,AP.out.2.2.1⟩,HG.out⟩
theorem qEh(i:Int)(v:Value)(n B K:Nat)(w:World)(h1:Hid (OwnI w B v (qAm K n)))(hl:K+n≤39999990)(hK:0<K):
    Calls Tryz.prog 52 #[.agg #[.int .i64 i,v],.int .i64 K] w fun e w'=>e=.returned (.int .i64 ((K+n:Nat):Int))∧Below w.heap.size w w':=by
  obtain⟨ao,cap,rfl⟩:=h1.out.form
  rw[qBw]at *
  have HW:Hid (OwnI (w.alloc (.cells #[.int .i64 i,.slice ao n cap] 37)) B (.slice ao n cap) (qAm K n)):=h1.out.alloc _
  have HB:Hid (Below w.heap.size w (w.alloc (.cells #[.int .i64 i,.slice ao n cap] 37))):=(Below.refl _ _).alloc (Nat.le_refl _) _
  clear h1
  go_enter Tryz.func52,Tryz.ntmps52
  go_wp2_with fail
  generalize w.alloc (.cells #[.int .i64 i,.slice ao n cap] 37)=W at *
  refine(qFf _ n B K W HW.out hl hK).mono ?_
  rintro e w1 ⟨rfl,rfl⟩
  have hz:decide (((K+n:Nat):Int)<0)=false:=by simp;omega
  go_wp2_with fail
  go_ret
  exact⟨rfl,HB.out⟩
theorem heldMate_any(m:Mt)(v:Mv)(B K:Nat)(w:World)(h:Hid (MtO w B (qCm K m) v))(hl:endM K m≤39999990)(hK:0<K):
    Calls Tryz.prog 51 #[.agg #[.int .i64 m.id,.int .i64 m.rid,.slice v.ms.a v.ms.n v.ms.c,.slice v.its.a v.its.n v.its.c,.slice v.lv.a v.lv.n v.lv.c,.slice v.tx.a v.tx.n v.tx.c,.int .i64 m.rd,.int .i64 m.se,.int .i64 m.li,.int .i64 m.he,.int .i64 m.la.c,.int .i64 m.la.r,.int .i64 m.la.q,.int .i64 m.la.a,.int .i64 m.la.b,.slice v.ws.a v.ws.n v.ws.c],.int .i64 K] w fun e w'=>e=.returned (.int .i64 ((endM K m:Nat):Int))∧Below w.heap.size w w':=by
  unfold endM at hl
  have HA:Hid (MtB (w.alloc (.cells #[.int .i64 m.id,.int .i64 m.rid,.slice v.ms.a v.ms.n v.ms.c,.slice v.its.a v.its.n v.its.c,.slice v.lv.a v.lv.n v.lv.c,.slice v.tx.a v.tx.n v.tx.c,.int .i64 m.rd,.int .i64 m.se,.int .i64 m.li,.int .i64 m.he,.int .i64 m.la.c,.int .i64 m.la.r,.int .i64 m.la.q,.int .i64 m.la.a,.int .i64 m.la.b,.slice v.ws.a v.ws.n v.ws.c] 41)) w.heap.size 41 m v):=Bx.new w 41 _
  have HL:Hid (Below w.heap.size w (w.alloc (.cells #[.int .i64 m.id,.int .i64 m.rid,.slice v.ms.a v.ms.n v.ms.c,.slice v.its.a v.its.n v.its.c,.slice v.lv.a v.lv.n v.lv.c,.slice v.tx.a v.tx.n v.tx.c,.int .i64 m.rd,.int .i64 m.se,.int .i64 m.li,.int .i64 m.he,.int .i64 m.la.c,.int .i64 m.la.r,.int .i64 m.la.q,.int .i64 m.la.a,.int .i64 m.la.b,.slice v.ws.a v.ws.n v.ws.c] 41))):=(Below.refl _ _).alloc (Nat.le_refl _) _
  have HO:Hid (MtO (w.alloc (.cells #[.int .i64 m.id,.int .i64 m.rid,.slice v.ms.a v.ms.n v.ms.c,.slice v.its.a v.its.n v.its.c,.slice v.lv.a v.lv.n v.lv.c,.slice v.tx.a v.tx.n v.tx.c,.int .i64 m.rd,.int .i64 m.se,.int .i64 m.li,.int .i64 m.he,.int .i64 m.la.c,.int .i64 m.la.r,.int .i64 m.la.q,.int .i64 m.la.a,.int .i64 m.la.b,.slice v.ws.a v.ws.n v.ws.c] 41)) B (qCm K m) v):=h.out.later HL.out
  obtain⟨⟨c0,c1,c2,c3,c4,c5⟩,⟨c6,c7,c8,c9⟩,c10,c11,c12,c13,c14,c15⟩:=HA.out.cells
  clear h
  go_enter Tryz.func51,Tryz.ntmps51
  go_wp2_with fail
  generalize (w.alloc (.cells #[.int .i64 m.id,.int .i64 m.rid,.slice v.ms.a v.ms.n v.ms.c,.slice v.its.a v.its.n v.its.c,.slice v.lv.a v.lv.n v.lv.c,.slice v.tx.a v.tx.n v.tx.c,.int .i64 m.rd,.int .i64 m.se,.int .i64 m.li,.int .i64 m.he,.int .i64 m.la.c,.int .i64 m.la.r,.int .i64 m.la.q,.int .i64 m.la.a,.int .i64 m.la.b,.slice v.ws.a v.ws.n v.ws.c] 41))=W at *
  clear c0 c1 c2 c3 c4 c5 c6 c7 c8 c9 c10 c11 c12 c13 c14 c15
  refine(qEh m.rid v.ms.v m.ms.length B K _ HO.out.ms (by omega) (by omega)).mono ?_
  rintro e w1 ⟨rfl,b⟩
  have HA:Hid (MtB w1 w.heap.size 41 m v):=Bx.later HA.out b
  have HO:Hid (MtO w1 B (qCm K m) v):=HO.out.later b
  have HL:Hid (Below w.heap.size w w1):=qAa HL.out b
  clear b
  have hz1:decide ((((K+m.ms.length):Nat):Int)<0)=false:=by simp;omega
  obtain⟨⟨c0,c1,c2,c3,c4,c5⟩,⟨c6,c7,c8,c9⟩,c10,c11,c12,c13,c14,c15⟩:=HA.out.cells
  go_wp2_with fail
  clear c0 c1 c2 c3 c4 c5 c6 c7 c8 c9 c10 c11 c12 c13 c14 c15
  refine(qGt v.its.v m.its.length B (K+m.ms.length) _ HO.out.its (by omega) (by omega)).mono ?_
  rintro e w2 ⟨rfl,b⟩
  have HA:Hid (MtB w2 w.heap.size 41 m v):=Bx.later HA.out b
  have HO:Hid (MtO w2 B (qCm K m) v):=HO.out.later b
  have HL:Hid (Below w.heap.size w w2):=qAa HL.out b
  clear b
  have hz2:decide ((((K+m.ms.length+4 * m.its.length):Nat):Int)<0)=false:=by simp;omega
  obtain⟨⟨c0,c1,c2,c3,c4,c5⟩,⟨c6,c7,c8,c9⟩,c10,c11,c12,c13,c14,c15⟩:=HA.out.cells
  go_wp2_with fail
  clear c0 c1 c2 c3 c4 c5 c6 c7 c8 c9 c10 c11 c12 c13 c14 c15
  refine(qFf v.lv.v m.lv.length B (K+m.ms.length+4 * m.its.length) _ HO.out.lv (by omega) (by omega)).mono ?_
  rintro e w3 ⟨rfl,hq⟩
  have b:Below w2.heap.size w2 w3:=qAz hq
  clear hq
  have HA:Hid (MtB w3 w.heap.size 41 m v):=Bx.later HA.out b
  have HO:Hid (MtO w3 B (qCm K m) v):=HO.out.later b
  have HL:Hid (Below w.heap.size w w3):=qAa HL.out b
  clear b
  have hz3:decide ((((K+m.ms.length+4 * m.its.length+m.lv.length):Nat):Int)<0)=false:=by simp;omega
  obtain⟨⟨c0,c1,c2,c3,c4,c5⟩,⟨c6,c7,c8,c9⟩,c10,c11,c12,c13,c14,c15⟩:=HA.out.cells
  go_wp2_with fail
  clear c0 c1 c2 c3 c4 c5 c6 c7 c8 c9 c10 c11 c12 c13 c14 c15
  refine(heldSo_any v.tx.v m.tx.length B (K+m.ms.length+4 * m.its.length+m.lv.length) _ HO.out.tx (by omega) (by omega)).mono ?_
  rintro e w4 ⟨rfl,b⟩
  have HA:Hid (MtB w4 w.heap.size 41 m v):=Bx.later HA.out b
  have HO:Hid (MtO w4 B (qCm K m) v):=HO.out.later b
  have HL:Hid (Below w.heap.size w w4):=qAa HL.out b
  clear b
  have hz4:decide ((((K+m.ms.length+4 * m.its.length+m.lv.length+m.tx.length):Nat):Int)<0)=false:=by simp;omega
  obtain⟨⟨c0,c1,c2,c3,c4,c5⟩,⟨c6,c7,c8,c9⟩,c10,c11,c12,c13,c14,c15⟩:=HA.out.cells
  go_wp2_with fail
  clear c0 c1 c2 c3 c4 c5 c6 c7 c8 c9 c10 c11 c12 c13 c14 c15
  refine(heldTok_any m.la.c m.la.r m.la.q m.la.a m.la.b v.ws.v m.la.ws.length B (K+m.ms.length+4 * m.its.length+m.lv.length+m.tx.length) _ HO.out.ws (by omega) (by omega)).mono ?_
  rintro e w5 ⟨rfl,b⟩
  have HA:Hid (MtB w5 w.heap.size 41 m v):=Bx.later HA.out b
  have HO:Hid (MtO w5 B (qCm K m) v):=HO.out.later b
  have HL:Hid (Below w.heap.size w w5):=qAa HL.out b
  clear b
  have hz5:decide ((((K+m.ms.length+4 * m.its.length+m.lv.length+m.tx.length+m.la.ws.length):Nat):Int)<0)=false:=by simp;omega
  obtain⟨⟨c0,c1,c2,c3,c4,c5⟩,⟨c6,c7,c8,c9⟩,c10,c11,c12,c13,c14,c15⟩:=HA.out.cells
  go_wp2_with fail
  go_ret
  exact⟨rfl,HL.out⟩
/-- a new member. -/
def newM(id i:Int)(ms:List Int):Mt:=⟨id,i,ms,[],[],[],0,0,0,0,zTok⟩
theorem own_nilS(w:World)(B:Nat):OwnS w B (.slice none 0 0) []:=⟨by simp,.inl ⟨rfl,rfl⟩⟩
theorem own_nilIt(w:World)(B:Nat):SlI w B (.slice none 0 0) []:=Sl.zero w 108 4 B
theorem mto_zero(w:World)(B:Nat):MtO w B zMt zMv:=⟨qEr w B,own_nilIt w B,qEr w B,own_nilS w B,qEr w B,ap_none _ 0 0,ap_none _ 0 0,ap_none _ 0 0⟩
theorem mts_zero:MtS zMt:=⟨by decide,by decide,by decide,by decide,by decide,(fun x h=>by cases h),(fun x h=>by cases h),by decide⟩
/-- the plain answer. -/
def newP(id i:Int)(ms:List Int):Mt:=if(qBc i ms&&inB ms id)=true then newM id i ms else zMt
end Go.Proofs.YtifkopggmjbbeaaGreat
