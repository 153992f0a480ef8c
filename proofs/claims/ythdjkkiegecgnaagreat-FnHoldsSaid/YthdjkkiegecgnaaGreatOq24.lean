/- Joined texts: CWcp CNx CPok CWga CWdo CShn. -/
import Derived.Test.YthdjkkiegecgnaaGreatOq22
import Derived.Test.YthdjkkiegecgnaaGreatOq16
import Derived.Test.YthdjkkiegecgnaaGreatOq13
import Derived.Test.YthdjkkiegecgnaaGreatOq23
import Derived.Test.YthdjkkiegecgnaaGreatOq1
set_option maxRecDepth 100000
set_option maxHeartbeats 16000000
namespace Go.Proofs.YthdjkkiegecgnaaGreat
open Go.RowKit Pl
set_option linter.unusedSimpArgs false
set_option linter.unusedVariables false
structure WkS (k:Wv):Prop where
 ms:k.ms.length≤1048576
 ma:k.ma.length≤10
 mas: ∀e∈k.ma,MtS e.1
 fl:k.fl.length≤1000000
 fls: ∀e∈k.fl,e.1.t.ws.length≤1048576
 he:k.he.length≤10
 hes: ∀e∈k.he,e.1.length≤1000000
 sa:k.sa.length≤1000000
theorem qKt{g h:Nat}{w a c:World}(k:KeepBut g w a)(t:TurnAt h a c)(hh:w.heap.size≤h):KeepBut g w c:=
 ⟨t.os.trans k.os,t.tape.trans k.tape,t.output.trans k.output,Nat.le_trans k.size (Nat.le_of_eq t.size.symm),fun j hj hne=>(t.block j (by omega)).trans (k.block j hj hne)⟩
theorem qDw{P:Program}{ops:Array Oper}{o:Oper}{a:Act}{S:World→Prop}(hw:Region.wanted o (yielded ops a.tmps)=true)(ty:TypeId)(x:Operand)(ho:o.op=.load ty x)(g off:Nat)(hx:a.eval x=.pointer (some ⟨g,off,none⟩))(u:Value)(hS: ∀w,S w→w.cell? ⟨g,off,none⟩=some u)
  (d:TypeDesc) (ht:P.underlying ty=some d) (hd:d.isRow=false):YieldsIf P ops S o u a:=
 .inl ⟨hw,fun w hw'=>by
  have hc:=hS w hw'
  have hagg:(isAgg ty).run P w=.ok false w:=by
   unfold isAgg
   rw[Sem.run_bind,run_underlying ht w]
   cases d<;>simp_all
  unfold execOp
  simp[ho,hx,Instr.loadAt,Instr.sureAddr,loadVar,Sem.run_bind,hagg,hc]⟩
theorem FsP.turn{w w':World}{B g:Nat}{v:Value}{es:List (Fl × Sv)}{cs:List Value}(h:FsP w B v es)(hB:Bx w g 68 cs)(t:TurnAt g w w')(hne: ∀q,v.ownBlock=some q→q<g):FsP w' B v es:=
 ⟨h.1.keep fun q hq _=>t.block q (fun e=>by have:=hne q hq;omega),fun e he=>(h.2 e he).past hB t (by decide)⟩
theorem HsP.row{w:World}{B:Nat}{s:Sv}{es:List (List It × Sv)}(h:HsP w B s.v es){i:Nat}(hi:i<es.length):s.n=es.length∧∃g off,s.a=some ⟨g,off,none⟩∧B≤g∧g<w.heap.size∧w.rangeAt g (off+i * 1) (hcel es[i]):=by
 obtain⟨g,off,c,h1,h2,h3,h4⟩:=h.1.read (i:=i) (by simpa using hi)
 simp only[Sv.v,Value.slice.injEq]at h1
 exact⟨h.len,g,off,h1.1,h2,h3,by simpa using h4⟩
theorem elCopy_any(k:Wv)(w:World)(hk:Hid (WkP w k))(hs:Hid (WkS k)):
  Calls Tryz.prog 88 #[.agg #[.int .i64 k.rid,.slice k.mv.a k.mv.n k.mv.c,.slice k.mav.a k.mav.n k.mav.c,.slice k.flv.a k.flv.n k.flv.c,.slice k.hev.a k.hev.n k.hev.c,.slice k.sav.a k.sav.n k.sav.c]] w fun e w'=>∃k':Wv,e=.returned (.agg #[.int .i64 k'.rid,.slice k'.mv.a k'.mv.n k'.mv.c,.slice k'.mav.a k'.mav.n k'.mav.c,.slice k'.flv.a k'.flv.n k'.flv.c,.slice k'.hev.a k'.hev.n k'.hev.c,.slice k'.sav.a k'.sav.n k'.sav.c])∧WkP w' k'∧k'.pl=k.pl∧Below w.heap.size w w':=by
 obtain⟨KA,KR,BW⟩:=en2 w 56 [.int .i64 k.rid,.slice k.mv.a k.mv.n k.mv.c,.slice k.mav.a k.mav.n k.mav.c,.slice k.flv.a k.flv.n k.flv.c,.slice k.hev.a k.hev.n k.hev.c,.slice k.sav.a k.sav.n k.sav.c] 56 [.int .i64 0,.slice none 0 0,.slice none 0 0,.slice none 0 0,.slice none 0 0,.slice none 0 0]
 have P0:=Ag (hk.out.below BW.out)
 clear hk
 have hsr:=hs.out.ms
 have hss:=hs.out.sa
 go_enter Tryz.func88,Tryz.ntmps88
 go_wp2_with fail
 generalize ((w.alloc (.cells #[.int .i64 k.rid,.slice k.mv.a k.mv.n k.mv.c,.slice k.mav.a k.mav.n k.mav.c,.slice k.flv.a k.flv.n k.flv.c,.slice k.hev.a k.hev.n k.hev.c,.slice k.sav.a k.sav.n k.sav.c] 56)).alloc (.cells #[.int .i64 0,.slice none 0 0,.slice none 0 0,.slice none 0 0,.slice none 0 0,.slice none 0 0] 56))=W at *
 have zW:w.heap.size+1<W.heap.size:=KR.out.lt
 go_cut [3] (fun a3 wx=>∃(go:Nat) (ur us:Sv),a3=.pointer (some ⟨go,0,none⟩)∧Bx wx go 56 [.int .i64 k.rid,.slice ur.a ur.n ur.c,.slice none 0 0,.slice none 0 0,.slice none 0 0,.slice us.a us.n us.c]∧OwnI wx W.heap.size ur.v k.ms∧SlI wx W.heap.size us.v k.sa∧W.heap.size≤go∧Below W.heap.size W wx)
 case first=>
  have c:Below W.heap.size W W.drew:=(Below.refl _ _).drew
  refine wp_region_held_drew (S:=fun w'=>Below W.heap.size W w') (by kernel_rfl) c (fun Ah=>?_)
  refine tkQ 0 rfl (by kernel_rfl) (by rfl) (fun _ _=>by simp only[Aa,Ab,Ac];go_simp;try with_reducible rfl) Ah ?_ fun _ _ _ h=>h
  try simp only[Act.put,Aa,Ab,Ac,Ad,Ae,Af]
  refine tkQ 1 rfl (by kernel_rfl) (by rfl) (fun _ _=>by simp only[Aa,Ab,Ac];go_simp;try with_reducible rfl) Ah ?_ fun _ _ _ h=>h
  try simp only[Act.put,Aa,Ab,Ac,Ad,Ae,Af]
  refine tkH (i:=2) (v:=_) rfl (by kernel_rfl) (fun _ _ _ h=>h) (qAf (by rfl) 3 _ rfl w.heap.size 0 rfl 56 _ (fun w hS=>KA.out.later hS) (.int .i64 k.rid) rfl _ Tryz.underlying3 rfl) Ah ?_
  try simp only[Act.put,Aa,Ab,Ac,Ad,Ae,Af]
  refine tkQ 4 rfl (by kernel_rfl) (by rfl) (fun _ _=>by simp only[Aa,Ab,Ac];go_simp;try with_reducible rfl) Ah ?_ fun _ _ _ h=>h
  try simp only[Act.put,Aa,Ab,Ac,Ad,Ae,Af]
  refine tkQ 5 rfl (by kernel_rfl) (by rfl) (fun _ _=>by simp only[Aa,Ab,Ac];go_simp;try with_reducible rfl) Ah ?_ fun _ _ _ h=>h
  try simp only[Act.put,Aa,Ab,Ac,Ad,Ae,Af]
  refine tkH (i:=6) (v:=_) rfl (by kernel_rfl) (fun _ _ _ h=>h) (qAf (by rfl) 24 _ rfl w.heap.size 1 rfl 56 _ (fun w hS=>KA.out.later hS) (.slice k.mv.a k.mv.n k.mv.c) rfl _ Tryz.underlying24 rfl) Ah ?_
  try simp only[Act.put,Aa,Ab,Ac,Ad,Ae,Af]
  refine tkQ 10 rfl (by kernel_rfl) (by rfl) (fun _ _=>by simp only[Aa,Ab,Ac];go_simp;try with_reducible rfl) Ah ?_ fun _ _ _ h=>h
  try simp only[Act.put,Aa,Ab,Ac,Ad,Ae,Af]
  refine tkH (i:=11) (v:=_) rfl (by kernel_rfl) (fun _ _ _ h=>h) (qAf (by rfl) 27 _ rfl w.heap.size 5 rfl 56 _ (fun w hS=>KA.out.later hS) (.slice k.sav.a k.sav.n k.sav.c) rfl _ Tryz.underlying27 rfl) Ah ?_
  try simp only[Act.put,Aa,Ab,Ac,Ad,Ae,Af]
  refine wpAnyH_ready (rs:=[3,9,14]) (by kernel_rfl) (by simp) ?_
  refine(AllReadyH.cons (i:=3) rfl (fun K hK=>?_) (AllReadyH.cons (i:=9) rfl (fun K hK=>?_) (AllReadyH.cons (i:=14) rfl (fun K hK=>?_) AllReadyH.nil)))
  ·skip
   rw[if_pos (by rfl)]
   simp only[Aa,Ab,Ac]
   go_simp
   have b:=bA W.drew (.cells #[] 3)
   have I0:=Ag (owiAt W.drew W.heap.size W.heap.size c.size (by simp))
   have c:=qAa c b
   refine hK.out _ _ (c) (fun Ah=>?_)
   clear hK K
   try simp only[Act.put,Aa,Ab,Ac,Ad,Ae,Af]
   clear b
   refine wpAnyH_ready (rs:=[7,9,14]) (by kernel_rfl) (by simp) ?_
   refine(AllReadyH.cons (i:=7) rfl (fun K hK=>?_) (AllReadyH.cons (i:=9) rfl (fun K hK=>?_) (AllReadyH.cons (i:=14) rfl (fun K hK=>?_) AllReadyH.nil)))
   ·skip
    rw[if_pos (by rfl)]
    simp only[Aa,Ab,Ac]
    refine qBz _ _ 24 rfl Tryz.underlying24 Tryz.info3' W.heap.size (.slice (some ⟨W.heap.size,0,none⟩) 0 0) [] (by rfl) I0.out (.slice k.mv.a k.mv.n k.mv.c) k.ms (by rfl) (P0.out.ring.ri.stays c) (by simp;omega) c.size (fun h=>by cases h) ?_
    intro v2 y1 o2 g2
    obtain⟨ur,hu2⟩:=o2.sv
    subst hu2
    rw[List.nil_append]at o2
    have KT:KeepTy (fun X=>X=3) (W.drew.alloc (.cells #[] 3)) y1:=KeepTy.ofGrown g2 (fun j hj=>by obtain⟨cs,hc⟩:=qBn I0.out hj;exact⟨cs,_,_,hc,rfl⟩)
    have c:=c.grown g2 c.size (fun j hj=>(I0.out.lt j hj).1)
    have I1:=Ag o2
    refine hK.out _ _ (c) (fun Ah=>?_)
    clear hK K
    try simp only[Act.put,Aa,Ab,Ac,Ad,Ae,Af]
    clear o2 g2 KT I0
    refine tkQ 8 rfl (by kernel_rfl) (by rfl) (fun _ _=>by simp only[Aa,Ab,Ac];go_simp;try with_reducible rfl) Ah ?_ fun _ _ _ h=>h
    try simp only[Act.put,Aa,Ab,Ac,Ad,Ae,Af]
    refine wpAnyH_ready (rs:=[9,14]) (by kernel_rfl) (by simp) ?_
    refine(AllReadyH.cons (i:=9) rfl (fun K hK=>?_) (AllReadyH.cons (i:=14) rfl (fun K hK=>?_) AllReadyH.nil))
    ·skip
     rw[if_pos (by rfl)]
     simp only[Aa,Ab,Ac]
     go_simp
     have b:=bA y1 (.cells #[] 41)
     obtain⟨I1,S0⟩:=cy2 (ownL I1.out b) (qHi y1 W.heap.size y1.heap.size c.size (by simp))
     have c:=qAa c b
     refine hK.out _ _ (c) (fun Ah=>?_)
     clear hK K
     try simp only[Act.put,Aa,Ab,Ac,Ad,Ae,Af]
     clear b
     refine wpAnyH_ready (rs:=[12,14]) (by kernel_rfl) (by simp) ?_
     refine(AllReadyH.cons (i:=12) rfl (fun K hK=>?_) (AllReadyH.cons (i:=14) rfl (fun K hK=>?_) AllReadyH.nil))
     ·skip
      rw[if_pos (by rfl)]
      simp only[Aa,Ab,Ac]
      refine qAz _ _ 27 rfl Tryz.underlying27 W.heap.size (.slice (some ⟨y1.heap.size,0,none⟩) 0 0) [] (by rfl) S0.out (.slice k.sav.a k.sav.n k.sav.c) k.sa (by rfl) (P0.out.sa.rit.stays c) (by simp;omega) c.size ?_
      intro v3 y2 o3 g3 _
      obtain⟨us,hu3⟩:=SlI.sv o3
      subst hu3
      rw[List.nil_append]at o3
      have KT:KeepTy (fun X=>X=41) (y1.alloc (.cells #[] 41)) y2:=KeepTy.ofGrown g3 (fun j hj=>by obtain⟨cs,hc⟩:=qAp S0.out hj;exact⟨cs,_,_,hc,rfl⟩)
      have c:=c.grown g3 c.size (fun j hj=>(S0.out.lt j hj).1)
      obtain⟨S1,I1⟩:=cy2 o3 (I1.out.kt KT (by decide))
      refine hK.out _ _ (c) (fun Ah=>?_)
      clear hK K
      try simp only[Act.put,Aa,Ab,Ac,Ad,Ae,Af]
      clear o3 g3 KT S0
      refine tkQ 13 rfl (by kernel_rfl) (by rfl) (fun _ _=>by simp only[Aa,Ab,Ac];go_simp;try with_reducible rfl) Ah ?_ fun _ _ _ h=>h
      try simp only[Act.put,Aa,Ab,Ac,Ad,Ae,Af]
      refine wpAnyH_ready (rs:=[14]) (by kernel_rfl) (by simp) ?_
      refine AllReadyH.cons (i:=14) rfl (fun K hK=>?_) AllReadyH.nil
      rw[if_pos (by rfl)]
      simp only[Aa,Ab,Ac]
      go_simp
      have b:=bA y2 (.cells zzW.toArray 56)
      obtain⟨I1,S1,BO⟩:=cy3 (ownL I1.out b) (S1.out.below b) (bxAt y2 56 [.int .i64 0,.slice none 0 0,.slice none 0 0,.slice none 0 0,.slice none 0 0,.slice none 0 0] y2.heap.size (by simp))
      have zo:W.heap.size≤y2.heap.size:=by have h:=c.size;rw[show y2.heap.size=y2.heap.size by simp]at h;exact h
      have c:=qAa c b
      refine hK.out _ _ (c) (fun Ah=>?_)
      clear hK K
      try simp only[Act.put,Aa,Ab,Ac,Ad,Ae,Af]
      clear b
      refine wpAnyH_ready (rs:=[15]) (by kernel_rfl) (by simp) ?_
      refine AllReadyH.cons (i:=15) rfl (fun K hK=>?_) AllReadyH.nil
      rw[if_pos (by rfl)]
      simp only[Aa,Ab,Ac]
      refine qAm 56 _ _ rfl y2.heap.size (by rfl) 56 _ BO.out [.int .i64 k.rid,.slice ur.a ur.n ur.c,.slice none 0 0,.slice none 0 0,.slice none 0 0,.slice us.a us.n us.c] (by rfl) rfl Tryz.sizeWk rfl ?_
      intro x1 kb kt
      obtain⟨I1,S1⟩:=cy2 (I1.out.past BO.out kt (by decide)) (SlI.past S1.out BO.out kt (by decide))
      have c:=c.trans (kt.below zo)
      have BO:=Ag kb
      refine hK.out _ _ (c) (fun Ah=>?_)
      clear hK K
      try simp only[Act.put,Aa,Ab,Ac,Ad,Ae,Af]
      clear kb kt
      refine wpAnyH_done (by kernel_rfl) ?_ _
      try go_wp2_with fail
      go_meet
      exact⟨y2.heap.size,ur,us,rfl,BO.out,I1.out,S1.out,zo,c⟩
     ·skip
      rw[if_pos (by rfl)]
      simp only[Aa,Ab,Ac]
      go_simp
      have b:Below (y1.alloc (.cells #[] 41)).heap.size (y1.alloc (.cells #[] 41)) ((y1.alloc (.cells #[] 41)).alloc (.cells zzW.toArray 56)):=(Below.refl _ _).alloc (Nat.le_refl _) _
      obtain⟨I1,S0,BO⟩:=cy3 (ownL I1.out b) (S0.out.below b) (bxAt (y1.alloc (.cells #[] 41)) 56 [.int .i64 0,.slice none 0 0,.slice none 0 0,.slice none 0 0,.slice none 0 0,.slice none 0 0] (y1.heap.size+1) (by simp))
      have zo:W.heap.size≤(y1.heap.size+1):=by have h:=c.size;rw[show(y1.alloc (.cells #[] 41)).heap.size=(y1.heap.size+1) by simp]at h;exact h
      have c:=qAa c b
      refine hK.out _ _ (c) (fun Ah=>?_)
      clear hK K
      try simp only[Act.put,Aa,Ab,Ac,Ad,Ae,Af]
      clear b
      refine wpAnyH_ready (rs:=[12]) (by kernel_rfl) (by simp) ?_
      refine AllReadyH.cons (i:=12) rfl (fun K hK=>?_) AllReadyH.nil
      rw[if_pos (by rfl)]
      simp only[Aa,Ab,Ac]
      refine qAz _ _ 27 rfl Tryz.underlying27 W.heap.size (.slice (some ⟨y1.heap.size,0,none⟩) 0 0) [] (by rfl) S0.out (.slice k.sav.a k.sav.n k.sav.c) k.sa (by rfl) (P0.out.sa.rit.stays c) (by simp;omega) c.size ?_
      intro v3 y2 o3 g3 _
      obtain⟨us,hu3⟩:=SlI.sv o3
      subst hu3
      rw[List.nil_append]at o3
      have KT:KeepTy (fun X=>X=41) ((y1.alloc (.cells #[] 41)).alloc (.cells zzW.toArray 56)) y2:=KeepTy.ofGrown g3 (fun j hj=>by obtain⟨cs,hc⟩:=qAp S0.out hj;exact⟨cs,_,_,hc,rfl⟩)
      have c:=c.grown g3 c.size (fun j hj=>(S0.out.lt j hj).1)
      obtain⟨S1,I1,BO⟩:=cy3 o3 (I1.out.kt KT (by decide)) (BO.out.kt KT (by decide))
      refine hK.out _ _ (c) (fun Ah=>?_)
      clear hK K
      try simp only[Act.put,Aa,Ab,Ac,Ad,Ae,Af]
      clear o3 g3 KT S0
      refine tkQ 13 rfl (by kernel_rfl) (by rfl) (fun _ _=>by simp only[Aa,Ab,Ac];go_simp;try with_reducible rfl) Ah ?_ fun _ _ _ h=>h
      try simp only[Act.put,Aa,Ab,Ac,Ad,Ae,Af]
      refine wpAnyH_ready (rs:=[15]) (by kernel_rfl) (by simp) ?_
      refine AllReadyH.cons (i:=15) rfl (fun K hK=>?_) AllReadyH.nil
      rw[if_pos (by rfl)]
      simp only[Aa,Ab,Ac]
      refine qAm 56 _ _ rfl (y1.heap.size+1) (by rfl) 56 _ BO.out [.int .i64 k.rid,.slice ur.a ur.n ur.c,.slice none 0 0,.slice none 0 0,.slice none 0 0,.slice us.a us.n us.c] (by rfl) rfl Tryz.sizeWk rfl ?_
      intro x1 kb kt
      obtain⟨I1,S1⟩:=cy2 (I1.out.past BO.out kt (by decide)) (SlI.past S1.out BO.out kt (by decide))
      have c:=c.trans (kt.below zo)
      have BO:=Ag kb
      refine hK.out _ _ (c) (fun Ah=>?_)
      clear hK K
      try simp only[Act.put,Aa,Ab,Ac,Ad,Ae,Af]
      clear kb kt
      refine wpAnyH_done (by kernel_rfl) ?_ _
      try go_wp2_with fail
      go_meet
      exact⟨(y1.heap.size+1),ur,us,rfl,BO.out,I1.out,S1.out,zo,c⟩
    ·skip
     rw[if_pos (by rfl)]
     simp only[Aa,Ab,Ac]
     go_simp
     have b:=bA y1 (.cells zzW.toArray 56)
     obtain⟨I1,BO⟩:=cy2 (ownL I1.out b) (bxAt y1 56 [.int .i64 0,.slice none 0 0,.slice none 0 0,.slice none 0 0,.slice none 0 0,.slice none 0 0] y1.heap.size (by simp))
     have zo:W.heap.size≤y1.heap.size:=by have h:=c.size;rw[show y1.heap.size=y1.heap.size by simp]at h;exact h
     have c:=qAa c b
     refine hK.out _ _ (c) (fun Ah=>?_)
     clear hK K
     try simp only[Act.put,Aa,Ab,Ac,Ad,Ae,Af]
     clear b
     refine wpAnyH_ready (rs:=[9]) (by kernel_rfl) (by simp) ?_
     refine AllReadyH.cons (i:=9) rfl (fun K hK=>?_) AllReadyH.nil
     rw[if_pos (by rfl)]
     simp only[Aa,Ab,Ac]
     go_simp
     have b:Below (y1.alloc (.cells zzW.toArray 56)).heap.size (y1.alloc (.cells zzW.toArray 56)) ((y1.alloc (.cells zzW.toArray 56)).alloc (.cells #[] 41)):=(Below.refl _ _).alloc (Nat.le_refl _) _
     obtain⟨I1,BO,S0⟩:=cy3 (ownL I1.out b) (BO.out.later b) (qHi (y1.alloc (.cells zzW.toArray 56)) W.heap.size (y1.heap.size+1) c.size (by simp))
     have c:=qAa c b
     refine hK.out _ _ (c) (fun Ah=>?_)
     clear hK K
     try simp only[Act.put,Aa,Ab,Ac,Ad,Ae,Af]
     clear b
     refine wpAnyH_ready (rs:=[12]) (by kernel_rfl) (by simp) ?_
     refine AllReadyH.cons (i:=12) rfl (fun K hK=>?_) AllReadyH.nil
     rw[if_pos (by rfl)]
     simp only[Aa,Ab,Ac]
     refine qAz _ _ 27 rfl Tryz.underlying27 W.heap.size (.slice (some ⟨(y1.heap.size+1),0,none⟩) 0 0) [] (by rfl) S0.out (.slice k.sav.a k.sav.n k.sav.c) k.sa (by rfl) (P0.out.sa.rit.stays c) (by simp;omega) c.size ?_
     intro v3 y2 o3 g3 _
     obtain⟨us,hu3⟩:=SlI.sv o3
     subst hu3
     rw[List.nil_append]at o3
     have KT:KeepTy (fun X=>X=41) ((y1.alloc (.cells zzW.toArray 56)).alloc (.cells #[] 41)) y2:=KeepTy.ofGrown g3 (fun j hj=>by obtain⟨cs,hc⟩:=qAp S0.out hj;exact⟨cs,_,_,hc,rfl⟩)
     have c:=c.grown g3 c.size (fun j hj=>(S0.out.lt j hj).1)
     obtain⟨S1,I1,BO⟩:=cy3 o3 (I1.out.kt KT (by decide)) (BO.out.kt KT (by decide))
     refine hK.out _ _ (c) (fun Ah=>?_)
     clear hK K
     try simp only[Act.put,Aa,Ab,Ac,Ad,Ae,Af]
     clear o3 g3 KT S0
     refine tkQ 13 rfl (by kernel_rfl) (by rfl) (fun _ _=>by simp only[Aa,Ab,Ac];go_simp;try with_reducible rfl) Ah ?_ fun _ _ _ h=>h
     try simp only[Act.put,Aa,Ab,Ac,Ad,Ae,Af]
     refine wpAnyH_ready (rs:=[15]) (by kernel_rfl) (by simp) ?_
     refine AllReadyH.cons (i:=15) rfl (fun K hK=>?_) AllReadyH.nil
     rw[if_pos (by rfl)]
     simp only[Aa,Ab,Ac]
     refine qAm 56 _ _ rfl y1.heap.size (by rfl) 56 _ BO.out [.int .i64 k.rid,.slice ur.a ur.n ur.c,.slice none 0 0,.slice none 0 0,.slice none 0 0,.slice us.a us.n us.c] (by rfl) rfl Tryz.sizeWk rfl ?_
     intro x1 kb kt
     obtain⟨I1,S1⟩:=cy2 (I1.out.past BO.out kt (by decide)) (SlI.past S1.out BO.out kt (by decide))
     have c:=c.trans (kt.below zo)
     have BO:=Ag kb
     refine hK.out _ _ (c) (fun Ah=>?_)
     clear hK K
     try simp only[Act.put,Aa,Ab,Ac,Ad,Ae,Af]
     clear kb kt
     refine wpAnyH_done (by kernel_rfl) ?_ _
     try go_wp2_with fail
     go_meet
     exact⟨y1.heap.size,ur,us,rfl,BO.out,I1.out,S1.out,zo,c⟩
   ·skip
    rw[if_pos (by rfl)]
    simp only[Aa,Ab,Ac]
    go_simp
    have b:Below (W.drew.alloc (.cells #[] 3)).heap.size (W.drew.alloc (.cells #[] 3)) ((W.drew.alloc (.cells #[] 3)).alloc (.cells #[] 41)):=(Below.refl _ _).alloc (Nat.le_refl _) _
    obtain⟨I0,S0⟩:=cy2 (ownL I0.out b) (qHi (W.drew.alloc (.cells #[] 3)) W.heap.size (W.heap.size+1) c.size (by simp))
    have c:=qAa c b
    refine hK.out _ _ (c) (fun Ah=>?_)
    clear hK K
    try simp only[Act.put,Aa,Ab,Ac,Ad,Ae,Af]
    clear b
    refine wpAnyH_ready (rs:=[7,14]) (by kernel_rfl) (by simp) ?_
    refine(AllReadyH.cons (i:=7) rfl (fun K hK=>?_) (AllReadyH.cons (i:=14) rfl (fun K hK=>?_) AllReadyH.nil))
    ·skip
     rw[if_pos (by rfl)]
     simp only[Aa,Ab,Ac]
     refine qBz _ _ 24 rfl Tryz.underlying24 Tryz.info3' W.heap.size (.slice (some ⟨W.heap.size,0,none⟩) 0 0) [] (by rfl) I0.out (.slice k.mv.a k.mv.n k.mv.c) k.ms (by rfl) (P0.out.ring.ri.stays c) (by simp;omega) c.size (fun h=>by cases h) ?_
     intro v2 y1 o2 g2
     obtain⟨ur,hu2⟩:=o2.sv
     subst hu2
     rw[List.nil_append]at o2
     have KT:KeepTy (fun X=>X=3) ((W.drew.alloc (.cells #[] 3)).alloc (.cells #[] 41)) y1:=KeepTy.ofGrown g2 (fun j hj=>by obtain⟨cs,hc⟩:=qBn I0.out hj;exact⟨cs,_,_,hc,rfl⟩)
     have c:=c.grown g2 c.size (fun j hj=>(I0.out.lt j hj).1)
     obtain⟨I1,S0⟩:=cy2 o2 (S0.out.kt KT (by decide))
     refine hK.out _ _ (c) (fun Ah=>?_)
     clear hK K
     try simp only[Act.put,Aa,Ab,Ac,Ad,Ae,Af]
     clear o2 g2 KT I0
     refine tkQ 8 rfl (by kernel_rfl) (by rfl) (fun _ _=>by simp only[Aa,Ab,Ac];go_simp;try with_reducible rfl) Ah ?_ fun _ _ _ h=>h
     try simp only[Act.put,Aa,Ab,Ac,Ad,Ae,Af]
     refine wpAnyH_ready (rs:=[12,14]) (by kernel_rfl) (by simp) ?_
     refine(AllReadyH.cons (i:=12) rfl (fun K hK=>?_) (AllReadyH.cons (i:=14) rfl (fun K hK=>?_) AllReadyH.nil))
     ·skip
      rw[if_pos (by rfl)]
      simp only[Aa,Ab,Ac]
      refine qAz _ _ 27 rfl Tryz.underlying27 W.heap.size (.slice (some ⟨(W.heap.size+1),0,none⟩) 0 0) [] (by rfl) S0.out (.slice k.sav.a k.sav.n k.sav.c) k.sa (by rfl) (P0.out.sa.rit.stays c) (by simp;omega) c.size ?_
      intro v3 y2 o3 g3 _
      obtain⟨us,hu3⟩:=SlI.sv o3
      subst hu3
      rw[List.nil_append]at o3
      have KT:KeepTy (fun X=>X=41) y1 y2:=KeepTy.ofGrown g3 (fun j hj=>by obtain⟨cs,hc⟩:=qAp S0.out hj;exact⟨cs,_,_,hc,rfl⟩)
      have c:=c.grown g3 c.size (fun j hj=>(S0.out.lt j hj).1)
      obtain⟨S1,I1⟩:=cy2 o3 (I1.out.kt KT (by decide))
      refine hK.out _ _ (c) (fun Ah=>?_)
      clear hK K
      try simp only[Act.put,Aa,Ab,Ac,Ad,Ae,Af]
      clear o3 g3 KT S0
      refine tkQ 13 rfl (by kernel_rfl) (by rfl) (fun _ _=>by simp only[Aa,Ab,Ac];go_simp;try with_reducible rfl) Ah ?_ fun _ _ _ h=>h
      try simp only[Act.put,Aa,Ab,Ac,Ad,Ae,Af]
      refine wpAnyH_ready (rs:=[14]) (by kernel_rfl) (by simp) ?_
      refine AllReadyH.cons (i:=14) rfl (fun K hK=>?_) AllReadyH.nil
      rw[if_pos (by rfl)]
      simp only[Aa,Ab,Ac]
      go_simp
      have b:=bA y2 (.cells zzW.toArray 56)
      obtain⟨I1,S1,BO⟩:=cy3 (ownL I1.out b) (S1.out.below b) (bxAt y2 56 [.int .i64 0,.slice none 0 0,.slice none 0 0,.slice none 0 0,.slice none 0 0,.slice none 0 0] y2.heap.size (by simp))
      have zo:W.heap.size≤y2.heap.size:=by have h:=c.size;rw[show y2.heap.size=y2.heap.size by simp]at h;exact h
      have c:=qAa c b
      refine hK.out _ _ (c) (fun Ah=>?_)
      clear hK K
      try simp only[Act.put,Aa,Ab,Ac,Ad,Ae,Af]
      clear b
      refine wpAnyH_ready (rs:=[15]) (by kernel_rfl) (by simp) ?_
      refine AllReadyH.cons (i:=15) rfl (fun K hK=>?_) AllReadyH.nil
      rw[if_pos (by rfl)]
      simp only[Aa,Ab,Ac]
      refine qAm 56 _ _ rfl y2.heap.size (by rfl) 56 _ BO.out [.int .i64 k.rid,.slice ur.a ur.n ur.c,.slice none 0 0,.slice none 0 0,.slice none 0 0,.slice us.a us.n us.c] (by rfl) rfl Tryz.sizeWk rfl ?_
      intro x1 kb kt
      obtain⟨I1,S1⟩:=cy2 (I1.out.past BO.out kt (by decide)) (SlI.past S1.out BO.out kt (by decide))
      have c:=c.trans (kt.below zo)
      have BO:=Ag kb
      refine hK.out _ _ (c) (fun Ah=>?_)
      clear hK K
      try simp only[Act.put,Aa,Ab,Ac,Ad,Ae,Af]
      clear kb kt
      refine wpAnyH_done (by kernel_rfl) ?_ _
      try go_wp2_with fail
      go_meet
      exact⟨y2.heap.size,ur,us,rfl,BO.out,I1.out,S1.out,zo,c⟩
     ·skip
      rw[if_pos (by rfl)]
      simp only[Aa,Ab,Ac]
      go_simp
      have b:=bA y1 (.cells zzW.toArray 56)
      obtain⟨I1,S0,BO⟩:=cy3 (ownL I1.out b) (S0.out.below b) (bxAt y1 56 [.int .i64 0,.slice none 0 0,.slice none 0 0,.slice none 0 0,.slice none 0 0,.slice none 0 0] y1.heap.size (by simp))
      have zo:W.heap.size≤y1.heap.size:=by have h:=c.size;rw[show y1.heap.size=y1.heap.size by simp]at h;exact h
      have c:=qAa c b
      refine hK.out _ _ (c) (fun Ah=>?_)
      clear hK K
      try simp only[Act.put,Aa,Ab,Ac,Ad,Ae,Af]
      clear b
      refine wpAnyH_ready (rs:=[12]) (by kernel_rfl) (by simp) ?_
      refine AllReadyH.cons (i:=12) rfl (fun K hK=>?_) AllReadyH.nil
      rw[if_pos (by rfl)]
      simp only[Aa,Ab,Ac]
      refine qAz _ _ 27 rfl Tryz.underlying27 W.heap.size (.slice (some ⟨(W.heap.size+1),0,none⟩) 0 0) [] (by rfl) S0.out (.slice k.sav.a k.sav.n k.sav.c) k.sa (by rfl) (P0.out.sa.rit.stays c) (by simp;omega) c.size ?_
      intro v3 y2 o3 g3 _
      obtain⟨us,hu3⟩:=SlI.sv o3
      subst hu3
      rw[List.nil_append]at o3
      have KT:KeepTy (fun X=>X=41) (y1.alloc (.cells zzW.toArray 56)) y2:=KeepTy.ofGrown g3 (fun j hj=>by obtain⟨cs,hc⟩:=qAp S0.out hj;exact⟨cs,_,_,hc,rfl⟩)
      have c:=c.grown g3 c.size (fun j hj=>(S0.out.lt j hj).1)
      obtain⟨S1,I1,BO⟩:=cy3 o3 (I1.out.kt KT (by decide)) (BO.out.kt KT (by decide))
      refine hK.out _ _ (c) (fun Ah=>?_)
      clear hK K
      try simp only[Act.put,Aa,Ab,Ac,Ad,Ae,Af]
      clear o3 g3 KT S0
      refine tkQ 13 rfl (by kernel_rfl) (by rfl) (fun _ _=>by simp only[Aa,Ab,Ac];go_simp;try with_reducible rfl) Ah ?_ fun _ _ _ h=>h
      try simp only[Act.put,Aa,Ab,Ac,Ad,Ae,Af]
      refine wpAnyH_ready (rs:=[15]) (by kernel_rfl) (by simp) ?_
      refine AllReadyH.cons (i:=15) rfl (fun K hK=>?_) AllReadyH.nil
      rw[if_pos (by rfl)]
      simp only[Aa,Ab,Ac]
      refine qAm 56 _ _ rfl y1.heap.size (by rfl) 56 _ BO.out [.int .i64 k.rid,.slice ur.a ur.n ur.c,.slice none 0 0,.slice none 0 0,.slice none 0 0,.slice us.a us.n us.c] (by rfl) rfl Tryz.sizeWk rfl ?_
      intro x1 kb kt
      obtain⟨I1,S1⟩:=cy2 (I1.out.past BO.out kt (by decide)) (SlI.past S1.out BO.out kt (by decide))
      have c:=c.trans (kt.below zo)
      have BO:=Ag kb
      refine hK.out _ _ (c) (fun Ah=>?_)
      clear hK K
      try simp only[Act.put,Aa,Ab,Ac,Ad,Ae,Af]
      clear kb kt
      refine wpAnyH_done (by kernel_rfl) ?_ _
      try go_wp2_with fail
      go_meet
      exact⟨y1.heap.size,ur,us,rfl,BO.out,I1.out,S1.out,zo,c⟩
    ·skip
     rw[if_pos (by rfl)]
     simp only[Aa,Ab,Ac]
     go_simp
     have b:Below ((W.drew.alloc (.cells #[] 3)).alloc (.cells #[] 41)).heap.size ((W.drew.alloc (.cells #[] 3)).alloc (.cells #[] 41)) (((W.drew.alloc (.cells #[] 3)).alloc (.cells #[] 41)).alloc (.cells zzW.toArray 56)):=(Below.refl _ _).alloc (Nat.le_refl _) _
     obtain⟨I0,S0,BO⟩:=cy3 (ownL I0.out b) (S0.out.below b) (bxAt ((W.drew.alloc (.cells #[] 3)).alloc (.cells #[] 41)) 56 [.int .i64 0,.slice none 0 0,.slice none 0 0,.slice none 0 0,.slice none 0 0,.slice none 0 0] (W.heap.size+1+1) (by simp))
     have zo:W.heap.size≤(W.heap.size+1+1):=by have h:=c.size;rw[show((W.drew.alloc (.cells #[] 3)).alloc (.cells #[] 41)).heap.size=(W.heap.size+1+1) by simp]at h;exact h
     have c:=qAa c b
     refine hK.out _ _ (c) (fun Ah=>?_)
     clear hK K
     try simp only[Act.put,Aa,Ab,Ac,Ad,Ae,Af]
     clear b
     refine wpAnyH_ready (rs:=[7]) (by kernel_rfl) (by simp) ?_
     refine AllReadyH.cons (i:=7) rfl (fun K hK=>?_) AllReadyH.nil
     rw[if_pos (by rfl)]
     simp only[Aa,Ab,Ac]
     refine qBz _ _ 24 rfl Tryz.underlying24 Tryz.info3' W.heap.size (.slice (some ⟨W.heap.size,0,none⟩) 0 0) [] (by rfl) I0.out (.slice k.mv.a k.mv.n k.mv.c) k.ms (by rfl) (P0.out.ring.ri.stays c) (by simp;omega) c.size (fun h=>by cases h) ?_
     intro v2 y1 o2 g2
     obtain⟨ur,hu2⟩:=o2.sv
     subst hu2
     rw[List.nil_append]at o2
     have KT:KeepTy (fun X=>X=3) (((W.drew.alloc (.cells #[] 3)).alloc (.cells #[] 41)).alloc (.cells zzW.toArray 56)) y1:=KeepTy.ofGrown g2 (fun j hj=>by obtain⟨cs,hc⟩:=qBn I0.out hj;exact⟨cs,_,_,hc,rfl⟩)
     have c:=c.grown g2 c.size (fun j hj=>(I0.out.lt j hj).1)
     obtain⟨I1,S0,BO⟩:=cy3 o2 (S0.out.kt KT (by decide)) (BO.out.kt KT (by decide))
     refine hK.out _ _ (c) (fun Ah=>?_)
     clear hK K
     try simp only[Act.put,Aa,Ab,Ac,Ad,Ae,Af]
     clear o2 g2 KT I0
     refine tkQ 8 rfl (by kernel_rfl) (by rfl) (fun _ _=>by simp only[Aa,Ab,Ac];go_simp;try with_reducible rfl) Ah ?_ fun _ _ _ h=>h
     try simp only[Act.put,Aa,Ab,Ac,Ad,Ae,Af]
     refine wpAnyH_ready (rs:=[12]) (by kernel_rfl) (by simp) ?_
     refine AllReadyH.cons (i:=12) rfl (fun K hK=>?_) AllReadyH.nil
     rw[if_pos (by rfl)]
     simp only[Aa,Ab,Ac]
     refine qAz _ _ 27 rfl Tryz.underlying27 W.heap.size (.slice (some ⟨(W.heap.size+1),0,none⟩) 0 0) [] (by rfl) S0.out (.slice k.sav.a k.sav.n k.sav.c) k.sa (by rfl) (P0.out.sa.rit.stays c) (by simp;omega) c.size ?_
     intro v3 y2 o3 g3 _
     obtain⟨us,hu3⟩:=SlI.sv o3
     subst hu3
     rw[List.nil_append]at o3
     have KT:KeepTy (fun X=>X=41) y1 y2:=KeepTy.ofGrown g3 (fun j hj=>by obtain⟨cs,hc⟩:=qAp S0.out hj;exact⟨cs,_,_,hc,rfl⟩)
     have c:=c.grown g3 c.size (fun j hj=>(S0.out.lt j hj).1)
     obtain⟨S1,I1,BO⟩:=cy3 o3 (I1.out.kt KT (by decide)) (BO.out.kt KT (by decide))
     refine hK.out _ _ (c) (fun Ah=>?_)
     clear hK K
     try simp only[Act.put,Aa,Ab,Ac,Ad,Ae,Af]
     clear o3 g3 KT S0
     refine tkQ 13 rfl (by kernel_rfl) (by rfl) (fun _ _=>by simp only[Aa,Ab,Ac];go_simp;try with_reducible rfl) Ah ?_ fun _ _ _ h=>h
     try simp only[Act.put,Aa,Ab,Ac,Ad,Ae,Af]
     refine wpAnyH_ready (rs:=[15]) (by kernel_rfl) (by simp) ?_
     refine AllReadyH.cons (i:=15) rfl (fun K hK=>?_) AllReadyH.nil
     rw[if_pos (by rfl)]
     simp only[Aa,Ab,Ac]
     refine qAm 56 _ _ rfl (W.heap.size+1+1) (by rfl) 56 _ BO.out [.int .i64 k.rid,.slice ur.a ur.n ur.c,.slice none 0 0,.slice none 0 0,.slice none 0 0,.slice us.a us.n us.c] (by rfl) rfl Tryz.sizeWk rfl ?_
     intro x1 kb kt
     obtain⟨I1,S1⟩:=cy2 (I1.out.past BO.out kt (by decide)) (SlI.past S1.out BO.out kt (by decide))
     have c:=c.trans (kt.below zo)
     have BO:=Ag kb
     refine hK.out _ _ (c) (fun Ah=>?_)
     clear hK K
     try simp only[Act.put,Aa,Ab,Ac,Ad,Ae,Af]
     clear kb kt
     refine wpAnyH_done (by kernel_rfl) ?_ _
     try go_wp2_with fail
     go_meet
     exact⟨(W.heap.size+1+1),ur,us,rfl,BO.out,I1.out,S1.out,zo,c⟩
   ·skip
    rw[if_pos (by rfl)]
    simp only[Aa,Ab,Ac]
    go_simp
    have b:Below (W.drew.alloc (.cells #[] 3)).heap.size (W.drew.alloc (.cells #[] 3)) ((W.drew.alloc (.cells #[] 3)).alloc (.cells zzW.toArray 56)):=(Below.refl _ _).alloc (Nat.le_refl _) _
    obtain⟨I0,BO⟩:=cy2 (ownL I0.out b) (bxAt (W.drew.alloc (.cells #[] 3)) 56 [.int .i64 0,.slice none 0 0,.slice none 0 0,.slice none 0 0,.slice none 0 0,.slice none 0 0] (W.heap.size+1) (by simp))
    have zo:W.heap.size≤(W.heap.size+1):=by have h:=c.size;rw[show(W.drew.alloc (.cells #[] 3)).heap.size=(W.heap.size+1) by simp]at h;exact h
    have c:=qAa c b
    refine hK.out _ _ (c) (fun Ah=>?_)
    clear hK K
    try simp only[Act.put,Aa,Ab,Ac,Ad,Ae,Af]
    clear b
    refine wpAnyH_ready (rs:=[7,9]) (by kernel_rfl) (by simp) ?_
    refine(AllReadyH.cons (i:=7) rfl (fun K hK=>?_) (AllReadyH.cons (i:=9) rfl (fun K hK=>?_) AllReadyH.nil))
    ·skip
     rw[if_pos (by rfl)]
     simp only[Aa,Ab,Ac]
     refine qBz _ _ 24 rfl Tryz.underlying24 Tryz.info3' W.heap.size (.slice (some ⟨W.heap.size,0,none⟩) 0 0) [] (by rfl) I0.out (.slice k.mv.a k.mv.n k.mv.c) k.ms (by rfl) (P0.out.ring.ri.stays c) (by simp;omega) c.size (fun h=>by cases h) ?_
     intro v2 y1 o2 g2
     obtain⟨ur,hu2⟩:=o2.sv
     subst hu2
     rw[List.nil_append]at o2
     have KT:KeepTy (fun X=>X=3) ((W.drew.alloc (.cells #[] 3)).alloc (.cells zzW.toArray 56)) y1:=KeepTy.ofGrown g2 (fun j hj=>by obtain⟨cs,hc⟩:=qBn I0.out hj;exact⟨cs,_,_,hc,rfl⟩)
     have c:=c.grown g2 c.size (fun j hj=>(I0.out.lt j hj).1)
     obtain⟨I1,BO⟩:=cy2 o2 (BO.out.kt KT (by decide))
     refine hK.out _ _ (c) (fun Ah=>?_)
     clear hK K
     try simp only[Act.put,Aa,Ab,Ac,Ad,Ae,Af]
     clear o2 g2 KT I0
     refine tkQ 8 rfl (by kernel_rfl) (by rfl) (fun _ _=>by simp only[Aa,Ab,Ac];go_simp;try with_reducible rfl) Ah ?_ fun _ _ _ h=>h
     try simp only[Act.put,Aa,Ab,Ac,Ad,Ae,Af]
     refine wpAnyH_ready (rs:=[9]) (by kernel_rfl) (by simp) ?_
     refine AllReadyH.cons (i:=9) rfl (fun K hK=>?_) AllReadyH.nil
     rw[if_pos (by rfl)]
     simp only[Aa,Ab,Ac]
     go_simp
     have b:=bA y1 (.cells #[] 41)
     obtain⟨I1,BO,S0⟩:=cy3 (ownL I1.out b) (BO.out.later b) (qHi y1 W.heap.size y1.heap.size c.size (by simp))
     have c:=qAa c b
     refine hK.out _ _ (c) (fun Ah=>?_)
     clear hK K
     try simp only[Act.put,Aa,Ab,Ac,Ad,Ae,Af]
     clear b
     refine wpAnyH_ready (rs:=[12]) (by kernel_rfl) (by simp) ?_
     refine AllReadyH.cons (i:=12) rfl (fun K hK=>?_) AllReadyH.nil
     rw[if_pos (by rfl)]
     simp only[Aa,Ab,Ac]
     refine qAz _ _ 27 rfl Tryz.underlying27 W.heap.size (.slice (some ⟨y1.heap.size,0,none⟩) 0 0) [] (by rfl) S0.out (.slice k.sav.a k.sav.n k.sav.c) k.sa (by rfl) (P0.out.sa.rit.stays c) (by simp;omega) c.size ?_
     intro v3 y2 o3 g3 _
     obtain⟨us,hu3⟩:=SlI.sv o3
     subst hu3
     rw[List.nil_append]at o3
     have KT:KeepTy (fun X=>X=41) (y1.alloc (.cells #[] 41)) y2:=KeepTy.ofGrown g3 (fun j hj=>by obtain⟨cs,hc⟩:=qAp S0.out hj;exact⟨cs,_,_,hc,rfl⟩)
     have c:=c.grown g3 c.size (fun j hj=>(S0.out.lt j hj).1)
     obtain⟨S1,I1,BO⟩:=cy3 o3 (I1.out.kt KT (by decide)) (BO.out.kt KT (by decide))
     refine hK.out _ _ (c) (fun Ah=>?_)
     clear hK K
     try simp only[Act.put,Aa,Ab,Ac,Ad,Ae,Af]
     clear o3 g3 KT S0
     refine tkQ 13 rfl (by kernel_rfl) (by rfl) (fun _ _=>by simp only[Aa,Ab,Ac];go_simp;try with_reducible rfl) Ah ?_ fun _ _ _ h=>h
     try simp only[Act.put,Aa,Ab,Ac,Ad,Ae,Af]
     refine wpAnyH_ready (rs:=[15]) (by kernel_rfl) (by simp) ?_
     refine AllReadyH.cons (i:=15) rfl (fun K hK=>?_) AllReadyH.nil
     rw[if_pos (by rfl)]
     simp only[Aa,Ab,Ac]
     refine qAm 56 _ _ rfl (W.heap.size+1) (by rfl) 56 _ BO.out [.int .i64 k.rid,.slice ur.a ur.n ur.c,.slice none 0 0,.slice none 0 0,.slice none 0 0,.slice us.a us.n us.c] (by rfl) rfl Tryz.sizeWk rfl ?_
     intro x1 kb kt
     obtain⟨I1,S1⟩:=cy2 (I1.out.past BO.out kt (by decide)) (SlI.past S1.out BO.out kt (by decide))
     have c:=c.trans (kt.below zo)
     have BO:=Ag kb
     refine hK.out _ _ (c) (fun Ah=>?_)
     clear hK K
     try simp only[Act.put,Aa,Ab,Ac,Ad,Ae,Af]
     clear kb kt
     refine wpAnyH_done (by kernel_rfl) ?_ _
     try go_wp2_with fail
     go_meet
     exact⟨(W.heap.size+1),ur,us,rfl,BO.out,I1.out,S1.out,zo,c⟩
    ·skip
     rw[if_pos (by rfl)]
     simp only[Aa,Ab,Ac]
     go_simp
     have b:Below ((W.drew.alloc (.cells #[] 3)).alloc (.cells zzW.toArray 56)).heap.size ((W.drew.alloc (.cells #[] 3)).alloc (.cells zzW.toArray 56)) (((W.drew.alloc (.cells #[] 3)).alloc (.cells zzW.toArray 56)).alloc (.cells #[] 41)):=(Below.refl _ _).alloc (Nat.le_refl _) _
     obtain⟨I0,BO,S0⟩:=cy3 (ownL I0.out b) (BO.out.later b) (qHi ((W.drew.alloc (.cells #[] 3)).alloc (.cells zzW.toArray 56)) W.heap.size (W.heap.size+1+1) c.size (by simp))
     have c:=qAa c b
     refine hK.out _ _ (c) (fun Ah=>?_)
     clear hK K
     try simp only[Act.put,Aa,Ab,Ac,Ad,Ae,Af]
     clear b
     refine wpAnyH_ready (rs:=[7]) (by kernel_rfl) (by simp) ?_
     refine AllReadyH.cons (i:=7) rfl (fun K hK=>?_) AllReadyH.nil
     rw[if_pos (by rfl)]
     simp only[Aa,Ab,Ac]
     refine qBz _ _ 24 rfl Tryz.underlying24 Tryz.info3' W.heap.size (.slice (some ⟨W.heap.size,0,none⟩) 0 0) [] (by rfl) I0.out (.slice k.mv.a k.mv.n k.mv.c) k.ms (by rfl) (P0.out.ring.ri.stays c) (by simp;omega) c.size (fun h=>by cases h) ?_
     intro v2 y1 o2 g2
     obtain⟨ur,hu2⟩:=o2.sv
     subst hu2
     rw[List.nil_append]at o2
     have KT:KeepTy (fun X=>X=3) (((W.drew.alloc (.cells #[] 3)).alloc (.cells zzW.toArray 56)).alloc (.cells #[] 41)) y1:=KeepTy.ofGrown g2 (fun j hj=>by obtain⟨cs,hc⟩:=qBn I0.out hj;exact⟨cs,_,_,hc,rfl⟩)
     have c:=c.grown g2 c.size (fun j hj=>(I0.out.lt j hj).1)
     obtain⟨I1,S0,BO⟩:=cy3 o2 (S0.out.kt KT (by decide)) (BO.out.kt KT (by decide))
     refine hK.out _ _ (c) (fun Ah=>?_)
     clear hK K
     try simp only[Act.put,Aa,Ab,Ac,Ad,Ae,Af]
     clear o2 g2 KT I0
     refine tkQ 8 rfl (by kernel_rfl) (by rfl) (fun _ _=>by simp only[Aa,Ab,Ac];go_simp;try with_reducible rfl) Ah ?_ fun _ _ _ h=>h
     try simp only[Act.put,Aa,Ab,Ac,Ad,Ae,Af]
     refine wpAnyH_ready (rs:=[12]) (by kernel_rfl) (by simp) ?_
     refine AllReadyH.cons (i:=12) rfl (fun K hK=>?_) AllReadyH.nil
     rw[if_pos (by rfl)]
     simp only[Aa,Ab,Ac]
     refine qAz _ _ 27 rfl Tryz.underlying27 W.heap.size (.slice (some ⟨(W.heap.size+1+1),0,none⟩) 0 0) [] (by rfl) S0.out (.slice k.sav.a k.sav.n k.sav.c) k.sa (by rfl) (P0.out.sa.rit.stays c) (by simp;omega) c.size ?_
     intro v3 y2 o3 g3 _
     obtain⟨us,hu3⟩:=SlI.sv o3
     subst hu3
     rw[List.nil_append]at o3
     have KT:KeepTy (fun X=>X=41) y1 y2:=KeepTy.ofGrown g3 (fun j hj=>by obtain⟨cs,hc⟩:=qAp S0.out hj;exact⟨cs,_,_,hc,rfl⟩)
     have c:=c.grown g3 c.size (fun j hj=>(S0.out.lt j hj).1)
     obtain⟨S1,I1,BO⟩:=cy3 o3 (I1.out.kt KT (by decide)) (BO.out.kt KT (by decide))
     refine hK.out _ _ (c) (fun Ah=>?_)
     clear hK K
     try simp only[Act.put,Aa,Ab,Ac,Ad,Ae,Af]
     clear o3 g3 KT S0
     refine tkQ 13 rfl (by kernel_rfl) (by rfl) (fun _ _=>by simp only[Aa,Ab,Ac];go_simp;try with_reducible rfl) Ah ?_ fun _ _ _ h=>h
     try simp only[Act.put,Aa,Ab,Ac,Ad,Ae,Af]
     refine wpAnyH_ready (rs:=[15]) (by kernel_rfl) (by simp) ?_
     refine AllReadyH.cons (i:=15) rfl (fun K hK=>?_) AllReadyH.nil
     rw[if_pos (by rfl)]
     simp only[Aa,Ab,Ac]
     refine qAm 56 _ _ rfl (W.heap.size+1) (by rfl) 56 _ BO.out [.int .i64 k.rid,.slice ur.a ur.n ur.c,.slice none 0 0,.slice none 0 0,.slice none 0 0,.slice us.a us.n us.c] (by rfl) rfl Tryz.sizeWk rfl ?_
     intro x1 kb kt
     obtain⟨I1,S1⟩:=cy2 (I1.out.past BO.out kt (by decide)) (SlI.past S1.out BO.out kt (by decide))
     have c:=c.trans (kt.below zo)
     have BO:=Ag kb
     refine hK.out _ _ (c) (fun Ah=>?_)
     clear hK K
     try simp only[Act.put,Aa,Ab,Ac,Ad,Ae,Af]
     clear kb kt
     refine wpAnyH_done (by kernel_rfl) ?_ _
     try go_wp2_with fail
     go_meet
     exact⟨(W.heap.size+1),ur,us,rfl,BO.out,I1.out,S1.out,zo,c⟩
  ·skip
   rw[if_pos (by rfl)]
   simp only[Aa,Ab,Ac]
   go_simp
   have b:=bA W.drew (.cells #[] 41)
   have S0:=Ag (qHi W.drew W.heap.size W.heap.size c.size (by simp))
   have c:=qAa c b
   refine hK.out _ _ (c) (fun Ah=>?_)
   clear hK K
   try simp only[Act.put,Aa,Ab,Ac,Ad,Ae,Af]
   clear b
   refine wpAnyH_ready (rs:=[3,14]) (by kernel_rfl) (by simp) ?_
   refine(AllReadyH.cons (i:=3) rfl (fun K hK=>?_) (AllReadyH.cons (i:=14) rfl (fun K hK=>?_) AllReadyH.nil))
   ·skip
    rw[if_pos (by rfl)]
    simp only[Aa,Ab,Ac]
    go_simp
    have b:Below (W.drew.alloc (.cells #[] 41)).heap.size (W.drew.alloc (.cells #[] 41)) ((W.drew.alloc (.cells #[] 41)).alloc (.cells #[] 3)):=(Below.refl _ _).alloc (Nat.le_refl _) _
    obtain⟨S0,I0⟩:=cy2 (S0.out.below b) (owiAt (W.drew.alloc (.cells #[] 41)) W.heap.size (W.heap.size+1) c.size (by simp))
    have c:=qAa c b
    refine hK.out _ _ (c) (fun Ah=>?_)
    clear hK K
    try simp only[Act.put,Aa,Ab,Ac,Ad,Ae,Af]
    clear b
    refine wpAnyH_ready (rs:=[7,14]) (by kernel_rfl) (by simp) ?_
    refine(AllReadyH.cons (i:=7) rfl (fun K hK=>?_) (AllReadyH.cons (i:=14) rfl (fun K hK=>?_) AllReadyH.nil))
    ·skip
     rw[if_pos (by rfl)]
     simp only[Aa,Ab,Ac]
     refine qBz _ _ 24 rfl Tryz.underlying24 Tryz.info3' W.heap.size (.slice (some ⟨(W.heap.size+1),0,none⟩) 0 0) [] (by rfl) I0.out (.slice k.mv.a k.mv.n k.mv.c) k.ms (by rfl) (P0.out.ring.ri.stays c) (by simp;omega) c.size (fun h=>by cases h) ?_
     intro v2 y1 o2 g2
     obtain⟨ur,hu2⟩:=o2.sv
     subst hu2
     rw[List.nil_append]at o2
     have KT:KeepTy (fun X=>X=3) ((W.drew.alloc (.cells #[] 41)).alloc (.cells #[] 3)) y1:=KeepTy.ofGrown g2 (fun j hj=>by obtain⟨cs,hc⟩:=qBn I0.out hj;exact⟨cs,_,_,hc,rfl⟩)
     have c:=c.grown g2 c.size (fun j hj=>(I0.out.lt j hj).1)
     obtain⟨I1,S0⟩:=cy2 o2 (S0.out.kt KT (by decide))
     refine hK.out _ _ (c) (fun Ah=>?_)
     clear hK K
     try simp only[Act.put,Aa,Ab,Ac,Ad,Ae,Af]
     clear o2 g2 KT I0
     refine tkQ 8 rfl (by kernel_rfl) (by rfl) (fun _ _=>by simp only[Aa,Ab,Ac];go_simp;try with_reducible rfl) Ah ?_ fun _ _ _ h=>h
     try simp only[Act.put,Aa,Ab,Ac,Ad,Ae,Af]
     refine wpAnyH_ready (rs:=[12,14]) (by kernel_rfl) (by simp) ?_
     refine(AllReadyH.cons (i:=12) rfl (fun K hK=>?_) (AllReadyH.cons (i:=14) rfl (fun K hK=>?_) AllReadyH.nil))
     ·skip
      rw[if_pos (by rfl)]
      simp only[Aa,Ab,Ac]
      refine qAz _ _ 27 rfl Tryz.underlying27 W.heap.size (.slice (some ⟨W.heap.size,0,none⟩) 0 0) [] (by rfl) S0.out (.slice k.sav.a k.sav.n k.sav.c) k.sa (by rfl) (P0.out.sa.rit.stays c) (by simp;omega) c.size ?_
      intro v3 y2 o3 g3 _
      obtain⟨us,hu3⟩:=SlI.sv o3
      subst hu3
      rw[List.nil_append]at o3
      have KT:KeepTy (fun X=>X=41) y1 y2:=KeepTy.ofGrown g3 (fun j hj=>by obtain⟨cs,hc⟩:=qAp S0.out hj;exact⟨cs,_,_,hc,rfl⟩)
      have c:=c.grown g3 c.size (fun j hj=>(S0.out.lt j hj).1)
      obtain⟨S1,I1⟩:=cy2 o3 (I1.out.kt KT (by decide))
      refine hK.out _ _ (c) (fun Ah=>?_)
      clear hK K
      try simp only[Act.put,Aa,Ab,Ac,Ad,Ae,Af]
      clear o3 g3 KT S0
      refine tkQ 13 rfl (by kernel_rfl) (by rfl) (fun _ _=>by simp only[Aa,Ab,Ac];go_simp;try with_reducible rfl) Ah ?_ fun _ _ _ h=>h
      try simp only[Act.put,Aa,Ab,Ac,Ad,Ae,Af]
      refine wpAnyH_ready (rs:=[14]) (by kernel_rfl) (by simp) ?_
      refine AllReadyH.cons (i:=14) rfl (fun K hK=>?_) AllReadyH.nil
      rw[if_pos (by rfl)]
      simp only[Aa,Ab,Ac]
      go_simp
      have b:=bA y2 (.cells zzW.toArray 56)
      obtain⟨I1,S1,BO⟩:=cy3 (ownL I1.out b) (S1.out.below b) (bxAt y2 56 [.int .i64 0,.slice none 0 0,.slice none 0 0,.slice none 0 0,.slice none 0 0,.slice none 0 0] y2.heap.size (by simp))
      have zo:W.heap.size≤y2.heap.size:=by have h:=c.size;rw[show y2.heap.size=y2.heap.size by simp]at h;exact h
      have c:=qAa c b
      refine hK.out _ _ (c) (fun Ah=>?_)
      clear hK K
      try simp only[Act.put,Aa,Ab,Ac,Ad,Ae,Af]
      clear b
      refine wpAnyH_ready (rs:=[15]) (by kernel_rfl) (by simp) ?_
      refine AllReadyH.cons (i:=15) rfl (fun K hK=>?_) AllReadyH.nil
      rw[if_pos (by rfl)]
      simp only[Aa,Ab,Ac]
      refine qAm 56 _ _ rfl y2.heap.size (by rfl) 56 _ BO.out [.int .i64 k.rid,.slice ur.a ur.n ur.c,.slice none 0 0,.slice none 0 0,.slice none 0 0,.slice us.a us.n us.c] (by rfl) rfl Tryz.sizeWk rfl ?_
      intro x1 kb kt
      obtain⟨I1,S1⟩:=cy2 (I1.out.past BO.out kt (by decide)) (SlI.past S1.out BO.out kt (by decide))
      have c:=c.trans (kt.below zo)
      have BO:=Ag kb
      refine hK.out _ _ (c) (fun Ah=>?_)
      clear hK K
      try simp only[Act.put,Aa,Ab,Ac,Ad,Ae,Af]
      clear kb kt
      refine wpAnyH_done (by kernel_rfl) ?_ _
      try go_wp2_with fail
      go_meet
      exact⟨y2.heap.size,ur,us,rfl,BO.out,I1.out,S1.out,zo,c⟩
     ·skip
      rw[if_pos (by rfl)]
      simp only[Aa,Ab,Ac]
      go_simp
      have b:=bA y1 (.cells zzW.toArray 56)
      obtain⟨I1,S0,BO⟩:=cy3 (ownL I1.out b) (S0.out.below b) (bxAt y1 56 [.int .i64 0,.slice none 0 0,.slice none 0 0,.slice none 0 0,.slice none 0 0,.slice none 0 0] y1.heap.size (by simp))
      have zo:W.heap.size≤y1.heap.size:=by have h:=c.size;rw[show y1.heap.size=y1.heap.size by simp]at h;exact h
      have c:=qAa c b
      refine hK.out _ _ (c) (fun Ah=>?_)
      clear hK K
      try simp only[Act.put,Aa,Ab,Ac,Ad,Ae,Af]
      clear b
      refine wpAnyH_ready (rs:=[12]) (by kernel_rfl) (by simp) ?_
      refine AllReadyH.cons (i:=12) rfl (fun K hK=>?_) AllReadyH.nil
      rw[if_pos (by rfl)]
      simp only[Aa,Ab,Ac]
      refine qAz _ _ 27 rfl Tryz.underlying27 W.heap.size (.slice (some ⟨W.heap.size,0,none⟩) 0 0) [] (by rfl) S0.out (.slice k.sav.a k.sav.n k.sav.c) k.sa (by rfl) (P0.out.sa.rit.stays c) (by simp;omega) c.size ?_
      intro v3 y2 o3 g3 _
      obtain⟨us,hu3⟩:=SlI.sv o3
      subst hu3
      rw[List.nil_append]at o3
      have KT:KeepTy (fun X=>X=41) (y1.alloc (.cells zzW.toArray 56)) y2:=KeepTy.ofGrown g3 (fun j hj=>by obtain⟨cs,hc⟩:=qAp S0.out hj;exact⟨cs,_,_,hc,rfl⟩)
      have c:=c.grown g3 c.size (fun j hj=>(S0.out.lt j hj).1)
      obtain⟨S1,I1,BO⟩:=cy3 o3 (I1.out.kt KT (by decide)) (BO.out.kt KT (by decide))
      refine hK.out _ _ (c) (fun Ah=>?_)
      clear hK K
      try simp only[Act.put,Aa,Ab,Ac,Ad,Ae,Af]
      clear o3 g3 KT S0
      refine tkQ 13 rfl (by kernel_rfl) (by rfl) (fun _ _=>by simp only[Aa,Ab,Ac];go_simp;try with_reducible rfl) Ah ?_ fun _ _ _ h=>h
      try simp only[Act.put,Aa,Ab,Ac,Ad,Ae,Af]
      refine wpAnyH_ready (rs:=[15]) (by kernel_rfl) (by simp) ?_
      refine AllReadyH.cons (i:=15) rfl (fun K hK=>?_) AllReadyH.nil
      rw[if_pos (by rfl)]
      simp only[Aa,Ab,Ac]
      refine qAm 56 _ _ rfl y1.heap.size (by rfl) 56 _ BO.out [.int .i64 k.rid,.slice ur.a ur.n ur.c,.slice none 0 0,.slice none 0 0,.slice none 0 0,.slice us.a us.n us.c] (by rfl) rfl Tryz.sizeWk rfl ?_
      intro x1 kb kt
      obtain⟨I1,S1⟩:=cy2 (I1.out.past BO.out kt (by decide)) (SlI.past S1.out BO.out kt (by decide))
      have c:=c.trans (kt.below zo)
      have BO:=Ag kb
      refine hK.out _ _ (c) (fun Ah=>?_)
      clear hK K
      try simp only[Act.put,Aa,Ab,Ac,Ad,Ae,Af]
      clear kb kt
      refine wpAnyH_done (by kernel_rfl) ?_ _
      try go_wp2_with fail
      go_meet
      exact⟨y1.heap.size,ur,us,rfl,BO.out,I1.out,S1.out,zo,c⟩
    ·skip
     rw[if_pos (by rfl)]
     simp only[Aa,Ab,Ac]
     go_simp
     have b:Below ((W.drew.alloc (.cells #[] 41)).alloc (.cells #[] 3)).heap.size ((W.drew.alloc (.cells #[] 41)).alloc (.cells #[] 3)) (((W.drew.alloc (.cells #[] 41)).alloc (.cells #[] 3)).alloc (.cells zzW.toArray 56)):=(Below.refl _ _).alloc (Nat.le_refl _) _
     obtain⟨I0,S0,BO⟩:=cy3 (ownL I0.out b) (S0.out.below b) (bxAt ((W.drew.alloc (.cells #[] 41)).alloc (.cells #[] 3)) 56 [.int .i64 0,.slice none 0 0,.slice none 0 0,.slice none 0 0,.slice none 0 0,.slice none 0 0] (W.heap.size+1+1) (by simp))
     have zo:W.heap.size≤(W.heap.size+1+1):=by have h:=c.size;rw[show((W.drew.alloc (.cells #[] 41)).alloc (.cells #[] 3)).heap.size=(W.heap.size+1+1) by simp]at h;exact h
     have c:=qAa c b
     refine hK.out _ _ (c) (fun Ah=>?_)
     clear hK K
     try simp only[Act.put,Aa,Ab,Ac,Ad,Ae,Af]
     clear b
     refine wpAnyH_ready (rs:=[7]) (by kernel_rfl) (by simp) ?_
     refine AllReadyH.cons (i:=7) rfl (fun K hK=>?_) AllReadyH.nil
     rw[if_pos (by rfl)]
     simp only[Aa,Ab,Ac]
     refine qBz _ _ 24 rfl Tryz.underlying24 Tryz.info3' W.heap.size (.slice (some ⟨(W.heap.size+1),0,none⟩) 0 0) [] (by rfl) I0.out (.slice k.mv.a k.mv.n k.mv.c) k.ms (by rfl) (P0.out.ring.ri.stays c) (by simp;omega) c.size (fun h=>by cases h) ?_
     intro v2 y1 o2 g2
     obtain⟨ur,hu2⟩:=o2.sv
     subst hu2
     rw[List.nil_append]at o2
     have KT:KeepTy (fun X=>X=3) (((W.drew.alloc (.cells #[] 41)).alloc (.cells #[] 3)).alloc (.cells zzW.toArray 56)) y1:=KeepTy.ofGrown g2 (fun j hj=>by obtain⟨cs,hc⟩:=qBn I0.out hj;exact⟨cs,_,_,hc,rfl⟩)
     have c:=c.grown g2 c.size (fun j hj=>(I0.out.lt j hj).1)
     obtain⟨I1,S0,BO⟩:=cy3 o2 (S0.out.kt KT (by decide)) (BO.out.kt KT (by decide))
     refine hK.out _ _ (c) (fun Ah=>?_)
     clear hK K
     try simp only[Act.put,Aa,Ab,Ac,Ad,Ae,Af]
     clear o2 g2 KT I0
     refine tkQ 8 rfl (by kernel_rfl) (by rfl) (fun _ _=>by simp only[Aa,Ab,Ac];go_simp;try with_reducible rfl) Ah ?_ fun _ _ _ h=>h
     try simp only[Act.put,Aa,Ab,Ac,Ad,Ae,Af]
     refine wpAnyH_ready (rs:=[12]) (by kernel_rfl) (by simp) ?_
     refine AllReadyH.cons (i:=12) rfl (fun K hK=>?_) AllReadyH.nil
     rw[if_pos (by rfl)]
     simp only[Aa,Ab,Ac]
     refine qAz _ _ 27 rfl Tryz.underlying27 W.heap.size (.slice (some ⟨W.heap.size,0,none⟩) 0 0) [] (by rfl) S0.out (.slice k.sav.a k.sav.n k.sav.c) k.sa (by rfl) (P0.out.sa.rit.stays c) (by simp;omega) c.size ?_
     intro v3 y2 o3 g3 _
     obtain⟨us,hu3⟩:=SlI.sv o3
     subst hu3
     rw[List.nil_append]at o3
     have KT:KeepTy (fun X=>X=41) y1 y2:=KeepTy.ofGrown g3 (fun j hj=>by obtain⟨cs,hc⟩:=qAp S0.out hj;exact⟨cs,_,_,hc,rfl⟩)
     have c:=c.grown g3 c.size (fun j hj=>(S0.out.lt j hj).1)
     obtain⟨S1,I1,BO⟩:=cy3 o3 (I1.out.kt KT (by decide)) (BO.out.kt KT (by decide))
     refine hK.out _ _ (c) (fun Ah=>?_)
     clear hK K
     try simp only[Act.put,Aa,Ab,Ac,Ad,Ae,Af]
     clear o3 g3 KT S0
     refine tkQ 13 rfl (by kernel_rfl) (by rfl) (fun _ _=>by simp only[Aa,Ab,Ac];go_simp;try with_reducible rfl) Ah ?_ fun _ _ _ h=>h
     try simp only[Act.put,Aa,Ab,Ac,Ad,Ae,Af]
     refine wpAnyH_ready (rs:=[15]) (by kernel_rfl) (by simp) ?_
     refine AllReadyH.cons (i:=15) rfl (fun K hK=>?_) AllReadyH.nil
     rw[if_pos (by rfl)]
     simp only[Aa,Ab,Ac]
     refine qAm 56 _ _ rfl (W.heap.size+1+1) (by rfl) 56 _ BO.out [.int .i64 k.rid,.slice ur.a ur.n ur.c,.slice none 0 0,.slice none 0 0,.slice none 0 0,.slice us.a us.n us.c] (by rfl) rfl Tryz.sizeWk rfl ?_
     intro x1 kb kt
     obtain⟨I1,S1⟩:=cy2 (I1.out.past BO.out kt (by decide)) (SlI.past S1.out BO.out kt (by decide))
     have c:=c.trans (kt.below zo)
     have BO:=Ag kb
     refine hK.out _ _ (c) (fun Ah=>?_)
     clear hK K
     try simp only[Act.put,Aa,Ab,Ac,Ad,Ae,Af]
     clear kb kt
     refine wpAnyH_done (by kernel_rfl) ?_ _
     try go_wp2_with fail
     go_meet
     exact⟨(W.heap.size+1+1),ur,us,rfl,BO.out,I1.out,S1.out,zo,c⟩
   ·skip
    rw[if_pos (by rfl)]
    simp only[Aa,Ab,Ac]
    go_simp
    have b:Below (W.drew.alloc (.cells #[] 41)).heap.size (W.drew.alloc (.cells #[] 41)) ((W.drew.alloc (.cells #[] 41)).alloc (.cells zzW.toArray 56)):=(Below.refl _ _).alloc (Nat.le_refl _) _
    obtain⟨S0,BO⟩:=cy2 (S0.out.below b) (bxAt (W.drew.alloc (.cells #[] 41)) 56 [.int .i64 0,.slice none 0 0,.slice none 0 0,.slice none 0 0,.slice none 0 0,.slice none 0 0] (W.heap.size+1) (by simp))
    have zo:W.heap.size≤(W.heap.size+1):=by have h:=c.size;rw[show(W.drew.alloc (.cells #[] 41)).heap.size=(W.heap.size+1) by simp]at h;exact h
    have c:=qAa c b
    refine hK.out _ _ (c) (fun Ah=>?_)
    clear hK K
    try simp only[Act.put,Aa,Ab,Ac,Ad,Ae,Af]
    clear b
    refine wpAnyH_ready (rs:=[3]) (by kernel_rfl) (by simp) ?_
    refine AllReadyH.cons (i:=3) rfl (fun K hK=>?_) AllReadyH.nil
    rw[if_pos (by rfl)]
    simp only[Aa,Ab,Ac]
    go_simp
    have b:Below ((W.drew.alloc (.cells #[] 41)).alloc (.cells zzW.toArray 56)).heap.size ((W.drew.alloc (.cells #[] 41)).alloc (.cells zzW.toArray 56)) (((W.drew.alloc (.cells #[] 41)).alloc (.cells zzW.toArray 56)).alloc (.cells #[] 3)):=(Below.refl _ _).alloc (Nat.le_refl _) _
    obtain⟨S0,BO,I0⟩:=cy3 (S0.out.below b) (BO.out.later b) (owiAt ((W.drew.alloc (.cells #[] 41)).alloc (.cells zzW.toArray 56)) W.heap.size (W.heap.size+1+1) c.size (by simp))
    have c:=qAa c b
    refine hK.out _ _ (c) (fun Ah=>?_)
    clear hK K
    try simp only[Act.put,Aa,Ab,Ac,Ad,Ae,Af]
    clear b
    refine wpAnyH_ready (rs:=[7]) (by kernel_rfl) (by simp) ?_
    refine AllReadyH.cons (i:=7) rfl (fun K hK=>?_) AllReadyH.nil
    rw[if_pos (by rfl)]
    simp only[Aa,Ab,Ac]
    refine qBz _ _ 24 rfl Tryz.underlying24 Tryz.info3' W.heap.size (.slice (some ⟨(W.heap.size+1+1),0,none⟩) 0 0) [] (by rfl) I0.out (.slice k.mv.a k.mv.n k.mv.c) k.ms (by rfl) (P0.out.ring.ri.stays c) (by simp;omega) c.size (fun h=>by cases h) ?_
    intro v2 y1 o2 g2
    obtain⟨ur,hu2⟩:=o2.sv
    subst hu2
    rw[List.nil_append]at o2
    have KT:KeepTy (fun X=>X=3) (((W.drew.alloc (.cells #[] 41)).alloc (.cells zzW.toArray 56)).alloc (.cells #[] 3)) y1:=KeepTy.ofGrown g2 (fun j hj=>by obtain⟨cs,hc⟩:=qBn I0.out hj;exact⟨cs,_,_,hc,rfl⟩)
    have c:=c.grown g2 c.size (fun j hj=>(I0.out.lt j hj).1)
    obtain⟨I1,S0,BO⟩:=cy3 o2 (S0.out.kt KT (by decide)) (BO.out.kt KT (by decide))
    refine hK.out _ _ (c) (fun Ah=>?_)
    clear hK K
    try simp only[Act.put,Aa,Ab,Ac,Ad,Ae,Af]
    clear o2 g2 KT I0
    refine tkQ 8 rfl (by kernel_rfl) (by rfl) (fun _ _=>by simp only[Aa,Ab,Ac];go_simp;try with_reducible rfl) Ah ?_ fun _ _ _ h=>h
    try simp only[Act.put,Aa,Ab,Ac,Ad,Ae,Af]
    refine wpAnyH_ready (rs:=[12]) (by kernel_rfl) (by simp) ?_
    refine AllReadyH.cons (i:=12) rfl (fun K hK=>?_) AllReadyH.nil
    rw[if_pos (by rfl)]
    simp only[Aa,Ab,Ac]
    refine qAz _ _ 27 rfl Tryz.underlying27 W.heap.size (.slice (some ⟨W.heap.size,0,none⟩) 0 0) [] (by rfl) S0.out (.slice k.sav.a k.sav.n k.sav.c) k.sa (by rfl) (P0.out.sa.rit.stays c) (by simp;omega) c.size ?_
    intro v3 y2 o3 g3 _
    obtain⟨us,hu3⟩:=SlI.sv o3
    subst hu3
    rw[List.nil_append]at o3
    have KT:KeepTy (fun X=>X=41) y1 y2:=KeepTy.ofGrown g3 (fun j hj=>by obtain⟨cs,hc⟩:=qAp S0.out hj;exact⟨cs,_,_,hc,rfl⟩)
    have c:=c.grown g3 c.size (fun j hj=>(S0.out.lt j hj).1)
    obtain⟨S1,I1,BO⟩:=cy3 o3 (I1.out.kt KT (by decide)) (BO.out.kt KT (by decide))
    refine hK.out _ _ (c) (fun Ah=>?_)
    clear hK K
    try simp only[Act.put,Aa,Ab,Ac,Ad,Ae,Af]
    clear o3 g3 KT S0
    refine tkQ 13 rfl (by kernel_rfl) (by rfl) (fun _ _=>by simp only[Aa,Ab,Ac];go_simp;try with_reducible rfl) Ah ?_ fun _ _ _ h=>h
    try simp only[Act.put,Aa,Ab,Ac,Ad,Ae,Af]
    refine wpAnyH_ready (rs:=[15]) (by kernel_rfl) (by simp) ?_
    refine AllReadyH.cons (i:=15) rfl (fun K hK=>?_) AllReadyH.nil
    rw[if_pos (by rfl)]
    simp only[Aa,Ab,Ac]
    refine qAm 56 _ _ rfl (W.heap.size+1) (by rfl) 56 _ BO.out [.int .i64 k.rid,.slice ur.a ur.n ur.c,.slice none 0 0,.slice none 0 0,.slice none 0 0,.slice us.a us.n us.c] (by rfl) rfl Tryz.sizeWk rfl ?_
    intro x1 kb kt
    obtain⟨I1,S1⟩:=cy2 (I1.out.past BO.out kt (by decide)) (SlI.past S1.out BO.out kt (by decide))
    have c:=c.trans (kt.below zo)
    have BO:=Ag kb
    refine hK.out _ _ (c) (fun Ah=>?_)
    clear hK K
    try simp only[Act.put,Aa,Ab,Ac,Ad,Ae,Af]
    clear kb kt
    refine wpAnyH_done (by kernel_rfl) ?_ _
    try go_wp2_with fail
    go_meet
    exact⟨(W.heap.size+1),ur,us,rfl,BO.out,I1.out,S1.out,zo,c⟩
  ·skip
   rw[if_pos (by rfl)]
   simp only[Aa,Ab,Ac]
   go_simp
   have b:=bA W.drew (.cells zzW.toArray 56)
   have BO:=Ag (bxAt W.drew 56 [.int .i64 0,.slice none 0 0,.slice none 0 0,.slice none 0 0,.slice none 0 0,.slice none 0 0] W.heap.size (by simp))
   have zo:W.heap.size≤W.heap.size:=by have h:=c.size;rw[show W.drew.heap.size=W.heap.size by simp]at h;exact h
   have c:=qAa c b
   refine hK.out _ _ (c) (fun Ah=>?_)
   clear hK K
   try simp only[Act.put,Aa,Ab,Ac,Ad,Ae,Af]
   clear b
   refine wpAnyH_ready (rs:=[3,9]) (by kernel_rfl) (by simp) ?_
   refine(AllReadyH.cons (i:=3) rfl (fun K hK=>?_) (AllReadyH.cons (i:=9) rfl (fun K hK=>?_) AllReadyH.nil))
   ·skip
    rw[if_pos (by rfl)]
    simp only[Aa,Ab,Ac]
    go_simp
    have b:Below (W.drew.alloc (.cells zzW.toArray 56)).heap.size (W.drew.alloc (.cells zzW.toArray 56)) ((W.drew.alloc (.cells zzW.toArray 56)).alloc (.cells #[] 3)):=(Below.refl _ _).alloc (Nat.le_refl _) _
    obtain⟨BO,I0⟩:=cy2 (BO.out.later b) (owiAt (W.drew.alloc (.cells zzW.toArray 56)) W.heap.size (W.heap.size+1) c.size (by simp))
    have c:=qAa c b
    refine hK.out _ _ (c) (fun Ah=>?_)
    clear hK K
    try simp only[Act.put,Aa,Ab,Ac,Ad,Ae,Af]
    clear b
    refine wpAnyH_ready (rs:=[7,9]) (by kernel_rfl) (by simp) ?_
    refine(AllReadyH.cons (i:=7) rfl (fun K hK=>?_) (AllReadyH.cons (i:=9) rfl (fun K hK=>?_) AllReadyH.nil))
    ·skip
     rw[if_pos (by rfl)]
     simp only[Aa,Ab,Ac]
     refine qBz _ _ 24 rfl Tryz.underlying24 Tryz.info3' W.heap.size (.slice (some ⟨(W.heap.size+1),0,none⟩) 0 0) [] (by rfl) I0.out (.slice k.mv.a k.mv.n k.mv.c) k.ms (by rfl) (P0.out.ring.ri.stays c) (by simp;omega) c.size (fun h=>by cases h) ?_
     intro v2 y1 o2 g2
     obtain⟨ur,hu2⟩:=o2.sv
     subst hu2
     rw[List.nil_append]at o2
     have KT:KeepTy (fun X=>X=3) ((W.drew.alloc (.cells zzW.toArray 56)).alloc (.cells #[] 3)) y1:=KeepTy.ofGrown g2 (fun j hj=>by obtain⟨cs,hc⟩:=qBn I0.out hj;exact⟨cs,_,_,hc,rfl⟩)
     have c:=c.grown g2 c.size (fun j hj=>(I0.out.lt j hj).1)
     obtain⟨I1,BO⟩:=cy2 o2 (BO.out.kt KT (by decide))
     refine hK.out _ _ (c) (fun Ah=>?_)
     clear hK K
     try simp only[Act.put,Aa,Ab,Ac,Ad,Ae,Af]
     clear o2 g2 KT I0
     refine tkQ 8 rfl (by kernel_rfl) (by rfl) (fun _ _=>by simp only[Aa,Ab,Ac];go_simp;try with_reducible rfl) Ah ?_ fun _ _ _ h=>h
     try simp only[Act.put,Aa,Ab,Ac,Ad,Ae,Af]
     refine wpAnyH_ready (rs:=[9]) (by kernel_rfl) (by simp) ?_
     refine AllReadyH.cons (i:=9) rfl (fun K hK=>?_) AllReadyH.nil
     rw[if_pos (by rfl)]
     simp only[Aa,Ab,Ac]
     go_simp
     have b:=bA y1 (.cells #[] 41)
     obtain⟨I1,BO,S0⟩:=cy3 (ownL I1.out b) (BO.out.later b) (qHi y1 W.heap.size y1.heap.size c.size (by simp))
     have c:=qAa c b
     refine hK.out _ _ (c) (fun Ah=>?_)
     clear hK K
     try simp only[Act.put,Aa,Ab,Ac,Ad,Ae,Af]
     clear b
     refine wpAnyH_ready (rs:=[12]) (by kernel_rfl) (by simp) ?_
     refine AllReadyH.cons (i:=12) rfl (fun K hK=>?_) AllReadyH.nil
     rw[if_pos (by rfl)]
     simp only[Aa,Ab,Ac]
     refine qAz _ _ 27 rfl Tryz.underlying27 W.heap.size (.slice (some ⟨y1.heap.size,0,none⟩) 0 0) [] (by rfl) S0.out (.slice k.sav.a k.sav.n k.sav.c) k.sa (by rfl) (P0.out.sa.rit.stays c) (by simp;omega) c.size ?_
     intro v3 y2 o3 g3 _
     obtain⟨us,hu3⟩:=SlI.sv o3
     subst hu3
     rw[List.nil_append]at o3
     have KT:KeepTy (fun X=>X=41) (y1.alloc (.cells #[] 41)) y2:=KeepTy.ofGrown g3 (fun j hj=>by obtain⟨cs,hc⟩:=qAp S0.out hj;exact⟨cs,_,_,hc,rfl⟩)
     have c:=c.grown g3 c.size (fun j hj=>(S0.out.lt j hj).1)
     obtain⟨S1,I1,BO⟩:=cy3 o3 (I1.out.kt KT (by decide)) (BO.out.kt KT (by decide))
     refine hK.out _ _ (c) (fun Ah=>?_)
     clear hK K
     try simp only[Act.put,Aa,Ab,Ac,Ad,Ae,Af]
     clear o3 g3 KT S0
     refine tkQ 13 rfl (by kernel_rfl) (by rfl) (fun _ _=>by simp only[Aa,Ab,Ac];go_simp;try with_reducible rfl) Ah ?_ fun _ _ _ h=>h
     try simp only[Act.put,Aa,Ab,Ac,Ad,Ae,Af]
     refine wpAnyH_ready (rs:=[15]) (by kernel_rfl) (by simp) ?_
     refine AllReadyH.cons (i:=15) rfl (fun K hK=>?_) AllReadyH.nil
     rw[if_pos (by rfl)]
     simp only[Aa,Ab,Ac]
     refine qAm 56 _ _ rfl W.heap.size (by rfl) 56 _ BO.out [.int .i64 k.rid,.slice ur.a ur.n ur.c,.slice none 0 0,.slice none 0 0,.slice none 0 0,.slice us.a us.n us.c] (by rfl) rfl Tryz.sizeWk rfl ?_
     intro x1 kb kt
     obtain⟨I1,S1⟩:=cy2 (I1.out.past BO.out kt (by decide)) (SlI.past S1.out BO.out kt (by decide))
     have c:=c.trans (kt.below zo)
     have BO:=Ag kb
     refine hK.out _ _ (c) (fun Ah=>?_)
     clear hK K
     try simp only[Act.put,Aa,Ab,Ac,Ad,Ae,Af]
     clear kb kt
     refine wpAnyH_done (by kernel_rfl) ?_ _
     try go_wp2_with fail
     go_meet
     exact⟨W.heap.size,ur,us,rfl,BO.out,I1.out,S1.out,zo,c⟩
    ·skip
     rw[if_pos (by rfl)]
     simp only[Aa,Ab,Ac]
     go_simp
     have b:Below ((W.drew.alloc (.cells zzW.toArray 56)).alloc (.cells #[] 3)).heap.size ((W.drew.alloc (.cells zzW.toArray 56)).alloc (.cells #[] 3)) (((W.drew.alloc (.cells zzW.toArray 56)).alloc (.cells #[] 3)).alloc (.cells #[] 41)):=(Below.refl _ _).alloc (Nat.le_refl _) _
     obtain⟨I0,BO,S0⟩:=cy3 (ownL I0.out b) (BO.out.later b) (qHi ((W.drew.alloc (.cells zzW.toArray 56)).alloc (.cells #[] 3)) W.heap.size (W.heap.size+1+1) c.size (by simp))
     have c:=qAa c b
     refine hK.out _ _ (c) (fun Ah=>?_)
     clear hK K
     try simp only[Act.put,Aa,Ab,Ac,Ad,Ae,Af]
     clear b
     refine wpAnyH_ready (rs:=[7]) (by kernel_rfl) (by simp) ?_
     refine AllReadyH.cons (i:=7) rfl (fun K hK=>?_) AllReadyH.nil
     rw[if_pos (by rfl)]
     simp only[Aa,Ab,Ac]
     refine qBz _ _ 24 rfl Tryz.underlying24 Tryz.info3' W.heap.size (.slice (some ⟨(W.heap.size+1),0,none⟩) 0 0) [] (by rfl) I0.out (.slice k.mv.a k.mv.n k.mv.c) k.ms (by rfl) (P0.out.ring.ri.stays c) (by simp;omega) c.size (fun h=>by cases h) ?_
     intro v2 y1 o2 g2
     obtain⟨ur,hu2⟩:=o2.sv
     subst hu2
     rw[List.nil_append]at o2
     have KT:KeepTy (fun X=>X=3) (((W.drew.alloc (.cells zzW.toArray 56)).alloc (.cells #[] 3)).alloc (.cells #[] 41)) y1:=KeepTy.ofGrown g2 (fun j hj=>by obtain⟨cs,hc⟩:=qBn I0.out hj;exact⟨cs,_,_,hc,rfl⟩)
     have c:=c.grown g2 c.size (fun j hj=>(I0.out.lt j hj).1)
     obtain⟨I1,S0,BO⟩:=cy3 o2 (S0.out.kt KT (by decide)) (BO.out.kt KT (by decide))
     refine hK.out _ _ (c) (fun Ah=>?_)
     clear hK K
     try simp only[Act.put,Aa,Ab,Ac,Ad,Ae,Af]
     clear o2 g2 KT I0
     refine tkQ 8 rfl (by kernel_rfl) (by rfl) (fun _ _=>by simp only[Aa,Ab,Ac];go_simp;try with_reducible rfl) Ah ?_ fun _ _ _ h=>h
     try simp only[Act.put,Aa,Ab,Ac,Ad,Ae,Af]
     refine wpAnyH_ready (rs:=[12]) (by kernel_rfl) (by simp) ?_
     refine AllReadyH.cons (i:=12) rfl (fun K hK=>?_) AllReadyH.nil
     rw[if_pos (by rfl)]
     simp only[Aa,Ab,Ac]
     refine qAz _ _ 27 rfl Tryz.underlying27 W.heap.size (.slice (some ⟨(W.heap.size+1+1),0,none⟩) 0 0) [] (by rfl) S0.out (.slice k.sav.a k.sav.n k.sav.c) k.sa (by rfl) (P0.out.sa.rit.stays c) (by simp;omega) c.size ?_
     intro v3 y2 o3 g3 _
     obtain⟨us,hu3⟩:=SlI.sv o3
     subst hu3
     rw[List.nil_append]at o3
     have KT:KeepTy (fun X=>X=41) y1 y2:=KeepTy.ofGrown g3 (fun j hj=>by obtain⟨cs,hc⟩:=qAp S0.out hj;exact⟨cs,_,_,hc,rfl⟩)
     have c:=c.grown g3 c.size (fun j hj=>(S0.out.lt j hj).1)
     obtain⟨S1,I1,BO⟩:=cy3 o3 (I1.out.kt KT (by decide)) (BO.out.kt KT (by decide))
     refine hK.out _ _ (c) (fun Ah=>?_)
     clear hK K
     try simp only[Act.put,Aa,Ab,Ac,Ad,Ae,Af]
     clear o3 g3 KT S0
     refine tkQ 13 rfl (by kernel_rfl) (by rfl) (fun _ _=>by simp only[Aa,Ab,Ac];go_simp;try with_reducible rfl) Ah ?_ fun _ _ _ h=>h
     try simp only[Act.put,Aa,Ab,Ac,Ad,Ae,Af]
     refine wpAnyH_ready (rs:=[15]) (by kernel_rfl) (by simp) ?_
     refine AllReadyH.cons (i:=15) rfl (fun K hK=>?_) AllReadyH.nil
     rw[if_pos (by rfl)]
     simp only[Aa,Ab,Ac]
     refine qAm 56 _ _ rfl W.heap.size (by rfl) 56 _ BO.out [.int .i64 k.rid,.slice ur.a ur.n ur.c,.slice none 0 0,.slice none 0 0,.slice none 0 0,.slice us.a us.n us.c] (by rfl) rfl Tryz.sizeWk rfl ?_
     intro x1 kb kt
     obtain⟨I1,S1⟩:=cy2 (I1.out.past BO.out kt (by decide)) (SlI.past S1.out BO.out kt (by decide))
     have c:=c.trans (kt.below zo)
     have BO:=Ag kb
     refine hK.out _ _ (c) (fun Ah=>?_)
     clear hK K
     try simp only[Act.put,Aa,Ab,Ac,Ad,Ae,Af]
     clear kb kt
     refine wpAnyH_done (by kernel_rfl) ?_ _
     try go_wp2_with fail
     go_meet
     exact⟨W.heap.size,ur,us,rfl,BO.out,I1.out,S1.out,zo,c⟩
   ·skip
    rw[if_pos (by rfl)]
    simp only[Aa,Ab,Ac]
    go_simp
    have b:Below (W.drew.alloc (.cells zzW.toArray 56)).heap.size (W.drew.alloc (.cells zzW.toArray 56)) ((W.drew.alloc (.cells zzW.toArray 56)).alloc (.cells #[] 41)):=(Below.refl _ _).alloc (Nat.le_refl _) _
    obtain⟨BO,S0⟩:=cy2 (BO.out.later b) (qHi (W.drew.alloc (.cells zzW.toArray 56)) W.heap.size (W.heap.size+1) c.size (by simp))
    have c:=qAa c b
    refine hK.out _ _ (c) (fun Ah=>?_)
    clear hK K
    try simp only[Act.put,Aa,Ab,Ac,Ad,Ae,Af]
    clear b
    refine wpAnyH_ready (rs:=[3]) (by kernel_rfl) (by simp) ?_
    refine AllReadyH.cons (i:=3) rfl (fun K hK=>?_) AllReadyH.nil
    rw[if_pos (by rfl)]
    simp only[Aa,Ab,Ac]
    go_simp
    have b:Below ((W.drew.alloc (.cells zzW.toArray 56)).alloc (.cells #[] 41)).heap.size ((W.drew.alloc (.cells zzW.toArray 56)).alloc (.cells #[] 41)) (((W.drew.alloc (.cells zzW.toArray 56)).alloc (.cells #[] 41)).alloc (.cells #[] 3)):=(Below.refl _ _).alloc (Nat.le_refl _) _
    obtain⟨S0,BO,I0⟩:=cy3 (S0.out.below b) (BO.out.later b) (owiAt ((W.drew.alloc (.cells zzW.toArray 56)).alloc (.cells #[] 41)) W.heap.size (W.heap.size+1+1) c.size (by simp))
    have c:=qAa c b
    refine hK.out _ _ (c) (fun Ah=>?_)
    clear hK K
    try simp only[Act.put,Aa,Ab,Ac,Ad,Ae,Af]
    clear b
    refine wpAnyH_ready (rs:=[7]) (by kernel_rfl) (by simp) ?_
    refine AllReadyH.cons (i:=7) rfl (fun K hK=>?_) AllReadyH.nil
    rw[if_pos (by rfl)]
    simp only[Aa,Ab,Ac]
    refine qBz _ _ 24 rfl Tryz.underlying24 Tryz.info3' W.heap.size (.slice (some ⟨(W.heap.size+1+1),0,none⟩) 0 0) [] (by rfl) I0.out (.slice k.mv.a k.mv.n k.mv.c) k.ms (by rfl) (P0.out.ring.ri.stays c) (by simp;omega) c.size (fun h=>by cases h) ?_
    intro v2 y1 o2 g2
    obtain⟨ur,hu2⟩:=o2.sv
    subst hu2
    rw[List.nil_append]at o2
    have KT:KeepTy (fun X=>X=3) (((W.drew.alloc (.cells zzW.toArray 56)).alloc (.cells #[] 41)).alloc (.cells #[] 3)) y1:=KeepTy.ofGrown g2 (fun j hj=>by obtain⟨cs,hc⟩:=qBn I0.out hj;exact⟨cs,_,_,hc,rfl⟩)
    have c:=c.grown g2 c.size (fun j hj=>(I0.out.lt j hj).1)
    obtain⟨I1,S0,BO⟩:=cy3 o2 (S0.out.kt KT (by decide)) (BO.out.kt KT (by decide))
    refine hK.out _ _ (c) (fun Ah=>?_)
    clear hK K
    try simp only[Act.put,Aa,Ab,Ac,Ad,Ae,Af]
    clear o2 g2 KT I0
    refine tkQ 8 rfl (by kernel_rfl) (by rfl) (fun _ _=>by simp only[Aa,Ab,Ac];go_simp;try with_reducible rfl) Ah ?_ fun _ _ _ h=>h
    try simp only[Act.put,Aa,Ab,Ac,Ad,Ae,Af]
    refine wpAnyH_ready (rs:=[12]) (by kernel_rfl) (by simp) ?_
    refine AllReadyH.cons (i:=12) rfl (fun K hK=>?_) AllReadyH.nil
    rw[if_pos (by rfl)]
    simp only[Aa,Ab,Ac]
    refine qAz _ _ 27 rfl Tryz.underlying27 W.heap.size (.slice (some ⟨(W.heap.size+1),0,none⟩) 0 0) [] (by rfl) S0.out (.slice k.sav.a k.sav.n k.sav.c) k.sa (by rfl) (P0.out.sa.rit.stays c) (by simp;omega) c.size ?_
    intro v3 y2 o3 g3 _
    obtain⟨us,hu3⟩:=SlI.sv o3
    subst hu3
    rw[List.nil_append]at o3
    have KT:KeepTy (fun X=>X=41) y1 y2:=KeepTy.ofGrown g3 (fun j hj=>by obtain⟨cs,hc⟩:=qAp S0.out hj;exact⟨cs,_,_,hc,rfl⟩)
    have c:=c.grown g3 c.size (fun j hj=>(S0.out.lt j hj).1)
    obtain⟨S1,I1,BO⟩:=cy3 o3 (I1.out.kt KT (by decide)) (BO.out.kt KT (by decide))
    refine hK.out _ _ (c) (fun Ah=>?_)
    clear hK K
    try simp only[Act.put,Aa,Ab,Ac,Ad,Ae,Af]
    clear o3 g3 KT S0
    refine tkQ 13 rfl (by kernel_rfl) (by rfl) (fun _ _=>by simp only[Aa,Ab,Ac];go_simp;try with_reducible rfl) Ah ?_ fun _ _ _ h=>h
    try simp only[Act.put,Aa,Ab,Ac,Ad,Ae,Af]
    refine wpAnyH_ready (rs:=[15]) (by kernel_rfl) (by simp) ?_
    refine AllReadyH.cons (i:=15) rfl (fun K hK=>?_) AllReadyH.nil
    rw[if_pos (by rfl)]
    simp only[Aa,Ab,Ac]
    refine qAm 56 _ _ rfl W.heap.size (by rfl) 56 _ BO.out [.int .i64 k.rid,.slice ur.a ur.n ur.c,.slice none 0 0,.slice none 0 0,.slice none 0 0,.slice us.a us.n us.c] (by rfl) rfl Tryz.sizeWk rfl ?_
    intro x1 kb kt
    obtain⟨I1,S1⟩:=cy2 (I1.out.past BO.out kt (by decide)) (SlI.past S1.out BO.out kt (by decide))
    have c:=c.trans (kt.below zo)
    have BO:=Ag kb
    refine hK.out _ _ (c) (fun Ah=>?_)
    clear hK K
    try simp only[Act.put,Aa,Ab,Ac,Ad,Ae,Af]
    clear kb kt
    refine wpAnyH_done (by kernel_rfl) ?_ _
    try go_wp2_with fail
    go_meet
    exact⟨W.heap.size,ur,us,rfl,BO.out,I1.out,S1.out,zo,c⟩
 case rest=>
 obtain⟨go,ur,us,rfl,bo,iu,su,zgo,b⟩:=hcut
 generalize wc=w1 at *
 have BO:=Ag bo
 have IU:Hid (OwnI w1 W.heap.size ur.v k.ms):=iu
 have SU:Hid (SlI w1 W.heap.size us.v k.sa):=su
 obtain⟨B1,KA1,KR1,P1⟩:=cy4 (qAa BW.out b) (KA.out.later b) (KR.out.later b) (P0.out.below b)
 have z1:=b.size
 have zgl:=BO.out.lt
 have HMN:Hid (k.mav.n=k.ma.length):=P1.out.ma.len
 have hmn:k.mav.n≤10:=by have h1:=HMN.out;have h2:=hs.out.ma;omega
 clear bo iu su b BW KA KR P0
 go_wp2_with fail
 go_loopw [4] (fun v4 wr=>∃(j:Nat) (mz:Sv) (ma:List (Mt × Mv)),j≤k.mav.n∧v4=.int .i64 (j:Int)∧Hid (Bx wr go 56 [.int .i64 k.rid,.slice ur.a ur.n ur.c,.slice mz.a mz.n mz.c,.slice none 0 0,.slice none 0 0,.slice us.a us.n us.c])∧Hid (MsP wr w1.heap.size mz.v ma)∧Hid (ma.map (·.1)=(k.ma.take j).map (·.1))∧Hid (KeepBut go w1 wr)) (fun v4 _=>k.mav.n - (intOf v4).toNat)
 case atStart=>exact⟨0,zSv,[],Nat.zero_le _,rfl,BO,⟨SlN.nil _ _ _ _,fun e he=>by cases he⟩,rfl,qAc (Below.refl _ _)⟩
 case round=>
  obtain⟨j,mz,ma,hj,rfl,BR,MR,EM,KB⟩:=hrel
  have KAr:=Ag (KA1.out.keepb KB.out (by omega))
  have ka2:=KAr.out.cell 2
  have zr:w1.heap.size≤wr.heap.size:=KB.out.size
  by_cases hlt:j<k.mav.n
  ·have hjm:j<k.ma.length:=by have:=HMN.out;omega
   obtain⟨hq1,gm,off,ha,hq2,hgl,hr⟩:=P1.out.ma.row hjm
   clear hq1 hq2
   have hgm:gm≠go:=P1.out.ma.1.box_ne BO.out (by decide) gm (by simp[Sv.v,Value.ownBlock,ha])
   obtain⟨⟨m,v⟩,hm⟩: ∃e,k.ma[j]=e:=⟨_,rfl⟩
   have HM:Hid (k.ma[j]=(m,v)):=hm
   have HR:Hid (w1.rangeAt gm (off+j * 16) (mC m v)):=(by rw[hm]at hr;exact hr:World.rangeAt _ _ _ _)
   have HMP:Hid (MtP w1 m v):=(by have:=P1.out.ma.2 k.ma[j] (List.getElem_mem hjm);rw[hm]at this;exact this:MtP _ _ _)
   have HMS:Hid (MtS m):=(by have:=hs.out.mas k.ma[j] (List.getElem_mem hjm);rw[hm]at this;exact this:MtS _)
   have KA1a:Hid (Bx w1 w.heap.size 56 [.int .i64 k.rid,.slice k.mv.a k.mv.n k.mv.c,.slice (some ⟨gm,off,none⟩) k.mav.n k.mav.c,.slice k.flv.a k.flv.n k.flv.c,.slice k.hev.a k.hev.n k.hev.c,.slice k.sav.a k.sav.n k.sav.c]):=(by have e:=KA1.out;rw[ha]at e;exact e:Bx _ _ _ _)
   have hml:(ma.map mcel).length+1≤1048577:=by have e:=congrArg List.length EM.out;simp only[List.length_map,List.length_take]at e⊢;have:=hs.out.ma;omega
   have i0:(0:Int)≤(j:Int):=by omega
   have i1:(j:Int)<(k.mav.n:Int):=by omega
   clear hr ha hm
   go_wp2_with fail
   have c:KeepBut go w1 wr.drew:=KB.out.trans (qAc ((Below.refl _ _).drew))
   have BD:=Ag (BR.out.later ((Below.refl _ _).drew))
   refine qAj (S:=fun w'=>Bx w' go 56 [.int .i64 k.rid,.slice ur.a ur.n ur.c,.slice mz.a mz.n mz.c,.slice none 0 0,.slice none 0 0,.slice us.a us.n us.c]∧KeepBut go w1 w') _ (by simp) (by kernel_rfl) (by rfl) (by rfl) (by kernel_rfl) (by kernel_rfl) ⟨BD.out,c⟩ (fun Ah=>?_)
   simp only[List.dropLast_cons_cons,List.dropLast_singleton,List.getLast_cons_cons,List.getLast_singleton,List.cons_append,List.nil_append,List.length_cons,List.length_nil]
   refine tkQ 0 rfl (by kernel_rfl) (by rfl) (fun _ _=>by simp only[Aa,Ab,Ac];go_simp;try with_reducible rfl) Ah ?_ fun _ _ _ h=>h
   try simp only[Act.put,Aa,Ab,Ac,Ad,Ae,Af]
   refine tkH (i:=1) (v:=_) rfl (by kernel_rfl) (fun _ _ _ h=>h) (qAf (by rfl) 52 _ rfl go 2 rfl 56 _ (fun w hS=>hS.1) (.slice mz.a mz.n mz.c) rfl _ Tryz.underlying52 rfl) Ah ?_
   try simp only[Act.put,Aa,Ab,Ac,Ad,Ae,Af]
   refine tkQ 2 rfl (by kernel_rfl) (by rfl) (fun _ _=>by simp only[Aa,Ab,Ac];go_simp;try with_reducible rfl) Ah ?_ fun _ _ _ h=>h
   try simp only[Act.put,Aa,Ab,Ac,Ad,Ae,Af]
   refine tkH (i:=3) (v:=_) rfl (by kernel_rfl) (fun _ _ _ h=>h) (qAf (by rfl) 52 _ rfl w.heap.size 2 rfl 56 _ (fun w hS=>KA1a.out.keepb hS.2 (by omega)) (.slice (some ⟨gm,off,none⟩) k.mav.n k.mav.c) rfl _ Tryz.underlying52 rfl) Ah ?_
   try simp only[Act.put,Aa,Ab,Ac,Ad,Ae,Af]
   refine tkQ 4 rfl (by kernel_rfl) (by rfl) (fun _ _=>by simp only[Aa,Ab,Ac];go_simp;try with_reducible rfl) Ah ?_ fun _ _ _ h=>h
   try simp only[Act.put,Aa,Ab,Ac,Ad,Ae,Af]
   refine tkQ 5 rfl (by kernel_rfl) (by rfl) (fun _ _=>by simp only[Aa,Ab,Ac];go_simp;try with_reducible rfl) Ah ?_ fun _ _ _ h=>h
   try simp only[Act.put,Aa,Ab,Ac,Ad,Ae,Af]
   refine tkH (i:=6) (v:=_) rfl (by kernel_rfl) (fun _ _ _ h=>h) (qDa (by rfl) 32 _ rfl gm (off+j * 16) (by rfl) (mC m v) (fun w hS=>qEu HR.out hgl hS.2 hgm) _ Tryz.underlying32 rfl Tryz.sizeM) Ah ?_
   try simp only[Act.put,Ad,Ae,Af]
   refine wpAnyH_ready (rs:=[7]) (by kernel_rfl) (by simp) ?_
   refine AllReadyH.cons (i:=7) rfl (fun K hK=>?_) AllReadyH.nil
   rw[if_pos (by rfl)]
   simp only[Aa,Ab,Ac]
   go_simp
   refine(qCm m v _ (show Hid (MtP wr.drew m v)from HMP.out.keepb BO.out c (by decide) (by decide) (by decide)) HMS).mono ?_
   rintro e y1 ⟨u,rfl,ou,b⟩
   have c:KeepBut go w1 y1:=c.trans (qAc b)
   obtain⟨BD,MY,OU⟩:=cy3 (BD.out.later b) ((MR.out.below ((Below.refl _ _).drew)).below b) (ou.p)
   refine hK.out _ _ (⟨BD.out,c⟩) (fun Ah=>?_)
   clear hK K
   try simp only[Act.put,Aa,Ab,Ac,Ad,Ae,Af]
   clear b ou
   refine wpAnyH_ready (rs:=[8]) (by kernel_rfl) (by simp) ?_
   refine AllReadyH.cons (i:=8) rfl (fun K hK=>?_) AllReadyH.nil
   rw[if_pos (by rfl)]
   simp only[Aa,Ab,Ac]
   go_simp
   have b:=bA y1 (.cells (mC m u).toArray 32)
   have SX:Hid (SlN (y1.alloc (.cells (mC m u).toArray 32)) 32 16 0 (.slice (some ⟨y1.heap.size,0,none⟩) 1 1) [[.int .i64 m.id,.int .i64 m.rid,.slice u.ms.a u.ms.n u.ms.c,.slice u.its.a u.its.n u.its.c,.slice u.lv.a u.lv.n u.lv.c,.slice u.tx.a u.tx.n u.tx.c,.int .i64 m.rd,.int .i64 m.se,.int .i64 m.li,.int .i64 m.he,.int .i64 m.la.c,.int .i64 m.la.r,.int .i64 m.la.q,.int .i64 m.la.a,.int .i64 m.la.b,.slice u.ws.a u.ws.n u.ws.c]]):=SlN.one y1 32 16 0 _ rfl rfl (Nat.zero_le _)
   have c:KeepBut go w1 (y1.alloc (.cells (mC m u).toArray 32)):=c.trans (qAc b)
   obtain⟨BD,MY,OU⟩:=cy3 (BD.out.later b) (MY.out.below b) (OU.out.later b)
   refine hK.out _ _ (⟨BD.out,c⟩) (fun Ah=>?_)
   clear hK K
   try simp only[Act.put,Aa,Ab,Ac,Ad,Ae,Af]
   clear b
   refine wpAnyH_ready (rs:=[9]) (by kernel_rfl) (by simp) ?_
   refine AllReadyH.cons (i:=9) rfl (fun K hK=>?_) AllReadyH.nil
   rw[if_pos (by rfl)]
   simp only[Aa,Ab,Ac]
   refine qCc _ _ 52 rfl _ 208 Tryz.underlying52 Tryz.infoMt rfl (by decide) w1.heap.size (.slice mz.a mz.n mz.c) (ma.map mcel) (by rfl) MY.out.1 0 _ [(mC m u)] (by rfl) SX.out hml c.size ?_
   intro v2 y2 s2 g2 b2 _
   obtain⟨nz,hnz,_⟩:=s2.form
   subst hnz
   have KT:KeepTy (fun X=>X=32) (y1.alloc (.cells (mC m u).toArray 32)) y2:=KeepTy.ofPush MY.out.1 g2 rfl
   have MY:Hid (MsP y2 w1.heap.size nz.v (ma++[(m,u)])):=⟨by rw[List.map_append];exact s2,fun e he=>by
    rcases List.mem_append.1 he with he|he
    ·exact(MY.out.2 e he).kt KT (by decide) (by decide) (by decide)
    ·simp at he;subst he;exact OU.out.kt KT (by decide) (by decide) (by decide)⟩
   have BD:=Ag (BD.out.kt KT (by decide))
   have c:=qDx c b2
   refine hK.out _ _ (⟨BD.out,c⟩) (fun Ah=>?_)
   clear hK K
   try simp only[Act.put,Aa,Ab,Ac,Ad,Ae,Af]
   clear s2 g2 b2 KT SX OU
   refine tkQ 10 rfl (by kernel_rfl) (by rfl) (fun _ _=>by simp only[Aa,Ab,Ac];go_simp;try with_reducible rfl) Ah ?_ fun _ _ _ h=>h
   try simp only[Act.put,Aa,Ab,Ac,Ad,Ae,Af]
   refine tkQ 11 rfl (by kernel_rfl) (by rfl) (fun _ _=>by simp only[Aa,Ab,Ac];go_simp;try with_reducible rfl) Ah ?_ fun _ _ _ h=>h
   try simp only[Act.put,Aa,Ab,Ac,Ad,Ae,Af]
   refine wpAnyH_done (by kernel_rfl) ?_ _
   refine qBj rfl rfl ?_
   refine qCy 52 _ _ rfl go 2 rfl 56 _ BD.out (.slice nz.a nz.n nz.c) rfl (by simp) rfl Tryz.sizeMts [.int .i64 k.rid,.slice ur.a ur.n ur.c,.slice nz.a nz.n nz.c,.slice none 0 0,.slice none 0 0,.slice us.a us.n us.c] rfl ?_
   intro w9 k9 t9
   obtain⟨G9,M9⟩:=cy2 k9 (MY.out.kt (KeepTy.ofTurn (S:=fun X=>X=56) BD.out t9 rfl) (by decide) (by decide) (by decide) (by decide))
   have E9:Hid ((ma++[(m,u)]).map (·.1)=(k.ma.take (j+1)).map (·.1)):=(by rw[List.map_append,EM.out,List.take_succ_eq_append_getElem hjm,List.map_append,HM.out];rfl:_=_)
   have K9:Hid (KeepBut go w1 w9):=c.trans t9.keep
   clear k9 t9 c BD MY Ah
   go_wp2_with fail
   go_roundw
   case rel=>exact⟨j+1,nz,_,by omega,by go_num,G9,M9,E9,K9⟩
   case measure=>simp[intOf];omega
  ·have hjn:j=k.ma.length:=by have:=HMN.out;omega
   have EM2:Hid (ma.map (·.1)=k.ma.map (·.1)):=(by have e:=EM.out;rw[hjn,List.take_length]at e;exact e:_=_)
   obtain⟨KR2,P2,IU2,SU2⟩:=cy4 (KR1.out.keepb KB.out (by omega)) (P1.out.keepb BO.out KB.out) (IU.out.keepb BO.out KB.out (by decide)) (SlI.keepb SU.out BO.out KB.out (by decide))
   have MS2:Hid (MsP wr W.heap.size mz.v ma):=MR.out.down z1
   have B2:=Ag (B1.out.trans (KB.out.below (by omega) B1.out.size))
   have HFN:Hid (k.flv.n=k.fl.length):=P2.out.fl.len
   have hfn:k.flv.n≤1000000:=by have h1:=HFN.out;have h2:=hs.out.fl;omega
   have hd: ¬j<k.mav.n:=hlt
   clear hjn EM KB KA1 KR1 P1 IU SU BO MR B1 zr
   go_wp2_with fail
   clear ka2
   generalize wr=w2 at *
   have zg2:=BR.out.lt
   go_loopw [5] (fun v5 wr=>∃(j:Nat) (fz:Sv) (fl:List (Fl × Sv)),j≤k.flv.n∧v5=.int .i64 (j:Int)∧Hid (Bx wr go 56 [.int .i64 k.rid,.slice ur.a ur.n ur.c,.slice mz.a mz.n mz.c,.slice fz.a fz.n fz.c,.slice none 0 0,.slice us.a us.n us.c])∧Hid (FsP wr w2.heap.size fz.v fl)∧Hid (fl.map (·.1)=(k.fl.take j).map (·.1))∧Hid (KeepBut go w2 wr)) (fun v5 _=>k.flv.n - (intOf v5).toNat)
   case atStart=>exact⟨0,zSv,[],Nat.zero_le _,rfl,BR,⟨SlN.nil _ _ _ _,fun e he=>by cases he⟩,rfl,qAc (Below.refl _ _)⟩
   case round=>
    obtain⟨j5,fz,fl,hj5,rfl,BF,FR,EF,KB⟩:=hrel
    have zr:w2.heap.size≤wr.heap.size:=KB.out.size
    have KAq:=Ag (KAr.out.keepb KB.out (by omega))
    have ka3:=KAq.out.cell 3
    by_cases hlf:j5<k.flv.n
    ·have hjf:j5<k.fl.length:=by have:=HFN.out;omega
     obtain⟨hq1,gf,off,ha,hq2,hgl,hr⟩:=P2.out.fl.row hjf
     clear hq1 hq2
     have hgf:gf≠go:=P2.out.fl.1.box_ne BR.out (by decide) gf (by simp[Sv.v,Value.ownBlock,ha])
     obtain⟨⟨f,fsv⟩,hm⟩: ∃e,k.fl[j5]=e:=⟨_,rfl⟩
     have HM:Hid (k.fl[j5]=(f,fsv)):=hm
     have HR:Hid (wr.rangeAt gf (off+j5 * 12) [.int .i64 f.to,.bool f.tk,.int .i64 f.t.c,.int .i64 f.t.r,.int .i64 f.t.q,.int .i64 f.t.a,.int .i64 f.t.b,.slice fsv.a fsv.n fsv.c,.int .i64 f.x.1,.int .i64 f.x.2.1,.int .i64 f.x.2.2.1,.string f.x.2.2.2]):=(by rw[hm]at hr;exact qEu hr hgl KB.out hgf:World.rangeAt _ _ _ _)
     have HW:Hid (OwnI wr 0 fsv.v f.t.ws):=(by have:=P2.out.fl.2 k.fl[j5] (List.getElem_mem hjf);rw[hm]at this;exact this.keepb BR.out KB.out (by decide):OwnI _ _ _ _)
     have hws:f.t.ws.length≤1048576:=by have:=hs.out.fls k.fl[j5] (List.getElem_mem hjf);rw[hm]at this;exact this
     have KAa:Hid (Bx wr w.heap.size 56 [.int .i64 k.rid,.slice k.mv.a k.mv.n k.mv.c,.slice k.mav.a k.mav.n k.mav.c,.slice (some ⟨gf,off,none⟩) k.flv.n k.flv.c,.slice k.hev.a k.hev.n k.hev.c,.slice k.sav.a k.sav.n k.sav.c]):=(by have e:=KAq.out;rw[ha]at e;exact e:Bx _ _ _ _)
     have ka3a:=KAa.out.cell 3
     have hfl2:(fl.map fcel).length≤1048576:=by have e:=congrArg List.length EF.out;simp only[List.length_map,List.length_take]at e⊢;have:=hs.out.fl;omega
     have i0:(0:Int)≤(j5:Int):=by omega
     have i1:(j5:Int)<(k.flv.n:Int):=by omega
     have hfne: ∀q,fz.v.ownBlock=some q→q<wr.heap.size:=fun q hq=>(FR.out.1.lt q hq).2
     have HFne:Hid (∀q,fz.v.ownBlock=some q→q<wr.heap.size):=hfne
     have hz:=Ag (Bx.new wr 68 [.int .i64 0,.bool false,.int .i64 0,.int .i64 0,.int .i64 0,.int .i64 0,.int .i64 0,.slice none 0 0,.int .i64 0,.int .i64 0,.int .i64 0,.string ⟨#[]⟩])
     clear hr ha hm ka3 hfne
     go_wp2_with (first|(refine qBt rfl 68 _ rfl gf (off+j5 * 12) rfl [.int .i64 f.to,.bool f.tk,.int .i64 f.t.c,.int .i64 f.t.r,.int .i64 f.t.q,.int .i64 f.t.a,.int .i64 f.t.b,.slice fsv.a fsv.n fsv.c,.int .i64 f.x.1,.int .i64 f.x.2.1,.int .i64 f.x.2.2.1,.string f.x.2.2.2] HR.out _ Tryz.underlying68 rfl Tryz.sizeFl ?_)|(refine qAd rfl 68 _ _ rfl wr.heap.size rfl 68 _ hz.out [.int .i64 f.to,.bool f.tk,.int .i64 f.t.c,.int .i64 f.t.r,.int .i64 f.t.q,.int .i64 f.t.a,.int .i64 f.t.b,.slice fsv.a fsv.n fsv.c,.int .i64 f.x.1,.int .i64 f.x.2.1,.int .i64 f.x.2.2.1,.string f.x.2.2.2] rfl rfl Tryz.sizeFl rfl ?_;intro w3 OB TB;have b:Below wr.heap.size wr w3:=((Below.refl _ _).alloc (Nat.le_refl _) _).trans (TB.below (Nat.le_refl _));have FB:=Ag OB;clear OB TB;refine Stp.here ?_))
     refine Stp.go ?_
     obtain⟨BF,FR,HW,KB⟩:=cy4 (BF.out.later b) (FR.out.below b) (ownL HW.out b) (KB.out.trans (qAc b))
     have zgx:=FB.out.lt
     clear b hz HR KAq KAa ka3a
     generalize wr.heap.size=gx at *
     go_wp2_with (first|(refine qAb rfl 30 _ rfl gx 2 rfl 68 _ FB.out (tX f.t.c f.t.r f.t.q f.t.a f.t.b fsv) rfl _ Tryz.underlying30 rfl Tryz.sizeT ?_))
     refine(qDz f.t.c f.t.r f.t.q f.t.a f.t.b fsv f.t.ws _ HW hws).mono ?_
     rintro e w4 ⟨y,rfl,oy,b4⟩
     obtain⟨FB,BF,FR,YW,KB⟩:=cy5 (FB.out.later b4) (BF.out.later b4) (FR.out.below b4) (oy.down (Nat.zero_le _)) (KB.out.trans (qAc b4))
     clear b4 oy HW
     go_wp2_with (first|(refine qCk rfl 30 _ _ rfl gx 2 rfl 68 _ FB.out (tX f.t.c f.t.r f.t.q f.t.a f.t.b y) rfl (by simp) Tryz.sizeT rfl [.int .i64 f.to,.bool f.tk,.int .i64 f.t.c,.int .i64 f.t.r,.int .i64 f.t.q,.int .i64 f.t.a,.int .i64 f.t.b,.slice y.a y.n y.c,.int .i64 f.x.1,.int .i64 f.x.2.1,.int .i64 f.x.2.2.1,.string f.x.2.2.2] rfl ?_;intro w5 OB TB;refine Stp.here ?_))
     refine Stp.go ?_
     obtain⟨FR,BF,YW,KB,FB⟩:=cy5 (FR.out.turn FB.out TB HFne.out) (BF.out.turn TB (by omega)) (YW.out.past FB.out TB (by decide)) (qKt KB.out TB (by omega)) OB
     clear OB TB
     have zz5:w2.heap.size≤w5.heap.size:=KB.out.size
     go_wp2_with (first|(refine qAb rfl 68 _ rfl gx 0 rfl 68 _ FB.out [.int .i64 f.to,.bool f.tk,.int .i64 f.t.c,.int .i64 f.t.r,.int .i64 f.t.q,.int .i64 f.t.a,.int .i64 f.t.b,.slice y.a y.n y.c,.int .i64 f.x.1,.int .i64 f.x.2.1,.int .i64 f.x.2.2.1,.string f.x.2.2.2] rfl _ Tryz.underlying68 rfl Tryz.sizeFl ?_)|(refine qAt rfl 53 _ rfl go 3 rfl 56 _ BF.out (.slice fz.a fz.n fz.c) rfl _ Tryz.underlying53 rfl ?_)|(at_builtin;refine qDf rfl _ _ 53 rfl _ 120 Tryz.underlying53 Tryz.infoFl rfl (by decide) w2.heap.size (.slice fz.a fz.n fz.c) (fl.map fcel) rfl FR.out.1 [.int .i64 f.to,.bool f.tk,.int .i64 f.t.c,.int .i64 f.t.r,.int .i64 f.t.q,.int .i64 f.t.a,.int .i64 f.t.b,.slice y.a y.n y.c,.int .i64 f.x.1,.int .i64 f.x.2.1,.int .i64 f.x.2.2.1,.string f.x.2.2.2] rfl rfl rfl hfl2 zz5 ?_;intro v2 w6 s2 g2 b2 _;refine Stp.here ?_))
     refine Stp.go ?_
     obtain⟨nz,hnz,_⟩:=s2.form
     subst hnz
     have KT:KeepTy (fun X=>X=68) w5 w6:=KeepTy.ofPush FR.out.1 g2 rfl
     have FR:Hid (FsP w6 w2.heap.size nz.v (fl++[(f,y)])):=⟨by rw[List.map_append];exact s2,fun e he=>by
      rcases List.mem_append.1 he with he|he
      ·exact(FR.out.2 e he).kt KT (by decide)
      ·simp at he;subst he;exact YW.out.kt KT (by decide)⟩
     obtain⟨BF,KB⟩:=cy2 (BF.out.kt KT (by decide)) (qDx KB.out b2)
     clear s2 g2 b2 KT YW FB
     go_wp2_with (first|(refine qAe rfl 53 _ _ rfl go 3 rfl 56 _ BF.out (.slice nz.a nz.n nz.c) rfl (by simp) rfl Tryz.sizeFls [.int .i64 k.rid,.slice ur.a ur.n ur.c,.slice mz.a mz.n mz.c,.slice nz.a nz.n nz.c,.slice none 0 0,.slice us.a us.n us.c] rfl ?_;intro w7 OB TB;refine Stp.here ?_))
     refine Stp.go ?_
     obtain⟨FR,KB,BF⟩:=cy3 (FR.out.keepb BF.out TB.keep) (KB.out.trans TB.keep) OB
     have E9:Hid ((fl++[(f,y)]).map (·.1)=(k.fl.take (j5+1)).map (·.1)):=(by rw[List.map_append,EF.out,List.take_succ_eq_append_getElem hjf,List.map_append,HM.out];rfl:_=_)
     clear OB TB
     go_wp2_with fail
     go_roundw
     case rel=>exact⟨j5+1,nz,_,by omega,by go_num,BF,FR,E9,KB⟩
     case measure=>simp[intOf];omega
    ·have hjn:j5=k.fl.length:=by have:=HFN.out;omega
     have EF2:Hid (fl.map (·.1)=k.fl.map (·.1)):=(by have e:=EF.out;rw[hjn,List.take_length]at e;exact e:_=_)
     obtain⟨KR3,P3,IU3,SU3,MS3,FS3,B3⟩:=cy7 (KR2.out.keepb KB.out (by omega)) (P2.out.keepb BR.out KB.out) (IU2.out.keepb BR.out KB.out (by decide)) (SlI.keepb SU2.out BR.out KB.out (by decide)) (MS2.out.keepb BR.out KB.out) (FR.out.down (Nat.zero_le _)) (B2.out.trans (KB.out.below (by omega) B2.out.size))
     have HHN:Hid (k.hev.n=k.he.length):=P3.out.he.len
     have hhn:k.hev.n≤10:=by have h1:=HHN.out;have h2:=hs.out.he;omega
     have hd5: ¬j5<k.flv.n:=hlf
     clear hjn EF KB KAr KR2 P2 IU2 SU2 MS2 BR FR B2 zr HFN
     go_wp2_with fail
     clear ka3
     generalize wr=w3 at *
     have zg3:=BF.out.lt
     have ka4:=KAq.out.cell 4
     go_loopw [7] (fun v7 wr=>∃(j:Nat) (hz:Sv) (he:List (List It × Sv)),j≤k.hev.n∧v7=.int .i64 (j:Int)∧Hid (Bx wr go 56 [.int .i64 k.rid,.slice ur.a ur.n ur.c,.slice mz.a mz.n mz.c,.slice fz.a fz.n fz.c,.slice hz.a hz.n hz.c,.slice us.a us.n us.c])∧Hid (HsP wr w3.heap.size hz.v he)∧Hid (he.map (·.1)=(k.he.take j).map (·.1))∧Hid (KeepBut go w3 wr)) (fun v7 _=>k.hev.n - (intOf v7).toNat)
     case atStart=>exact⟨0,zSv,[],Nat.zero_le _,rfl,BF,⟨SlN.nil _ _ _ _,fun e he=>by cases he⟩,rfl,qAc (Below.refl _ _)⟩
     case round=>
      obtain⟨j7,hz,he,hj7,rfl,BH,HRr,EH,KB⟩:=hrel
      have zr:w3.heap.size≤wr.heap.size:=KB.out.size
      have KAh:=Ag (KAq.out.keepb KB.out (by omega))
      have ka5:=KAh.out.cell 4
      by_cases hlh:j7<k.hev.n
      ·have hjh:j7<k.he.length:=by have:=HHN.out;omega
       obtain⟨hq1,gh,off,ha,hq2,hgl,hr⟩:=P3.out.he.row hjh
       clear hq1 hq2
       have hgh:gh≠go:=P3.out.he.1.box_ne BF.out (by decide) gh (by simp[Sv.v,Value.ownBlock,ha])
       obtain⟨⟨xs,xv⟩,hm⟩: ∃e,k.he[j7]=e:=⟨_,rfl⟩
       have HM:Hid (k.he[j7]=(xs,xv)):=hm
       have HR:Hid (w3.rangeAt gh (off+j7 * 1) [.slice xv.a xv.n xv.c]):=(by rw[hm]at hr;exact hr:World.rangeAt _ _ _ _)
       have HX:Hid (SlI w3 0 xv.v xs):=(by have:=P3.out.he.2 k.he[j7] (List.getElem_mem hjh);rw[hm]at this;exact this:SlI _ _ _ _)
       have hxl:xs.length≤1000000:=by have:=hs.out.hes k.he[j7] (List.getElem_mem hjh);rw[hm]at this;exact this
       have KAa:Hid (Bx w3 w.heap.size 56 [.int .i64 k.rid,.slice k.mv.a k.mv.n k.mv.c,.slice k.mav.a k.mav.n k.mav.c,.slice k.flv.a k.flv.n k.flv.c,.slice (some ⟨gh,off,none⟩) k.hev.n k.hev.c,.slice k.sav.a k.sav.n k.sav.c]):=(by have e:=KAq.out;rw[ha]at e;exact e:Bx _ _ _ _)
       have hhl2:(he.map hcel).length+1≤1048577:=by have e:=congrArg List.length EH.out;simp only[List.length_map,List.length_take]at e⊢;have:=hs.out.he;omega
       have i0:(0:Int)≤(j7:Int):=by omega
       have i1:(j7:Int)<(k.hev.n:Int):=by omega
       clear hr ha hm
       go_wp2_with fail
       have c:KeepBut go w3 wr.drew:=KB.out.trans (qAc ((Below.refl _ _).drew))
       obtain⟨BD,HD⟩:=cy2 (BH.out.later ((Below.refl _ _).drew)) (HRr.out.below ((Below.refl _ _).drew))
       refine qAj (S:=fun w'=>Bx w' go 56 [.int .i64 k.rid,.slice ur.a ur.n ur.c,.slice mz.a mz.n mz.c,.slice fz.a fz.n fz.c,.slice hz.a hz.n hz.c,.slice us.a us.n us.c]∧KeepBut go w3 w') _ (by simp) (by kernel_rfl) (by rfl) (by rfl) (by kernel_rfl) (by kernel_rfl) ⟨BD.out,c⟩ (fun Ah=>?_)
       simp only[List.dropLast_cons_cons,List.dropLast_singleton,List.getLast_cons_cons,List.getLast_singleton,List.cons_append,List.nil_append,List.length_cons,List.length_nil]
       refine tkQ 0 rfl (by kernel_rfl) (by rfl) (fun _ _=>by simp only[Aa,Ab,Ac];go_simp;try with_reducible rfl) Ah ?_ fun _ _ _ h=>h
       try simp only[Act.put,Aa,Ab,Ac,Ad,Ae,Af]
       refine tkH (i:=1) (v:=_) rfl (by kernel_rfl) (fun _ _ _ h=>h) (qAf (by rfl) 54 _ rfl go 4 rfl 56 _ (fun w hS=>hS.1) (.slice hz.a hz.n hz.c) rfl _ Tryz.underlying54 rfl) Ah ?_
       try simp only[Act.put,Aa,Ab,Ac,Ad,Ae,Af]
       refine tkQ 3 rfl (by kernel_rfl) (by rfl) (fun _ _=>by simp only[Aa,Ab,Ac];go_simp;try with_reducible rfl) Ah ?_ fun _ _ _ h=>h
       try simp only[Act.put,Aa,Ab,Ac,Ad,Ae,Af]
       refine tkH (i:=4) (v:=_) rfl (by kernel_rfl) (fun _ _ _ h=>h) (qAf (by rfl) 54 _ rfl w.heap.size 4 rfl 56 _ (fun w hS=>KAa.out.keepb hS.2 (by omega)) (.slice (some ⟨gh,off,none⟩) k.hev.n k.hev.c) rfl _ Tryz.underlying54 rfl) Ah ?_
       try simp only[Act.put,Aa,Ab,Ac,Ad,Ae,Af]
       refine tkQ 5 rfl (by kernel_rfl) (by rfl) (fun _ _=>by simp only[Aa,Ab,Ac];go_simp;try with_reducible rfl) Ah ?_ fun _ _ _ h=>h
       try simp only[Act.put,Aa,Ab,Ac,Ad,Ae,Af]
       refine tkQ 6 rfl (by kernel_rfl) (by rfl) (fun _ _=>by simp only[Aa,Ab,Ac];go_simp;try with_reducible rfl) Ah ?_ fun _ _ _ h=>h
       try simp only[Act.put,Aa,Ab,Ac,Ad,Ae,Af]
       refine tkH (i:=7) (v:=(.slice xv.a xv.n xv.c)) rfl (by kernel_rfl) (fun _ _ _ h=>h) (qDw (by rfl) 27 _ rfl gh (off+j7 * 1) (by first|rfl|(simp;done)|go_simp) (.slice xv.a xv.n xv.c) (fun w hS=>(qEu HR.out hgl hS.2 hgh 0 _ rfl)) _ Tryz.underlying27 rfl) Ah ?_
       try simp only[Act.put,Ad,Ae,Af]
       refine wpAnyH_ready (rs:=[2]) (by kernel_rfl) (by simp) ?_
       refine AllReadyH.cons (i:=2) rfl (fun K hK=>?_) AllReadyH.nil
       rw[if_pos (by rfl)]
       simp only[Aa,Ab,Ac]
       go_simp
       have b:=bA wr.drew (.cells #[] 41)
       have S0:Hid (SlI (wr.drew.alloc (.cells #[] 41)) w3.heap.size (.slice (some ⟨wr.heap.size,0,none⟩) 0 0) []):=SlI.made wr.drew w3.heap.size c.size
       have c:KeepBut go w3 (wr.drew.alloc (.cells #[] 41)):=c.trans (qAc b)
       obtain⟨BD,HD⟩:=cy2 (BD.out.later b) (HD.out.below b)
       refine hK.out _ _ (⟨BD.out,c⟩) (fun Ah=>?_)
       clear hK K
       try simp only[Act.put,Aa,Ab,Ac,Ad,Ae,Af]
       clear b
       refine wpAnyH_ready (rs:=[8]) (by kernel_rfl) (by simp) ?_
       refine AllReadyH.cons (i:=8) rfl (fun K hK=>?_) AllReadyH.nil
       rw[if_pos (by rfl)]
       simp only[Aa,Ab,Ac]
       refine qAz _ _ 27 rfl Tryz.underlying27 w3.heap.size (.slice (some ⟨wr.heap.size,0,none⟩) 0 0) [] (by rfl) S0.out (.slice xv.a xv.n xv.c) xs (by rfl) ((HX.out.keepb BF.out c (by decide)).rit) (by simp;omega) c.size ?_
       intro v3 y3 o3 g3 _
       obtain⟨xu,hu3⟩:=SlI.sv o3
       subst hu3
       rw[List.nil_append]at o3
       have KT:KeepTy (fun X=>X=41) (wr.drew.alloc (.cells #[] 41)) y3:=KeepTy.ofGrown g3 (fun j hj=>by obtain⟨cs,hc⟩:=qAp S0.out hj;exact⟨cs,_,_,hc,rfl⟩)
       have HN0: ∀q,(Value.slice (some ⟨wr.heap.size,0,none⟩) 0 0).ownBlock=some q→q=wr.heap.size:=fun q hq=>by simp[Value.ownBlock]at hq;exact hq.symm
       have HD:Hid (HsP y3 w3.heap.size hz.v he):=⟨HD.out.1.kt KT (by decide),fun e hee=>SlI.kept (HD.out.2 e hee) g3 (fun q hq e2=>by have h1:=HN0 q e2.symm;have h2:=(Sl.lt (HRr.out.2 e hee) q hq).2;omega)⟩
       have BD:=Ag (BD.out.kt KT (by decide))
       have c:KeepBut go w3 y3:=keep_grow c g3 (fun q hq=>by have:=HN0 q hq;omega)
       have OX:Hid (SlI y3 0 xu.v xs):=SlI.down o3 (Nat.zero_le _)
       refine hK.out _ _ (⟨BD.out,c⟩) (fun Ah=>?_)
       clear hK K
       try simp only[Act.put,Aa,Ab,Ac,Ad,Ae,Af]
       clear o3 g3 KT S0 HN0
       refine wpAnyH_ready (rs:=[9]) (by kernel_rfl) (by simp) ?_
       refine AllReadyH.cons (i:=9) rfl (fun K hK=>?_) AllReadyH.nil
       rw[if_pos (by rfl)]
       simp only[Aa,Ab,Ac]
       go_simp
       have b:=bA y3 (.cells #[.slice xu.a xu.n xu.c] 27)
       have SX:Hid (SlN (y3.alloc (.cells #[.slice xu.a xu.n xu.c] 27)) 27 1 0 (.slice (some ⟨y3.heap.size,0,none⟩) 1 1) [[.slice xu.a xu.n xu.c]]):=SlN.one y3 27 1 0 _ rfl rfl (Nat.zero_le _)
       have c:KeepBut go w3 (y3.alloc (.cells #[.slice xu.a xu.n xu.c] 27)):=c.trans (qAc b)
       obtain⟨BD,HD,OX⟩:=cy3 (BD.out.later b) (HD.out.below b) (OX.out.below b)
       refine hK.out _ _ (⟨BD.out,c⟩) (fun Ah=>?_)
       clear hK K
       try simp only[Act.put,Aa,Ab,Ac,Ad,Ae,Af]
       clear b
       refine wpAnyH_ready (rs:=[10]) (by kernel_rfl) (by simp) ?_
       refine AllReadyH.cons (i:=10) rfl (fun K hK=>?_) AllReadyH.nil
       rw[if_pos (by rfl)]
       simp only[Aa,Ab,Ac]
       refine qCc _ _ 54 rfl _ 24 Tryz.underlying54 Tryz.infoIt rfl (by decide) w3.heap.size (.slice hz.a hz.n hz.c) (he.map hcel) (by rfl) HD.out.1 0 _ [[.slice xu.a xu.n xu.c]] (by rfl) SX.out hhl2 c.size ?_
       intro v2 y2 s2 g2 b2 _
       obtain⟨nz,hnz,_⟩:=s2.form
       subst hnz
       have KT:KeepTy (fun X=>X=27) (y3.alloc (.cells #[.slice xu.a xu.n xu.c] 27)) y2:=KeepTy.ofPush HD.out.1 g2 rfl
       have HD:Hid (HsP y2 w3.heap.size nz.v (he++[(xs,xu)])):=⟨by rw[List.map_append];exact s2,fun e hee=>by
        rcases List.mem_append.1 hee with hee|hee
        ·exact(HD.out.2 e hee).kt KT (by decide)
        ·simp at hee;subst hee;exact OX.out.kt KT (by decide)⟩
       have BD:=Ag (BD.out.kt KT (by decide))
       have c:=qDx c b2
       refine hK.out _ _ (⟨BD.out,c⟩) (fun Ah=>?_)
       clear hK K
       try simp only[Act.put,Aa,Ab,Ac,Ad,Ae,Af]
       clear s2 g2 b2 KT SX OX
       refine tkQ 11 rfl (by kernel_rfl) (by rfl) (fun _ _=>by simp only[Aa,Ab,Ac];go_simp;try with_reducible rfl) Ah ?_ fun _ _ _ h=>h
       try simp only[Act.put,Aa,Ab,Ac,Ad,Ae,Af]
       refine tkQ 12 rfl (by kernel_rfl) (by rfl) (fun _ _=>by simp only[Aa,Ab,Ac];go_simp;try with_reducible rfl) Ah ?_ fun _ _ _ h=>h
       try simp only[Act.put,Aa,Ab,Ac,Ad,Ae,Af]
       refine wpAnyH_done (by kernel_rfl) ?_ _
       refine qBj rfl rfl ?_
       refine qCy 54 _ _ rfl go 4 rfl 56 _ BD.out (.slice nz.a nz.n nz.c) rfl (by simp) rfl Tryz.sizeIss [.int .i64 k.rid,.slice ur.a ur.n ur.c,.slice mz.a mz.n mz.c,.slice fz.a fz.n fz.c,.slice nz.a nz.n nz.c,.slice us.a us.n us.c] rfl ?_
       intro w9 k9 t9
       obtain⟨G9,M9⟩:=cy2 k9 (HD.out.keepb BD.out t9.keep)
       have E9:Hid ((he++[(xs,xu)]).map (·.1)=(k.he.take (j7+1)).map (·.1)):=(by rw[List.map_append,EH.out,List.take_succ_eq_append_getElem hjh,List.map_append,HM.out];rfl:_=_)
       have K9:Hid (KeepBut go w3 w9):=c.trans t9.keep
       clear k9 t9 c BD HD Ah
       go_wp2_with fail
       go_roundw
       case rel=>exact⟨j7+1,nz,_,by omega,by go_num,G9,M9,E9,K9⟩
       case measure=>simp[intOf];omega
      ·have hjn:j7=k.he.length:=by have:=HHN.out;omega
       have EH2:Hid (he.map (·.1)=k.he.map (·.1)):=(by have e:=EH.out;rw[hjn,List.take_length]at e;exact e:_=_)
       have hd7: ¬j7<k.hev.n:=hlh
       obtain⟨KR4,IU4⟩:=cy2 (KR3.out.keepb KB.out (by omega)) ((IU3.out.keepb BF.out KB.out (by decide)).down (Nat.zero_le _))
       have SU4:Hid (SlI wr 0 us.v k.sa):=SlI.down (SlI.keepb SU3.out BF.out KB.out (by decide)) (Nat.zero_le _)
       obtain⟨MS4,FS4,HS4,B4⟩:=cy4 ((MS3.out.keepb BF.out KB.out).down (Nat.zero_le _)) (FS3.out.keepb BF.out KB.out) (HRr.out.down (Nat.zero_le _)) (B3.out.trans (KB.out.below (by omega) B3.out.size))
       clear hjn EH KB KAq KAh KR3 P3 IU3 SU3 MS3 FS3 BF HRr B3 zr ka4
       go_wp2_with (first|(refine qAb rfl 56 _ rfl go 0 rfl 56 _ BH.out [.int .i64 k.rid,.slice ur.a ur.n ur.c,.slice mz.a mz.n mz.c,.slice fz.a fz.n fz.c,.slice hz.a hz.n hz.c,.slice us.a us.n us.c] rfl _ Tryz.underlying56 rfl Tryz.sizeWk ?_)|(refine qAd rfl 56 _ _ rfl (w.heap.size+1) rfl 56 _ KR4.out [.int .i64 k.rid,.slice ur.a ur.n ur.c,.slice mz.a mz.n mz.c,.slice fz.a fz.n fz.c,.slice hz.a hz.n hz.c,.slice us.a us.n us.c] rfl rfl Tryz.sizeWk rfl ?_;intro w9 OB TB;refine Stp.here ?_))
       refine Stp.go ?_
       go_wp2_with fail
       refine bodyPost_ret (qBd Tryz.results88 (w.heap.size+1) 56 [.int .i64 k.rid,.slice ur.a ur.n ur.c,.slice mz.a mz.n mz.c,.slice fz.a fz.n fz.c,.slice hz.a hz.n hz.c,.slice us.a us.n us.c] _ rfl OB Tryz.underlying56 rfl Tryz.sizeWk) rfl ?_
       refine⟨⟨k.rid,k.ms,ur,ma,mz,fl,fz,he,hz,k.sa,us⟩,rfl,⟨IU4.out.past KR4.out TB (by decide),MS4.out.keepb KR4.out TB.keep,FS4.out.keepb KR4.out TB.keep,HS4.out.keepb KR4.out TB.keep,SlI.past SU4.out KR4.out TB (by decide)⟩,?_,B4.out.trans (TB.below (by omega))⟩
       show Wp.mk _ _ _ _ _ _=Wp.mk _ _ _ _ _ _
       rw[EM2.out,EF2.out,EH2.out]
def NxPost(k:Wv)(w0:World)(B g n cap:Nat)(ao:Option Addr)(w:World)(e:Ending)(w':World):Prop:=
 ∃(kd d at0 l:Int) (x:ByteArray),e=.returned (.agg #[.int .i64 kd,.int .i64 d,.int .i64 at0,.int .i64 l,.string x])∧(1≤kd∧kd≤7)∧d∈k.ms∧0≤at0∧uttB kd l x=true∧x.size≤13∧Hid (Drw w0 w' B g ao n cap)∧KeepBut g w w'
theorem utt_nil{k:Int}(h: ¬k=1):uttB k 0 ⟨#[]⟩=true:=by
 unfold uttB
 rw[if_neg h,show(ByteArray.toList ⟨#[]⟩).isEmpty=true by unfold ByteArray.toList;unfold ByteArray.toList.loop;rfl]
 rfl
theorem Tryz.sizeTn:(Tryz.prog.info? 64).map (·.size)=some 5:=by kernel_rfl
theorem elNext_any(w0 w:World)(B g n cap gw:Nat)(ao:Option Addr)(k:Wv)(hn:n≤1048576)(hB:B≤g)(hd:Hid (Drw w0 w B g ao n cap))(h:Hid (WkB w gw k))(hk:Hid (WkP w k))(h0:0<k.ms.length)(h5:k.ms.length≤5)(hfl:k.fl.length≤1000000):
  Calls Tryz.prog 146 #[.pointer (some ⟨g,0,none⟩),.pointer (some ⟨gw,0,none⟩)] w (NxPost k w0 B g n cap ao w):=by
 have zg:=hd.out.lt
 have zgw:gw<w.heap.size:=Bx.lt h.out
 have hne:gw≠g:=hd.out.ne h.out (by decide)
 have b0:=bA w (.cells #[.int .i64 0,.int .i64 0,.int .i64 0,.int .i64 0,.string ⟨#[]⟩] 64)
 obtain⟨RB,WB0,P0⟩:=cy3 (Bx.new w 64 [.int .i64 0,.int .i64 0,.int .i64 0,.int .i64 0,.string ⟨#[]⟩]) (h.out.later b0) (hk.out.below b0)
 have D0:Hid (Drw w (w.alloc (.cells #[.int .i64 0,.int .i64 0,.int .i64 0,.int .i64 0,.string ⟨#[]⟩] 64)) B g ao n cap):=(hd.out.here).out.alloc hB _
 obtain⟨mb,mo,ha,hmn,hat⟩:=ownI_atC P0.out.ring h0
 have WB:Hid (Bx (w.alloc (.cells #[.int .i64 0,.int .i64 0,.int .i64 0,.int .i64 0,.string ⟨#[]⟩] 64)) gw 56 [.int .i64 k.rid,.slice (some ⟨mb,mo,none⟩) k.mv.n k.mv.c,.slice k.mav.a k.mav.n k.mav.c,.slice k.flv.a k.flv.n k.flv.c,.slice k.hev.a k.hev.n k.hev.c,.slice k.sav.a k.sav.n k.sav.c]):=(by have e:=WB0.out;unfold WkB at e;rw[ha]at e;exact e:Bx _ _ _ _)
 have hmb:mb≠g:=by
  obtain⟨cs,hcs⟩:=cur_bx D0.out.1
  intro e
  exact qCn P0.out.ring hcs (by decide) (by rw[e]at ha;simp[Sv.v,Value.ownBlock,ha])
 have hmb0:=(hat 0 h0).1
 have HAT:Hid (∀(j:Nat) (hj:j<k.ms.length),(w.alloc (.cells #[.int .i64 0,.int .i64 0,.int .i64 0,.int .i64 0,.string ⟨#[]⟩] 64)).cell? ⟨mb,mo+j,none⟩=some (.int .i64 k.ms[j])):=fun j hj=>(hat j hj).2
 have HMN:Hid (k.mv.n=k.ms.length):=hmn
 have hm0:0<k.mv.n:=by omega
 have hm5:k.mv.n≤5:=by omega
 have HDD:Hid (Drw w0 w B g ao n cap):=hd
 clear hat ha hmn b0 hd h hk WB0
 go_enter Tryz.func146,Tryz.ntmps146
 go_wp2_with fail
 have zW:w.heap.size<(w.alloc (.cells #[.int .i64 0,.int .i64 0,.int .i64 0,.int .i64 0,.string ⟨#[]⟩] 64)).heap.size:=RB.out.lt
 generalize (w.alloc (.cells #[.int .i64 0,.int .i64 0,.int .i64 0,.int .i64 0,.string ⟨#[]⟩] 64))=W at *
 go_cut [5] (fun a5 wx=>∃(gx:Nat) (kd d at0:Int),a5=.pointer (some ⟨gx,0,none⟩)∧(1≤kd∧kd≤7)∧d∈k.ms∧0≤at0∧Bx wx gx 64 [.int .i64 kd,.int .i64 d,.int .i64 at0,.int .i64 0,.string ⟨#[]⟩]∧Drw W wx B g ao n cap∧W.heap.size≤gx)
 case first=>
  have zWg:g<W.heap.size:=by omega
  have D:Hid (Drw W W.drew B g ao n cap):=(D0.out.here).out.drew
  refine wp_region_held_drew (S:=fun w'=>KeepBut g W w') (by kernel_rfl) D.out.2.2 (fun Ah=>?_)
  refine tkQ 0 rfl (by kernel_rfl) (by rfl) (fun _ _=>by simp only[Aa,Ab,Ac];go_simp;try with_reducible rfl) Ah ?_ fun _ _ _ h=>h
  try simp only[Act.put,Aa,Ab,Ac,Ad,Ae,Af]
  refine tkQ 3 rfl (by kernel_rfl) (by rfl) (fun _ _=>by simp only[Aa,Ab,Ac];go_simp;try with_reducible rfl) Ah ?_ fun _ _ _ h=>h
  try simp only[Act.put,Aa,Ab,Ac,Ad,Ae,Af]
  refine tkQ 4 rfl (by kernel_rfl) (by rfl) (fun _ _=>by simp only[Aa,Ab,Ac];go_simp;try with_reducible rfl) Ah ?_ fun _ _ _ h=>h
  try simp only[Act.put,Aa,Ab,Ac,Ad,Ae,Af]
  refine tkQ 5 rfl (by kernel_rfl) (by rfl) (fun _ _=>by simp only[Aa,Ab,Ac];go_simp;try with_reducible rfl) Ah ?_ fun _ _ _ h=>h
  try simp only[Act.put,Aa,Ab,Ac,Ad,Ae,Af]
  refine tkQ 6 rfl (by kernel_rfl) (by rfl) (fun _ _=>by simp only[Aa,Ab,Ac];go_simp;try with_reducible rfl) Ah ?_ fun _ _ _ h=>h
  try simp only[Act.put,Aa,Ab,Ac,Ad,Ae,Af]
  refine tkH (i:=7) (v:=_) rfl (by kernel_rfl) (fun _ _ _ h=>h) (qAf (by rfl) 24 _ rfl gw 1 rfl 56 _ (fun w hS=>WB.out.keepb hS hne) (.slice (some ⟨mb,mo,none⟩) k.mv.n k.mv.c) rfl _ Tryz.underlying24 rfl) Ah ?_
  try simp only[Act.put,Aa,Ab,Ac,Ad,Ae,Af]
  refine tkQ 8 rfl (by kernel_rfl) (by rfl) (fun _ _=>by simp only[Aa,Ab,Ac];go_simp;try with_reducible rfl) Ah ?_ fun _ _ _ h=>h
  try simp only[Act.put,Aa,Ab,Ac,Ad,Ae,Af]
  refine tkQ 9 rfl (by kernel_rfl) (by rfl) (fun _ _=>by simp only[Aa,Ab,Ac];go_simp;try with_reducible rfl) Ah ?_ fun _ _ _ h=>h
  try simp only[Act.put,Aa,Ab,Ac,Ad,Ae,Af]
  refine tkQ 10 rfl (by kernel_rfl) (by rfl) (fun _ _=>by simp only[Aa,Ab,Ac];go_simp;try with_reducible rfl) Ah ?_ fun _ _ _ h=>h
  try simp only[Act.put,Aa,Ab,Ac,Ad,Ae,Af]
  refine tkQ 11 rfl (by kernel_rfl) (by rfl) (fun _ _=>by simp only[Aa,Ab,Ac];go_simp;try with_reducible rfl) Ah ?_ fun _ _ _ h=>h
  try simp only[Act.put,Aa,Ab,Ac,Ad,Ae,Af]
  refine tkQ 12 rfl (by kernel_rfl) (by rfl) (fun _ _=>by simp only[Aa,Ab,Ac];go_simp;try with_reducible rfl) Ah ?_ fun _ _ _ h=>h
  try simp only[Act.put,Aa,Ab,Ac,Ad,Ae,Af]
  refine tkH (i:=13) (v:=_) rfl (by kernel_rfl) (fun _ _ _ h=>h) (qAf (by rfl) 24 _ rfl gw 1 rfl 56 _ (fun w hS=>WB.out.keepb hS hne) (.slice (some ⟨mb,mo,none⟩) k.mv.n k.mv.c) rfl _ Tryz.underlying24 rfl) Ah ?_
  try simp only[Act.put,Aa,Ab,Ac,Ad,Ae,Af]
  refine tkQ 14 rfl (by kernel_rfl) (by rfl) (fun _ _=>by simp only[Aa,Ab,Ac];go_simp;try with_reducible rfl) Ah ?_ fun _ _ _ h=>h
  try simp only[Act.put,Aa,Ab,Ac,Ad,Ae,Af]
  refine tkQ 18 rfl (by kernel_rfl) (by rfl) (fun _ _=>by simp only[Aa,Ab,Ac];go_simp;try with_reducible rfl) Ah ?_ fun _ _ _ h=>h
  try simp only[Act.put,Aa,Ab,Ac,Ad,Ae,Af]
  refine wpAnyH_ready (rs:=[1,21]) (by kernel_rfl) (by simp) ?_
  refine(AllReadyH.cons (i:=1) rfl (fun K hK=>?_) (AllReadyH.cons (i:=21) rfl (fun K hK=>?_) AllReadyH.nil))
  ·skip
   rw[if_pos (by rfl)]
   simp only[Aa,Ab,Ac]
   go_simp
   have b:=bA W.drew (.cells #[.int .i64 1,.int .i64 1,.int .i64 1,.int .i64 2,.int .i64 2,.int .i64 2,.int .i64 2,.int .i64 2,.int .i64 2,.int .i64 3,.int .i64 3,.int .i64 4,.int .i64 5,.int .i64 6,.int .i64 7,.int .i64 7] 3)
   have R0:Hid (RowZ (fun z=>1≤z∧z≤7) (W.drew.alloc (.cells #[.int .i64 1,.int .i64 1,.int .i64 1,.int .i64 2,.int .i64 2,.int .i64 2,.int .i64 2,.int .i64 2,.int .i64 2,.int .i64 3,.int .i64 3,.int .i64 4,.int .i64 5,.int .i64 6,.int .i64 7,.int .i64 7] 3)) W.heap.size 16):=by have h:=rowZ_new (fun z=>1≤z∧z≤7) W.drew [1,1,1,2,2,2,2,2,2,3,3,4,5,6,7,7] 16 rfl (by decide);rw[show W.drew.heap.size=W.heap.size by simp]at h;exact h
   have hl0:W.heap.size<(W.drew.alloc (.cells #[.int .i64 1,.int .i64 1,.int .i64 1,.int .i64 2,.int .i64 2,.int .i64 2,.int .i64 2,.int .i64 2,.int .i64 2,.int .i64 3,.int .i64 3,.int .i64 4,.int .i64 5,.int .i64 6,.int .i64 7,.int .i64 7] 3)).heap.size:=by simp
   have hlg:W.heap.size≠g:=by have h:=D.out.2.2.size;rw[show W.drew.heap.size=W.heap.size by simp]at h;omega
   have D:Hid (Drw W (W.drew.alloc (.cells #[.int .i64 1,.int .i64 1,.int .i64 1,.int .i64 2,.int .i64 2,.int .i64 2,.int .i64 2,.int .i64 2,.int .i64 2,.int .i64 3,.int .i64 3,.int .i64 4,.int .i64 5,.int .i64 6,.int .i64 7,.int .i64 7] 3)) B g ao n cap):=D.out.alloc hB _
   refine hK.out _ _ (D.out.2.2) (fun Ah=>?_)
   clear hK K
   try simp only[Act.put,Aa,Ab,Ac,Ad,Ae,Af]
   clear b
   refine wpAnyH_ready (rs:=[2,21]) (by kernel_rfl) (by simp) ?_
   refine(AllReadyH.cons (i:=2) rfl (fun K hK=>?_) (AllReadyH.cons (i:=21) rfl (fun K hK=>?_) AllReadyH.nil))
   ·skip
    rw[if_pos (by rfl)]
    simp only[Aa,Ab,Ac]
    go_simp
    have DH:=D.out.here
    have hl1:W.heap.size<(W.drew.alloc (.cells #[.int .i64 1,.int .i64 1,.int .i64 1,.int .i64 2,.int .i64 2,.int .i64 2,.int .i64 2,.int .i64 2,.int .i64 2,.int .i64 3,.int .i64 3,.int .i64 4,.int .i64 5,.int .i64 6,.int .i64 7,.int .i64 7] 3)).heap.size:=by have h:=hl0;simp at h⊢;try omega
    refine(qHm (fun z=>1≤z∧z≤7) (W.drew.alloc (.cells #[.int .i64 1,.int .i64 1,.int .i64 1,.int .i64 2,.int .i64 2,.int .i64 2,.int .i64 2,.int .i64 2,.int .i64 2,.int .i64 3,.int .i64 3,.int .i64 4,.int .i64 5,.int .i64 6,.int .i64 7,.int .i64 7] 3)) _ B g n cap W.heap.size 16 ao hn hB (by omega) (by omega) hl1 hlg R0 DH).mono ?_
    rintro e y1 ⟨⟨kd,hkd,rfl⟩,DX⟩
    have D:=D.out.back DX.out
    refine hK.out _ _ (D.out.2.2) (fun Ah=>?_)
    clear hK K
    try simp only[Act.put,Aa,Ab,Ac,Ad,Ae,Af]
    clear DX DH
    clear R0 hl0 hl1 hlg
    refine wpAnyH_ready (rs:=[15,21]) (by kernel_rfl) (by simp) ?_
    refine(AllReadyH.cons (i:=15) rfl (fun K hK=>?_) (AllReadyH.cons (i:=21) rfl (fun K hK=>?_) AllReadyH.nil))
    ·skip
     rw[if_pos (by rfl)]
     simp only[Aa,Ab,Ac]
     go_simp
     have DH:=D.out.here
     refine(qAw y1 _ B g n cap k.mv.n ao hn hB hm0 (by omega) DH).mono ?_
     rintro e y2 ⟨⟨x,hx,rfl⟩,DX⟩
     have i0:(0:Int)≤(x:Int):=by omega
     have i1:(x:Int)<(k.mv.n:Int):=by omega
     have hxl:x<k.ms.length:=by have:=HMN.out;omega
     obtain⟨d,hdx⟩: ∃d,k.ms[x]=d:=⟨_,rfl⟩
     have hdm:d∈k.ms:=hdx ▸ List.getElem_mem hxl
     have HCX:Hid (W.cell? ⟨mb,mo+x,none⟩=some (.int .i64 d)):=(by rw[←hdx];exact HAT.out x hxl:_=_)
     clear hdx
     have D:=D.out.back DX.out
     refine hK.out _ _ (D.out.2.2) (fun Ah=>?_)
     clear hK K
     try simp only[Act.put,Aa,Ab,Ac,Ad,Ae,Af]
     clear DX DH
     refine tkQ 16 rfl (by kernel_rfl) (by rfl) (fun _ _=>by simp only[Aa,Ab,Ac];go_simp;try with_reducible rfl) Ah ?_ fun _ _ _ h=>h
     try simp only[Act.put,Aa,Ab,Ac,Ad,Ae,Af]
     refine tkH (i:=17) (v:=.int .i64 d) rfl (by kernel_rfl) (fun _ _ _ h=>h) (qDw (by rfl) 3 _ rfl mb (mo+x) (by first|rfl|(simp;done)|go_simp) (.int .i64 d) (fun w hS=>qFy HCX.out hmb0 hS hmb) _ Tryz.underlying3 rfl) Ah ?_
     try simp only[Act.put,Ad,Ae,Af]
     refine wpAnyH_ready (rs:=[19,21]) (by kernel_rfl) (by simp) ?_
     refine(AllReadyH.cons (i:=19) rfl (fun K hK=>?_) (AllReadyH.cons (i:=21) rfl (fun K hK=>?_) AllReadyH.nil))
     ·skip
      rw[if_pos (by rfl)]
      simp only[Aa,Ab,Ac]
      go_simp
      have DH:=D.out.here
      refine(qAw y2 _ B g n cap 30 ao hn hB (by omega) (by omega) DH).mono ?_
      rintro e y3 ⟨⟨a0,ha0,rfl⟩,DX⟩
      have D:=D.out.back DX.out
      refine hK.out _ _ (D.out.2.2) (fun Ah=>?_)
      clear hK K
      try simp only[Act.put,Aa,Ab,Ac,Ad,Ae,Af]
      clear DX DH
      refine tkQ 20 rfl (by kernel_rfl) (by rfl) (fun _ _=>by simp only[Aa,Ab,Ac];go_simp;try with_reducible rfl) Ah ?_ fun _ _ _ h=>h
      try simp only[Act.put,Aa,Ab,Ac,Ad,Ae,Af]
      refine wpAnyH_ready (rs:=[21]) (by kernel_rfl) (by simp) ?_
      refine AllReadyH.cons (i:=21) rfl (fun K hK=>?_) AllReadyH.nil
      rw[if_pos (by rfl)]
      simp only[Aa,Ab,Ac]
      go_simp
      have b:=bA y3 (.cells #[.int .i64 0,.int .i64 0,.int .i64 0,.int .i64 0,.string ⟨#[]⟩] 64)
      have BO:=Ag (bxAt y3 64 [.int .i64 0,.int .i64 0,.int .i64 0,.int .i64 0,.string ⟨#[]⟩] y3.heap.size (by simp))
      have zo:W.heap.size≤y3.heap.size:=by have h:=D.out.2.2.size;rw[show y3.heap.size=y3.heap.size by simp]at h;exact h
      have D:Hid (Drw W (y3.alloc (.cells #[.int .i64 0,.int .i64 0,.int .i64 0,.int .i64 0,.string ⟨#[]⟩] 64)) B g ao n cap):=D.out.alloc hB _
      refine hK.out _ _ (D.out.2.2) (fun Ah=>?_)
      clear hK K
      try simp only[Act.put,Aa,Ab,Ac,Ad,Ae,Af]
      clear b
      refine wpAnyH_ready (rs:=[22]) (by kernel_rfl) (by simp) ?_
      refine AllReadyH.cons (i:=22) rfl (fun K hK=>?_) AllReadyH.nil
      rw[if_pos (by rfl)]
      simp only[Aa,Ab,Ac]
      refine qAm 64 _ _ rfl y3.heap.size (by rfl) 64 _ BO.out [.int .i64 kd,.int .i64 d,.int .i64 (a0:Int),.int .i64 0,.string ⟨#[]⟩] (by rfl) rfl Tryz.sizeTn rfl ?_
      intro x1 kb kt
      have D:=D.out.other (by omega) kt zo (by omega)
      have BO:=Ag kb
      refine hK.out _ _ (D.out.2.2) (fun Ah=>?_)
      clear hK K
      try simp only[Act.put,Aa,Ab,Ac,Ad,Ae,Af]
      clear kb kt
      refine wpAnyH_done (by kernel_rfl) ?_ _
      try go_wp2_with fail
      go_meet
      exact⟨y3.heap.size,kd,d,(a0:Int),rfl,hkd,hdm,by omega,BO.out,D.out,zo⟩
     ·skip
      rw[if_pos (by rfl)]
      simp only[Aa,Ab,Ac]
      go_simp
      have b:=bA y2 (.cells #[.int .i64 0,.int .i64 0,.int .i64 0,.int .i64 0,.string ⟨#[]⟩] 64)
      have BO:=Ag (bxAt y2 64 [.int .i64 0,.int .i64 0,.int .i64 0,.int .i64 0,.string ⟨#[]⟩] y2.heap.size (by simp))
      have zo:W.heap.size≤y2.heap.size:=by have h:=D.out.2.2.size;rw[show y2.heap.size=y2.heap.size by simp]at h;exact h
      have D:Hid (Drw W (y2.alloc (.cells #[.int .i64 0,.int .i64 0,.int .i64 0,.int .i64 0,.string ⟨#[]⟩] 64)) B g ao n cap):=D.out.alloc hB _
      refine hK.out _ _ (D.out.2.2) (fun Ah=>?_)
      clear hK K
      try simp only[Act.put,Aa,Ab,Ac,Ad,Ae,Af]
      clear b
      refine wpAnyH_ready (rs:=[19]) (by kernel_rfl) (by simp) ?_
      refine AllReadyH.cons (i:=19) rfl (fun K hK=>?_) AllReadyH.nil
      rw[if_pos (by rfl)]
      simp only[Aa,Ab,Ac]
      go_simp
      have DH:=D.out.here
      refine(qAw (y2.alloc (.cells #[.int .i64 0,.int .i64 0,.int .i64 0,.int .i64 0,.string ⟨#[]⟩] 64)) _ B g n cap 30 ao hn hB (by omega) (by omega) DH).mono ?_
      rintro e y3 ⟨⟨a0,ha0,rfl⟩,DX⟩
      have BO:=Ag (BO.out.keepb DX.out.2.2 (by omega))
      have D:=D.out.back DX.out
      refine hK.out _ _ (D.out.2.2) (fun Ah=>?_)
      clear hK K
      try simp only[Act.put,Aa,Ab,Ac,Ad,Ae,Af]
      clear DX DH
      refine tkQ 20 rfl (by kernel_rfl) (by rfl) (fun _ _=>by simp only[Aa,Ab,Ac];go_simp;try with_reducible rfl) Ah ?_ fun _ _ _ h=>h
      try simp only[Act.put,Aa,Ab,Ac,Ad,Ae,Af]
      refine wpAnyH_ready (rs:=[22]) (by kernel_rfl) (by simp) ?_
      refine AllReadyH.cons (i:=22) rfl (fun K hK=>?_) AllReadyH.nil
      rw[if_pos (by rfl)]
      simp only[Aa,Ab,Ac]
      refine qAm 64 _ _ rfl y2.heap.size (by rfl) 64 _ BO.out [.int .i64 kd,.int .i64 d,.int .i64 (a0:Int),.int .i64 0,.string ⟨#[]⟩] (by rfl) rfl Tryz.sizeTn rfl ?_
      intro x1 kb kt
      have D:=D.out.other (by omega) kt zo (by omega)
      have BO:=Ag kb
      refine hK.out _ _ (D.out.2.2) (fun Ah=>?_)
      clear hK K
      try simp only[Act.put,Aa,Ab,Ac,Ad,Ae,Af]
      clear kb kt
      refine wpAnyH_done (by kernel_rfl) ?_ _
      try go_wp2_with fail
      go_meet
      exact⟨y2.heap.size,kd,d,(a0:Int),rfl,hkd,hdm,by omega,BO.out,D.out,zo⟩
    ·skip
     rw[if_pos (by rfl)]
     simp only[Aa,Ab,Ac]
     go_simp
     have b:=bA y1 (.cells #[.int .i64 0,.int .i64 0,.int .i64 0,.int .i64 0,.string ⟨#[]⟩] 64)
     have BO:=Ag (bxAt y1 64 [.int .i64 0,.int .i64 0,.int .i64 0,.int .i64 0,.string ⟨#[]⟩] y1.heap.size (by simp))
     have zo:W.heap.size≤y1.heap.size:=by have h:=D.out.2.2.size;rw[show y1.heap.size=y1.heap.size by simp]at h;exact h
     have D:Hid (Drw W (y1.alloc (.cells #[.int .i64 0,.int .i64 0,.int .i64 0,.int .i64 0,.string ⟨#[]⟩] 64)) B g ao n cap):=D.out.alloc hB _
     refine hK.out _ _ (D.out.2.2) (fun Ah=>?_)
     clear hK K
     try simp only[Act.put,Aa,Ab,Ac,Ad,Ae,Af]
     clear b
     refine wpAnyH_ready (rs:=[15]) (by kernel_rfl) (by simp) ?_
     refine AllReadyH.cons (i:=15) rfl (fun K hK=>?_) AllReadyH.nil
     rw[if_pos (by rfl)]
     simp only[Aa,Ab,Ac]
     go_simp
     have DH:=D.out.here
     refine(qAw (y1.alloc (.cells #[.int .i64 0,.int .i64 0,.int .i64 0,.int .i64 0,.string ⟨#[]⟩] 64)) _ B g n cap k.mv.n ao hn hB hm0 (by omega) DH).mono ?_
     rintro e y2 ⟨⟨x,hx,rfl⟩,DX⟩
     have i0:(0:Int)≤(x:Int):=by omega
     have i1:(x:Int)<(k.mv.n:Int):=by omega
     have hxl:x<k.ms.length:=by have:=HMN.out;omega
     obtain⟨d,hdx⟩: ∃d,k.ms[x]=d:=⟨_,rfl⟩
     have hdm:d∈k.ms:=hdx ▸ List.getElem_mem hxl
     have HCX:Hid (W.cell? ⟨mb,mo+x,none⟩=some (.int .i64 d)):=(by rw[←hdx];exact HAT.out x hxl:_=_)
     clear hdx
     have BO:=Ag (BO.out.keepb DX.out.2.2 (by omega))
     have D:=D.out.back DX.out
     refine hK.out _ _ (D.out.2.2) (fun Ah=>?_)
     clear hK K
     try simp only[Act.put,Aa,Ab,Ac,Ad,Ae,Af]
     clear DX DH
     refine tkQ 16 rfl (by kernel_rfl) (by rfl) (fun _ _=>by simp only[Aa,Ab,Ac];go_simp;try with_reducible rfl) Ah ?_ fun _ _ _ h=>h
     try simp only[Act.put,Aa,Ab,Ac,Ad,Ae,Af]
     refine tkH (i:=17) (v:=.int .i64 d) rfl (by kernel_rfl) (fun _ _ _ h=>h) (qDw (by rfl) 3 _ rfl mb (mo+x) (by first|rfl|(simp;done)|go_simp) (.int .i64 d) (fun w hS=>qFy HCX.out hmb0 hS hmb) _ Tryz.underlying3 rfl) Ah ?_
     try simp only[Act.put,Ad,Ae,Af]
     refine wpAnyH_ready (rs:=[19]) (by kernel_rfl) (by simp) ?_
     refine AllReadyH.cons (i:=19) rfl (fun K hK=>?_) AllReadyH.nil
     rw[if_pos (by rfl)]
     simp only[Aa,Ab,Ac]
     go_simp
     have DH:=D.out.here
     refine(qAw y2 _ B g n cap 30 ao hn hB (by omega) (by omega) DH).mono ?_
     rintro e y3 ⟨⟨a0,ha0,rfl⟩,DX⟩
     have BO:=Ag (BO.out.keepb DX.out.2.2 (by omega))
     have D:=D.out.back DX.out
     refine hK.out _ _ (D.out.2.2) (fun Ah=>?_)
     clear hK K
     try simp only[Act.put,Aa,Ab,Ac,Ad,Ae,Af]
     clear DX DH
     refine tkQ 20 rfl (by kernel_rfl) (by rfl) (fun _ _=>by simp only[Aa,Ab,Ac];go_simp;try with_reducible rfl) Ah ?_ fun _ _ _ h=>h
     try simp only[Act.put,Aa,Ab,Ac,Ad,Ae,Af]
     refine wpAnyH_ready (rs:=[22]) (by kernel_rfl) (by simp) ?_
     refine AllReadyH.cons (i:=22) rfl (fun K hK=>?_) AllReadyH.nil
     rw[if_pos (by rfl)]
     simp only[Aa,Ab,Ac]
     refine qAm 64 _ _ rfl y1.heap.size (by rfl) 64 _ BO.out [.int .i64 kd,.int .i64 d,.int .i64 (a0:Int),.int .i64 0,.string ⟨#[]⟩] (by rfl) rfl Tryz.sizeTn rfl ?_
     intro x1 kb kt
     have D:=D.out.other (by omega) kt zo (by omega)
     have BO:=Ag kb
     refine hK.out _ _ (D.out.2.2) (fun Ah=>?_)
     clear hK K
     try simp only[Act.put,Aa,Ab,Ac,Ad,Ae,Af]
     clear kb kt
     refine wpAnyH_done (by kernel_rfl) ?_ _
     try go_wp2_with fail
     go_meet
     exact⟨y1.heap.size,kd,d,(a0:Int),rfl,hkd,hdm,by omega,BO.out,D.out,zo⟩
   ·skip
    rw[if_pos (by rfl)]
    simp only[Aa,Ab,Ac]
    go_simp
    have b:Below (W.drew.alloc (.cells #[.int .i64 1,.int .i64 1,.int .i64 1,.int .i64 2,.int .i64 2,.int .i64 2,.int .i64 2,.int .i64 2,.int .i64 2,.int .i64 3,.int .i64 3,.int .i64 4,.int .i64 5,.int .i64 6,.int .i64 7,.int .i64 7] 3)).heap.size (W.drew.alloc (.cells #[.int .i64 1,.int .i64 1,.int .i64 1,.int .i64 2,.int .i64 2,.int .i64 2,.int .i64 2,.int .i64 2,.int .i64 2,.int .i64 3,.int .i64 3,.int .i64 4,.int .i64 5,.int .i64 6,.int .i64 7,.int .i64 7] 3)) ((W.drew.alloc (.cells #[.int .i64 1,.int .i64 1,.int .i64 1,.int .i64 2,.int .i64 2,.int .i64 2,.int .i64 2,.int .i64 2,.int .i64 2,.int .i64 3,.int .i64 3,.int .i64 4,.int .i64 5,.int .i64 6,.int .i64 7,.int .i64 7] 3)).alloc (.cells #[.int .i64 0,.int .i64 0,.int .i64 0,.int .i64 0,.string ⟨#[]⟩] 64)):=(Below.refl _ _).alloc (Nat.le_refl _) _
    obtain⟨R0,BO⟩:=cy2 (R0.out.later (by first|exact hl0|(have h:=hl0;simp at h⊢;omega)|simp) b) (bxAt (W.drew.alloc (.cells #[.int .i64 1,.int .i64 1,.int .i64 1,.int .i64 2,.int .i64 2,.int .i64 2,.int .i64 2,.int .i64 2,.int .i64 2,.int .i64 3,.int .i64 3,.int .i64 4,.int .i64 5,.int .i64 6,.int .i64 7,.int .i64 7] 3)) 64 [.int .i64 0,.int .i64 0,.int .i64 0,.int .i64 0,.string ⟨#[]⟩] (W.heap.size+1) (by simp))
    have zo:W.heap.size≤(W.heap.size+1):=by have h:=D.out.2.2.size;rw[show(W.drew.alloc (.cells #[.int .i64 1,.int .i64 1,.int .i64 1,.int .i64 2,.int .i64 2,.int .i64 2,.int .i64 2,.int .i64 2,.int .i64 2,.int .i64 3,.int .i64 3,.int .i64 4,.int .i64 5,.int .i64 6,.int .i64 7,.int .i64 7] 3)).heap.size=(W.heap.size+1) by simp]at h;exact h
    have D:Hid (Drw W ((W.drew.alloc (.cells #[.int .i64 1,.int .i64 1,.int .i64 1,.int .i64 2,.int .i64 2,.int .i64 2,.int .i64 2,.int .i64 2,.int .i64 2,.int .i64 3,.int .i64 3,.int .i64 4,.int .i64 5,.int .i64 6,.int .i64 7,.int .i64 7] 3)).alloc (.cells #[.int .i64 0,.int .i64 0,.int .i64 0,.int .i64 0,.string ⟨#[]⟩] 64)) B g ao n cap):=D.out.alloc hB _
    refine hK.out _ _ (D.out.2.2) (fun Ah=>?_)
    clear hK K
    try simp only[Act.put,Aa,Ab,Ac,Ad,Ae,Af]
    clear b
    refine wpAnyH_ready (rs:=[2]) (by kernel_rfl) (by simp) ?_
    refine AllReadyH.cons (i:=2) rfl (fun K hK=>?_) AllReadyH.nil
    rw[if_pos (by rfl)]
    simp only[Aa,Ab,Ac]
    go_simp
    have DH:=D.out.here
    have hl1:W.heap.size<((W.drew.alloc (.cells #[.int .i64 1,.int .i64 1,.int .i64 1,.int .i64 2,.int .i64 2,.int .i64 2,.int .i64 2,.int .i64 2,.int .i64 2,.int .i64 3,.int .i64 3,.int .i64 4,.int .i64 5,.int .i64 6,.int .i64 7,.int .i64 7] 3)).alloc (.cells #[.int .i64 0,.int .i64 0,.int .i64 0,.int .i64 0,.string ⟨#[]⟩] 64)).heap.size:=by have h:=hl0;simp at h⊢;try omega
    refine(qHm (fun z=>1≤z∧z≤7) ((W.drew.alloc (.cells #[.int .i64 1,.int .i64 1,.int .i64 1,.int .i64 2,.int .i64 2,.int .i64 2,.int .i64 2,.int .i64 2,.int .i64 2,.int .i64 3,.int .i64 3,.int .i64 4,.int .i64 5,.int .i64 6,.int .i64 7,.int .i64 7] 3)).alloc (.cells #[.int .i64 0,.int .i64 0,.int .i64 0,.int .i64 0,.string ⟨#[]⟩] 64)) _ B g n cap W.heap.size 16 ao hn hB (by omega) (by omega) hl1 hlg R0 DH).mono ?_
    rintro e y1 ⟨⟨kd,hkd,rfl⟩,DX⟩
    have BO:=Ag (BO.out.keepb DX.out.2.2 (by omega))
    have D:=D.out.back DX.out
    refine hK.out _ _ (D.out.2.2) (fun Ah=>?_)
    clear hK K
    try simp only[Act.put,Aa,Ab,Ac,Ad,Ae,Af]
    clear DX DH
    clear R0 hl0 hl1 hlg
    refine wpAnyH_ready (rs:=[15]) (by kernel_rfl) (by simp) ?_
    refine AllReadyH.cons (i:=15) rfl (fun K hK=>?_) AllReadyH.nil
    rw[if_pos (by rfl)]
    simp only[Aa,Ab,Ac]
    go_simp
    have DH:=D.out.here
    refine(qAw y1 _ B g n cap k.mv.n ao hn hB hm0 (by omega) DH).mono ?_
    rintro e y2 ⟨⟨x,hx,rfl⟩,DX⟩
    have i0:(0:Int)≤(x:Int):=by omega
    have i1:(x:Int)<(k.mv.n:Int):=by omega
    have hxl:x<k.ms.length:=by have:=HMN.out;omega
    obtain⟨d,hdx⟩: ∃d,k.ms[x]=d:=⟨_,rfl⟩
    have hdm:d∈k.ms:=hdx ▸ List.getElem_mem hxl
    have HCX:Hid (W.cell? ⟨mb,mo+x,none⟩=some (.int .i64 d)):=(by rw[←hdx];exact HAT.out x hxl:_=_)
    clear hdx
    have BO:=Ag (BO.out.keepb DX.out.2.2 (by omega))
    have D:=D.out.back DX.out
    refine hK.out _ _ (D.out.2.2) (fun Ah=>?_)
    clear hK K
    try simp only[Act.put,Aa,Ab,Ac,Ad,Ae,Af]
    clear DX DH
    refine tkQ 16 rfl (by kernel_rfl) (by rfl) (fun _ _=>by simp only[Aa,Ab,Ac];go_simp;try with_reducible rfl) Ah ?_ fun _ _ _ h=>h
    try simp only[Act.put,Aa,Ab,Ac,Ad,Ae,Af]
    refine tkH (i:=17) (v:=.int .i64 d) rfl (by kernel_rfl) (fun _ _ _ h=>h) (qDw (by rfl) 3 _ rfl mb (mo+x) (by first|rfl|(simp;done)|go_simp) (.int .i64 d) (fun w hS=>qFy HCX.out hmb0 hS hmb) _ Tryz.underlying3 rfl) Ah ?_
    try simp only[Act.put,Ad,Ae,Af]
    refine wpAnyH_ready (rs:=[19]) (by kernel_rfl) (by simp) ?_
    refine AllReadyH.cons (i:=19) rfl (fun K hK=>?_) AllReadyH.nil
    rw[if_pos (by rfl)]
    simp only[Aa,Ab,Ac]
    go_simp
    have DH:=D.out.here
    refine(qAw y2 _ B g n cap 30 ao hn hB (by omega) (by omega) DH).mono ?_
    rintro e y3 ⟨⟨a0,ha0,rfl⟩,DX⟩
    have BO:=Ag (BO.out.keepb DX.out.2.2 (by omega))
    have D:=D.out.back DX.out
    refine hK.out _ _ (D.out.2.2) (fun Ah=>?_)
    clear hK K
    try simp only[Act.put,Aa,Ab,Ac,Ad,Ae,Af]
    clear DX DH
    refine tkQ 20 rfl (by kernel_rfl) (by rfl) (fun _ _=>by simp only[Aa,Ab,Ac];go_simp;try with_reducible rfl) Ah ?_ fun _ _ _ h=>h
    try simp only[Act.put,Aa,Ab,Ac,Ad,Ae,Af]
    refine wpAnyH_ready (rs:=[22]) (by kernel_rfl) (by simp) ?_
    refine AllReadyH.cons (i:=22) rfl (fun K hK=>?_) AllReadyH.nil
    rw[if_pos (by rfl)]
    simp only[Aa,Ab,Ac]
    refine qAm 64 _ _ rfl (W.heap.size+1) (by rfl) 64 _ BO.out [.int .i64 kd,.int .i64 d,.int .i64 (a0:Int),.int .i64 0,.string ⟨#[]⟩] (by rfl) rfl Tryz.sizeTn rfl ?_
    intro x1 kb kt
    have D:=D.out.other (by omega) kt zo (by omega)
    have BO:=Ag kb
    refine hK.out _ _ (D.out.2.2) (fun Ah=>?_)
    clear hK K
    try simp only[Act.put,Aa,Ab,Ac,Ad,Ae,Af]
    clear kb kt
    refine wpAnyH_done (by kernel_rfl) ?_ _
    try go_wp2_with fail
    go_meet
    exact⟨(W.heap.size+1),kd,d,(a0:Int),rfl,hkd,hdm,by omega,BO.out,D.out,zo⟩
  ·skip
   rw[if_pos (by rfl)]
   simp only[Aa,Ab,Ac]
   go_simp
   have b:=bA W.drew (.cells #[.int .i64 0,.int .i64 0,.int .i64 0,.int .i64 0,.string ⟨#[]⟩] 64)
   have BO:=Ag (bxAt W.drew 64 [.int .i64 0,.int .i64 0,.int .i64 0,.int .i64 0,.string ⟨#[]⟩] W.heap.size (by simp))
   have zo:W.heap.size≤W.heap.size:=by have h:=D.out.2.2.size;rw[show W.drew.heap.size=W.heap.size by simp]at h;exact h
   have D:Hid (Drw W (W.drew.alloc (.cells #[.int .i64 0,.int .i64 0,.int .i64 0,.int .i64 0,.string ⟨#[]⟩] 64)) B g ao n cap):=D.out.alloc hB _
   refine hK.out _ _ (D.out.2.2) (fun Ah=>?_)
   clear hK K
   try simp only[Act.put,Aa,Ab,Ac,Ad,Ae,Af]
   clear b
   refine wpAnyH_ready (rs:=[1]) (by kernel_rfl) (by simp) ?_
   refine AllReadyH.cons (i:=1) rfl (fun K hK=>?_) AllReadyH.nil
   rw[if_pos (by rfl)]
   simp only[Aa,Ab,Ac]
   go_simp
   have b:Below (W.drew.alloc (.cells #[.int .i64 0,.int .i64 0,.int .i64 0,.int .i64 0,.string ⟨#[]⟩] 64)).heap.size (W.drew.alloc (.cells #[.int .i64 0,.int .i64 0,.int .i64 0,.int .i64 0,.string ⟨#[]⟩] 64)) ((W.drew.alloc (.cells #[.int .i64 0,.int .i64 0,.int .i64 0,.int .i64 0,.string ⟨#[]⟩] 64)).alloc (.cells #[.int .i64 1,.int .i64 1,.int .i64 1,.int .i64 2,.int .i64 2,.int .i64 2,.int .i64 2,.int .i64 2,.int .i64 2,.int .i64 3,.int .i64 3,.int .i64 4,.int .i64 5,.int .i64 6,.int .i64 7,.int .i64 7] 3)):=(Below.refl _ _).alloc (Nat.le_refl _) _
   have BO:=Ag (BO.out.later b)
   have R0:Hid (RowZ (fun z=>1≤z∧z≤7) ((W.drew.alloc (.cells #[.int .i64 0,.int .i64 0,.int .i64 0,.int .i64 0,.string ⟨#[]⟩] 64)).alloc (.cells #[.int .i64 1,.int .i64 1,.int .i64 1,.int .i64 2,.int .i64 2,.int .i64 2,.int .i64 2,.int .i64 2,.int .i64 2,.int .i64 3,.int .i64 3,.int .i64 4,.int .i64 5,.int .i64 6,.int .i64 7,.int .i64 7] 3)) (W.heap.size+1) 16):=by have h:=rowZ_new (fun z=>1≤z∧z≤7) (W.drew.alloc (.cells #[.int .i64 0,.int .i64 0,.int .i64 0,.int .i64 0,.string ⟨#[]⟩] 64)) [1,1,1,2,2,2,2,2,2,3,3,4,5,6,7,7] 16 rfl (by decide);rw[show(W.drew.alloc (.cells #[.int .i64 0,.int .i64 0,.int .i64 0,.int .i64 0,.string ⟨#[]⟩] 64)).heap.size=(W.heap.size+1) by simp]at h;exact h
   have hl0:(W.heap.size+1)<((W.drew.alloc (.cells #[.int .i64 0,.int .i64 0,.int .i64 0,.int .i64 0,.string ⟨#[]⟩] 64)).alloc (.cells #[.int .i64 1,.int .i64 1,.int .i64 1,.int .i64 2,.int .i64 2,.int .i64 2,.int .i64 2,.int .i64 2,.int .i64 2,.int .i64 3,.int .i64 3,.int .i64 4,.int .i64 5,.int .i64 6,.int .i64 7,.int .i64 7] 3)).heap.size:=by simp
   have hlg:(W.heap.size+1)≠g:=by have h:=D.out.2.2.size;rw[show(W.drew.alloc (.cells #[.int .i64 0,.int .i64 0,.int .i64 0,.int .i64 0,.string ⟨#[]⟩] 64)).heap.size=(W.heap.size+1) by simp]at h;omega
   have D:Hid (Drw W ((W.drew.alloc (.cells #[.int .i64 0,.int .i64 0,.int .i64 0,.int .i64 0,.string ⟨#[]⟩] 64)).alloc (.cells #[.int .i64 1,.int .i64 1,.int .i64 1,.int .i64 2,.int .i64 2,.int .i64 2,.int .i64 2,.int .i64 2,.int .i64 2,.int .i64 3,.int .i64 3,.int .i64 4,.int .i64 5,.int .i64 6,.int .i64 7,.int .i64 7] 3)) B g ao n cap):=D.out.alloc hB _
   refine hK.out _ _ (D.out.2.2) (fun Ah=>?_)
   clear hK K
   try simp only[Act.put,Aa,Ab,Ac,Ad,Ae,Af]
   clear b
   refine wpAnyH_ready (rs:=[2]) (by kernel_rfl) (by simp) ?_
   refine AllReadyH.cons (i:=2) rfl (fun K hK=>?_) AllReadyH.nil
   rw[if_pos (by rfl)]
   simp only[Aa,Ab,Ac]
   go_simp
   have DH:=D.out.here
   have hl1:(W.heap.size+1)<((W.drew.alloc (.cells #[.int .i64 0,.int .i64 0,.int .i64 0,.int .i64 0,.string ⟨#[]⟩] 64)).alloc (.cells #[.int .i64 1,.int .i64 1,.int .i64 1,.int .i64 2,.int .i64 2,.int .i64 2,.int .i64 2,.int .i64 2,.int .i64 2,.int .i64 3,.int .i64 3,.int .i64 4,.int .i64 5,.int .i64 6,.int .i64 7,.int .i64 7] 3)).heap.size:=by have h:=hl0;simp at h⊢;try omega
   refine(qHm (fun z=>1≤z∧z≤7) ((W.drew.alloc (.cells #[.int .i64 0,.int .i64 0,.int .i64 0,.int .i64 0,.string ⟨#[]⟩] 64)).alloc (.cells #[.int .i64 1,.int .i64 1,.int .i64 1,.int .i64 2,.int .i64 2,.int .i64 2,.int .i64 2,.int .i64 2,.int .i64 2,.int .i64 3,.int .i64 3,.int .i64 4,.int .i64 5,.int .i64 6,.int .i64 7,.int .i64 7] 3)) _ B g n cap (W.heap.size+1) 16 ao hn hB (by omega) (by omega) hl1 hlg R0 DH).mono ?_
   rintro e y1 ⟨⟨kd,hkd,rfl⟩,DX⟩
   have BO:=Ag (BO.out.keepb DX.out.2.2 (by omega))
   have D:=D.out.back DX.out
   refine hK.out _ _ (D.out.2.2) (fun Ah=>?_)
   clear hK K
   try simp only[Act.put,Aa,Ab,Ac,Ad,Ae,Af]
   clear DX DH
   clear R0 hl0 hl1 hlg
   refine wpAnyH_ready (rs:=[15]) (by kernel_rfl) (by simp) ?_
   refine AllReadyH.cons (i:=15) rfl (fun K hK=>?_) AllReadyH.nil
   rw[if_pos (by rfl)]
   simp only[Aa,Ab,Ac]
   go_simp
   have DH:=D.out.here
   refine(qAw y1 _ B g n cap k.mv.n ao hn hB hm0 (by omega) DH).mono ?_
   rintro e y2 ⟨⟨x,hx,rfl⟩,DX⟩
   have i0:(0:Int)≤(x:Int):=by omega
   have i1:(x:Int)<(k.mv.n:Int):=by omega
   have hxl:x<k.ms.length:=by have:=HMN.out;omega
   obtain⟨d,hdx⟩: ∃d,k.ms[x]=d:=⟨_,rfl⟩
   have hdm:d∈k.ms:=hdx ▸ List.getElem_mem hxl
   have HCX:Hid (W.cell? ⟨mb,mo+x,none⟩=some (.int .i64 d)):=(by rw[←hdx];exact HAT.out x hxl:_=_)
   clear hdx
   have BO:=Ag (BO.out.keepb DX.out.2.2 (by omega))
   have D:=D.out.back DX.out
   refine hK.out _ _ (D.out.2.2) (fun Ah=>?_)
   clear hK K
   try simp only[Act.put,Aa,Ab,Ac,Ad,Ae,Af]
   clear DX DH
   refine tkQ 16 rfl (by kernel_rfl) (by rfl) (fun _ _=>by simp only[Aa,Ab,Ac];go_simp;try with_reducible rfl) Ah ?_ fun _ _ _ h=>h
   try simp only[Act.put,Aa,Ab,Ac,Ad,Ae,Af]
   refine tkH (i:=17) (v:=.int .i64 d) rfl (by kernel_rfl) (fun _ _ _ h=>h) (qDw (by rfl) 3 _ rfl mb (mo+x) (by first|rfl|(simp;done)|go_simp) (.int .i64 d) (fun w hS=>qFy HCX.out hmb0 hS hmb) _ Tryz.underlying3 rfl) Ah ?_
   try simp only[Act.put,Ad,Ae,Af]
   refine wpAnyH_ready (rs:=[19]) (by kernel_rfl) (by simp) ?_
   refine AllReadyH.cons (i:=19) rfl (fun K hK=>?_) AllReadyH.nil
   rw[if_pos (by rfl)]
   simp only[Aa,Ab,Ac]
   go_simp
   have DH:=D.out.here
   refine(qAw y2 _ B g n cap 30 ao hn hB (by omega) (by omega) DH).mono ?_
   rintro e y3 ⟨⟨a0,ha0,rfl⟩,DX⟩
   have BO:=Ag (BO.out.keepb DX.out.2.2 (by omega))
   have D:=D.out.back DX.out
   refine hK.out _ _ (D.out.2.2) (fun Ah=>?_)
   clear hK K
   try simp only[Act.put,Aa,Ab,Ac,Ad,Ae,Af]
   clear DX DH
   refine tkQ 20 rfl (by kernel_rfl) (by rfl) (fun _ _=>by simp only[Aa,Ab,Ac];go_simp;try with_reducible rfl) Ah ?_ fun _ _ _ h=>h
   try simp only[Act.put,Aa,Ab,Ac,Ad,Ae,Af]
   refine wpAnyH_ready (rs:=[22]) (by kernel_rfl) (by simp) ?_
   refine AllReadyH.cons (i:=22) rfl (fun K hK=>?_) AllReadyH.nil
   rw[if_pos (by rfl)]
   simp only[Aa,Ab,Ac]
   refine qAm 64 _ _ rfl W.heap.size (by rfl) 64 _ BO.out [.int .i64 kd,.int .i64 d,.int .i64 (a0:Int),.int .i64 0,.string ⟨#[]⟩] (by rfl) rfl Tryz.sizeTn rfl ?_
   intro x1 kb kt
   have D:=D.out.other (by omega) kt zo (by omega)
   have BO:=Ag kb
   refine hK.out _ _ (D.out.2.2) (fun Ah=>?_)
   clear hK K
   try simp only[Act.put,Aa,Ab,Ac,Ad,Ae,Af]
   clear kb kt
   refine wpAnyH_done (by kernel_rfl) ?_ _
   try go_wp2_with fail
   go_meet
   exact⟨W.heap.size,kd,d,(a0:Int),rfl,hkd,hdm,by omega,BO.out,D.out,zo⟩
 case rest=>
 obtain⟨gx,kd,d,at0,rfl,hkd,hdm,ha0,bx,dd,zgx⟩:=hcut
 generalize wc=w1 at *
 have BX:=Ag bx
 have DW:=D0.out.back dd
 obtain⟨RB,WB1⟩:=cy2 (RB.out.keepb dd.2.2 (by omega)) (WB.out.keepb dd.2.2 hne)
 have FL1:Hid (FsP w1 0 k.flv.v k.fl):=P0.out.fl.kt (D0.out.ty dd.2.2) (by decide) (by decide)
 have z1:W.heap.size≤w1.heap.size:=dd.2.2.size
 have zgl:=BX.out.lt
 have HDM:Hid (d∈k.ms):=hdm
 clear bx dd WB P0 D0 HAT hmb hmb0 hdm
 have hgx:gx≠g:=by omega
 have cx0:=BX.out.cell 0
 by_cases e2:kd=2
 ·subst e2
  have HFN:Hid (k.flv.n=k.fl.length):=FL1.out.len
  have hfn:k.flv.n≤1000000:=by have h1:=HFN.out;omega
  go_wp2_with fail
  go_loopw [6] (fun v6 wr=>∃(j:Nat) (a1:Int),j≤k.flv.n∧v6=.int .i64 (j:Int)∧0≤a1∧Hid (Bx wr gx 64 [.int .i64 2,.int .i64 d,.int .i64 a1,.int .i64 0,.string ⟨#[]⟩])∧Hid (Bx wr w.heap.size 64 [.int .i64 0,.int .i64 0,.int .i64 0,.int .i64 0,.string ⟨#[]⟩])∧Hid (Bx wr gw 56 [.int .i64 k.rid,.slice (some ⟨mb,mo,none⟩) k.mv.n k.mv.c,.slice k.mav.a k.mav.n k.mav.c,.slice k.flv.a k.flv.n k.flv.c,.slice k.hev.a k.hev.n k.hev.c,.slice k.sav.a k.sav.n k.sav.c])∧Hid (FsP wr 0 k.flv.v k.fl)∧Hid (Drw w wr B g ao n cap)∧w1.heap.size≤wr.heap.size) (fun v6 _=>k.flv.n - (intOf v6).toNat)
  case atStart=>exact⟨0,at0,Nat.zero_le _,rfl,ha0,BX,RB,WB1,FL1,DW,Nat.le_refl _⟩
  case round=>
   clear BX RB WB1 FL1 DW cx0
   obtain⟨j,a1,hj,rfl,ha1,BX,RB,WB1,FL1,DW,zwr⟩:=hrel
   have wb3:=WB1.out.cell 3
   have cx0:=BX.out.cell 0
   by_cases hlt:j<k.flv.n
   ·have hjf:j<k.fl.length:=by have:=HFN.out;omega
    obtain⟨hq1,gf,off,ha,hq2,hgl,hr⟩:=FL1.out.row hjf
    clear hq1 hq2
    obtain⟨⟨f,fsv⟩,hm⟩: ∃e,k.fl[j]=e:=⟨_,rfl⟩
    have hc1:wr.cell? ⟨gf,off+j * 12+1,none⟩=some (.bool f.tk):=by rw[hm]at hr;exact qCx hr 1 rfl
    rw[ha]at wb3
    have i0:(0:Int)≤(j:Int):=by omega
    have i1:(j:Int)<(k.flv.n:Int):=by omega
    have DH:=DW.out.here
    clear hr hm cx0
    cases htk:f.tk with
    |false=>
     rw[htk]at hc1
     clear htk DH
     go_wp2_with fail
     go_roundw
     case rel=>exact⟨j+1,a1,by omega,by go_num,ha1,BX,RB,WB1,FL1,DW,zwr⟩
     case measure=>simp[intOf];omega
    |true=>
     rw[htk]at hc1
     clear htk
     go_wp2_with (first|(go_at_call 49;refine(qKp wr _ B g n cap 4 ao hn hB (by omega) (by omega) DH).mono ?_;rintro e y1 ⟨⟨bb,rfl⟩,DX⟩;have BX:=Ag (BX.out.keepb DX.out.2.2 hgx);have RB:=Ag (RB.out.keepb DX.out.2.2 (by omega));have WB1:=Ag (WB1.out.keepb DX.out.2.2 hne);have FL1:=Ag (FL1.out.kt (DW.out.ty DX.out.2.2) (by decide) (by decide));have zy:wr.heap.size≤y1.heap.size:=DX.out.2.2.size;have DW:=DW.out.back DX.out;clear DX DH hc1 wb3;refine Stp.here ?_))
     refine Stp.go ?_
     cases bb with
     |true=>
      go_wp2_with fail
      go_roundw
      case rel=>exact⟨j+1,a1,by omega,by go_num,ha1,BX,RB,WB1,FL1,DW,by omega⟩
      case measure=>simp[intOf];omega
     |false=>
      go_wp2_with (first|(refine qAe rfl 3 _ _ rfl gx 2 rfl 64 _ BX.out (.int .i64 (j:Int)) rfl (by simp) rfl Tryz.size3 [.int .i64 2,.int .i64 d,.int .i64 (j:Int),.int .i64 0,.string ⟨#[]⟩] rfl ?_;intro w7 OB TB;refine Stp.here ?_))
      refine Stp.go ?_
      obtain⟨RB,WB1,FL1⟩:=cy3 (RB.out.turn TB (by omega)) (WB1.out.turn TB (by omega)) (FL1.out.kt (KeepTy.ofTurn (S:=fun X=>X=64) BX.out TB rfl) (by decide) (by decide))
      have DW:=DW.out.other (by omega) TB (by omega) (by omega)
      have BX:=Ag OB
      have z7:w1.heap.size≤w7.heap.size:=by have:=TB.size;omega
      clear OB TB
      go_wp2_with fail
      go_roundw
      case rel=>exact⟨j+1,(j:Int),by omega,by go_num,by omega,BX,RB,WB1,FL1,DW,z7⟩
      case measure=>simp[intOf];omega
   ·have hd2: ¬j<k.flv.n:=hlt
    go_wp2_with (first|(refine qAb rfl 64 _ rfl gx 0 rfl 64 _ BX.out [.int .i64 2,.int .i64 d,.int .i64 a1,.int .i64 0,.string ⟨#[]⟩] rfl _ Tryz.underlying64 rfl Tryz.sizeTn ?_)|(refine qAd rfl 64 _ _ rfl w.heap.size rfl 64 _ RB.out [.int .i64 2,.int .i64 d,.int .i64 a1,.int .i64 0,.string ⟨#[]⟩] rfl rfl Tryz.sizeTn rfl ?_;intro w9 OB TB;refine Stp.here ?_))
    refine Stp.go ?_
    go_wp2_with fail
    refine bodyPost_ret (qBd Tryz.results146 w.heap.size 64 [.int .i64 2,.int .i64 d,.int .i64 a1,.int .i64 0,.string ⟨#[]⟩] _ rfl OB Tryz.underlying64 rfl Tryz.sizeTn) rfl ?_
    have DZ:=DW.out.other (by omega) TB (Nat.le_refl _) (by omega)
    exact⟨2,d,a1,0,⟨#[]⟩,rfl,by omega,HDM.out,ha1,utt_nil (by decide),by decide,HDD.out.back DZ.out,DZ.out.2.2⟩
 have q2:(kd==2)=false:=by simpa using e2
 by_cases e1:kd=1
 ·subst e1
  have DH:=DW.out.here
  go_wp2_with fail
  refine(qAw w1 _ B g n cap 2 ao hn hB (by omega) (by omega) DH).mono ?_
  rintro e y1 ⟨⟨l0,hl0,rfl⟩,DX⟩
  obtain⟨BX,RB⟩:=cy2 (BX.out.keepb DX.out.2.2 hgx) (RB.out.keepb DX.out.2.2 (by omega))
  have zy:w1.heap.size≤y1.heap.size:=DX.out.2.2.size
  have DW:=DW.out.back DX.out
  clear DX DH cx0 WB1 FL1
  go_wp2_with (first|(refine qAe rfl 3 _ _ rfl gx 3 rfl 64 _ BX.out (.int .i64 (1+(l0:Int))) rfl (by simp) rfl Tryz.size3 [.int .i64 1,.int .i64 d,.int .i64 at0,.int .i64 (1+(l0:Int)),.string ⟨#[]⟩] rfl ?_;intro w7 OB TB;refine Stp.here ?_))
  refine Stp.go ?_
  have RB:=Ag (RB.out.turn TB (by omega))
  have DW:=DW.out.other (by omega) TB (by omega) (by omega)
  have BX:=Ag OB
  have z7:y1.heap.size≤w7.heap.size:=Nat.le_of_eq TB.size.symm
  clear OB TB
  have DH:=DW.out.here
  go_wp2_with fail
  refine(nameZ_any w7 _ B g n cap ao hn hB DH).mono ?_
  rintro e y2 ⟨⟨tx,htx,rfl⟩,DX⟩
  obtain⟨BX,RB⟩:=cy2 (BX.out.keepb DX.out.2.2 hgx) (RB.out.keepb DX.out.2.2 (by omega))
  have DW:=DW.out.back DX.out
  have z8:w7.heap.size≤y2.heap.size:=DX.out.2.2.size
  clear DX DH
  go_wp2_with (first|(refine qAe rfl 9 _ _ rfl gx 4 rfl 64 _ BX.out (.string tx) rfl (by simp) rfl Tryz.size9 [.int .i64 1,.int .i64 d,.int .i64 at0,.int .i64 (1+(l0:Int)),.string tx] rfl ?_;intro w8 OB TB;refine Stp.here ?_))
  refine Stp.go ?_
  have RB:=Ag (RB.out.turn TB (by omega))
  have DW:=DW.out.other (by omega) TB (by omega) (by omega)
  have BX:=Ag OB
  have z9:y2.heap.size≤w8.heap.size:=Nat.le_of_eq TB.size.symm
  clear OB TB
  go_wp2_with (first|(refine qAb rfl 64 _ rfl gx 0 rfl 64 _ BX.out [.int .i64 1,.int .i64 d,.int .i64 at0,.int .i64 (1+(l0:Int)),.string tx] rfl _ Tryz.underlying64 rfl Tryz.sizeTn ?_)|(refine qAd rfl 64 _ _ rfl w.heap.size rfl 64 _ RB.out [.int .i64 1,.int .i64 d,.int .i64 at0,.int .i64 (1+(l0:Int)),.string tx] rfl rfl Tryz.sizeTn rfl ?_;intro w9 OB TB;refine Stp.here ?_))
  refine Stp.go ?_
  go_wp2_with fail
  refine bodyPost_ret (qBd Tryz.results146 w.heap.size 64 [.int .i64 1,.int .i64 d,.int .i64 at0,.int .i64 (1+(l0:Int)),.string tx] _ rfl OB Tryz.underlying64 rfl Tryz.sizeTn) rfl ?_
  have DZ:=DW.out.other (by omega) TB (Nat.le_refl _) (by omega)
  refine⟨1,d,at0,_,tx,rfl,by omega,HDM.out,ha0,?_,htx,HDD.out.back DZ.out,DZ.out.2.2⟩
  unfold uttB lvB
  rw[if_pos rfl]
  simp
  omega
 have q1:(kd==1)=false:=by simpa using e1
 go_wp2_with (first|(refine qAb rfl 64 _ rfl gx 0 rfl 64 _ BX.out [.int .i64 kd,.int .i64 d,.int .i64 at0,.int .i64 0,.string ⟨#[]⟩] rfl _ Tryz.underlying64 rfl Tryz.sizeTn ?_)|(refine qAd rfl 64 _ _ rfl w.heap.size rfl 64 _ RB.out [.int .i64 kd,.int .i64 d,.int .i64 at0,.int .i64 0,.string ⟨#[]⟩] rfl rfl Tryz.sizeTn rfl ?_;intro w9 OB TB;refine Stp.here ?_))
 refine Stp.go ?_
 go_wp2_with fail
 refine bodyPost_ret (qBd Tryz.results146 w.heap.size 64 [.int .i64 kd,.int .i64 d,.int .i64 at0,.int .i64 0,.string ⟨#[]⟩] _ rfl OB Tryz.underlying64 rfl Tryz.sizeTn) rfl ?_
 have DZ:=DW.out.other (by omega) TB (Nat.le_refl _) (by omega)
 refine⟨kd,d,at0,0,⟨#[]⟩,rfl,hkd,HDM.out,ha0,utt_nil e1,by decide,HDD.out.back DZ.out,DZ.out.2.2⟩
theorem ins1_in{ts:List It}{y x:It}(h:x∈ins1 ts y):x∈ts∨x=y:=by
 unfold ins1 at h
 split at h
 ·exact .inl h
 ·simp only[List.mem_append,List.mem_cons,List.mem_filter]at h
  rcases h with h|h|h
  ·exact .inl h.1
  ·exact .inr h
  ·exact .inl h.1
theorem ins1_keeps{ts:List It}{y x:It}(h:x∈ts)(hy: ¬x.1=y.1):x∈ins1 ts y:=by
 unfold ins1
 split
 ·exact h
 ·simp only[List.mem_append,List.mem_cons,List.mem_filter,decide_eq_true_eq]
  by_cases hl:x.1<y.1
  ·exact .inl ⟨h,hl⟩
  ·exact .inr (.inr ⟨h,by omega⟩)
theorem putP_has{ts:List It}{y:It}{n:Int}(h:hasP ts n=true):hasP (putP ts y) n=true:=by
 unfold putP
 split
 ·obtain⟨x,hx,e⟩:=qCr.1 h
  by_cases hy:x.1=y.1
  ·unfold ins1
   rw[if_pos (qCr.2 ⟨x,hx,hy⟩)]
   exact h
  ·exact qCr.2 ⟨x,ins1_keeps hx hy,e⟩
 ·exact h
theorem qGd{ts:List It}{y:It}(h:iGo 0 ts=true):iGo 0 (putP ts y)=true:=by
 unfold putP
 split
 ·rename_i hc
  obtain⟨ha,hb⟩:=qEb ts 0 h
  refine iGo_of _ 0 (qKu ha) fun x hx=>?_
  rcases ins1_in hx with hx|rfl
  ·exact hb x hx
  ·exact⟨by have:=(itB_range hc.2).1;omega,hc.2⟩
 ·exact h
theorem aru_mono{ts us:List It}(h:iGo 0 ts=true)(hu:iGo 0 us=true)(hh: ∀n,hasP ts n=true→hasP us n=true):aruP ts≤aruP us:=by
 have h1:=(qJb h).1
 have h2:=(qJb hu).2.1
 by_cases hc:aruP ts≤aruP us
 ·exact hc
 ·have:=hh _ (h1 (aruP us+1) (by omega) (by omega))
  rw[h2]at this
  cases this
theorem qJx: ∀(L ts:List It),iGo 0 ts=true→iGo 0 (L.foldl putP ts)=true∧∀n,hasP ts n=true→hasP (L.foldl putP ts) n=true
 | [],ts,h=>⟨h,fun _ h=>h⟩
 |y::L,ts,h=>by
  obtain⟨a,b⟩:=qJx L (putP ts y) (qGd h)
  exact⟨a,fun n hn=>b n (putP_has hn)⟩
theorem sIts_right{m:Mt}(h:iGo 0 m.its=true)(t:Tok):iGo 0 (sIts m t)=true∧aruP m.its≤aruP (sIts m t):=by
 obtain⟨a,b⟩:=qJx (qBa m t) m.its h
 exact⟨a,aru_mono h a b⟩
theorem cat_right{m:Mt}(h:m.ok=true)(y:It):(m.cat y).ok=true:=by
 obtain⟨h1,h2,h3,h4,h5,h6,h7,h8,h9⟩:=qAs h
 rw[cat_yes h]
 have a:=qGd (y:=y) h3
 have b:=aru_mono h3 a fun n hn=>putP_has (y:=y) hn
 exact ok_of h1 h2 a h4 h5 h6 ⟨h7.1,by show m.li≤((aruP (putP m.its y):Nat):Int);omega⟩ ⟨h8.1,by show m.he≤((aruP (putP m.its y):Nat):Int);omega⟩ h9
theorem had_right{m:Mt}(h:m.ok=true):(m.hadH).ok=true:=by
 obtain⟨h1,h2,h3,h4,h5,h6,h7,h8,h9⟩:=qAs h
 have:=qEm m.its m.li ((aruP m.its:Int) - m.he).toNat m.he
 exact ok_of h1 h2 h3 h4 h5 h6 h7 ⟨by show 0≤m.he+(m.hear.length:Int);omega,by show m.he+(m.hear.length:Int)≤_;unfold Mt.hear;show m.he+_≤((aruP m.its:Nat):Int);omega⟩ h9
theorem say_right{m:Mt}{l:Int}{x:ByteArray}(h:qGa m l x=true):(sayM m l x).ok=true:=by
 unfold qGa at h
 simp only[Bool.and_eq_true,decide_eq_true_eq]at h
 obtain⟨h,hl,hx,hn⟩:=h
 obtain⟨h1,h2,h3,h4,h5,h6,h7,h8,h9⟩:=qAs h
 refine ok_of h1 h2 h3 ?_ h5 h6 h7 h8 h9
 show sayB (m.lv++[l]) (m.tx++[x])=true
 unfold sayB lvsB fitB at h4⊢
 simp only[Bool.and_eq_true,decide_eq_true_eq,List.all_eq_true]at h4⊢
 obtain⟨a,b,c,d⟩:=h4
 refine⟨by simp;omega,by simp;omega,fun y hy=>?_,fun y hy=>?_⟩
 ·rcases List.mem_append.1 hy with hy|hy
  ·exact c y hy
  ·simp at hy;subst hy;exact hl
 ·rcases List.mem_append.1 hy with hy|hy
  ·exact d y hy
  ·simp at hy;subst hy;exact hx
theorem qGh(ts:List It)(last:Int): ∀f n acc x,x∈qBe ts last f n acc→x∈acc∨x≤last
 |0,n,acc,x,h=>.inl h
 |f+1,n,acc,x,h=>by
  rw[qBe]at h
  split at h
  ·rename_i hc
   split at h
   ·exact qGh ts last f (n+1) acc x h
   ·rcases qGh ts last f (n+1) _ x h with h|h
    ·rcases List.mem_append.1 h with h|h
     ·exact .inl h
     ·simp at h;exact .inr (by omega)
    ·exact .inr h
  ·exact .inl h
theorem missP_mem{ts:List It}{u x:Int}(h:x∈qBh ts u):x≤u:=by
 unfold qBh at h
 rcases qGh _ _ _ _ _ _ h with h|h
 ·cases h
 ·split at h<;>omega
theorem qJd: ∀(a:List Int) (l q n:Int),wGo l q a=true→l<n→(∀x∈a,x<n)→n≤q→wGo l q (a++[n])=true
 | [],l,q,n,_,h,_,hq=>by rw[List.nil_append,qCb h hq];rfl
 |x::a,l,q,n,h,hl,ha,hq=>by
  have hx:=qHa (x::a) l q x h (List.mem_cons_self ..)
  rw[qCb hx.1 hx.2]at h
  rw[List.cons_append,qCb hx.1 hx.2]
  exact qJd a x q n h (ha x (List.mem_cons_self ..)) (fun y hy=>ha y (List.mem_cons_of_mem _ hy)) hq
theorem qJh{ws lk:List Int}{its:List It}{q:Int}(hw: ∀x∈ws,x≤q)(hk: ∀x∈lk,x≤q): ∀(f n:Nat) (acc:List Int),1≤n→wGo 0 q acc=true→(∀x∈acc,x<(n:Int))→wGo 0 q (slGo ws lk its f n acc)=true
 |0,n,acc,_,h,_=>h
 |f+1,n,acc,hn,h,ha=>by
  rw[slGo]
  split
  ·refine qJh hw hk f (n+1) _ (by omega) ?_ ?_
   ·split
    ·rename_i hs
     refine qJd acc 0 q (n:Int) h (by omega) ha ?_
     unfold slB at hs
     simp only[Bool.or_eq_true,Bool.and_eq_true]at hs
     rcases hs with hs|hs
     ·exact hw _ (by simpa [inB] using hs.2)
     ·exact hk _ (by simpa [inB] using hs)
    ·exact h
   ·intro x hx
    split at hx
    ·rcases List.mem_append.1 hx with hx|hx
     ·have:=ha x hx;omega
     ·simp at hx;omega
    ·have:=ha x hx;omega
  ·exact h
theorem slack_right{ws:List Int}{its:List It}{q:Int}(hw: ∀x∈ws,x≤q):wB (qEj ws its q) q=true:=by
 unfold wB
 have h1:=qEt ws its q
 have h2:wGo 0 q (qEj ws its q)=true:=qJh (its:=its) hw (fun x hx=>missP_mem hx) 60 1 [] (by omega) rfl (fun x hx=>by cases hx)
 simp only[Bool.and_eq_true,decide_eq_true_eq]
 exact⟨by omega,h2⟩
theorem qCq{c r q a b:Int}{ws:List Int}(h:tkB c r q a b ws=true):(1≤c∧c≤9)∧(1≤r∧r≤1000000000)∧(0≤q∧q≤60)∧(0≤a∧a≤q)∧(0≤b∧b≤5)∧wB ws q=true:=by
 unfold tkB at h
 simp only[Bool.and_eq_true,decide_eq_true_eq]at h
 exact⟨h.1,h.2.1,h.2.2.1,h.2.2.2.1,h.2.2.2.2.1,h.2.2.2.2.2⟩
theorem tk_of{c r q a b:Int}{ws:List Int}(h1:1≤c∧c≤9)(h2:1≤r∧r≤1000000000)(h3:0≤q∧q≤60)(h4:0≤a∧a≤q)(h5:0≤b∧b≤5)(h6:wB ws q=true):tkB c r q a b ws=true:=by
 unfold tkB
 simp only[Bool.and_eq_true,decide_eq_true_eq]
 exact⟨h1,h2,h3,h4,h5,h6⟩
theorem qGb{m:Mt}{t:Tok}(h:m.ok=true)(hm:mayB m t=true):tkB (sTok m t).c (sTok m t).r (sTok m t).q (sTok m t).a (sTok m t).b (sTok m t).ws=true:=by
 unfold mayB at hm
 simp only[Bool.and_eq_true,decide_eq_true_eq]at hm
 obtain⟨htk,hc,hr1,hr2⟩:=hm
 have hn:tkB t.c t.r (nxQ m t) (nxA m t) t.b t.ws=true:=num_right htk
 obtain⟨p1,p2,p3,p4,p5,p6⟩:=qCq hn
 obtain⟨o1,o2,o3,o4,o5,o6⟩:=qCq htk
 obtain⟨_,Ag,hIg,_,_,_,_,_,_⟩:=qAs h
 have hd:1≤m.id∧m.id≤5:=(qAq (qAs h).1).2.2.1 _ (by simpa [inB] using Ag)
 have hmk:qJt t.c t.r (nxQ m t) (nxA m t) t.b t.ws m.id ((aruP (sIts m t):Nat):Int)=true:=by
  unfold qJt
  rw[hn]
  simp only[Bool.true_and,Bool.and_eq_true,decide_eq_true_eq]
  exact⟨hd,by omega⟩
 refine tk_of p1 (show 1≤t.r+1∧t.r+1≤1000000000 by omega) p3 ?_ ?_ ?_
 ·show 0≤qEy _ _ _ _ _ _ _ _∧qEy _ _ _ _ _ _ _ _≤nxQ m t
  unfold qEy
  rw[if_pos hmk]
  unfold aruM
  split
  ·omega
  ·split<;>omega
 ·show 0≤qEx _ _ _ _ _ _ _ _∧qEx _ _ _ _ _ _ _ _≤5
  unfold qEx
  rw[if_pos hmk]
  unfold byM
  split
  ·omega
  ·split
   ·split<;>omega
   ·omega
 ·refine slack_right fun x hx=>?_
  unfold wB at p6
  simp only[Bool.and_eq_true]at p6
  exact(qHa _ _ _ _ p6.2 hx).2
theorem qJv{m:Mt}{t:Tok}(h:m.ok=true)(hm:mayB m t=true):(m.sheld t).ok=true:=by
 have htr:=qGb h hm
 unfold mayB at hm
 simp only[Bool.and_eq_true,decide_eq_true_eq]at hm
 obtain⟨htk,hc,hr1,hr2⟩:=hm
 obtain⟨o1,o2,o3,o4,o5,o6⟩:=qCq htk
 obtain⟨h1,h2,h3,h4,h5,h6,h7,h8,h9⟩:=qAs h
 obtain⟨a,b⟩:=sIts_right h3 t
 refine ok_of h1 h2 a ?_ (show 0≤t.r∧t.r≤1000000000 by omega) (show 0≤t.a∧t.a≤60 by omega) ?_ ⟨h8.1,by show m.he≤((aruP (sIts m t):Nat):Int);omega⟩ ?_
 ·show sayB (m.lv.drop _) (m.tx.drop _)=true
  unfold sayB lvsB fitB at h4⊢
  simp only[Bool.and_eq_true,decide_eq_true_eq,List.all_eq_true]at h4⊢
  obtain⟨a,b,c,d⟩:=h4
  exact⟨by rw[List.length_drop];omega,by rw[List.length_drop,List.length_drop];omega,fun y hy=>c y (List.mem_of_mem_drop hy),fun y hy=>d y (List.mem_of_mem_drop hy)⟩
 ·show 0≤qBs m.li m.se ((aruP (sIts m t):Nat):Int) t.a∧qBs m.li m.se ((aruP (sIts m t):Nat):Int) t.a≤((aruP (sIts m t):Nat):Int)
  unfold qBs qDj
  split
  ·split<;>split<;>omega
  ·omega
 ·show(ntB _ _ _ _ _ _||tkB (sTok m t).c (sTok m t).r (sTok m t).q (sTok m t).a (sTok m t).b (sTok m t).ws)=true
  rw[htr]
  simp
def ownP(d:Int)(l:List It):List It:=l.filter fun x=>x.2.1==d
theorem ownP_step{d:Int}{l:List It}{j:Nat}(hj:j<l.length):ownP d (l.take (j+1))=ownP d (l.take j)++if l[j].2.1=d then[l[j]]else[]:=by
 unfold ownP
 rw[List.take_succ_eq_append_getElem hj,List.filter_append]
 congr 1
 by_cases h:l[j].2.1=d
 ·simp[h]
 ·simp[h]
def againW(p:Wp)(m:Mt):Wp:=⟨p.rid,p.ms,p.ma,p.fl++[⟨qCw p.rid p.ms m.id,true,m.la,zIt⟩]++(qCh p.ma m.id (ownP m.id m.its)).map (·.1),p.he,p.sa⟩
theorem elAgain_no(g:Nat)(k:Wv)(i:Nat)(m:Mt)(v:Mv)(w:World)(h:Hid (WkB w g k))(hk:Hid (WkP w k))(hi:i<k.ma.length)(hm:Hid (k.ma[i]=(m,v)))(hok:Hid (m.ok=true))(hl:k.ma.length≤10)(hbl:Hid (ntB m.la.c m.la.r m.la.q m.la.a m.la.b m.la.ws=true)):
  Calls Tryz.prog 158 #[.pointer (some ⟨g,0,none⟩),.int .i64 (i:Int)] w fun e w'=>e=.returned (.int .i64 1)∧Below w.heap.size w w':=by
 have zg:g<w.heap.size:=Bx.lt h.out
 have hsz:Hid (MtS m):=qBi hok.out
 obtain⟨_,gm,off,ha,_,hgl,hr⟩:=hk.out.ma.row hi
 have HR:Hid (w.rangeAt gm (off+i * 16) (mC m v)):=(by have e:=hm.out;rw[e]at hr;exact hr:World.rangeAt _ _ _ _)
 have HMP:Hid (MtP w m v):=(by have:=hk.out.ma.2 k.ma[i] (List.getElem_mem hi);rw[hm.out]at this;exact this:MtP _ _ _)
 have G1a:Hid (Bx w g 56 [.int .i64 k.rid,.slice k.mv.a k.mv.n k.mv.c,.slice (some ⟨gm,off,none⟩) k.mav.n k.mav.c,.slice k.flv.a k.flv.n k.flv.c,.slice k.hev.a k.hev.n k.hev.c,.slice k.sav.a k.sav.n k.sav.c]):=(by have G2:=h.out;unfold WkB at G2;rw[ha]at G2;exact G2:Bx _ _ _ _)
 have HMN:Hid (k.mav.n=k.ma.length):=hk.out.ma.len
 have HWN:Hid (v.ws.n=m.la.ws.length):=HMP.out.ws.slen
 have hin:i<k.mav.n:=by have:=HMN.out;omega
 have i0:(0:Int)≤(i:Int):=by omega
 have i1:(i:Int)<(k.mav.n:Int):=by omega
 have c2:=G1a.out.cell 2
 clear hr ha
 have hz:=Ag (Bx.new w 32 [.int .i64 0,.int .i64 0,.slice none 0 0,.slice none 0 0,.slice none 0 0,.slice none 0 0,.int .i64 0,.int .i64 0,.int .i64 0,.int .i64 0,.int .i64 0,.int .i64 0,.int .i64 0,.int .i64 0,.int .i64 0,.slice none 0 0])
 go_enter Tryz.func158,Tryz.ntmps158
 go_wp2_with (first|(refine qBt rfl 32 _ rfl gm (off+i * 16) rfl [.int .i64 m.id,.int .i64 m.rid,.slice v.ms.a v.ms.n v.ms.c,.slice v.its.a v.its.n v.its.c,.slice v.lv.a v.lv.n v.lv.c,.slice v.tx.a v.tx.n v.tx.c,.int .i64 m.rd,.int .i64 m.se,.int .i64 m.li,.int .i64 m.he,.int .i64 m.la.c,.int .i64 m.la.r,.int .i64 m.la.q,.int .i64 m.la.a,.int .i64 m.la.b,.slice v.ws.a v.ws.n v.ws.c] HR.out _ Tryz.underlying32 rfl Tryz.sizeM ?_)|(refine qAd rfl 32 _ _ rfl w.heap.size rfl 32 _ hz.out [.int .i64 m.id,.int .i64 m.rid,.slice v.ms.a v.ms.n v.ms.c,.slice v.its.a v.its.n v.its.c,.slice v.lv.a v.lv.n v.lv.c,.slice v.tx.a v.tx.n v.tx.c,.int .i64 m.rd,.int .i64 m.se,.int .i64 m.li,.int .i64 m.he,.int .i64 m.la.c,.int .i64 m.la.r,.int .i64 m.la.q,.int .i64 m.la.a,.int .i64 m.la.b,.slice v.ws.a v.ws.n v.ws.c] rfl rfl Tryz.sizeM rfl ?_;intro w1 OB TB;have b:Below w.heap.size w w1:=((Below.refl _ _).alloc (Nat.le_refl _) _).trans (TB.below (Nat.le_refl _));have MB:=Ag OB;clear OB TB;refine Stp.here ?_))
 refine Stp.go ?_
 obtain⟨G1,P1,HMP⟩:=cy3 (h.out.later b) (hk.out.below b) (HMP.out.later b)
 have B1:Hid (Below w.heap.size w w1):=b
 have z1:=MB.out.lt
 clear b hz c2
 go_wp2_with (first|(refine qAb rfl 30 _ rfl w.heap.size 10 rfl 32 _ MB.out (tX m.la.c m.la.r m.la.q m.la.a m.la.b v.ws) rfl _ Tryz.underlying30 rfl Tryz.sizeT ?_))
 refine(qJa m.la.c m.la.r m.la.q m.la.a m.la.b v.ws m.la.ws _ HWN).mono ?_
 rintro e w2 ⟨rfl,b⟩
 obtain⟨G1,P1,HMP,MB,B1⟩:=cy5 (G1.out.later b) (P1.out.below b) (HMP.out.later b) (MB.out.later b) (qAa B1.out b)
 have z2:=b.size
 clear b
 rw[hbl.out]
 go_wp2_with fail
 go_ret
 exact⟨rfl,B1.out⟩
theorem elAgain_yes(g:Nat)(k:Wv)(i:Nat)(m:Mt)(v:Mv)(w:World)(h:Hid (WkB w g k))(hk:Hid (WkP w k))(hi:i<k.ma.length)(hm:Hid (k.ma[i]=(m,v)))(hok:Hid (m.ok=true))(hl:k.ma.length≤10)(hbl:Hid (ntB m.la.c m.la.r m.la.q m.la.a m.la.b m.la.ws=false))(hml:k.ms.length≤1048576)(hfl:k.fl.length≤990000):
  Calls Tryz.prog 158 #[.pointer (some ⟨g,0,none⟩),.int .i64 (i:Int)] w fun e w'=>e=.returned (.int .i64 0)∧∃k':Wv,WkB w' g k'∧WkP w' k'∧k'.pl=againW k.pl m∧KeepBut g w w':=by
 have zg:g<w.heap.size:=Bx.lt h.out
 have hsz:Hid (MtS m):=qBi hok.out
 obtain⟨_,gm,off,ha,_,hgl,hr⟩:=hk.out.ma.row hi
 have HR:Hid (w.rangeAt gm (off+i * 16) (mC m v)):=(by have e:=hm.out;rw[e]at hr;exact hr:World.rangeAt _ _ _ _)
 have HMP:Hid (MtP w m v):=(by have:=hk.out.ma.2 k.ma[i] (List.getElem_mem hi);rw[hm.out]at this;exact this:MtP _ _ _)
 have G1a:Hid (Bx w g 56 [.int .i64 k.rid,.slice k.mv.a k.mv.n k.mv.c,.slice (some ⟨gm,off,none⟩) k.mav.n k.mav.c,.slice k.flv.a k.flv.n k.flv.c,.slice k.hev.a k.hev.n k.hev.c,.slice k.sav.a k.sav.n k.sav.c]):=(by have G2:=h.out;unfold WkB at G2;rw[ha]at G2;exact G2:Bx _ _ _ _)
 have HMN:Hid (k.mav.n=k.ma.length):=hk.out.ma.len
 have HWN:Hid (v.ws.n=m.la.ws.length):=HMP.out.ws.slen
 have hin:i<k.mav.n:=by have:=HMN.out;omega
 have i0:(0:Int)≤(i:Int):=by omega
 have i1:(i:Int)<(k.mav.n:Int):=by omega
 have c2:=G1a.out.cell 2
 clear hr ha
 have hz:=Ag (Bx.new w 32 [.int .i64 0,.int .i64 0,.slice none 0 0,.slice none 0 0,.slice none 0 0,.slice none 0 0,.int .i64 0,.int .i64 0,.int .i64 0,.int .i64 0,.int .i64 0,.int .i64 0,.int .i64 0,.int .i64 0,.int .i64 0,.slice none 0 0])
 go_enter Tryz.func158,Tryz.ntmps158
 go_wp2_with (first|(refine qBt rfl 32 _ rfl gm (off+i * 16) rfl [.int .i64 m.id,.int .i64 m.rid,.slice v.ms.a v.ms.n v.ms.c,.slice v.its.a v.its.n v.its.c,.slice v.lv.a v.lv.n v.lv.c,.slice v.tx.a v.tx.n v.tx.c,.int .i64 m.rd,.int .i64 m.se,.int .i64 m.li,.int .i64 m.he,.int .i64 m.la.c,.int .i64 m.la.r,.int .i64 m.la.q,.int .i64 m.la.a,.int .i64 m.la.b,.slice v.ws.a v.ws.n v.ws.c] HR.out _ Tryz.underlying32 rfl Tryz.sizeM ?_)|(refine qAd rfl 32 _ _ rfl w.heap.size rfl 32 _ hz.out [.int .i64 m.id,.int .i64 m.rid,.slice v.ms.a v.ms.n v.ms.c,.slice v.its.a v.its.n v.its.c,.slice v.lv.a v.lv.n v.lv.c,.slice v.tx.a v.tx.n v.tx.c,.int .i64 m.rd,.int .i64 m.se,.int .i64 m.li,.int .i64 m.he,.int .i64 m.la.c,.int .i64 m.la.r,.int .i64 m.la.q,.int .i64 m.la.a,.int .i64 m.la.b,.slice v.ws.a v.ws.n v.ws.c] rfl rfl Tryz.sizeM rfl ?_;intro w1 OB TB;have b:Below w.heap.size w w1:=((Below.refl _ _).alloc (Nat.le_refl _) _).trans (TB.below (Nat.le_refl _));have MB:=Ag OB;clear OB TB;refine Stp.here ?_))
 refine Stp.go ?_
 obtain⟨G1,P1,HMP⟩:=cy3 (h.out.later b) (hk.out.below b) (HMP.out.later b)
 have B1:Hid (Below w.heap.size w w1):=b
 have z1:=MB.out.lt
 clear b hz c2
 go_wp2_with (first|(refine qAb rfl 30 _ rfl w.heap.size 10 rfl 32 _ MB.out (tX m.la.c m.la.r m.la.q m.la.a m.la.b v.ws) rfl _ Tryz.underlying30 rfl Tryz.sizeT ?_))
 refine(qJa m.la.c m.la.r m.la.q m.la.a m.la.b v.ws m.la.ws _ HWN).mono ?_
 rintro e w2 ⟨rfl,b⟩
 obtain⟨G1,P1,HMP,MB,B1⟩:=cy5 (G1.out.later b) (P1.out.below b) (HMP.out.later b) (MB.out.later b) (qAa B1.out b)
 have z2:=b.size
 clear b
 rw[hbl.out]
 have b:=bA w2 (.cells #[] 41)
 have S3:Hid (SlI (w2.alloc (.cells #[] 41)) w2.heap.size (.slice (some ⟨w2.heap.size,0,none⟩) 0 0) []):=SlI.made w2 w2.heap.size (Nat.le_refl _)
 have B3:=Ag b
 have HIN:Hid (v.its.n=m.its.length):=HMP.out.its.len
 have hil:m.its.length≤60:=qCt (qAs hok.out).2.2.1
 have hin2:v.its.n≤60:=by have:=HIN.out;omega
 clear b
 go_wp2_with fail
 generalize w2.alloc (.cells #[] 41)=W3 at *
 go_loopw [6,7] (fun v6 v7 wr=>∃(j:Nat),j≤v.its.n∧v7=.int .i64 (j:Int)∧Hid (SlI wr w2.heap.size v6 (ownP m.id (m.its.take j)))∧Hid (Below w2.heap.size w2 wr)) (fun _ v7 _=>v.its.n - (intOf v7).toNat)
 case atStart=>exact⟨0,Nat.zero_le _,rfl,by simpa [ownP] using S3,B3⟩
 case round=>
  clear S3 B3
  obtain⟨j,hj,rfl,SR,BR⟩:=hrel
  have MR:=Ag (MB.out.later BR.out)
  have c3:=MR.out.cell 3
  have zr:w2.heap.size≤wr.heap.size:=BR.out.size
  by_cases hlt:j<v.its.n
  ·have hjL:j<m.its.length:=by have:=HIN.out;omega
   obtain⟨gi,oi,hia,_,hil2,hir⟩:=HMP.out.its.at hjL
   obtain⟨⟨q0,f0,l0,t0⟩,hy⟩: ∃y:It,m.its[j]=y:=⟨_,rfl⟩
   rw[hy]at hir
   have HY:Hid (m.its[j]=(q0,f0,l0,t0)):=hy
   have HIR:=Ag (qAk hir hil2 BR.out)
   have hil3:gi<wr.heap.size:=by omega
   have hc1:wr.cell? ⟨gi,oi+j * 4+1,none⟩=some (.int .i64 f0):=by have:=qCx HIR.out 1 (v:=.int .i64 f0) rfl;simpa using this
   have HC:Hid (wr.cell? ⟨gi,oi+j * 4+1,none⟩=some (.int .i64 f0)):=hc1
   clear hy hir hc1
   obtain⟨⟨msa,msn,msc⟩,⟨ia,inn,icc⟩,vlv,vtx,vws⟩:=v
   simp only at hia
   subst hia
   have i2:(0:Int)≤(j:Int):=by omega
   have i3:(j:Int)<(inn:Int):=by have:=hlt;simp at this;omega
   go_wp2_with fail
   go_cut [34]from 19 to 42 (fun a34 wx=>a34=.bool (f0==m.id)∧wx=wr.drew)
   case first=>
    refine wp_region_held_drew (S:=fun w'=>w'=wr.drew) (by kernel_rfl) rfl (fun Ah=>?_)
    refine tkQ 0 rfl (by kernel_rfl) (by rfl) (fun _ _=>by simp only[Aa,Ab,Ac];go_simp;try with_reducible rfl) Ah ?_ fun _ _ _ h=>h
    try simp only[Act.put,Aa,Ab,Ac,Ad,Ae,Af]
    refine tkH (i:=1) (v:=_) rfl (by kernel_rfl) (fun _ _ _ h=>h) (qAf (by rfl) 27 _ rfl w.heap.size 3 rfl 32 _ (fun w hS=>by subst hS;exact MR.out.later (Below.refl _ _).drew) (.slice (some ⟨gi,oi,none⟩) inn icc) rfl _ Tryz.underlying27 rfl) Ah ?_
    try simp only[Act.put,Aa,Ab,Ac,Ad,Ae,Af]
    refine tkQ 2 rfl (by kernel_rfl) (by rfl) (fun _ _=>by simp only[Aa,Ab,Ac];go_simp;try with_reducible rfl) Ah ?_ fun _ _ _ h=>h
    try simp only[Act.put,Aa,Ab,Ac,Ad,Ae,Af]
    refine tkQ 3 rfl (by kernel_rfl) (by rfl) (fun _ _=>by simp only[Aa,Ab,Ac];go_simp;try with_reducible rfl) Ah ?_ fun _ _ _ h=>h
    try simp only[Act.put,Aa,Ab,Ac,Ad,Ae,Af]
    refine tkQ 4 rfl (by kernel_rfl) (by rfl) (fun _ _=>by simp only[Aa,Ab,Ac];go_simp;try with_reducible rfl) Ah ?_ fun _ _ _ h=>h
    try simp only[Act.put,Aa,Ab,Ac,Ad,Ae,Af]
    refine tkH (i:=5) (v:=.int .i64 f0) rfl (by kernel_rfl) (fun _ _ _ h=>h) (Or.inl ⟨by rfl,fun w hS=>by subst hS;have hc0:=HC.out;go_simp⟩) Ah ?_
    try simp only[Act.put,Ad,Ae,Af]
    refine tkQ 6 rfl (by kernel_rfl) (by rfl) (fun _ _=>by simp only[Aa,Ab,Ac];go_simp;try with_reducible rfl) Ah ?_ fun _ _ _ h=>h
    try simp only[Act.put,Aa,Ab,Ac,Ad,Ae,Af]
    refine tkH (i:=7) (v:=_) rfl (by kernel_rfl) (fun _ _ _ h=>h) (qAf (by rfl) 3 _ rfl w.heap.size 0 rfl 32 _ (fun w hS=>by subst hS;exact MR.out.later (Below.refl _ _).drew) (.int .i64 m.id) rfl _ Tryz.underlying3 rfl) Ah ?_
    try simp only[Act.put,Aa,Ab,Ac,Ad,Ae,Af]
    refine tkQ 8 rfl (by kernel_rfl) (by rfl) (fun _ _=>by simp only[Aa,Ab,Ac];go_simp;try with_reducible rfl) Ah ?_ fun _ _ _ h=>h
    try simp only[Act.put,Aa,Ab,Ac,Ad,Ae,Af]
    refine wpAnyH_done (by kernel_rfl) ?_ _
    try go_wp2_with fail
    go_meet
    exact⟨rfl,rfl⟩
   case rest=>
   obtain⟨rfl,rfl⟩:=hcut
   have bd:Below wr.heap.size wr wr.drew:=(Below.refl _ _).drew
   obtain⟨MR,SR,HIR,BR⟩:=cy4 (MR.out.later bd) (SR.out.below bd) (qAk HIR.out hil3 bd) (qAa BR.out bd)
   clear bd HC c3 hil3
   generalize wr.drew=Wd at *
   have c3:=MR.out.cell 3
   have zr:w2.heap.size≤Wd.heap.size:=BR.out.size
   have hol:(ownP m.id (m.its.take j)).length≤1048576:=by have e1:(ownP m.id (m.its.take j)).length≤(m.its.take j).length:=List.length_filter_le _ _;rw[List.length_take]at e1;omega
   by_cases hq:f0=m.id
   ·have hd:(f0==m.id)=true:=by simpa using hq
    have E:Hid (ownP m.id (m.its.take j)++[(q0,f0,l0,t0)]=ownP m.id (m.its.take (j+1))):=(by rw[ownP_step hjL,HY.out,if_pos hq]:_=_)
    rw[hd]
    clear hq
    go_wp2_with (first|(refine qBt rfl 41 _ rfl gi (oi+j * 4) rfl [.int .i64 q0,.int .i64 f0,.int .i64 l0,.string t0] HIR.out _ Tryz.underlying41 rfl Tryz.sizeI ?_)|(at_builtin;refine qAu rfl _ _ 27 rfl Tryz.underlying27 w2.heap.size u6 (ownP m.id (m.its.take j)) rfl SR.out (q0,f0,l0,t0) rfl hol zr ?_;intro v9 w9 s9 g9 b9 _;refine Stp.here ?_))
    refine Stp.go ?_
    have S9:Hid (SlI w9 w2.heap.size v9 (ownP m.id (m.its.take (j+1)))):=(by rw[←E.out];exact s9:SlI _ _ _ _)
    have B9:=Ag (BR.out.trans b9)
    clear s9 g9 b9 c3
    go_wp2_with fail
    go_roundw
    case rel=>exact⟨j+1,by omega,by go_num,S9,B9⟩
    case measure=>simp[intOf];omega
   ·have hd:(f0==m.id)=false:=by simpa using hq
    have E:Hid (ownP m.id (m.its.take j)=ownP m.id (m.its.take (j+1))):=(by rw[ownP_step hjL,HY.out,if_neg hq,List.append_nil]:_=_)
    rw[hd]
    clear hq
    go_wp2_with fail
    go_roundw
    case rel=>exact⟨j+1,by omega,by go_num,(by rw[←E.out];exact SR.out:SlI _ _ _ _),BR⟩
    case measure=>simp[intOf];omega
  ·have hjn:j=m.its.length:=by have:=HIN.out;omega
   have SR:Hid (SlI wr w2.heap.size u6 (ownP m.id m.its)):=(by have:=SR.out;rw[hjn,List.take_length]at this;exact this:SlI _ _ _ _)
   have hol:(ownP m.id m.its).length≤60:=by have e1:(ownP m.id m.its).length≤m.its.length:=List.length_filter_le _ _;omega
   obtain⟨z,hz⟩:=SlI.sv SR.out
   subst hz
   have SR:Hid (SlI wr 0 z.v (ownP m.id m.its)):=SlI.down SR.out (Nat.zero_le _)
   have G4:Hid (WkB wr g k):=G1.out.later BR.out
   have P4:=Ag (P1.out.below BR.out)
   have W4:Hid (OwnI wr 0 v.ws.v m.la.ws):=HMP.out.ws.keep fun _ _ hk=>BR.out.block _ hk
   have KW:Hid (KeepBut g w wr):=qAc (B1.out.trans (BR.out.mono B1.out.size))
   have c0:=MR.out.cell 0
   have hd: ¬j<v.its.n:=hlt
   clear hjn
   go_wp2_with (first|(refine qAb rfl 30 _ rfl w.heap.size 10 rfl 32 _ MR.out (tX m.la.c m.la.r m.la.q m.la.a m.la.b v.ws) rfl _ Tryz.underlying30 rfl Tryz.sizeT ?_))
   refine(qHu g k m.id m.la v.ws _ G4 P4 W4 hsz.out.ws hml (by omega)).mono ?_
   rintro e w5 ⟨rfl,z5,y5,g5,p5,k5⟩
   have G5:Hid (WkB w5 g (k.setF (k.fl++[(⟨qCw k.rid k.ms m.id,true,m.la,zIt⟩,y5)]) z5)):=g5
   obtain⟨P5,MR5,SR5,KW5⟩:=cy4 p5 (MR.out.keepb k5 (by omega)) (SlI.keepb SR.out G4.out k5 (by decide)) (KW.out.trans k5)
   clear g5 p5 k5 c0
   have c0:=MR5.out.cell 0
   go_wp2_with fail
   refine(qJy g _ m.id z (ownP m.id m.its) _ G5 P5 SR5 (by simpa [Wv.setF] using hl) (by omega) (by simp only[Wv.setF,List.length_append,List.length_cons,List.length_nil];omega)).mono ?_
   rintro e w6 ⟨rfl,z6,g6,p6,k6⟩
   go_wp2_with fail
   go_ret
   refine⟨rfl,_,g6,p6,?_,KW5.out.trans k6⟩
   simp only[Wv.pl,Wv.setF,againW,List.map_append,List.map_cons,List.map_nil]
def sayW(p:Wp)(i:Nat)(m:Mt)(l:Int)(x:ByteArray):Wp:=⟨p.rid,p.ms,p.ma.set i (sayM m l x),p.fl,p.he,p.sa⟩
theorem elDo_hear(g:Nat)(k:Wv)(i:Nat)(m:Mt)(v:Mv)(d at0 l:Int)(x:ByteArray)(w:World)(h:Hid (WkB w g k))(hk:Hid (WkP w k))(hi:i<k.ma.length)(hm:Hid (k.ma[i]=(m,v)))(hat:Hid (atW (k.ma.map (·.1)) d=(i:Int)))(hok:Hid (m.ok=true))(hl:k.ma.length≤10)(hhe:k.he.length=k.ma.length)(hhl:Hid (∀e∈k.he,e.1.length≤1000000)):
  Calls Tryz.prog 87 #[.pointer (some ⟨g,0,none⟩),.agg #[.int .i64 7,.int .i64 d,.int .i64 at0,.int .i64 l,.string x]] w fun e w'=>e=.returned (.int .i64 0)∧∃k':Wv,WkB w' g k'∧WkP w' k'∧k'.pl=hearW k.pl i m∧KeepBut g w w':=by
 have zg:g<w.heap.size:=Bx.lt h.out
 have hsz:Hid (MtS m):=qBi hok.out
 have b0:=bA w (.cells #[.int .i64 7,.int .i64 d,.int .i64 at0,.int .i64 l,.string x] 64)
 obtain⟨TB,G0,P0,B0⟩:=cy4 (Bx.new w 64 [.int .i64 7,.int .i64 d,.int .i64 at0,.int .i64 l,.string x]) (h.out.later b0) (hk.out.below b0) b0
 have t1:=TB.out.cell 1
 clear b0 h hk
 go_enter Tryz.func87,Tryz.ntmps87
 go_wp2_with fail
 have zW:w.heap.size<(w.alloc (.cells #[.int .i64 7,.int .i64 d,.int .i64 at0,.int .i64 l,.string x] 64)).heap.size:=TB.out.lt
 generalize (w.alloc (.cells #[.int .i64 7,.int .i64 d,.int .i64 at0,.int .i64 l,.string x] 64))=W at *
 refine(qCj g k d _ G0 P0.out.ma (by omega)).mono ?_
 rintro e w1 ⟨rfl,b⟩
 rw[hat.out]
 obtain⟨TB,G1,P1,B1⟩:=cy4 (TB.out.later b) (G0.out.later b) (P0.out.below b) (qAa B0.out b)
 have z1:=b.size
 clear b G0 P0 B0 t1
 have t0:=TB.out.cell 0
 go_wp2_with fail
 refine(elHear_any g k i m v _ G1 P1 hi hm hok hl hhe hhl).mono ?_
 rintro e w2 ⟨rfl,k2,g2,p2,e2,kb⟩
 go_wp2_with fail
 go_ret
 exact⟨rfl,k2,g2,p2,e2,(qAc B1.out).trans kb⟩
theorem qLb(g:Nat)(k:Wv)(i:Nat)(m:Mt)(v:Mv)(d at0 l:Int)(x:ByteArray)(w:World)(h:Hid (WkB w g k))(hk:Hid (WkP w k))(hi:i<k.ma.length)(hm:Hid (k.ma[i]=(m,v)))(hat:Hid (atW (k.ma.map (·.1)) d=(i:Int)))(hok:Hid (m.ok=true))(hl:k.ma.length≤10)(hbl:Hid (ntB m.la.c m.la.r m.la.q m.la.a m.la.b m.la.ws=true)):
  Calls Tryz.prog 87 #[.pointer (some ⟨g,0,none⟩),.agg #[.int .i64 6,.int .i64 d,.int .i64 at0,.int .i64 l,.string x]] w fun e w'=>e=.returned (.int .i64 1)∧Below w.heap.size w w':=by
 have zg:g<w.heap.size:=Bx.lt h.out
 have hsz:Hid (MtS m):=qBi hok.out
 have b0:=bA w (.cells #[.int .i64 6,.int .i64 d,.int .i64 at0,.int .i64 l,.string x] 64)
 obtain⟨TB,G0,P0,B0⟩:=cy4 (Bx.new w 64 [.int .i64 6,.int .i64 d,.int .i64 at0,.int .i64 l,.string x]) (h.out.later b0) (hk.out.below b0) b0
 have t1:=TB.out.cell 1
 clear b0 h hk
 go_enter Tryz.func87,Tryz.ntmps87
 go_wp2_with fail
 have zW:w.heap.size<(w.alloc (.cells #[.int .i64 6,.int .i64 d,.int .i64 at0,.int .i64 l,.string x] 64)).heap.size:=TB.out.lt
 generalize (w.alloc (.cells #[.int .i64 6,.int .i64 d,.int .i64 at0,.int .i64 l,.string x] 64))=W at *
 refine(qCj g k d _ G0 P0.out.ma (by omega)).mono ?_
 rintro e w1 ⟨rfl,b⟩
 rw[hat.out]
 obtain⟨TB,G1,P1,B1⟩:=cy4 (TB.out.later b) (G0.out.later b) (P0.out.below b) (qAa B0.out b)
 have z1:=b.size
 clear b G0 P0 B0 t1
 have t0:=TB.out.cell 0
 go_wp2_with fail
 refine(elAgain_no g k i m v _ G1 P1 hi hm hok hl hbl).mono ?_
 rintro e w2 ⟨rfl,b⟩
 go_wp2_with fail
 go_ret
 exact⟨rfl,qAa B1.out b⟩
theorem qJc(g:Nat)(k:Wv)(i:Nat)(m:Mt)(v:Mv)(d at0 l:Int)(x:ByteArray)(w:World)(h:Hid (WkB w g k))(hk:Hid (WkP w k))(hi:i<k.ma.length)(hm:Hid (k.ma[i]=(m,v)))(hat:Hid (atW (k.ma.map (·.1)) d=(i:Int)))(hok:Hid (m.ok=true))(hl:k.ma.length≤10)(hbl:Hid (ntB m.la.c m.la.r m.la.q m.la.a m.la.b m.la.ws=false))(hml:k.ms.length≤1048576)(hfl:k.fl.length≤990000):
  Calls Tryz.prog 87 #[.pointer (some ⟨g,0,none⟩),.agg #[.int .i64 6,.int .i64 d,.int .i64 at0,.int .i64 l,.string x]] w fun e w'=>e=.returned (.int .i64 0)∧∃k':Wv,WkB w' g k'∧WkP w' k'∧k'.pl=againW k.pl m∧KeepBut g w w':=by
 have zg:g<w.heap.size:=Bx.lt h.out
 have hsz:Hid (MtS m):=qBi hok.out
 have b0:=bA w (.cells #[.int .i64 6,.int .i64 d,.int .i64 at0,.int .i64 l,.string x] 64)
 obtain⟨TB,G0,P0,B0⟩:=cy4 (Bx.new w 64 [.int .i64 6,.int .i64 d,.int .i64 at0,.int .i64 l,.string x]) (h.out.later b0) (hk.out.below b0) b0
 have t1:=TB.out.cell 1
 clear b0 h hk
 go_enter Tryz.func87,Tryz.ntmps87
 go_wp2_with fail
 have zW:w.heap.size<(w.alloc (.cells #[.int .i64 6,.int .i64 d,.int .i64 at0,.int .i64 l,.string x] 64)).heap.size:=TB.out.lt
 generalize (w.alloc (.cells #[.int .i64 6,.int .i64 d,.int .i64 at0,.int .i64 l,.string x] 64))=W at *
 refine(qCj g k d _ G0 P0.out.ma (by omega)).mono ?_
 rintro e w1 ⟨rfl,b⟩
 rw[hat.out]
 obtain⟨TB,G1,P1,B1⟩:=cy4 (TB.out.later b) (G0.out.later b) (P0.out.below b) (qAa B0.out b)
 have z1:=b.size
 clear b G0 P0 B0 t1
 have t0:=TB.out.cell 0
 go_wp2_with fail
 refine(elAgain_yes g k i m v _ G1 P1 hi hm hok hl hbl hml hfl).mono ?_
 rintro e w2 ⟨rfl,k2,g2,p2,e2,kb⟩
 go_wp2_with fail
 go_ret
 exact⟨rfl,k2,g2,p2,e2,(qAc B1.out).trans kb⟩
def SayP(okb:Bool)(g:Nat)(PP:Wp)(w:World)(e:Ending)(w':World):Prop:=
 match okb with
 |false=>e=.returned (.int .i64 1)∧Below w.heap.size w w'
 |true=>e=.returned (.int .i64 0)∧∃k':Wv,WkB w' g k'∧WkP w' k'∧k'.pl=PP∧KeepBut g w w'
theorem elDo_say(g:Nat)(k:Wv)(i:Nat)(m:Mt)(v:Mv)(d at0 l:Int)(x:ByteArray)(w:World)(h:Hid (WkB w g k))(hk:Hid (WkP w k))(hi:i<k.ma.length)(hm:Hid (k.ma[i]=(m,v)))(hat:Hid (atW (k.ma.map (·.1)) d=(i:Int)))(hok:Hid (m.ok=true))(hl:k.ma.length≤10)(okb:Bool)(m2:Mt)(hS:Hid (∀w9:World,Hid (MtP w9 m v)→Calls Tryz.prog 155 #[.agg #[.int .i64 m.id,.int .i64 m.rid,.slice v.ms.a v.ms.n v.ms.c,.slice v.its.a v.its.n v.its.c,.slice v.lv.a v.lv.n v.lv.c,.slice v.tx.a v.tx.n v.tx.c,.int .i64 m.rd,.int .i64 m.se,.int .i64 m.li,.int .i64 m.he,.int .i64 m.la.c,.int .i64 m.la.r,.int .i64 m.la.q,.int .i64 m.la.a,.int .i64 m.la.b,.slice v.ws.a v.ws.n v.ws.c],.int .i64 l,.string x] w9 fun e w'=>∃u:Mv,e=.returned (.tuple #[.agg #[.int .i64 m2.id,.int .i64 m2.rid,.slice u.ms.a u.ms.n u.ms.c,.slice u.its.a u.its.n u.its.c,.slice u.lv.a u.lv.n u.lv.c,.slice u.tx.a u.tx.n u.tx.c,.int .i64 m2.rd,.int .i64 m2.se,.int .i64 m2.li,.int .i64 m2.he,.int .i64 m2.la.c,.int .i64 m2.la.r,.int .i64 m2.la.q,.int .i64 m2.la.a,.int .i64 m2.la.b,.slice u.ws.a u.ws.n u.ws.c],.bool okb])∧(okb=true→MtP w' m2 u)∧Below w9.heap.size w9 w')):
  Calls Tryz.prog 87 #[.pointer (some ⟨g,0,none⟩),.agg #[.int .i64 1,.int .i64 d,.int .i64 at0,.int .i64 l,.string x]] w fun e w'=>SayP okb g ⟨k.pl.rid,k.pl.ms,k.pl.ma.set i m2,k.pl.fl,k.pl.he,k.pl.sa⟩ w e w':=by
 have zg:g<w.heap.size:=Bx.lt h.out
 have hsz:Hid (MtS m):=qBi hok.out
 have b0:=bA w (.cells #[.int .i64 1,.int .i64 d,.int .i64 at0,.int .i64 l,.string x] 64)
 obtain⟨TB,G0,P0,B0⟩:=cy4 (Bx.new w 64 [.int .i64 1,.int .i64 d,.int .i64 at0,.int .i64 l,.string x]) (h.out.later b0) (hk.out.below b0) b0
 have t1:=TB.out.cell 1
 clear b0 h hk
 go_enter Tryz.func87,Tryz.ntmps87
 go_wp2_with fail
 have zW:w.heap.size<(w.alloc (.cells #[.int .i64 1,.int .i64 d,.int .i64 at0,.int .i64 l,.string x] 64)).heap.size:=TB.out.lt
 generalize (w.alloc (.cells #[.int .i64 1,.int .i64 d,.int .i64 at0,.int .i64 l,.string x] 64))=W at *
 refine(qCj g k d _ G0 P0.out.ma (by omega)).mono ?_
 rintro e w1 ⟨rfl,b⟩
 rw[hat.out]
 obtain⟨TB,G1,P1,B1⟩:=cy4 (TB.out.later b) (G0.out.later b) (P0.out.below b) (qAa B0.out b)
 have z1:=b.size
 clear b G0 P0 B0 t1
 have t0:=TB.out.cell 0
 obtain⟨_,gm,off,ha,_,hgl,hr⟩:=P1.out.ma.row hi
 have HR:Hid (w1.rangeAt gm (off+i * 16) (mC m v)):=(by have e:=hm.out;rw[e]at hr;exact hr:World.rangeAt _ _ _ _)
 have HMP:Hid (MtP w1 m v):=(by have:=P1.out.ma.2 k.ma[i] (List.getElem_mem hi);rw[hm.out]at this;exact this:MtP _ _ _)
 have G1a:Hid (Bx w1 g 56 [.int .i64 k.rid,.slice k.mv.a k.mv.n k.mv.c,.slice (some ⟨gm,off,none⟩) k.mav.n k.mav.c,.slice k.flv.a k.flv.n k.flv.c,.slice k.hev.a k.hev.n k.hev.c,.slice k.sav.a k.sav.n k.sav.c]):=(by have G2:=G1.out;unfold WkB at G2;rw[ha]at G2;exact G2:Bx _ _ _ _)
 have HMN:Hid (k.mav.n=k.ma.length):=P1.out.ma.len
 have hin:i<k.mav.n:=by have:=HMN.out;omega
 have i0:(0:Int)≤(i:Int):=by omega
 have i1:(i:Int)<(k.mav.n:Int):=by omega
 clear hr ha
 go_wp2_with fail
 go_cut [6,7] (fun a6 a7 wx=>∃(gb:Nat) (u:Mv),a6=.pointer (some ⟨gb,0,none⟩)∧a7=.bool okb∧Bx wx gb 32 (mC m2 u)∧(okb=true→MtP wx m2 u)∧w1.heap.size≤gb∧Below w1.heap.size w1 wx)
 case first=>
  have c:Below w1.heap.size w1 w1.drew:=(Below.refl _ _).drew
  refine wp_region_held_drew (S:=fun w'=>Below w1.heap.size w1 w') (by kernel_rfl) c (fun Ah=>?_)
  refine tkQ 0 rfl (by kernel_rfl) (by rfl) (fun _ _=>by simp only[Aa,Ab,Ac];go_simp;try with_reducible rfl) Ah ?_ fun _ _ _ h=>h
  try simp only[Act.put,Aa,Ab,Ac,Ad,Ae,Af]
  refine tkQ 1 rfl (by kernel_rfl) (by rfl) (fun _ _=>by simp only[Aa,Ab,Ac];go_simp;try with_reducible rfl) Ah ?_ fun _ _ _ h=>h
  try simp only[Act.put,Aa,Ab,Ac,Ad,Ae,Af]
  refine tkQ 2 rfl (by kernel_rfl) (by rfl) (fun _ _=>by simp only[Aa,Ab,Ac];go_simp;try with_reducible rfl) Ah ?_ fun _ _ _ h=>h
  try simp only[Act.put,Aa,Ab,Ac,Ad,Ae,Af]
  refine tkH (i:=3) (v:=_) rfl (by kernel_rfl) (fun _ _ _ h=>h) (qAf (by rfl) 52 _ rfl g 2 rfl 56 _ (fun w hS=>G1a.out.later hS) (.slice (some ⟨gm,off,none⟩) k.mav.n k.mav.c) rfl _ Tryz.underlying52 rfl) Ah ?_
  try simp only[Act.put,Aa,Ab,Ac,Ad,Ae,Af]
  refine tkQ 4 rfl (by kernel_rfl) (by rfl) (fun _ _=>by simp only[Aa,Ab,Ac];go_simp;try with_reducible rfl) Ah ?_ fun _ _ _ h=>h
  try simp only[Act.put,Aa,Ab,Ac,Ad,Ae,Af]
  refine tkQ 5 rfl (by kernel_rfl) (by rfl) (fun _ _=>by simp only[Aa,Ab,Ac];go_simp;try with_reducible rfl) Ah ?_ fun _ _ _ h=>h
  try simp only[Act.put,Aa,Ab,Ac,Ad,Ae,Af]
  refine tkH (i:=6) (v:=_) rfl (by kernel_rfl) (fun _ _ _ h=>h) (qDa (by rfl) 32 _ rfl gm (off+i * 16) (by rfl) (mC m v) (fun w hS=>qAk HR.out hgl hS) _ Tryz.underlying32 rfl Tryz.sizeM) Ah ?_
  try simp only[Act.put,Ad,Ae,Af]
  refine tkQ 7 rfl (by kernel_rfl) (by rfl) (fun _ _=>by simp only[Aa,Ab,Ac];go_simp;try with_reducible rfl) Ah ?_ fun _ _ _ h=>h
  try simp only[Act.put,Aa,Ab,Ac,Ad,Ae,Af]
  refine tkH (i:=8) (v:=_) rfl (by kernel_rfl) (fun _ _ _ h=>h) (qAf (by rfl) 3 _ rfl w.heap.size 3 rfl 64 _ (fun w hS=>TB.out.later hS) (.int .i64 l) rfl _ Tryz.underlying3 rfl) Ah ?_
  try simp only[Act.put,Aa,Ab,Ac,Ad,Ae,Af]
  refine tkQ 9 rfl (by kernel_rfl) (by rfl) (fun _ _=>by simp only[Aa,Ab,Ac];go_simp;try with_reducible rfl) Ah ?_ fun _ _ _ h=>h
  try simp only[Act.put,Aa,Ab,Ac,Ad,Ae,Af]
  refine tkH (i:=10) (v:=_) rfl (by kernel_rfl) (fun _ _ _ h=>h) (qAf (by rfl) 9 _ rfl w.heap.size 4 rfl 64 _ (fun w hS=>TB.out.later hS) (.string x) rfl _ Tryz.underlying9 rfl) Ah ?_
  try simp only[Act.put,Aa,Ab,Ac,Ad,Ae,Af]
  refine wpAnyH_ready (rs:=[11,15]) (by kernel_rfl) (by simp) ?_
  refine(AllReadyH.cons (i:=11) rfl (fun K hK=>?_) (AllReadyH.cons (i:=15) rfl (fun K hK=>?_) AllReadyH.nil))
  ·skip
   rw[if_pos (by rfl)]
   simp only[Aa,Ab,Ac]
   go_simp
   refine(hS.out _ (show Hid (MtP w1.drew m v)from HMP.out.later c)).mono ?_
   rintro e y1 ⟨u,rfl,ou,b⟩
   have HU:Hid (okb=true→MtP y1 m2 u):=ou
   have c:=qAa c b
   refine hK.out _ _ (c) (fun Ah=>?_)
   clear hK K
   try simp only[Act.put,Aa,Ab,Ac,Ad,Ae,Af]
   clear b ou
   refine tkQ 12 rfl (by kernel_rfl) (by rfl) (fun _ _=>by simp only[Aa,Ab,Ac];go_simp;try with_reducible rfl) Ah ?_ fun _ _ _ h=>h
   try simp only[Act.put,Aa,Ab,Ac,Ad,Ae,Af]
   refine tkQ 13 rfl (by kernel_rfl) (by rfl) (fun _ _=>by simp only[Aa,Ab,Ac];go_simp;try with_reducible rfl) Ah ?_ fun _ _ _ h=>h
   try simp only[Act.put,Aa,Ab,Ac,Ad,Ae,Af]
   refine tkQ 14 rfl (by kernel_rfl) (by rfl) (fun _ _=>by simp only[Aa,Ab,Ac];go_simp;try with_reducible rfl) Ah ?_ fun _ _ _ h=>h
   try simp only[Act.put,Aa,Ab,Ac,Ad,Ae,Af]
   refine wpAnyH_ready (rs:=[15]) (by kernel_rfl) (by simp) ?_
   refine AllReadyH.cons (i:=15) rfl (fun K hK=>?_) AllReadyH.nil
   rw[if_pos (by rfl)]
   simp only[Aa,Ab,Ac]
   go_simp
   have b:=bA y1 (.cells zzM.toArray 32)
   have HU:Hid (okb=true→MtP (y1.alloc (.cells zzM.toArray 32)) m2 u):=fun e=>(HU.out e).later b
   have BM:=Ag (bxAt y1 32 [.int .i64 0,.int .i64 0,.slice none 0 0,.slice none 0 0,.slice none 0 0,.slice none 0 0,.int .i64 0,.int .i64 0,.int .i64 0,.int .i64 0,.int .i64 0,.int .i64 0,.int .i64 0,.int .i64 0,.int .i64 0,.slice none 0 0] y1.heap.size (by simp))
   have zBM:w1.heap.size≤y1.heap.size:=by have h:=c.size;rw[show y1.heap.size=y1.heap.size by simp]at h;exact h
   have c:=qAa c b
   refine hK.out _ _ (c) (fun Ah=>?_)
   clear hK K
   try simp only[Act.put,Aa,Ab,Ac,Ad,Ae,Af]
   clear b
   refine wpAnyH_ready (rs:=[16]) (by kernel_rfl) (by simp) ?_
   refine AllReadyH.cons (i:=16) rfl (fun K hK=>?_) AllReadyH.nil
   rw[if_pos (by rfl)]
   simp only[Aa,Ab,Ac]
   refine qAm 32 _ _ rfl y1.heap.size (by rfl) 32 _ BM.out (mC m2 u) (by rfl) rfl Tryz.sizeM rfl ?_
   intro x1 kb kt
   have HU:Hid (okb=true→MtP x1 m2 u):=fun e=>(HU.out e).keepb BM.out kt.keep (by decide) (by decide) (by decide)
   have c:=c.trans (kt.below zBM)
   have BM:=Ag kb
   refine hK.out _ _ (c) (fun Ah=>?_)
   clear hK K
   try simp only[Act.put,Aa,Ab,Ac,Ad,Ae,Af]
   clear kb kt
   refine tkQ 17 rfl (by kernel_rfl) (by rfl) (fun _ _=>by simp only[Aa,Ab,Ac];go_simp;try with_reducible rfl) Ah ?_ fun _ _ _ h=>h
   try simp only[Act.put,Aa,Ab,Ac,Ad,Ae,Af]
   refine wpAnyH_done (by kernel_rfl) ?_ _
   try go_wp2_with fail
   go_meet
   exact⟨y1.heap.size,u,rfl,rfl,BM.out,HU.out,zBM,c⟩
  ·skip
   rw[if_pos (by rfl)]
   simp only[Aa,Ab,Ac]
   go_simp
   have b:=bA w1.drew (.cells zzM.toArray 32)
   have BM:=Ag (bxAt w1.drew 32 [.int .i64 0,.int .i64 0,.slice none 0 0,.slice none 0 0,.slice none 0 0,.slice none 0 0,.int .i64 0,.int .i64 0,.int .i64 0,.int .i64 0,.int .i64 0,.int .i64 0,.int .i64 0,.int .i64 0,.int .i64 0,.slice none 0 0] w1.heap.size (by simp))
   have zBM:w1.heap.size≤w1.heap.size:=by have h:=c.size;rw[show w1.drew.heap.size=w1.heap.size by simp]at h;exact h
   have c:=qAa c b
   refine hK.out _ _ (c) (fun Ah=>?_)
   clear hK K
   try simp only[Act.put,Aa,Ab,Ac,Ad,Ae,Af]
   clear b
   refine wpAnyH_ready (rs:=[11]) (by kernel_rfl) (by simp) ?_
   refine AllReadyH.cons (i:=11) rfl (fun K hK=>?_) AllReadyH.nil
   rw[if_pos (by rfl)]
   simp only[Aa,Ab,Ac]
   go_simp
   refine(hS.out _ (show Hid (MtP (w1.drew.alloc (.cells zzM.toArray 32)) m v)from HMP.out.later c)).mono ?_
   rintro e y1 ⟨u,rfl,ou,b⟩
   have BM:=Ag (BM.out.later b)
   have HU:Hid (okb=true→MtP y1 m2 u):=ou
   have c:=qAa c b
   refine hK.out _ _ (c) (fun Ah=>?_)
   clear hK K
   try simp only[Act.put,Aa,Ab,Ac,Ad,Ae,Af]
   clear b ou
   refine tkQ 12 rfl (by kernel_rfl) (by rfl) (fun _ _=>by simp only[Aa,Ab,Ac];go_simp;try with_reducible rfl) Ah ?_ fun _ _ _ h=>h
   try simp only[Act.put,Aa,Ab,Ac,Ad,Ae,Af]
   refine tkQ 13 rfl (by kernel_rfl) (by rfl) (fun _ _=>by simp only[Aa,Ab,Ac];go_simp;try with_reducible rfl) Ah ?_ fun _ _ _ h=>h
   try simp only[Act.put,Aa,Ab,Ac,Ad,Ae,Af]
   refine tkQ 14 rfl (by kernel_rfl) (by rfl) (fun _ _=>by simp only[Aa,Ab,Ac];go_simp;try with_reducible rfl) Ah ?_ fun _ _ _ h=>h
   try simp only[Act.put,Aa,Ab,Ac,Ad,Ae,Af]
   refine wpAnyH_ready (rs:=[16]) (by kernel_rfl) (by simp) ?_
   refine AllReadyH.cons (i:=16) rfl (fun K hK=>?_) AllReadyH.nil
   rw[if_pos (by rfl)]
   simp only[Aa,Ab,Ac]
   refine qAm 32 _ _ rfl w1.heap.size (by rfl) 32 _ BM.out (mC m2 u) (by rfl) rfl Tryz.sizeM rfl ?_
   intro x1 kb kt
   have HU:Hid (okb=true→MtP x1 m2 u):=fun e=>(HU.out e).keepb BM.out kt.keep (by decide) (by decide) (by decide)
   have c:=c.trans (kt.below zBM)
   have BM:=Ag kb
   refine hK.out _ _ (c) (fun Ah=>?_)
   clear hK K
   try simp only[Act.put,Aa,Ab,Ac,Ad,Ae,Af]
   clear kb kt
   refine tkQ 17 rfl (by kernel_rfl) (by rfl) (fun _ _=>by simp only[Aa,Ab,Ac];go_simp;try with_reducible rfl) Ah ?_ fun _ _ _ h=>h
   try simp only[Act.put,Aa,Ab,Ac,Ad,Ae,Af]
   refine wpAnyH_done (by kernel_rfl) ?_ _
   try go_wp2_with fail
   go_meet
   exact⟨w1.heap.size,u,rfl,rfl,BM.out,HU.out,zBM,c⟩
 case rest=>
 obtain⟨gb,u,rfl,rfl,bm,hcc,zb,b2⟩:=hcut
 generalize wc=w2 at *
 cases okb with
 |false=>
  go_wp2_with fail
  go_ret
  exact(show SayP false _ _ _ _ _ from⟨rfl,qAa B1.out b2⟩)
 |true=>
 have hu:=hcc rfl
 have BM:=Ag bm
 have HU:Hid (MtP w2 m2 u):=hu
 obtain⟨G2,P2,B2⟩:=cy3 (G1.out.later b2) (P1.out.below b2) (qAa B1.out b2)
 clear bm hu hcc b2 G1 P1 G1a HMP HR B1 TB t0
 go_wp2_with (first|(refine qAb rfl 32 _ rfl gb 0 rfl 32 _ BM.out (mC m2 u) rfl _ Tryz.underlying32 rfl Tryz.sizeM ?_))
 refine(qEv g k i m2 u _ G2 P2 HU hi (by omega)).mono ?_
 rintro e w3 ⟨rfl,mz,g3,p3,k3⟩
 go_wp2_with fail
 go_ret
 refine(show SayP true _ _ _ _ _ from⟨rfl,_,g3,p3,?_,(qAc B2.out).trans k3⟩)
 simp only[Wv.pl,Wv.setM,List.map_set]
theorem elDo_say_no(g:Nat)(k:Wv)(i:Nat)(m:Mt)(v:Mv)(d at0 l:Int)(x:ByteArray)(w:World)(h:Hid (WkB w g k))(hk:Hid (WkP w k))(hi:i<k.ma.length)(hm:Hid (k.ma[i]=(m,v)))(hat:Hid (atW (k.ma.map (·.1)) d=(i:Int)))(hok:Hid (m.ok=true))(hl:k.ma.length≤10)(hx:x.size≤1048576)(hsy:Hid (qGa m l x=false)):
  Calls Tryz.prog 87 #[.pointer (some ⟨g,0,none⟩),.agg #[.int .i64 1,.int .i64 d,.int .i64 at0,.int .i64 l,.string x]] w fun e w'=>e=.returned (.int .i64 1)∧Below w.heap.size w w':=
 elDo_say g k i m v d at0 l x w h hk hi hm hat hok hl false zMt (fun w9 h1=>(spSay_no m v l x w9 h1 (qBi hok.out) hx hsy).mono fun e w' ⟨he,b⟩=>⟨zMv,he,(fun e=>by cases e),b⟩)
theorem elDo_say_yes(g:Nat)(k:Wv)(i:Nat)(m:Mt)(v:Mv)(d at0 l:Int)(x:ByteArray)(w:World)(h:Hid (WkB w g k))(hk:Hid (WkP w k))(hi:i<k.ma.length)(hm:Hid (k.ma[i]=(m,v)))(hat:Hid (atW (k.ma.map (·.1)) d=(i:Int)))(hok:Hid (m.ok=true))(hl:k.ma.length≤10)(hx:x.size≤1048576)(hsy:Hid (qGa m l x=true)):
  Calls Tryz.prog 87 #[.pointer (some ⟨g,0,none⟩),.agg #[.int .i64 1,.int .i64 d,.int .i64 at0,.int .i64 l,.string x]] w fun e w'=>e=.returned (.int .i64 0)∧∃k':Wv,WkB w' g k'∧WkP w' k'∧k'.pl=sayW k.pl i m l x∧KeepBut g w w':=
 elDo_say g k i m v d at0 l x w h hk hi hm hat hok hl true (sayM m l x) (fun w9 h1=>(spSay_yes m v l x w9 h1 (qBi hok.out) hx hsy).mono fun e w' ⟨u,he,ou,b⟩=>⟨u,he,(fun _=>ou.p),b⟩)
theorem spHold_no(m:Mt)(v:Mv)(t:Tok)(s:Sv)(w:World)(h:Hid (MtP w m v))(hs:Hid (OwnI w 0 s.v t.ws))(hl:t.ws.length≤1048576)(hsz:Hid (MtS m))(hok:Hid (m.ok=true))(hmay:Hid (mayB m t=false)):
  Calls Tryz.prog 12 #[.agg #[.int .i64 m.id,.int .i64 m.rid,.slice v.ms.a v.ms.n v.ms.c,.slice v.its.a v.its.n v.its.c,.slice v.lv.a v.lv.n v.lv.c,.slice v.tx.a v.tx.n v.tx.c,.int .i64 m.rd,.int .i64 m.se,.int .i64 m.li,.int .i64 m.he,.int .i64 m.la.c,.int .i64 m.la.r,.int .i64 m.la.q,.int .i64 m.la.a,.int .i64 m.la.b,.slice v.ws.a v.ws.n v.ws.c],.agg #[.int .i64 t.c,.int .i64 t.r,.int .i64 t.q,.int .i64 t.a,.int .i64 t.b,.slice s.a s.n s.c]] w fun e w'=>∃(u:Mv) (fs:Sv),e=.returned (.tuple #[.agg #[.int .i64 m.id,.int .i64 m.rid,.slice u.ms.a u.ms.n u.ms.c,.slice u.its.a u.its.n u.its.c,.slice u.lv.a u.lv.n u.lv.c,.slice u.tx.a u.tx.n u.tx.c,.int .i64 m.rd,.int .i64 m.se,.int .i64 m.li,.int .i64 m.he,.int .i64 m.la.c,.int .i64 m.la.r,.int .i64 m.la.q,.int .i64 m.la.a,.int .i64 m.la.b,.slice u.ws.a u.ws.n u.ws.c],.slice fs.a fs.n fs.c,.agg #[.int .i64 0,.int .i64 0,.int .i64 0,.int .i64 0,.int .i64 0,.slice none 0 0],.bool false])∧SlI w' 0 fs.v []∧Below w.heap.size w w':=by
 obtain⟨MA,TK,RM,RZT,BW⟩:=en4 w 32 [.int .i64 m.id,.int .i64 m.rid,.slice v.ms.a v.ms.n v.ms.c,.slice v.its.a v.its.n v.its.c,.slice v.lv.a v.lv.n v.lv.c,.slice v.tx.a v.tx.n v.tx.c,.int .i64 m.rd,.int .i64 m.se,.int .i64 m.li,.int .i64 m.he,.int .i64 m.la.c,.int .i64 m.la.r,.int .i64 m.la.q,.int .i64 m.la.a,.int .i64 m.la.b,.slice v.ws.a v.ws.n v.ws.c] 30 [.int .i64 t.c,.int .i64 t.r,.int .i64 t.q,.int .i64 t.a,.int .i64 t.b,.slice s.a s.n s.c] 32 [.int .i64 0,.int .i64 0,.slice none 0 0,.slice none 0 0,.slice none 0 0,.slice none 0 0,.int .i64 0,.int .i64 0,.int .i64 0,.int .i64 0,.int .i64 0,.int .i64 0,.int .i64 0,.int .i64 0,.int .i64 0,.slice none 0 0] 30 [.int .i64 0,.int .i64 0,.int .i64 0,.int .i64 0,.int .i64 0,.slice none 0 0]
 obtain⟨QM,SW⟩:=cy2 (h.out.later BW.out) (ownL hs.out BW.out)
 clear h hs
 go_enter Tryz.func12,Tryz.ntmps12
 go_wp2_with (first|(refine qAb rfl 32 _ rfl w.heap.size 0 rfl 32 _ MA.out (mC m v) rfl _ Tryz.underlying32 rfl Tryz.sizeM ?_))
 generalize ((((w.alloc (.cells #[.int .i64 m.id,.int .i64 m.rid,.slice v.ms.a v.ms.n v.ms.c,.slice v.its.a v.its.n v.its.c,.slice v.lv.a v.lv.n v.lv.c,.slice v.tx.a v.tx.n v.tx.c,.int .i64 m.rd,.int .i64 m.se,.int .i64 m.li,.int .i64 m.he,.int .i64 m.la.c,.int .i64 m.la.r,.int .i64 m.la.q,.int .i64 m.la.a,.int .i64 m.la.b,.slice v.ws.a v.ws.n v.ws.c] 32)).alloc (.cells #[.int .i64 t.c,.int .i64 t.r,.int .i64 t.q,.int .i64 t.a,.int .i64 t.b,.slice s.a s.n s.c] 30)).alloc (.cells #[.int .i64 0,.int .i64 0,.slice none 0 0,.slice none 0 0,.slice none 0 0,.slice none 0 0,.int .i64 0,.int .i64 0,.int .i64 0,.int .i64 0,.int .i64 0,.int .i64 0,.int .i64 0,.int .i64 0,.int .i64 0,.slice none 0 0] 32)).alloc (.cells #[.int .i64 0,.int .i64 0,.int .i64 0,.int .i64 0,.int .i64 0,.slice none 0 0] 30))=W at *
 have zW:w.heap.size+3<W.heap.size:=RZT.out.lt
 refine(qCm m v _ QM hsz).mono ?_
 rintro e w1 ⟨u,rfl,o1,b⟩
 have z_w1:=b.size
 obtain⟨MA,TK,RM,RZT,BW,QM,SW⟩:=cy7 (MA.out.later b) (TK.out.later b) (RM.out.later b) (RZT.out.later b) (qAa BW.out b) (QM.out.later b) (ownL SW.out b)
 clear b
 clear o1
 have hz:=Ag (Bx.new w1 32 [.int .i64 0,.int .i64 0,.slice none 0 0,.slice none 0 0,.slice none 0 0,.slice none 0 0,.int .i64 0,.int .i64 0,.int .i64 0,.int .i64 0,.int .i64 0,.int .i64 0,.int .i64 0,.int .i64 0,.int .i64 0,.slice none 0 0])
 go_wp2_with (first|(refine qAd rfl 32 _ _ rfl w1.heap.size rfl 32 _ hz.out [.int .i64 m.id,.int .i64 m.rid,.slice u.ms.a u.ms.n u.ms.c,.slice u.its.a u.its.n u.its.c,.slice u.lv.a u.lv.n u.lv.c,.slice u.tx.a u.tx.n u.tx.c,.int .i64 m.rd,.int .i64 m.se,.int .i64 m.li,.int .i64 m.he,.int .i64 m.la.c,.int .i64 m.la.r,.int .i64 m.la.q,.int .i64 m.la.a,.int .i64 m.la.b,.slice u.ws.a u.ws.n u.ws.c] rfl rfl Tryz.sizeM rfl ?_;intro w2 OB TB;have b:Below w1.heap.size w1 w2:=((Below.refl _ _).alloc (Nat.le_refl _) _).trans (TB.below (Nat.le_refl _));have G:=Ag OB;have z_w2:=b.size;have MA:=Ag (MA.out.later b);have TK:=Ag (TK.out.later b);have RM:=Ag (RM.out.later b);have RZT:=Ag (RZT.out.later b);have BW:=Ag (qAa BW.out b);have QM:=Ag (QM.out.later b);have SW:=Ag (ownL SW.out b);clear OB TB b;refine Stp.here ?_))
 refine Stp.go ?_
 clear hz
 have zl_G:=G.out.lt
 generalize hg_G:w1.heap.size=g at *
 clear hg_G
 have b:=bA w2 (.cells #[] 41)
 obtain⟨MA,TK,RM,RZT,BW,QM,SW,G⟩:=cy8 (MA.out.later b) (TK.out.later b) (RM.out.later b) (RZT.out.later b) (qAa BW.out b) (QM.out.later b) (ownL SW.out b) (G.out.later b)
 have SE:Hid (SlI (w2.alloc (.cells #[] 41)) 0 ((.slice (some ⟨w2.heap.size,0,none⟩) 0 0)) ([])):=SlI.made w2 0 (Nat.zero_le _)
 clear b
 go_wp2_with (first|(refine qAb rfl 32 _ rfl w.heap.size 0 rfl 32 _ MA.out (mC m v) rfl _ Tryz.underlying32 rfl Tryz.sizeM ?_))
 generalize (w2.alloc (.cells #[] 41))=w3 at *
 refine(qCg m v _ QM.out.r hsz).mono ?_
 rintro e w4 ⟨rfl,b⟩
 have z_w4:=b.size
 obtain⟨MA,TK,RM,RZT,BW,QM,SW,G⟩:=cy8 (MA.out.later b) (TK.out.later b) (RM.out.later b) (RZT.out.later b) (qAa BW.out b) (QM.out.later b) (ownL SW.out b) (G.out.later b)
 have SE:=Ag (SE.out.below b)
 clear b
 rw[hok.out]
 clear QM
 go_wp2_with (first|(refine qAb rfl 30 _ rfl (w.heap.size+1) 0 rfl 30 _ TK.out (tX t.c t.r t.q t.a t.b s) rfl _ Tryz.underlying30 rfl Tryz.sizeT ?_))
 refine(qFe t.c t.r t.q t.a t.b t.ws (show Hid (RI w4 (.slice s.a s.n s.c) t.ws)from SW.out.ri) hl).mono ?_
 rintro e w5 ⟨rfl,b⟩
 have z_w5:=b.size
 obtain⟨MA,TK,RM,RZT,BW,SW,G,SE⟩:=cy8 (MA.out.later b) (TK.out.later b) (RM.out.later b) (RZT.out.later b) (qAa BW.out b) (ownL SW.out b) (G.out.later b) (SE.out.below b)
 clear b
 have c_TK_0:=TK.out.cell 0
 have c_TK_1:=TK.out.cell 1
 have c_MA_1:=MA.out.cell 1
 have c_MA_6:=MA.out.cell 6
 cases htk:tkB t.c t.r t.q t.a t.b t.ws with
 |false=>
  clear htk
  go_wp2_with (first|(refine qAb rfl 32 _ rfl g 0 rfl 32 _ G.out (mC m u) rfl _ Tryz.underlying32 rfl Tryz.sizeM ?_)|(refine qAd rfl 32 _ _ rfl (w.heap.size+2) rfl 32 _ RM.out (mC m u) rfl rfl Tryz.sizeM rfl ?_;intro w6 R6 T6;have RZ6:=Ag (RZT.out.turn T6 (by omega)))|(refine qAd rfl 30 _ _ rfl (w.heap.size+3) rfl 30 _ RZ6.out [.int .i64 0,.int .i64 0,.int .i64 0,.int .i64 0,.int .i64 0,.slice none 0 0] rfl rfl Tryz.sizeT rfl ?_;intro w7 R7 T7;have R6:=Bx.turn R6 T7 (by omega)))
  refine bodyPost_ret (qBw Tryz.results12 (w.heap.size+2) 32 (mC m u) _ rfl R6 Tryz.underlying32 rfl Tryz.sizeM (w.heap.size+3) 30 [.int .i64 0,.int .i64 0,.int .i64 0,.int .i64 0,.int .i64 0,.slice none 0 0] _ rfl R7 Tryz.underlying30 rfl Tryz.sizeT) rfl ?_
  exact⟨u,⟨some ⟨w2.heap.size,0,none⟩,0,0⟩,rfl,SlI.past (SlI.past SE.out RM.out T6 (by decide)) RZ6.out T7 (by decide),(BW.out.trans (T6.below (by omega))).trans (T7.below (by omega))⟩
 |true=>
  have hmy:=hmay.out
  unfold mayB at hmy
  rw[htk,Bool.true_and]at hmy
  clear htk
  by_cases hcr:t.c=m.rid
  ·have q1:(t.c==m.rid)=true:=by simpa using hcr
   have q4:(t.c !=m.rid)=false:=by simpa using hcr
   have hmy: ¬(m.rd+1≤t.r∧t.r≤999999999):=by simpa [hcr] using hmy
   clear hcr
   by_cases h2:t.r≤m.rd
   ·have q2:decide (t.r≤m.rd)=true:=by simpa using h2
    clear h2 hmy
    go_wp2_with (first|(refine qAb rfl 32 _ rfl g 0 rfl 32 _ G.out (mC m u) rfl _ Tryz.underlying32 rfl Tryz.sizeM ?_)|(refine qAd rfl 32 _ _ rfl (w.heap.size+2) rfl 32 _ RM.out (mC m u) rfl rfl Tryz.sizeM rfl ?_;intro w6 R6 T6;have RZ6:=Ag (RZT.out.turn T6 (by omega)))|(refine qAd rfl 30 _ _ rfl (w.heap.size+3) rfl 30 _ RZ6.out [.int .i64 0,.int .i64 0,.int .i64 0,.int .i64 0,.int .i64 0,.slice none 0 0] rfl rfl Tryz.sizeT rfl ?_;intro w7 R7 T7;have R6:=Bx.turn R6 T7 (by omega)))
    refine bodyPost_ret (qBw Tryz.results12 (w.heap.size+2) 32 (mC m u) _ rfl R6 Tryz.underlying32 rfl Tryz.sizeM (w.heap.size+3) 30 [.int .i64 0,.int .i64 0,.int .i64 0,.int .i64 0,.int .i64 0,.slice none 0 0] _ rfl R7 Tryz.underlying30 rfl Tryz.sizeT) rfl ?_
    exact⟨u,⟨some ⟨w2.heap.size,0,none⟩,0,0⟩,rfl,SlI.past (SlI.past SE.out RM.out T6 (by decide)) RZ6.out T7 (by decide),(BW.out.trans (T6.below (by omega))).trans (T7.below (by omega))⟩
   ·have q2:decide (t.r≤m.rd)=false:=by simpa using h2
    have q3:decide (1000000000≤t.r)=true:=by simp;omega
    clear h2 hmy
    go_wp2_with (first|(refine qAb rfl 32 _ rfl g 0 rfl 32 _ G.out (mC m u) rfl _ Tryz.underlying32 rfl Tryz.sizeM ?_)|(refine qAd rfl 32 _ _ rfl (w.heap.size+2) rfl 32 _ RM.out (mC m u) rfl rfl Tryz.sizeM rfl ?_;intro w6 R6 T6;have RZ6:=Ag (RZT.out.turn T6 (by omega)))|(refine qAd rfl 30 _ _ rfl (w.heap.size+3) rfl 30 _ RZ6.out [.int .i64 0,.int .i64 0,.int .i64 0,.int .i64 0,.int .i64 0,.slice none 0 0] rfl rfl Tryz.sizeT rfl ?_;intro w7 R7 T7;have R6:=Bx.turn R6 T7 (by omega)))
    refine bodyPost_ret (qBw Tryz.results12 (w.heap.size+2) 32 (mC m u) _ rfl R6 Tryz.underlying32 rfl Tryz.sizeM (w.heap.size+3) 30 [.int .i64 0,.int .i64 0,.int .i64 0,.int .i64 0,.int .i64 0,.slice none 0 0] _ rfl R7 Tryz.underlying30 rfl Tryz.sizeT) rfl ?_
    exact⟨u,⟨some ⟨w2.heap.size,0,none⟩,0,0⟩,rfl,SlI.past (SlI.past SE.out RM.out T6 (by decide)) RZ6.out T7 (by decide),(BW.out.trans (T6.below (by omega))).trans (T7.below (by omega))⟩
  ·have q1:(t.c==m.rid)=false:=by simpa using hcr
   have q4:(t.c !=m.rid)=true:=by simpa using hcr
   clear hcr hmy
   go_wp2_with (first|(refine qAb rfl 32 _ rfl g 0 rfl 32 _ G.out (mC m u) rfl _ Tryz.underlying32 rfl Tryz.sizeM ?_)|(refine qAd rfl 32 _ _ rfl (w.heap.size+2) rfl 32 _ RM.out (mC m u) rfl rfl Tryz.sizeM rfl ?_;intro w6 R6 T6;have RZ6:=Ag (RZT.out.turn T6 (by omega)))|(refine qAd rfl 30 _ _ rfl (w.heap.size+3) rfl 30 _ RZ6.out [.int .i64 0,.int .i64 0,.int .i64 0,.int .i64 0,.int .i64 0,.slice none 0 0] rfl rfl Tryz.sizeT rfl ?_;intro w7 R7 T7;have R6:=Bx.turn R6 T7 (by omega)))
   refine bodyPost_ret (qBw Tryz.results12 (w.heap.size+2) 32 (mC m u) _ rfl R6 Tryz.underlying32 rfl Tryz.sizeM (w.heap.size+3) 30 [.int .i64 0,.int .i64 0,.int .i64 0,.int .i64 0,.int .i64 0,.slice none 0 0] _ rfl R7 Tryz.underlying30 rfl Tryz.sizeT) rfl ?_
   exact⟨u,⟨some ⟨w2.heap.size,0,none⟩,0,0⟩,rfl,SlI.past (SlI.past SE.out RM.out T6 (by decide)) RZ6.out T7 (by decide),(BW.out.trans (T6.below (by omega))).trans (T7.below (by omega))⟩
end Go.Proofs.YthdjkkiegecgnaaGreat
