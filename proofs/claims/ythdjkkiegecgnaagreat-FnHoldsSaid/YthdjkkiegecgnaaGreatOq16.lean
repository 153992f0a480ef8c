/- Joined texts: CWn1 CHr CNw CNs CNn CMh CDl1 CNf. -/
import Derived.Test.YthdjkkiegecgnaaGreatOq15
import Derived.Test.YthdjkkiegecgnaaGreatOq5
import Derived.Test.YthdjkkiegecgnaaGreatOq13
import Derived.Deep.DeepCutAuto
import Derived.BigQuiet
import Derived.Test.YthdjkkiegecgnaaGreatOq12
import Derived.Test.YthdjkkiegecgnaaGreatOq7
import Derived.Test.YthdjkkiegecgnaaGreatOq1
set_option maxRecDepth 100000
set_option maxHeartbeats 16000000
namespace Go.Proofs.YthdjkkiegecgnaaGreat
open Go.RowKit Pl
set_option linter.unusedSimpArgs false
set_option linter.unusedVariables false
theorem spFirst_r{w:World}{v:Value}(i:Int)(ws:List Int)(h:Hid (RI w v ws))(hl:ws.length≤1048576)(hr:Hid (qAy i ws=true)):
  Calls Tryz.prog 154 #[.agg #[.int .i64 i,v]] w fun e w'=>e=.returned (.agg #[.int .i64 i,.int .i64 1,.int .i64 0,.int .i64 0,.int .i64 0,.slice none 0 0])∧Below w.heap.size w w':=by
 obtain⟨ao,cap,rfl,hx⟩:=h.out;exact spFirst_yes i ao cap ws w hx hl hr
theorem Pl.IntsAt.at{w:World}{b off:Nat}{xs:List Int}(h:IntsAt w (some ⟨b,off,none⟩) xs)(k:Nat)(hk:k<xs.length):b<w.heap.size∧w.cell? ⟨b,off+k,none⟩=some (.int .i64 xs[k]):=by
 obtain⟨b',off',e,h1,h2⟩:=h k hk
 simp at e
 obtain⟨rfl,rfl⟩:=e
 exact⟨h1,h2⟩
theorem inB_mem{ms:List Int}{d:Int}(h:d∈ms):inB ms d=true:=by unfold inB;simpa using h
theorem msP_push{w w':World}{B:Nat}{v v':Value}{ma:List (Mt × Mv)}{d i:Int}{ms:List Int}{um:Sv}{r:List Value}(h:MsP w B v ma)(hs:SlN w' 32 16 B v' (ma.map mcel++[r]))(hg:w.grownBy w' v.ownBlock)(hu:OwnI w 0 um.v ms)(hr:r=mcel (newM d i ms,⟨um,zSv,zSv,zSv,zSv⟩)):MsP w' B v' (ma++[(newM d i ms,⟨um,zSv,zSv,zSv,zSv⟩)]):=by
 have hk:KeepTy (fun T=>T=32) w w':=.ofPush h.1 hg rfl
 subst hr
 refine⟨by rw[List.map_append];exact hs,fun e he=>?_⟩
 rcases List.mem_append.1 he with he|he
 ·exact(h.2 e he).kt hk (by decide) (by decide) (by decide)
 ·simp at he;subst he;exact(mto_new d i (hu.kt hk (by decide))).p
theorem MsP.kt{S:Nat→Prop}{w w':World}{B:Nat}{v:Value}{ma:List (Mt × Mv)}(h:MsP w B v ma)(k:KeepTy S w w')(h1: ¬S 32)(h3: ¬S 3)(h9: ¬S 9)(hi: ¬S 41):MsP w' B v ma:=⟨h.1.kt k h1,fun e hh=>(h.2 e hh).kt k h3 h9 hi⟩
theorem HsP.kt{S:Nat→Prop}{w w':World}{B:Nat}{v:Value}{he:List (List It × Sv)}(h:HsP w B v he)(k:KeepTy S w w')(h1: ¬S 27)(h2: ¬S 41):HsP w' B v he:=⟨h.1.kt k h1,fun e hh=>(h.2 e hh).kt k h2⟩
def newW(i:Int)(ms:List Int)(k:Nat)(ma:List (Mt × Mv))(he:List (List It × Sv)):Prop:=ma.map (·.1)=(ms.take k).map (fun d=>newM d i ms)∧he.map (·.1)=List.replicate k []
theorem newW_step{i:Int}{ms:List Int}{k:Nat}{ma:List (Mt × Mv)}{he:List (List It × Sv)}{d:Int}{u:Mv}{z:Sv}(h:newW i ms k ma he)(hk:k<ms.length)(hd:d=ms[k]):newW i ms (k+1) (ma++[(newM d i ms,u)]) (he++[([],z)]):=by
 refine⟨?_,?_⟩
 ·rw[List.map_append,h.1,List.take_succ_eq_append_getElem hk,List.map_append,hd];rfl
 ·rw[List.map_append,h.2,List.replicate_succ'];rfl
theorem spWorkNew_at(i:Int)(sb so n sc:Nat)(ms:List Int)(w:World)(h:Hid (IntsAt w (some ⟨sb,so,none⟩) ms))(hn:Hid (n=ms.length))(hl:n≤1048576)(hr:Hid (qAy i ms=true))(h0:Hid (0<ms.length)):
  Calls Tryz.prog 85 #[.agg #[.int .i64 i,.slice (some ⟨sb,so,none⟩) n sc]] w fun e w'=>∃k:Wv,e=.returned (.tuple #[.agg k.cells.toArray,.bool true])∧WkP w' k∧Below w.heap.size w w'∧(k.rid=i∧k.ms=ms∧newW i ms ms.length k.ma k.he∧k.sa=[]∧k.fl.map (·.1)=[⟨ms.getD 0 0,true,⟨i,1,0,0,0,[]⟩,zIt⟩]):=by
 obtain⟨HA,HR,HB⟩:=en2 w 26 [.int .i64 i,.slice (some ⟨sb,so,none⟩) n sc] 56 [.int .i64 0,.slice none 0 0,.slice none 0 0,.slice none 0 0,.slice none 0 0,.slice none 0 0]
 have HX:Hid (RI ((w.alloc (.cells #[.int .i64 i,.slice (some ⟨sb,so,none⟩) n sc] 26)).alloc (.cells #[.int .i64 0,.slice none 0 0,.slice none 0 0,.slice none 0 0,.slice none 0 0,.slice none 0 0] 56)) (.slice (some ⟨sb,so,none⟩) n sc) ms):=⟨_,sc,by rw[hn.out],h.out.stays HB.out⟩
 have HI:=Ag (h.out.stays HB.out)
 have hl':ms.length≤1048576:=by rw[←hn.out];exact hl
 clear h
 go_enter Tryz.func85,Tryz.ntmps85
 go_wp2_with fail
 generalize ((w.alloc (.cells #[.int .i64 i,.slice (some ⟨sb,so,none⟩) n sc] 26)).alloc (.cells #[.int .i64 0,.slice none 0 0,.slice none 0 0,.slice none 0 0,.slice none 0 0,.slice none 0 0] 56))=W at *
 refine(qBk i ms HX hl').mono ?_
 rintro e w1 ⟨rfl,b1⟩
 rw[hr.out]
 obtain⟨A1,R1,B1,X1,I1⟩:=cy5 (HA.out.later b1) (HR.out.later b1) (qAa HB.out b1) (HX.out.stays b1) (HI.out.stays b1)
 clear HA HR HB HX HI b1
 go_wp2_with fail
 go_cut [4] (fun u4 wx=>∃(gq:Nat) (uq:Sv),u4=.pointer (some ⟨gq,0,none⟩)∧Bx wx gq 56 [.int .i64 i,.slice uq.a uq.n uq.c,.slice none 0 0,.slice none 0 0,.slice none 0 0,.slice none 0 0]∧OwnI wx w1.heap.size uq.v ms∧w1.heap.size≤gq∧Below w1.heap.size w1 wx)
 case first=>
  have KEEP:Hid (∀w',Below w1.heap.size w1 w'→(w'.cell? ⟨w.heap.size,0,none⟩=some (.int .i64 i)∧w'.cell? ⟨w.heap.size,1,none⟩=some (.slice (some ⟨sb,so,none⟩) n sc))∧Hid (Below w1.heap.size w1 w')):=fun w' hb=>⟨⟨(A1.out.later hb).cell 0,(A1.out.later hb).cell 1⟩,hb⟩
  have c:Below w1.heap.size w1 w1.drew:=(Below.refl _ _).drew
  refine wp_region_held_drew (S:=fun w'=>(w'.cell? ⟨w.heap.size,0,none⟩=some (.int .i64 i)∧w'.cell? ⟨w.heap.size,1,none⟩=some (.slice (some ⟨sb,so,none⟩) n sc))∧Hid (Below w1.heap.size w1 w')) (by kernel_rfl) (KEEP.out _ c) (fun Ah=>?_)
  refine tkQ 0 rfl (by kernel_rfl) (by rfl) (fun _ _=>by simp only[Aa,Ab,Ac];go_simp;try with_reducible rfl) Ah ?_ fun _ _ _ h=>h
  try simp only[Act.put,Aa,Ab,Ac,Ad,Ae,Af]
  refine tkQ 1 rfl (by kernel_rfl) (by rfl) (fun _ _=>by simp only[Aa,Ab,Ac];go_simp;try with_reducible rfl) Ah ?_ fun _ _ _ h=>h
  try simp only[Act.put,Aa,Ab,Ac,Ad,Ae,Af]
  refine tkQ 3 rfl (by kernel_rfl) (by rfl) (fun _ _=>by simp only[Aa,Ab,Ac];go_simp;try with_reducible rfl) Ah ?_ fun _ _ _ h=>h
  try simp only[Act.put,Aa,Ab,Ac,Ad,Ae,Af]
  refine tkQ 4 rfl (by kernel_rfl) (by rfl) (fun _ _=>by simp only[Aa,Ab,Ac];go_simp;try with_reducible rfl) Ah ?_ fun _ _ _ h=>h
  try simp only[Act.put,Aa,Ab,Ac,Ad,Ae,Af]
  refine wpAnyH_ready (rs:=[2,8]) (by kernel_rfl) (by simp) ?_
  refine(AllReadyH.cons (i:=2) rfl (fun K hK=>?_) (AllReadyH.cons (i:=8) rfl (fun K hK=>?_) AllReadyH.nil))
  ·skip
   rw[if_pos (by rfl)]
   simp only[Aa,Ab,Ac]
   go_simp
   have OS1:=Ag (owiAt w1.drew w1.heap.size w1.heap.size c.size (by simp))
   have c:Below w1.heap.size w1 (w1.drew.alloc (.cells #[] 3)):=c.alloc c.size _
   refine hK.out _ _ (KEEP.out _ c) (fun Ah=>?_)
   clear hK K
   try simp only[Act.put,Aa,Ab,Ac,Ad,Ae,Af]
   refine wpAnyH_ready (rs:=[5,8]) (by kernel_rfl) (by simp) ?_
   refine(AllReadyH.cons (i:=5) rfl (fun K hK=>?_) (AllReadyH.cons (i:=8) rfl (fun K hK=>?_) AllReadyH.nil))
   ·skip
    rw[if_pos (by rfl)]
    simp only[Aa,Ab,Ac]
    refine qBz _ _ 24 rfl Tryz.underlying24 Tryz.info3' w1.heap.size (.slice (some ⟨w1.heap.size,0,none⟩) 0 0) [] (by rfl) OS1.out (.slice (some ⟨sb,so,none⟩) n sc) ms (by rfl) (X1.out.stays c) (by simp;omega) c.size (fun h=>by cases h) ?_
    intro v2 y2 hv2 hg2
    obtain⟨uq,hf2⟩:=hv2.sv
    subst hf2
    have O2:=Ag hv2
    have c0:=c
    have c:=c.grown hg2 c.size (fun k hk=>(OS1.out.lt k hk).1)
    refine hK.out _ _ (KEEP.out _ c) (fun Ah=>?_)
    clear hK K
    try simp only[Act.put,Aa,Ab,Ac,Ad,Ae,Af]
    clear hv2 hg2 c0
    refine tkQ 6 rfl (by kernel_rfl) (by rfl) (fun _ _=>by simp only[Aa,Ab,Ac];go_simp;try with_reducible rfl) Ah ?_ fun _ _ _ h=>h
    try simp only[Act.put,Aa,Ab,Ac,Ad,Ae,Af]
    refine tkQ 7 rfl (by kernel_rfl) (by rfl) (fun _ _=>by simp only[Aa,Ab,Ac];go_simp;try with_reducible rfl) Ah ?_ fun _ _ _ h=>h
    try simp only[Act.put,Aa,Ab,Ac,Ad,Ae,Af]
    refine wpAnyH_ready (rs:=[8]) (by kernel_rfl) (by simp) ?_
    refine AllReadyH.cons (i:=8) rfl (fun K hK=>?_) AllReadyH.nil
    rw[if_pos (by rfl)]
    simp only[Aa,Ab,Ac]
    go_simp
    have BX3:=Ag (bxAt y2 56 [.int .i64 0,.slice none 0 0,.slice none 0 0,.slice none 0 0,.slice none 0 0,.slice none 0 0] y2.heap.size (by simp))
    have zq:w1.heap.size≤y2.heap.size:=by have h:=c.size;rw[show y2.heap.size=y2.heap.size by simp]at h;exact h
    have c:Below w1.heap.size w1 (y2.alloc (.cells #[.int .i64 0,.slice none 0 0,.slice none 0 0,.slice none 0 0,.slice none 0 0,.slice none 0 0] 56)):=c.alloc c.size _
    have O2:Hid (OwnI (y2.alloc (.cells #[.int .i64 0,.slice none 0 0,.slice none 0 0,.slice none 0 0,.slice none 0 0,.slice none 0 0] 56)) w1.heap.size (.slice uq.a uq.n uq.c) ms):=O2.out.alloc _
    refine hK.out _ _ (KEEP.out _ c) (fun Ah=>?_)
    clear hK K
    try simp only[Act.put,Aa,Ab,Ac,Ad,Ae,Af]
    refine wpAnyH_ready (rs:=[9]) (by kernel_rfl) (by simp) ?_
    refine AllReadyH.cons (i:=9) rfl (fun K hK=>?_) AllReadyH.nil
    rw[if_pos (by rfl)]
    simp only[Aa,Ab,Ac]
    refine qAm 56 _ _ rfl (y2.heap.size) (by rfl) 56 _ BX3.out [.int .i64 i,.slice uq.a uq.n uq.c,.slice none 0 0,.slice none 0 0,.slice none 0 0,.slice none 0 0] (by rfl) rfl Tryz.sizeWk rfl ?_
    intro y4 RB4 TB4
    have O4:=O2.out.past BX3.out TB4 (by decide)
    have c:=c.trans (TB4.below zq)
    refine hK.out _ _ (KEEP.out _ c) (fun Ah=>?_)
    clear hK K
    try simp only[Act.put,Aa,Ab,Ac,Ad,Ae,Af]
    refine wpAnyH_done (by kernel_rfl) ?_ _
    try go_wp2_with fail
    go_meet
    exact⟨_,uq,rfl,RB4,O4,zq,c⟩
   ·skip
    rw[if_pos (by rfl)]
    simp only[Aa,Ab,Ac]
    go_simp
    have BX2:=Ag (bxAt (w1.drew.alloc (.cells #[] 3)) 56 [.int .i64 0,.slice none 0 0,.slice none 0 0,.slice none 0 0,.slice none 0 0,.slice none 0 0] (w1.heap.size+1) (by simp))
    have zq:w1.heap.size≤(w1.heap.size+1):=by have h:=c.size;rw[show(w1.drew.alloc (.cells #[] 3)).heap.size=(w1.heap.size+1) by simp]at h;exact h
    have c:Below w1.heap.size w1 ((w1.drew.alloc (.cells #[] 3)).alloc (.cells #[.int .i64 0,.slice none 0 0,.slice none 0 0,.slice none 0 0,.slice none 0 0,.slice none 0 0] 56)):=c.alloc c.size _
    have OS1:Hid (OwnI ((w1.drew.alloc (.cells #[] 3)).alloc (.cells #[.int .i64 0,.slice none 0 0,.slice none 0 0,.slice none 0 0,.slice none 0 0,.slice none 0 0] 56)) w1.heap.size (.slice (some ⟨w1.heap.size,0,none⟩) 0 0) []):=OS1.out.alloc _
    refine hK.out _ _ (KEEP.out _ c) (fun Ah=>?_)
    clear hK K
    try simp only[Act.put,Aa,Ab,Ac,Ad,Ae,Af]
    refine wpAnyH_ready (rs:=[5]) (by kernel_rfl) (by simp) ?_
    refine AllReadyH.cons (i:=5) rfl (fun K hK=>?_) AllReadyH.nil
    rw[if_pos (by rfl)]
    simp only[Aa,Ab,Ac]
    refine qBz _ _ 24 rfl Tryz.underlying24 Tryz.info3' w1.heap.size (.slice (some ⟨w1.heap.size,0,none⟩) 0 0) [] (by rfl) OS1.out (.slice (some ⟨sb,so,none⟩) n sc) ms (by rfl) (X1.out.stays c) (by simp;omega) c.size (fun h=>by cases h) ?_
    intro v3 y3 hv3 hg3
    obtain⟨uq,hf3⟩:=hv3.sv
    subst hf3
    have O3:=Ag hv3
    have c0:=c
    have c:=c.grown hg3 c.size (fun k hk=>(OS1.out.lt k hk).1)
    have BX2:Hid (Bx y3 (w1.heap.size+1) 56 [.int .i64 0,.slice none 0 0,.slice none 0 0,.slice none 0 0,.slice none 0 0,.slice none 0 0]):=BX2.out.grown hg3 (fun e=>qCn OS1.out BX2.out (by decide) e.symm)
    refine hK.out _ _ (KEEP.out _ c) (fun Ah=>?_)
    clear hK K
    try simp only[Act.put,Aa,Ab,Ac,Ad,Ae,Af]
    clear hv3 hg3 c0
    refine tkQ 6 rfl (by kernel_rfl) (by rfl) (fun _ _=>by simp only[Aa,Ab,Ac];go_simp;try with_reducible rfl) Ah ?_ fun _ _ _ h=>h
    try simp only[Act.put,Aa,Ab,Ac,Ad,Ae,Af]
    refine tkQ 7 rfl (by kernel_rfl) (by rfl) (fun _ _=>by simp only[Aa,Ab,Ac];go_simp;try with_reducible rfl) Ah ?_ fun _ _ _ h=>h
    try simp only[Act.put,Aa,Ab,Ac,Ad,Ae,Af]
    refine wpAnyH_ready (rs:=[9]) (by kernel_rfl) (by simp) ?_
    refine AllReadyH.cons (i:=9) rfl (fun K hK=>?_) AllReadyH.nil
    rw[if_pos (by rfl)]
    simp only[Aa,Ab,Ac]
    refine wp_stB 56 _ _ rfl ((w1.heap.size+1)) 0 (by rfl) 56 _ BX2.out [.int .i64 i,.slice uq.a uq.n uq.c,.slice none 0 0,.slice none 0 0,.slice none 0 0,.slice none 0 0] (by rfl) (by simp) Tryz.sizeWk rfl [.int .i64 i,.slice uq.a uq.n uq.c,.slice none 0 0,.slice none 0 0,.slice none 0 0,.slice none 0 0] rfl ?_
    intro y4 RB4 TB4
    have O4:=O3.out.past BX2.out TB4 (by decide)
    have c:=c.trans (TB4.below zq)
    refine hK.out _ _ (KEEP.out _ c) (fun Ah=>?_)
    clear hK K
    try simp only[Act.put,Aa,Ab,Ac,Ad,Ae,Af]
    refine wpAnyH_done (by kernel_rfl) ?_ _
    try go_wp2_with fail
    go_meet
    exact⟨_,uq,rfl,RB4,O4,zq,c⟩
  ·skip
   rw[if_pos (by rfl)]
   simp only[Aa,Ab,Ac]
   go_simp
   have BX1:=Ag (bxAt w1.drew 56 [.int .i64 0,.slice none 0 0,.slice none 0 0,.slice none 0 0,.slice none 0 0,.slice none 0 0] w1.heap.size (by simp))
   have zq:w1.heap.size≤w1.heap.size:=by have h:=c.size;rw[show w1.drew.heap.size=w1.heap.size by simp]at h;exact h
   have c:Below w1.heap.size w1 (w1.drew.alloc (.cells #[.int .i64 0,.slice none 0 0,.slice none 0 0,.slice none 0 0,.slice none 0 0,.slice none 0 0] 56)):=c.alloc c.size _
   refine hK.out _ _ (KEEP.out _ c) (fun Ah=>?_)
   clear hK K
   try simp only[Act.put,Aa,Ab,Ac,Ad,Ae,Af]
   refine wpAnyH_ready (rs:=[2]) (by kernel_rfl) (by simp) ?_
   refine AllReadyH.cons (i:=2) rfl (fun K hK=>?_) AllReadyH.nil
   rw[if_pos (by rfl)]
   simp only[Aa,Ab,Ac]
   go_simp
   have OS2:=Ag (owiAt (w1.drew.alloc (.cells #[.int .i64 0,.slice none 0 0,.slice none 0 0,.slice none 0 0,.slice none 0 0,.slice none 0 0] 56)) w1.heap.size (w1.heap.size+1) c.size (by simp))
   have c:Below w1.heap.size w1 ((w1.drew.alloc (.cells #[.int .i64 0,.slice none 0 0,.slice none 0 0,.slice none 0 0,.slice none 0 0,.slice none 0 0] 56)).alloc (.cells #[] 3)):=c.alloc c.size _
   have BX1:Hid (Bx ((w1.drew.alloc (.cells #[.int .i64 0,.slice none 0 0,.slice none 0 0,.slice none 0 0,.slice none 0 0,.slice none 0 0] 56)).alloc (.cells #[] 3)) w1.heap.size 56 [.int .i64 0,.slice none 0 0,.slice none 0 0,.slice none 0 0,.slice none 0 0,.slice none 0 0]):=BX1.out.later ((Below.refl _ _).alloc (Nat.le_refl _) _)
   refine hK.out _ _ (KEEP.out _ c) (fun Ah=>?_)
   clear hK K
   try simp only[Act.put,Aa,Ab,Ac,Ad,Ae,Af]
   refine wpAnyH_ready (rs:=[5]) (by kernel_rfl) (by simp) ?_
   refine AllReadyH.cons (i:=5) rfl (fun K hK=>?_) AllReadyH.nil
   rw[if_pos (by rfl)]
   simp only[Aa,Ab,Ac]
   refine qBz _ _ 24 rfl Tryz.underlying24 Tryz.info3' w1.heap.size (.slice (some ⟨(w1.heap.size+1),0,none⟩) 0 0) [] (by rfl) OS2.out (.slice (some ⟨sb,so,none⟩) n sc) ms (by rfl) (X1.out.stays c) (by simp;omega) c.size (fun h=>by cases h) ?_
   intro v3 y3 hv3 hg3
   obtain⟨uq,hf3⟩:=hv3.sv
   subst hf3
   have O3:=Ag hv3
   have c0:=c
   have c:=c.grown hg3 c.size (fun k hk=>(OS2.out.lt k hk).1)
   have BX1:Hid (Bx y3 w1.heap.size 56 [.int .i64 0,.slice none 0 0,.slice none 0 0,.slice none 0 0,.slice none 0 0,.slice none 0 0]):=BX1.out.grown hg3 (fun e=>qCn OS2.out BX1.out (by decide) e.symm)
   refine hK.out _ _ (KEEP.out _ c) (fun Ah=>?_)
   clear hK K
   try simp only[Act.put,Aa,Ab,Ac,Ad,Ae,Af]
   clear hv3 hg3 c0
   refine tkQ 6 rfl (by kernel_rfl) (by rfl) (fun _ _=>by simp only[Aa,Ab,Ac];go_simp;try with_reducible rfl) Ah ?_ fun _ _ _ h=>h
   try simp only[Act.put,Aa,Ab,Ac,Ad,Ae,Af]
   refine tkQ 7 rfl (by kernel_rfl) (by rfl) (fun _ _=>by simp only[Aa,Ab,Ac];go_simp;try with_reducible rfl) Ah ?_ fun _ _ _ h=>h
   try simp only[Act.put,Aa,Ab,Ac,Ad,Ae,Af]
   refine wpAnyH_ready (rs:=[9]) (by kernel_rfl) (by simp) ?_
   refine AllReadyH.cons (i:=9) rfl (fun K hK=>?_) AllReadyH.nil
   rw[if_pos (by rfl)]
   simp only[Aa,Ab,Ac]
   refine qAm 56 _ _ rfl (w1.heap.size) (by rfl) 56 _ BX1.out [.int .i64 i,.slice uq.a uq.n uq.c,.slice none 0 0,.slice none 0 0,.slice none 0 0,.slice none 0 0] (by rfl) rfl Tryz.sizeWk rfl ?_
   intro y4 RB4 TB4
   have O4:=O3.out.past BX1.out TB4 (by decide)
   have c:=c.trans (TB4.below zq)
   refine hK.out _ _ (KEEP.out _ c) (fun Ah=>?_)
   clear hK K
   try simp only[Act.put,Aa,Ab,Ac,Ad,Ae,Af]
   refine wpAnyH_done (by kernel_rfl) ?_ _
   try go_wp2_with fail
   go_meet
   exact⟨_,uq,rfl,RB4,O4,zq,c⟩
 case rest=>
 obtain⟨gq,uq,rfl,hbx,hoq,zgq,b2⟩:=hcut
 generalize wc=W3 at *
 have GB3:=Ag hbx
 have O3:Hid (OwnI W3 w1.heap.size uq.v ms):=hoq
 have B3:Hid (Below w1.heap.size w1 W3):=b2
 have ZGQ:Hid (w1.heap.size≤gq):=zgq
 clear hbx hoq b2 zgq
 have hr5:=Ag (A1.out.later B3.out)
 have r51:=hr5.out.cell 1
 go_wp2_with fail
 go_loopw [5] (fun v5 wr=>∃(k:Nat) (mav hev:Sv) (ma:List (Mt × Mv)) (he:List (List It × Sv)),k≤n∧v5=.int .i64 k∧Hid (Bx wr gq 56 [.int .i64 i,.slice uq.a uq.n uq.c,.slice mav.a mav.n mav.c,.slice none 0 0,.slice hev.a hev.n hev.c,.slice none 0 0])∧Hid (OwnI wr w1.heap.size uq.v ms)∧Hid (MsP wr w1.heap.size mav.v ma)∧Hid (HsP wr w1.heap.size hev.v he)∧Hid (newW i ms k ma he)∧Hid (Below w1.heap.size w1 wr)) (fun v5 _=>n - (intOf v5).toNat)
 case atStart=>exact⟨0,zSv,zSv,[],[],by omega,rfl,GB3,O3,⟨SlN.nil _ _ _ _,fun e he=>by cases he⟩,⟨SlN.nil _ _ _ _,fun e he=>by cases he⟩,⟨rfl,rfl⟩,B3⟩
 case round=>
  clear GB3 O3 B3 hr5 r51
  obtain⟨k,mav,hev,ma,he,hk,rfl,GB,OQ,MA,HE,NW,BL⟩:=hrel
  have hr5:=Ag (A1.out.later BL.out)
  have r51:=hr5.out.cell 1
  by_cases hlt:k<n
  ·have hkm:k<ms.length:=by rw[←hn.out];exact hlt
   obtain⟨hsb,hcl⟩:=(I1.out.stays BL.out).at k hkm
   have X7:=Ag (X1.out.stays BL.out)
   have hin:Hid (inB ms ms[k]=true):=(inB_mem (List.getElem_mem hkm):inB ms ms[k]=true)
   obtain⟨d,hd⟩: ∃d,d=ms[k]:=⟨_,rfl⟩
   rw[←hd]at hcl hin
   have HD:Hid (d=ms[k]):=hd
   have i0:(0:Int)≤(k:Int):=by omega
   have i1:(k:Int)<(n:Int):=by omega
   clear hd
   go_wp2_with fail
   go_cut [6,7] (fun u6 u7 wx=>∃(gm:Nat) (um:Sv),u6=.pointer (some ⟨gm,0,none⟩)∧u7=.bool true∧Bx wx gm 32 [.int .i64 d,.int .i64 i,.slice um.a um.n um.c,.slice none 0 0,.slice none 0 0,.slice none 0 0,.int .i64 0,.int .i64 0,.int .i64 0,.int .i64 0,.int .i64 0,.int .i64 0,.int .i64 0,.int .i64 0,.int .i64 0,.slice none 0 0]∧OwnI wx wr.heap.size um.v ms∧wr.heap.size≤gm∧Below wr.heap.size wr wx)
   case first=>
    have KEEP:Hid (∀w',Below wr.heap.size wr w'→(w'.cell? ⟨w.heap.size,1,none⟩=some (.slice (some ⟨sb,so,none⟩) n sc)∧w'.cell? ⟨sb,so+k,none⟩=some (.int .i64 d))∧Hid (Below wr.heap.size wr w')):=fun w' hb=>⟨⟨(hr5.out.later hb).cell 1,(hb.cell (p:=⟨sb,so+k,none⟩) hsb).trans hcl⟩,hb⟩
    have c:Below wr.heap.size wr wr.drew:=(Below.refl _ _).drew
    refine wp_region_held_drew (S:=fun w'=>(w'.cell? ⟨w.heap.size,1,none⟩=some (.slice (some ⟨sb,so,none⟩) n sc)∧w'.cell? ⟨sb,so+k,none⟩=some (.int .i64 d))∧Hid (Below wr.heap.size wr w')) (by kernel_rfl) (KEEP.out _ c) (fun Ah=>?_)
    refine tkQ 0 rfl (by kernel_rfl) (by rfl) (fun _ _=>by simp only[Aa,Ab,Ac];go_simp;try with_reducible rfl) Ah ?_ fun _ _ _ h=>h
    try simp only[Act.put,Aa,Ab,Ac,Ad,Ae,Af]
    refine tkQ 1 rfl (by kernel_rfl) (by rfl) (fun _ _=>by simp only[Aa,Ab,Ac];go_simp;try with_reducible rfl) Ah ?_ fun _ _ _ h=>h
    try simp only[Act.put,Aa,Ab,Ac,Ad,Ae,Af]
    refine tkQ 2 rfl (by kernel_rfl) (by rfl) (fun _ _=>by simp only[Aa,Ab,Ac];go_simp;try with_reducible rfl) Ah ?_ fun _ _ _ h=>h
    try simp only[Act.put,Aa,Ab,Ac,Ad,Ae,Af]
    refine tkQ 3 rfl (by kernel_rfl) (by rfl) (fun _ _=>by simp only[Aa,Ab,Ac];go_simp;try with_reducible rfl) Ah ?_ fun _ _ _ h=>h
    try simp only[Act.put,Aa,Ab,Ac,Ad,Ae,Af]
    refine tkQ 4 rfl (by kernel_rfl) (by rfl) (fun _ _=>by simp only[Aa,Ab,Ac];go_simp;try with_reducible rfl) Ah ?_ fun _ _ _ h=>h
    try simp only[Act.put,Aa,Ab,Ac,Ad,Ae,Af]
    refine tkH (i:=5) (v:=_) rfl (by kernel_rfl) (fun _ _ _ h=>h) (qBp (by rfl) 26 _ rfl w.heap.size 0 rfl 26 _ (fun w hS=>hr5.out.later hS.2.out) [.int .i64 i,.slice (some ⟨sb,so,none⟩) n sc] rfl _ Tryz.underlying26 rfl Tryz.sizeR) Ah ?_
    try simp only[Act.put,Aa,Ab,Ac,Ad,Ae,Af]
    refine wpAnyH_ready (rs:=[6,10]) (by kernel_rfl) (by simp) ?_
    refine(AllReadyH.cons (i:=6) rfl (fun K hK=>?_) (AllReadyH.cons (i:=10) rfl (fun K hK=>?_) AllReadyH.nil))
    ·skip
     rw[if_pos (by rfl)]
     simp only[Aa,Ab,Ac]
     go_simp
     refine(qFn d i ⟨some ⟨sb,so,none⟩,n,sc⟩ ms _ (show Hid (RI wr.drew (.slice (some ⟨sb,so,none⟩) n sc) ms)from X7.out.stays c) hl' hr hin).mono ?_
     rintro e y1 ⟨um,rfl,om1,b⟩
     have zc:=c.size
     have O1:Hid (OwnI y1 wr.heap.size (.slice um.a um.n um.c) ms):=om1.down zc
     have c:=qAa c b
     refine hK.out _ _ (KEEP.out _ c) (fun Ah=>?_)
     clear hK K
     try simp only[Act.put,Aa,Ab,Ac,Ad,Ae,Af]
     clear b om1 zc
     refine tkQ 7 rfl (by kernel_rfl) (by rfl) (fun _ _=>by simp only[Aa,Ab,Ac];go_simp;try with_reducible rfl) Ah ?_ fun _ _ _ h=>h
     try simp only[Act.put,Aa,Ab,Ac,Ad,Ae,Af]
     refine tkQ 8 rfl (by kernel_rfl) (by rfl) (fun _ _=>by simp only[Aa,Ab,Ac];go_simp;try with_reducible rfl) Ah ?_ fun _ _ _ h=>h
     try simp only[Act.put,Aa,Ab,Ac,Ad,Ae,Af]
     refine tkQ 9 rfl (by kernel_rfl) (by rfl) (fun _ _=>by simp only[Aa,Ab,Ac];go_simp;try with_reducible rfl) Ah ?_ fun _ _ _ h=>h
     try simp only[Act.put,Aa,Ab,Ac,Ad,Ae,Af]
     refine wpAnyH_ready (rs:=[10]) (by kernel_rfl) (by simp) ?_
     refine AllReadyH.cons (i:=10) rfl (fun K hK=>?_) AllReadyH.nil
     rw[if_pos (by rfl)]
     simp only[Aa,Ab,Ac]
     go_simp
     have BX2:=Ag (bxAt y1 32 [.int .i64 0,.int .i64 0,.slice none 0 0,.slice none 0 0,.slice none 0 0,.slice none 0 0,.int .i64 0,.int .i64 0,.int .i64 0,.int .i64 0,.int .i64 0,.int .i64 0,.int .i64 0,.int .i64 0,.int .i64 0,.slice none 0 0] y1.heap.size (by simp))
     have zq:wr.heap.size≤y1.heap.size:=by have h:=c.size;rw[show y1.heap.size=y1.heap.size by simp]at h;exact h
     have c:Below wr.heap.size wr (y1.alloc (.cells #[.int .i64 0,.int .i64 0,.slice none 0 0,.slice none 0 0,.slice none 0 0,.slice none 0 0,.int .i64 0,.int .i64 0,.int .i64 0,.int .i64 0,.int .i64 0,.int .i64 0,.int .i64 0,.int .i64 0,.int .i64 0,.slice none 0 0] 32)):=c.alloc c.size _
     have O1:Hid (OwnI (y1.alloc (.cells #[.int .i64 0,.int .i64 0,.slice none 0 0,.slice none 0 0,.slice none 0 0,.slice none 0 0,.int .i64 0,.int .i64 0,.int .i64 0,.int .i64 0,.int .i64 0,.int .i64 0,.int .i64 0,.int .i64 0,.int .i64 0,.slice none 0 0] 32)) wr.heap.size (.slice um.a um.n um.c) ms):=O1.out.alloc _
     refine hK.out _ _ (KEEP.out _ c) (fun Ah=>?_)
     clear hK K
     try simp only[Act.put,Aa,Ab,Ac,Ad,Ae,Af]
     refine wpAnyH_ready (rs:=[11]) (by kernel_rfl) (by simp) ?_
     refine AllReadyH.cons (i:=11) rfl (fun K hK=>?_) AllReadyH.nil
     rw[if_pos (by rfl)]
     simp only[Aa,Ab,Ac]
     refine qAm 32 _ _ rfl (y1.heap.size) (by rfl) 32 _ BX2.out [.int .i64 d,.int .i64 i,.slice um.a um.n um.c,.slice none 0 0,.slice none 0 0,.slice none 0 0,.int .i64 0,.int .i64 0,.int .i64 0,.int .i64 0,.int .i64 0,.int .i64 0,.int .i64 0,.int .i64 0,.int .i64 0,.slice none 0 0] (by rfl) rfl Tryz.sizeM rfl ?_
     intro y3 RB3 TB3
     have O3:=O1.out.past BX2.out TB3 (by decide)
     have c:=c.trans (TB3.below zq)
     refine hK.out _ _ (KEEP.out _ c) (fun Ah=>?_)
     clear hK K
     try simp only[Act.put,Aa,Ab,Ac,Ad,Ae,Af]
     refine tkQ 12 rfl (by kernel_rfl) (by rfl) (fun _ _=>by simp only[Aa,Ab,Ac];go_simp;try with_reducible rfl) Ah ?_ fun _ _ _ h=>h
     try simp only[Act.put,Aa,Ab,Ac,Ad,Ae,Af]
     refine wpAnyH_done (by kernel_rfl) ?_ _
     try go_wp2_with fail
     go_meet
     exact⟨_,um,rfl,rfl,RB3,O3,zq,c⟩
    ·skip
     rw[if_pos (by rfl)]
     simp only[Aa,Ab,Ac]
     go_simp
     have BX1:=Ag (bxAt wr.drew 32 [.int .i64 0,.int .i64 0,.slice none 0 0,.slice none 0 0,.slice none 0 0,.slice none 0 0,.int .i64 0,.int .i64 0,.int .i64 0,.int .i64 0,.int .i64 0,.int .i64 0,.int .i64 0,.int .i64 0,.int .i64 0,.slice none 0 0] wr.heap.size (by simp))
     have zq:wr.heap.size≤wr.heap.size:=by have h:=c.size;rw[show wr.drew.heap.size=wr.heap.size by simp]at h;exact h
     have c:Below wr.heap.size wr (wr.drew.alloc (.cells #[.int .i64 0,.int .i64 0,.slice none 0 0,.slice none 0 0,.slice none 0 0,.slice none 0 0,.int .i64 0,.int .i64 0,.int .i64 0,.int .i64 0,.int .i64 0,.int .i64 0,.int .i64 0,.int .i64 0,.int .i64 0,.slice none 0 0] 32)):=c.alloc c.size _
     refine hK.out _ _ (KEEP.out _ c) (fun Ah=>?_)
     clear hK K
     try simp only[Act.put,Aa,Ab,Ac,Ad,Ae,Af]
     refine wpAnyH_ready (rs:=[6]) (by kernel_rfl) (by simp) ?_
     refine AllReadyH.cons (i:=6) rfl (fun K hK=>?_) AllReadyH.nil
     rw[if_pos (by rfl)]
     simp only[Aa,Ab,Ac]
     go_simp
     refine(qFn d i ⟨some ⟨sb,so,none⟩,n,sc⟩ ms _ (show Hid (RI (wr.drew.alloc (.cells #[.int .i64 0,.int .i64 0,.slice none 0 0,.slice none 0 0,.slice none 0 0,.slice none 0 0,.int .i64 0,.int .i64 0,.int .i64 0,.int .i64 0,.int .i64 0,.int .i64 0,.int .i64 0,.int .i64 0,.int .i64 0,.slice none 0 0] 32)) (.slice (some ⟨sb,so,none⟩) n sc) ms)from X7.out.stays c) hl' hr hin).mono ?_
     rintro e y2 ⟨um,rfl,om2,b⟩
     have zc:wr.heap.size≤(wr.drew.alloc (.cells #[.int .i64 0,.int .i64 0,.slice none 0 0,.slice none 0 0,.slice none 0 0,.slice none 0 0,.int .i64 0,.int .i64 0,.int .i64 0,.int .i64 0,.int .i64 0,.int .i64 0,.int .i64 0,.int .i64 0,.int .i64 0,.slice none 0 0] 32)).heap.size:=c.size
     have BX1:=Ag (BX1.out.later b)
     have O2:Hid (OwnI y2 wr.heap.size (.slice um.a um.n um.c) ms):=om2.down zc
     have c:=qAa c b
     refine hK.out _ _ (KEEP.out _ c) (fun Ah=>?_)
     clear hK K
     try simp only[Act.put,Aa,Ab,Ac,Ad,Ae,Af]
     clear b om2 zc
     refine tkQ 7 rfl (by kernel_rfl) (by rfl) (fun _ _=>by simp only[Aa,Ab,Ac];go_simp;try with_reducible rfl) Ah ?_ fun _ _ _ h=>h
     try simp only[Act.put,Aa,Ab,Ac,Ad,Ae,Af]
     refine tkQ 8 rfl (by kernel_rfl) (by rfl) (fun _ _=>by simp only[Aa,Ab,Ac];go_simp;try with_reducible rfl) Ah ?_ fun _ _ _ h=>h
     try simp only[Act.put,Aa,Ab,Ac,Ad,Ae,Af]
     refine tkQ 9 rfl (by kernel_rfl) (by rfl) (fun _ _=>by simp only[Aa,Ab,Ac];go_simp;try with_reducible rfl) Ah ?_ fun _ _ _ h=>h
     try simp only[Act.put,Aa,Ab,Ac,Ad,Ae,Af]
     refine wpAnyH_ready (rs:=[11]) (by kernel_rfl) (by simp) ?_
     refine AllReadyH.cons (i:=11) rfl (fun K hK=>?_) AllReadyH.nil
     rw[if_pos (by rfl)]
     simp only[Aa,Ab,Ac]
     refine qAm 32 _ _ rfl (wr.heap.size) (by rfl) 32 _ BX1.out [.int .i64 d,.int .i64 i,.slice um.a um.n um.c,.slice none 0 0,.slice none 0 0,.slice none 0 0,.int .i64 0,.int .i64 0,.int .i64 0,.int .i64 0,.int .i64 0,.int .i64 0,.int .i64 0,.int .i64 0,.int .i64 0,.slice none 0 0] (by rfl) rfl Tryz.sizeM rfl ?_
     intro y3 RB3 TB3
     have O3:=O2.out.past BX1.out TB3 (by decide)
     have c:=c.trans (TB3.below zq)
     refine hK.out _ _ (KEEP.out _ c) (fun Ah=>?_)
     clear hK K
     try simp only[Act.put,Aa,Ab,Ac,Ad,Ae,Af]
     refine tkQ 12 rfl (by kernel_rfl) (by rfl) (fun _ _=>by simp only[Aa,Ab,Ac];go_simp;try with_reducible rfl) Ah ?_ fun _ _ _ h=>h
     try simp only[Act.put,Aa,Ab,Ac,Ad,Ae,Af]
     refine wpAnyH_done (by kernel_rfl) ?_ _
     try go_wp2_with fail
     go_meet
     exact⟨_,um,rfl,rfl,RB3,O3,zq,c⟩
   case rest=>
   obtain⟨gm,um,rfl,rfl,hbm,hom,zgm,b7⟩:=hcut
   generalize wc=W7 at *
   obtain⟨GM,OM,GB7⟩:=cy3 hbm (hom.down (Nat.zero_le _)) (GB.out.later b7)
   have OQ7:Hid (OwnI W7 w1.heap.size uq.v ms):=OQ.out.keep fun k _ hk=>b7.block k hk
   obtain⟨MA7,HE7,BL7⟩:=cy3 (MA.out.below b7) (HE.out.below b7) (qAa BL.out b7)
   have zB:w1.heap.size≤W7.heap.size:=BL7.out.size
   have hml:(ma.map mcel).length≤1048576:=by rw[List.length_map,←List.length_map (f:=(·.1)),NW.out.1];simp;omega
   have hhl:(he.map hcel).length≤1048576:=by rw[List.length_map,←List.length_map (f:=(·.1)),NW.out.2];simp;omega
   clear hbm hom b7 GB OQ MA HE BL hr5 r51 hcl X7 hin i0 i1 hsb
   have q2:=GB7.out.cell 2
   go_wp2_with (first|(refine qAb rfl 32 _ rfl gm 0 rfl 32 _ GM.out [.int .i64 d,.int .i64 i,.slice um.a um.n um.c,.slice none 0 0,.slice none 0 0,.slice none 0 0,.int .i64 0,.int .i64 0,.int .i64 0,.int .i64 0,.int .i64 0,.int .i64 0,.int .i64 0,.int .i64 0,.int .i64 0,.slice none 0 0] rfl _ Tryz.underlying32 rfl Tryz.sizeM ?_)|(at_builtin;refine Stp.here ?_))
   refine Stp.go ?_
   refine qDf rfl _ _ 52 rfl _ 208 Tryz.underlying52 Tryz.infoMt rfl (by decide) w1.heap.size (.slice mav.a mav.n mav.c) (ma.map mcel) rfl MA7.out.1 [.int .i64 d,.int .i64 i,.slice um.a um.n um.c,.slice none 0 0,.slice none 0 0,.slice none 0 0,.int .i64 0,.int .i64 0,.int .i64 0,.int .i64 0,.int .i64 0,.int .i64 0,.int .i64 0,.int .i64 0,.int .i64 0,.slice none 0 0] rfl rfl rfl hml zB ?_
   intro v8 w8 hs8 hg8 hb8 ho8
   obtain⟨s8,hf8,hn8⟩:=hs8.form
   subst hf8
   have P8:Hid (MsP w8 w1.heap.size s8.v (ma++[(newM d i ms,⟨um,zSv,zSv,zSv,zSv⟩)])):=msP_push MA7.out hs8 hg8 OM.out rfl
   have GB8:Hid (Bx w8 gq 56 [.int .i64 i,.slice uq.a uq.n uq.c,.slice mav.a mav.n mav.c,.slice none 0 0,.slice hev.a hev.n hev.c,.slice none 0 0]):=GB7.out.kt (KeepTy.ofPush (S:=fun T=>T=32) MA7.out.1 hg8 rfl) (by decide)
   have OQ8:Hid (OwnI w8 w1.heap.size uq.v ms):=OQ7.out.kt (KeepTy.ofPush (S:=fun T=>T=32) MA7.out.1 hg8 rfl) (by decide)
   have HE8:Hid (HsP w8 w1.heap.size hev.v he):=HE7.out.kt (KeepTy.ofPush (S:=fun T=>T=32) MA7.out.1 hg8 rfl) (by decide) (by decide)
   have BL8:=Ag (BL7.out.trans hb8)
   clear hs8 hg8 hb8 ho8 hn8 q2
   go_wp2_with (first|(refine qAe rfl 52 _ _ rfl gq 2 rfl 56 _ GB8.out (.slice s8.a s8.n s8.c) rfl (by simp) rfl Tryz.sizeMts [.int .i64 i,.slice uq.a uq.n uq.c,.slice s8.a s8.n s8.c,.slice none 0 0,.slice hev.a hev.n hev.c,.slice none 0 0] rfl ?_;intro w9 GB9 T9;have q4:=GB9.cell 4)|(refine qEg 54 1 _ rfl ?_))
   have K9:Hid (KeepTy (fun T=>T=56) w8 w9):=KeepTy.ofTurn GB8.out T9 rfl
   have GB9:Hid (Bx w9 gq 56 [.int .i64 i,.slice uq.a uq.n uq.c,.slice s8.a s8.n s8.c,.slice none 0 0,.slice hev.a hev.n hev.c,.slice none 0 0]):=GB9
   obtain⟨P9,OQ9,HE9⟩:=cy3 (P8.out.kt K9.out (by decide) (by decide) (by decide) (by decide)) (OQ8.out.kt K9.out (by decide)) (HE8.out.kt K9.out (by decide) (by decide))
   have BL9:Hid (Below w1.heap.size w1 w9):=BL8.out.trans (T9.below (by have:=ZGQ.out;omega))
   clear P8 OQ8 HE8 BL8 T9 K9 GB8 GB7 OQ7 MA7 HE7 BL7 GM OM
   have b10:=bA w9 (.cells #[] 41)
   have Z10:Hid (SlI (w9.alloc (.cells #[] 41)) 0 (.slice (some ⟨w9.heap.size,0,none⟩) 0 0) []):=SlI.made w9 0 (Nat.zero_le _)
   obtain⟨GB10,P10⟩:=cy2 (GB9.out.later b10) (P9.out.below b10)
   have OQ10:Hid (OwnI (w9.alloc (.cells #[] 41)) w1.heap.size uq.v ms):=OQ9.out.keep fun k _ hk=>b10.block k hk
   obtain⟨HE10,BL10⟩:=cy2 (HE9.out.below b10) (qAa BL9.out b10)
   clear P9 OQ9 HE9 BL9 GB9 q4 b10
   refine Stp.go ?_
   generalize w9.alloc (.cells #[] 41)=Wx at *
   generalize w9.heap.size=g9 at *
   have zB10:w1.heap.size≤Wx.heap.size:=BL10.out.size
   go_wp2_with (first|(at_builtin;refine Stp.here ?_))
   refine Stp.go ?_
   refine qDf rfl _ _ 54 rfl _ 24 Tryz.underlying54 Tryz.infoIt rfl (by decide) w1.heap.size (.slice hev.a hev.n hev.c) (he.map hcel) rfl HE10.out.1 [.slice (some ⟨g9,0,none⟩) 0 0] rfl rfl rfl hhl zB10 ?_
   intro vb wb hsb2 hgb hbb hob
   obtain⟨sh,hfb,hnb⟩:=hsb2.form
   subst hfb
   have Kb:Hid (KeepTy (fun T=>T=27) Wx wb):=KeepTy.ofPush HE10.out.1 hgb rfl
   have HEb:Hid (HsP wb w1.heap.size sh.v (he++[([],⟨some ⟨g9,0,none⟩,0,0⟩)])):=⟨by rw[List.map_append];exact hsb2,fun e hh=>by
    rcases List.mem_append.1 hh with hh|hh
    ·exact(HE10.out.2 e hh).kt Kb.out (by decide)
    ·simp at hh;subst hh;exact Z10.out.kt Kb.out (by decide)⟩
   obtain⟨GBb,Pb,OQb,BLb⟩:=cy4 (GB10.out.kt Kb.out (by decide)) (P10.out.kt Kb.out (by decide) (by decide) (by decide) (by decide)) (OQ10.out.kt Kb.out (by decide)) (BL10.out.trans hbb)
   clear hsb2 hgb hbb hob hnb Z10 GB10 P10 OQ10 HE10 BL10 Kb
   go_wp2_with (first|(refine qAe rfl 54 _ _ rfl gq 4 rfl 56 _ GBb.out (.slice sh.a sh.n sh.c) rfl (by simp) rfl Tryz.sizeIss [.int .i64 i,.slice uq.a uq.n uq.c,.slice s8.a s8.n s8.c,.slice none 0 0,.slice sh.a sh.n sh.c,.slice none 0 0] rfl ?_;intro wd GBd Td))
   have Kd:Hid (KeepTy (fun T=>T=56) wb wd):=KeepTy.ofTurn GBb.out Td rfl
   go_roundw
   case rel=>exact⟨k+1,s8,sh,_,_,by omega,by go_num,GBd,OQb.out.kt Kd.out (by decide),Pb.out.kt Kd.out (by decide) (by decide) (by decide) (by decide),HEb.out.kt Kd.out (by decide) (by decide),newW_step NW.out hkm HD.out,BLb.out.trans (Td.below (by have:=ZGQ.out;omega))⟩
   case measure=>simp[intOf];omega
  ·have hkn:k=ms.length:=by rw[←hn.out];omega
   have hm0:0<ms.length:=h0.out
   obtain⟨hsb,hcl⟩:=(I1.out.stays BL.out).at 0 hm0
   rw[Nat.add_zero]at hcl
   have XR:=Ag (X1.out.stays BL.out)
   obtain⟨d0,hd0⟩: ∃d,d=ms[0]:=⟨_,rfl⟩
   rw[←hd0]at hcl
   have HD0:Hid (d0=ms.getD 0 0):=(by rw[hd0];simp[List.getD,hm0]:d0=ms.getD 0 0)
   have NWx:Hid (newW i ms ms.length ma he):=(by rw[←hkn];exact NW.out:newW i ms ms.length ma he)
   have n0:0<n:=by have:=hn.out;omega
   clear hd0 NW hkn hm0
   go_wp2_with fail
   have KEEP:Hid (∀w',Below wr.heap.size wr w'→(w'.cell? ⟨w.heap.size,1,none⟩=some (.slice (some ⟨sb,so,none⟩) n sc)∧w'.cell? ⟨sb,so,none⟩=some (.int .i64 d0))∧Hid (Below wr.heap.size wr w')):=fun w' hb=>⟨⟨(hr5.out.later hb).cell 1,(hb.cell (p:=⟨sb,so,none⟩) hsb).trans hcl⟩,hb⟩
   have c:Below wr.heap.size wr wr.drew:=(Below.refl _ _).drew
   refine qAj (S:=fun w'=>(w'.cell? ⟨w.heap.size,1,none⟩=some (.slice (some ⟨sb,so,none⟩) n sc)∧w'.cell? ⟨sb,so,none⟩=some (.int .i64 d0))∧Hid (Below wr.heap.size wr w')) _ (by simp) (by kernel_rfl) (by rfl) (by rfl) (by kernel_rfl) (by kernel_rfl) (KEEP.out _ c) (fun Ah=>?_)
   simp only[List.dropLast_cons_cons,List.dropLast_singleton,List.getLast_cons_cons,List.getLast_singleton,List.cons_append,List.nil_append,List.length_cons,List.length_nil]
   refine tkQ 0 rfl (by kernel_rfl) (by rfl) (fun _ _=>by simp only[Aa,Ab,Ac];go_simp;try with_reducible rfl) Ah ?_ fun _ _ _ h=>h
   try simp only[Act.put,Aa,Ab,Ac,Ad,Ae,Af]
   refine tkQ 1 rfl (by kernel_rfl) (by rfl) (fun _ _=>by simp only[Aa,Ab,Ac];go_simp;try with_reducible rfl) Ah ?_ fun _ _ _ h=>h
   try simp only[Act.put,Aa,Ab,Ac,Ad,Ae,Af]
   refine tkQ 2 rfl (by kernel_rfl) (by rfl) (fun _ _=>by simp only[Aa,Ab,Ac];go_simp;try with_reducible rfl) Ah ?_ fun _ _ _ h=>h
   try simp only[Act.put,Aa,Ab,Ac,Ad,Ae,Af]
   refine tkQ 3 rfl (by kernel_rfl) (by rfl) (fun _ _=>by simp only[Aa,Ab,Ac];go_simp;try with_reducible rfl) Ah ?_ fun _ _ _ h=>h
   try simp only[Act.put,Aa,Ab,Ac,Ad,Ae,Af]
   refine tkH (i:=4) (v:=_) rfl (by kernel_rfl) (fun _ _ _ h=>h) (qBp (by rfl) 26 _ rfl w.heap.size 0 rfl 26 _ (fun w hS=>hr5.out.later hS.2.out) [.int .i64 i,.slice (some ⟨sb,so,none⟩) n sc] rfl _ Tryz.underlying26 rfl Tryz.sizeR) Ah ?_
   try simp only[Act.put,Aa,Ab,Ac,Ad,Ae,Af]
   refine wpAnyH_ready (rs:=[5]) (by kernel_rfl) (by simp) ?_
   refine AllReadyH.cons (i:=5) rfl (fun K hK=>?_) AllReadyH.nil
   rw[if_pos (by rfl)]
   simp only[Aa,Ab,Ac]
   go_simp
   refine(spFirst_r i ms (show Hid (RI wr.drew (.slice (some ⟨sb,so,none⟩) n sc) ms)from XR.out.stays c) hl' hr).mono ?_
   rintro e y1 ⟨rfl,b⟩
   have c:=qAa c b
   refine hK.out _ _ (KEEP.out _ c) (fun Ah=>?_)
   clear hK K
   try simp only[Act.put,Aa,Ab,Ac,Ad,Ae,Af]
   clear b
   refine tkQ 6 rfl (by kernel_rfl) (by rfl) (fun _ _=>by simp only[Aa,Ab,Ac];go_simp;try with_reducible rfl) Ah ?_ fun _ _ _ h=>h
   try simp only[Act.put,Aa,Ab,Ac,Ad,Ae,Af]
   refine wpAnyH_ready (rs:=[7]) (by kernel_rfl) (by simp) ?_
   refine AllReadyH.cons (i:=7) rfl (fun K hK=>?_) AllReadyH.nil
   rw[if_pos (by rfl)]
   simp only[Aa,Ab,Ac]
   go_simp
   have FL:Hid (SlN (y1.alloc (.cells #[.int .i64 d0,.bool true,.int .i64 i,.int .i64 1,.int .i64 0,.int .i64 0,.int .i64 0,.slice none 0 0,.int .i64 0,.int .i64 0,.int .i64 0,.string ⟨#[]⟩] 68)) 68 12 0 (.slice (some ⟨y1.heap.size,0,none⟩) 1 1) [[.int .i64 d0,.bool true,.int .i64 i,.int .i64 1,.int .i64 0,.int .i64 0,.int .i64 0,.slice none 0 0,.int .i64 0,.int .i64 0,.int .i64 0,.string ⟨#[]⟩]]):=SlN.one y1 68 12 0 _ rfl rfl (Nat.zero_le _)
   have c:Below wr.heap.size wr (y1.alloc (.cells #[.int .i64 d0,.bool true,.int .i64 i,.int .i64 1,.int .i64 0,.int .i64 0,.int .i64 0,.slice none 0 0,.int .i64 0,.int .i64 0,.int .i64 0,.string ⟨#[]⟩] 68)):=c.alloc c.size _
   refine hK.out _ _ (KEEP.out _ c) (fun Ah=>?_)
   clear hK K
   try simp only[Act.put,Aa,Ab,Ac,Ad,Ae,Af]
   refine tkQ 8 rfl (by kernel_rfl) (by rfl) (fun _ _=>by simp only[Aa,Ab,Ac];go_simp;try with_reducible rfl) Ah ?_ fun _ _ _ h=>h
   try simp only[Act.put,Aa,Ab,Ac,Ad,Ae,Af]
   refine tkQ 9 rfl (by kernel_rfl) (by rfl) (fun _ _=>by simp only[Aa,Ab,Ac];go_simp;try with_reducible rfl) Ah ?_ fun _ _ _ h=>h
   try simp only[Act.put,Aa,Ab,Ac,Ad,Ae,Af]
   refine wpAnyH_done (by kernel_rfl) ?_ _
   have GBy:=Ag (GB.out.later c)
   refine qBj rfl rfl ?_
   refine qCy 53 _ _ rfl gq 3 rfl 56 _ GBy.out (.slice (some ⟨y1.heap.size,0,none⟩) 1 1) rfl (by simp) rfl Tryz.sizeFls [.int .i64 i,.slice uq.a uq.n uq.c,.slice mav.a mav.n mav.c,.slice (some ⟨y1.heap.size,0,none⟩) 1 1,.slice hev.a hev.n hev.c,.slice none 0 0] rfl ?_
   intro we GBe Te
   have WP:Hid (WkP we ⟨i,ms,uq,ma,mav,[(⟨d0,true,⟨i,1,0,0,0,[]⟩,zIt⟩,zSv)],⟨some ⟨y1.heap.size,0,none⟩,1,1⟩,he,hev,[],zSv⟩):=by
    have Ke:KeepTy (fun T=>T=56) (y1.alloc (.cells #[.int .i64 d0,.bool true,.int .i64 i,.int .i64 1,.int .i64 0,.int .i64 0,.int .i64 0,.slice none 0 0,.int .i64 0,.int .i64 0,.int .i64 0,.string ⟨#[]⟩] 68)) we:=KeepTy.ofTurn GBy.out Te rfl
    refine⟨((OQ.out.down (Nat.zero_le _)).keep fun k _ hk=>c.block k hk).kt Ke (by decide),((MA.out.down (Nat.zero_le _)).below c).kt Ke (by decide) (by decide) (by decide) (by decide),⟨FL.out.kt Ke (by decide),fun e hh=>?_⟩,((HE.out.down (Nat.zero_le _)).below c).kt Ke (by decide) (by decide),own_nilIt _ _⟩
    simp at hh;subst hh;exact qEa _ _
   have Re:Hid (Bx we (w.heap.size+1) 56 [.int .i64 0,.slice none 0 0,.slice none 0 0,.slice none 0 0,.slice none 0 0,.slice none 0 0]):=((R1.out.later BL.out).later c).turn Te (by have h1:=ZGQ.out;have h2:=R1.out.lt;omega)
   have Be:Hid (Below w.heap.size w we):=(B1.out.trans ((qAa BL.out c).mono B1.out.size)).trans (Te.below (by have h1:=ZGQ.out;have h2:=B1.out.size;omega))
   clear GBy Te c KEEP FL GB OQ MA HE BL hr5 r51 hcl XR n0 hsb
   go_wp2_with (first|(refine qAb rfl 56 _ rfl gq 0 rfl 56 _ GBe [.int .i64 i,.slice uq.a uq.n uq.c,.slice mav.a mav.n mav.c,.slice (some ⟨y1.heap.size,0,none⟩) 1 1,.slice hev.a hev.n hev.c,.slice none 0 0] rfl _ Tryz.underlying56 rfl Tryz.sizeWk ?_)|(refine qAd rfl 56 _ _ rfl (w.heap.size+1) rfl 56 _ Re.out [.int .i64 i,.slice uq.a uq.n uq.c,.slice mav.a mav.n mav.c,.slice (some ⟨y1.heap.size,0,none⟩) 1 1,.slice hev.a hev.n hev.c,.slice none 0 0] rfl rfl Tryz.sizeWk rfl ?_;intro wz RZ TZ))
   refine bodyPost_ret (qBu Tryz.results85 (w.heap.size+1) 56 [.int .i64 i,.slice uq.a uq.n uq.c,.slice mav.a mav.n mav.c,.slice (some ⟨y1.heap.size,0,none⟩) 1 1,.slice hev.a hev.n hev.c,.slice none 0 0] _ rfl RZ Tryz.underlying56 rfl Tryz.sizeWk) rfl ?_
   exact⟨_,rfl,WP.out.keepb Re.out TZ.keep,Be.out.trans (TZ.below (by omega)),rfl,rfl,NWx.out,rfl,by rw[←HD0.out];rfl⟩
theorem qKg(i:Int)(s:Sv)(ms:List Int)(w:World)(h:Hid (RI w s.v ms))(hl:ms.length≤1048576)(hr:Hid (qAy i ms=true)):
  Calls Tryz.prog 85 #[.agg #[.int .i64 i,.slice s.a s.n s.c]] w fun e w'=>∃k:Wv,e=.returned (.tuple #[.agg k.cells.toArray,.bool true])∧WkP w' k∧Below w.heap.size w w'∧(k.rid=i∧k.ms=ms∧newW i ms ms.length k.ma k.he∧k.sa=[]∧k.fl.map (·.1)=[⟨ms.getD 0 0,true,⟨i,1,0,0,0,[]⟩,zIt⟩]):=by
 have h0:0<ms.length:=by
  have:=hr.out
  unfold qAy at this
  simp at this
  exact this.2.1
 obtain⟨ao,cap,hv,hx⟩:=h.out
 obtain⟨b,off,e,_,_⟩:=hx 0 h0
 subst e
 cases s
 simp[Sv.v]at hv
 obtain⟨rfl,rfl,rfl⟩:=hv
 exact spWorkNew_at i b off ms.length _ ms w hx (rfl:ms.length=ms.length) hl hr h0
def waitB(li q l:Int):Bool:=decide (l=2)&&decide (li<q)
theorem keep_grow{g:Nat}{w a b:World}{row:Option Nat}(h:KeepBut g w a)(k:a.grownBy b row)(hr: ∀n,row=some n→w.heap.size≤n):KeepBut g w b:=
 ⟨k.os.trans h.os,k.tape.trans h.tape,k.output.trans h.output,Nat.le_trans h.size k.size,fun i hi hne=>(k.block i (Nat.lt_of_lt_of_le hi h.size) (fun e=>by have:=hr i e.symm;omega)).trans (h.block i hi hne)⟩
def qFh(ts:List It)(li:Int):Nat→Int→List It
 |0,_=>[]
 |n+1,h=>match atP ts (h+1)with
  |none=>[]
  |some x=>if waitB li x.1 x.2.2.1=true then[]else x::qFh ts li n (h+1)
theorem hears_none{ts:List It}{li h:Int}{n:Nat}(hx:atP ts (h+1)=none):qFh ts li (n+1) h=[]:=by unfold qFh;rw[hx]
theorem qJw{ts:List It}{li h:Int}{n:Nat}{x:It}(hx:atP ts (h+1)=some x)(hw:waitB li x.1 x.2.2.1=true):qFh ts li (n+1) h=[]:=by unfold qFh;rw[hx];simp[hw]
theorem hears_go{ts:List It}{li h:Int}{n:Nat}{x:It}(hx:atP ts (h+1)=some x)(hw:waitB li x.1 x.2.2.1=false):qFh ts li (n+1) h=x::qFh ts li n (h+1):=by conv=>lhs;unfold qFh;rw[hx];simp[hw]
theorem qEm(ts:List It)(li:Int): ∀(n:Nat) (h:Int),(qFh ts li n h).length≤n
 |0,_=>by simp[qFh]
 |n+1,h=>by
  cases hx:atP ts (h+1)with
  |none=>rw[hears_none hx];simp
  |some x=>
   cases hw:waitB li x.1 x.2.2.1 with
   |true=>rw[qJw hx hw];simp
   |false=>rw[hears_go hx hw];have:=qEm ts li n (h+1);simp;omega
def Mt.hear(m:Mt):List It:=qFh m.its m.li ((aruP m.its:Int) - m.he).toNat m.he
def Mt.setH(m:Mt)(h:Int):Mt:=⟨m.id,m.rid,m.ms,m.its,m.lv,m.tx,m.rd,m.se,m.li,h,m.la⟩
def lenV:Value→Nat
 | .slice _ n _=>n
 |_=>0
theorem lenV_of{w:World}{B:Nat}{v:Value}{ts:List It}(h:SlI w B v ts):lenV v=ts.length:=by
 obtain⟨a,c,h1⟩:=Sl.form h
 rw[h1];rfl
theorem Tryz.sizeN3:(Tryz.prog.info? 3).map (·.size)=some 1:=by kernel_rfl
theorem qAn{w w':World}{B g:Nat}{v:Value}{ts:List It}{c r q a b:Int}{u:Value}(h:SlI w B v ts)(hu:TokAt w g c r q a b u)(ht:TurnAt g w w'):SlI w' B v ts:=
 h.keep fun k hk _=>ht.block k (fun e=>qFr h hu (by decide) (e ▸ hk))
theorem TokAt.set2{w:World}{g:Nat}{c r q a b:Int}{v:Value}(h:TokAt w g c r q a b v)(x:Int):TokAt (w.setCell ⟨g,2,none⟩ (.int .i64 x)) g c r x a b v:=by
 have:=heap_setCell_same w g 2 _ 30 (.int .i64 x) h
 unfold TokAt;rw[this];rfl
theorem num_0(c r q a b f:Int)(u0:Value)(ws:List Int)(B0:Nat)(al:Option Addr)(cl:Nat)(lv:List Int)(at_:Option Addr)(ct:Nat)(tx:List ByteArray)(w:World)(h:Hid (OwnI w B0 u0 ws))(hl:ws.length≤1048576)(hlv:Hid (IntsAt w al lv))(hll:lv.length≤1048576)(htx:Hid (TextsAt w at_ tx))(hlt:tx.length≤1048576)(ht:Hid (tkB c r q a b ws=false)):
  Calls Tryz.prog 122 #[.agg #[.int .i64 c,.int .i64 r,.int .i64 q,.int .i64 a,.int .i64 b,u0],.int .i64 f,.slice al lv.length cl,.slice at_ tx.length ct] w fun e w'=>∃v vi,e=.returned (.tuple #[.agg #[.int .i64 c,.int .i64 r,.int .i64 q,.int .i64 a,.int .i64 b,v],vi])∧OwnI w' w.heap.size v ws∧SlI w' w.heap.size vi []∧Below w.heap.size w w':=by
 obtain⟨HA,HR,HB,HU⟩:=enT w c r q a b u0 B0 ws h.out
 clear h
 go_enter Tryz.func122,Tryz.ntmps122
 go_wp2_with fail
 generalize ((w.alloc (.cells #[.int .i64 c,.int .i64 r,.int .i64 q,.int .i64 a,.int .i64 b,u0] 30)).alloc (.cells #[.int .i64 0,.int .i64 0,.int .i64 0,.int .i64 0,.int .i64 0,.slice none 0 0] 30))=W at *
 have hWs:w.heap.size≤W.heap.size:=HB.out.size
 have hWr:w.heap.size+1<W.heap.size:=HR.out.lt
 refine(qEn c r q a b u0 ws B0 W HU hl).mono ?_
 rintro e w1 ⟨v1,rfl,hv1,hb1⟩
 obtain⟨ao1,cap1,hf1⟩:=hv1.form
 subst hf1
 have hWm:=hb1.size
 have hm1:(w1.alloc (.cells #[] 41)).heap.size=w1.heap.size+1:=by simp
 have hm2:(w1.alloc (.cells #[.int .i64 c,.int .i64 r,.int .i64 q,.int .i64 a,.int .i64 b,.slice ao1 ws.length cap1] 30)).heap.size=w1.heap.size+1:=by simp
 have hm3:((w1.alloc (.cells #[] 41)).alloc (.cells #[.int .i64 c,.int .i64 r,.int .i64 q,.int .i64 a,.int .i64 b,.slice ao1 ws.length cap1] 30)).heap.size=w1.heap.size+2:=by simp
 have E1:Below W.heap.size W ((w1.alloc (.cells #[] 41)).alloc (.cells #[.int .i64 c,.int .i64 r,.int .i64 q,.int .i64 a,.int .i64 b,.slice ao1 ws.length cap1] 30)):=(hb1.alloc hb1.size _).alloc (by simp;omega) _
 have O1:Hid (TokAt ((w1.alloc (.cells #[] 41)).alloc (.cells #[.int .i64 c,.int .i64 r,.int .i64 q,.int .i64 a,.int .i64 b,.slice ao1 ws.length cap1] 30)) (w1.heap.size+1) c r q a b (.slice ao1 ws.length cap1)):=by
  have h:=heap_alloc_new (w1.alloc (.cells #[] 41)) (.cells #[.int .i64 c,.int .i64 r,.int .i64 q,.int .i64 a,.int .i64 b,.slice ao1 ws.length cap1] 30);rw[hm1]at h;exact h
 have I1:Hid (SlI ((w1.alloc (.cells #[] 41)).alloc (.cells #[.int .i64 c,.int .i64 r,.int .i64 q,.int .i64 a,.int .i64 b,.slice ao1 ws.length cap1] 30)) w1.heap.size (.slice (some ⟨w1.heap.size,0,none⟩) 0 0) []):=by
  exact(SlI.made w1 w1.heap.size (Nat.le_refl _)).below ((Below.refl _ _).alloc (Nat.le_refl _) _)
 obtain⟨A1,R1⟩:=cy2 (HA.out.stays E1 HA.out.lt) (HR.out.stays E1 HR.out.lt)
 have VL:Hid (∀k,(Value.slice ao1 ws.length cap1).ownBlock=some k→k<w1.heap.size):=fun k hk=>(hv1.lt k hk).2
 have V1:Hid (OwnI ((w1.alloc (.cells #[] 41)).alloc (.cells #[.int .i64 c,.int .i64 r,.int .i64 q,.int .i64 a,.int .i64 b,.slice ao1 ws.length cap1] 30)) w.heap.size (.slice ao1 ws.length cap1) ws):=((hv1.alloc _).alloc _).down hWs
 obtain⟨B1,U1⟩:=cy2 (HB.out.trans (E1.mono hWs)) (HU.out.stays E1 (fun k hk=>(HU.out.lt k hk).2))
 have hgO:w.heap.size+1<w1.heap.size:=Nat.lt_of_lt_of_le hWr hWm
 obtain⟨s0,s1,s2,s3,s4,s5⟩:=A1.out.cells
 clear hv1 hb1 E1 HA HR HU HB hWs hWr hWm hm1 hm2
 go_wp2_with fail
 generalize ((w1.alloc (.cells #[] 41)).alloc (.cells #[.int .i64 c,.int .i64 r,.int .i64 q,.int .i64 a,.int .i64 b,.slice ao1 ws.length cap1] 30))=W1 at *
 generalize w1.heap.size=N1 at *
 obtain⟨ao0,cap0,hu0,hx0⟩:=U1.out.ints
 have X1:Hid (IntsAt W1 ao0 ws):=hx0
 subst hu0
 refine(qBv c r q a b ao0 cap0 ws _ X1 hl).mono ?_
 rintro e w2 ⟨rfl,hb2⟩
 obtain⟨OO,AA,RR,LL,SI,BB⟩:=cy6 (O1.out.stays hb2 O1.out.lt) (A1.out.stays hb2 A1.out.lt) (R1.out.stays hb2 R1.out.lt) (qAr V1.out hb2) (I1.out.below hb2) (B1.out.trans (hb2.mono B1.out.size))
 have z2:N1+2≤w2.heap.size:=by rw[←hm3];exact hb2.size
 clear hb2 O1 R1 V1 B1 A1 U1 X1 hx0 s0 s1 s2 s3 s4 s5 I1 hm3
 rw[ht.out]
 clear ht
 have SS:Hid (SlI w2 w.heap.size (.slice (some ⟨N1,0,none⟩) 0 0) []):=SI.out.down (by omega)
 obtain⟨x0,x1,x2,x3,x4,x5⟩:=OO.out.cells
 obtain⟨y0,y1,y2,y3,y4,y5⟩:=RR.out.cells
 have m0:=RR.out.frozen 0
 have m1:=RR.out.frozen 1
 have m2:=RR.out.frozen 2
 have m3:=RR.out.frozen 3
 have m4:=RR.out.frozen 4
 have m5:=RR.out.frozen 5
 go_wp2_with fail
 have R3:TokAt _ (w.heap.size+1) c r q a b (.slice ao1 ws.length cap1):=RR.out.agg c r q a b (.slice ao1 ws.length cap1)
 have T3:=((((((TurnAt.refl (w.heap.size+1) w2).setCell 0 (.int .i64 c)).setCell 1 (.int .i64 r)).setCell 2 (.int .i64 q)).setCell 3 (.int .i64 a)).setCell 4 (.int .i64 b)).setCell 5 (.slice ao1 ws.length cap1)
 have V3:=qAg LL.out RR.out T3
 have S3:=qAn SS.out RR.out T3
 have B3:=BB.out.trans (T3.below (by omega))
 clear T3
 generalize ((((((w2.setCell ⟨w.heap.size+1,0,none⟩ (.int .i64 c)).setCell ⟨w.heap.size+1,1,none⟩ (.int .i64 r)).setCell ⟨w.heap.size+1,2,none⟩ (.int .i64 q)).setCell ⟨w.heap.size+1,3,none⟩ (.int .i64 a)).setCell ⟨w.heap.size+1,4,none⟩ (.int .i64 b)).setCell ⟨w.heap.size+1,5,none⟩ (.slice ao1 ws.length cap1))=W3 at *
 obtain⟨q0,q1,q2,q3,q4,q5⟩:=R3.cells
 refine bodyPost_ret (v:=.tuple #[.agg #[.int .i64 c,.int .i64 r,.int .i64 q,.int .i64 a,.int .i64 b,.slice ao1 ws.length cap1],.slice (some ⟨N1,0,none⟩) 0 0]) (by simp[results,Tryz.results122,go_sem,q0,q1,q2,q3,q4,q5]) rfl ?_
 exact⟨_,_,rfl,V3,S3,B3⟩
theorem num_1(c r q a b f:Int)(u0:Value)(ws:List Int)(B0:Nat)(al:Option Addr)(cl:Nat)(lv:List Int)(at_:Option Addr)(ct:Nat)(tx:List ByteArray)(w:World)(h:Hid (OwnI w B0 u0 ws))(hl:ws.length≤1048576)(hlv:Hid (IntsAt w al lv))(hll:lv.length≤1048576)(htx:Hid (TextsAt w at_ tx))(hlt:tx.length≤1048576)(ht:Hid (tkB c r q a b ws=true))(hd:decide (1≤f∧f≤5)=false):
  Calls Tryz.prog 122 #[.agg #[.int .i64 c,.int .i64 r,.int .i64 q,.int .i64 a,.int .i64 b,u0],.int .i64 f,.slice al lv.length cl,.slice at_ tx.length ct] w fun e w'=>∃v vi,e=.returned (.tuple #[.agg #[.int .i64 c,.int .i64 r,.int .i64 q,.int .i64 a,.int .i64 b,v],vi])∧OwnI w' w.heap.size v ws∧SlI w' w.heap.size vi []∧Below w.heap.size w w':=by
 obtain⟨HA,HR,HB,HU⟩:=enT w c r q a b u0 B0 ws h.out
 clear h
 go_enter Tryz.func122,Tryz.ntmps122
 go_wp2_with fail
 generalize ((w.alloc (.cells #[.int .i64 c,.int .i64 r,.int .i64 q,.int .i64 a,.int .i64 b,u0] 30)).alloc (.cells #[.int .i64 0,.int .i64 0,.int .i64 0,.int .i64 0,.int .i64 0,.slice none 0 0] 30))=W at *
 have hWs:w.heap.size≤W.heap.size:=HB.out.size
 have hWr:w.heap.size+1<W.heap.size:=HR.out.lt
 refine(qEn c r q a b u0 ws B0 W HU hl).mono ?_
 rintro e w1 ⟨v1,rfl,hv1,hb1⟩
 obtain⟨ao1,cap1,hf1⟩:=hv1.form
 subst hf1
 have hWm:=hb1.size
 have hm1:(w1.alloc (.cells #[] 41)).heap.size=w1.heap.size+1:=by simp
 have hm2:(w1.alloc (.cells #[.int .i64 c,.int .i64 r,.int .i64 q,.int .i64 a,.int .i64 b,.slice ao1 ws.length cap1] 30)).heap.size=w1.heap.size+1:=by simp
 have hm3:((w1.alloc (.cells #[] 41)).alloc (.cells #[.int .i64 c,.int .i64 r,.int .i64 q,.int .i64 a,.int .i64 b,.slice ao1 ws.length cap1] 30)).heap.size=w1.heap.size+2:=by simp
 have E1:Below W.heap.size W ((w1.alloc (.cells #[] 41)).alloc (.cells #[.int .i64 c,.int .i64 r,.int .i64 q,.int .i64 a,.int .i64 b,.slice ao1 ws.length cap1] 30)):=(hb1.alloc hb1.size _).alloc (by simp;omega) _
 have O1:Hid (TokAt ((w1.alloc (.cells #[] 41)).alloc (.cells #[.int .i64 c,.int .i64 r,.int .i64 q,.int .i64 a,.int .i64 b,.slice ao1 ws.length cap1] 30)) (w1.heap.size+1) c r q a b (.slice ao1 ws.length cap1)):=by
  have h:=heap_alloc_new (w1.alloc (.cells #[] 41)) (.cells #[.int .i64 c,.int .i64 r,.int .i64 q,.int .i64 a,.int .i64 b,.slice ao1 ws.length cap1] 30);rw[hm1]at h;exact h
 have I1:Hid (SlI ((w1.alloc (.cells #[] 41)).alloc (.cells #[.int .i64 c,.int .i64 r,.int .i64 q,.int .i64 a,.int .i64 b,.slice ao1 ws.length cap1] 30)) w1.heap.size (.slice (some ⟨w1.heap.size,0,none⟩) 0 0) []):=by
  exact(SlI.made w1 w1.heap.size (Nat.le_refl _)).below ((Below.refl _ _).alloc (Nat.le_refl _) _)
 obtain⟨A1,R1⟩:=cy2 (HA.out.stays E1 HA.out.lt) (HR.out.stays E1 HR.out.lt)
 have VL:Hid (∀k,(Value.slice ao1 ws.length cap1).ownBlock=some k→k<w1.heap.size):=fun k hk=>(hv1.lt k hk).2
 have V1:Hid (OwnI ((w1.alloc (.cells #[] 41)).alloc (.cells #[.int .i64 c,.int .i64 r,.int .i64 q,.int .i64 a,.int .i64 b,.slice ao1 ws.length cap1] 30)) w.heap.size (.slice ao1 ws.length cap1) ws):=((hv1.alloc _).alloc _).down hWs
 obtain⟨B1,U1⟩:=cy2 (HB.out.trans (E1.mono hWs)) (HU.out.stays E1 (fun k hk=>(HU.out.lt k hk).2))
 have hgO:w.heap.size+1<w1.heap.size:=Nat.lt_of_lt_of_le hWr hWm
 obtain⟨s0,s1,s2,s3,s4,s5⟩:=A1.out.cells
 clear hv1 hb1 E1 HA HR HU HB hWs hWr hWm hm1 hm2
 go_wp2_with fail
 generalize ((w1.alloc (.cells #[] 41)).alloc (.cells #[.int .i64 c,.int .i64 r,.int .i64 q,.int .i64 a,.int .i64 b,.slice ao1 ws.length cap1] 30))=W1 at *
 generalize w1.heap.size=N1 at *
 obtain⟨ao0,cap0,hu0,hx0⟩:=U1.out.ints
 have X1:Hid (IntsAt W1 ao0 ws):=hx0
 subst hu0
 refine(qBv c r q a b ao0 cap0 ws _ X1 hl).mono ?_
 rintro e w2 ⟨rfl,hb2⟩
 obtain⟨OO,AA,RR,LL,SI,BB⟩:=cy6 (O1.out.stays hb2 O1.out.lt) (A1.out.stays hb2 A1.out.lt) (R1.out.stays hb2 R1.out.lt) (qAr V1.out hb2) (I1.out.below hb2) (B1.out.trans (hb2.mono B1.out.size))
 have z2:N1+2≤w2.heap.size:=by rw[←hm3];exact hb2.size
 clear hb2 O1 R1 V1 B1 A1 U1 X1 hx0 s0 s1 s2 s3 s4 s5 I1 hm3
 rw[ht.out]
 clear ht
 go_wp2_with fail
 refine(qAi _ hd).mono ?_
 rintro e w3 ⟨rfl,rfl⟩
 have SS:Hid (SlI w3 w.heap.size (.slice (some ⟨N1,0,none⟩) 0 0) []):=SI.out.down (by omega)
 obtain⟨x0,x1,x2,x3,x4,x5⟩:=OO.out.cells
 obtain⟨y0,y1,y2,y3,y4,y5⟩:=RR.out.cells
 have m0:=RR.out.frozen 0
 have m1:=RR.out.frozen 1
 have m2:=RR.out.frozen 2
 have m3:=RR.out.frozen 3
 have m4:=RR.out.frozen 4
 have m5:=RR.out.frozen 5
 go_wp2_with fail
 have R3:TokAt _ (w.heap.size+1) c r q a b (.slice ao1 ws.length cap1):=RR.out.agg c r q a b (.slice ao1 ws.length cap1)
 have T3:=((((((TurnAt.refl (w.heap.size+1) w3).setCell 0 (.int .i64 c)).setCell 1 (.int .i64 r)).setCell 2 (.int .i64 q)).setCell 3 (.int .i64 a)).setCell 4 (.int .i64 b)).setCell 5 (.slice ao1 ws.length cap1)
 have V3:=qAg LL.out RR.out T3
 have S3:=qAn SS.out RR.out T3
 have B3:=BB.out.trans (T3.below (by omega))
 clear T3
 generalize ((((((w3.setCell ⟨w.heap.size+1,0,none⟩ (.int .i64 c)).setCell ⟨w.heap.size+1,1,none⟩ (.int .i64 r)).setCell ⟨w.heap.size+1,2,none⟩ (.int .i64 q)).setCell ⟨w.heap.size+1,3,none⟩ (.int .i64 a)).setCell ⟨w.heap.size+1,4,none⟩ (.int .i64 b)).setCell ⟨w.heap.size+1,5,none⟩ (.slice ao1 ws.length cap1))=W3 at *
 obtain⟨q0,q1,q2,q3,q4,q5⟩:=R3.cells
 refine bodyPost_ret (v:=.tuple #[.agg #[.int .i64 c,.int .i64 r,.int .i64 q,.int .i64 a,.int .i64 b,.slice ao1 ws.length cap1],.slice (some ⟨N1,0,none⟩) 0 0]) (by simp[results,Tryz.results122,go_sem,q0,q1,q2,q3,q4,q5]) rfl ?_
 exact⟨_,_,rfl,V3,S3,B3⟩
def numF(a q b:Int):Bool:=decide (a=q∧b=0)
def PutPost(W:World)(N:Nat)(u:Value)(L:List It)(v:Value)(wx:World):Prop:=SlI wx N v L∧W.grownBy wx u.ownBlock
theorem num_2(c r q a b f:Int)(u0:Value)(ws:List Int)(B0:Nat)(al:Option Addr)(cl:Nat)(lv:List Int)(at_:Option Addr)(ct:Nat)(tx:List ByteArray)(w:World)(h:Hid (OwnI w B0 u0 ws))(hl:ws.length≤1048576)(hlv:Hid (IntsAt w al lv))(hll:lv.length≤1048576)(htx:Hid (TextsAt w at_ tx))(hlt:tx.length≤1048576)(ht:Hid (tkB c r q a b ws=true))(hd:decide (1≤f∧f≤5)=true)(hq0:0≤q)(hq1:q≤60)(L2:List It)(Q2 A2:Int)(hL2:Hid (L2=qBx f lv q 0 tx))(hQ2:Hid (Q2=q+(L2.length:Int)))(hA2:Hid (A2=if numF a q b then Q2 else a)):
  Calls Tryz.prog 122 #[.agg #[.int .i64 c,.int .i64 r,.int .i64 q,.int .i64 a,.int .i64 b,u0],.int .i64 f,.slice al lv.length cl,.slice at_ tx.length ct] w fun e w'=>∃v vi,e=.returned (.tuple #[.agg #[.int .i64 c,.int .i64 r,.int .i64 Q2,.int .i64 A2,.int .i64 b,v],vi])∧OwnI w' w.heap.size v ws∧SlI w' w.heap.size vi L2∧Below w.heap.size w w':=by
 obtain⟨HA,HR,HB,HU⟩:=enT w c r q a b u0 B0 ws h.out
 clear h
 go_enter Tryz.func122,Tryz.ntmps122
 go_wp2_with fail
 generalize ((w.alloc (.cells #[.int .i64 c,.int .i64 r,.int .i64 q,.int .i64 a,.int .i64 b,u0] 30)).alloc (.cells #[.int .i64 0,.int .i64 0,.int .i64 0,.int .i64 0,.int .i64 0,.slice none 0 0] 30))=W at *
 have hWs:w.heap.size≤W.heap.size:=HB.out.size
 have hWr:w.heap.size+1<W.heap.size:=HR.out.lt
 refine(qEn c r q a b u0 ws B0 W HU hl).mono ?_
 rintro e w1 ⟨v1,rfl,hv1,hb1⟩
 obtain⟨ao1,cap1,hf1⟩:=hv1.form
 subst hf1
 have hWm:=hb1.size
 have hm1:(w1.alloc (.cells #[] 41)).heap.size=w1.heap.size+1:=by simp
 have hm2:(w1.alloc (.cells #[.int .i64 c,.int .i64 r,.int .i64 q,.int .i64 a,.int .i64 b,.slice ao1 ws.length cap1] 30)).heap.size=w1.heap.size+1:=by simp
 have hm3:((w1.alloc (.cells #[] 41)).alloc (.cells #[.int .i64 c,.int .i64 r,.int .i64 q,.int .i64 a,.int .i64 b,.slice ao1 ws.length cap1] 30)).heap.size=w1.heap.size+2:=by simp
 have E1:Below W.heap.size W ((w1.alloc (.cells #[] 41)).alloc (.cells #[.int .i64 c,.int .i64 r,.int .i64 q,.int .i64 a,.int .i64 b,.slice ao1 ws.length cap1] 30)):=(hb1.alloc hb1.size _).alloc (by simp;omega) _
 have O1:Hid (TokAt ((w1.alloc (.cells #[] 41)).alloc (.cells #[.int .i64 c,.int .i64 r,.int .i64 q,.int .i64 a,.int .i64 b,.slice ao1 ws.length cap1] 30)) (w1.heap.size+1) c r q a b (.slice ao1 ws.length cap1)):=by
  have h:=heap_alloc_new (w1.alloc (.cells #[] 41)) (.cells #[.int .i64 c,.int .i64 r,.int .i64 q,.int .i64 a,.int .i64 b,.slice ao1 ws.length cap1] 30);rw[hm1]at h;exact h
 have I1:Hid (SlI ((w1.alloc (.cells #[] 41)).alloc (.cells #[.int .i64 c,.int .i64 r,.int .i64 q,.int .i64 a,.int .i64 b,.slice ao1 ws.length cap1] 30)) w1.heap.size (.slice (some ⟨w1.heap.size,0,none⟩) 0 0) []):=by
  exact(SlI.made w1 w1.heap.size (Nat.le_refl _)).below ((Below.refl _ _).alloc (Nat.le_refl _) _)
 obtain⟨A1,R1⟩:=cy2 (HA.out.stays E1 HA.out.lt) (HR.out.stays E1 HR.out.lt)
 have VL:Hid (∀k,(Value.slice ao1 ws.length cap1).ownBlock=some k→k<w1.heap.size):=fun k hk=>(hv1.lt k hk).2
 have V1:Hid (OwnI ((w1.alloc (.cells #[] 41)).alloc (.cells #[.int .i64 c,.int .i64 r,.int .i64 q,.int .i64 a,.int .i64 b,.slice ao1 ws.length cap1] 30)) w.heap.size (.slice ao1 ws.length cap1) ws):=((hv1.alloc _).alloc _).down hWs
 obtain⟨B1,U1⟩:=cy2 (HB.out.trans (E1.mono hWs)) (HU.out.stays E1 (fun k hk=>(HU.out.lt k hk).2))
 have hgO:w.heap.size+1<w1.heap.size:=Nat.lt_of_lt_of_le hWr hWm
 obtain⟨s0,s1,s2,s3,s4,s5⟩:=A1.out.cells
 clear hv1 hb1 E1 HA HR HU HB hWs hWr hWm hm1 hm2
 go_wp2_with fail
 generalize ((w1.alloc (.cells #[] 41)).alloc (.cells #[.int .i64 c,.int .i64 r,.int .i64 q,.int .i64 a,.int .i64 b,.slice ao1 ws.length cap1] 30))=W1 at *
 generalize w1.heap.size=N1 at *
 obtain⟨ao0,cap0,hu0,hx0⟩:=U1.out.ints
 have X1:Hid (IntsAt W1 ao0 ws):=hx0
 subst hu0
 refine(qBv c r q a b ao0 cap0 ws _ X1 hl).mono ?_
 rintro e w2 ⟨rfl,hb2⟩
 obtain⟨OO,AA,RR,LL,SI,BB⟩:=cy6 (O1.out.stays hb2 O1.out.lt) (A1.out.stays hb2 A1.out.lt) (R1.out.stays hb2 R1.out.lt) (qAr V1.out hb2) (I1.out.below hb2) (B1.out.trans (hb2.mono B1.out.size))
 have z2:N1+2≤w2.heap.size:=by rw[←hm3];exact hb2.size
 clear hb2 O1 R1 V1 B1 A1 U1 X1 hx0 s0 s1 s2 s3 s4 s5 I1 hm3
 rw[ht.out]
 clear ht
 go_wp2_with fail
 refine(qAi _ hd).mono ?_
 rintro e w3 ⟨rfl,rfl⟩
 clear hd
 have HST:Hid (NSt f lv q tx 0 []):=nSt_start hq0 hq1
 have HB0:Hid (Below N1 w3 w3):=Below.refl _ _
 go_wp2_with fail
 go_loopw [11,29] (fun v i wr=>∃(k:Nat) (Qk:Int) (L:List It),k≤3∧k≤tx.length∧i=.int .i64 k∧(0≤Qk∧Qk≤60)∧Hid (Qk=q+(k:Int))∧Hid (NSt f lv q tx k L)∧Hid (TokAt wr (N1+1) c r Qk a b (.slice ao1 ws.length cap1))∧Hid (SlI wr N1 v L)∧Hid (Below N1 w3 wr)) (fun _ i _=>tx.length - (intOf i).toNat)
 case atStart=>exact⟨0,q,[],by omega,by omega,rfl,⟨hq0,hq1⟩,(show q=q+((0:Nat):Int) by omega),HST,OO,SI,HB0⟩
 case round=>
  clear HST HB0 OO SI
  obtain⟨k,Qk,L,hk3,hk,rfl,hQ,HQk,HST,OO,SX,BW⟩:=hrel
  have hL:L.length≤3:=by rw[HST.out.1];exact hk3
  obtain⟨uI,hui⟩: ∃uI,uI=u11:=⟨_,rfl⟩
  subst hui
  by_cases hltk:k<tx.length
  ·obtain⟨bt,ot,hat,hbt,hct⟩:=(htx.out.stays (BB.out.trans (BW.out.mono (by omega)))) k hltk
   obtain⟨t,ht⟩: ∃t,t=tx[k]:=⟨_,rfl⟩
   rw[←ht]at hct
   have HTX:Hid (t=tx[k]):=ht
   have HAT:Hid (at_=some ⟨bt,ot,none⟩):=hat
   obtain⟨o0,o1,o2,o3,o4,o5⟩:=OO.out.cells
   clear o0 o1 o3 o4 o5 ht
   subst hat
   by_cases c1:k=3
   ·have HL:Hid (qBx f lv q 0 tx=L):=qDi HST.out (fun _ h=>by omega)
    have HQ:Hid (Qk=q+(L.length:Int)):=by rw[HST.out.1];exact HQk.out
    subst c1
    obtain⟨RR,AA,LL,BB⟩:=cy4 (RR.out.stays BW.out (by omega)) (AA.out.stays BW.out (by omega)) (LL.out.stays BW.out VL.out) (BB.out.trans (BW.out.mono (by omega)))
    have SS:Hid (SlI wr w.heap.size uI L):=SX.out.down (by omega)
    obtain⟨a0,a1,a2,a3,a4,a5⟩:=AA.out.cells
    clear a0 a1 a5
    have EL:Hid (L2=L):=by have h1:=hL2.out;have h2:=HL.out;show _=_;rw[h1,h2]
    have EQ:Hid (Q2=Qk):=by have h1:=hQ2.out;have h2:=HQ.out;have h3:=EL.out;show _=_;rw[h1,h3,h2]
    by_cases ha:a=q
    ·by_cases hb0:b=0
     ·have EA:Hid (A2=Qk):=by have h1:=hA2.out;have h2:=EQ.out;show _=_;rw[h1,if_pos (show numF a q b=true from decide_eq_true ⟨ha,hb0⟩),h2]
      subst ha
      subst hb0
      have n3:=OO.out.frozen 3
      obtain⟨g0,g1,g2,g3,g4,g5⟩:=OO.out.cells
      have HT:=(TurnAt.refl (N1+1) wr).setCell 3 (.int .i64 Qk)
      obtain⟨LL,SS,RR,BB⟩:=cy4 (qAg LL.out OO.out HT) (qAn SS.out OO.out HT) (RR.out.turn HT (by omega)) (BB.out.trans (HT.below (by omega)))
      have OO:Hid (TokAt (wr.setCell ⟨(N1+1),3,none⟩ (.int .i64 Qk)) (N1+1) c r Qk Qk 0 (.slice ao1 ws.length cap1)):=OO.out.set3 Qk
      clear HT
      obtain⟨x0,x1,x2,x3,x4,x5⟩:=OO.out.cells
      obtain⟨y0,y1,y2,y3,y4,y5⟩:=RR.out.cells
      have m0:=RR.out.frozen 0
      have m1:=RR.out.frozen 1
      have m2:=RR.out.frozen 2
      have m3:=RR.out.frozen 3
      have m4:=RR.out.frozen 4
      have m5:=RR.out.frozen 5
      go_wp2_with fail
      have R3:TokAt _ (w.heap.size+1) c r Qk Qk 0 (.slice ao1 ws.length cap1):=RR.out.agg c r Qk Qk 0 (.slice ao1 ws.length cap1)
      have T3:=((((((TurnAt.refl (w.heap.size+1) (wr.setCell ⟨(N1+1),3,none⟩ (.int .i64 Qk))).setCell 0 (.int .i64 c)).setCell 1 (.int .i64 r)).setCell 2 (.int .i64 Qk)).setCell 3 (.int .i64 Qk)).setCell 4 (.int .i64 0)).setCell 5 (.slice ao1 ws.length cap1)
      have V3:=qAg LL.out RR.out T3
      have S3:=qAn SS.out RR.out T3
      have B3:=BB.out.trans (T3.below (by omega))
      clear T3
      generalize (((((((wr.setCell ⟨(N1+1),3,none⟩ (.int .i64 Qk)).setCell ⟨w.heap.size+1,0,none⟩ (.int .i64 c)).setCell ⟨w.heap.size+1,1,none⟩ (.int .i64 r)).setCell ⟨w.heap.size+1,2,none⟩ (.int .i64 Qk)).setCell ⟨w.heap.size+1,3,none⟩ (.int .i64 Qk)).setCell ⟨w.heap.size+1,4,none⟩ (.int .i64 0)).setCell ⟨w.heap.size+1,5,none⟩ (.slice ao1 ws.length cap1))=W3 at *
      obtain⟨q0,q1,q2,q3,q4,q5⟩:=R3.cells
      refine bodyPost_ret (v:=.tuple #[.agg #[.int .i64 c,.int .i64 r,.int .i64 Qk,.int .i64 Qk,.int .i64 0,.slice ao1 ws.length cap1],uI]) (by simp[results,Tryz.results122,go_sem,q0,q1,q2,q3,q4,q5]) rfl ?_
      exact⟨_,_,by rw[EQ.out,EA.out],V3,by rw[EL.out];exact S3,B3⟩
     ·have EA:Hid (A2=a):=by have h1:=hA2.out;show _=_;rw[h1,if_neg (by unfold numF;simp[hb0])]
      subst ha
      obtain⟨x0,x1,x2,x3,x4,x5⟩:=OO.out.cells
      obtain⟨y0,y1,y2,y3,y4,y5⟩:=RR.out.cells
      have m0:=RR.out.frozen 0
      have m1:=RR.out.frozen 1
      have m2:=RR.out.frozen 2
      have m3:=RR.out.frozen 3
      have m4:=RR.out.frozen 4
      have m5:=RR.out.frozen 5
      go_wp2_with fail
      have R3:TokAt _ (w.heap.size+1) c r Qk a b (.slice ao1 ws.length cap1):=RR.out.agg c r Qk a b (.slice ao1 ws.length cap1)
      have T3:=((((((TurnAt.refl (w.heap.size+1) wr).setCell 0 (.int .i64 c)).setCell 1 (.int .i64 r)).setCell 2 (.int .i64 Qk)).setCell 3 (.int .i64 a)).setCell 4 (.int .i64 b)).setCell 5 (.slice ao1 ws.length cap1)
      have V3:=qAg LL.out RR.out T3
      have S3:=qAn SS.out RR.out T3
      have B3:=BB.out.trans (T3.below (by omega))
      clear T3
      generalize ((((((wr.setCell ⟨w.heap.size+1,0,none⟩ (.int .i64 c)).setCell ⟨w.heap.size+1,1,none⟩ (.int .i64 r)).setCell ⟨w.heap.size+1,2,none⟩ (.int .i64 Qk)).setCell ⟨w.heap.size+1,3,none⟩ (.int .i64 a)).setCell ⟨w.heap.size+1,4,none⟩ (.int .i64 b)).setCell ⟨w.heap.size+1,5,none⟩ (.slice ao1 ws.length cap1))=W3 at *
      obtain⟨q0,q1,q2,q3,q4,q5⟩:=R3.cells
      refine bodyPost_ret (v:=.tuple #[.agg #[.int .i64 c,.int .i64 r,.int .i64 Qk,.int .i64 a,.int .i64 b,.slice ao1 ws.length cap1],uI]) (by simp[results,Tryz.results122,go_sem,q0,q1,q2,q3,q4,q5]) rfl ?_
      exact⟨_,_,by rw[EQ.out,EA.out],V3,by rw[EL.out];exact S3,B3⟩
    ·have EA:Hid (A2=a):=by have h1:=hA2.out;show _=_;rw[h1,if_neg (by unfold numF;simp[ha])]
     obtain⟨x0,x1,x2,x3,x4,x5⟩:=OO.out.cells
     obtain⟨y0,y1,y2,y3,y4,y5⟩:=RR.out.cells
     have m0:=RR.out.frozen 0
     have m1:=RR.out.frozen 1
     have m2:=RR.out.frozen 2
     have m3:=RR.out.frozen 3
     have m4:=RR.out.frozen 4
     have m5:=RR.out.frozen 5
     go_wp2_with fail
     have R3:TokAt _ (w.heap.size+1) c r Qk a b (.slice ao1 ws.length cap1):=RR.out.agg c r Qk a b (.slice ao1 ws.length cap1)
     have T3:=((((((TurnAt.refl (w.heap.size+1) wr).setCell 0 (.int .i64 c)).setCell 1 (.int .i64 r)).setCell 2 (.int .i64 Qk)).setCell 3 (.int .i64 a)).setCell 4 (.int .i64 b)).setCell 5 (.slice ao1 ws.length cap1)
     have V3:=qAg LL.out RR.out T3
     have S3:=qAn SS.out RR.out T3
     have B3:=BB.out.trans (T3.below (by omega))
     clear T3
     generalize ((((((wr.setCell ⟨w.heap.size+1,0,none⟩ (.int .i64 c)).setCell ⟨w.heap.size+1,1,none⟩ (.int .i64 r)).setCell ⟨w.heap.size+1,2,none⟩ (.int .i64 Qk)).setCell ⟨w.heap.size+1,3,none⟩ (.int .i64 a)).setCell ⟨w.heap.size+1,4,none⟩ (.int .i64 b)).setCell ⟨w.heap.size+1,5,none⟩ (.slice ao1 ws.length cap1))=W3 at *
     obtain⟨q0,q1,q2,q3,q4,q5⟩:=R3.cells
     refine bodyPost_ret (v:=.tuple #[.agg #[.int .i64 c,.int .i64 r,.int .i64 Qk,.int .i64 a,.int .i64 b,.slice ao1 ws.length cap1],uI]) (by simp[results,Tryz.results122,go_sem,q0,q1,q2,q3,q4,q5]) rfl ?_
     exact⟨_,_,by rw[EQ.out,EA.out],V3,by rw[EL.out];exact S3,B3⟩
   ·have d1:((k:Int)==3)=false:=by simp;omega
    by_cases c2:Qk=60
    ·have HL:Hid (qBx f lv q 0 tx=L):=qDi HST.out (fun _ h=>by have:=HQk.out;omega)
     have HQ:Hid (Qk=q+(L.length:Int)):=by rw[HST.out.1];exact HQk.out
     subst c2
     obtain⟨RR,AA,LL,BB⟩:=cy4 (RR.out.stays BW.out (by omega)) (AA.out.stays BW.out (by omega)) (LL.out.stays BW.out VL.out) (BB.out.trans (BW.out.mono (by omega)))
     have SS:Hid (SlI wr w.heap.size uI L):=SX.out.down (by omega)
     obtain⟨a0,a1,a2,a3,a4,a5⟩:=AA.out.cells
     clear a0 a1 a5
     have EL:Hid (L2=L):=by have h1:=hL2.out;have h2:=HL.out;show _=_;rw[h1,h2]
     have EQ:Hid (Q2=60):=by have h1:=hQ2.out;have h2:=HQ.out;have h3:=EL.out;show _=_;rw[h1,h3,h2]
     by_cases ha:a=q
     ·by_cases hb0:b=0
      ·have EA:Hid (A2=60):=by have h1:=hA2.out;have h2:=EQ.out;show _=_;rw[h1,if_pos (show numF a q b=true from decide_eq_true ⟨ha,hb0⟩),h2]
       subst ha
       subst hb0
       have n3:=OO.out.frozen 3
       obtain⟨g0,g1,g2,g3,g4,g5⟩:=OO.out.cells
       have HT:=(TurnAt.refl (N1+1) wr).setCell 3 (.int .i64 60)
       obtain⟨LL,SS,RR,BB⟩:=cy4 (qAg LL.out OO.out HT) (qAn SS.out OO.out HT) (RR.out.turn HT (by omega)) (BB.out.trans (HT.below (by omega)))
       have OO:Hid (TokAt (wr.setCell ⟨(N1+1),3,none⟩ (.int .i64 60)) (N1+1) c r 60 60 0 (.slice ao1 ws.length cap1)):=OO.out.set3 60
       clear HT
       obtain⟨x0,x1,x2,x3,x4,x5⟩:=OO.out.cells
       obtain⟨y0,y1,y2,y3,y4,y5⟩:=RR.out.cells
       have m0:=RR.out.frozen 0
       have m1:=RR.out.frozen 1
       have m2:=RR.out.frozen 2
       have m3:=RR.out.frozen 3
       have m4:=RR.out.frozen 4
       have m5:=RR.out.frozen 5
       go_wp2_with fail
       have R3:TokAt _ (w.heap.size+1) c r 60 60 0 (.slice ao1 ws.length cap1):=RR.out.agg c r 60 60 0 (.slice ao1 ws.length cap1)
       have T3:=((((((TurnAt.refl (w.heap.size+1) (wr.setCell ⟨(N1+1),3,none⟩ (.int .i64 60))).setCell 0 (.int .i64 c)).setCell 1 (.int .i64 r)).setCell 2 (.int .i64 60)).setCell 3 (.int .i64 60)).setCell 4 (.int .i64 0)).setCell 5 (.slice ao1 ws.length cap1)
       have V3:=qAg LL.out RR.out T3
       have S3:=qAn SS.out RR.out T3
       have B3:=BB.out.trans (T3.below (by omega))
       clear T3
       generalize (((((((wr.setCell ⟨(N1+1),3,none⟩ (.int .i64 60)).setCell ⟨w.heap.size+1,0,none⟩ (.int .i64 c)).setCell ⟨w.heap.size+1,1,none⟩ (.int .i64 r)).setCell ⟨w.heap.size+1,2,none⟩ (.int .i64 60)).setCell ⟨w.heap.size+1,3,none⟩ (.int .i64 60)).setCell ⟨w.heap.size+1,4,none⟩ (.int .i64 0)).setCell ⟨w.heap.size+1,5,none⟩ (.slice ao1 ws.length cap1))=W3 at *
       obtain⟨q0,q1,q2,q3,q4,q5⟩:=R3.cells
       refine bodyPost_ret (v:=.tuple #[.agg #[.int .i64 c,.int .i64 r,.int .i64 60,.int .i64 60,.int .i64 0,.slice ao1 ws.length cap1],uI]) (by simp[results,Tryz.results122,go_sem,q0,q1,q2,q3,q4,q5]) rfl ?_
       exact⟨_,_,by rw[EQ.out,EA.out],V3,by rw[EL.out];exact S3,B3⟩
      ·have EA:Hid (A2=a):=by have h1:=hA2.out;show _=_;rw[h1,if_neg (by unfold numF;simp[hb0])]
       subst ha
       obtain⟨x0,x1,x2,x3,x4,x5⟩:=OO.out.cells
       obtain⟨y0,y1,y2,y3,y4,y5⟩:=RR.out.cells
       have m0:=RR.out.frozen 0
       have m1:=RR.out.frozen 1
       have m2:=RR.out.frozen 2
       have m3:=RR.out.frozen 3
       have m4:=RR.out.frozen 4
       have m5:=RR.out.frozen 5
       go_wp2_with fail
       have R3:TokAt _ (w.heap.size+1) c r 60 a b (.slice ao1 ws.length cap1):=RR.out.agg c r 60 a b (.slice ao1 ws.length cap1)
       have T3:=((((((TurnAt.refl (w.heap.size+1) wr).setCell 0 (.int .i64 c)).setCell 1 (.int .i64 r)).setCell 2 (.int .i64 60)).setCell 3 (.int .i64 a)).setCell 4 (.int .i64 b)).setCell 5 (.slice ao1 ws.length cap1)
       have V3:=qAg LL.out RR.out T3
       have S3:=qAn SS.out RR.out T3
       have B3:=BB.out.trans (T3.below (by omega))
       clear T3
       generalize ((((((wr.setCell ⟨w.heap.size+1,0,none⟩ (.int .i64 c)).setCell ⟨w.heap.size+1,1,none⟩ (.int .i64 r)).setCell ⟨w.heap.size+1,2,none⟩ (.int .i64 60)).setCell ⟨w.heap.size+1,3,none⟩ (.int .i64 a)).setCell ⟨w.heap.size+1,4,none⟩ (.int .i64 b)).setCell ⟨w.heap.size+1,5,none⟩ (.slice ao1 ws.length cap1))=W3 at *
       obtain⟨q0,q1,q2,q3,q4,q5⟩:=R3.cells
       refine bodyPost_ret (v:=.tuple #[.agg #[.int .i64 c,.int .i64 r,.int .i64 60,.int .i64 a,.int .i64 b,.slice ao1 ws.length cap1],uI]) (by simp[results,Tryz.results122,go_sem,q0,q1,q2,q3,q4,q5]) rfl ?_
       exact⟨_,_,by rw[EQ.out,EA.out],V3,by rw[EL.out];exact S3,B3⟩
     ·have EA:Hid (A2=a):=by have h1:=hA2.out;show _=_;rw[h1,if_neg (by unfold numF;simp[ha])]
      obtain⟨x0,x1,x2,x3,x4,x5⟩:=OO.out.cells
      obtain⟨y0,y1,y2,y3,y4,y5⟩:=RR.out.cells
      have m0:=RR.out.frozen 0
      have m1:=RR.out.frozen 1
      have m2:=RR.out.frozen 2
      have m3:=RR.out.frozen 3
      have m4:=RR.out.frozen 4
      have m5:=RR.out.frozen 5
      go_wp2_with fail
      have R3:TokAt _ (w.heap.size+1) c r 60 a b (.slice ao1 ws.length cap1):=RR.out.agg c r 60 a b (.slice ao1 ws.length cap1)
      have T3:=((((((TurnAt.refl (w.heap.size+1) wr).setCell 0 (.int .i64 c)).setCell 1 (.int .i64 r)).setCell 2 (.int .i64 60)).setCell 3 (.int .i64 a)).setCell 4 (.int .i64 b)).setCell 5 (.slice ao1 ws.length cap1)
      have V3:=qAg LL.out RR.out T3
      have S3:=qAn SS.out RR.out T3
      have B3:=BB.out.trans (T3.below (by omega))
      clear T3
      generalize ((((((wr.setCell ⟨w.heap.size+1,0,none⟩ (.int .i64 c)).setCell ⟨w.heap.size+1,1,none⟩ (.int .i64 r)).setCell ⟨w.heap.size+1,2,none⟩ (.int .i64 60)).setCell ⟨w.heap.size+1,3,none⟩ (.int .i64 a)).setCell ⟨w.heap.size+1,4,none⟩ (.int .i64 b)).setCell ⟨w.heap.size+1,5,none⟩ (.slice ao1 ws.length cap1))=W3 at *
      obtain⟨q0,q1,q2,q3,q4,q5⟩:=R3.cells
      refine bodyPost_ret (v:=.tuple #[.agg #[.int .i64 c,.int .i64 r,.int .i64 60,.int .i64 a,.int .i64 b,.slice ao1 ws.length cap1],uI]) (by simp[results,Tryz.results122,go_sem,q0,q1,q2,q3,q4,q5]) rfl ?_
      exact⟨_,_,by rw[EQ.out,EA.out],V3,by rw[EL.out];exact S3,B3⟩
    ·have d2:(Qk==60)=false:=by simpa using c2
     by_cases c3:60<t.size
     ·have d3:decide (60<(t.size:Int))=true:=by simp;omega
      have HL:Hid (qBx f lv q 0 tx=L):=qDi HST.out (fun _ h=>by have:=HTX.out;rw[←this]at h;omega)
      have HQ:Hid (Qk=q+(L.length:Int)):=by rw[HST.out.1];exact HQk.out
      obtain⟨RR,AA,LL,BB⟩:=cy4 (RR.out.stays BW.out (by omega)) (AA.out.stays BW.out (by omega)) (LL.out.stays BW.out VL.out) (BB.out.trans (BW.out.mono (by omega)))
      have SS:Hid (SlI wr w.heap.size uI L):=SX.out.down (by omega)
      obtain⟨a0,a1,a2,a3,a4,a5⟩:=AA.out.cells
      clear a0 a1 a5
      have EL:Hid (L2=L):=by have h1:=hL2.out;have h2:=HL.out;show _=_;rw[h1,h2]
      have EQ:Hid (Q2=Qk):=by have h1:=hQ2.out;have h2:=HQ.out;have h3:=EL.out;show _=_;rw[h1,h3,h2]
      by_cases ha:a=q
      ·by_cases hb0:b=0
       ·have EA:Hid (A2=Qk):=by have h1:=hA2.out;have h2:=EQ.out;show _=_;rw[h1,if_pos (show numF a q b=true from decide_eq_true ⟨ha,hb0⟩),h2]
        subst ha
        subst hb0
        have n3:=OO.out.frozen 3
        obtain⟨g0,g1,g2,g3,g4,g5⟩:=OO.out.cells
        have HT:=(TurnAt.refl (N1+1) wr).setCell 3 (.int .i64 Qk)
        obtain⟨LL,SS,RR,BB⟩:=cy4 (qAg LL.out OO.out HT) (qAn SS.out OO.out HT) (RR.out.turn HT (by omega)) (BB.out.trans (HT.below (by omega)))
        have OO:Hid (TokAt (wr.setCell ⟨(N1+1),3,none⟩ (.int .i64 Qk)) (N1+1) c r Qk Qk 0 (.slice ao1 ws.length cap1)):=OO.out.set3 Qk
        clear HT
        obtain⟨x0,x1,x2,x3,x4,x5⟩:=OO.out.cells
        obtain⟨y0,y1,y2,y3,y4,y5⟩:=RR.out.cells
        have m0:=RR.out.frozen 0
        have m1:=RR.out.frozen 1
        have m2:=RR.out.frozen 2
        have m3:=RR.out.frozen 3
        have m4:=RR.out.frozen 4
        have m5:=RR.out.frozen 5
        go_wp2_with fail
        have R3:TokAt _ (w.heap.size+1) c r Qk Qk 0 (.slice ao1 ws.length cap1):=RR.out.agg c r Qk Qk 0 (.slice ao1 ws.length cap1)
        have T3:=((((((TurnAt.refl (w.heap.size+1) (wr.setCell ⟨(N1+1),3,none⟩ (.int .i64 Qk))).setCell 0 (.int .i64 c)).setCell 1 (.int .i64 r)).setCell 2 (.int .i64 Qk)).setCell 3 (.int .i64 Qk)).setCell 4 (.int .i64 0)).setCell 5 (.slice ao1 ws.length cap1)
        have V3:=qAg LL.out RR.out T3
        have S3:=qAn SS.out RR.out T3
        have B3:=BB.out.trans (T3.below (by omega))
        clear T3
        generalize (((((((wr.setCell ⟨(N1+1),3,none⟩ (.int .i64 Qk)).setCell ⟨w.heap.size+1,0,none⟩ (.int .i64 c)).setCell ⟨w.heap.size+1,1,none⟩ (.int .i64 r)).setCell ⟨w.heap.size+1,2,none⟩ (.int .i64 Qk)).setCell ⟨w.heap.size+1,3,none⟩ (.int .i64 Qk)).setCell ⟨w.heap.size+1,4,none⟩ (.int .i64 0)).setCell ⟨w.heap.size+1,5,none⟩ (.slice ao1 ws.length cap1))=W3 at *
        obtain⟨q0,q1,q2,q3,q4,q5⟩:=R3.cells
        refine bodyPost_ret (v:=.tuple #[.agg #[.int .i64 c,.int .i64 r,.int .i64 Qk,.int .i64 Qk,.int .i64 0,.slice ao1 ws.length cap1],uI]) (by simp[results,Tryz.results122,go_sem,q0,q1,q2,q3,q4,q5]) rfl ?_
        exact⟨_,_,by rw[EQ.out,EA.out],V3,by rw[EL.out];exact S3,B3⟩
       ·have EA:Hid (A2=a):=by have h1:=hA2.out;show _=_;rw[h1,if_neg (by unfold numF;simp[hb0])]
        subst ha
        obtain⟨x0,x1,x2,x3,x4,x5⟩:=OO.out.cells
        obtain⟨y0,y1,y2,y3,y4,y5⟩:=RR.out.cells
        have m0:=RR.out.frozen 0
        have m1:=RR.out.frozen 1
        have m2:=RR.out.frozen 2
        have m3:=RR.out.frozen 3
        have m4:=RR.out.frozen 4
        have m5:=RR.out.frozen 5
        go_wp2_with fail
        have R3:TokAt _ (w.heap.size+1) c r Qk a b (.slice ao1 ws.length cap1):=RR.out.agg c r Qk a b (.slice ao1 ws.length cap1)
        have T3:=((((((TurnAt.refl (w.heap.size+1) wr).setCell 0 (.int .i64 c)).setCell 1 (.int .i64 r)).setCell 2 (.int .i64 Qk)).setCell 3 (.int .i64 a)).setCell 4 (.int .i64 b)).setCell 5 (.slice ao1 ws.length cap1)
        have V3:=qAg LL.out RR.out T3
        have S3:=qAn SS.out RR.out T3
        have B3:=BB.out.trans (T3.below (by omega))
        clear T3
        generalize ((((((wr.setCell ⟨w.heap.size+1,0,none⟩ (.int .i64 c)).setCell ⟨w.heap.size+1,1,none⟩ (.int .i64 r)).setCell ⟨w.heap.size+1,2,none⟩ (.int .i64 Qk)).setCell ⟨w.heap.size+1,3,none⟩ (.int .i64 a)).setCell ⟨w.heap.size+1,4,none⟩ (.int .i64 b)).setCell ⟨w.heap.size+1,5,none⟩ (.slice ao1 ws.length cap1))=W3 at *
        obtain⟨q0,q1,q2,q3,q4,q5⟩:=R3.cells
        refine bodyPost_ret (v:=.tuple #[.agg #[.int .i64 c,.int .i64 r,.int .i64 Qk,.int .i64 a,.int .i64 b,.slice ao1 ws.length cap1],uI]) (by simp[results,Tryz.results122,go_sem,q0,q1,q2,q3,q4,q5]) rfl ?_
        exact⟨_,_,by rw[EQ.out,EA.out],V3,by rw[EL.out];exact S3,B3⟩
      ·have EA:Hid (A2=a):=by have h1:=hA2.out;show _=_;rw[h1,if_neg (by unfold numF;simp[ha])]
       obtain⟨x0,x1,x2,x3,x4,x5⟩:=OO.out.cells
       obtain⟨y0,y1,y2,y3,y4,y5⟩:=RR.out.cells
       have m0:=RR.out.frozen 0
       have m1:=RR.out.frozen 1
       have m2:=RR.out.frozen 2
       have m3:=RR.out.frozen 3
       have m4:=RR.out.frozen 4
       have m5:=RR.out.frozen 5
       go_wp2_with fail
       have R3:TokAt _ (w.heap.size+1) c r Qk a b (.slice ao1 ws.length cap1):=RR.out.agg c r Qk a b (.slice ao1 ws.length cap1)
       have T3:=((((((TurnAt.refl (w.heap.size+1) wr).setCell 0 (.int .i64 c)).setCell 1 (.int .i64 r)).setCell 2 (.int .i64 Qk)).setCell 3 (.int .i64 a)).setCell 4 (.int .i64 b)).setCell 5 (.slice ao1 ws.length cap1)
       have V3:=qAg LL.out RR.out T3
       have S3:=qAn SS.out RR.out T3
       have B3:=BB.out.trans (T3.below (by omega))
       clear T3
       generalize ((((((wr.setCell ⟨w.heap.size+1,0,none⟩ (.int .i64 c)).setCell ⟨w.heap.size+1,1,none⟩ (.int .i64 r)).setCell ⟨w.heap.size+1,2,none⟩ (.int .i64 Qk)).setCell ⟨w.heap.size+1,3,none⟩ (.int .i64 a)).setCell ⟨w.heap.size+1,4,none⟩ (.int .i64 b)).setCell ⟨w.heap.size+1,5,none⟩ (.slice ao1 ws.length cap1))=W3 at *
       obtain⟨q0,q1,q2,q3,q4,q5⟩:=R3.cells
       refine bodyPost_ret (v:=.tuple #[.agg #[.int .i64 c,.int .i64 r,.int .i64 Qk,.int .i64 a,.int .i64 b,.slice ao1 ws.length cap1],uI]) (by simp[results,Tryz.results122,go_sem,q0,q1,q2,q3,q4,q5]) rfl ?_
       exact⟨_,_,by rw[EQ.out,EA.out],V3,by rw[EL.out];exact S3,B3⟩
     ·have d3:decide (60<(t.size:Int))=false:=by simp;omega
      have hsz:t.size≤1048576:=by omega
      have HSN:Hid (NSt f lv q tx (k+1) (L++[(Qk+1,f,lvP lv k,t)])):=by
       have h:=nSt_next HST.out hltk ⟨by omega,by have:=HQk.out;omega,by rw[←HTX.out];omega⟩
       rw[←HQk.out,←HTX.out]at h
       exact h
      have HQ2:Hid (Qk+1=q+((k+1:Nat):Int)):=by have:=HQk.out;show _=_;omega
      have hw:IntKind.i64.wrap (Qk+1)=Qk+1:=by rw[IntKind.wrap_i64];omega
      have n2:=OO.out.frozen 2
      have HT:=(TurnAt.refl (N1+1) wr).setCell 2 (.int .i64 (Qk+1))
      have OO2:Hid (TokAt (wr.setCell ⟨(N1+1),2,none⟩ (.int .i64 (Qk+1))) (N1+1) c r (Qk+1) a b (.slice ao1 ws.length cap1)):=OO.out.set2 _
      obtain⟨SX2,BW2⟩:=cy2 (qAn SX.out OO.out HT) (BW.out.trans (HT.below (by omega)))
      clear HT
      go_wp2_with fail
      generalize wr.setCell ⟨(N1+1),2,none⟩ (.int .i64 (Qk+1))=W8 at *
      obtain⟨p0,p1,p2,p3,p4,p5⟩:=OO2.out.cells
      have HLD:=Ag (hlv.out.stays ((BB.out.trans (BW2.out.mono (by omega))).trans (Below.refl _ _).drew))
      obtain⟨l,hl0⟩: ∃l,l=lvP lv k:=⟨_,rfl⟩
      have LEV:Hid (∀W:World,Hid (IntsAt W al lv)→Calls Tryz.prog 169 #[.slice al lv.length cl,.int .i64 k] W fun e w'=>e=.returned (.int .i64 l)∧w'=W):=fun W h=>by rw[hl0];exact level_any al cl lv k W h hll (by omega)
      rw[←hl0]at HSN
      have zW:N1≤W8.heap.size:=Nat.le_trans (by omega) BW2.out.size
      have gOl:(N1+1)<W8.heap.size:=OO2.out.lt
      have S8:=Ag (SX2.out.drew)
      clear p0 p1 p3 p4 p5 hl0 n2 o2 hct OO SX hw
      go_region_law (first
       |(refine step_pushIt (by rfl) _ _ 27 (by rfl) Tryz.underlying27 L (by rfl) S5 (Qk+1,f,l,t) rfl (by rfl) (by omega) z5 ?_;intro v6 w6 S6 G6)
       |(go_simp;refine(LEV.out _ HLD).mono ?_;rintro e w4 ⟨rfl,rfl⟩;go_simp)
       |(go_simp;refine(qHy t _ hsz).mono ?_;rintro e w5 ⟨rfl,hb5⟩;have p5:w5.cell? ⟨(N1+1),2,none⟩=some (.int .i64 (Qk+1)):=(hb5.cell (p:=⟨(N1+1),2,none⟩) gOl).trans p2;have S5:=S8.out.below hb5;have z5:N1≤w5.heap.size:=Nat.le_trans zW hb5.size;have G5:W8.grownBy w5 uI.ownBlock:=grown_bl ((Below.refl _ W8).drew.trans hb5);go_simp))
      all_goals
       have G9:W8.grownBy w6 uI.ownBlock:=grown_transC G5 G6
       have SX:=Ag S6
       have OO:Hid (TokAt w6 (N1+1) c r (Qk+1) a b (.slice ao1 ws.length cap1)):=(G9.block (N1+1) gOl (fun e=>qFr SX2.out OO2.out (by decide) e.symm)).trans OO2.out
       have BW:Hid (Below N1 w3 w6):=BW2.out.grown G9 zW (fun k hk=>(SX2.out.lt k hk).1)
       clear G9 OO2 SX2 BW2 S8 p2 S5 S6 G5 G6 hb5 p5
       go_wp2_with fail
       go_roundw
       case rel=>exact⟨k+1,Qk+1,L++[(Qk+1,f,l,t)],by omega,by omega,by go_num,⟨by omega,by omega⟩,HQ2,HSN,OO,SX,BW⟩
       case measure=>simp[intOf];omega
  ·obtain rfl:k=tx.length:=by omega
   have HL:Hid (qBx f lv q 0 tx=L):=qDi HST.out (fun h=>by omega)
   have HQ:Hid (Qk=q+(L.length:Int)):=by rw[HST.out.1];exact HQk.out
   obtain⟨RR,AA,LL,BB⟩:=cy4 (RR.out.stays BW.out (by omega)) (AA.out.stays BW.out (by omega)) (LL.out.stays BW.out VL.out) (BB.out.trans (BW.out.mono (by omega)))
   have SS:Hid (SlI wr w.heap.size uI L):=SX.out.down (by omega)
   obtain⟨a0,a1,a2,a3,a4,a5⟩:=AA.out.cells
   clear a0 a1 a5
   have EL:Hid (L2=L):=by have h1:=hL2.out;have h2:=HL.out;show _=_;rw[h1,h2]
   have EQ:Hid (Q2=Qk):=by have h1:=hQ2.out;have h2:=HQ.out;have h3:=EL.out;show _=_;rw[h1,h3,h2]
   by_cases ha:a=q
   ·by_cases hb0:b=0
    ·have EA:Hid (A2=Qk):=by have h1:=hA2.out;have h2:=EQ.out;show _=_;rw[h1,if_pos (show numF a q b=true from decide_eq_true ⟨ha,hb0⟩),h2]
     subst ha
     subst hb0
     have n3:=OO.out.frozen 3
     obtain⟨g0,g1,g2,g3,g4,g5⟩:=OO.out.cells
     have HT:=(TurnAt.refl (N1+1) wr).setCell 3 (.int .i64 Qk)
     obtain⟨LL,SS,RR,BB⟩:=cy4 (qAg LL.out OO.out HT) (qAn SS.out OO.out HT) (RR.out.turn HT (by omega)) (BB.out.trans (HT.below (by omega)))
     have OO:Hid (TokAt (wr.setCell ⟨(N1+1),3,none⟩ (.int .i64 Qk)) (N1+1) c r Qk Qk 0 (.slice ao1 ws.length cap1)):=OO.out.set3 Qk
     clear HT
     obtain⟨x0,x1,x2,x3,x4,x5⟩:=OO.out.cells
     obtain⟨y0,y1,y2,y3,y4,y5⟩:=RR.out.cells
     have m0:=RR.out.frozen 0
     have m1:=RR.out.frozen 1
     have m2:=RR.out.frozen 2
     have m3:=RR.out.frozen 3
     have m4:=RR.out.frozen 4
     have m5:=RR.out.frozen 5
     go_wp2_with fail
     have R3:TokAt _ (w.heap.size+1) c r Qk Qk 0 (.slice ao1 ws.length cap1):=RR.out.agg c r Qk Qk 0 (.slice ao1 ws.length cap1)
     have T3:=((((((TurnAt.refl (w.heap.size+1) (wr.setCell ⟨(N1+1),3,none⟩ (.int .i64 Qk))).setCell 0 (.int .i64 c)).setCell 1 (.int .i64 r)).setCell 2 (.int .i64 Qk)).setCell 3 (.int .i64 Qk)).setCell 4 (.int .i64 0)).setCell 5 (.slice ao1 ws.length cap1)
     have V3:=qAg LL.out RR.out T3
     have S3:=qAn SS.out RR.out T3
     have B3:=BB.out.trans (T3.below (by omega))
     clear T3
     generalize (((((((wr.setCell ⟨(N1+1),3,none⟩ (.int .i64 Qk)).setCell ⟨w.heap.size+1,0,none⟩ (.int .i64 c)).setCell ⟨w.heap.size+1,1,none⟩ (.int .i64 r)).setCell ⟨w.heap.size+1,2,none⟩ (.int .i64 Qk)).setCell ⟨w.heap.size+1,3,none⟩ (.int .i64 Qk)).setCell ⟨w.heap.size+1,4,none⟩ (.int .i64 0)).setCell ⟨w.heap.size+1,5,none⟩ (.slice ao1 ws.length cap1))=W3 at *
     obtain⟨q0,q1,q2,q3,q4,q5⟩:=R3.cells
     refine bodyPost_ret (v:=.tuple #[.agg #[.int .i64 c,.int .i64 r,.int .i64 Qk,.int .i64 Qk,.int .i64 0,.slice ao1 ws.length cap1],uI]) (by simp[results,Tryz.results122,go_sem,q0,q1,q2,q3,q4,q5]) rfl ?_
     exact⟨_,_,by rw[EQ.out,EA.out],V3,by rw[EL.out];exact S3,B3⟩
    ·have EA:Hid (A2=a):=by have h1:=hA2.out;show _=_;rw[h1,if_neg (by unfold numF;simp[hb0])]
     subst ha
     obtain⟨x0,x1,x2,x3,x4,x5⟩:=OO.out.cells
     obtain⟨y0,y1,y2,y3,y4,y5⟩:=RR.out.cells
     have m0:=RR.out.frozen 0
     have m1:=RR.out.frozen 1
     have m2:=RR.out.frozen 2
     have m3:=RR.out.frozen 3
     have m4:=RR.out.frozen 4
     have m5:=RR.out.frozen 5
     go_wp2_with fail
     have R3:TokAt _ (w.heap.size+1) c r Qk a b (.slice ao1 ws.length cap1):=RR.out.agg c r Qk a b (.slice ao1 ws.length cap1)
     have T3:=((((((TurnAt.refl (w.heap.size+1) wr).setCell 0 (.int .i64 c)).setCell 1 (.int .i64 r)).setCell 2 (.int .i64 Qk)).setCell 3 (.int .i64 a)).setCell 4 (.int .i64 b)).setCell 5 (.slice ao1 ws.length cap1)
     have V3:=qAg LL.out RR.out T3
     have S3:=qAn SS.out RR.out T3
     have B3:=BB.out.trans (T3.below (by omega))
     clear T3
     generalize ((((((wr.setCell ⟨w.heap.size+1,0,none⟩ (.int .i64 c)).setCell ⟨w.heap.size+1,1,none⟩ (.int .i64 r)).setCell ⟨w.heap.size+1,2,none⟩ (.int .i64 Qk)).setCell ⟨w.heap.size+1,3,none⟩ (.int .i64 a)).setCell ⟨w.heap.size+1,4,none⟩ (.int .i64 b)).setCell ⟨w.heap.size+1,5,none⟩ (.slice ao1 ws.length cap1))=W3 at *
     obtain⟨q0,q1,q2,q3,q4,q5⟩:=R3.cells
     refine bodyPost_ret (v:=.tuple #[.agg #[.int .i64 c,.int .i64 r,.int .i64 Qk,.int .i64 a,.int .i64 b,.slice ao1 ws.length cap1],uI]) (by simp[results,Tryz.results122,go_sem,q0,q1,q2,q3,q4,q5]) rfl ?_
     exact⟨_,_,by rw[EQ.out,EA.out],V3,by rw[EL.out];exact S3,B3⟩
   ·have EA:Hid (A2=a):=by have h1:=hA2.out;show _=_;rw[h1,if_neg (by unfold numF;simp[ha])]
    obtain⟨x0,x1,x2,x3,x4,x5⟩:=OO.out.cells
    obtain⟨y0,y1,y2,y3,y4,y5⟩:=RR.out.cells
    have m0:=RR.out.frozen 0
    have m1:=RR.out.frozen 1
    have m2:=RR.out.frozen 2
    have m3:=RR.out.frozen 3
    have m4:=RR.out.frozen 4
    have m5:=RR.out.frozen 5
    go_wp2_with fail
    have R3:TokAt _ (w.heap.size+1) c r Qk a b (.slice ao1 ws.length cap1):=RR.out.agg c r Qk a b (.slice ao1 ws.length cap1)
    have T3:=((((((TurnAt.refl (w.heap.size+1) wr).setCell 0 (.int .i64 c)).setCell 1 (.int .i64 r)).setCell 2 (.int .i64 Qk)).setCell 3 (.int .i64 a)).setCell 4 (.int .i64 b)).setCell 5 (.slice ao1 ws.length cap1)
    have V3:=qAg LL.out RR.out T3
    have S3:=qAn SS.out RR.out T3
    have B3:=BB.out.trans (T3.below (by omega))
    clear T3
    generalize ((((((wr.setCell ⟨w.heap.size+1,0,none⟩ (.int .i64 c)).setCell ⟨w.heap.size+1,1,none⟩ (.int .i64 r)).setCell ⟨w.heap.size+1,2,none⟩ (.int .i64 Qk)).setCell ⟨w.heap.size+1,3,none⟩ (.int .i64 a)).setCell ⟨w.heap.size+1,4,none⟩ (.int .i64 b)).setCell ⟨w.heap.size+1,5,none⟩ (.slice ao1 ws.length cap1))=W3 at *
    obtain⟨q0,q1,q2,q3,q4,q5⟩:=R3.cells
    refine bodyPost_ret (v:=.tuple #[.agg #[.int .i64 c,.int .i64 r,.int .i64 Qk,.int .i64 a,.int .i64 b,.slice ao1 ws.length cap1],uI]) (by simp[results,Tryz.results122,go_sem,q0,q1,q2,q3,q4,q5]) rfl ?_
    exact⟨_,_,by rw[EQ.out,EA.out],V3,by rw[EL.out];exact S3,B3⟩
theorem spNum_0(c r q a b f:Int)(u0:Value)(ws:List Int)(B0:Nat)(al:Option Addr)(cl:Nat)(lv:List Int)(at_:Option Addr)(ct:Nat)(tx:List ByteArray)(w:World)(h:Hid (OwnI w B0 u0 ws))(hl:ws.length≤1048576)(hlv:Hid (IntsAt w al lv))(hll:lv.length≤1048576)(htx:Hid (TextsAt w at_ tx))(hlt:tx.length≤1048576)(ht:Hid (tkB c r q a b ws=false)):
  Calls Tryz.prog 65 #[.agg #[.int .i64 c,.int .i64 r,.int .i64 q,.int .i64 a,.int .i64 b,u0],.int .i64 f,.slice al lv.length cl,.slice at_ tx.length ct] w fun e w'=>∃v vi,e=.returned (.tuple #[.agg #[.int .i64 c,.int .i64 r,.int .i64 q,.int .i64 a,.int .i64 b,v],vi])∧OwnI w' w.heap.size v ws∧SlI w' w.heap.size vi []∧Below w.heap.size w w':=by
 obtain⟨HA,HR,HB,HU⟩:=enT w c r q a b u0 B0 ws h.out
 clear h
 go_enter Tryz.func65,Tryz.ntmps65
 go_wp2_with fail
 generalize ((w.alloc (.cells #[.int .i64 c,.int .i64 r,.int .i64 q,.int .i64 a,.int .i64 b,u0] 30)).alloc (.cells #[.int .i64 0,.int .i64 0,.int .i64 0,.int .i64 0,.int .i64 0,.slice none 0 0] 30))=W at *
 have hWs:w.heap.size≤W.heap.size:=HB.out.size
 have hWr:w.heap.size+1<W.heap.size:=HR.out.lt
 refine(qBr c r q a b u0 ws B0 W HU hl).mono ?_
 rintro e w1 ⟨v1,rfl,hv1,hb1⟩
 obtain⟨ao1,cap1,hf1⟩:=hv1.form
 subst hf1
 have hWm:=hb1.size
 have hm1:(w1.alloc (.cells #[] 41)).heap.size=w1.heap.size+1:=by simp
 have hm2:(w1.alloc (.cells #[.int .i64 c,.int .i64 r,.int .i64 q,.int .i64 a,.int .i64 b,.slice ao1 ws.length cap1] 30)).heap.size=w1.heap.size+1:=by simp
 have hm3:((w1.alloc (.cells #[.int .i64 c,.int .i64 r,.int .i64 q,.int .i64 a,.int .i64 b,.slice ao1 ws.length cap1] 30)).alloc (.cells #[] 41)).heap.size=w1.heap.size+2:=by simp
 have E1:Below W.heap.size W ((w1.alloc (.cells #[.int .i64 c,.int .i64 r,.int .i64 q,.int .i64 a,.int .i64 b,.slice ao1 ws.length cap1] 30)).alloc (.cells #[] 41)):=(hb1.alloc hb1.size _).alloc (by simp;omega) _
 have O1:Hid (TokAt ((w1.alloc (.cells #[.int .i64 c,.int .i64 r,.int .i64 q,.int .i64 a,.int .i64 b,.slice ao1 ws.length cap1] 30)).alloc (.cells #[] 41)) w1.heap.size c r q a b (.slice ao1 ws.length cap1)):=by
  have h:=heap_alloc_new w1 (.cells #[.int .i64 c,.int .i64 r,.int .i64 q,.int .i64 a,.int .i64 b,.slice ao1 ws.length cap1] 30);exact TokAt.stays (B:=w1.heap.size+1) h ((Below.refl _ _).alloc (by rw[hm2];exact Nat.le_refl _) _) (by omega)
 have I1:Hid (SlI ((w1.alloc (.cells #[.int .i64 c,.int .i64 r,.int .i64 q,.int .i64 a,.int .i64 b,.slice ao1 ws.length cap1] 30)).alloc (.cells #[] 41)) w1.heap.size (.slice (some ⟨(w1.heap.size+1),0,none⟩) 0 0) []):=by
  have h:=SlI.made (w1.alloc (.cells #[.int .i64 c,.int .i64 r,.int .i64 q,.int .i64 a,.int .i64 b,.slice ao1 ws.length cap1] 30)) w1.heap.size (by simp);rw[hm2]at h;exact h
 obtain⟨A1,R1⟩:=cy2 (HA.out.stays E1 HA.out.lt) (HR.out.stays E1 HR.out.lt)
 have VL:Hid (∀k,(Value.slice ao1 ws.length cap1).ownBlock=some k→k<w1.heap.size):=fun k hk=>(hv1.lt k hk).2
 have V1:Hid (OwnI ((w1.alloc (.cells #[.int .i64 c,.int .i64 r,.int .i64 q,.int .i64 a,.int .i64 b,.slice ao1 ws.length cap1] 30)).alloc (.cells #[] 41)) w.heap.size (.slice ao1 ws.length cap1) ws):=((hv1.alloc _).alloc _).down hWs
 obtain⟨B1,U1⟩:=cy2 (HB.out.trans (E1.mono hWs)) (HU.out.stays E1 (fun k hk=>(HU.out.lt k hk).2))
 have hgO:w.heap.size+1<w1.heap.size:=Nat.lt_of_lt_of_le hWr hWm
 obtain⟨s0,s1,s2,s3,s4,s5⟩:=A1.out.cells
 clear hv1 hb1 E1 HA HR HU HB hWs hWr hWm hm1 hm2
 go_wp2_with fail
 generalize ((w1.alloc (.cells #[.int .i64 c,.int .i64 r,.int .i64 q,.int .i64 a,.int .i64 b,.slice ao1 ws.length cap1] 30)).alloc (.cells #[] 41))=W1 at *
 generalize w1.heap.size=N1 at *
 obtain⟨ao0,cap0,hu0,hx0⟩:=U1.out.ints
 have X1:Hid (IntsAt W1 ao0 ws):=hx0
 subst hu0
 refine(qAv c r q a b ao0 cap0 ws _ X1 hl).mono ?_
 rintro e w2 ⟨rfl,hb2⟩
 obtain⟨OO,AA,RR,LL,SI,BB⟩:=cy6 (O1.out.stays hb2 O1.out.lt) (A1.out.stays hb2 A1.out.lt) (R1.out.stays hb2 R1.out.lt) (qAr V1.out hb2) (I1.out.below hb2) (B1.out.trans (hb2.mono B1.out.size))
 have z2:N1+2≤w2.heap.size:=by rw[←hm3];exact hb2.size
 clear hb2 O1 R1 V1 B1 A1 U1 X1 hx0 s0 s1 s2 s3 s4 s5 I1 hm3
 rw[ht.out]
 clear ht
 have SS:Hid (SlI w2 w.heap.size (.slice (some ⟨(N1+1),0,none⟩) 0 0) []):=SI.out.down (by omega)
 obtain⟨x0,x1,x2,x3,x4,x5⟩:=OO.out.cells
 obtain⟨y0,y1,y2,y3,y4,y5⟩:=RR.out.cells
 have m0:=RR.out.frozen 0
 have m1:=RR.out.frozen 1
 have m2:=RR.out.frozen 2
 have m3:=RR.out.frozen 3
 have m4:=RR.out.frozen 4
 have m5:=RR.out.frozen 5
 go_wp2_with fail
 have R3:TokAt _ (w.heap.size+1) c r q a b (.slice ao1 ws.length cap1):=RR.out.agg c r q a b (.slice ao1 ws.length cap1)
 have T3:=((((((TurnAt.refl (w.heap.size+1) w2).setCell 0 (.int .i64 c)).setCell 1 (.int .i64 r)).setCell 2 (.int .i64 q)).setCell 3 (.int .i64 a)).setCell 4 (.int .i64 b)).setCell 5 (.slice ao1 ws.length cap1)
 have V3:=qAg LL.out RR.out T3
 have S3:=qAn SS.out RR.out T3
 have B3:=BB.out.trans (T3.below (by omega))
 clear T3
 generalize ((((((w2.setCell ⟨w.heap.size+1,0,none⟩ (.int .i64 c)).setCell ⟨w.heap.size+1,1,none⟩ (.int .i64 r)).setCell ⟨w.heap.size+1,2,none⟩ (.int .i64 q)).setCell ⟨w.heap.size+1,3,none⟩ (.int .i64 a)).setCell ⟨w.heap.size+1,4,none⟩ (.int .i64 b)).setCell ⟨w.heap.size+1,5,none⟩ (.slice ao1 ws.length cap1))=W3 at *
 obtain⟨q0,q1,q2,q3,q4,q5⟩:=R3.cells
 refine bodyPost_ret (v:=.tuple #[.agg #[.int .i64 c,.int .i64 r,.int .i64 q,.int .i64 a,.int .i64 b,.slice ao1 ws.length cap1],.slice (some ⟨(N1+1),0,none⟩) 0 0]) (by simp[results,Tryz.results65,go_sem,q0,q1,q2,q3,q4,q5]) rfl ?_
 exact⟨_,_,rfl,V3,S3,B3⟩
theorem spNum_1(c r q a b f:Int)(u0:Value)(ws:List Int)(B0:Nat)(al:Option Addr)(cl:Nat)(lv:List Int)(at_:Option Addr)(ct:Nat)(tx:List ByteArray)(w:World)(h:Hid (OwnI w B0 u0 ws))(hl:ws.length≤1048576)(hlv:Hid (IntsAt w al lv))(hll:lv.length≤1048576)(htx:Hid (TextsAt w at_ tx))(hlt:tx.length≤1048576)(ht:Hid (tkB c r q a b ws=true))(hd:decide (1≤f∧f≤5)=false):
  Calls Tryz.prog 65 #[.agg #[.int .i64 c,.int .i64 r,.int .i64 q,.int .i64 a,.int .i64 b,u0],.int .i64 f,.slice al lv.length cl,.slice at_ tx.length ct] w fun e w'=>∃v vi,e=.returned (.tuple #[.agg #[.int .i64 c,.int .i64 r,.int .i64 q,.int .i64 a,.int .i64 b,v],vi])∧OwnI w' w.heap.size v ws∧SlI w' w.heap.size vi []∧Below w.heap.size w w':=by
 obtain⟨HA,HR,HB,HU⟩:=enT w c r q a b u0 B0 ws h.out
 clear h
 go_enter Tryz.func65,Tryz.ntmps65
 go_wp2_with fail
 generalize ((w.alloc (.cells #[.int .i64 c,.int .i64 r,.int .i64 q,.int .i64 a,.int .i64 b,u0] 30)).alloc (.cells #[.int .i64 0,.int .i64 0,.int .i64 0,.int .i64 0,.int .i64 0,.slice none 0 0] 30))=W at *
 have hWs:w.heap.size≤W.heap.size:=HB.out.size
 have hWr:w.heap.size+1<W.heap.size:=HR.out.lt
 refine(qBr c r q a b u0 ws B0 W HU hl).mono ?_
 rintro e w1 ⟨v1,rfl,hv1,hb1⟩
 obtain⟨ao1,cap1,hf1⟩:=hv1.form
 subst hf1
 have hWm:=hb1.size
 have hm1:(w1.alloc (.cells #[] 41)).heap.size=w1.heap.size+1:=by simp
 have hm2:(w1.alloc (.cells #[.int .i64 c,.int .i64 r,.int .i64 q,.int .i64 a,.int .i64 b,.slice ao1 ws.length cap1] 30)).heap.size=w1.heap.size+1:=by simp
 have hm3:((w1.alloc (.cells #[.int .i64 c,.int .i64 r,.int .i64 q,.int .i64 a,.int .i64 b,.slice ao1 ws.length cap1] 30)).alloc (.cells #[] 41)).heap.size=w1.heap.size+2:=by simp
 have E1:Below W.heap.size W ((w1.alloc (.cells #[.int .i64 c,.int .i64 r,.int .i64 q,.int .i64 a,.int .i64 b,.slice ao1 ws.length cap1] 30)).alloc (.cells #[] 41)):=(hb1.alloc hb1.size _).alloc (by simp;omega) _
 have O1:Hid (TokAt ((w1.alloc (.cells #[.int .i64 c,.int .i64 r,.int .i64 q,.int .i64 a,.int .i64 b,.slice ao1 ws.length cap1] 30)).alloc (.cells #[] 41)) w1.heap.size c r q a b (.slice ao1 ws.length cap1)):=by
  have h:=heap_alloc_new w1 (.cells #[.int .i64 c,.int .i64 r,.int .i64 q,.int .i64 a,.int .i64 b,.slice ao1 ws.length cap1] 30);exact TokAt.stays (B:=w1.heap.size+1) h ((Below.refl _ _).alloc (by rw[hm2];exact Nat.le_refl _) _) (by omega)
 have I1:Hid (SlI ((w1.alloc (.cells #[.int .i64 c,.int .i64 r,.int .i64 q,.int .i64 a,.int .i64 b,.slice ao1 ws.length cap1] 30)).alloc (.cells #[] 41)) w1.heap.size (.slice (some ⟨(w1.heap.size+1),0,none⟩) 0 0) []):=by
  have h:=SlI.made (w1.alloc (.cells #[.int .i64 c,.int .i64 r,.int .i64 q,.int .i64 a,.int .i64 b,.slice ao1 ws.length cap1] 30)) w1.heap.size (by simp);rw[hm2]at h;exact h
 obtain⟨A1,R1⟩:=cy2 (HA.out.stays E1 HA.out.lt) (HR.out.stays E1 HR.out.lt)
 have VL:Hid (∀k,(Value.slice ao1 ws.length cap1).ownBlock=some k→k<w1.heap.size):=fun k hk=>(hv1.lt k hk).2
 have V1:Hid (OwnI ((w1.alloc (.cells #[.int .i64 c,.int .i64 r,.int .i64 q,.int .i64 a,.int .i64 b,.slice ao1 ws.length cap1] 30)).alloc (.cells #[] 41)) w.heap.size (.slice ao1 ws.length cap1) ws):=((hv1.alloc _).alloc _).down hWs
 obtain⟨B1,U1⟩:=cy2 (HB.out.trans (E1.mono hWs)) (HU.out.stays E1 (fun k hk=>(HU.out.lt k hk).2))
 have hgO:w.heap.size+1<w1.heap.size:=Nat.lt_of_lt_of_le hWr hWm
 obtain⟨s0,s1,s2,s3,s4,s5⟩:=A1.out.cells
 clear hv1 hb1 E1 HA HR HU HB hWs hWr hWm hm1 hm2
 go_wp2_with fail
 generalize ((w1.alloc (.cells #[.int .i64 c,.int .i64 r,.int .i64 q,.int .i64 a,.int .i64 b,.slice ao1 ws.length cap1] 30)).alloc (.cells #[] 41))=W1 at *
 generalize w1.heap.size=N1 at *
 obtain⟨ao0,cap0,hu0,hx0⟩:=U1.out.ints
 have X1:Hid (IntsAt W1 ao0 ws):=hx0
 subst hu0
 refine(qAv c r q a b ao0 cap0 ws _ X1 hl).mono ?_
 rintro e w2 ⟨rfl,hb2⟩
 obtain⟨OO,AA,RR,LL,SI,BB⟩:=cy6 (O1.out.stays hb2 O1.out.lt) (A1.out.stays hb2 A1.out.lt) (R1.out.stays hb2 R1.out.lt) (qAr V1.out hb2) (I1.out.below hb2) (B1.out.trans (hb2.mono B1.out.size))
 have z2:N1+2≤w2.heap.size:=by rw[←hm3];exact hb2.size
 clear hb2 O1 R1 V1 B1 A1 U1 X1 hx0 s0 s1 s2 s3 s4 s5 I1 hm3
 rw[ht.out]
 clear ht
 go_wp2_with fail
 refine(qBb _ hd).mono ?_
 rintro e w3 ⟨rfl,rfl⟩
 have SS:Hid (SlI w3 w.heap.size (.slice (some ⟨(N1+1),0,none⟩) 0 0) []):=SI.out.down (by omega)
 obtain⟨x0,x1,x2,x3,x4,x5⟩:=OO.out.cells
 obtain⟨y0,y1,y2,y3,y4,y5⟩:=RR.out.cells
 have m0:=RR.out.frozen 0
 have m1:=RR.out.frozen 1
 have m2:=RR.out.frozen 2
 have m3:=RR.out.frozen 3
 have m4:=RR.out.frozen 4
 have m5:=RR.out.frozen 5
 go_wp2_with fail
 have R3:TokAt _ (w.heap.size+1) c r q a b (.slice ao1 ws.length cap1):=RR.out.agg c r q a b (.slice ao1 ws.length cap1)
 have T3:=((((((TurnAt.refl (w.heap.size+1) w3).setCell 0 (.int .i64 c)).setCell 1 (.int .i64 r)).setCell 2 (.int .i64 q)).setCell 3 (.int .i64 a)).setCell 4 (.int .i64 b)).setCell 5 (.slice ao1 ws.length cap1)
 have V3:=qAg LL.out RR.out T3
 have S3:=qAn SS.out RR.out T3
 have B3:=BB.out.trans (T3.below (by omega))
 clear T3
 generalize ((((((w3.setCell ⟨w.heap.size+1,0,none⟩ (.int .i64 c)).setCell ⟨w.heap.size+1,1,none⟩ (.int .i64 r)).setCell ⟨w.heap.size+1,2,none⟩ (.int .i64 q)).setCell ⟨w.heap.size+1,3,none⟩ (.int .i64 a)).setCell ⟨w.heap.size+1,4,none⟩ (.int .i64 b)).setCell ⟨w.heap.size+1,5,none⟩ (.slice ao1 ws.length cap1))=W3 at *
 obtain⟨q0,q1,q2,q3,q4,q5⟩:=R3.cells
 refine bodyPost_ret (v:=.tuple #[.agg #[.int .i64 c,.int .i64 r,.int .i64 q,.int .i64 a,.int .i64 b,.slice ao1 ws.length cap1],.slice (some ⟨(N1+1),0,none⟩) 0 0]) (by simp[results,Tryz.results65,go_sem,q0,q1,q2,q3,q4,q5]) rfl ?_
 exact⟨_,_,rfl,V3,S3,B3⟩
theorem spNum_2(c r q a b f:Int)(u0:Value)(ws:List Int)(B0:Nat)(al:Option Addr)(cl:Nat)(lv:List Int)(at_:Option Addr)(ct:Nat)(tx:List ByteArray)(w:World)(h:Hid (OwnI w B0 u0 ws))(hl:ws.length≤1048576)(hlv:Hid (IntsAt w al lv))(hll:lv.length≤1048576)(htx:Hid (TextsAt w at_ tx))(hlt:tx.length≤1048576)(ht:Hid (tkB c r q a b ws=true))(hd:decide (1≤f∧f≤5)=true)(hq0:0≤q)(hq1:q≤60)(L2:List It)(Q2 A2:Int)(hL2:Hid (L2=qBx f lv q 0 tx))(hQ2:Hid (Q2=q+(L2.length:Int)))(hA2:Hid (A2=if numF a q b then Q2 else a)):
  Calls Tryz.prog 65 #[.agg #[.int .i64 c,.int .i64 r,.int .i64 q,.int .i64 a,.int .i64 b,u0],.int .i64 f,.slice al lv.length cl,.slice at_ tx.length ct] w fun e w'=>∃v vi,e=.returned (.tuple #[.agg #[.int .i64 c,.int .i64 r,.int .i64 Q2,.int .i64 A2,.int .i64 b,v],vi])∧OwnI w' w.heap.size v ws∧SlI w' w.heap.size vi L2∧Below w.heap.size w w':=by
 obtain⟨HA,HR,HB,HU⟩:=enT w c r q a b u0 B0 ws h.out
 clear h
 go_enter Tryz.func65,Tryz.ntmps65
 go_wp2_with fail
 generalize ((w.alloc (.cells #[.int .i64 c,.int .i64 r,.int .i64 q,.int .i64 a,.int .i64 b,u0] 30)).alloc (.cells #[.int .i64 0,.int .i64 0,.int .i64 0,.int .i64 0,.int .i64 0,.slice none 0 0] 30))=W at *
 have hWs:w.heap.size≤W.heap.size:=HB.out.size
 have hWr:w.heap.size+1<W.heap.size:=HR.out.lt
 refine(qBr c r q a b u0 ws B0 W HU hl).mono ?_
 rintro e w1 ⟨v1,rfl,hv1,hb1⟩
 obtain⟨ao1,cap1,hf1⟩:=hv1.form
 subst hf1
 have hWm:=hb1.size
 have hm1:(w1.alloc (.cells #[] 41)).heap.size=w1.heap.size+1:=by simp
 have hm2:(w1.alloc (.cells #[.int .i64 c,.int .i64 r,.int .i64 q,.int .i64 a,.int .i64 b,.slice ao1 ws.length cap1] 30)).heap.size=w1.heap.size+1:=by simp
 have hm3:((w1.alloc (.cells #[.int .i64 c,.int .i64 r,.int .i64 q,.int .i64 a,.int .i64 b,.slice ao1 ws.length cap1] 30)).alloc (.cells #[] 41)).heap.size=w1.heap.size+2:=by simp
 have E1:Below W.heap.size W ((w1.alloc (.cells #[.int .i64 c,.int .i64 r,.int .i64 q,.int .i64 a,.int .i64 b,.slice ao1 ws.length cap1] 30)).alloc (.cells #[] 41)):=(hb1.alloc hb1.size _).alloc (by simp;omega) _
 have O1:Hid (TokAt ((w1.alloc (.cells #[.int .i64 c,.int .i64 r,.int .i64 q,.int .i64 a,.int .i64 b,.slice ao1 ws.length cap1] 30)).alloc (.cells #[] 41)) w1.heap.size c r q a b (.slice ao1 ws.length cap1)):=by
  have h:=heap_alloc_new w1 (.cells #[.int .i64 c,.int .i64 r,.int .i64 q,.int .i64 a,.int .i64 b,.slice ao1 ws.length cap1] 30);exact TokAt.stays (B:=w1.heap.size+1) h ((Below.refl _ _).alloc (by rw[hm2];exact Nat.le_refl _) _) (by omega)
 have I1:Hid (SlI ((w1.alloc (.cells #[.int .i64 c,.int .i64 r,.int .i64 q,.int .i64 a,.int .i64 b,.slice ao1 ws.length cap1] 30)).alloc (.cells #[] 41)) w1.heap.size (.slice (some ⟨(w1.heap.size+1),0,none⟩) 0 0) []):=by
  have h:=SlI.made (w1.alloc (.cells #[.int .i64 c,.int .i64 r,.int .i64 q,.int .i64 a,.int .i64 b,.slice ao1 ws.length cap1] 30)) w1.heap.size (by simp);rw[hm2]at h;exact h
 obtain⟨A1,R1⟩:=cy2 (HA.out.stays E1 HA.out.lt) (HR.out.stays E1 HR.out.lt)
 have VL:Hid (∀k,(Value.slice ao1 ws.length cap1).ownBlock=some k→k<w1.heap.size):=fun k hk=>(hv1.lt k hk).2
 have V1:Hid (OwnI ((w1.alloc (.cells #[.int .i64 c,.int .i64 r,.int .i64 q,.int .i64 a,.int .i64 b,.slice ao1 ws.length cap1] 30)).alloc (.cells #[] 41)) w.heap.size (.slice ao1 ws.length cap1) ws):=((hv1.alloc _).alloc _).down hWs
 obtain⟨B1,U1⟩:=cy2 (HB.out.trans (E1.mono hWs)) (HU.out.stays E1 (fun k hk=>(HU.out.lt k hk).2))
 have hgO:w.heap.size+1<w1.heap.size:=Nat.lt_of_lt_of_le hWr hWm
 obtain⟨s0,s1,s2,s3,s4,s5⟩:=A1.out.cells
 clear hv1 hb1 E1 HA HR HU HB hWs hWr hWm hm1 hm2
 go_wp2_with fail
 generalize ((w1.alloc (.cells #[.int .i64 c,.int .i64 r,.int .i64 q,.int .i64 a,.int .i64 b,.slice ao1 ws.length cap1] 30)).alloc (.cells #[] 41))=W1 at *
 generalize w1.heap.size=N1 at *
 obtain⟨ao0,cap0,hu0,hx0⟩:=U1.out.ints
 have X1:Hid (IntsAt W1 ao0 ws):=hx0
 subst hu0
 refine(qAv c r q a b ao0 cap0 ws _ X1 hl).mono ?_
 rintro e w2 ⟨rfl,hb2⟩
 obtain⟨OO,AA,RR,LL,SI,BB⟩:=cy6 (O1.out.stays hb2 O1.out.lt) (A1.out.stays hb2 A1.out.lt) (R1.out.stays hb2 R1.out.lt) (qAr V1.out hb2) (I1.out.below hb2) (B1.out.trans (hb2.mono B1.out.size))
 have z2:N1+2≤w2.heap.size:=by rw[←hm3];exact hb2.size
 clear hb2 O1 R1 V1 B1 A1 U1 X1 hx0 s0 s1 s2 s3 s4 s5 I1 hm3
 rw[ht.out]
 clear ht
 go_wp2_with fail
 refine(qBb _ hd).mono ?_
 rintro e w3 ⟨rfl,rfl⟩
 clear hd
 have HST:Hid (NSt f lv q tx 0 []):=nSt_start hq0 hq1
 have HB0:Hid (Below N1 w3 w3):=Below.refl _ _
 go_wp2_with fail
 go_loopw [11,12] (fun v i wr=>∃(k:Nat) (Qk:Int) (L:List It),k≤3∧k≤tx.length∧i=.int .i64 k∧(0≤Qk∧Qk≤60)∧Hid (Qk=q+(k:Int))∧Hid (NSt f lv q tx k L)∧Hid (TokAt wr N1 c r Qk a b (.slice ao1 ws.length cap1))∧Hid (SlI wr N1 v L)∧Hid (Below N1 w3 wr)) (fun _ i _=>tx.length - (intOf i).toNat)
 case atStart=>exact⟨0,q,[],by omega,by omega,rfl,⟨hq0,hq1⟩,(show q=q+((0:Nat):Int) by omega),HST,OO,SI,HB0⟩
 case round=>
  clear HST HB0 OO SI
  obtain⟨k,Qk,L,hk3,hk,rfl,hQ,HQk,HST,OO,SX,BW⟩:=hrel
  have hL:L.length≤3:=by rw[HST.out.1];exact hk3
  obtain⟨uI,hui⟩: ∃uI,uI=u11:=⟨_,rfl⟩
  subst hui
  by_cases hltk:k<tx.length
  ·obtain⟨bt,ot,hat,hbt,hct⟩:=(htx.out.stays (BB.out.trans (BW.out.mono (by omega)))) k hltk
   obtain⟨t,ht⟩: ∃t,t=tx[k]:=⟨_,rfl⟩
   rw[←ht]at hct
   have HTX:Hid (t=tx[k]):=ht
   obtain⟨o0,o1,o2,o3,o4,o5⟩:=OO.out.cells
   have i1:(k:Int)<(tx.length:Int):=by omega
   clear o0 o1 o3 o4 o5 ht
   subst hat
   by_cases c1:k=3
   ·have HL:Hid (qBx f lv q 0 tx=L):=qDi HST.out (fun _ h=>by omega)
    have HQ:Hid (Qk=q+(L.length:Int)):=by rw[HST.out.1];exact HQk.out
    subst c1
    obtain⟨RR,AA,LL,BB⟩:=cy4 (RR.out.stays BW.out (by omega)) (AA.out.stays BW.out (by omega)) (LL.out.stays BW.out VL.out) (BB.out.trans (BW.out.mono (by omega)))
    have SS:Hid (SlI wr w.heap.size uI L):=SX.out.down (by omega)
    obtain⟨a0,a1,a2,a3,a4,a5⟩:=AA.out.cells
    clear a0 a1 a5
    have EL:Hid (L2=L):=by have h1:=hL2.out;have h2:=HL.out;show _=_;rw[h1,h2]
    have EQ:Hid (Q2=Qk):=by have h1:=hQ2.out;have h2:=HQ.out;have h3:=EL.out;show _=_;rw[h1,h3,h2]
    by_cases ha:a=q
    ·by_cases hb0:b=0
     ·have EA:Hid (A2=Qk):=by have h1:=hA2.out;have h2:=EQ.out;show _=_;rw[h1,if_pos (show numF a q b=true from decide_eq_true ⟨ha,hb0⟩),h2]
      subst ha
      subst hb0
      have n3:=OO.out.frozen 3
      obtain⟨g0,g1,g2,g3,g4,g5⟩:=OO.out.cells
      have HT:=(TurnAt.refl N1 wr).setCell 3 (.int .i64 Qk)
      obtain⟨LL,SS,RR,BB⟩:=cy4 (qAg LL.out OO.out HT) (qAn SS.out OO.out HT) (RR.out.turn HT (by omega)) (BB.out.trans (HT.below (by omega)))
      have OO:Hid (TokAt (wr.setCell ⟨N1,3,none⟩ (.int .i64 Qk)) N1 c r Qk Qk 0 (.slice ao1 ws.length cap1)):=OO.out.set3 Qk
      clear HT
      obtain⟨x0,x1,x2,x3,x4,x5⟩:=OO.out.cells
      obtain⟨y0,y1,y2,y3,y4,y5⟩:=RR.out.cells
      have m0:=RR.out.frozen 0
      have m1:=RR.out.frozen 1
      have m2:=RR.out.frozen 2
      have m3:=RR.out.frozen 3
      have m4:=RR.out.frozen 4
      have m5:=RR.out.frozen 5
      go_wp2_with fail
      have R3:TokAt _ (w.heap.size+1) c r Qk Qk 0 (.slice ao1 ws.length cap1):=RR.out.agg c r Qk Qk 0 (.slice ao1 ws.length cap1)
      have T3:=((((((TurnAt.refl (w.heap.size+1) (wr.setCell ⟨N1,3,none⟩ (.int .i64 Qk))).setCell 0 (.int .i64 c)).setCell 1 (.int .i64 r)).setCell 2 (.int .i64 Qk)).setCell 3 (.int .i64 Qk)).setCell 4 (.int .i64 0)).setCell 5 (.slice ao1 ws.length cap1)
      have V3:=qAg LL.out RR.out T3
      have S3:=qAn SS.out RR.out T3
      have B3:=BB.out.trans (T3.below (by omega))
      clear T3
      generalize (((((((wr.setCell ⟨N1,3,none⟩ (.int .i64 Qk)).setCell ⟨w.heap.size+1,0,none⟩ (.int .i64 c)).setCell ⟨w.heap.size+1,1,none⟩ (.int .i64 r)).setCell ⟨w.heap.size+1,2,none⟩ (.int .i64 Qk)).setCell ⟨w.heap.size+1,3,none⟩ (.int .i64 Qk)).setCell ⟨w.heap.size+1,4,none⟩ (.int .i64 0)).setCell ⟨w.heap.size+1,5,none⟩ (.slice ao1 ws.length cap1))=W3 at *
      obtain⟨q0,q1,q2,q3,q4,q5⟩:=R3.cells
      refine bodyPost_ret (v:=.tuple #[.agg #[.int .i64 c,.int .i64 r,.int .i64 Qk,.int .i64 Qk,.int .i64 0,.slice ao1 ws.length cap1],uI]) (by simp[results,Tryz.results65,go_sem,q0,q1,q2,q3,q4,q5]) rfl ?_
      exact⟨_,_,by rw[EQ.out,EA.out],V3,by rw[EL.out];exact S3,B3⟩
     ·have EA:Hid (A2=a):=by have h1:=hA2.out;show _=_;rw[h1,if_neg (by unfold numF;simp[hb0])]
      subst ha
      obtain⟨x0,x1,x2,x3,x4,x5⟩:=OO.out.cells
      obtain⟨y0,y1,y2,y3,y4,y5⟩:=RR.out.cells
      have m0:=RR.out.frozen 0
      have m1:=RR.out.frozen 1
      have m2:=RR.out.frozen 2
      have m3:=RR.out.frozen 3
      have m4:=RR.out.frozen 4
      have m5:=RR.out.frozen 5
      go_wp2_with fail
      have R3:TokAt _ (w.heap.size+1) c r Qk a b (.slice ao1 ws.length cap1):=RR.out.agg c r Qk a b (.slice ao1 ws.length cap1)
      have T3:=((((((TurnAt.refl (w.heap.size+1) wr).setCell 0 (.int .i64 c)).setCell 1 (.int .i64 r)).setCell 2 (.int .i64 Qk)).setCell 3 (.int .i64 a)).setCell 4 (.int .i64 b)).setCell 5 (.slice ao1 ws.length cap1)
      have V3:=qAg LL.out RR.out T3
      have S3:=qAn SS.out RR.out T3
      have B3:=BB.out.trans (T3.below (by omega))
      clear T3
      generalize ((((((wr.setCell ⟨w.heap.size+1,0,none⟩ (.int .i64 c)).setCell ⟨w.heap.size+1,1,none⟩ (.int .i64 r)).setCell ⟨w.heap.size+1,2,none⟩ (.int .i64 Qk)).setCell ⟨w.heap.size+1,3,none⟩ (.int .i64 a)).setCell ⟨w.heap.size+1,4,none⟩ (.int .i64 b)).setCell ⟨w.heap.size+1,5,none⟩ (.slice ao1 ws.length cap1))=W3 at *
      obtain⟨q0,q1,q2,q3,q4,q5⟩:=R3.cells
      refine bodyPost_ret (v:=.tuple #[.agg #[.int .i64 c,.int .i64 r,.int .i64 Qk,.int .i64 a,.int .i64 b,.slice ao1 ws.length cap1],uI]) (by simp[results,Tryz.results65,go_sem,q0,q1,q2,q3,q4,q5]) rfl ?_
      exact⟨_,_,by rw[EQ.out,EA.out],V3,by rw[EL.out];exact S3,B3⟩
    ·have EA:Hid (A2=a):=by have h1:=hA2.out;show _=_;rw[h1,if_neg (by unfold numF;simp[ha])]
     obtain⟨x0,x1,x2,x3,x4,x5⟩:=OO.out.cells
     obtain⟨y0,y1,y2,y3,y4,y5⟩:=RR.out.cells
     have m0:=RR.out.frozen 0
     have m1:=RR.out.frozen 1
     have m2:=RR.out.frozen 2
     have m3:=RR.out.frozen 3
     have m4:=RR.out.frozen 4
     have m5:=RR.out.frozen 5
     go_wp2_with fail
     have R3:TokAt _ (w.heap.size+1) c r Qk a b (.slice ao1 ws.length cap1):=RR.out.agg c r Qk a b (.slice ao1 ws.length cap1)
     have T3:=((((((TurnAt.refl (w.heap.size+1) wr).setCell 0 (.int .i64 c)).setCell 1 (.int .i64 r)).setCell 2 (.int .i64 Qk)).setCell 3 (.int .i64 a)).setCell 4 (.int .i64 b)).setCell 5 (.slice ao1 ws.length cap1)
     have V3:=qAg LL.out RR.out T3
     have S3:=qAn SS.out RR.out T3
     have B3:=BB.out.trans (T3.below (by omega))
     clear T3
     generalize ((((((wr.setCell ⟨w.heap.size+1,0,none⟩ (.int .i64 c)).setCell ⟨w.heap.size+1,1,none⟩ (.int .i64 r)).setCell ⟨w.heap.size+1,2,none⟩ (.int .i64 Qk)).setCell ⟨w.heap.size+1,3,none⟩ (.int .i64 a)).setCell ⟨w.heap.size+1,4,none⟩ (.int .i64 b)).setCell ⟨w.heap.size+1,5,none⟩ (.slice ao1 ws.length cap1))=W3 at *
     obtain⟨q0,q1,q2,q3,q4,q5⟩:=R3.cells
     refine bodyPost_ret (v:=.tuple #[.agg #[.int .i64 c,.int .i64 r,.int .i64 Qk,.int .i64 a,.int .i64 b,.slice ao1 ws.length cap1],uI]) (by simp[results,Tryz.results65,go_sem,q0,q1,q2,q3,q4,q5]) rfl ?_
     exact⟨_,_,by rw[EQ.out,EA.out],V3,by rw[EL.out];exact S3,B3⟩
   ·have d1:(k:Int)<3:=by omega
    by_cases c2:Qk=60
    ·have HL:Hid (qBx f lv q 0 tx=L):=qDi HST.out (fun _ h=>by have:=HQk.out;omega)
     have HQ:Hid (Qk=q+(L.length:Int)):=by rw[HST.out.1];exact HQk.out
     subst c2
     obtain⟨RR,AA,LL,BB⟩:=cy4 (RR.out.stays BW.out (by omega)) (AA.out.stays BW.out (by omega)) (LL.out.stays BW.out VL.out) (BB.out.trans (BW.out.mono (by omega)))
     have SS:Hid (SlI wr w.heap.size uI L):=SX.out.down (by omega)
     obtain⟨a0,a1,a2,a3,a4,a5⟩:=AA.out.cells
     clear a0 a1 a5
     have EL:Hid (L2=L):=by have h1:=hL2.out;have h2:=HL.out;show _=_;rw[h1,h2]
     have EQ:Hid (Q2=60):=by have h1:=hQ2.out;have h2:=HQ.out;have h3:=EL.out;show _=_;rw[h1,h3,h2]
     by_cases ha:a=q
     ·by_cases hb0:b=0
      ·have EA:Hid (A2=60):=by have h1:=hA2.out;have h2:=EQ.out;show _=_;rw[h1,if_pos (show numF a q b=true from decide_eq_true ⟨ha,hb0⟩),h2]
       subst ha
       subst hb0
       have n3:=OO.out.frozen 3
       obtain⟨g0,g1,g2,g3,g4,g5⟩:=OO.out.cells
       have HT:=(TurnAt.refl N1 wr).setCell 3 (.int .i64 60)
       obtain⟨LL,SS,RR,BB⟩:=cy4 (qAg LL.out OO.out HT) (qAn SS.out OO.out HT) (RR.out.turn HT (by omega)) (BB.out.trans (HT.below (by omega)))
       have OO:Hid (TokAt (wr.setCell ⟨N1,3,none⟩ (.int .i64 60)) N1 c r 60 60 0 (.slice ao1 ws.length cap1)):=OO.out.set3 60
       clear HT
       obtain⟨x0,x1,x2,x3,x4,x5⟩:=OO.out.cells
       obtain⟨y0,y1,y2,y3,y4,y5⟩:=RR.out.cells
       have m0:=RR.out.frozen 0
       have m1:=RR.out.frozen 1
       have m2:=RR.out.frozen 2
       have m3:=RR.out.frozen 3
       have m4:=RR.out.frozen 4
       have m5:=RR.out.frozen 5
       go_wp2_with fail
       have R3:TokAt _ (w.heap.size+1) c r 60 60 0 (.slice ao1 ws.length cap1):=RR.out.agg c r 60 60 0 (.slice ao1 ws.length cap1)
       have T3:=((((((TurnAt.refl (w.heap.size+1) (wr.setCell ⟨N1,3,none⟩ (.int .i64 60))).setCell 0 (.int .i64 c)).setCell 1 (.int .i64 r)).setCell 2 (.int .i64 60)).setCell 3 (.int .i64 60)).setCell 4 (.int .i64 0)).setCell 5 (.slice ao1 ws.length cap1)
       have V3:=qAg LL.out RR.out T3
       have S3:=qAn SS.out RR.out T3
       have B3:=BB.out.trans (T3.below (by omega))
       clear T3
       generalize (((((((wr.setCell ⟨N1,3,none⟩ (.int .i64 60)).setCell ⟨w.heap.size+1,0,none⟩ (.int .i64 c)).setCell ⟨w.heap.size+1,1,none⟩ (.int .i64 r)).setCell ⟨w.heap.size+1,2,none⟩ (.int .i64 60)).setCell ⟨w.heap.size+1,3,none⟩ (.int .i64 60)).setCell ⟨w.heap.size+1,4,none⟩ (.int .i64 0)).setCell ⟨w.heap.size+1,5,none⟩ (.slice ao1 ws.length cap1))=W3 at *
       obtain⟨q0,q1,q2,q3,q4,q5⟩:=R3.cells
       refine bodyPost_ret (v:=.tuple #[.agg #[.int .i64 c,.int .i64 r,.int .i64 60,.int .i64 60,.int .i64 0,.slice ao1 ws.length cap1],uI]) (by simp[results,Tryz.results65,go_sem,q0,q1,q2,q3,q4,q5]) rfl ?_
       exact⟨_,_,by rw[EQ.out,EA.out],V3,by rw[EL.out];exact S3,B3⟩
      ·have EA:Hid (A2=a):=by have h1:=hA2.out;show _=_;rw[h1,if_neg (by unfold numF;simp[hb0])]
       subst ha
       obtain⟨x0,x1,x2,x3,x4,x5⟩:=OO.out.cells
       obtain⟨y0,y1,y2,y3,y4,y5⟩:=RR.out.cells
       have m0:=RR.out.frozen 0
       have m1:=RR.out.frozen 1
       have m2:=RR.out.frozen 2
       have m3:=RR.out.frozen 3
       have m4:=RR.out.frozen 4
       have m5:=RR.out.frozen 5
       go_wp2_with fail
       have R3:TokAt _ (w.heap.size+1) c r 60 a b (.slice ao1 ws.length cap1):=RR.out.agg c r 60 a b (.slice ao1 ws.length cap1)
       have T3:=((((((TurnAt.refl (w.heap.size+1) wr).setCell 0 (.int .i64 c)).setCell 1 (.int .i64 r)).setCell 2 (.int .i64 60)).setCell 3 (.int .i64 a)).setCell 4 (.int .i64 b)).setCell 5 (.slice ao1 ws.length cap1)
       have V3:=qAg LL.out RR.out T3
       have S3:=qAn SS.out RR.out T3
       have B3:=BB.out.trans (T3.below (by omega))
       clear T3
       generalize ((((((wr.setCell ⟨w.heap.size+1,0,none⟩ (.int .i64 c)).setCell ⟨w.heap.size+1,1,none⟩ (.int .i64 r)).setCell ⟨w.heap.size+1,2,none⟩ (.int .i64 60)).setCell ⟨w.heap.size+1,3,none⟩ (.int .i64 a)).setCell ⟨w.heap.size+1,4,none⟩ (.int .i64 b)).setCell ⟨w.heap.size+1,5,none⟩ (.slice ao1 ws.length cap1))=W3 at *
       obtain⟨q0,q1,q2,q3,q4,q5⟩:=R3.cells
       refine bodyPost_ret (v:=.tuple #[.agg #[.int .i64 c,.int .i64 r,.int .i64 60,.int .i64 a,.int .i64 b,.slice ao1 ws.length cap1],uI]) (by simp[results,Tryz.results65,go_sem,q0,q1,q2,q3,q4,q5]) rfl ?_
       exact⟨_,_,by rw[EQ.out,EA.out],V3,by rw[EL.out];exact S3,B3⟩
     ·have EA:Hid (A2=a):=by have h1:=hA2.out;show _=_;rw[h1,if_neg (by unfold numF;simp[ha])]
      obtain⟨x0,x1,x2,x3,x4,x5⟩:=OO.out.cells
      obtain⟨y0,y1,y2,y3,y4,y5⟩:=RR.out.cells
      have m0:=RR.out.frozen 0
      have m1:=RR.out.frozen 1
      have m2:=RR.out.frozen 2
      have m3:=RR.out.frozen 3
      have m4:=RR.out.frozen 4
      have m5:=RR.out.frozen 5
      go_wp2_with fail
      have R3:TokAt _ (w.heap.size+1) c r 60 a b (.slice ao1 ws.length cap1):=RR.out.agg c r 60 a b (.slice ao1 ws.length cap1)
      have T3:=((((((TurnAt.refl (w.heap.size+1) wr).setCell 0 (.int .i64 c)).setCell 1 (.int .i64 r)).setCell 2 (.int .i64 60)).setCell 3 (.int .i64 a)).setCell 4 (.int .i64 b)).setCell 5 (.slice ao1 ws.length cap1)
      have V3:=qAg LL.out RR.out T3
      have S3:=qAn SS.out RR.out T3
      have B3:=BB.out.trans (T3.below (by omega))
      clear T3
      generalize ((((((wr.setCell ⟨w.heap.size+1,0,none⟩ (.int .i64 c)).setCell ⟨w.heap.size+1,1,none⟩ (.int .i64 r)).setCell ⟨w.heap.size+1,2,none⟩ (.int .i64 60)).setCell ⟨w.heap.size+1,3,none⟩ (.int .i64 a)).setCell ⟨w.heap.size+1,4,none⟩ (.int .i64 b)).setCell ⟨w.heap.size+1,5,none⟩ (.slice ao1 ws.length cap1))=W3 at *
      obtain⟨q0,q1,q2,q3,q4,q5⟩:=R3.cells
      refine bodyPost_ret (v:=.tuple #[.agg #[.int .i64 c,.int .i64 r,.int .i64 60,.int .i64 a,.int .i64 b,.slice ao1 ws.length cap1],uI]) (by simp[results,Tryz.results65,go_sem,q0,q1,q2,q3,q4,q5]) rfl ?_
      exact⟨_,_,by rw[EQ.out,EA.out],V3,by rw[EL.out];exact S3,B3⟩
    ·have d2:Qk<60:=by omega
     by_cases c3:60<t.size
     ·have d3:decide ((t.size:Int)≤60)=false:=by simp;omega
      have HL:Hid (qBx f lv q 0 tx=L):=qDi HST.out (fun _ h=>by have:=HTX.out;rw[←this]at h;omega)
      have HQ:Hid (Qk=q+(L.length:Int)):=by rw[HST.out.1];exact HQk.out
      obtain⟨RR,AA,LL,BB⟩:=cy4 (RR.out.stays BW.out (by omega)) (AA.out.stays BW.out (by omega)) (LL.out.stays BW.out VL.out) (BB.out.trans (BW.out.mono (by omega)))
      have SS:Hid (SlI wr w.heap.size uI L):=SX.out.down (by omega)
      obtain⟨a0,a1,a2,a3,a4,a5⟩:=AA.out.cells
      clear a0 a1 a5
      have EL:Hid (L2=L):=by have h1:=hL2.out;have h2:=HL.out;show _=_;rw[h1,h2]
      have EQ:Hid (Q2=Qk):=by have h1:=hQ2.out;have h2:=HQ.out;have h3:=EL.out;show _=_;rw[h1,h3,h2]
      by_cases ha:a=q
      ·by_cases hb0:b=0
       ·have EA:Hid (A2=Qk):=by have h1:=hA2.out;have h2:=EQ.out;show _=_;rw[h1,if_pos (show numF a q b=true from decide_eq_true ⟨ha,hb0⟩),h2]
        subst ha
        subst hb0
        have n3:=OO.out.frozen 3
        obtain⟨g0,g1,g2,g3,g4,g5⟩:=OO.out.cells
        have HT:=(TurnAt.refl N1 wr).setCell 3 (.int .i64 Qk)
        obtain⟨LL,SS,RR,BB⟩:=cy4 (qAg LL.out OO.out HT) (qAn SS.out OO.out HT) (RR.out.turn HT (by omega)) (BB.out.trans (HT.below (by omega)))
        have OO:Hid (TokAt (wr.setCell ⟨N1,3,none⟩ (.int .i64 Qk)) N1 c r Qk Qk 0 (.slice ao1 ws.length cap1)):=OO.out.set3 Qk
        clear HT
        obtain⟨x0,x1,x2,x3,x4,x5⟩:=OO.out.cells
        obtain⟨y0,y1,y2,y3,y4,y5⟩:=RR.out.cells
        have m0:=RR.out.frozen 0
        have m1:=RR.out.frozen 1
        have m2:=RR.out.frozen 2
        have m3:=RR.out.frozen 3
        have m4:=RR.out.frozen 4
        have m5:=RR.out.frozen 5
        go_wp2_with fail
        have R3:TokAt _ (w.heap.size+1) c r Qk Qk 0 (.slice ao1 ws.length cap1):=RR.out.agg c r Qk Qk 0 (.slice ao1 ws.length cap1)
        have T3:=((((((TurnAt.refl (w.heap.size+1) (wr.setCell ⟨N1,3,none⟩ (.int .i64 Qk))).setCell 0 (.int .i64 c)).setCell 1 (.int .i64 r)).setCell 2 (.int .i64 Qk)).setCell 3 (.int .i64 Qk)).setCell 4 (.int .i64 0)).setCell 5 (.slice ao1 ws.length cap1)
        have V3:=qAg LL.out RR.out T3
        have S3:=qAn SS.out RR.out T3
        have B3:=BB.out.trans (T3.below (by omega))
        clear T3
        generalize (((((((wr.setCell ⟨N1,3,none⟩ (.int .i64 Qk)).setCell ⟨w.heap.size+1,0,none⟩ (.int .i64 c)).setCell ⟨w.heap.size+1,1,none⟩ (.int .i64 r)).setCell ⟨w.heap.size+1,2,none⟩ (.int .i64 Qk)).setCell ⟨w.heap.size+1,3,none⟩ (.int .i64 Qk)).setCell ⟨w.heap.size+1,4,none⟩ (.int .i64 0)).setCell ⟨w.heap.size+1,5,none⟩ (.slice ao1 ws.length cap1))=W3 at *
        obtain⟨q0,q1,q2,q3,q4,q5⟩:=R3.cells
        refine bodyPost_ret (v:=.tuple #[.agg #[.int .i64 c,.int .i64 r,.int .i64 Qk,.int .i64 Qk,.int .i64 0,.slice ao1 ws.length cap1],uI]) (by simp[results,Tryz.results65,go_sem,q0,q1,q2,q3,q4,q5]) rfl ?_
        exact⟨_,_,by rw[EQ.out,EA.out],V3,by rw[EL.out];exact S3,B3⟩
       ·have EA:Hid (A2=a):=by have h1:=hA2.out;show _=_;rw[h1,if_neg (by unfold numF;simp[hb0])]
        subst ha
        obtain⟨x0,x1,x2,x3,x4,x5⟩:=OO.out.cells
        obtain⟨y0,y1,y2,y3,y4,y5⟩:=RR.out.cells
        have m0:=RR.out.frozen 0
        have m1:=RR.out.frozen 1
        have m2:=RR.out.frozen 2
        have m3:=RR.out.frozen 3
        have m4:=RR.out.frozen 4
        have m5:=RR.out.frozen 5
        go_wp2_with fail
        have R3:TokAt _ (w.heap.size+1) c r Qk a b (.slice ao1 ws.length cap1):=RR.out.agg c r Qk a b (.slice ao1 ws.length cap1)
        have T3:=((((((TurnAt.refl (w.heap.size+1) wr).setCell 0 (.int .i64 c)).setCell 1 (.int .i64 r)).setCell 2 (.int .i64 Qk)).setCell 3 (.int .i64 a)).setCell 4 (.int .i64 b)).setCell 5 (.slice ao1 ws.length cap1)
        have V3:=qAg LL.out RR.out T3
        have S3:=qAn SS.out RR.out T3
        have B3:=BB.out.trans (T3.below (by omega))
        clear T3
        generalize ((((((wr.setCell ⟨w.heap.size+1,0,none⟩ (.int .i64 c)).setCell ⟨w.heap.size+1,1,none⟩ (.int .i64 r)).setCell ⟨w.heap.size+1,2,none⟩ (.int .i64 Qk)).setCell ⟨w.heap.size+1,3,none⟩ (.int .i64 a)).setCell ⟨w.heap.size+1,4,none⟩ (.int .i64 b)).setCell ⟨w.heap.size+1,5,none⟩ (.slice ao1 ws.length cap1))=W3 at *
        obtain⟨q0,q1,q2,q3,q4,q5⟩:=R3.cells
        refine bodyPost_ret (v:=.tuple #[.agg #[.int .i64 c,.int .i64 r,.int .i64 Qk,.int .i64 a,.int .i64 b,.slice ao1 ws.length cap1],uI]) (by simp[results,Tryz.results65,go_sem,q0,q1,q2,q3,q4,q5]) rfl ?_
        exact⟨_,_,by rw[EQ.out,EA.out],V3,by rw[EL.out];exact S3,B3⟩
      ·have EA:Hid (A2=a):=by have h1:=hA2.out;show _=_;rw[h1,if_neg (by unfold numF;simp[ha])]
       obtain⟨x0,x1,x2,x3,x4,x5⟩:=OO.out.cells
       obtain⟨y0,y1,y2,y3,y4,y5⟩:=RR.out.cells
       have m0:=RR.out.frozen 0
       have m1:=RR.out.frozen 1
       have m2:=RR.out.frozen 2
       have m3:=RR.out.frozen 3
       have m4:=RR.out.frozen 4
       have m5:=RR.out.frozen 5
       go_wp2_with fail
       have R3:TokAt _ (w.heap.size+1) c r Qk a b (.slice ao1 ws.length cap1):=RR.out.agg c r Qk a b (.slice ao1 ws.length cap1)
       have T3:=((((((TurnAt.refl (w.heap.size+1) wr).setCell 0 (.int .i64 c)).setCell 1 (.int .i64 r)).setCell 2 (.int .i64 Qk)).setCell 3 (.int .i64 a)).setCell 4 (.int .i64 b)).setCell 5 (.slice ao1 ws.length cap1)
       have V3:=qAg LL.out RR.out T3
       have S3:=qAn SS.out RR.out T3
       have B3:=BB.out.trans (T3.below (by omega))
       clear T3
       generalize ((((((wr.setCell ⟨w.heap.size+1,0,none⟩ (.int .i64 c)).setCell ⟨w.heap.size+1,1,none⟩ (.int .i64 r)).setCell ⟨w.heap.size+1,2,none⟩ (.int .i64 Qk)).setCell ⟨w.heap.size+1,3,none⟩ (.int .i64 a)).setCell ⟨w.heap.size+1,4,none⟩ (.int .i64 b)).setCell ⟨w.heap.size+1,5,none⟩ (.slice ao1 ws.length cap1))=W3 at *
       obtain⟨q0,q1,q2,q3,q4,q5⟩:=R3.cells
       refine bodyPost_ret (v:=.tuple #[.agg #[.int .i64 c,.int .i64 r,.int .i64 Qk,.int .i64 a,.int .i64 b,.slice ao1 ws.length cap1],uI]) (by simp[results,Tryz.results65,go_sem,q0,q1,q2,q3,q4,q5]) rfl ?_
       exact⟨_,_,by rw[EQ.out,EA.out],V3,by rw[EL.out];exact S3,B3⟩
     ·have d3:decide ((t.size:Int)≤60)=true:=by simp;omega
      have HSN:Hid (NSt f lv q tx (k+1) (L++[(Qk+1,f,lvP lv k,t)])):=by
       have h:=nSt_next HST.out hltk ⟨by omega,by have:=HQk.out;omega,by rw[←HTX.out];omega⟩
       rw[←HQk.out,←HTX.out]at h
       exact h
      have HQ2:Hid (Qk+1=q+((k+1:Nat):Int)):=by have:=HQk.out;show _=_;omega
      have hw:IntKind.i64.wrap (Qk+1)=Qk+1:=by rw[IntKind.wrap_i64];omega
      have n2:=OO.out.frozen 2
      have HT:=(TurnAt.refl N1 wr).setCell 2 (.int .i64 (Qk+1))
      have OO2:Hid (TokAt (wr.setCell ⟨N1,2,none⟩ (.int .i64 (Qk+1))) N1 c r (Qk+1) a b (.slice ao1 ws.length cap1)):=OO.out.set2 _
      obtain⟨SX2,BW2⟩:=cy2 (qAn SX.out OO.out HT) (BW.out.trans (HT.below (by omega)))
      have hct2:(wr.setCell ⟨N1,2,none⟩ (.int .i64 (Qk+1))).cell? ⟨bt,ot+k,none⟩=some (.string t):=(by
       obtain⟨bt',ot',e',_,h'⟩:=(htx.out.stays (BB.out.trans (BW2.out.mono (by omega)))) k hltk
       simp at e'
       obtain⟨rfl,rfl⟩:=e'
       rw[HTX.out]
       exact h')
      clear HT
      go_wp2_with fail
      generalize wr.setCell ⟨N1,2,none⟩ (.int .i64 (Qk+1))=W8 at *
      obtain⟨p0,p1,p2,p3,p4,p5⟩:=OO2.out.cells
      have zW:N1≤W8.heap.size:=Nat.le_trans (by omega) BW2.out.size
      have gOl:=OO2.out.lt
      have hb8:bt<W8.heap.size:=(by
       obtain⟨bt',ot',e',h',_⟩:=(htx.out.stays (BB.out.trans (BW2.out.mono (by omega)))) k hltk
       simp at e'
       rw[e'.1]
       exact h')
      have hctA:(W8.alloc (.cells #[.int .i64 0,.int .i64 0,.int .i64 0,.string ⟨#[]⟩] 41)).cell? ⟨bt,ot+k,none⟩=some (.string t):=(((Below.refl W8.heap.size W8).alloc (Nat.le_refl _) _).cell (p:=⟨bt,ot+k,none⟩) hb8).trans hct2
      have p2A:(W8.alloc (.cells #[.int .i64 0,.int .i64 0,.int .i64 0,.string ⟨#[]⟩] 41)).cell? ⟨N1,2,none⟩=some (.int .i64 (Qk+1)):=(((Below.refl W8.heap.size W8).alloc (Nat.le_refl _) _).cell (p:=⟨N1,2,none⟩) gOl).trans p2
      clear p0 p1 p3 p4 p5 n2 o2 hct OO SX hw
      go_region
      have E9:Below W8.heap.size W8 (W8.alloc (.cells #[.int .i64 (Qk+1),.int .i64 f,.int .i64 1,.string t] 41)).drew:=((Below.refl _ _).alloc (Nat.le_refl _) _).trans (Below.refl _ _).drew
      have IT9:Hid (ItAt (W8.alloc (.cells #[.int .i64 (Qk+1),.int .i64 f,.int .i64 1,.string t] 41)).drew W8.heap.size (Qk+1) f 1 t):=heap_alloc_new W8 _
      have SXL:Hid (∀j,uI.ownBlock=some j→j<W8.heap.size):=fun j hj=>(SX2.out.lt j hj).2
      obtain⟨OO9,SX9,BW9⟩:=cy3 (OO2.out.stays E9 gOl) (SX2.out.below E9) (BW2.out.trans (E9.mono zW))
      clear E9 OO2 SX2 BW2 hct2 hctA p2 p2A hb8
      generalize (W8.alloc (.cells #[.int .i64 (Qk+1),.int .i64 f,.int .i64 1,.string t] 41)).drew=W9 at *
      generalize W8.heap.size=gM at *
      have HLV:=Ag (hlv.out.stays (BB.out.trans (BW9.out.mono (by omega))))
      obtain⟨m0,m1,m2,m3⟩:=IT9.out.cells
      have z9:N1≤W9.heap.size:=Nat.le_trans (by omega) BW9.out.size
      by_cases e1:k<lv.length
      ·obtain⟨bl,ol,hal,_,hcl⟩:=HLV.out k e1
       obtain⟨x,hx⟩: ∃x,x=lv[k]:=⟨_,rfl⟩
       rw[←hx]at hcl
       have HV:Hid (lv[k]? =some x):=by show _=_;rw[hx];exact List.getElem?_eq_getElem e1
       have j1:(k:Int)<(lv.length:Int):=by omega
       clear hx
       subst hal
       by_cases e2:x=2
       ·subst e2
        rw[show lvP lv k=2 by unfold lvP;rw[if_pos HV.out]]at HSN
        have n2:W9.frozen? ⟨gM,2,none⟩=false:=frozen_of_row W9 gM 2 _ 41 IT9.out
        have HT:=(TurnAt.refl gM W9).setCell 2 (.int .i64 2)
        have IT0:Hid (ItAt (W9.setCell ⟨gM,2,none⟩ (.int .i64 2)) gM (Qk+1) f 2 t):=IT9.out.set2 2
        have OO0:=Ag (OO9.out.turn HT (by omega))
        have SX0:Hid (SlI (W9.setCell ⟨gM,2,none⟩ (.int .i64 2)) N1 uI L):=SX9.out.keep fun j hj _=>HT.block j (by have:=SXL.out j hj;omega)
        have BW0:=Ag (BW9.out.trans (HT.below (by omega)))
        have z0:N1≤(W9.setCell ⟨gM,2,none⟩ (.int .i64 2)).heap.size:=Nat.le_trans (by omega) BW0.out.size
        obtain⟨k0,k1,k2,k3⟩:=IT0.out.cells
        clear HT
        go_wp2_with (at_builtin;refine qAu rfl _ _ 27 rfl Tryz.underlying27 N1 uI L rfl SX0.out (Qk+1,f,2,t) (by show Value.slice (some ⟨W9.heap.size,0,none⟩) 1 1=_;simp) (by omega) z0 ?_;intro v6 w6 S6 G6 b6 _)
        have SX:=Ag S6
        have OO:Hid (TokAt w6 N1 c r (Qk+1) a b (.slice ao1 ws.length cap1)):=(G6.block N1 OO0.out.lt (fun e=>qFr SX0.out OO0.out (by decide) e.symm)).trans OO0.out
        have BW:=Ag (BW0.out.trans b6)
        clear S6 G6 b6 OO0 SX0 BW0
        go_roundw
        case rel=>exact⟨k+1,Qk+1,L++[(Qk+1,f,2,t)],by omega,by omega,by go_num,⟨by omega,by omega⟩,HQ2,HSN,OO,SX,BW⟩
        case measure=>simp[intOf];omega
       ·rw[show lvP lv k=1 by unfold lvP;rw[if_neg (by rw[HV.out];simpa using e2)]]at HSN
        go_wp2_with (at_builtin;refine qAu rfl _ _ 27 rfl Tryz.underlying27 N1 uI L rfl SX9.out (Qk+1,f,1,t) rfl (by omega) z9 ?_;intro v6 w6 S6 G6 b6 _)
        have SX:=Ag S6
        have OO:Hid (TokAt w6 N1 c r (Qk+1) a b (.slice ao1 ws.length cap1)):=(G6.block N1 OO9.out.lt (fun e=>qFr SX9.out OO9.out (by decide) e.symm)).trans OO9.out
        have BW:=Ag (BW9.out.trans b6)
        clear S6 G6 b6 OO9 SX9 BW9
        go_roundw
        case rel=>exact⟨k+1,Qk+1,L++[(Qk+1,f,1,t)],by omega,by omega,by go_num,⟨by omega,by omega⟩,HQ2,HSN,OO,SX,BW⟩
        case measure=>simp[intOf];omega
      ·rw[show lvP lv k=1 by unfold lvP;rw[if_neg (by rw[List.getElem?_eq_none (by omega)];simp)]]at HSN
       have j1: ¬(k:Int)<(lv.length:Int):=by omega
       go_wp2_with (at_builtin;refine qAu rfl _ _ 27 rfl Tryz.underlying27 N1 uI L rfl SX9.out (Qk+1,f,1,t) rfl (by omega) z9 ?_;intro v6 w6 S6 G6 b6 _)
       have SX:=Ag S6
       have OO:Hid (TokAt w6 N1 c r (Qk+1) a b (.slice ao1 ws.length cap1)):=(G6.block N1 OO9.out.lt (fun e=>qFr SX9.out OO9.out (by decide) e.symm)).trans OO9.out
       have BW:=Ag (BW9.out.trans b6)
       clear S6 G6 b6 OO9 SX9 BW9
       go_roundw
       case rel=>exact⟨k+1,Qk+1,L++[(Qk+1,f,1,t)],by omega,by omega,by go_num,⟨by omega,by omega⟩,HQ2,HSN,OO,SX,BW⟩
       case measure=>simp[intOf];omega
  ·obtain rfl:k=tx.length:=by omega
   have HL:Hid (qBx f lv q 0 tx=L):=qDi HST.out (fun h=>by omega)
   have HQ:Hid (Qk=q+(L.length:Int)):=by rw[HST.out.1];exact HQk.out
   obtain⟨RR,AA,LL,BB⟩:=cy4 (RR.out.stays BW.out (by omega)) (AA.out.stays BW.out (by omega)) (LL.out.stays BW.out VL.out) (BB.out.trans (BW.out.mono (by omega)))
   have SS:Hid (SlI wr w.heap.size uI L):=SX.out.down (by omega)
   obtain⟨a0,a1,a2,a3,a4,a5⟩:=AA.out.cells
   clear a0 a1 a5
   have EL:Hid (L2=L):=by have h1:=hL2.out;have h2:=HL.out;show _=_;rw[h1,h2]
   have EQ:Hid (Q2=Qk):=by have h1:=hQ2.out;have h2:=HQ.out;have h3:=EL.out;show _=_;rw[h1,h3,h2]
   by_cases ha:a=q
   ·by_cases hb0:b=0
    ·have EA:Hid (A2=Qk):=by have h1:=hA2.out;have h2:=EQ.out;show _=_;rw[h1,if_pos (show numF a q b=true from decide_eq_true ⟨ha,hb0⟩),h2]
     subst ha
     subst hb0
     have n3:=OO.out.frozen 3
     obtain⟨g0,g1,g2,g3,g4,g5⟩:=OO.out.cells
     have HT:=(TurnAt.refl N1 wr).setCell 3 (.int .i64 Qk)
     obtain⟨LL,SS,RR,BB⟩:=cy4 (qAg LL.out OO.out HT) (qAn SS.out OO.out HT) (RR.out.turn HT (by omega)) (BB.out.trans (HT.below (by omega)))
     have OO:Hid (TokAt (wr.setCell ⟨N1,3,none⟩ (.int .i64 Qk)) N1 c r Qk Qk 0 (.slice ao1 ws.length cap1)):=OO.out.set3 Qk
     clear HT
     obtain⟨x0,x1,x2,x3,x4,x5⟩:=OO.out.cells
     obtain⟨y0,y1,y2,y3,y4,y5⟩:=RR.out.cells
     have m0:=RR.out.frozen 0
     have m1:=RR.out.frozen 1
     have m2:=RR.out.frozen 2
     have m3:=RR.out.frozen 3
     have m4:=RR.out.frozen 4
     have m5:=RR.out.frozen 5
     go_wp2_with fail
     have R3:TokAt _ (w.heap.size+1) c r Qk Qk 0 (.slice ao1 ws.length cap1):=RR.out.agg c r Qk Qk 0 (.slice ao1 ws.length cap1)
     have T3:=((((((TurnAt.refl (w.heap.size+1) (wr.setCell ⟨N1,3,none⟩ (.int .i64 Qk))).setCell 0 (.int .i64 c)).setCell 1 (.int .i64 r)).setCell 2 (.int .i64 Qk)).setCell 3 (.int .i64 Qk)).setCell 4 (.int .i64 0)).setCell 5 (.slice ao1 ws.length cap1)
     have V3:=qAg LL.out RR.out T3
     have S3:=qAn SS.out RR.out T3
     have B3:=BB.out.trans (T3.below (by omega))
     clear T3
     generalize (((((((wr.setCell ⟨N1,3,none⟩ (.int .i64 Qk)).setCell ⟨w.heap.size+1,0,none⟩ (.int .i64 c)).setCell ⟨w.heap.size+1,1,none⟩ (.int .i64 r)).setCell ⟨w.heap.size+1,2,none⟩ (.int .i64 Qk)).setCell ⟨w.heap.size+1,3,none⟩ (.int .i64 Qk)).setCell ⟨w.heap.size+1,4,none⟩ (.int .i64 0)).setCell ⟨w.heap.size+1,5,none⟩ (.slice ao1 ws.length cap1))=W3 at *
     obtain⟨q0,q1,q2,q3,q4,q5⟩:=R3.cells
     refine bodyPost_ret (v:=.tuple #[.agg #[.int .i64 c,.int .i64 r,.int .i64 Qk,.int .i64 Qk,.int .i64 0,.slice ao1 ws.length cap1],uI]) (by simp[results,Tryz.results65,go_sem,q0,q1,q2,q3,q4,q5]) rfl ?_
     exact⟨_,_,by rw[EQ.out,EA.out],V3,by rw[EL.out];exact S3,B3⟩
    ·have EA:Hid (A2=a):=by have h1:=hA2.out;show _=_;rw[h1,if_neg (by unfold numF;simp[hb0])]
     subst ha
     obtain⟨x0,x1,x2,x3,x4,x5⟩:=OO.out.cells
     obtain⟨y0,y1,y2,y3,y4,y5⟩:=RR.out.cells
     have m0:=RR.out.frozen 0
     have m1:=RR.out.frozen 1
     have m2:=RR.out.frozen 2
     have m3:=RR.out.frozen 3
     have m4:=RR.out.frozen 4
     have m5:=RR.out.frozen 5
     go_wp2_with fail
     have R3:TokAt _ (w.heap.size+1) c r Qk a b (.slice ao1 ws.length cap1):=RR.out.agg c r Qk a b (.slice ao1 ws.length cap1)
     have T3:=((((((TurnAt.refl (w.heap.size+1) wr).setCell 0 (.int .i64 c)).setCell 1 (.int .i64 r)).setCell 2 (.int .i64 Qk)).setCell 3 (.int .i64 a)).setCell 4 (.int .i64 b)).setCell 5 (.slice ao1 ws.length cap1)
     have V3:=qAg LL.out RR.out T3
     have S3:=qAn SS.out RR.out T3
     have B3:=BB.out.trans (T3.below (by omega))
     clear T3
     generalize ((((((wr.setCell ⟨w.heap.size+1,0,none⟩ (.int .i64 c)).setCell ⟨w.heap.size+1,1,none⟩ (.int .i64 r)).setCell ⟨w.heap.size+1,2,none⟩ (.int .i64 Qk)).setCell ⟨w.heap.size+1,3,none⟩ (.int .i64 a)).setCell ⟨w.heap.size+1,4,none⟩ (.int .i64 b)).setCell ⟨w.heap.size+1,5,none⟩ (.slice ao1 ws.length cap1))=W3 at *
     obtain⟨q0,q1,q2,q3,q4,q5⟩:=R3.cells
     refine bodyPost_ret (v:=.tuple #[.agg #[.int .i64 c,.int .i64 r,.int .i64 Qk,.int .i64 a,.int .i64 b,.slice ao1 ws.length cap1],uI]) (by simp[results,Tryz.results65,go_sem,q0,q1,q2,q3,q4,q5]) rfl ?_
     exact⟨_,_,by rw[EQ.out,EA.out],V3,by rw[EL.out];exact S3,B3⟩
   ·have EA:Hid (A2=a):=by have h1:=hA2.out;show _=_;rw[h1,if_neg (by unfold numF;simp[ha])]
    obtain⟨x0,x1,x2,x3,x4,x5⟩:=OO.out.cells
    obtain⟨y0,y1,y2,y3,y4,y5⟩:=RR.out.cells
    have m0:=RR.out.frozen 0
    have m1:=RR.out.frozen 1
    have m2:=RR.out.frozen 2
    have m3:=RR.out.frozen 3
    have m4:=RR.out.frozen 4
    have m5:=RR.out.frozen 5
    go_wp2_with fail
    have R3:TokAt _ (w.heap.size+1) c r Qk a b (.slice ao1 ws.length cap1):=RR.out.agg c r Qk a b (.slice ao1 ws.length cap1)
    have T3:=((((((TurnAt.refl (w.heap.size+1) wr).setCell 0 (.int .i64 c)).setCell 1 (.int .i64 r)).setCell 2 (.int .i64 Qk)).setCell 3 (.int .i64 a)).setCell 4 (.int .i64 b)).setCell 5 (.slice ao1 ws.length cap1)
    have V3:=qAg LL.out RR.out T3
    have S3:=qAn SS.out RR.out T3
    have B3:=BB.out.trans (T3.below (by omega))
    clear T3
    generalize ((((((wr.setCell ⟨w.heap.size+1,0,none⟩ (.int .i64 c)).setCell ⟨w.heap.size+1,1,none⟩ (.int .i64 r)).setCell ⟨w.heap.size+1,2,none⟩ (.int .i64 Qk)).setCell ⟨w.heap.size+1,3,none⟩ (.int .i64 a)).setCell ⟨w.heap.size+1,4,none⟩ (.int .i64 b)).setCell ⟨w.heap.size+1,5,none⟩ (.slice ao1 ws.length cap1))=W3 at *
    obtain⟨q0,q1,q2,q3,q4,q5⟩:=R3.cells
    refine bodyPost_ret (v:=.tuple #[.agg #[.int .i64 c,.int .i64 r,.int .i64 Qk,.int .i64 a,.int .i64 b,.slice ao1 ws.length cap1],uI]) (by simp[results,Tryz.results65,go_sem,q0,q1,q2,q3,q4,q5]) rfl ?_
    exact⟨_,_,by rw[EQ.out,EA.out],V3,by rw[EL.out];exact S3,B3⟩
def qEw(c r q a b:Int)(ws:List Int)(f:Int):Bool:=tkB c r q a b ws&&decide (1≤f∧f≤5)
def numL(c r q a b:Int)(ws:List Int)(f:Int)(lv:List Int)(tx:List ByteArray):List It:=if qEw c r q a b ws f then qBx f lv q 0 tx else[]
def numQ(c r q a b:Int)(ws:List Int)(f:Int)(lv:List Int)(tx:List ByteArray):Int:=q+((numL c r q a b ws f lv tx).length:Int)
def numA(c r q a b:Int)(ws:List Int)(f:Int)(lv:List Int)(tx:List ByteArray):Int:=if qEw c r q a b ws f then(if numF a q b then numQ c r q a b ws f lv tx else a)else a
theorem tkB_q{c r q a b:Int}{ws:List Int}(h:tkB c r q a b ws=true):0≤q∧q≤60:=by
 unfold tkB at h
 simp only[Bool.and_eq_true,decide_eq_true_eq]at h
 exact h.2.2.1
theorem numGo_len{f:Int}{lv:List Int}: ∀(ts:List ByteArray) (q:Int) (k:Nat),k≤3→(qBx f lv q k ts).length+k≤3
 | [],_,k,hk=>by simp[qBx];omega
 |t::ts,q,k,hk=>by
  rw[qBx]
  by_cases h:k<3∧q<60∧t.size≤60
  ·rw[if_pos h]
   have:=numGo_len (f:=f) (lv:=lv) ts (q+1) (k+1) (by omega)
   simp only[List.length_cons]
   omega
  ·rw[if_neg h];simp;omega
theorem qKq(c r q a b:Int)(ws:List Int)(f:Int)(lv:List Int)(tx:List ByteArray):(numL c r q a b ws f lv tx).length≤3:=by
 unfold numL
 split
 ·have:=numGo_len (f:=f) (lv:=lv) tx q 0 (by omega);omega
 ·simp
theorem numberT_any(c r q a b f:Int)(u0:Value)(ws:List Int)(B0:Nat)(al:Option Addr)(cl:Nat)(lv:List Int)(at_:Option Addr)(ct:Nat)(tx:List ByteArray)(w:World)(h:Hid (OwnI w B0 u0 ws))(hl:ws.length≤1048576)(hlv:Hid (IntsAt w al lv))(hll:lv.length≤1048576)(htx:Hid (TextsAt w at_ tx))(hlt:tx.length≤1048576):
  Calls Tryz.prog 122 #[.agg #[.int .i64 c,.int .i64 r,.int .i64 q,.int .i64 a,.int .i64 b,u0],.int .i64 f,.slice al lv.length cl,.slice at_ tx.length ct] w fun e w'=>∃v vi,e=.returned (.tuple #[.agg #[.int .i64 c,.int .i64 r,.int .i64 (numQ c r q a b ws f lv tx),.int .i64 (numA c r q a b ws f lv tx),.int .i64 b,v],vi])∧OwnI w' w.heap.size v ws∧SlI w' w.heap.size vi (numL c r q a b ws f lv tx)∧Below w.heap.size w w':=by
 cases ht:tkB c r q a b ws with
 |false=>
  have e1:qEw c r q a b ws f=false:=by unfold qEw;rw[ht];rfl
  rw[show numQ c r q a b ws f lv tx=q by simp[numQ,numL,e1],show numA c r q a b ws f lv tx=a by simp[numA,e1],show numL c r q a b ws f lv tx=[] by simp[numL,e1]]
  exact num_0 c r q a b f u0 ws B0 al cl lv at_ ct tx w h hl hlv hll htx hlt ht
 |true=>
  cases hd:decide (1≤f∧f≤5)with
  |false=>
   have e1:qEw c r q a b ws f=false:=by unfold qEw;rw[ht,hd];rfl
   rw[show numQ c r q a b ws f lv tx=q by simp[numQ,numL,e1],show numA c r q a b ws f lv tx=a by simp[numA,e1],show numL c r q a b ws f lv tx=[] by simp[numL,e1]]
   exact num_1 c r q a b f u0 ws B0 al cl lv at_ ct tx w h hl hlv hll htx hlt ht hd
  |true=>
   have e1:qEw c r q a b ws f=true:=by unfold qEw;rw[ht,hd];rfl
   have hq:=tkB_q ht
   exact num_2 c r q a b f u0 ws B0 al cl lv at_ ct tx w h hl hlv hll htx hlt ht hd hq.1 hq.2 _ _ _ (show numL c r q a b ws f lv tx=_ by unfold numL;rw[if_pos e1]) rfl (show numA c r q a b ws f lv tx=_ by unfold numA;rw[if_pos e1])
theorem spNumber_any(c r q a b f:Int)(u0:Value)(ws:List Int)(B0:Nat)(al:Option Addr)(cl:Nat)(lv:List Int)(at_:Option Addr)(ct:Nat)(tx:List ByteArray)(w:World)(h:Hid (OwnI w B0 u0 ws))(hl:ws.length≤1048576)(hlv:Hid (IntsAt w al lv))(hll:lv.length≤1048576)(htx:Hid (TextsAt w at_ tx))(hlt:tx.length≤1048576):
  Calls Tryz.prog 65 #[.agg #[.int .i64 c,.int .i64 r,.int .i64 q,.int .i64 a,.int .i64 b,u0],.int .i64 f,.slice al lv.length cl,.slice at_ tx.length ct] w fun e w'=>∃v vi,e=.returned (.tuple #[.agg #[.int .i64 c,.int .i64 r,.int .i64 (numQ c r q a b ws f lv tx),.int .i64 (numA c r q a b ws f lv tx),.int .i64 b,v],vi])∧OwnI w' w.heap.size v ws∧SlI w' w.heap.size vi (numL c r q a b ws f lv tx)∧Below w.heap.size w w':=by
 cases ht:tkB c r q a b ws with
 |false=>
  have e1:qEw c r q a b ws f=false:=by unfold qEw;rw[ht];rfl
  rw[show numQ c r q a b ws f lv tx=q by simp[numQ,numL,e1],show numA c r q a b ws f lv tx=a by simp[numA,e1],show numL c r q a b ws f lv tx=[] by simp[numL,e1]]
  exact spNum_0 c r q a b f u0 ws B0 al cl lv at_ ct tx w h hl hlv hll htx hlt ht
 |true=>
  cases hd:decide (1≤f∧f≤5)with
  |false=>
   have e1:qEw c r q a b ws f=false:=by unfold qEw;rw[ht,hd];rfl
   rw[show numQ c r q a b ws f lv tx=q by simp[numQ,numL,e1],show numA c r q a b ws f lv tx=a by simp[numA,e1],show numL c r q a b ws f lv tx=[] by simp[numL,e1]]
   exact spNum_1 c r q a b f u0 ws B0 al cl lv at_ ct tx w h hl hlv hll htx hlt ht hd
  |true=>
   have e1:qEw c r q a b ws f=true:=by unfold qEw;rw[ht,hd];rfl
   have hq:=tkB_q ht
   exact spNum_2 c r q a b f u0 ws B0 al cl lv at_ ct tx w h hl hlv hll htx hlt ht hd hq.1 hq.2 _ _ _ (show numL c r q a b ws f lv tx=_ by unfold numL;rw[if_pos e1]) rfl (show numA c r q a b ws f lv tx=_ by unfold numA;rw[if_pos e1])
def mayB(m:Mt)(t:Tok):Bool:=tkB t.c t.r t.q t.a t.b t.ws&&(decide (t.c=m.rid)&&decide (m.rd+1≤t.r∧t.r≤999999999))
theorem mayHold_0(m:Mt)(u:Mv)(it:Sv)(g:Nat)(t:Tok)(s:Sv)(w:World)(h:Hid (MbB w g m u it))(ht:Hid (RI w s.v t.ws))(hl:t.ws.length≤1048576)(h1:tkB t.c t.r t.q t.a t.b t.ws=false):
  Calls Tryz.prog 52 #[.pointer (some ⟨g,0,none⟩),.agg #[.int .i64 t.c,.int .i64 t.r,.int .i64 t.q,.int .i64 t.a,.int .i64 t.b,.slice s.a s.n s.c]] w fun e w'=>e=.returned (.bool (mayB m t))∧Below w.heap.size w w':=by
 have HT:=Ag (Bx.new w 30 [.int .i64 t.c,.int .i64 t.r,.int .i64 t.q,.int .i64 t.a,.int .i64 t.b,.slice s.a s.n s.c])
 have HG:Hid (Bx (w.alloc (.cells #[.int .i64 t.c,.int .i64 t.r,.int .i64 t.q,.int .i64 t.a,.int .i64 t.b,.slice s.a s.n s.c] 30)) g 96 [.slice u.its.a u.its.n u.its.c,.int .i64 m.id,.int .i64 m.rid,.slice u.ms.a u.ms.n u.ms.c,.slice it.a it.n it.c,.slice u.lv.a u.lv.n u.lv.c,.slice u.tx.a u.tx.n u.tx.c,.int .i64 m.rd,.int .i64 m.se,.int .i64 m.li,.int .i64 m.he,.int .i64 m.la.c,.int .i64 m.la.r,.int .i64 m.la.q,.int .i64 m.la.a,.int .i64 m.la.b,.slice u.ws.a u.ws.n u.ws.c]):=Bx.later h.out ((Below.refl _ _).alloc (Nat.le_refl _) _)
 have HB:=Ag (bA w (.cells #[.int .i64 t.c,.int .i64 t.r,.int .i64 t.q,.int .i64 t.a,.int .i64 t.b,.slice s.a s.n s.c] 30))
 have HR:=Ag (ht.out.stays HB.out)
 clear h ht
 go_enter Tryz.func52,Tryz.ntmps52
 go_wp2_with fail
 generalize (w.alloc (.cells #[.int .i64 t.c,.int .i64 t.r,.int .i64 t.q,.int .i64 t.a,.int .i64 t.b,.slice s.a s.n s.c] 30))=W at *
 refine qEk (C:=fun w'=>Below W.heap.size W w') (by kernel_rfl) (by kernel_rfl) (Below.refl _ _).drew ?_
 go_big_quiet_want
 refine qAh (.agg #[.int .i64 t.c,.int .i64 t.r,.int .i64 t.q,.int .i64 t.a,.int .i64 t.b,.slice s.a s.n s.c]) (fun w' hw'=>by have r0:w'.cell? ⟨w.heap.size,0,none⟩=some (.int .i64 t.c):=(HT.out.later hw').cell 0;have r1:w'.cell? ⟨w.heap.size,1,none⟩=some (.int .i64 t.r):=(HT.out.later hw').cell 1;have r2:w'.cell? ⟨w.heap.size,2,none⟩=some (.int .i64 t.q):=(HT.out.later hw').cell 2;have r3:w'.cell? ⟨w.heap.size,3,none⟩=some (.int .i64 t.a):=(HT.out.later hw').cell 3;have r4:w'.cell? ⟨w.heap.size,4,none⟩=some (.int .i64 t.b):=(HT.out.later hw').cell 4;have r5:w'.cell? ⟨w.heap.size,5,none⟩=some (.slice s.a s.n s.c):=(HT.out.later hw').cell 5;go_simp) ?_
 go_big_quiet_on
 simp only[Act.put,Ad,Ae,Af]
 go_big_quiet_want
 refine qFu (.bool false) 15 #[.agg #[.int .i64 t.c,.int .i64 t.r,.int .i64 t.q,.int .i64 t.a,.int .i64 t.b,.slice s.a s.n s.c]] (fun w' hw'=>by go_simp) (fun w' hw'=>(qEh t.c t.r t.q t.a t.b t.ws (show Hid (RI w' s.v t.ws)from HR.out.stays hw') hl).mono fun e w'' ⟨he,hb⟩=>⟨by rw[he,h1],hw'.trans (hb.mono hw'.size)⟩) ?_
 go_big_quiet_on
 simp only[Act.put,Ad,Ae,Af]
 go_big_quiet_want
 refine qAh (.bool false) (fun w' hw'=>by go_simp) ?_
 go_big_quiet_on
 simp only[Act.put,Ad,Ae,Af]
 go_big_quiet_skip
 go_big_quiet_skip
 go_big_quiet_skip
 go_big_quiet_skip
 go_big_quiet_skip
 go_big_quiet_skip
 go_big_quiet_skip
 go_big_quiet_skip
 go_big_quiet_skip
 go_big_quiet_want
 refine qAh (.bool false) (fun w' hw'=>by go_simp) ?_
 go_big_quiet_on
 simp only[Act.put,Ad,Ae,Af]
 go_big_quiet_want
 refine qAh (.bool false) (fun w' hw'=>by go_simp) ?_
 go_big_quiet_on
 simp only[Act.put,Ad,Ae,Af]
 go_big_quiet_skip
 go_big_quiet_skip
 go_big_quiet_skip
 go_big_quiet_skip
 go_big_quiet_skip
 go_big_quiet_skip
 go_big_quiet_skip
 go_big_quiet_skip
 go_big_quiet_skip
 go_big_quiet_want
 refine qAh (.bool false) (fun w' hw'=>by go_simp) ?_
 go_big_quiet_on
 simp only[Act.put,Ad,Ae,Af]
 go_big_quiet_want
 refine qAh (.bool false) (fun w' hw'=>by go_simp) ?_
 go_big_quiet_on
 simp only[Act.put,Ad,Ae,Af]
 refine wpQuiet_nil ?_
 intro w1 hcw
 go_wp2_with fail
 go_ret
 refine⟨?_,qAa HB.out hcw⟩
 unfold mayB
 rw[h1];rfl
theorem mayHold_1(m:Mt)(u:Mv)(it:Sv)(g:Nat)(t:Tok)(s:Sv)(w:World)(h:Hid (MbB w g m u it))(ht:Hid (RI w s.v t.ws))(hl:t.ws.length≤1048576)(h1:tkB t.c t.r t.q t.a t.b t.ws=true)(h2:(t.c==m.rid)=false):
  Calls Tryz.prog 52 #[.pointer (some ⟨g,0,none⟩),.agg #[.int .i64 t.c,.int .i64 t.r,.int .i64 t.q,.int .i64 t.a,.int .i64 t.b,.slice s.a s.n s.c]] w fun e w'=>e=.returned (.bool (mayB m t))∧Below w.heap.size w w':=by
 have HT:=Ag (Bx.new w 30 [.int .i64 t.c,.int .i64 t.r,.int .i64 t.q,.int .i64 t.a,.int .i64 t.b,.slice s.a s.n s.c])
 have HG:Hid (Bx (w.alloc (.cells #[.int .i64 t.c,.int .i64 t.r,.int .i64 t.q,.int .i64 t.a,.int .i64 t.b,.slice s.a s.n s.c] 30)) g 96 [.slice u.its.a u.its.n u.its.c,.int .i64 m.id,.int .i64 m.rid,.slice u.ms.a u.ms.n u.ms.c,.slice it.a it.n it.c,.slice u.lv.a u.lv.n u.lv.c,.slice u.tx.a u.tx.n u.tx.c,.int .i64 m.rd,.int .i64 m.se,.int .i64 m.li,.int .i64 m.he,.int .i64 m.la.c,.int .i64 m.la.r,.int .i64 m.la.q,.int .i64 m.la.a,.int .i64 m.la.b,.slice u.ws.a u.ws.n u.ws.c]):=Bx.later h.out ((Below.refl _ _).alloc (Nat.le_refl _) _)
 have HB:=Ag (bA w (.cells #[.int .i64 t.c,.int .i64 t.r,.int .i64 t.q,.int .i64 t.a,.int .i64 t.b,.slice s.a s.n s.c] 30))
 have HR:=Ag (ht.out.stays HB.out)
 clear h ht
 go_enter Tryz.func52,Tryz.ntmps52
 go_wp2_with fail
 generalize (w.alloc (.cells #[.int .i64 t.c,.int .i64 t.r,.int .i64 t.q,.int .i64 t.a,.int .i64 t.b,.slice s.a s.n s.c] 30))=W at *
 refine qEk (C:=fun w'=>Below W.heap.size W w') (by kernel_rfl) (by kernel_rfl) (Below.refl _ _).drew ?_
 go_big_quiet_want
 refine qAh (.agg #[.int .i64 t.c,.int .i64 t.r,.int .i64 t.q,.int .i64 t.a,.int .i64 t.b,.slice s.a s.n s.c]) (fun w' hw'=>by have r0:w'.cell? ⟨w.heap.size,0,none⟩=some (.int .i64 t.c):=(HT.out.later hw').cell 0;have r1:w'.cell? ⟨w.heap.size,1,none⟩=some (.int .i64 t.r):=(HT.out.later hw').cell 1;have r2:w'.cell? ⟨w.heap.size,2,none⟩=some (.int .i64 t.q):=(HT.out.later hw').cell 2;have r3:w'.cell? ⟨w.heap.size,3,none⟩=some (.int .i64 t.a):=(HT.out.later hw').cell 3;have r4:w'.cell? ⟨w.heap.size,4,none⟩=some (.int .i64 t.b):=(HT.out.later hw').cell 4;have r5:w'.cell? ⟨w.heap.size,5,none⟩=some (.slice s.a s.n s.c):=(HT.out.later hw').cell 5;go_simp) ?_
 go_big_quiet_on
 simp only[Act.put,Ad,Ae,Af]
 go_big_quiet_want
 refine qFu (.bool true) 15 #[.agg #[.int .i64 t.c,.int .i64 t.r,.int .i64 t.q,.int .i64 t.a,.int .i64 t.b,.slice s.a s.n s.c]] (fun w' hw'=>by go_simp) (fun w' hw'=>(qEh t.c t.r t.q t.a t.b t.ws (show Hid (RI w' s.v t.ws)from HR.out.stays hw') hl).mono fun e w'' ⟨he,hb⟩=>⟨by rw[he,h1],hw'.trans (hb.mono hw'.size)⟩) ?_
 go_big_quiet_on
 simp only[Act.put,Ad,Ae,Af]
 go_big_quiet_want
 refine qAh (.bool true) (fun w' hw'=>by go_simp) ?_
 go_big_quiet_on
 simp only[Act.put,Ad,Ae,Af]
 go_big_quiet_want
 refine qAh (.pointer (some ⟨w.heap.size,0,none⟩)) (fun w' hw'=>by go_simp) ?_
 go_big_quiet_on
 simp only[Act.put,Ad,Ae,Af]
 go_big_quiet_want
 refine qAh (.int .i64 t.c) (fun w' hw'=>by have r0:w'.cell? ⟨w.heap.size,0,none⟩=some (.int .i64 t.c):=(HT.out.later hw').cell 0;go_simp) ?_
 go_big_quiet_on
 simp only[Act.put,Ad,Ae,Af]
 go_big_quiet_want
 refine qAh (.pointer (some ⟨g,0,none⟩)) (fun w' hw'=>by go_simp) ?_
 go_big_quiet_on
 simp only[Act.put,Ad,Ae,Af]
 go_big_quiet_want
 refine qAh (.pointer (some ⟨g,0,none⟩)) (fun w' hw'=>by go_simp) ?_
 go_big_quiet_on
 simp only[Act.put,Ad,Ae,Af]
 go_big_quiet_want
 refine qAh (.pointer (some ⟨g,1,none⟩)) (fun w' hw'=>by go_simp) ?_
 go_big_quiet_on
 simp only[Act.put,Ad,Ae,Af]
 go_big_quiet_want
 refine qAh (.pointer (some ⟨g,2,none⟩)) (fun w' hw'=>by go_simp) ?_
 go_big_quiet_on
 simp only[Act.put,Ad,Ae,Af]
 go_big_quiet_want
 refine qAh (.pointer (some ⟨g,2,none⟩)) (fun w' hw'=>by go_simp) ?_
 go_big_quiet_on
 simp only[Act.put,Ad,Ae,Af]
 go_big_quiet_want
 refine qAh (.int .i64 m.rid) (fun w' hw'=>by have r2:w'.cell? ⟨g,2,none⟩=some (.int .i64 m.rid):=(HG.out.later hw').cell 2;go_simp) ?_
 go_big_quiet_on
 simp only[Act.put,Ad,Ae,Af]
 go_big_quiet_want
 refine qAh (.bool false) (fun w' hw'=>by go_simp) ?_
 go_big_quiet_on
 simp only[Act.put,Ad,Ae,Af]
 go_big_quiet_want
 refine qAh (.bool false) (fun w' hw'=>by go_simp) ?_
 go_big_quiet_on
 simp only[Act.put,Ad,Ae,Af]
 go_big_quiet_want
 refine qAh (.bool false) (fun w' hw'=>by go_simp) ?_
 go_big_quiet_on
 simp only[Act.put,Ad,Ae,Af]
 go_big_quiet_skip
 go_big_quiet_skip
 go_big_quiet_skip
 go_big_quiet_skip
 go_big_quiet_skip
 go_big_quiet_skip
 go_big_quiet_skip
 go_big_quiet_skip
 go_big_quiet_skip
 go_big_quiet_want
 refine qAh (.bool false) (fun w' hw'=>by go_simp) ?_
 go_big_quiet_on
 simp only[Act.put,Ad,Ae,Af]
 go_big_quiet_want
 refine qAh (.bool false) (fun w' hw'=>by go_simp) ?_
 go_big_quiet_on
 simp only[Act.put,Ad,Ae,Af]
 refine wpQuiet_nil ?_
 intro w1 hcw
 go_wp2_with fail
 go_ret
 refine⟨?_,qAa HB.out hcw⟩
 unfold mayB
 rw[h1,show decide (t.c=m.rid)=false by simpa using h2];rfl
theorem mayHold_2(m:Mt)(u:Mv)(it:Sv)(g:Nat)(t:Tok)(s:Sv)(w:World)(h:Hid (MbB w g m u it))(ht:Hid (RI w s.v t.ws))(hl:t.ws.length≤1048576)(h1:tkB t.c t.r t.q t.a t.b t.ws=true)(h2:(t.c==m.rid)=true)(hw:IntKind.i64.wrap (m.rd+1)=m.rd+1):
  Calls Tryz.prog 52 #[.pointer (some ⟨g,0,none⟩),.agg #[.int .i64 t.c,.int .i64 t.r,.int .i64 t.q,.int .i64 t.a,.int .i64 t.b,.slice s.a s.n s.c]] w fun e w'=>e=.returned (.bool (mayB m t))∧Below w.heap.size w w':=by
 have HT:=Ag (Bx.new w 30 [.int .i64 t.c,.int .i64 t.r,.int .i64 t.q,.int .i64 t.a,.int .i64 t.b,.slice s.a s.n s.c])
 have HG:Hid (Bx (w.alloc (.cells #[.int .i64 t.c,.int .i64 t.r,.int .i64 t.q,.int .i64 t.a,.int .i64 t.b,.slice s.a s.n s.c] 30)) g 96 [.slice u.its.a u.its.n u.its.c,.int .i64 m.id,.int .i64 m.rid,.slice u.ms.a u.ms.n u.ms.c,.slice it.a it.n it.c,.slice u.lv.a u.lv.n u.lv.c,.slice u.tx.a u.tx.n u.tx.c,.int .i64 m.rd,.int .i64 m.se,.int .i64 m.li,.int .i64 m.he,.int .i64 m.la.c,.int .i64 m.la.r,.int .i64 m.la.q,.int .i64 m.la.a,.int .i64 m.la.b,.slice u.ws.a u.ws.n u.ws.c]):=Bx.later h.out ((Below.refl _ _).alloc (Nat.le_refl _) _)
 have HB:=Ag (bA w (.cells #[.int .i64 t.c,.int .i64 t.r,.int .i64 t.q,.int .i64 t.a,.int .i64 t.b,.slice s.a s.n s.c] 30))
 have HR:=Ag (ht.out.stays HB.out)
 clear h ht
 go_enter Tryz.func52,Tryz.ntmps52
 go_wp2_with fail
 generalize (w.alloc (.cells #[.int .i64 t.c,.int .i64 t.r,.int .i64 t.q,.int .i64 t.a,.int .i64 t.b,.slice s.a s.n s.c] 30))=W at *
 refine qEk (C:=fun w'=>Below W.heap.size W w') (by kernel_rfl) (by kernel_rfl) (Below.refl _ _).drew ?_
 go_big_quiet_want
 refine qAh (.agg #[.int .i64 t.c,.int .i64 t.r,.int .i64 t.q,.int .i64 t.a,.int .i64 t.b,.slice s.a s.n s.c]) (fun w' hw'=>by have r0:w'.cell? ⟨w.heap.size,0,none⟩=some (.int .i64 t.c):=(HT.out.later hw').cell 0;have r1:w'.cell? ⟨w.heap.size,1,none⟩=some (.int .i64 t.r):=(HT.out.later hw').cell 1;have r2:w'.cell? ⟨w.heap.size,2,none⟩=some (.int .i64 t.q):=(HT.out.later hw').cell 2;have r3:w'.cell? ⟨w.heap.size,3,none⟩=some (.int .i64 t.a):=(HT.out.later hw').cell 3;have r4:w'.cell? ⟨w.heap.size,4,none⟩=some (.int .i64 t.b):=(HT.out.later hw').cell 4;have r5:w'.cell? ⟨w.heap.size,5,none⟩=some (.slice s.a s.n s.c):=(HT.out.later hw').cell 5;go_simp) ?_
 go_big_quiet_on
 simp only[Act.put,Ad,Ae,Af]
 go_big_quiet_want
 refine qFu (.bool true) 15 #[.agg #[.int .i64 t.c,.int .i64 t.r,.int .i64 t.q,.int .i64 t.a,.int .i64 t.b,.slice s.a s.n s.c]] (fun w' hw'=>by go_simp) (fun w' hw'=>(qEh t.c t.r t.q t.a t.b t.ws (show Hid (RI w' s.v t.ws)from HR.out.stays hw') hl).mono fun e w'' ⟨he,hb⟩=>⟨by rw[he,h1],hw'.trans (hb.mono hw'.size)⟩) ?_
 go_big_quiet_on
 simp only[Act.put,Ad,Ae,Af]
 go_big_quiet_want
 refine qAh (.bool true) (fun w' hw'=>by go_simp) ?_
 go_big_quiet_on
 simp only[Act.put,Ad,Ae,Af]
 go_big_quiet_want
 refine qAh (.pointer (some ⟨w.heap.size,0,none⟩)) (fun w' hw'=>by go_simp) ?_
 go_big_quiet_on
 simp only[Act.put,Ad,Ae,Af]
 go_big_quiet_want
 refine qAh (.int .i64 t.c) (fun w' hw'=>by have r0:w'.cell? ⟨w.heap.size,0,none⟩=some (.int .i64 t.c):=(HT.out.later hw').cell 0;go_simp) ?_
 go_big_quiet_on
 simp only[Act.put,Ad,Ae,Af]
 go_big_quiet_want
 refine qAh (.pointer (some ⟨g,0,none⟩)) (fun w' hw'=>by go_simp) ?_
 go_big_quiet_on
 simp only[Act.put,Ad,Ae,Af]
 go_big_quiet_want
 refine qAh (.pointer (some ⟨g,0,none⟩)) (fun w' hw'=>by go_simp) ?_
 go_big_quiet_on
 simp only[Act.put,Ad,Ae,Af]
 go_big_quiet_want
 refine qAh (.pointer (some ⟨g,1,none⟩)) (fun w' hw'=>by go_simp) ?_
 go_big_quiet_on
 simp only[Act.put,Ad,Ae,Af]
 go_big_quiet_want
 refine qAh (.pointer (some ⟨g,2,none⟩)) (fun w' hw'=>by go_simp) ?_
 go_big_quiet_on
 simp only[Act.put,Ad,Ae,Af]
 go_big_quiet_want
 refine qAh (.pointer (some ⟨g,2,none⟩)) (fun w' hw'=>by go_simp) ?_
 go_big_quiet_on
 simp only[Act.put,Ad,Ae,Af]
 go_big_quiet_want
 refine qAh (.int .i64 m.rid) (fun w' hw'=>by have r2:w'.cell? ⟨g,2,none⟩=some (.int .i64 m.rid):=(HG.out.later hw').cell 2;go_simp) ?_
 go_big_quiet_on
 simp only[Act.put,Ad,Ae,Af]
 go_big_quiet_want
 refine qAh (.bool true) (fun w' hw'=>by go_simp) ?_
 go_big_quiet_on
 simp only[Act.put,Ad,Ae,Af]
 go_big_quiet_want
 refine qAh (.bool true) (fun w' hw'=>by go_simp) ?_
 go_big_quiet_on
 simp only[Act.put,Ad,Ae,Af]
 go_big_quiet_want
 refine qAh (.bool true) (fun w' hw'=>by go_simp) ?_
 go_big_quiet_on
 simp only[Act.put,Ad,Ae,Af]
 go_big_quiet_want
 refine qAh (.pointer (some ⟨w.heap.size,1,none⟩)) (fun w' hw'=>by go_simp) ?_
 go_big_quiet_on
 simp only[Act.put,Ad,Ae,Af]
 go_big_quiet_want
 refine qAh (.int .i64 t.r) (fun w' hw'=>by have r1:w'.cell? ⟨w.heap.size,1,none⟩=some (.int .i64 t.r):=(HT.out.later hw').cell 1;go_simp) ?_
 go_big_quiet_on
 simp only[Act.put,Ad,Ae,Af]
 go_big_quiet_want
 refine qAh (.pointer (some ⟨g,0,none⟩)) (fun w' hw'=>by go_simp) ?_
 go_big_quiet_on
 simp only[Act.put,Ad,Ae,Af]
 go_big_quiet_want
 refine qAh (.pointer (some ⟨g,0,none⟩)) (fun w' hw'=>by go_simp) ?_
 go_big_quiet_on
 simp only[Act.put,Ad,Ae,Af]
 go_big_quiet_want
 refine qAh (.pointer (some ⟨g,1,none⟩)) (fun w' hw'=>by go_simp) ?_
 go_big_quiet_on
 simp only[Act.put,Ad,Ae,Af]
 go_big_quiet_want
 refine qAh (.pointer (some ⟨g,7,none⟩)) (fun w' hw'=>by go_simp) ?_
 go_big_quiet_on
 simp only[Act.put,Ad,Ae,Af]
 go_big_quiet_want
 refine qAh (.int .i64 m.rd) (fun w' hw'=>by have r7:w'.cell? ⟨g,7,none⟩=some (.int .i64 m.rd):=(HG.out.later hw').cell 7;go_simp) ?_
 go_big_quiet_on
 simp only[Act.put,Ad,Ae,Af]
 go_big_quiet_want
 refine qAh (.int .i64 (m.rd+1)) (fun w' hw'=>by go_simp) ?_
 go_big_quiet_on
 simp only[Act.put,Ad,Ae,Af]
 go_big_quiet_want
 refine qFu (.bool (decide (m.rd+1≤t.r∧t.r≤999999999))) 74 #[.int .i64 t.r,.int .i64 (m.rd+1),.int .i64 999999999] (fun w' hw'=>by go_simp) (fun w' hw'=>(qFz _ _ _ _).mono fun e w'' ⟨he,hb⟩=>⟨he,by rw[hb];exact hw'⟩) ?_
 go_big_quiet_on
 simp only[Act.put,Ad,Ae,Af]
 go_big_quiet_want
 refine qAh (.bool (decide (m.rd+1≤t.r∧t.r≤999999999))) (fun w' hw'=>by go_simp) ?_
 go_big_quiet_on
 simp only[Act.put,Ad,Ae,Af]
 go_big_quiet_want
 refine qAh (.bool (decide (m.rd+1≤t.r∧t.r≤999999999))) (fun w' hw'=>by go_simp) ?_
 go_big_quiet_on
 simp only[Act.put,Ad,Ae,Af]
 refine wpQuiet_nil ?_
 intro w1 hcw
 go_wp2_with fail
 go_ret
 refine⟨?_,qAa HB.out hcw⟩
 unfold mayB
 rw[h1,show decide (t.c=m.rid)=true by simpa using h2];simp
theorem qHn(m:Mt)(u:Mv)(it:Sv)(g:Nat)(t:Tok)(s:Sv)(w:World)(h:Hid (MbB w g m u it))(ht:Hid (RI w s.v t.ws))(hl:t.ws.length≤1048576)(hr:0≤m.rd∧m.rd≤1000000000):
  Calls Tryz.prog 52 #[.pointer (some ⟨g,0,none⟩),.agg #[.int .i64 t.c,.int .i64 t.r,.int .i64 t.q,.int .i64 t.a,.int .i64 t.b,.slice s.a s.n s.c]] w fun e w'=>e=.returned (.bool (mayB m t))∧Below w.heap.size w w':=by
 cases h1:tkB t.c t.r t.q t.a t.b t.ws with
 |false=>exact mayHold_0 m u it g t s w h ht hl h1
 |true=>
  cases h2:t.c==m.rid with
  |false=>exact mayHold_1 m u it g t s w h ht hl h1 h2
  |true=>exact mayHold_2 m u it g t s w h ht hl h1 h2 (by rw[IntKind.wrap_i64];omega)
def qDj(se aru a:Int):Int:=if aru<if a<se then a else se then aru else if a<se then a else se
def qBs(li se aru a:Int):Int:=if li<qDj se aru a then qDj se aru a else li
def Mt.setL(m:Mt)(li se:Int):Mt:=⟨m.id,m.rid,m.ms,m.its,m.lv,m.tx,m.rd,se,li,m.he,m.la⟩
theorem drawLine_any(m:Mt)(u:Mv)(it:Sv)(g B:Nat)(a:Int)(w:World)(h:Hid (MbB w g m u it))(ho:Hid (SlI w B u.its.v m.its))(hl:m.its.length≤1048576):
  Calls Tryz.prog 56 #[.pointer (some ⟨g,0,none⟩),.int .i64 a] w fun e w'=>e=.returned (.tuple #[])∧MbB w' g (m.setL (qBs m.li m.se (aruP m.its) a) a) u it∧KeepBut g w w':=by
 have cl:=Ag (Bx.later h.out (Below.refl _ _).drew)
 have zg:g<w.heap.size:=Bx.lt h.out
 go_enter Tryz.func56,Tryz.ntmps56
 go_wp2_with fail
 refine qAj (S:=fun w'=>Bx w' g 96 [.slice u.its.a u.its.n u.its.c,.int .i64 m.id,.int .i64 m.rid,.slice u.ms.a u.ms.n u.ms.c,.slice it.a it.n it.c,.slice u.lv.a u.lv.n u.lv.c,.slice u.tx.a u.tx.n u.tx.c,.int .i64 m.rd,.int .i64 m.se,.int .i64 m.li,.int .i64 m.he,.int .i64 m.la.c,.int .i64 m.la.r,.int .i64 m.la.q,.int .i64 m.la.a,.int .i64 m.la.b,.slice u.ws.a u.ws.n u.ws.c]) _ (by simp) (by kernel_rfl) (by rfl) (by rfl) (by kernel_rfl) (by kernel_rfl) cl.out (fun Ah=>?_)
 simp only[List.dropLast_cons_cons,List.dropLast_singleton,List.getLast_cons_cons,List.getLast_singleton,List.cons_append,List.nil_append,List.length_cons,List.length_nil]
 refine tkQ 0 rfl (by kernel_rfl) (by rfl) (fun _ _=>by simp only[Aa,Ab,Ac];go_simp;try with_reducible rfl) Ah ?_ fun _ _ _ h=>h
 try simp only[Act.put,Aa,Ab,Ac,Ad,Ae,Af]
 refine tkQ 1 rfl (by kernel_rfl) (by rfl) (fun _ _=>by simp only[Aa,Ab,Ac];go_simp;try with_reducible rfl) Ah ?_ fun _ _ _ h=>h
 try simp only[Act.put,Aa,Ab,Ac,Ad,Ae,Af]
 refine tkQ 2 rfl (by kernel_rfl) (by rfl) (fun _ _=>by simp only[Aa,Ab,Ac];go_simp;try with_reducible rfl) Ah ?_ fun _ _ _ h=>h
 try simp only[Act.put,Aa,Ab,Ac,Ad,Ae,Af]
 refine tkQ 3 rfl (by kernel_rfl) (by rfl) (fun _ _=>by simp only[Aa,Ab,Ac];go_simp;try with_reducible rfl) Ah ?_ fun _ _ _ h=>h
 try simp only[Act.put,Aa,Ab,Ac,Ad,Ae,Af]
 refine tkQ 4 rfl (by kernel_rfl) (by rfl) (fun _ _=>by simp only[Aa,Ab,Ac];go_simp;try with_reducible rfl) Ah ?_ fun _ _ _ h=>h
 try simp only[Act.put,Aa,Ab,Ac,Ad,Ae,Af]
 refine tkH (i:=5) (v:=_) rfl (by kernel_rfl) (fun _ _ _ h=>h) (qAf (by rfl) 3 _ rfl g 9 rfl 96 _ (fun w hS=>hS) (.int .i64 m.li) rfl _ Tryz.underlying3 rfl) Ah ?_
 try simp only[Act.put,Aa,Ab,Ac,Ad,Ae,Af]
 refine tkQ 6 rfl (by kernel_rfl) (by rfl) (fun _ _=>by simp only[Aa,Ab,Ac];go_simp;try with_reducible rfl) Ah ?_ fun _ _ _ h=>h
 try simp only[Act.put,Aa,Ab,Ac,Ad,Ae,Af]
 refine tkQ 7 rfl (by kernel_rfl) (by rfl) (fun _ _=>by simp only[Aa,Ab,Ac];go_simp;try with_reducible rfl) Ah ?_ fun _ _ _ h=>h
 try simp only[Act.put,Aa,Ab,Ac,Ad,Ae,Af]
 refine tkQ 8 rfl (by kernel_rfl) (by rfl) (fun _ _=>by simp only[Aa,Ab,Ac];go_simp;try with_reducible rfl) Ah ?_ fun _ _ _ h=>h
 try simp only[Act.put,Aa,Ab,Ac,Ad,Ae,Af]
 refine tkQ 9 rfl (by kernel_rfl) (by rfl) (fun _ _=>by simp only[Aa,Ab,Ac];go_simp;try with_reducible rfl) Ah ?_ fun _ _ _ h=>h
 try simp only[Act.put,Aa,Ab,Ac,Ad,Ae,Af]
 refine tkH (i:=10) (v:=_) rfl (by kernel_rfl) (fun _ _ _ h=>h) (qAf (by rfl) 3 _ rfl g 8 rfl 96 _ (fun w hS=>hS) (.int .i64 m.se) rfl _ Tryz.underlying3 rfl) Ah ?_
 try simp only[Act.put,Aa,Ab,Ac,Ad,Ae,Af]
 refine tkQ 11 rfl (by kernel_rfl) (by rfl) (fun _ _=>by simp only[Aa,Ab,Ac];go_simp;try with_reducible rfl) Ah ?_ fun _ _ _ h=>h
 try simp only[Act.put,Aa,Ab,Ac,Ad,Ae,Af]
 refine tkQ 12 rfl (by kernel_rfl) (by rfl) (fun _ _=>by simp only[Aa,Ab,Ac];go_simp;try with_reducible rfl) Ah ?_ fun _ _ _ h=>h
 try simp only[Act.put,Aa,Ab,Ac,Ad,Ae,Af]
 refine tkQ 13 rfl (by kernel_rfl) (by rfl) (fun _ _=>by simp only[Aa,Ab,Ac];go_simp;try with_reducible rfl) Ah ?_ fun _ _ _ h=>h
 try simp only[Act.put,Aa,Ab,Ac,Ad,Ae,Af]
 refine tkQ 14 rfl (by kernel_rfl) (by rfl) (fun _ _=>by simp only[Aa,Ab,Ac];go_simp;try with_reducible rfl) Ah ?_ fun _ _ _ h=>h
 try simp only[Act.put,Aa,Ab,Ac,Ad,Ae,Af]
 refine tkH (i:=15) (v:=_) rfl (by kernel_rfl) (fun _ _ _ h=>h) (qAf (by rfl) 94 _ rfl g 0 rfl 96 _ (fun w hS=>hS) (.slice u.its.a u.its.n u.its.c) rfl _ Tryz.underlying94 rfl) Ah ?_
 try simp only[Act.put,Aa,Ab,Ac,Ad,Ae,Af]
 refine wpAnyH_ready (rs:=[16]) (by kernel_rfl) (by simp) ?_
 refine AllReadyH.cons (i:=16) rfl (fun K hK=>?_) AllReadyH.nil
 rw[if_pos (by rfl)]
 simp only[Aa,Ab,Ac]
 go_simp
 have hI:=Ag ((ho.out.below (Below.refl _ _).drew).rit)
 refine(aru_r m.its hI hl).mono ?_
 rintro e w1 ⟨rfl,b1⟩
 have c1:Below w.heap.size w w1:=(Below.refl w.heap.size w).drew.trans b1
 have HG:=Ag (Bx.later h.out c1)
 refine hK.out _ _ (HG.out) (fun Ah=>?_)
 clear hK K
 try simp only[Act.put,Aa,Ab,Ac,Ad,Ae,Af]
 clear b1 hI
 refine wpAnyH_ready (rs:=[17]) (by kernel_rfl) (by simp) ?_
 refine AllReadyH.cons (i:=17) rfl (fun K hK=>?_) AllReadyH.nil
 rw[if_pos (by rfl)]
 simp only[Aa,Ab,Ac]
 go_simp
 rw[show(if(aruP m.its:Int)<if a<m.se then a else m.se then(aruP m.its:Int)else if a<m.se then a else m.se)=qDj m.se (aruP m.its) a from rfl]
 refine hK.out _ _ (HG.out) (fun Ah=>?_)
 clear hK K
 try simp only[Act.put,Aa,Ab,Ac,Ad,Ae,Af]
 refine wpAnyH_ready (rs:=[18]) (by kernel_rfl) (by simp) ?_
 refine AllReadyH.cons (i:=18) rfl (fun K hK=>?_) AllReadyH.nil
 rw[if_pos (by rfl)]
 simp only[Aa,Ab,Ac]
 go_simp
 rw[show(if m.li<qDj m.se (aruP m.its) a then qDj m.se (aruP m.its) a else m.li)=qBs m.li m.se (aruP m.its) a from rfl]
 obtain⟨L,hL⟩: ∃L,qBs m.li m.se (aruP m.its) a=L:=⟨_,rfl⟩
 rw[hL]
 have HL:Hid (qBs m.li m.se (aruP m.its) a=L):=hL
 clear hL
 refine hK.out _ _ (HG.out) (fun Ah=>?_)
 clear hK K
 try simp only[Act.put,Aa,Ab,Ac,Ad,Ae,Af]
 refine tkQ 19 rfl (by kernel_rfl) (by rfl) (fun _ _=>by simp only[Aa,Ab,Ac];go_simp;try with_reducible rfl) Ah ?_ fun _ _ _ h=>h
 try simp only[Act.put,Aa,Ab,Ac,Ad,Ae,Af]
 refine tkQ 20 rfl (by kernel_rfl) (by rfl) (fun _ _=>by simp only[Aa,Ab,Ac];go_simp;try with_reducible rfl) Ah ?_ fun _ _ _ h=>h
 try simp only[Act.put,Aa,Ab,Ac,Ad,Ae,Af]
 refine tkQ 21 rfl (by kernel_rfl) (by rfl) (fun _ _=>by simp only[Aa,Ab,Ac];go_simp;try with_reducible rfl) Ah ?_ fun _ _ _ h=>h
 try simp only[Act.put,Aa,Ab,Ac,Ad,Ae,Af]
 refine tkQ 22 rfl (by kernel_rfl) (by rfl) (fun _ _=>by simp only[Aa,Ab,Ac];go_simp;try with_reducible rfl) Ah ?_ fun _ _ _ h=>h
 try simp only[Act.put,Aa,Ab,Ac,Ad,Ae,Af]
 refine wpAnyH_done (by kernel_rfl) ?_ _
 refine qBj rfl rfl ?_
 refine qCy 3 _ _ rfl g 9 rfl 96 _ HG.out (.int .i64 L) rfl (by simp) rfl Tryz.sizeN3 [.slice u.its.a u.its.n u.its.c,.int .i64 m.id,.int .i64 m.rid,.slice u.ms.a u.ms.n u.ms.c,.slice it.a it.n it.c,.slice u.lv.a u.lv.n u.lv.c,.slice u.tx.a u.tx.n u.tx.c,.int .i64 m.rd,.int .i64 m.se,.int .i64 L,.int .i64 m.he,.int .i64 m.la.c,.int .i64 m.la.r,.int .i64 m.la.q,.int .i64 m.la.a,.int .i64 m.la.b,.slice u.ws.a u.ws.n u.ws.c] rfl ?_
 intro w2 OB TB
 have HG2:=Ag OB
 have HK:Hid (KeepBut g w w2):=(qAc c1).trans ⟨TB.os,TB.tape,TB.output,Nat.le_of_eq TB.size.symm,fun i _ hn=>TB.block i hn⟩
 clear OB TB Ah c1 HG cl
 go_wp2_with (first|(refine qAe rfl 3 _ _ rfl g 8 rfl 96 _ HG2.out (.int .i64 a) rfl (by simp) rfl Tryz.sizeN3 [.slice u.its.a u.its.n u.its.c,.int .i64 m.id,.int .i64 m.rid,.slice u.ms.a u.ms.n u.ms.c,.slice it.a it.n it.c,.slice u.lv.a u.lv.n u.lv.c,.slice u.tx.a u.tx.n u.tx.c,.int .i64 m.rd,.int .i64 a,.int .i64 L,.int .i64 m.he,.int .i64 m.la.c,.int .i64 m.la.r,.int .i64 m.la.q,.int .i64 m.la.a,.int .i64 m.la.b,.slice u.ws.a u.ws.n u.ws.c] rfl ?_;intro w3 OB TB))
 refine bodyPost_end (results_none rfl _ _ _) rfl ?_
 rw[HL.out]
 exact⟨rfl,OB,HK.out.trans ⟨TB.os,TB.tape,TB.output,Nat.le_of_eq TB.size.symm,fun i _ hn=>TB.block i hn⟩⟩
theorem numGo_at{f:Int}{lv:List Int}: ∀(ts:List ByteArray) (q:Int) (k j:Nat) (h:j<(qBx f lv q k ts).length),∃h2:j<ts.length,(qBx f lv q k ts)[j]=(q+(j:Int)+1,f,lvP lv (k+j),ts[j])
 | [],q,k,j,h=>by simp[qBx]at h
 |t::ts,q,k,j,h=>by
  by_cases hs:k<3∧q<60∧t.size≤60
  ·have e:=qDu (f:=f) (lv:=lv) (ts:=ts) hs
   cases j with
   |zero=>
    refine⟨by simp,?_⟩
    simp[e]
   |succ j=>
    have hj:j<(qBx f lv (q+1) (k+1) ts).length:=by rw[e]at h;simpa using h
    obtain⟨h2,h3⟩:=numGo_at ts (q+1) (k+1) j hj
    refine⟨by simp;omega,?_⟩
    simp only[e,Ac,h3]
    rw[show q+1+(j:Int)+1=q+((j+1:Nat):Int)+1 by omega,show k+1+j=k+(j+1) by omega]
  ·exfalso
   rw[qBx,if_neg hs]at h
   simp at h
theorem numGo_q{f:Int}{lv:List Int}: ∀(ts:List ByteArray) (q:Int) (k:Nat),q≤60→q+((qBx f lv q k ts).length:Int)≤60
 | [],q,k,h=>by simp[qBx];omega
 |t::ts,q,k,h=>by
  by_cases hs:k<3∧q<60∧t.size≤60
  ·rw[qDu hs]
   have:=numGo_q (f:=f) (lv:=lv) ts (q+1) (k+1) (by omega)
   simp only[List.length_cons]
   omega
  ·rw[qBx,if_neg hs];simp;omega
theorem wGo_up: ∀(ws:List Int) (l q q2:Int),wGo l q ws=true→q≤q2→wGo l q2 ws=true:=by
 intro ws
 induction ws with
 |nil=>intro _ _ _ _ _;rfl
 |cons x xs ih=>
  intro l q q2 h hq
  by_cases hx:l<x∧x≤q
  ·rw[qCb hx.1 hx.2]at h
   rw[qCb hx.1 (by omega)]
   exact ih x q q2 h hq
  ·rw[qHb (by omega)]at h;cases h
theorem num_right{c r q a b:Int}{ws:List Int}{f:Int}{lv:List Int}{tx:List ByteArray}(h:tkB c r q a b ws=true):tkB c r (numQ c r q a b ws f lv tx) (numA c r q a b ws f lv tx) b ws=true:=by
 have hlen:0≤((numL c r q a b ws f lv tx).length:Int):=by omega
 have hq60:numQ c r q a b ws f lv tx≤60:=by
  unfold numQ numL
  split
  ·exact numGo_q tx q 0 (tkB_q h).2
  ·simp;exact(tkB_q h).2
 have hqq:q≤numQ c r q a b ws f lv tx:=by unfold numQ;omega
 have hA:numA c r q a b ws f lv tx=a∨numA c r q a b ws f lv tx=numQ c r q a b ws f lv tx:=by
  unfold numA
  split
  ·split
   ·exact .inr rfl
   ·exact .inl rfl
  ·exact .inl rfl
 generalize numQ c r q a b ws f lv tx=Q at *
 generalize numA c r q a b ws f lv tx=A at *
 unfold tkB wB at *
 simp only[Bool.and_eq_true,decide_eq_true_eq]at *
 obtain⟨h1,h2,h3,h4,h5,h6,h7⟩:=h
 exact⟨h1,h2,⟨by omega,hq60⟩,⟨by omega,by omega⟩,h5,h6,wGo_up ws 0 q Q h7 hqq⟩
theorem numL_bad{c r q a b:Int}{ws:List Int}{f:Int}{lv:List Int}{tx:List ByteArray}(h:tkB c r q a b ws=false):numL c r q a b ws f lv tx=[]:=by
 unfold numL qEw
 rw[h]
 rfl
theorem qKr{c r q a b:Int}{ws:List Int}{f:Int}{lv:List Int}{tx:List ByteArray}{j:Nat}(h:j<(numL c r q a b ws f lv tx).length): ∃h2:j<tx.length,(numL c r q a b ws f lv tx)[j]=(q+(j:Int)+1,f,lvP lv j,tx[j]):=by
 have e:numL c r q a b ws f lv tx=qBx f lv q 0 tx:=by
  unfold numL at *
  split at h
  ·rename_i h1;rw[if_pos h1]
  ·simp at h
 obtain⟨h2,h3⟩:=numGo_at (f:=f) (lv:=lv) tx q 0 j (by rw[←e];exact h)
 refine⟨h2,?_⟩
 simp only[e,h3,Nat.zero_add]
end Go.Proofs.YthdjkkiegecgnaaGreat
