/- Joined texts: CNx CPok CWga CWdo CShn CWcy CWdf. -/
import Derived.Test.YthdjkkiegecgnaaGreatCq22
import Derived.Test.YthdjkkiegecgnaaGreatCq15
import Derived.Test.YthdjkkiegecgnaaGreatCq13
import Derived.Test.YthdjkkiegecgnaaGreatCq16
import Derived.Test.YthdjkkiegecgnaaGreatCq23
import Derived.Test.YthdjkkiegecgnaaGreatCq1
set_option maxRecDepth 100000
set_option maxHeartbeats 16000000
namespace Go.Proofs.YthdjkkiegecgnaaGreat
open Go.RowKit Pl
set_option linter.unusedSimpArgs false
set_option linter.unusedVariables false
def NxPost (k:Wv) (w0:World) (B g n cap:Nat) (ao:Option Addr) (w:World) (e:Ending) (w':World):Prop:=
 ∃(kd d at0 l:Int) (x:ByteArray),e=.returned (.agg #[.int .i64 kd,.int .i64 d,.int .i64 at0,.int .i64 l,.string x])∧(1≤kd∧kd≤7)∧d∈k.ms∧0≤at0∧uttB kd l x=true∧x.size≤13∧Hid (Drw w0 w' B g ao n cap)∧KeepBut g w w'
theorem utt_nil {k:Int} (h: ¬k=1):uttB k 0 ⟨#[]⟩=true:=by
 unfold uttB
 rw[if_neg h,show(ByteArray.toList ⟨#[]⟩).isEmpty=true by unfold ByteArray.toList;unfold ByteArray.toList.loop;rfl]
 rfl
theorem Tryz.sizeTn:(Tryz.prog.info? 64).map (·.size)=some 5:=by kernel_rfl
theorem elNext_any (w0 w:World) (B g n cap gw:Nat) (ao:Option Addr) (k:Wv) (hn:n≤1048576) (hB:B≤g) (hd:Hid (Drw w0 w B g ao n cap)) (h:Hid (WkB w gw k)) (hk:Hid (WkP w k)) (h0:0<k.ms.length) (h5:k.ms.length≤5) (hfl:k.fl.length≤1000000):
  Calls Tryz.prog 146 #[.pointer (some ⟨g,0,none⟩),.pointer (some ⟨gw,0,none⟩)] w (NxPost k w0 B g n cap ao w):=by
 have zg:=hd.out.lt
 have zgw:gw<w.heap.size:=Bx.lt h.out
 have hne:gw≠g:=hd.out.ne h.out (by decide)
 have b0:=bA w (.cells #[.int .i64 0,.int .i64 0,.int .i64 0,.int .i64 0,.string ⟨#[]⟩] 64)
 have RB:=hid (Bx.new w 64 [.int .i64 0,.int .i64 0,.int .i64 0,.int .i64 0,.string ⟨#[]⟩])
 have WB0:=hid (h.out.later b0)
 have P0:=hid (hk.out.below b0)
 have D0:Hid (Drw w (w.alloc (.cells #[.int .i64 0,.int .i64 0,.int .i64 0,.int .i64 0,.string ⟨#[]⟩] 64)) B g ao n cap):=(hd.out.here).out.alloc hB _
 obtain⟨mb,mo,ha,hmn,hat⟩:=ownI_atC P0.out.ring h0
 have WB:Hid (Bx (w.alloc (.cells #[.int .i64 0,.int .i64 0,.int .i64 0,.int .i64 0,.string ⟨#[]⟩] 64)) gw 56 [.int .i64 k.rid,.slice (some ⟨mb,mo,none⟩) k.mv.n k.mv.c,.slice k.mav.a k.mav.n k.mav.c,.slice k.flv.a k.flv.n k.flv.c,.slice k.hev.a k.hev.n k.hev.c,.slice k.sav.a k.sav.n k.sav.c]):=(by have e:=WB0.out;unfold WkB at e;rw[ha]at e;exact e:Bx _ _ _ _)
 have hmb:mb≠g:=by
  obtain⟨cs,hcs⟩:=cur_bx D0.out.1
  intro e
  exact bx_i_ne P0.out.ring hcs (by decide) (by rw[e]at ha;simp[Sv.v,Value.ownBlock,ha])
 have hmb0:=(hat 0 h0).1
 have HAT:Hid (∀(j:Nat) (hj:j<k.ms.length),(w.alloc (.cells #[.int .i64 0,.int .i64 0,.int .i64 0,.int .i64 0,.string ⟨#[]⟩] 64)).cell? ⟨mb,mo+j,none⟩=some (.int .i64 k.ms[j])):=fun j hj=>(hat j hj).2
 have HMN:Hid (k.mv.n=k.ms.length):=hmn
 have hm0:0<k.mv.n:=by omega
 have hm5:k.mv.n≤5:=by omega
 have HDD:Hid (Drw w0 w B g ao n cap):=hd
 clear hat ha hmn b0 hd h hk WB0
 go_enter Tryz.func146,Tryz.ntmps146
 go_wp2_with fail
 have zW:w.heap.size<(w.alloc (.cells #[.int .i64 0,.int .i64 0,.int .i64 0,.int .i64 0,.string ⟨#[]⟩] 64)).heap.size:=RB.out.lt
 generalize (w.alloc (.cells #[.int .i64 0,.int .i64 0,.int .i64 0,.int .i64 0,.string ⟨#[]⟩] 64))=W at *
 go_cut [5] (fun a5 wx=>∃(gx:Nat) (kd d at0:Int),a5=.pointer (some ⟨gx,0,none⟩)∧(1≤kd∧kd≤7)∧d∈k.ms∧0≤at0∧Bx wx gx 64 [.int .i64 kd,.int .i64 d,.int .i64 at0,.int .i64 0,.string ⟨#[]⟩]∧Drw W wx B g ao n cap∧W.heap.size≤gx)
 case first=>
  have zWg:g<W.heap.size:=by omega
  have D:Hid (Drw W W.drew B g ao n cap):=(D0.out.here).out.drew
  refine wp_region_held_drew (S:=fun w'=>KeepBut g W w') (by kernel_rfl) D.out.2.2 (fun hHeld=>?_)
  refine tkP (i:=0) rfl (by kernel_rfl) (fun _ _ _ h=>h) (by rfl) (fun w hSw=>by simp only[LgT,Lg0,LgS];go_simp;try with_reducible rfl) (by assumption) ?_
  try simp only[Act.put,LgT,Lg0,LgS,LsT,Ls0,LsS]
  refine tkP (i:=3) rfl (by kernel_rfl) (fun _ _ _ h=>h) (by rfl) (fun w hSw=>by simp only[LgT,Lg0,LgS];go_simp;try with_reducible rfl) (by assumption) ?_
  try simp only[Act.put,LgT,Lg0,LgS,LsT,Ls0,LsS]
  refine tkP (i:=4) rfl (by kernel_rfl) (fun _ _ _ h=>h) (by rfl) (fun w hSw=>by simp only[LgT,Lg0,LgS];go_simp;try with_reducible rfl) (by assumption) ?_
  try simp only[Act.put,LgT,Lg0,LgS,LsT,Ls0,LsS]
  refine tkP (i:=5) rfl (by kernel_rfl) (fun _ _ _ h=>h) (by rfl) (fun w hSw=>by simp only[LgT,Lg0,LgS];go_simp;try with_reducible rfl) (by assumption) ?_
  try simp only[Act.put,LgT,Lg0,LgS,LsT,Ls0,LsS]
  refine tkP (i:=6) rfl (by kernel_rfl) (fun _ _ _ h=>h) (by rfl) (fun w hSw=>by simp only[LgT,Lg0,LgS];go_simp;try with_reducible rfl) (by assumption) ?_
  try simp only[Act.put,LgT,Lg0,LgS,LsT,Ls0,LsS]
  refine tkH (i:=7) (v:=_) rfl (by kernel_rfl) (fun _ _ _ h=>h) (ld1_yield (by rfl) 24 _ rfl gw 1 rfl 56 _ (fun w hS=>WB.out.keepb hS hne) (.slice (some ⟨mb,mo,none⟩) k.mv.n k.mv.c) rfl _ Tryz.underlying24 rfl) (by assumption) ?_
  try simp only[Act.put,LgT,Lg0,LgS,LsT,Ls0,LsS]
  refine tkP (i:=8) rfl (by kernel_rfl) (fun _ _ _ h=>h) (by rfl) (fun w hSw=>by simp only[LgT,Lg0,LgS];go_simp;try with_reducible rfl) (by assumption) ?_
  try simp only[Act.put,LgT,Lg0,LgS,LsT,Ls0,LsS]
  refine tkP (i:=9) rfl (by kernel_rfl) (fun _ _ _ h=>h) (by rfl) (fun w hSw=>by simp only[LgT,Lg0,LgS];go_simp;try with_reducible rfl) (by assumption) ?_
  try simp only[Act.put,LgT,Lg0,LgS,LsT,Ls0,LsS]
  refine tkP (i:=10) rfl (by kernel_rfl) (fun _ _ _ h=>h) (by rfl) (fun w hSw=>by simp only[LgT,Lg0,LgS];go_simp;try with_reducible rfl) (by assumption) ?_
  try simp only[Act.put,LgT,Lg0,LgS,LsT,Ls0,LsS]
  refine tkP (i:=11) rfl (by kernel_rfl) (fun _ _ _ h=>h) (by rfl) (fun w hSw=>by simp only[LgT,Lg0,LgS];go_simp;try with_reducible rfl) (by assumption) ?_
  try simp only[Act.put,LgT,Lg0,LgS,LsT,Ls0,LsS]
  refine tkP (i:=12) rfl (by kernel_rfl) (fun _ _ _ h=>h) (by rfl) (fun w hSw=>by simp only[LgT,Lg0,LgS];go_simp;try with_reducible rfl) (by assumption) ?_
  try simp only[Act.put,LgT,Lg0,LgS,LsT,Ls0,LsS]
  refine tkH (i:=13) (v:=_) rfl (by kernel_rfl) (fun _ _ _ h=>h) (ld1_yield (by rfl) 24 _ rfl gw 1 rfl 56 _ (fun w hS=>WB.out.keepb hS hne) (.slice (some ⟨mb,mo,none⟩) k.mv.n k.mv.c) rfl _ Tryz.underlying24 rfl) (by assumption) ?_
  try simp only[Act.put,LgT,Lg0,LgS,LsT,Ls0,LsS]
  refine tkP (i:=14) rfl (by kernel_rfl) (fun _ _ _ h=>h) (by rfl) (fun w hSw=>by simp only[LgT,Lg0,LgS];go_simp;try with_reducible rfl) (by assumption) ?_
  try simp only[Act.put,LgT,Lg0,LgS,LsT,Ls0,LsS]
  refine tkP (i:=18) rfl (by kernel_rfl) (fun _ _ _ h=>h) (by rfl) (fun w hSw=>by simp only[LgT,Lg0,LgS];go_simp;try with_reducible rfl) (by assumption) ?_
  try simp only[Act.put,LgT,Lg0,LgS,LsT,Ls0,LsS]
  refine wpAnyH_ready (rs:=[1,21]) (by kernel_rfl) (by simp) ?_
  refine(AllReadyH.cons (i:=1) rfl (fun K hK=>?_) (AllReadyH.cons (i:=21) rfl (fun K hK=>?_) AllReadyH.nil))
  ·skip
   rw[if_pos (by rfl)]
   simp only[LgT,Lg0,LgS]
   go_simp
   have b:=bA W.drew (.cells #[.int .i64 1,.int .i64 1,.int .i64 1,.int .i64 2,.int .i64 2,.int .i64 2,.int .i64 2,.int .i64 2,.int .i64 2,.int .i64 3,.int .i64 3,.int .i64 4,.int .i64 5,.int .i64 6,.int .i64 7,.int .i64 7] 3)
   have R0:Hid (RowZ (fun z=>1≤z∧z≤7) (W.drew.alloc (.cells #[.int .i64 1,.int .i64 1,.int .i64 1,.int .i64 2,.int .i64 2,.int .i64 2,.int .i64 2,.int .i64 2,.int .i64 2,.int .i64 3,.int .i64 3,.int .i64 4,.int .i64 5,.int .i64 6,.int .i64 7,.int .i64 7] 3)) W.heap.size 16):=by have h:=rowZ_new (fun z=>1≤z∧z≤7) W.drew [1,1,1,2,2,2,2,2,2,3,3,4,5,6,7,7] 16 rfl (by decide);rw[show W.drew.heap.size=W.heap.size by simp]at h;exact h
   have hl0:W.heap.size<(W.drew.alloc (.cells #[.int .i64 1,.int .i64 1,.int .i64 1,.int .i64 2,.int .i64 2,.int .i64 2,.int .i64 2,.int .i64 2,.int .i64 2,.int .i64 3,.int .i64 3,.int .i64 4,.int .i64 5,.int .i64 6,.int .i64 7,.int .i64 7] 3)).heap.size:=by simp
   have hlg:W.heap.size≠g:=by have h:=D.out.2.2.size;rw[show W.drew.heap.size=W.heap.size by simp]at h;omega
   have D:Hid (Drw W (W.drew.alloc (.cells #[.int .i64 1,.int .i64 1,.int .i64 1,.int .i64 2,.int .i64 2,.int .i64 2,.int .i64 2,.int .i64 2,.int .i64 2,.int .i64 3,.int .i64 3,.int .i64 4,.int .i64 5,.int .i64 6,.int .i64 7,.int .i64 7] 3)) B g ao n cap):=D.out.alloc hB _
   refine hK.out _ _ (D.out.2.2) (fun hHeld=>?_)
   clear hK K
   try simp only[Act.put,LgT,Lg0,LgS,LsT,Ls0,LsS]
   clear b
   refine wpAnyH_ready (rs:=[2,21]) (by kernel_rfl) (by simp) ?_
   refine(AllReadyH.cons (i:=2) rfl (fun K hK=>?_) (AllReadyH.cons (i:=21) rfl (fun K hK=>?_) AllReadyH.nil))
   ·skip
    rw[if_pos (by rfl)]
    simp only[LgT,Lg0,LgS]
    go_simp
    have DH:=D.out.here
    have hl1:W.heap.size<(W.drew.alloc (.cells #[.int .i64 1,.int .i64 1,.int .i64 1,.int .i64 2,.int .i64 2,.int .i64 2,.int .i64 2,.int .i64 2,.int .i64 2,.int .i64 3,.int .i64 3,.int .i64 4,.int .i64 5,.int .i64 6,.int .i64 7,.int .i64 7] 3)).heap.size:=by have h:=hl0;simp at h⊢;try omega
    refine(pickZ_any (fun z=>1≤z∧z≤7) (W.drew.alloc (.cells #[.int .i64 1,.int .i64 1,.int .i64 1,.int .i64 2,.int .i64 2,.int .i64 2,.int .i64 2,.int .i64 2,.int .i64 2,.int .i64 3,.int .i64 3,.int .i64 4,.int .i64 5,.int .i64 6,.int .i64 7,.int .i64 7] 3)) _ B g n cap W.heap.size 16 ao hn hB (by omega) (by omega) hl1 hlg R0 DH).mono ?_
    rintro e y1 ⟨⟨kd,hkd,rfl⟩,DX⟩
    have D:=D.out.back DX.out
    refine hK.out _ _ (D.out.2.2) (fun hHeld=>?_)
    clear hK K
    try simp only[Act.put,LgT,Lg0,LgS,LsT,Ls0,LsS]
    clear DX DH
    clear R0 hl0 hl1 hlg
    refine wpAnyH_ready (rs:=[15,21]) (by kernel_rfl) (by simp) ?_
    refine(AllReadyH.cons (i:=15) rfl (fun K hK=>?_) (AllReadyH.cons (i:=21) rfl (fun K hK=>?_) AllReadyH.nil))
    ·skip
     rw[if_pos (by rfl)]
     simp only[LgT,Lg0,LgS]
     go_simp
     have DH:=D.out.here
     refine(below_small y1 _ B g n cap k.mv.n ao hn hB hm0 (by omega) DH).mono ?_
     rintro e y2 ⟨⟨x,hx,rfl⟩,DX⟩
     have i0:(0:Int)≤(x:Int):=by omega
     have i1:(x:Int)<(k.mv.n:Int):=by omega
     have hxl:x<k.ms.length:=by have:=HMN.out;omega
     obtain⟨d,hdx⟩: ∃d,k.ms[x]=d:=⟨_,rfl⟩
     have hdm:d∈k.ms:=hdx ▸ List.getElem_mem hxl
     have HCX:Hid (W.cell? ⟨mb,mo+x,none⟩=some (.int .i64 d)):=(by rw[←hdx];exact HAT.out x hxl:_=_)
     clear hdx
     have D:=D.out.back DX.out
     refine hK.out _ _ (D.out.2.2) (fun hHeld=>?_)
     clear hK K
     try simp only[Act.put,LgT,Lg0,LgS,LsT,Ls0,LsS]
     clear DX DH
     refine tkP (i:=16) rfl (by kernel_rfl) (fun _ _ _ h=>h) (by rfl) (fun w hSw=>by simp only[LgT,Lg0,LgS];go_simp;try with_reducible rfl) (by assumption) ?_
     try simp only[Act.put,LgT,Lg0,LgS,LsT,Ls0,LsS]
     refine tkH (i:=17) (v:=.int .i64 d) rfl (by kernel_rfl) (fun _ _ _ h=>h) (ldC_yield (by rfl) 3 _ rfl mb (mo+x) (by first|rfl|(simp;done)|go_simp) (.int .i64 d) (fun w hS=>cell_keep HCX.out hmb0 hS hmb) _ Tryz.underlying3 rfl) (by assumption) ?_
     try simp only[Act.put,LsT,Ls0,LsS]
     refine wpAnyH_ready (rs:=[19,21]) (by kernel_rfl) (by simp) ?_
     refine(AllReadyH.cons (i:=19) rfl (fun K hK=>?_) (AllReadyH.cons (i:=21) rfl (fun K hK=>?_) AllReadyH.nil))
     ·skip
      rw[if_pos (by rfl)]
      simp only[LgT,Lg0,LgS]
      go_simp
      have DH:=D.out.here
      refine(below_small y2 _ B g n cap 30 ao hn hB (by omega) (by omega) DH).mono ?_
      rintro e y3 ⟨⟨a0,ha0,rfl⟩,DX⟩
      have D:=D.out.back DX.out
      refine hK.out _ _ (D.out.2.2) (fun hHeld=>?_)
      clear hK K
      try simp only[Act.put,LgT,Lg0,LgS,LsT,Ls0,LsS]
      clear DX DH
      refine tkP (i:=20) rfl (by kernel_rfl) (fun _ _ _ h=>h) (by rfl) (fun w hSw=>by simp only[LgT,Lg0,LgS];go_simp;try with_reducible rfl) (by assumption) ?_
      try simp only[Act.put,LgT,Lg0,LgS,LsT,Ls0,LsS]
      refine wpAnyH_ready (rs:=[21]) (by kernel_rfl) (by simp) ?_
      refine AllReadyH.cons (i:=21) rfl (fun K hK=>?_) AllReadyH.nil
      rw[if_pos (by rfl)]
      simp only[LgT,Lg0,LgS]
      go_simp
      have b:=bA y3 (.cells #[.int .i64 0,.int .i64 0,.int .i64 0,.int .i64 0,.string ⟨#[]⟩] 64)
      have BO:=hid (bxAt y3 64 [.int .i64 0,.int .i64 0,.int .i64 0,.int .i64 0,.string ⟨#[]⟩] y3.heap.size (by simp))
      have zo:W.heap.size≤y3.heap.size:=by have h:=D.out.2.2.size;rw[show y3.heap.size=y3.heap.size by simp]at h;exact h
      have D:Hid (Drw W (y3.alloc (.cells #[.int .i64 0,.int .i64 0,.int .i64 0,.int .i64 0,.string ⟨#[]⟩] 64)) B g ao n cap):=D.out.alloc hB _
      refine hK.out _ _ (D.out.2.2) (fun hHeld=>?_)
      clear hK K
      try simp only[Act.put,LgT,Lg0,LgS,LsT,Ls0,LsS]
      clear b
      refine wpAnyH_ready (rs:=[22]) (by kernel_rfl) (by simp) ?_
      refine AllReadyH.cons (i:=22) rfl (fun K hK=>?_) AllReadyH.nil
      rw[if_pos (by rfl)]
      simp only[LgT,Lg0,LgS]
      refine wp_stW 64 _ _ rfl y3.heap.size (by rfl) 64 _ BO.out [.int .i64 kd,.int .i64 d,.int .i64 (a0:Int),.int .i64 0,.string ⟨#[]⟩] (by rfl) rfl Tryz.sizeTn rfl ?_
      intro x1 kb kt
      have D:=D.out.other (by omega) kt zo (by omega)
      have BO:=hid kb
      refine hK.out _ _ (D.out.2.2) (fun hHeld=>?_)
      clear hK K
      try simp only[Act.put,LgT,Lg0,LgS,LsT,Ls0,LsS]
      clear kb kt
      refine wpAnyH_done (by kernel_rfl) ?_ _
      try go_wp2_with fail
      go_meet
      exact⟨y3.heap.size,kd,d,(a0:Int),rfl,hkd,hdm,by omega,BO.out,D.out,zo⟩
     ·skip
      rw[if_pos (by rfl)]
      simp only[LgT,Lg0,LgS]
      go_simp
      have b:=bA y2 (.cells #[.int .i64 0,.int .i64 0,.int .i64 0,.int .i64 0,.string ⟨#[]⟩] 64)
      have BO:=hid (bxAt y2 64 [.int .i64 0,.int .i64 0,.int .i64 0,.int .i64 0,.string ⟨#[]⟩] y2.heap.size (by simp))
      have zo:W.heap.size≤y2.heap.size:=by have h:=D.out.2.2.size;rw[show y2.heap.size=y2.heap.size by simp]at h;exact h
      have D:Hid (Drw W (y2.alloc (.cells #[.int .i64 0,.int .i64 0,.int .i64 0,.int .i64 0,.string ⟨#[]⟩] 64)) B g ao n cap):=D.out.alloc hB _
      refine hK.out _ _ (D.out.2.2) (fun hHeld=>?_)
      clear hK K
      try simp only[Act.put,LgT,Lg0,LgS,LsT,Ls0,LsS]
      clear b
      refine wpAnyH_ready (rs:=[19]) (by kernel_rfl) (by simp) ?_
      refine AllReadyH.cons (i:=19) rfl (fun K hK=>?_) AllReadyH.nil
      rw[if_pos (by rfl)]
      simp only[LgT,Lg0,LgS]
      go_simp
      have DH:=D.out.here
      refine(below_small (y2.alloc (.cells #[.int .i64 0,.int .i64 0,.int .i64 0,.int .i64 0,.string ⟨#[]⟩] 64)) _ B g n cap 30 ao hn hB (by omega) (by omega) DH).mono ?_
      rintro e y3 ⟨⟨a0,ha0,rfl⟩,DX⟩
      have BO:=hid (BO.out.keepb DX.out.2.2 (by omega))
      have D:=D.out.back DX.out
      refine hK.out _ _ (D.out.2.2) (fun hHeld=>?_)
      clear hK K
      try simp only[Act.put,LgT,Lg0,LgS,LsT,Ls0,LsS]
      clear DX DH
      refine tkP (i:=20) rfl (by kernel_rfl) (fun _ _ _ h=>h) (by rfl) (fun w hSw=>by simp only[LgT,Lg0,LgS];go_simp;try with_reducible rfl) (by assumption) ?_
      try simp only[Act.put,LgT,Lg0,LgS,LsT,Ls0,LsS]
      refine wpAnyH_ready (rs:=[22]) (by kernel_rfl) (by simp) ?_
      refine AllReadyH.cons (i:=22) rfl (fun K hK=>?_) AllReadyH.nil
      rw[if_pos (by rfl)]
      simp only[LgT,Lg0,LgS]
      refine wp_stW 64 _ _ rfl y2.heap.size (by rfl) 64 _ BO.out [.int .i64 kd,.int .i64 d,.int .i64 (a0:Int),.int .i64 0,.string ⟨#[]⟩] (by rfl) rfl Tryz.sizeTn rfl ?_
      intro x1 kb kt
      have D:=D.out.other (by omega) kt zo (by omega)
      have BO:=hid kb
      refine hK.out _ _ (D.out.2.2) (fun hHeld=>?_)
      clear hK K
      try simp only[Act.put,LgT,Lg0,LgS,LsT,Ls0,LsS]
      clear kb kt
      refine wpAnyH_done (by kernel_rfl) ?_ _
      try go_wp2_with fail
      go_meet
      exact⟨y2.heap.size,kd,d,(a0:Int),rfl,hkd,hdm,by omega,BO.out,D.out,zo⟩
    ·skip
     rw[if_pos (by rfl)]
     simp only[LgT,Lg0,LgS]
     go_simp
     have b:=bA y1 (.cells #[.int .i64 0,.int .i64 0,.int .i64 0,.int .i64 0,.string ⟨#[]⟩] 64)
     have BO:=hid (bxAt y1 64 [.int .i64 0,.int .i64 0,.int .i64 0,.int .i64 0,.string ⟨#[]⟩] y1.heap.size (by simp))
     have zo:W.heap.size≤y1.heap.size:=by have h:=D.out.2.2.size;rw[show y1.heap.size=y1.heap.size by simp]at h;exact h
     have D:Hid (Drw W (y1.alloc (.cells #[.int .i64 0,.int .i64 0,.int .i64 0,.int .i64 0,.string ⟨#[]⟩] 64)) B g ao n cap):=D.out.alloc hB _
     refine hK.out _ _ (D.out.2.2) (fun hHeld=>?_)
     clear hK K
     try simp only[Act.put,LgT,Lg0,LgS,LsT,Ls0,LsS]
     clear b
     refine wpAnyH_ready (rs:=[15]) (by kernel_rfl) (by simp) ?_
     refine AllReadyH.cons (i:=15) rfl (fun K hK=>?_) AllReadyH.nil
     rw[if_pos (by rfl)]
     simp only[LgT,Lg0,LgS]
     go_simp
     have DH:=D.out.here
     refine(below_small (y1.alloc (.cells #[.int .i64 0,.int .i64 0,.int .i64 0,.int .i64 0,.string ⟨#[]⟩] 64)) _ B g n cap k.mv.n ao hn hB hm0 (by omega) DH).mono ?_
     rintro e y2 ⟨⟨x,hx,rfl⟩,DX⟩
     have i0:(0:Int)≤(x:Int):=by omega
     have i1:(x:Int)<(k.mv.n:Int):=by omega
     have hxl:x<k.ms.length:=by have:=HMN.out;omega
     obtain⟨d,hdx⟩: ∃d,k.ms[x]=d:=⟨_,rfl⟩
     have hdm:d∈k.ms:=hdx ▸ List.getElem_mem hxl
     have HCX:Hid (W.cell? ⟨mb,mo+x,none⟩=some (.int .i64 d)):=(by rw[←hdx];exact HAT.out x hxl:_=_)
     clear hdx
     have BO:=hid (BO.out.keepb DX.out.2.2 (by omega))
     have D:=D.out.back DX.out
     refine hK.out _ _ (D.out.2.2) (fun hHeld=>?_)
     clear hK K
     try simp only[Act.put,LgT,Lg0,LgS,LsT,Ls0,LsS]
     clear DX DH
     refine tkP (i:=16) rfl (by kernel_rfl) (fun _ _ _ h=>h) (by rfl) (fun w hSw=>by simp only[LgT,Lg0,LgS];go_simp;try with_reducible rfl) (by assumption) ?_
     try simp only[Act.put,LgT,Lg0,LgS,LsT,Ls0,LsS]
     refine tkH (i:=17) (v:=.int .i64 d) rfl (by kernel_rfl) (fun _ _ _ h=>h) (ldC_yield (by rfl) 3 _ rfl mb (mo+x) (by first|rfl|(simp;done)|go_simp) (.int .i64 d) (fun w hS=>cell_keep HCX.out hmb0 hS hmb) _ Tryz.underlying3 rfl) (by assumption) ?_
     try simp only[Act.put,LsT,Ls0,LsS]
     refine wpAnyH_ready (rs:=[19]) (by kernel_rfl) (by simp) ?_
     refine AllReadyH.cons (i:=19) rfl (fun K hK=>?_) AllReadyH.nil
     rw[if_pos (by rfl)]
     simp only[LgT,Lg0,LgS]
     go_simp
     have DH:=D.out.here
     refine(below_small y2 _ B g n cap 30 ao hn hB (by omega) (by omega) DH).mono ?_
     rintro e y3 ⟨⟨a0,ha0,rfl⟩,DX⟩
     have BO:=hid (BO.out.keepb DX.out.2.2 (by omega))
     have D:=D.out.back DX.out
     refine hK.out _ _ (D.out.2.2) (fun hHeld=>?_)
     clear hK K
     try simp only[Act.put,LgT,Lg0,LgS,LsT,Ls0,LsS]
     clear DX DH
     refine tkP (i:=20) rfl (by kernel_rfl) (fun _ _ _ h=>h) (by rfl) (fun w hSw=>by simp only[LgT,Lg0,LgS];go_simp;try with_reducible rfl) (by assumption) ?_
     try simp only[Act.put,LgT,Lg0,LgS,LsT,Ls0,LsS]
     refine wpAnyH_ready (rs:=[22]) (by kernel_rfl) (by simp) ?_
     refine AllReadyH.cons (i:=22) rfl (fun K hK=>?_) AllReadyH.nil
     rw[if_pos (by rfl)]
     simp only[LgT,Lg0,LgS]
     refine wp_stW 64 _ _ rfl y1.heap.size (by rfl) 64 _ BO.out [.int .i64 kd,.int .i64 d,.int .i64 (a0:Int),.int .i64 0,.string ⟨#[]⟩] (by rfl) rfl Tryz.sizeTn rfl ?_
     intro x1 kb kt
     have D:=D.out.other (by omega) kt zo (by omega)
     have BO:=hid kb
     refine hK.out _ _ (D.out.2.2) (fun hHeld=>?_)
     clear hK K
     try simp only[Act.put,LgT,Lg0,LgS,LsT,Ls0,LsS]
     clear kb kt
     refine wpAnyH_done (by kernel_rfl) ?_ _
     try go_wp2_with fail
     go_meet
     exact⟨y1.heap.size,kd,d,(a0:Int),rfl,hkd,hdm,by omega,BO.out,D.out,zo⟩
   ·skip
    rw[if_pos (by rfl)]
    simp only[LgT,Lg0,LgS]
    go_simp
    have b:Below (W.drew.alloc (.cells #[.int .i64 1,.int .i64 1,.int .i64 1,.int .i64 2,.int .i64 2,.int .i64 2,.int .i64 2,.int .i64 2,.int .i64 2,.int .i64 3,.int .i64 3,.int .i64 4,.int .i64 5,.int .i64 6,.int .i64 7,.int .i64 7] 3)).heap.size (W.drew.alloc (.cells #[.int .i64 1,.int .i64 1,.int .i64 1,.int .i64 2,.int .i64 2,.int .i64 2,.int .i64 2,.int .i64 2,.int .i64 2,.int .i64 3,.int .i64 3,.int .i64 4,.int .i64 5,.int .i64 6,.int .i64 7,.int .i64 7] 3)) ((W.drew.alloc (.cells #[.int .i64 1,.int .i64 1,.int .i64 1,.int .i64 2,.int .i64 2,.int .i64 2,.int .i64 2,.int .i64 2,.int .i64 2,.int .i64 3,.int .i64 3,.int .i64 4,.int .i64 5,.int .i64 6,.int .i64 7,.int .i64 7] 3)).alloc (.cells #[.int .i64 0,.int .i64 0,.int .i64 0,.int .i64 0,.string ⟨#[]⟩] 64)):=(Below.refl _ _).alloc (Nat.le_refl _) _
    have R0:=hid (R0.out.later (by first|exact hl0|(have h:=hl0;simp at h⊢;omega)|simp) b)
    have BO:=hid (bxAt (W.drew.alloc (.cells #[.int .i64 1,.int .i64 1,.int .i64 1,.int .i64 2,.int .i64 2,.int .i64 2,.int .i64 2,.int .i64 2,.int .i64 2,.int .i64 3,.int .i64 3,.int .i64 4,.int .i64 5,.int .i64 6,.int .i64 7,.int .i64 7] 3)) 64 [.int .i64 0,.int .i64 0,.int .i64 0,.int .i64 0,.string ⟨#[]⟩] (W.heap.size+1) (by simp))
    have zo:W.heap.size≤(W.heap.size+1):=by have h:=D.out.2.2.size;rw[show(W.drew.alloc (.cells #[.int .i64 1,.int .i64 1,.int .i64 1,.int .i64 2,.int .i64 2,.int .i64 2,.int .i64 2,.int .i64 2,.int .i64 2,.int .i64 3,.int .i64 3,.int .i64 4,.int .i64 5,.int .i64 6,.int .i64 7,.int .i64 7] 3)).heap.size=(W.heap.size+1) by simp]at h;exact h
    have D:Hid (Drw W ((W.drew.alloc (.cells #[.int .i64 1,.int .i64 1,.int .i64 1,.int .i64 2,.int .i64 2,.int .i64 2,.int .i64 2,.int .i64 2,.int .i64 2,.int .i64 3,.int .i64 3,.int .i64 4,.int .i64 5,.int .i64 6,.int .i64 7,.int .i64 7] 3)).alloc (.cells #[.int .i64 0,.int .i64 0,.int .i64 0,.int .i64 0,.string ⟨#[]⟩] 64)) B g ao n cap):=D.out.alloc hB _
    refine hK.out _ _ (D.out.2.2) (fun hHeld=>?_)
    clear hK K
    try simp only[Act.put,LgT,Lg0,LgS,LsT,Ls0,LsS]
    clear b
    refine wpAnyH_ready (rs:=[2]) (by kernel_rfl) (by simp) ?_
    refine AllReadyH.cons (i:=2) rfl (fun K hK=>?_) AllReadyH.nil
    rw[if_pos (by rfl)]
    simp only[LgT,Lg0,LgS]
    go_simp
    have DH:=D.out.here
    have hl1:W.heap.size<((W.drew.alloc (.cells #[.int .i64 1,.int .i64 1,.int .i64 1,.int .i64 2,.int .i64 2,.int .i64 2,.int .i64 2,.int .i64 2,.int .i64 2,.int .i64 3,.int .i64 3,.int .i64 4,.int .i64 5,.int .i64 6,.int .i64 7,.int .i64 7] 3)).alloc (.cells #[.int .i64 0,.int .i64 0,.int .i64 0,.int .i64 0,.string ⟨#[]⟩] 64)).heap.size:=by have h:=hl0;simp at h⊢;try omega
    refine(pickZ_any (fun z=>1≤z∧z≤7) ((W.drew.alloc (.cells #[.int .i64 1,.int .i64 1,.int .i64 1,.int .i64 2,.int .i64 2,.int .i64 2,.int .i64 2,.int .i64 2,.int .i64 2,.int .i64 3,.int .i64 3,.int .i64 4,.int .i64 5,.int .i64 6,.int .i64 7,.int .i64 7] 3)).alloc (.cells #[.int .i64 0,.int .i64 0,.int .i64 0,.int .i64 0,.string ⟨#[]⟩] 64)) _ B g n cap W.heap.size 16 ao hn hB (by omega) (by omega) hl1 hlg R0 DH).mono ?_
    rintro e y1 ⟨⟨kd,hkd,rfl⟩,DX⟩
    have BO:=hid (BO.out.keepb DX.out.2.2 (by omega))
    have D:=D.out.back DX.out
    refine hK.out _ _ (D.out.2.2) (fun hHeld=>?_)
    clear hK K
    try simp only[Act.put,LgT,Lg0,LgS,LsT,Ls0,LsS]
    clear DX DH
    clear R0 hl0 hl1 hlg
    refine wpAnyH_ready (rs:=[15]) (by kernel_rfl) (by simp) ?_
    refine AllReadyH.cons (i:=15) rfl (fun K hK=>?_) AllReadyH.nil
    rw[if_pos (by rfl)]
    simp only[LgT,Lg0,LgS]
    go_simp
    have DH:=D.out.here
    refine(below_small y1 _ B g n cap k.mv.n ao hn hB hm0 (by omega) DH).mono ?_
    rintro e y2 ⟨⟨x,hx,rfl⟩,DX⟩
    have i0:(0:Int)≤(x:Int):=by omega
    have i1:(x:Int)<(k.mv.n:Int):=by omega
    have hxl:x<k.ms.length:=by have:=HMN.out;omega
    obtain⟨d,hdx⟩: ∃d,k.ms[x]=d:=⟨_,rfl⟩
    have hdm:d∈k.ms:=hdx ▸ List.getElem_mem hxl
    have HCX:Hid (W.cell? ⟨mb,mo+x,none⟩=some (.int .i64 d)):=(by rw[←hdx];exact HAT.out x hxl:_=_)
    clear hdx
    have BO:=hid (BO.out.keepb DX.out.2.2 (by omega))
    have D:=D.out.back DX.out
    refine hK.out _ _ (D.out.2.2) (fun hHeld=>?_)
    clear hK K
    try simp only[Act.put,LgT,Lg0,LgS,LsT,Ls0,LsS]
    clear DX DH
    refine tkP (i:=16) rfl (by kernel_rfl) (fun _ _ _ h=>h) (by rfl) (fun w hSw=>by simp only[LgT,Lg0,LgS];go_simp;try with_reducible rfl) (by assumption) ?_
    try simp only[Act.put,LgT,Lg0,LgS,LsT,Ls0,LsS]
    refine tkH (i:=17) (v:=.int .i64 d) rfl (by kernel_rfl) (fun _ _ _ h=>h) (ldC_yield (by rfl) 3 _ rfl mb (mo+x) (by first|rfl|(simp;done)|go_simp) (.int .i64 d) (fun w hS=>cell_keep HCX.out hmb0 hS hmb) _ Tryz.underlying3 rfl) (by assumption) ?_
    try simp only[Act.put,LsT,Ls0,LsS]
    refine wpAnyH_ready (rs:=[19]) (by kernel_rfl) (by simp) ?_
    refine AllReadyH.cons (i:=19) rfl (fun K hK=>?_) AllReadyH.nil
    rw[if_pos (by rfl)]
    simp only[LgT,Lg0,LgS]
    go_simp
    have DH:=D.out.here
    refine(below_small y2 _ B g n cap 30 ao hn hB (by omega) (by omega) DH).mono ?_
    rintro e y3 ⟨⟨a0,ha0,rfl⟩,DX⟩
    have BO:=hid (BO.out.keepb DX.out.2.2 (by omega))
    have D:=D.out.back DX.out
    refine hK.out _ _ (D.out.2.2) (fun hHeld=>?_)
    clear hK K
    try simp only[Act.put,LgT,Lg0,LgS,LsT,Ls0,LsS]
    clear DX DH
    refine tkP (i:=20) rfl (by kernel_rfl) (fun _ _ _ h=>h) (by rfl) (fun w hSw=>by simp only[LgT,Lg0,LgS];go_simp;try with_reducible rfl) (by assumption) ?_
    try simp only[Act.put,LgT,Lg0,LgS,LsT,Ls0,LsS]
    refine wpAnyH_ready (rs:=[22]) (by kernel_rfl) (by simp) ?_
    refine AllReadyH.cons (i:=22) rfl (fun K hK=>?_) AllReadyH.nil
    rw[if_pos (by rfl)]
    simp only[LgT,Lg0,LgS]
    refine wp_stW 64 _ _ rfl (W.heap.size+1) (by rfl) 64 _ BO.out [.int .i64 kd,.int .i64 d,.int .i64 (a0:Int),.int .i64 0,.string ⟨#[]⟩] (by rfl) rfl Tryz.sizeTn rfl ?_
    intro x1 kb kt
    have D:=D.out.other (by omega) kt zo (by omega)
    have BO:=hid kb
    refine hK.out _ _ (D.out.2.2) (fun hHeld=>?_)
    clear hK K
    try simp only[Act.put,LgT,Lg0,LgS,LsT,Ls0,LsS]
    clear kb kt
    refine wpAnyH_done (by kernel_rfl) ?_ _
    try go_wp2_with fail
    go_meet
    exact⟨(W.heap.size+1),kd,d,(a0:Int),rfl,hkd,hdm,by omega,BO.out,D.out,zo⟩
  ·skip
   rw[if_pos (by rfl)]
   simp only[LgT,Lg0,LgS]
   go_simp
   have b:=bA W.drew (.cells #[.int .i64 0,.int .i64 0,.int .i64 0,.int .i64 0,.string ⟨#[]⟩] 64)
   have BO:=hid (bxAt W.drew 64 [.int .i64 0,.int .i64 0,.int .i64 0,.int .i64 0,.string ⟨#[]⟩] W.heap.size (by simp))
   have zo:W.heap.size≤W.heap.size:=by have h:=D.out.2.2.size;rw[show W.drew.heap.size=W.heap.size by simp]at h;exact h
   have D:Hid (Drw W (W.drew.alloc (.cells #[.int .i64 0,.int .i64 0,.int .i64 0,.int .i64 0,.string ⟨#[]⟩] 64)) B g ao n cap):=D.out.alloc hB _
   refine hK.out _ _ (D.out.2.2) (fun hHeld=>?_)
   clear hK K
   try simp only[Act.put,LgT,Lg0,LgS,LsT,Ls0,LsS]
   clear b
   refine wpAnyH_ready (rs:=[1]) (by kernel_rfl) (by simp) ?_
   refine AllReadyH.cons (i:=1) rfl (fun K hK=>?_) AllReadyH.nil
   rw[if_pos (by rfl)]
   simp only[LgT,Lg0,LgS]
   go_simp
   have b:Below (W.drew.alloc (.cells #[.int .i64 0,.int .i64 0,.int .i64 0,.int .i64 0,.string ⟨#[]⟩] 64)).heap.size (W.drew.alloc (.cells #[.int .i64 0,.int .i64 0,.int .i64 0,.int .i64 0,.string ⟨#[]⟩] 64)) ((W.drew.alloc (.cells #[.int .i64 0,.int .i64 0,.int .i64 0,.int .i64 0,.string ⟨#[]⟩] 64)).alloc (.cells #[.int .i64 1,.int .i64 1,.int .i64 1,.int .i64 2,.int .i64 2,.int .i64 2,.int .i64 2,.int .i64 2,.int .i64 2,.int .i64 3,.int .i64 3,.int .i64 4,.int .i64 5,.int .i64 6,.int .i64 7,.int .i64 7] 3)):=(Below.refl _ _).alloc (Nat.le_refl _) _
   have BO:=hid (BO.out.later b)
   have R0:Hid (RowZ (fun z=>1≤z∧z≤7) ((W.drew.alloc (.cells #[.int .i64 0,.int .i64 0,.int .i64 0,.int .i64 0,.string ⟨#[]⟩] 64)).alloc (.cells #[.int .i64 1,.int .i64 1,.int .i64 1,.int .i64 2,.int .i64 2,.int .i64 2,.int .i64 2,.int .i64 2,.int .i64 2,.int .i64 3,.int .i64 3,.int .i64 4,.int .i64 5,.int .i64 6,.int .i64 7,.int .i64 7] 3)) (W.heap.size+1) 16):=by have h:=rowZ_new (fun z=>1≤z∧z≤7) (W.drew.alloc (.cells #[.int .i64 0,.int .i64 0,.int .i64 0,.int .i64 0,.string ⟨#[]⟩] 64)) [1,1,1,2,2,2,2,2,2,3,3,4,5,6,7,7] 16 rfl (by decide);rw[show(W.drew.alloc (.cells #[.int .i64 0,.int .i64 0,.int .i64 0,.int .i64 0,.string ⟨#[]⟩] 64)).heap.size=(W.heap.size+1) by simp]at h;exact h
   have hl0:(W.heap.size+1)<((W.drew.alloc (.cells #[.int .i64 0,.int .i64 0,.int .i64 0,.int .i64 0,.string ⟨#[]⟩] 64)).alloc (.cells #[.int .i64 1,.int .i64 1,.int .i64 1,.int .i64 2,.int .i64 2,.int .i64 2,.int .i64 2,.int .i64 2,.int .i64 2,.int .i64 3,.int .i64 3,.int .i64 4,.int .i64 5,.int .i64 6,.int .i64 7,.int .i64 7] 3)).heap.size:=by simp
   have hlg:(W.heap.size+1)≠g:=by have h:=D.out.2.2.size;rw[show(W.drew.alloc (.cells #[.int .i64 0,.int .i64 0,.int .i64 0,.int .i64 0,.string ⟨#[]⟩] 64)).heap.size=(W.heap.size+1) by simp]at h;omega
   have D:Hid (Drw W ((W.drew.alloc (.cells #[.int .i64 0,.int .i64 0,.int .i64 0,.int .i64 0,.string ⟨#[]⟩] 64)).alloc (.cells #[.int .i64 1,.int .i64 1,.int .i64 1,.int .i64 2,.int .i64 2,.int .i64 2,.int .i64 2,.int .i64 2,.int .i64 2,.int .i64 3,.int .i64 3,.int .i64 4,.int .i64 5,.int .i64 6,.int .i64 7,.int .i64 7] 3)) B g ao n cap):=D.out.alloc hB _
   refine hK.out _ _ (D.out.2.2) (fun hHeld=>?_)
   clear hK K
   try simp only[Act.put,LgT,Lg0,LgS,LsT,Ls0,LsS]
   clear b
   refine wpAnyH_ready (rs:=[2]) (by kernel_rfl) (by simp) ?_
   refine AllReadyH.cons (i:=2) rfl (fun K hK=>?_) AllReadyH.nil
   rw[if_pos (by rfl)]
   simp only[LgT,Lg0,LgS]
   go_simp
   have DH:=D.out.here
   have hl1:(W.heap.size+1)<((W.drew.alloc (.cells #[.int .i64 0,.int .i64 0,.int .i64 0,.int .i64 0,.string ⟨#[]⟩] 64)).alloc (.cells #[.int .i64 1,.int .i64 1,.int .i64 1,.int .i64 2,.int .i64 2,.int .i64 2,.int .i64 2,.int .i64 2,.int .i64 2,.int .i64 3,.int .i64 3,.int .i64 4,.int .i64 5,.int .i64 6,.int .i64 7,.int .i64 7] 3)).heap.size:=by have h:=hl0;simp at h⊢;try omega
   refine(pickZ_any (fun z=>1≤z∧z≤7) ((W.drew.alloc (.cells #[.int .i64 0,.int .i64 0,.int .i64 0,.int .i64 0,.string ⟨#[]⟩] 64)).alloc (.cells #[.int .i64 1,.int .i64 1,.int .i64 1,.int .i64 2,.int .i64 2,.int .i64 2,.int .i64 2,.int .i64 2,.int .i64 2,.int .i64 3,.int .i64 3,.int .i64 4,.int .i64 5,.int .i64 6,.int .i64 7,.int .i64 7] 3)) _ B g n cap (W.heap.size+1) 16 ao hn hB (by omega) (by omega) hl1 hlg R0 DH).mono ?_
   rintro e y1 ⟨⟨kd,hkd,rfl⟩,DX⟩
   have BO:=hid (BO.out.keepb DX.out.2.2 (by omega))
   have D:=D.out.back DX.out
   refine hK.out _ _ (D.out.2.2) (fun hHeld=>?_)
   clear hK K
   try simp only[Act.put,LgT,Lg0,LgS,LsT,Ls0,LsS]
   clear DX DH
   clear R0 hl0 hl1 hlg
   refine wpAnyH_ready (rs:=[15]) (by kernel_rfl) (by simp) ?_
   refine AllReadyH.cons (i:=15) rfl (fun K hK=>?_) AllReadyH.nil
   rw[if_pos (by rfl)]
   simp only[LgT,Lg0,LgS]
   go_simp
   have DH:=D.out.here
   refine(below_small y1 _ B g n cap k.mv.n ao hn hB hm0 (by omega) DH).mono ?_
   rintro e y2 ⟨⟨x,hx,rfl⟩,DX⟩
   have i0:(0:Int)≤(x:Int):=by omega
   have i1:(x:Int)<(k.mv.n:Int):=by omega
   have hxl:x<k.ms.length:=by have:=HMN.out;omega
   obtain⟨d,hdx⟩: ∃d,k.ms[x]=d:=⟨_,rfl⟩
   have hdm:d∈k.ms:=hdx ▸ List.getElem_mem hxl
   have HCX:Hid (W.cell? ⟨mb,mo+x,none⟩=some (.int .i64 d)):=(by rw[←hdx];exact HAT.out x hxl:_=_)
   clear hdx
   have BO:=hid (BO.out.keepb DX.out.2.2 (by omega))
   have D:=D.out.back DX.out
   refine hK.out _ _ (D.out.2.2) (fun hHeld=>?_)
   clear hK K
   try simp only[Act.put,LgT,Lg0,LgS,LsT,Ls0,LsS]
   clear DX DH
   refine tkP (i:=16) rfl (by kernel_rfl) (fun _ _ _ h=>h) (by rfl) (fun w hSw=>by simp only[LgT,Lg0,LgS];go_simp;try with_reducible rfl) (by assumption) ?_
   try simp only[Act.put,LgT,Lg0,LgS,LsT,Ls0,LsS]
   refine tkH (i:=17) (v:=.int .i64 d) rfl (by kernel_rfl) (fun _ _ _ h=>h) (ldC_yield (by rfl) 3 _ rfl mb (mo+x) (by first|rfl|(simp;done)|go_simp) (.int .i64 d) (fun w hS=>cell_keep HCX.out hmb0 hS hmb) _ Tryz.underlying3 rfl) (by assumption) ?_
   try simp only[Act.put,LsT,Ls0,LsS]
   refine wpAnyH_ready (rs:=[19]) (by kernel_rfl) (by simp) ?_
   refine AllReadyH.cons (i:=19) rfl (fun K hK=>?_) AllReadyH.nil
   rw[if_pos (by rfl)]
   simp only[LgT,Lg0,LgS]
   go_simp
   have DH:=D.out.here
   refine(below_small y2 _ B g n cap 30 ao hn hB (by omega) (by omega) DH).mono ?_
   rintro e y3 ⟨⟨a0,ha0,rfl⟩,DX⟩
   have BO:=hid (BO.out.keepb DX.out.2.2 (by omega))
   have D:=D.out.back DX.out
   refine hK.out _ _ (D.out.2.2) (fun hHeld=>?_)
   clear hK K
   try simp only[Act.put,LgT,Lg0,LgS,LsT,Ls0,LsS]
   clear DX DH
   refine tkP (i:=20) rfl (by kernel_rfl) (fun _ _ _ h=>h) (by rfl) (fun w hSw=>by simp only[LgT,Lg0,LgS];go_simp;try with_reducible rfl) (by assumption) ?_
   try simp only[Act.put,LgT,Lg0,LgS,LsT,Ls0,LsS]
   refine wpAnyH_ready (rs:=[22]) (by kernel_rfl) (by simp) ?_
   refine AllReadyH.cons (i:=22) rfl (fun K hK=>?_) AllReadyH.nil
   rw[if_pos (by rfl)]
   simp only[LgT,Lg0,LgS]
   refine wp_stW 64 _ _ rfl W.heap.size (by rfl) 64 _ BO.out [.int .i64 kd,.int .i64 d,.int .i64 (a0:Int),.int .i64 0,.string ⟨#[]⟩] (by rfl) rfl Tryz.sizeTn rfl ?_
   intro x1 kb kt
   have D:=D.out.other (by omega) kt zo (by omega)
   have BO:=hid kb
   refine hK.out _ _ (D.out.2.2) (fun hHeld=>?_)
   clear hK K
   try simp only[Act.put,LgT,Lg0,LgS,LsT,Ls0,LsS]
   clear kb kt
   refine wpAnyH_done (by kernel_rfl) ?_ _
   try go_wp2_with fail
   go_meet
   exact⟨W.heap.size,kd,d,(a0:Int),rfl,hkd,hdm,by omega,BO.out,D.out,zo⟩
 case rest=>
 obtain⟨gx,kd,d,at0,rfl,hkd,hdm,ha0,bx,dd,zgx⟩:=hcut
 generalize wc=w1 at *
 have BX:Hid (Bx w1 gx 64 [.int .i64 kd,.int .i64 d,.int .i64 at0,.int .i64 0,.string ⟨#[]⟩]):=bx
 have DW:=D0.out.back dd
 have RB:=hid (RB.out.keepb dd.2.2 (by omega))
 have WB1:=hid (WB.out.keepb dd.2.2 hne)
 have FL1:Hid (FsP w1 0 k.flv.v k.fl):=P0.out.fl.kt (D0.out.ty dd.2.2) (by decide) (by decide)
 have z1:W.heap.size≤w1.heap.size:=dd.2.2.size
 have zgl:=BX.out.lt
 have HDM:Hid (d∈k.ms):=hdm
 clear bx dd WB P0 D0 HAT hmb hmb0 hdm
 have hgx:gx≠g:=by omega
 have cx0:=BX.out.cell 0
 by_cases e2:kd=2
 ·subst e2
  have HFN:Hid (k.flv.n=k.fl.length):=FL1.out.len
  have hfn:k.flv.n≤1000000:=by have h1:=HFN.out;omega
  go_wp2_with fail
  go_loopw [6] (fun v6 wr=>∃(j:Nat) (a1:Int),j≤k.flv.n∧v6=.int .i64 (j:Int)∧0≤a1∧Hid (Bx wr gx 64 [.int .i64 2,.int .i64 d,.int .i64 a1,.int .i64 0,.string ⟨#[]⟩])∧Hid (Bx wr w.heap.size 64 [.int .i64 0,.int .i64 0,.int .i64 0,.int .i64 0,.string ⟨#[]⟩])∧Hid (Bx wr gw 56 [.int .i64 k.rid,.slice (some ⟨mb,mo,none⟩) k.mv.n k.mv.c,.slice k.mav.a k.mav.n k.mav.c,.slice k.flv.a k.flv.n k.flv.c,.slice k.hev.a k.hev.n k.hev.c,.slice k.sav.a k.sav.n k.sav.c])∧Hid (FsP wr 0 k.flv.v k.fl)∧Hid (Drw w wr B g ao n cap)∧w1.heap.size≤wr.heap.size) (fun v6 _=>k.flv.n - (intOf v6).toNat)
  case atStart=>exact⟨0,at0,Nat.zero_le _,rfl,ha0,BX,RB,WB1,FL1,DW,Nat.le_refl _⟩
  case round=>
   clear BX RB WB1 FL1 DW cx0
   obtain⟨j,a1,hj,rfl,ha1,BX,RB,WB1,FL1,DW,zwr⟩:=hrel
   have wb3:=WB1.out.cell 3
   have cx0:=BX.out.cell 0
   by_cases hlt:j<k.flv.n
   ·have hjf:j<k.fl.length:=by have:=HFN.out;omega
    obtain⟨hq1,gf,off,ha,hq2,hgl,hr⟩:=FL1.out.row hjf
    clear hq1 hq2
    obtain⟨⟨f,fsv⟩,hm⟩: ∃e,k.fl[j]=e:=⟨_,rfl⟩
    have hc1:wr.cell? ⟨gf,off+j * 12+1,none⟩=some (.bool f.tk):=by rw[hm]at hr;exact range_cell hr 1 rfl
    rw[ha]at wb3
    have i0:(0:Int)≤(j:Int):=by omega
    have i1:(j:Int)<(k.flv.n:Int):=by omega
    have DH:=DW.out.here
    clear hr hm cx0
    cases htk:f.tk with
    |false=>
     rw[htk]at hc1
     clear htk DH
     go_wp2_with fail
     go_roundw
     case rel=>exact⟨j+1,a1,by omega,by go_num,ha1,BX,RB,WB1,FL1,DW,zwr⟩
     case measure=>simp[intOf];omega
    |true=>
     rw[htk]at hc1
     clear htk
     go_wp2_with (first|(go_at_call 49;refine(once_any wr _ B g n cap 4 ao hn hB (by omega) (by omega) DH).mono ?_;rintro e y1 ⟨⟨bb,rfl⟩,DX⟩;have BX:=hid (BX.out.keepb DX.out.2.2 hgx);have RB:=hid (RB.out.keepb DX.out.2.2 (by omega));have WB1:=hid (WB1.out.keepb DX.out.2.2 hne);have FL1:=hid (FL1.out.kt (DW.out.ty DX.out.2.2) (by decide) (by decide));have zy:wr.heap.size≤y1.heap.size:=DX.out.2.2.size;have DW:=DW.out.back DX.out;clear DX DH hc1 wb3;refine Stp.here ?_))
     refine Stp.go ?_
     cases bb with
     |true=>
      go_wp2_with fail
      go_roundw
      case rel=>exact⟨j+1,a1,by omega,by go_num,ha1,BX,RB,WB1,FL1,DW,by omega⟩
      case measure=>simp[intOf];omega
     |false=>
      go_wp2_with (first|(refine wpList_st1 rfl 3 _ _ rfl gx 2 rfl 64 _ BX.out (.int .i64 (j:Int)) rfl (by simp) rfl Tryz.size3 [.int .i64 2,.int .i64 d,.int .i64 (j:Int),.int .i64 0,.string ⟨#[]⟩] rfl ?_;intro w7 OB TB;refine Stp.here ?_))
      refine Stp.go ?_
      have RB:=hid (RB.out.turn TB (by omega))
      have WB1:=hid (WB1.out.turn TB (by omega))
      have FL1:=hid (FL1.out.kt (KeepTy.ofTurn (S:=fun X=>X=64) BX.out TB rfl) (by decide) (by decide))
      have DW:=DW.out.other (by omega) TB (by omega) (by omega)
      have BX:=hid OB
      have z7:w1.heap.size≤w7.heap.size:=by have:=TB.size;omega
      clear OB TB
      go_wp2_with fail
      go_roundw
      case rel=>exact⟨j+1,(j:Int),by omega,by go_num,by omega,BX,RB,WB1,FL1,DW,z7⟩
      case measure=>simp[intOf];omega
   ·have hd2: ¬j<k.flv.n:=hlt
    go_wp2_with (first|(refine wpList_ldG rfl 64 _ rfl gx 0 rfl 64 _ BX.out [.int .i64 2,.int .i64 d,.int .i64 a1,.int .i64 0,.string ⟨#[]⟩] rfl _ Tryz.underlying64 rfl Tryz.sizeTn ?_)|(refine wpList_stW rfl 64 _ _ rfl w.heap.size rfl 64 _ RB.out [.int .i64 2,.int .i64 d,.int .i64 a1,.int .i64 0,.string ⟨#[]⟩] rfl rfl Tryz.sizeTn rfl ?_;intro w9 OB TB;refine Stp.here ?_))
    refine Stp.go ?_
    go_wp2_with fail
    refine bodyPost_ret (results_b Tryz.results146 w.heap.size 64 [.int .i64 2,.int .i64 d,.int .i64 a1,.int .i64 0,.string ⟨#[]⟩] _ rfl OB Tryz.underlying64 rfl Tryz.sizeTn) rfl ?_
    have DZ:=DW.out.other (by omega) TB (Nat.le_refl _) (by omega)
    exact⟨2,d,a1,0,⟨#[]⟩,rfl,by omega,HDM.out,ha1,utt_nil (by decide),by decide,HDD.out.back DZ.out,DZ.out.2.2⟩
 have q2:(kd==2)=false:=by simpa using e2
 by_cases e1:kd=1
 ·subst e1
  have DH:=DW.out.here
  go_wp2_with fail
  refine(below_small w1 _ B g n cap 2 ao hn hB (by omega) (by omega) DH).mono ?_
  rintro e y1 ⟨⟨l0,hl0,rfl⟩,DX⟩
  have BX:=hid (BX.out.keepb DX.out.2.2 hgx)
  have RB:=hid (RB.out.keepb DX.out.2.2 (by omega))
  have zy:w1.heap.size≤y1.heap.size:=DX.out.2.2.size
  have DW:=DW.out.back DX.out
  clear DX DH cx0 WB1 FL1
  go_wp2_with (first|(refine wpList_st1 rfl 3 _ _ rfl gx 3 rfl 64 _ BX.out (.int .i64 (1+(l0:Int))) rfl (by simp) rfl Tryz.size3 [.int .i64 1,.int .i64 d,.int .i64 at0,.int .i64 (1+(l0:Int)),.string ⟨#[]⟩] rfl ?_;intro w7 OB TB;refine Stp.here ?_))
  refine Stp.go ?_
  have RB:=hid (RB.out.turn TB (by omega))
  have DW:=DW.out.other (by omega) TB (by omega) (by omega)
  have BX:=hid OB
  have z7:y1.heap.size≤w7.heap.size:=Nat.le_of_eq TB.size.symm
  clear OB TB
  have DH:=DW.out.here
  go_wp2_with fail
  refine(nameZ_any w7 _ B g n cap ao hn hB DH).mono ?_
  rintro e y2 ⟨⟨tx,htx,rfl⟩,DX⟩
  have BX:=hid (BX.out.keepb DX.out.2.2 hgx)
  have RB:=hid (RB.out.keepb DX.out.2.2 (by omega))
  have DW:=DW.out.back DX.out
  have z8:w7.heap.size≤y2.heap.size:=DX.out.2.2.size
  clear DX DH
  go_wp2_with (first|(refine wpList_st1 rfl 9 _ _ rfl gx 4 rfl 64 _ BX.out (.string tx) rfl (by simp) rfl Tryz.size9 [.int .i64 1,.int .i64 d,.int .i64 at0,.int .i64 (1+(l0:Int)),.string tx] rfl ?_;intro w8 OB TB;refine Stp.here ?_))
  refine Stp.go ?_
  have RB:=hid (RB.out.turn TB (by omega))
  have DW:=DW.out.other (by omega) TB (by omega) (by omega)
  have BX:=hid OB
  have z9:y2.heap.size≤w8.heap.size:=Nat.le_of_eq TB.size.symm
  clear OB TB
  go_wp2_with (first|(refine wpList_ldG rfl 64 _ rfl gx 0 rfl 64 _ BX.out [.int .i64 1,.int .i64 d,.int .i64 at0,.int .i64 (1+(l0:Int)),.string tx] rfl _ Tryz.underlying64 rfl Tryz.sizeTn ?_)|(refine wpList_stW rfl 64 _ _ rfl w.heap.size rfl 64 _ RB.out [.int .i64 1,.int .i64 d,.int .i64 at0,.int .i64 (1+(l0:Int)),.string tx] rfl rfl Tryz.sizeTn rfl ?_;intro w9 OB TB;refine Stp.here ?_))
  refine Stp.go ?_
  go_wp2_with fail
  refine bodyPost_ret (results_b Tryz.results146 w.heap.size 64 [.int .i64 1,.int .i64 d,.int .i64 at0,.int .i64 (1+(l0:Int)),.string tx] _ rfl OB Tryz.underlying64 rfl Tryz.sizeTn) rfl ?_
  have DZ:=DW.out.other (by omega) TB (Nat.le_refl _) (by omega)
  refine⟨1,d,at0,_,tx,rfl,by omega,HDM.out,ha0,?_,htx,HDD.out.back DZ.out,DZ.out.2.2⟩
  unfold uttB lvB
  rw[if_pos rfl]
  simp
  omega
 have q1:(kd==1)=false:=by simpa using e1
 go_wp2_with (first|(refine wpList_ldG rfl 64 _ rfl gx 0 rfl 64 _ BX.out [.int .i64 kd,.int .i64 d,.int .i64 at0,.int .i64 0,.string ⟨#[]⟩] rfl _ Tryz.underlying64 rfl Tryz.sizeTn ?_)|(refine wpList_stW rfl 64 _ _ rfl w.heap.size rfl 64 _ RB.out [.int .i64 kd,.int .i64 d,.int .i64 at0,.int .i64 0,.string ⟨#[]⟩] rfl rfl Tryz.sizeTn rfl ?_;intro w9 OB TB;refine Stp.here ?_))
 refine Stp.go ?_
 go_wp2_with fail
 refine bodyPost_ret (results_b Tryz.results146 w.heap.size 64 [.int .i64 kd,.int .i64 d,.int .i64 at0,.int .i64 0,.string ⟨#[]⟩] _ rfl OB Tryz.underlying64 rfl Tryz.sizeTn) rfl ?_
 have DZ:=DW.out.other (by omega) TB (Nat.le_refl _) (by omega)
 refine⟨kd,d,at0,0,⟨#[]⟩,rfl,hkd,HDM.out,ha0,utt_nil e1,by decide,HDD.out.back DZ.out,DZ.out.2.2⟩
theorem ins1_in {ts:List It} {y x:It} (h:x∈ins1 ts y):x∈ts∨x=y:=by
 unfold ins1 at h
 split at h
 ·exact .inl h
 ·simp only[List.mem_append,List.mem_cons,List.mem_filter]at h
  rcases h with h|h|h
  ·exact .inl h.1
  ·exact .inr h
  ·exact .inl h.1
theorem ins1_keeps {ts:List It} {y x:It} (h:x∈ts) (hy: ¬x.1=y.1):x∈ins1 ts y:=by
 unfold ins1
 split
 ·exact h
 ·simp only[List.mem_append,List.mem_cons,List.mem_filter,decide_eq_true_eq]
  by_cases hl:x.1<y.1
  ·exact .inl ⟨h,hl⟩
  ·exact .inr (.inr ⟨h,by omega⟩)
theorem putP_has {ts:List It} {y:It} {n:Int} (h:hasP ts n=true):hasP (putP ts y) n=true:=by
 unfold putP
 split
 ·obtain⟨x,hx,e⟩:=hasP_iff.1 h
  by_cases hy:x.1=y.1
  ·unfold ins1
   rw[if_pos (hasP_iff.2 ⟨x,hx,hy⟩)]
   exact h
  ·exact hasP_iff.2 ⟨x,ins1_keeps hx hy,e⟩
 ·exact h
theorem putP_right {ts:List It} {y:It} (h:iGo 0 ts=true):iGo 0 (putP ts y)=true:=by
 unfold putP
 split
 ·rename_i hc
  obtain⟨ha,hb⟩:=iGo_asc ts 0 h
  refine iGo_of _ 0 (ins1_asc ha) fun x hx=>?_
  rcases ins1_in hx with hx|rfl
  ·exact hb x hx
  ·exact⟨by have:=(itB_range hc.2).1;omega,hc.2⟩
 ·exact h
theorem aru_mono {ts us:List It} (h:iGo 0 ts=true) (hu:iGo 0 us=true) (hh: ∀n,hasP ts n=true→hasP us n=true):aruP ts≤aruP us:=by
 have h1:=(aru_facts h).1
 have h2:=(aru_facts hu).2.1
 by_cases hc:aruP ts≤aruP us
 ·exact hc
 ·have:=hh _ (h1 (aruP us+1) (by omega) (by omega))
  rw[h2]at this
  cases this
theorem fold_right: ∀(L ts:List It),iGo 0 ts=true→iGo 0 (L.foldl putP ts)=true∧∀n,hasP ts n=true→hasP (L.foldl putP ts) n=true
 | [],ts,h=>⟨h,fun _ h=>h⟩
 |y::L,ts,h=>by
  obtain⟨a,b⟩:=fold_right L (putP ts y) (putP_right h)
  exact⟨a,fun n hn=>b n (putP_has hn)⟩
theorem sIts_right {m:Mt} (h:iGo 0 m.its=true) (t:Tok):iGo 0 (sIts m t)=true∧aruP m.its≤aruP (sIts m t):=by
 obtain⟨a,b⟩:=fold_right (freshL m t) m.its h
 exact⟨a,aru_mono h a b⟩
theorem cat_right {m:Mt} (h:m.ok=true) (y:It):(m.cat y).ok=true:=by
 obtain⟨h1,h2,h3,h4,h5,h6,h7,h8,h9⟩:=ok_parts h
 rw[cat_yes h]
 have a:=putP_right (y:=y) h3
 have b:=aru_mono h3 a fun n hn=>putP_has (y:=y) hn
 exact ok_of h1 h2 a h4 h5 h6 ⟨h7.1,by show m.li≤((aruP (putP m.its y):Nat):Int);omega⟩ ⟨h8.1,by show m.he≤((aruP (putP m.its y):Nat):Int);omega⟩ h9
theorem had_right {m:Mt} (h:m.ok=true):(m.hadH).ok=true:=by
 obtain⟨h1,h2,h3,h4,h5,h6,h7,h8,h9⟩:=ok_parts h
 have:=hears_len m.its m.li ((aruP m.its:Int) - m.he).toNat m.he
 exact ok_of h1 h2 h3 h4 h5 h6 h7 ⟨by show 0≤m.he+(m.hear.length:Int);omega,by show m.he+(m.hear.length:Int)≤_;unfold Mt.hear;show m.he+_≤((aruP m.its:Nat):Int);omega⟩ h9
theorem say_right {m:Mt} {l:Int} {x:ByteArray} (h:sayOk m l x=true):(sayM m l x).ok=true:=by
 unfold sayOk at h
 simp only[Bool.and_eq_true,decide_eq_true_eq]at h
 obtain⟨h,hl,hx,hn⟩:=h
 obtain⟨h1,h2,h3,h4,h5,h6,h7,h8,h9⟩:=ok_parts h
 refine ok_of h1 h2 h3 ?_ h5 h6 h7 h8 h9
 show sayB (m.lv++[l]) (m.tx++[x])=true
 unfold sayB lvsB fitB at h4⊢
 simp only[Bool.and_eq_true,decide_eq_true_eq,List.all_eq_true]at h4⊢
 obtain⟨a,b,c,d⟩:=h4
 refine⟨by simp;omega,by simp;omega,fun y hy=>?_,fun y hy=>?_⟩
 ·rcases List.mem_append.1 hy with hy|hy
  ·exact c y hy
  ·simp at hy;subst hy;exact hl
 ·rcases List.mem_append.1 hy with hy|hy
  ·exact d y hy
  ·simp at hy;subst hy;exact hx
theorem missGo_mem (ts:List It) (last:Int): ∀f n acc x,x∈missGo ts last f n acc→x∈acc∨x≤last
 |0,n,acc,x,h=>.inl h
 |f+1,n,acc,x,h=>by
  rw[missGo]at h
  split at h
  ·rename_i hc
   split at h
   ·exact missGo_mem ts last f (n+1) acc x h
   ·rcases missGo_mem ts last f (n+1) _ x h with h|h
    ·rcases List.mem_append.1 h with h|h
     ·exact .inl h
     ·simp at h;exact .inr (by omega)
    ·exact .inr h
  ·exact .inl h
theorem missP_mem {ts:List It} {u x:Int} (h:x∈missP ts u):x≤u:=by
 unfold missP at h
 rcases missGo_mem _ _ _ _ _ _ h with h|h
 ·cases h
 ·split at h<;>omega
theorem wGo_append: ∀(a:List Int) (l q n:Int),wGo l q a=true→l<n→(∀x∈a,x<n)→n≤q→wGo l q (a++[n])=true
 | [],l,q,n,_,h,_,hq=>by rw[List.nil_append,wGo_step h hq];rfl
 |x::a,l,q,n,h,hl,ha,hq=>by
  have hx:=wGo_mem (x::a) l q x h (List.mem_cons_self ..)
  rw[wGo_step hx.1 hx.2]at h
  rw[List.cons_append,wGo_step hx.1 hx.2]
  exact wGo_append a x q n h (ha x (List.mem_cons_self ..)) (fun y hy=>ha y (List.mem_cons_of_mem _ hy)) hq
theorem slGo_right {ws lk:List Int} {its:List It} {q:Int} (hw: ∀x∈ws,x≤q) (hk: ∀x∈lk,x≤q): ∀(f n:Nat) (acc:List Int),1≤n→wGo 0 q acc=true→(∀x∈acc,x<(n:Int))→wGo 0 q (slGo ws lk its f n acc)=true
 |0,n,acc,_,h,_=>h
 |f+1,n,acc,hn,h,ha=>by
  rw[slGo]
  split
  ·refine slGo_right hw hk f (n+1) _ (by omega) ?_ ?_
   ·split
    ·rename_i hs
     refine wGo_append acc 0 q (n:Int) h (by omega) ha ?_
     unfold slB at hs
     simp only[Bool.or_eq_true,Bool.and_eq_true]at hs
     rcases hs with hs|hs
     ·exact hw _ (by simpa [inB] using hs.2)
     ·exact hk _ (by simpa [inB] using hs)
    ·exact h
   ·intro x hx
    split at hx
    ·rcases List.mem_append.1 hx with hx|hx
     ·have:=ha x hx;omega
     ·simp at hx;omega
    ·have:=ha x hx;omega
  ·exact h
theorem slack_right {ws:List Int} {its:List It} {q:Int} (hw: ∀x∈ws,x≤q):wB (slackP ws its q) q=true:=by
 unfold wB
 have h1:=slackP_len ws its q
 have h2:wGo 0 q (slackP ws its q)=true:=slGo_right (its:=its) hw (fun x hx=>missP_mem hx) 60 1 [] (by omega) rfl (fun x hx=>by cases hx)
 simp only[Bool.and_eq_true,decide_eq_true_eq]
 exact⟨by omega,h2⟩
theorem tk_parts {c r q a b:Int} {ws:List Int} (h:tkB c r q a b ws=true):(1≤c∧c≤9)∧(1≤r∧r≤1000000000)∧(0≤q∧q≤60)∧(0≤a∧a≤q)∧(0≤b∧b≤5)∧wB ws q=true:=by
 unfold tkB at h
 simp only[Bool.and_eq_true,decide_eq_true_eq]at h
 exact⟨h.1,h.2.1,h.2.2.1,h.2.2.2.1,h.2.2.2.2.1,h.2.2.2.2.2⟩
theorem tk_of {c r q a b:Int} {ws:List Int} (h1:1≤c∧c≤9) (h2:1≤r∧r≤1000000000) (h3:0≤q∧q≤60) (h4:0≤a∧a≤q) (h5:0≤b∧b≤5) (h6:wB ws q=true):tkB c r q a b ws=true:=by
 unfold tkB
 simp only[Bool.and_eq_true,decide_eq_true_eq]
 exact⟨h1,h2,h3,h4,h5,h6⟩
theorem sTok_right {m:Mt} {t:Tok} (h:m.ok=true) (hm:mayB m t=true):tkB (sTok m t).c (sTok m t).r (sTok m t).q (sTok m t).a (sTok m t).b (sTok m t).ws=true:=by
 unfold mayB at hm
 simp only[Bool.and_eq_true,decide_eq_true_eq]at hm
 obtain⟨htk,hc,hr1,hr2⟩:=hm
 have hn:tkB t.c t.r (nxQ m t) (nxA m t) t.b t.ws=true:=num_right htk
 obtain⟨p1,p2,p3,p4,p5,p6⟩:=tk_parts hn
 obtain⟨o1,o2,o3,o4,o5,o6⟩:=tk_parts htk
 obtain⟨_,hid,hIg,_,_,_,_,_,_⟩:=ok_parts h
 have hd:1≤m.id∧m.id≤5:=(ring_parts (ok_parts h).1).2.2.1 _ (by simpa [inB] using hid)
 have hmk:markOk t.c t.r (nxQ m t) (nxA m t) t.b t.ws m.id ((aruP (sIts m t):Nat):Int)=true:=by
  unfold markOk
  rw[hn]
  simp only[Bool.true_and,Bool.and_eq_true,decide_eq_true_eq]
  exact⟨hd,by omega⟩
 refine tk_of p1 (show 1≤t.r+1∧t.r+1≤1000000000 by omega) p3 ?_ ?_ ?_
 ·show 0≤markA _ _ _ _ _ _ _ _∧markA _ _ _ _ _ _ _ _≤nxQ m t
  unfold markA
  rw[if_pos hmk]
  unfold aruM
  split
  ·omega
  ·split<;>omega
 ·show 0≤markD _ _ _ _ _ _ _ _∧markD _ _ _ _ _ _ _ _≤5
  unfold markD
  rw[if_pos hmk]
  unfold byM
  split
  ·omega
  ·split
   ·split<;>omega
   ·omega
 ·refine slack_right fun x hx=>?_
  unfold wB at p6
  simp only[Bool.and_eq_true]at p6
  exact(wGo_mem _ _ _ _ p6.2 hx).2
theorem held_right {m:Mt} {t:Tok} (h:m.ok=true) (hm:mayB m t=true):(m.sheld t).ok=true:=by
 have htr:=sTok_right h hm
 unfold mayB at hm
 simp only[Bool.and_eq_true,decide_eq_true_eq]at hm
 obtain⟨htk,hc,hr1,hr2⟩:=hm
 obtain⟨o1,o2,o3,o4,o5,o6⟩:=tk_parts htk
 obtain⟨h1,h2,h3,h4,h5,h6,h7,h8,h9⟩:=ok_parts h
 obtain⟨a,b⟩:=sIts_right h3 t
 refine ok_of h1 h2 a ?_ (show 0≤t.r∧t.r≤1000000000 by omega) (show 0≤t.a∧t.a≤60 by omega) ?_ ⟨h8.1,by show m.he≤((aruP (sIts m t):Nat):Int);omega⟩ ?_
 ·show sayB (m.lv.drop _) (m.tx.drop _)=true
  unfold sayB lvsB fitB at h4⊢
  simp only[Bool.and_eq_true,decide_eq_true_eq,List.all_eq_true]at h4⊢
  obtain⟨a,b,c,d⟩:=h4
  exact⟨by rw[List.length_drop];omega,by rw[List.length_drop,List.length_drop];omega,fun y hy=>c y (List.mem_of_mem_drop hy),fun y hy=>d y (List.mem_of_mem_drop hy)⟩
 ·show 0≤lineP m.li m.se ((aruP (sIts m t):Nat):Int) t.a∧lineP m.li m.se ((aruP (sIts m t):Nat):Int) t.a≤((aruP (sIts m t):Nat):Int)
  unfold lineP leastP
  split
  ·split<;>split<;>omega
  ·omega
 ·show(ntB _ _ _ _ _ _||tkB (sTok m t).c (sTok m t).r (sTok m t).q (sTok m t).a (sTok m t).b (sTok m t).ws)=true
  rw[htr]
  simp
def ownP (d:Int) (l:List It):List It:=l.filter fun x=>x.2.1==d
theorem ownP_step {d:Int} {l:List It} {j:Nat} (hj:j<l.length):ownP d (l.take (j+1))=ownP d (l.take j)++if l[j].2.1=d then[l[j]]else[]:=by
 unfold ownP
 rw[List.take_succ_eq_append_getElem hj,List.filter_append]
 congr 1
 by_cases h:l[j].2.1=d
 ·simp[h]
 ·simp[h]
def againW (p:Wp) (m:Mt):Wp:=⟨p.rid,p.ms,p.ma,p.fl++[⟨nextP p.rid p.ms m.id,true,m.la,zIt⟩]++(tellL p.ma m.id (ownP m.id m.its)).map (·.1),p.he,p.sa⟩
theorem elAgain_no (g:Nat) (k:Wv) (i:Nat) (m:Mt) (v:Mv) (w:World) (h:Hid (WkB w g k)) (hk:Hid (WkP w k)) (hi:i<k.ma.length) (hm:Hid (k.ma[i]=(m,v))) (hok:Hid (m.ok=true)) (hl:k.ma.length≤10) (hbl:Hid (ntB m.la.c m.la.r m.la.q m.la.a m.la.b m.la.ws=true)):
  Calls Tryz.prog 158 #[.pointer (some ⟨g,0,none⟩),.int .i64 (i:Int)] w fun e w'=>e=.returned (.int .i64 1)∧Below w.heap.size w w':=by
 have zg:g<w.heap.size:=Bx.lt h.out
 have hsz:Hid (MtS m):=ok_sizes hok.out
 obtain⟨_,gm,off,ha,_,hgl,hr⟩:=hk.out.ma.row hi
 have HR:Hid (w.rangeAt gm (off+i * 16) [.int .i64 m.id,.int .i64 m.rid,.slice v.ms.a v.ms.n v.ms.c,.slice v.its.a v.its.n v.its.c,.slice v.lv.a v.lv.n v.lv.c,.slice v.tx.a v.tx.n v.tx.c,.int .i64 m.rd,.int .i64 m.se,.int .i64 m.li,.int .i64 m.he,.int .i64 m.la.c,.int .i64 m.la.r,.int .i64 m.la.q,.int .i64 m.la.a,.int .i64 m.la.b,.slice v.ws.a v.ws.n v.ws.c]):=(by have e:=hm.out;rw[e]at hr;exact hr:World.rangeAt _ _ _ _)
 have HMP:Hid (MtP w m v):=(by have:=hk.out.ma.2 k.ma[i] (List.getElem_mem hi);rw[hm.out]at this;exact this:MtP _ _ _)
 have G1a:Hid (Bx w g 56 [.int .i64 k.rid,.slice k.mv.a k.mv.n k.mv.c,.slice (some ⟨gm,off,none⟩) k.mav.n k.mav.c,.slice k.flv.a k.flv.n k.flv.c,.slice k.hev.a k.hev.n k.hev.c,.slice k.sav.a k.sav.n k.sav.c]):=(by have G2:=h.out;unfold WkB at G2;rw[ha]at G2;exact G2:Bx _ _ _ _)
 have HMN:Hid (k.mav.n=k.ma.length):=hk.out.ma.len
 have HWN:Hid (v.ws.n=m.la.ws.length):=HMP.out.ws.slen
 have hin:i<k.mav.n:=by have:=HMN.out;omega
 have i0:(0:Int)≤(i:Int):=by omega
 have i1:(i:Int)<(k.mav.n:Int):=by omega
 have c2:=G1a.out.cell 2
 clear hr ha
 have hz:=hid (Bx.new w 32 [.int .i64 0,.int .i64 0,.slice none 0 0,.slice none 0 0,.slice none 0 0,.slice none 0 0,.int .i64 0,.int .i64 0,.int .i64 0,.int .i64 0,.int .i64 0,.int .i64 0,.int .i64 0,.int .i64 0,.int .i64 0,.slice none 0 0])
 go_enter Tryz.func158,Tryz.ntmps158
 go_wp2_with (first|(refine wpList_ldR rfl 32 _ rfl gm (off+i * 16) rfl [.int .i64 m.id,.int .i64 m.rid,.slice v.ms.a v.ms.n v.ms.c,.slice v.its.a v.its.n v.its.c,.slice v.lv.a v.lv.n v.lv.c,.slice v.tx.a v.tx.n v.tx.c,.int .i64 m.rd,.int .i64 m.se,.int .i64 m.li,.int .i64 m.he,.int .i64 m.la.c,.int .i64 m.la.r,.int .i64 m.la.q,.int .i64 m.la.a,.int .i64 m.la.b,.slice v.ws.a v.ws.n v.ws.c] HR.out _ Tryz.underlying32 rfl Tryz.sizeM ?_)|(refine wpList_stW rfl 32 _ _ rfl w.heap.size rfl 32 _ hz.out [.int .i64 m.id,.int .i64 m.rid,.slice v.ms.a v.ms.n v.ms.c,.slice v.its.a v.its.n v.its.c,.slice v.lv.a v.lv.n v.lv.c,.slice v.tx.a v.tx.n v.tx.c,.int .i64 m.rd,.int .i64 m.se,.int .i64 m.li,.int .i64 m.he,.int .i64 m.la.c,.int .i64 m.la.r,.int .i64 m.la.q,.int .i64 m.la.a,.int .i64 m.la.b,.slice v.ws.a v.ws.n v.ws.c] rfl rfl Tryz.sizeM rfl ?_;intro w1 OB TB;have b:Below w.heap.size w w1:=((Below.refl _ _).alloc (Nat.le_refl _) _).trans (TB.below (Nat.le_refl _));have MB:=hid OB;clear OB TB;refine Stp.here ?_))
 refine Stp.go ?_
 have G1:=hid (h.out.later b)
 have P1:=hid (hk.out.below b)
 have HMP:=hid (HMP.out.later b)
 have B1:Hid (Below w.heap.size w w1):=b
 have z1:=MB.out.lt
 clear b hz c2
 go_wp2_with (first|(refine wpList_ldG rfl 30 _ rfl w.heap.size 10 rfl 32 _ MB.out [.int .i64 m.la.c,.int .i64 m.la.r,.int .i64 m.la.q,.int .i64 m.la.a,.int .i64 m.la.b,.slice v.ws.a v.ws.n v.ws.c] rfl _ Tryz.underlying30 rfl Tryz.sizeT ?_))
 refine(blank_any m.la.c m.la.r m.la.q m.la.a m.la.b v.ws m.la.ws _ HWN).mono ?_
 rintro e w2 ⟨rfl,b⟩
 have G1:=hid (G1.out.later b)
 have P1:=hid (P1.out.below b)
 have HMP:=hid (HMP.out.later b)
 have MB:=hid (MB.out.later b)
 have B1:=hid (bl_next B1.out b)
 have z2:=b.size
 clear b
 rw[hbl.out]
 go_wp2_with fail
 go_ret
 exact⟨rfl,B1.out⟩
theorem elAgain_yes (g:Nat) (k:Wv) (i:Nat) (m:Mt) (v:Mv) (w:World) (h:Hid (WkB w g k)) (hk:Hid (WkP w k)) (hi:i<k.ma.length) (hm:Hid (k.ma[i]=(m,v))) (hok:Hid (m.ok=true)) (hl:k.ma.length≤10) (hbl:Hid (ntB m.la.c m.la.r m.la.q m.la.a m.la.b m.la.ws=false)) (hml:k.ms.length≤1048576) (hfl:k.fl.length≤990000):
  Calls Tryz.prog 158 #[.pointer (some ⟨g,0,none⟩),.int .i64 (i:Int)] w fun e w'=>e=.returned (.int .i64 0)∧∃k':Wv,WkB w' g k'∧WkP w' k'∧k'.pl=againW k.pl m∧KeepBut g w w':=by
 have zg:g<w.heap.size:=Bx.lt h.out
 have hsz:Hid (MtS m):=ok_sizes hok.out
 obtain⟨_,gm,off,ha,_,hgl,hr⟩:=hk.out.ma.row hi
 have HR:Hid (w.rangeAt gm (off+i * 16) [.int .i64 m.id,.int .i64 m.rid,.slice v.ms.a v.ms.n v.ms.c,.slice v.its.a v.its.n v.its.c,.slice v.lv.a v.lv.n v.lv.c,.slice v.tx.a v.tx.n v.tx.c,.int .i64 m.rd,.int .i64 m.se,.int .i64 m.li,.int .i64 m.he,.int .i64 m.la.c,.int .i64 m.la.r,.int .i64 m.la.q,.int .i64 m.la.a,.int .i64 m.la.b,.slice v.ws.a v.ws.n v.ws.c]):=(by have e:=hm.out;rw[e]at hr;exact hr:World.rangeAt _ _ _ _)
 have HMP:Hid (MtP w m v):=(by have:=hk.out.ma.2 k.ma[i] (List.getElem_mem hi);rw[hm.out]at this;exact this:MtP _ _ _)
 have G1a:Hid (Bx w g 56 [.int .i64 k.rid,.slice k.mv.a k.mv.n k.mv.c,.slice (some ⟨gm,off,none⟩) k.mav.n k.mav.c,.slice k.flv.a k.flv.n k.flv.c,.slice k.hev.a k.hev.n k.hev.c,.slice k.sav.a k.sav.n k.sav.c]):=(by have G2:=h.out;unfold WkB at G2;rw[ha]at G2;exact G2:Bx _ _ _ _)
 have HMN:Hid (k.mav.n=k.ma.length):=hk.out.ma.len
 have HWN:Hid (v.ws.n=m.la.ws.length):=HMP.out.ws.slen
 have hin:i<k.mav.n:=by have:=HMN.out;omega
 have i0:(0:Int)≤(i:Int):=by omega
 have i1:(i:Int)<(k.mav.n:Int):=by omega
 have c2:=G1a.out.cell 2
 clear hr ha
 have hz:=hid (Bx.new w 32 [.int .i64 0,.int .i64 0,.slice none 0 0,.slice none 0 0,.slice none 0 0,.slice none 0 0,.int .i64 0,.int .i64 0,.int .i64 0,.int .i64 0,.int .i64 0,.int .i64 0,.int .i64 0,.int .i64 0,.int .i64 0,.slice none 0 0])
 go_enter Tryz.func158,Tryz.ntmps158
 go_wp2_with (first|(refine wpList_ldR rfl 32 _ rfl gm (off+i * 16) rfl [.int .i64 m.id,.int .i64 m.rid,.slice v.ms.a v.ms.n v.ms.c,.slice v.its.a v.its.n v.its.c,.slice v.lv.a v.lv.n v.lv.c,.slice v.tx.a v.tx.n v.tx.c,.int .i64 m.rd,.int .i64 m.se,.int .i64 m.li,.int .i64 m.he,.int .i64 m.la.c,.int .i64 m.la.r,.int .i64 m.la.q,.int .i64 m.la.a,.int .i64 m.la.b,.slice v.ws.a v.ws.n v.ws.c] HR.out _ Tryz.underlying32 rfl Tryz.sizeM ?_)|(refine wpList_stW rfl 32 _ _ rfl w.heap.size rfl 32 _ hz.out [.int .i64 m.id,.int .i64 m.rid,.slice v.ms.a v.ms.n v.ms.c,.slice v.its.a v.its.n v.its.c,.slice v.lv.a v.lv.n v.lv.c,.slice v.tx.a v.tx.n v.tx.c,.int .i64 m.rd,.int .i64 m.se,.int .i64 m.li,.int .i64 m.he,.int .i64 m.la.c,.int .i64 m.la.r,.int .i64 m.la.q,.int .i64 m.la.a,.int .i64 m.la.b,.slice v.ws.a v.ws.n v.ws.c] rfl rfl Tryz.sizeM rfl ?_;intro w1 OB TB;have b:Below w.heap.size w w1:=((Below.refl _ _).alloc (Nat.le_refl _) _).trans (TB.below (Nat.le_refl _));have MB:=hid OB;clear OB TB;refine Stp.here ?_))
 refine Stp.go ?_
 have G1:=hid (h.out.later b)
 have P1:=hid (hk.out.below b)
 have HMP:=hid (HMP.out.later b)
 have B1:Hid (Below w.heap.size w w1):=b
 have z1:=MB.out.lt
 clear b hz c2
 go_wp2_with (first|(refine wpList_ldG rfl 30 _ rfl w.heap.size 10 rfl 32 _ MB.out [.int .i64 m.la.c,.int .i64 m.la.r,.int .i64 m.la.q,.int .i64 m.la.a,.int .i64 m.la.b,.slice v.ws.a v.ws.n v.ws.c] rfl _ Tryz.underlying30 rfl Tryz.sizeT ?_))
 refine(blank_any m.la.c m.la.r m.la.q m.la.a m.la.b v.ws m.la.ws _ HWN).mono ?_
 rintro e w2 ⟨rfl,b⟩
 have G1:=hid (G1.out.later b)
 have P1:=hid (P1.out.below b)
 have HMP:=hid (HMP.out.later b)
 have MB:=hid (MB.out.later b)
 have B1:=hid (bl_next B1.out b)
 have z2:=b.size
 clear b
 rw[hbl.out]
 have b:=bA w2 (.cells #[] 41)
 have S3:Hid (SlI (w2.alloc (.cells #[] 41)) w2.heap.size (.slice (some ⟨w2.heap.size,0,none⟩) 0 0) []):=SlI.made w2 w2.heap.size (Nat.le_refl _)
 have B3:Hid (Below w2.heap.size w2 (w2.alloc (.cells #[] 41))):=b
 have HIN:Hid (v.its.n=m.its.length):=HMP.out.its.len
 have hil:m.its.length≤60:=iGo_short (ok_parts hok.out).2.2.1
 have hin2:v.its.n≤60:=by have:=HIN.out;omega
 clear b
 go_wp2_with fail
 generalize w2.alloc (.cells #[] 41)=W3 at *
 go_loopw [6,7] (fun v6 v7 wr=>∃(j:Nat),j≤v.its.n∧v7=.int .i64 (j:Int)∧Hid (SlI wr w2.heap.size v6 (ownP m.id (m.its.take j)))∧Hid (Below w2.heap.size w2 wr)) (fun _ v7 _=>v.its.n - (intOf v7).toNat)
 case atStart=>exact⟨0,Nat.zero_le _,rfl,by simpa [ownP] using S3,B3⟩
 case round=>
  clear S3 B3
  obtain⟨j,hj,rfl,SR,BR⟩:=hrel
  have MR:=hid (MB.out.later BR.out)
  have c3:=MR.out.cell 3
  have zr:w2.heap.size≤wr.heap.size:=BR.out.size
  by_cases hlt:j<v.its.n
  ·have hjL:j<m.its.length:=by have:=HIN.out;omega
   obtain⟨gi,oi,hia,_,hil2,hir⟩:=HMP.out.its.at hjL
   obtain⟨⟨q0,f0,l0,t0⟩,hy⟩: ∃y:It,m.its[j]=y:=⟨_,rfl⟩
   rw[hy]at hir
   have HY:Hid (m.its[j]=(q0,f0,l0,t0)):=hy
   have HIR:=hid (range_later hir hil2 BR.out)
   have hil3:gi<wr.heap.size:=by omega
   have hc1:wr.cell? ⟨gi,oi+j * 4+1,none⟩=some (.int .i64 f0):=by have:=range_cell HIR.out 1 (v:=.int .i64 f0) rfl;simpa using this
   have HC:Hid (wr.cell? ⟨gi,oi+j * 4+1,none⟩=some (.int .i64 f0)):=hc1
   clear hy hir hc1
   obtain⟨⟨msa,msn,msc⟩,⟨ia,inn,icc⟩,vlv,vtx,vws⟩:=v
   simp only at hia
   subst hia
   have i2:(0:Int)≤(j:Int):=by omega
   have i3:(j:Int)<(inn:Int):=by have:=hlt;simp at this;omega
   go_wp2_with fail
   go_cut [34]from 19 to 42 (fun a34 wx=>a34=.bool (f0==m.id)∧wx=wr.drew)
   case first=>
    refine wp_region_held_drew (S:=fun w'=>w'=wr.drew) (by kernel_rfl) rfl (fun hHeld=>?_)
    refine tkP (i:=0) rfl (by kernel_rfl) (fun _ _ _ h=>h) (by rfl) (fun w hSw=>by simp only[LgT,Lg0,LgS];go_simp;try with_reducible rfl) (by assumption) ?_
    try simp only[Act.put,LgT,Lg0,LgS,LsT,Ls0,LsS]
    refine tkH (i:=1) (v:=_) rfl (by kernel_rfl) (fun _ _ _ h=>h) (ld1_yield (by rfl) 27 _ rfl w.heap.size 3 rfl 32 _ (fun w hS=>by subst hS;exact MR.out.later (Below.refl _ _).drew) (.slice (some ⟨gi,oi,none⟩) inn icc) rfl _ Tryz.underlying27 rfl) (by assumption) ?_
    try simp only[Act.put,LgT,Lg0,LgS,LsT,Ls0,LsS]
    refine tkP (i:=2) rfl (by kernel_rfl) (fun _ _ _ h=>h) (by rfl) (fun w hSw=>by simp only[LgT,Lg0,LgS];go_simp;try with_reducible rfl) (by assumption) ?_
    try simp only[Act.put,LgT,Lg0,LgS,LsT,Ls0,LsS]
    refine tkP (i:=3) rfl (by kernel_rfl) (fun _ _ _ h=>h) (by rfl) (fun w hSw=>by simp only[LgT,Lg0,LgS];go_simp;try with_reducible rfl) (by assumption) ?_
    try simp only[Act.put,LgT,Lg0,LgS,LsT,Ls0,LsS]
    refine tkP (i:=4) rfl (by kernel_rfl) (fun _ _ _ h=>h) (by rfl) (fun w hSw=>by simp only[LgT,Lg0,LgS];go_simp;try with_reducible rfl) (by assumption) ?_
    try simp only[Act.put,LgT,Lg0,LgS,LsT,Ls0,LsS]
    refine tkH (i:=5) (v:=.int .i64 f0) rfl (by kernel_rfl) (fun _ _ _ h=>h) (Or.inl ⟨by rfl,fun w hS=>by subst hS;have hc0:=HC.out;go_simp⟩) (by assumption) ?_
    try simp only[Act.put,LsT,Ls0,LsS]
    refine tkP (i:=6) rfl (by kernel_rfl) (fun _ _ _ h=>h) (by rfl) (fun w hSw=>by simp only[LgT,Lg0,LgS];go_simp;try with_reducible rfl) (by assumption) ?_
    try simp only[Act.put,LgT,Lg0,LgS,LsT,Ls0,LsS]
    refine tkH (i:=7) (v:=_) rfl (by kernel_rfl) (fun _ _ _ h=>h) (ld1_yield (by rfl) 3 _ rfl w.heap.size 0 rfl 32 _ (fun w hS=>by subst hS;exact MR.out.later (Below.refl _ _).drew) (.int .i64 m.id) rfl _ Tryz.underlying3 rfl) (by assumption) ?_
    try simp only[Act.put,LgT,Lg0,LgS,LsT,Ls0,LsS]
    refine tkP (i:=8) rfl (by kernel_rfl) (fun _ _ _ h=>h) (by rfl) (fun w hSw=>by simp only[LgT,Lg0,LgS];go_simp;try with_reducible rfl) (by assumption) ?_
    try simp only[Act.put,LgT,Lg0,LgS,LsT,Ls0,LsS]
    refine wpAnyH_done (by kernel_rfl) ?_ _
    try go_wp2_with fail
    go_meet
    exact⟨rfl,rfl⟩
   case rest=>
   obtain⟨rfl,rfl⟩:=hcut
   have bd:Below wr.heap.size wr wr.drew:=(Below.refl _ _).drew
   have MR:=hid (MR.out.later bd)
   have SR:=hid (SR.out.below bd)
   have HIR:=hid (range_later HIR.out hil3 bd)
   have BR:=hid (bl_next BR.out bd)
   clear bd HC c3 hil3
   generalize wr.drew=Wd at *
   have c3:=MR.out.cell 3
   have zr:w2.heap.size≤Wd.heap.size:=BR.out.size
   have hol:(ownP m.id (m.its.take j)).length≤1048576:=by have e1:(ownP m.id (m.its.take j)).length≤(m.its.take j).length:=List.length_filter_le _ _;rw[List.length_take]at e1;omega
   by_cases hq:f0=m.id
   ·have hd:(f0==m.id)=true:=by simpa using hq
    have E:Hid (ownP m.id (m.its.take j)++[(q0,f0,l0,t0)]=ownP m.id (m.its.take (j+1))):=(by rw[ownP_step hjL,HY.out,if_pos hq]:_=_)
    rw[hd]
    clear hq
    go_wp2_with (first|(refine wpList_ldR rfl 41 _ rfl gi (oi+j * 4) rfl [.int .i64 q0,.int .i64 f0,.int .i64 l0,.string t0] HIR.out _ Tryz.underlying41 rfl Tryz.sizeI ?_)|(at_builtin;refine wpList_pushIt rfl _ _ 27 rfl Tryz.underlying27 w2.heap.size u6 (ownP m.id (m.its.take j)) rfl SR.out (q0,f0,l0,t0) rfl hol zr ?_;intro v9 w9 s9 g9 b9 _;refine Stp.here ?_))
    refine Stp.go ?_
    have S9:Hid (SlI w9 w2.heap.size v9 (ownP m.id (m.its.take (j+1)))):=(by rw[←E.out];exact s9:SlI _ _ _ _)
    have B9:=hid (BR.out.trans b9)
    clear s9 g9 b9 c3
    go_wp2_with fail
    go_roundw
    case rel=>exact⟨j+1,by omega,by go_num,S9,B9⟩
    case measure=>simp[intOf];omega
   ·have hd:(f0==m.id)=false:=by simpa using hq
    have E:Hid (ownP m.id (m.its.take j)=ownP m.id (m.its.take (j+1))):=(by rw[ownP_step hjL,HY.out,if_neg hq,List.append_nil]:_=_)
    rw[hd]
    clear hq
    go_wp2_with fail
    go_roundw
    case rel=>exact⟨j+1,by omega,by go_num,(by rw[←E.out];exact SR.out:SlI _ _ _ _),BR⟩
    case measure=>simp[intOf];omega
  ·have hjn:j=m.its.length:=by have:=HIN.out;omega
   have SR:Hid (SlI wr w2.heap.size u6 (ownP m.id m.its)):=(by have:=SR.out;rw[hjn,List.take_length]at this;exact this:SlI _ _ _ _)
   have hol:(ownP m.id m.its).length≤60:=by have e1:(ownP m.id m.its).length≤m.its.length:=List.length_filter_le _ _;omega
   obtain⟨z,hz⟩:=SlI.sv SR.out
   subst hz
   have SR:Hid (SlI wr 0 z.v (ownP m.id m.its)):=SlI.down SR.out (Nat.zero_le _)
   have G4:Hid (WkB wr g k):=G1.out.later BR.out
   have P4:=hid (P1.out.below BR.out)
   have W4:Hid (OwnI wr 0 v.ws.v m.la.ws):=HMP.out.ws.keep fun _ _ hk=>BR.out.block _ hk
   have KW:Hid (KeepBut g w wr):=keep_of_below (B1.out.trans (BR.out.mono B1.out.size))
   have c0:=MR.out.cell 0
   have hd: ¬j<v.its.n:=hlt
   clear hjn
   go_wp2_with (first|(refine wpList_ldG rfl 30 _ rfl w.heap.size 10 rfl 32 _ MR.out [.int .i64 m.la.c,.int .i64 m.la.r,.int .i64 m.la.q,.int .i64 m.la.a,.int .i64 m.la.b,.slice v.ws.a v.ws.n v.ws.c] rfl _ Tryz.underlying30 rfl Tryz.sizeT ?_))
   refine(elToken_any g k m.id m.la v.ws _ G4 P4 W4 hsz.out.ws hml (by omega)).mono ?_
   rintro e w5 ⟨rfl,z5,y5,g5,p5,k5⟩
   have G5:Hid (WkB w5 g (k.setF (k.fl++[(⟨nextP k.rid k.ms m.id,true,m.la,zIt⟩,y5)]) z5)):=g5
   have P5:Hid (WkP w5 (k.setF (k.fl++[(⟨nextP k.rid k.ms m.id,true,m.la,zIt⟩,y5)]) z5)):=p5
   have MR5:=hid (MR.out.keepb k5 (by omega))
   have SR5:=hid (SlI.keepb SR.out G4.out k5 (by decide))
   have KW5:=hid (KW.out.trans k5)
   clear g5 p5 k5 c0
   have c0:=MR5.out.cell 0
   go_wp2_with fail
   refine(elTell_any g _ m.id z (ownP m.id m.its) _ G5 P5 SR5 (by simpa [Wv.setF] using hl) (by omega) (by simp only[Wv.setF,List.length_append,List.length_cons,List.length_nil];omega)).mono ?_
   rintro e w6 ⟨rfl,z6,g6,p6,k6⟩
   go_wp2_with fail
   go_ret
   refine⟨rfl,_,g6,p6,?_,KW5.out.trans k6⟩
   simp only[Wv.pl,Wv.setF,againW,List.map_append,List.map_cons,List.map_nil]
def sayW (p:Wp) (i:Nat) (m:Mt) (l:Int) (x:ByteArray):Wp:=⟨p.rid,p.ms,p.ma.set i (sayM m l x),p.fl,p.he,p.sa⟩
theorem elDo_hear (g:Nat) (k:Wv) (i:Nat) (m:Mt) (v:Mv) (d at0 l:Int) (x:ByteArray) (w:World) (h:Hid (WkB w g k)) (hk:Hid (WkP w k)) (hi:i<k.ma.length) (hm:Hid (k.ma[i]=(m,v))) (hat:Hid (atW (k.ma.map (·.1)) d=(i:Int))) (hok:Hid (m.ok=true)) (hl:k.ma.length≤10) (hhe:k.he.length=k.ma.length) (hhl:Hid (∀e∈k.he,e.1.length≤1000000)):
  Calls Tryz.prog 87 #[.pointer (some ⟨g,0,none⟩),.agg #[.int .i64 7,.int .i64 d,.int .i64 at0,.int .i64 l,.string x]] w fun e w'=>e=.returned (.int .i64 0)∧∃k':Wv,WkB w' g k'∧WkP w' k'∧k'.pl=hearW k.pl i m∧KeepBut g w w':=by
 have zg:g<w.heap.size:=Bx.lt h.out
 have hsz:Hid (MtS m):=ok_sizes hok.out
 have b0:=bA w (.cells #[.int .i64 7,.int .i64 d,.int .i64 at0,.int .i64 l,.string x] 64)
 have TB:=hid (Bx.new w 64 [.int .i64 7,.int .i64 d,.int .i64 at0,.int .i64 l,.string x])
 have G0:=hid (h.out.later b0)
 have P0:=hid (hk.out.below b0)
 have B0:Hid (Below w.heap.size w (w.alloc (.cells #[.int .i64 7,.int .i64 d,.int .i64 at0,.int .i64 l,.string x] 64))):=b0
 have t1:=TB.out.cell 1
 clear b0 h hk
 go_enter Tryz.func87,Tryz.ntmps87
 go_wp2_with fail
 have zW:w.heap.size<(w.alloc (.cells #[.int .i64 7,.int .i64 d,.int .i64 at0,.int .i64 l,.string x] 64)).heap.size:=TB.out.lt
 generalize (w.alloc (.cells #[.int .i64 7,.int .i64 d,.int .i64 at0,.int .i64 l,.string x] 64))=W at *
 refine(elAt_any g k d _ G0 P0.out.ma (by omega)).mono ?_
 rintro e w1 ⟨rfl,b⟩
 rw[hat.out]
 have TB:=hid (TB.out.later b)
 have G1:=hid (G0.out.later b)
 have P1:=hid (P0.out.below b)
 have B1:=hid (bl_next B0.out b)
 have z1:=b.size
 clear b G0 P0 B0 t1
 have t0:=TB.out.cell 0
 go_wp2_with fail
 refine(elHear_any g k i m v _ G1 P1 hi hm hok hl hhe hhl).mono ?_
 rintro e w2 ⟨rfl,k2,g2,p2,e2,kb⟩
 go_wp2_with fail
 go_ret
 exact⟨rfl,k2,g2,p2,e2,(keep_of_below B1.out).trans kb⟩
theorem elDo_again_no (g:Nat) (k:Wv) (i:Nat) (m:Mt) (v:Mv) (d at0 l:Int) (x:ByteArray) (w:World) (h:Hid (WkB w g k)) (hk:Hid (WkP w k)) (hi:i<k.ma.length) (hm:Hid (k.ma[i]=(m,v))) (hat:Hid (atW (k.ma.map (·.1)) d=(i:Int))) (hok:Hid (m.ok=true)) (hl:k.ma.length≤10) (hbl:Hid (ntB m.la.c m.la.r m.la.q m.la.a m.la.b m.la.ws=true)):
  Calls Tryz.prog 87 #[.pointer (some ⟨g,0,none⟩),.agg #[.int .i64 6,.int .i64 d,.int .i64 at0,.int .i64 l,.string x]] w fun e w'=>e=.returned (.int .i64 1)∧Below w.heap.size w w':=by
 have zg:g<w.heap.size:=Bx.lt h.out
 have hsz:Hid (MtS m):=ok_sizes hok.out
 have b0:=bA w (.cells #[.int .i64 6,.int .i64 d,.int .i64 at0,.int .i64 l,.string x] 64)
 have TB:=hid (Bx.new w 64 [.int .i64 6,.int .i64 d,.int .i64 at0,.int .i64 l,.string x])
 have G0:=hid (h.out.later b0)
 have P0:=hid (hk.out.below b0)
 have B0:Hid (Below w.heap.size w (w.alloc (.cells #[.int .i64 6,.int .i64 d,.int .i64 at0,.int .i64 l,.string x] 64))):=b0
 have t1:=TB.out.cell 1
 clear b0 h hk
 go_enter Tryz.func87,Tryz.ntmps87
 go_wp2_with fail
 have zW:w.heap.size<(w.alloc (.cells #[.int .i64 6,.int .i64 d,.int .i64 at0,.int .i64 l,.string x] 64)).heap.size:=TB.out.lt
 generalize (w.alloc (.cells #[.int .i64 6,.int .i64 d,.int .i64 at0,.int .i64 l,.string x] 64))=W at *
 refine(elAt_any g k d _ G0 P0.out.ma (by omega)).mono ?_
 rintro e w1 ⟨rfl,b⟩
 rw[hat.out]
 have TB:=hid (TB.out.later b)
 have G1:=hid (G0.out.later b)
 have P1:=hid (P0.out.below b)
 have B1:=hid (bl_next B0.out b)
 have z1:=b.size
 clear b G0 P0 B0 t1
 have t0:=TB.out.cell 0
 go_wp2_with fail
 refine(elAgain_no g k i m v _ G1 P1 hi hm hok hl hbl).mono ?_
 rintro e w2 ⟨rfl,b⟩
 go_wp2_with fail
 go_ret
 exact⟨rfl,bl_next B1.out b⟩
theorem elDo_again_yes (g:Nat) (k:Wv) (i:Nat) (m:Mt) (v:Mv) (d at0 l:Int) (x:ByteArray) (w:World) (h:Hid (WkB w g k)) (hk:Hid (WkP w k)) (hi:i<k.ma.length) (hm:Hid (k.ma[i]=(m,v))) (hat:Hid (atW (k.ma.map (·.1)) d=(i:Int))) (hok:Hid (m.ok=true)) (hl:k.ma.length≤10) (hbl:Hid (ntB m.la.c m.la.r m.la.q m.la.a m.la.b m.la.ws=false)) (hml:k.ms.length≤1048576) (hfl:k.fl.length≤990000):
  Calls Tryz.prog 87 #[.pointer (some ⟨g,0,none⟩),.agg #[.int .i64 6,.int .i64 d,.int .i64 at0,.int .i64 l,.string x]] w fun e w'=>e=.returned (.int .i64 0)∧∃k':Wv,WkB w' g k'∧WkP w' k'∧k'.pl=againW k.pl m∧KeepBut g w w':=by
 have zg:g<w.heap.size:=Bx.lt h.out
 have hsz:Hid (MtS m):=ok_sizes hok.out
 have b0:=bA w (.cells #[.int .i64 6,.int .i64 d,.int .i64 at0,.int .i64 l,.string x] 64)
 have TB:=hid (Bx.new w 64 [.int .i64 6,.int .i64 d,.int .i64 at0,.int .i64 l,.string x])
 have G0:=hid (h.out.later b0)
 have P0:=hid (hk.out.below b0)
 have B0:Hid (Below w.heap.size w (w.alloc (.cells #[.int .i64 6,.int .i64 d,.int .i64 at0,.int .i64 l,.string x] 64))):=b0
 have t1:=TB.out.cell 1
 clear b0 h hk
 go_enter Tryz.func87,Tryz.ntmps87
 go_wp2_with fail
 have zW:w.heap.size<(w.alloc (.cells #[.int .i64 6,.int .i64 d,.int .i64 at0,.int .i64 l,.string x] 64)).heap.size:=TB.out.lt
 generalize (w.alloc (.cells #[.int .i64 6,.int .i64 d,.int .i64 at0,.int .i64 l,.string x] 64))=W at *
 refine(elAt_any g k d _ G0 P0.out.ma (by omega)).mono ?_
 rintro e w1 ⟨rfl,b⟩
 rw[hat.out]
 have TB:=hid (TB.out.later b)
 have G1:=hid (G0.out.later b)
 have P1:=hid (P0.out.below b)
 have B1:=hid (bl_next B0.out b)
 have z1:=b.size
 clear b G0 P0 B0 t1
 have t0:=TB.out.cell 0
 go_wp2_with fail
 refine(elAgain_yes g k i m v _ G1 P1 hi hm hok hl hbl hml hfl).mono ?_
 rintro e w2 ⟨rfl,k2,g2,p2,e2,kb⟩
 go_wp2_with fail
 go_ret
 exact⟨rfl,k2,g2,p2,e2,(keep_of_below B1.out).trans kb⟩
def SayP (okb:Bool) (g:Nat) (PP:Wp) (w:World) (e:Ending) (w':World):Prop:=
 match okb with
 |false=>e=.returned (.int .i64 1)∧Below w.heap.size w w'
 |true=>e=.returned (.int .i64 0)∧∃k':Wv,WkB w' g k'∧WkP w' k'∧k'.pl=PP∧KeepBut g w w'
theorem elDo_say (g:Nat) (k:Wv) (i:Nat) (m:Mt) (v:Mv) (d at0 l:Int) (x:ByteArray) (w:World) (h:Hid (WkB w g k)) (hk:Hid (WkP w k)) (hi:i<k.ma.length) (hm:Hid (k.ma[i]=(m,v))) (hat:Hid (atW (k.ma.map (·.1)) d=(i:Int))) (hok:Hid (m.ok=true)) (hl:k.ma.length≤10) (okb:Bool) (m2:Mt) (hS:Hid (∀w9:World,Hid (MtP w9 m v)→Calls Tryz.prog 155 #[.agg #[.int .i64 m.id,.int .i64 m.rid,.slice v.ms.a v.ms.n v.ms.c,.slice v.its.a v.its.n v.its.c,.slice v.lv.a v.lv.n v.lv.c,.slice v.tx.a v.tx.n v.tx.c,.int .i64 m.rd,.int .i64 m.se,.int .i64 m.li,.int .i64 m.he,.int .i64 m.la.c,.int .i64 m.la.r,.int .i64 m.la.q,.int .i64 m.la.a,.int .i64 m.la.b,.slice v.ws.a v.ws.n v.ws.c],.int .i64 l,.string x] w9 fun e w'=>∃u:Mv,e=.returned (.tuple #[.agg #[.int .i64 m2.id,.int .i64 m2.rid,.slice u.ms.a u.ms.n u.ms.c,.slice u.its.a u.its.n u.its.c,.slice u.lv.a u.lv.n u.lv.c,.slice u.tx.a u.tx.n u.tx.c,.int .i64 m2.rd,.int .i64 m2.se,.int .i64 m2.li,.int .i64 m2.he,.int .i64 m2.la.c,.int .i64 m2.la.r,.int .i64 m2.la.q,.int .i64 m2.la.a,.int .i64 m2.la.b,.slice u.ws.a u.ws.n u.ws.c],.bool okb])∧(okb=true→MtP w' m2 u)∧Below w9.heap.size w9 w')):
  Calls Tryz.prog 87 #[.pointer (some ⟨g,0,none⟩),.agg #[.int .i64 1,.int .i64 d,.int .i64 at0,.int .i64 l,.string x]] w fun e w'=>SayP okb g ⟨k.pl.rid,k.pl.ms,k.pl.ma.set i m2,k.pl.fl,k.pl.he,k.pl.sa⟩ w e w':=by
 have zg:g<w.heap.size:=Bx.lt h.out
 have hsz:Hid (MtS m):=ok_sizes hok.out
 have b0:=bA w (.cells #[.int .i64 1,.int .i64 d,.int .i64 at0,.int .i64 l,.string x] 64)
 have TB:=hid (Bx.new w 64 [.int .i64 1,.int .i64 d,.int .i64 at0,.int .i64 l,.string x])
 have G0:=hid (h.out.later b0)
 have P0:=hid (hk.out.below b0)
 have B0:Hid (Below w.heap.size w (w.alloc (.cells #[.int .i64 1,.int .i64 d,.int .i64 at0,.int .i64 l,.string x] 64))):=b0
 have t1:=TB.out.cell 1
 clear b0 h hk
 go_enter Tryz.func87,Tryz.ntmps87
 go_wp2_with fail
 have zW:w.heap.size<(w.alloc (.cells #[.int .i64 1,.int .i64 d,.int .i64 at0,.int .i64 l,.string x] 64)).heap.size:=TB.out.lt
 generalize (w.alloc (.cells #[.int .i64 1,.int .i64 d,.int .i64 at0,.int .i64 l,.string x] 64))=W at *
 refine(elAt_any g k d _ G0 P0.out.ma (by omega)).mono ?_
 rintro e w1 ⟨rfl,b⟩
 rw[hat.out]
 have TB:=hid (TB.out.later b)
 have G1:=hid (G0.out.later b)
 have P1:=hid (P0.out.below b)
 have B1:=hid (bl_next B0.out b)
 have z1:=b.size
 clear b G0 P0 B0 t1
 have t0:=TB.out.cell 0
 obtain⟨_,gm,off,ha,_,hgl,hr⟩:=P1.out.ma.row hi
 have HR:Hid (w1.rangeAt gm (off+i * 16) [.int .i64 m.id,.int .i64 m.rid,.slice v.ms.a v.ms.n v.ms.c,.slice v.its.a v.its.n v.its.c,.slice v.lv.a v.lv.n v.lv.c,.slice v.tx.a v.tx.n v.tx.c,.int .i64 m.rd,.int .i64 m.se,.int .i64 m.li,.int .i64 m.he,.int .i64 m.la.c,.int .i64 m.la.r,.int .i64 m.la.q,.int .i64 m.la.a,.int .i64 m.la.b,.slice v.ws.a v.ws.n v.ws.c]):=(by have e:=hm.out;rw[e]at hr;exact hr:World.rangeAt _ _ _ _)
 have HMP:Hid (MtP w1 m v):=(by have:=P1.out.ma.2 k.ma[i] (List.getElem_mem hi);rw[hm.out]at this;exact this:MtP _ _ _)
 have G1a:Hid (Bx w1 g 56 [.int .i64 k.rid,.slice k.mv.a k.mv.n k.mv.c,.slice (some ⟨gm,off,none⟩) k.mav.n k.mav.c,.slice k.flv.a k.flv.n k.flv.c,.slice k.hev.a k.hev.n k.hev.c,.slice k.sav.a k.sav.n k.sav.c]):=(by have G2:=G1.out;unfold WkB at G2;rw[ha]at G2;exact G2:Bx _ _ _ _)
 have HMN:Hid (k.mav.n=k.ma.length):=P1.out.ma.len
 have hin:i<k.mav.n:=by have:=HMN.out;omega
 have i0:(0:Int)≤(i:Int):=by omega
 have i1:(i:Int)<(k.mav.n:Int):=by omega
 clear hr ha
 go_wp2_with fail
 go_cut [6,7] (fun a6 a7 wx=>∃(gb:Nat) (u:Mv),a6=.pointer (some ⟨gb,0,none⟩)∧a7=.bool okb∧Bx wx gb 32 [.int .i64 m2.id,.int .i64 m2.rid,.slice u.ms.a u.ms.n u.ms.c,.slice u.its.a u.its.n u.its.c,.slice u.lv.a u.lv.n u.lv.c,.slice u.tx.a u.tx.n u.tx.c,.int .i64 m2.rd,.int .i64 m2.se,.int .i64 m2.li,.int .i64 m2.he,.int .i64 m2.la.c,.int .i64 m2.la.r,.int .i64 m2.la.q,.int .i64 m2.la.a,.int .i64 m2.la.b,.slice u.ws.a u.ws.n u.ws.c]∧(okb=true→MtP wx m2 u)∧w1.heap.size≤gb∧Below w1.heap.size w1 wx)
 case first=>
  have c:Below w1.heap.size w1 w1.drew:=(Below.refl _ _).drew
  refine wp_region_held_drew (S:=fun w'=>Below w1.heap.size w1 w') (by kernel_rfl) c (fun hHeld=>?_)
  refine tkP (i:=0) rfl (by kernel_rfl) (fun _ _ _ h=>h) (by rfl) (fun w hSw=>by simp only[LgT,Lg0,LgS];go_simp;try with_reducible rfl) (by assumption) ?_
  try simp only[Act.put,LgT,Lg0,LgS,LsT,Ls0,LsS]
  refine tkP (i:=1) rfl (by kernel_rfl) (fun _ _ _ h=>h) (by rfl) (fun w hSw=>by simp only[LgT,Lg0,LgS];go_simp;try with_reducible rfl) (by assumption) ?_
  try simp only[Act.put,LgT,Lg0,LgS,LsT,Ls0,LsS]
  refine tkP (i:=2) rfl (by kernel_rfl) (fun _ _ _ h=>h) (by rfl) (fun w hSw=>by simp only[LgT,Lg0,LgS];go_simp;try with_reducible rfl) (by assumption) ?_
  try simp only[Act.put,LgT,Lg0,LgS,LsT,Ls0,LsS]
  refine tkH (i:=3) (v:=_) rfl (by kernel_rfl) (fun _ _ _ h=>h) (ld1_yield (by rfl) 52 _ rfl g 2 rfl 56 _ (fun w hS=>G1a.out.later hS) (.slice (some ⟨gm,off,none⟩) k.mav.n k.mav.c) rfl _ Tryz.underlying52 rfl) (by assumption) ?_
  try simp only[Act.put,LgT,Lg0,LgS,LsT,Ls0,LsS]
  refine tkP (i:=4) rfl (by kernel_rfl) (fun _ _ _ h=>h) (by rfl) (fun w hSw=>by simp only[LgT,Lg0,LgS];go_simp;try with_reducible rfl) (by assumption) ?_
  try simp only[Act.put,LgT,Lg0,LgS,LsT,Ls0,LsS]
  refine tkP (i:=5) rfl (by kernel_rfl) (fun _ _ _ h=>h) (by rfl) (fun w hSw=>by simp only[LgT,Lg0,LgS];go_simp;try with_reducible rfl) (by assumption) ?_
  try simp only[Act.put,LgT,Lg0,LgS,LsT,Ls0,LsS]
  refine tkH (i:=6) (v:=_) rfl (by kernel_rfl) (fun _ _ _ h=>h) (ldN_yield (by rfl) 32 _ rfl gm (off+i * 16) (by rfl) [.int .i64 m.id,.int .i64 m.rid,.slice v.ms.a v.ms.n v.ms.c,.slice v.its.a v.its.n v.its.c,.slice v.lv.a v.lv.n v.lv.c,.slice v.tx.a v.tx.n v.tx.c,.int .i64 m.rd,.int .i64 m.se,.int .i64 m.li,.int .i64 m.he,.int .i64 m.la.c,.int .i64 m.la.r,.int .i64 m.la.q,.int .i64 m.la.a,.int .i64 m.la.b,.slice v.ws.a v.ws.n v.ws.c] (fun w hS=>range_later HR.out hgl hS) _ Tryz.underlying32 rfl Tryz.sizeM) (by assumption) ?_
  try simp only[Act.put,LsT,Ls0,LsS]
  refine tkP (i:=7) rfl (by kernel_rfl) (fun _ _ _ h=>h) (by rfl) (fun w hSw=>by simp only[LgT,Lg0,LgS];go_simp;try with_reducible rfl) (by assumption) ?_
  try simp only[Act.put,LgT,Lg0,LgS,LsT,Ls0,LsS]
  refine tkH (i:=8) (v:=_) rfl (by kernel_rfl) (fun _ _ _ h=>h) (ld1_yield (by rfl) 3 _ rfl w.heap.size 3 rfl 64 _ (fun w hS=>TB.out.later hS) (.int .i64 l) rfl _ Tryz.underlying3 rfl) (by assumption) ?_
  try simp only[Act.put,LgT,Lg0,LgS,LsT,Ls0,LsS]
  refine tkP (i:=9) rfl (by kernel_rfl) (fun _ _ _ h=>h) (by rfl) (fun w hSw=>by simp only[LgT,Lg0,LgS];go_simp;try with_reducible rfl) (by assumption) ?_
  try simp only[Act.put,LgT,Lg0,LgS,LsT,Ls0,LsS]
  refine tkH (i:=10) (v:=_) rfl (by kernel_rfl) (fun _ _ _ h=>h) (ld1_yield (by rfl) 9 _ rfl w.heap.size 4 rfl 64 _ (fun w hS=>TB.out.later hS) (.string x) rfl _ Tryz.underlying9 rfl) (by assumption) ?_
  try simp only[Act.put,LgT,Lg0,LgS,LsT,Ls0,LsS]
  refine wpAnyH_ready (rs:=[11,15]) (by kernel_rfl) (by simp) ?_
  refine(AllReadyH.cons (i:=11) rfl (fun K hK=>?_) (AllReadyH.cons (i:=15) rfl (fun K hK=>?_) AllReadyH.nil))
  ·skip
   rw[if_pos (by rfl)]
   simp only[LgT,Lg0,LgS]
   go_simp
   refine(hS.out _ (show Hid (MtP w1.drew m v)from HMP.out.later c)).mono ?_
   rintro e y1 ⟨u,rfl,ou,b⟩
   have HU:Hid (okb=true→MtP y1 m2 u):=ou
   have c:=bl_next c b
   refine hK.out _ _ (c) (fun hHeld=>?_)
   clear hK K
   try simp only[Act.put,LgT,Lg0,LgS,LsT,Ls0,LsS]
   clear b ou
   refine tkP (i:=12) rfl (by kernel_rfl) (fun _ _ _ h=>h) (by rfl) (fun w hSw=>by simp only[LgT,Lg0,LgS];go_simp;try with_reducible rfl) (by assumption) ?_
   try simp only[Act.put,LgT,Lg0,LgS,LsT,Ls0,LsS]
   refine tkP (i:=13) rfl (by kernel_rfl) (fun _ _ _ h=>h) (by rfl) (fun w hSw=>by simp only[LgT,Lg0,LgS];go_simp;try with_reducible rfl) (by assumption) ?_
   try simp only[Act.put,LgT,Lg0,LgS,LsT,Ls0,LsS]
   refine tkP (i:=14) rfl (by kernel_rfl) (fun _ _ _ h=>h) (by rfl) (fun w hSw=>by simp only[LgT,Lg0,LgS];go_simp;try with_reducible rfl) (by assumption) ?_
   try simp only[Act.put,LgT,Lg0,LgS,LsT,Ls0,LsS]
   refine wpAnyH_ready (rs:=[15]) (by kernel_rfl) (by simp) ?_
   refine AllReadyH.cons (i:=15) rfl (fun K hK=>?_) AllReadyH.nil
   rw[if_pos (by rfl)]
   simp only[LgT,Lg0,LgS]
   go_simp
   have b:=bA y1 (.cells zzM.toArray 32)
   have HU:Hid (okb=true→MtP (y1.alloc (.cells zzM.toArray 32)) m2 u):=fun e=>(HU.out e).later b
   have BM:=hid (bxAt y1 32 [.int .i64 0,.int .i64 0,.slice none 0 0,.slice none 0 0,.slice none 0 0,.slice none 0 0,.int .i64 0,.int .i64 0,.int .i64 0,.int .i64 0,.int .i64 0,.int .i64 0,.int .i64 0,.int .i64 0,.int .i64 0,.slice none 0 0] y1.heap.size (by simp))
   have zBM:w1.heap.size≤y1.heap.size:=by have h:=c.size;rw[show y1.heap.size=y1.heap.size by simp]at h;exact h
   have c:=bl_next c b
   refine hK.out _ _ (c) (fun hHeld=>?_)
   clear hK K
   try simp only[Act.put,LgT,Lg0,LgS,LsT,Ls0,LsS]
   clear b
   refine wpAnyH_ready (rs:=[16]) (by kernel_rfl) (by simp) ?_
   refine AllReadyH.cons (i:=16) rfl (fun K hK=>?_) AllReadyH.nil
   rw[if_pos (by rfl)]
   simp only[LgT,Lg0,LgS]
   refine wp_stW 32 _ _ rfl y1.heap.size (by rfl) 32 _ BM.out [.int .i64 m2.id,.int .i64 m2.rid,.slice u.ms.a u.ms.n u.ms.c,.slice u.its.a u.its.n u.its.c,.slice u.lv.a u.lv.n u.lv.c,.slice u.tx.a u.tx.n u.tx.c,.int .i64 m2.rd,.int .i64 m2.se,.int .i64 m2.li,.int .i64 m2.he,.int .i64 m2.la.c,.int .i64 m2.la.r,.int .i64 m2.la.q,.int .i64 m2.la.a,.int .i64 m2.la.b,.slice u.ws.a u.ws.n u.ws.c] (by rfl) rfl Tryz.sizeM rfl ?_
   intro x1 kb kt
   have HU:Hid (okb=true→MtP x1 m2 u):=fun e=>(HU.out e).keepb BM.out kt.keep (by decide) (by decide) (by decide)
   have c:=c.trans (kt.below zBM)
   have BM:=hid kb
   refine hK.out _ _ (c) (fun hHeld=>?_)
   clear hK K
   try simp only[Act.put,LgT,Lg0,LgS,LsT,Ls0,LsS]
   clear kb kt
   refine tkP (i:=17) rfl (by kernel_rfl) (fun _ _ _ h=>h) (by rfl) (fun w hSw=>by simp only[LgT,Lg0,LgS];go_simp;try with_reducible rfl) (by assumption) ?_
   try simp only[Act.put,LgT,Lg0,LgS,LsT,Ls0,LsS]
   refine wpAnyH_done (by kernel_rfl) ?_ _
   try go_wp2_with fail
   go_meet
   exact⟨y1.heap.size,u,rfl,rfl,BM.out,HU.out,zBM,c⟩
  ·skip
   rw[if_pos (by rfl)]
   simp only[LgT,Lg0,LgS]
   go_simp
   have b:=bA w1.drew (.cells zzM.toArray 32)
   have BM:=hid (bxAt w1.drew 32 [.int .i64 0,.int .i64 0,.slice none 0 0,.slice none 0 0,.slice none 0 0,.slice none 0 0,.int .i64 0,.int .i64 0,.int .i64 0,.int .i64 0,.int .i64 0,.int .i64 0,.int .i64 0,.int .i64 0,.int .i64 0,.slice none 0 0] w1.heap.size (by simp))
   have zBM:w1.heap.size≤w1.heap.size:=by have h:=c.size;rw[show w1.drew.heap.size=w1.heap.size by simp]at h;exact h
   have c:=bl_next c b
   refine hK.out _ _ (c) (fun hHeld=>?_)
   clear hK K
   try simp only[Act.put,LgT,Lg0,LgS,LsT,Ls0,LsS]
   clear b
   refine wpAnyH_ready (rs:=[11]) (by kernel_rfl) (by simp) ?_
   refine AllReadyH.cons (i:=11) rfl (fun K hK=>?_) AllReadyH.nil
   rw[if_pos (by rfl)]
   simp only[LgT,Lg0,LgS]
   go_simp
   refine(hS.out _ (show Hid (MtP (w1.drew.alloc (.cells zzM.toArray 32)) m v)from HMP.out.later c)).mono ?_
   rintro e y1 ⟨u,rfl,ou,b⟩
   have BM:=hid (BM.out.later b)
   have HU:Hid (okb=true→MtP y1 m2 u):=ou
   have c:=bl_next c b
   refine hK.out _ _ (c) (fun hHeld=>?_)
   clear hK K
   try simp only[Act.put,LgT,Lg0,LgS,LsT,Ls0,LsS]
   clear b ou
   refine tkP (i:=12) rfl (by kernel_rfl) (fun _ _ _ h=>h) (by rfl) (fun w hSw=>by simp only[LgT,Lg0,LgS];go_simp;try with_reducible rfl) (by assumption) ?_
   try simp only[Act.put,LgT,Lg0,LgS,LsT,Ls0,LsS]
   refine tkP (i:=13) rfl (by kernel_rfl) (fun _ _ _ h=>h) (by rfl) (fun w hSw=>by simp only[LgT,Lg0,LgS];go_simp;try with_reducible rfl) (by assumption) ?_
   try simp only[Act.put,LgT,Lg0,LgS,LsT,Ls0,LsS]
   refine tkP (i:=14) rfl (by kernel_rfl) (fun _ _ _ h=>h) (by rfl) (fun w hSw=>by simp only[LgT,Lg0,LgS];go_simp;try with_reducible rfl) (by assumption) ?_
   try simp only[Act.put,LgT,Lg0,LgS,LsT,Ls0,LsS]
   refine wpAnyH_ready (rs:=[16]) (by kernel_rfl) (by simp) ?_
   refine AllReadyH.cons (i:=16) rfl (fun K hK=>?_) AllReadyH.nil
   rw[if_pos (by rfl)]
   simp only[LgT,Lg0,LgS]
   refine wp_stW 32 _ _ rfl w1.heap.size (by rfl) 32 _ BM.out [.int .i64 m2.id,.int .i64 m2.rid,.slice u.ms.a u.ms.n u.ms.c,.slice u.its.a u.its.n u.its.c,.slice u.lv.a u.lv.n u.lv.c,.slice u.tx.a u.tx.n u.tx.c,.int .i64 m2.rd,.int .i64 m2.se,.int .i64 m2.li,.int .i64 m2.he,.int .i64 m2.la.c,.int .i64 m2.la.r,.int .i64 m2.la.q,.int .i64 m2.la.a,.int .i64 m2.la.b,.slice u.ws.a u.ws.n u.ws.c] (by rfl) rfl Tryz.sizeM rfl ?_
   intro x1 kb kt
   have HU:Hid (okb=true→MtP x1 m2 u):=fun e=>(HU.out e).keepb BM.out kt.keep (by decide) (by decide) (by decide)
   have c:=c.trans (kt.below zBM)
   have BM:=hid kb
   refine hK.out _ _ (c) (fun hHeld=>?_)
   clear hK K
   try simp only[Act.put,LgT,Lg0,LgS,LsT,Ls0,LsS]
   clear kb kt
   refine tkP (i:=17) rfl (by kernel_rfl) (fun _ _ _ h=>h) (by rfl) (fun w hSw=>by simp only[LgT,Lg0,LgS];go_simp;try with_reducible rfl) (by assumption) ?_
   try simp only[Act.put,LgT,Lg0,LgS,LsT,Ls0,LsS]
   refine wpAnyH_done (by kernel_rfl) ?_ _
   try go_wp2_with fail
   go_meet
   exact⟨w1.heap.size,u,rfl,rfl,BM.out,HU.out,zBM,c⟩
 case rest=>
 obtain⟨gb,u,rfl,rfl,bm,hcc,zb,b2⟩:=hcut
 generalize wc=w2 at *
 cases okb with
 |false=>
  go_wp2_with fail
  go_ret
  exact(show SayP false _ _ _ _ _ from⟨rfl,bl_next B1.out b2⟩)
 |true=>
 have hu:=hcc rfl
 have BM:Hid (Bx w2 gb 32 [.int .i64 m2.id,.int .i64 m2.rid,.slice u.ms.a u.ms.n u.ms.c,.slice u.its.a u.its.n u.its.c,.slice u.lv.a u.lv.n u.lv.c,.slice u.tx.a u.tx.n u.tx.c,.int .i64 m2.rd,.int .i64 m2.se,.int .i64 m2.li,.int .i64 m2.he,.int .i64 m2.la.c,.int .i64 m2.la.r,.int .i64 m2.la.q,.int .i64 m2.la.a,.int .i64 m2.la.b,.slice u.ws.a u.ws.n u.ws.c]):=bm
 have HU:Hid (MtP w2 m2 u):=hu
 have G2:=hid (G1.out.later b2)
 have P2:=hid (P1.out.below b2)
 have B2:=hid (bl_next B1.out b2)
 clear bm hu hcc b2 G1 P1 G1a HMP HR B1 TB t0
 go_wp2_with (first|(refine wpList_ldG rfl 32 _ rfl gb 0 rfl 32 _ BM.out [.int .i64 m2.id,.int .i64 m2.rid,.slice u.ms.a u.ms.n u.ms.c,.slice u.its.a u.its.n u.its.c,.slice u.lv.a u.lv.n u.lv.c,.slice u.tx.a u.tx.n u.tx.c,.int .i64 m2.rd,.int .i64 m2.se,.int .i64 m2.li,.int .i64 m2.he,.int .i64 m2.la.c,.int .i64 m2.la.r,.int .i64 m2.la.q,.int .i64 m2.la.a,.int .i64 m2.la.b,.slice u.ws.a u.ws.n u.ws.c] rfl _ Tryz.underlying32 rfl Tryz.sizeM ?_))
 refine(elMate_any g k i m2 u _ G2 P2 HU hi (by omega)).mono ?_
 rintro e w3 ⟨rfl,mz,g3,p3,k3⟩
 go_wp2_with fail
 go_ret
 refine(show SayP true _ _ _ _ _ from⟨rfl,_,g3,p3,?_,(keep_of_below B2.out).trans k3⟩)
 simp only[Wv.pl,Wv.setM,List.map_set]
theorem elDo_say_no (g:Nat) (k:Wv) (i:Nat) (m:Mt) (v:Mv) (d at0 l:Int) (x:ByteArray) (w:World) (h:Hid (WkB w g k)) (hk:Hid (WkP w k)) (hi:i<k.ma.length) (hm:Hid (k.ma[i]=(m,v))) (hat:Hid (atW (k.ma.map (·.1)) d=(i:Int))) (hok:Hid (m.ok=true)) (hl:k.ma.length≤10) (hx:x.size≤1048576) (hsy:Hid (sayOk m l x=false)):
  Calls Tryz.prog 87 #[.pointer (some ⟨g,0,none⟩),.agg #[.int .i64 1,.int .i64 d,.int .i64 at0,.int .i64 l,.string x]] w fun e w'=>e=.returned (.int .i64 1)∧Below w.heap.size w w':=
 elDo_say g k i m v d at0 l x w h hk hi hm hat hok hl false zMt (fun w9 h1=>(spSay_no m v l x w9 h1 (ok_sizes hok.out) hx hsy).mono fun e w' ⟨he,b⟩=>⟨zMv,he,(fun e=>by cases e),b⟩)
theorem elDo_say_yes (g:Nat) (k:Wv) (i:Nat) (m:Mt) (v:Mv) (d at0 l:Int) (x:ByteArray) (w:World) (h:Hid (WkB w g k)) (hk:Hid (WkP w k)) (hi:i<k.ma.length) (hm:Hid (k.ma[i]=(m,v))) (hat:Hid (atW (k.ma.map (·.1)) d=(i:Int))) (hok:Hid (m.ok=true)) (hl:k.ma.length≤10) (hx:x.size≤1048576) (hsy:Hid (sayOk m l x=true)):
  Calls Tryz.prog 87 #[.pointer (some ⟨g,0,none⟩),.agg #[.int .i64 1,.int .i64 d,.int .i64 at0,.int .i64 l,.string x]] w fun e w'=>e=.returned (.int .i64 0)∧∃k':Wv,WkB w' g k'∧WkP w' k'∧k'.pl=sayW k.pl i m l x∧KeepBut g w w':=
 elDo_say g k i m v d at0 l x w h hk hi hm hat hok hl true (sayM m l x) (fun w9 h1=>(spSay_yes m v l x w9 h1 (ok_sizes hok.out) hx hsy).mono fun e w' ⟨u,he,ou,b⟩=>⟨u,he,(fun _=>ou.p),b⟩)
theorem spHold_no (m:Mt) (v:Mv) (t:Tok) (s:Sv) (w:World) (h:Hid (MtP w m v)) (hs:Hid (OwnI w 0 s.v t.ws)) (hl:t.ws.length≤1048576) (hsz:Hid (MtS m)) (hok:Hid (m.ok=true)) (hmay:Hid (mayB m t=false)):
  Calls Tryz.prog 12 #[.agg #[.int .i64 m.id,.int .i64 m.rid,.slice v.ms.a v.ms.n v.ms.c,.slice v.its.a v.its.n v.its.c,.slice v.lv.a v.lv.n v.lv.c,.slice v.tx.a v.tx.n v.tx.c,.int .i64 m.rd,.int .i64 m.se,.int .i64 m.li,.int .i64 m.he,.int .i64 m.la.c,.int .i64 m.la.r,.int .i64 m.la.q,.int .i64 m.la.a,.int .i64 m.la.b,.slice v.ws.a v.ws.n v.ws.c],.agg #[.int .i64 t.c,.int .i64 t.r,.int .i64 t.q,.int .i64 t.a,.int .i64 t.b,.slice s.a s.n s.c]] w fun e w'=>∃(u:Mv) (fs:Sv),e=.returned (.tuple #[.agg #[.int .i64 m.id,.int .i64 m.rid,.slice u.ms.a u.ms.n u.ms.c,.slice u.its.a u.its.n u.its.c,.slice u.lv.a u.lv.n u.lv.c,.slice u.tx.a u.tx.n u.tx.c,.int .i64 m.rd,.int .i64 m.se,.int .i64 m.li,.int .i64 m.he,.int .i64 m.la.c,.int .i64 m.la.r,.int .i64 m.la.q,.int .i64 m.la.a,.int .i64 m.la.b,.slice u.ws.a u.ws.n u.ws.c],.slice fs.a fs.n fs.c,.agg #[.int .i64 0,.int .i64 0,.int .i64 0,.int .i64 0,.int .i64 0,.slice none 0 0],.bool false])∧SlI w' 0 fs.v []∧Below w.heap.size w w':=by
 obtain⟨MA,TK,RM,RZT,BW⟩:=en4 w 32 [.int .i64 m.id,.int .i64 m.rid,.slice v.ms.a v.ms.n v.ms.c,.slice v.its.a v.its.n v.its.c,.slice v.lv.a v.lv.n v.lv.c,.slice v.tx.a v.tx.n v.tx.c,.int .i64 m.rd,.int .i64 m.se,.int .i64 m.li,.int .i64 m.he,.int .i64 m.la.c,.int .i64 m.la.r,.int .i64 m.la.q,.int .i64 m.la.a,.int .i64 m.la.b,.slice v.ws.a v.ws.n v.ws.c] 30 [.int .i64 t.c,.int .i64 t.r,.int .i64 t.q,.int .i64 t.a,.int .i64 t.b,.slice s.a s.n s.c] 32 [.int .i64 0,.int .i64 0,.slice none 0 0,.slice none 0 0,.slice none 0 0,.slice none 0 0,.int .i64 0,.int .i64 0,.int .i64 0,.int .i64 0,.int .i64 0,.int .i64 0,.int .i64 0,.int .i64 0,.int .i64 0,.slice none 0 0] 30 [.int .i64 0,.int .i64 0,.int .i64 0,.int .i64 0,.int .i64 0,.slice none 0 0]
 have QM:=hid (h.out.later BW.out)
 have SW:=hid (ownL hs.out BW.out)
 clear h hs
 go_enter Tryz.func12,Tryz.ntmps12
 go_wp2_with (first|(refine wpList_ldG rfl 32 _ rfl w.heap.size 0 rfl 32 _ MA.out [.int .i64 m.id,.int .i64 m.rid,.slice v.ms.a v.ms.n v.ms.c,.slice v.its.a v.its.n v.its.c,.slice v.lv.a v.lv.n v.lv.c,.slice v.tx.a v.tx.n v.tx.c,.int .i64 m.rd,.int .i64 m.se,.int .i64 m.li,.int .i64 m.he,.int .i64 m.la.c,.int .i64 m.la.r,.int .i64 m.la.q,.int .i64 m.la.a,.int .i64 m.la.b,.slice v.ws.a v.ws.n v.ws.c] rfl _ Tryz.underlying32 rfl Tryz.sizeM ?_))
 generalize ((((w.alloc (.cells #[.int .i64 m.id,.int .i64 m.rid,.slice v.ms.a v.ms.n v.ms.c,.slice v.its.a v.its.n v.its.c,.slice v.lv.a v.lv.n v.lv.c,.slice v.tx.a v.tx.n v.tx.c,.int .i64 m.rd,.int .i64 m.se,.int .i64 m.li,.int .i64 m.he,.int .i64 m.la.c,.int .i64 m.la.r,.int .i64 m.la.q,.int .i64 m.la.a,.int .i64 m.la.b,.slice v.ws.a v.ws.n v.ws.c] 32)).alloc (.cells #[.int .i64 t.c,.int .i64 t.r,.int .i64 t.q,.int .i64 t.a,.int .i64 t.b,.slice s.a s.n s.c] 30)).alloc (.cells #[.int .i64 0,.int .i64 0,.slice none 0 0,.slice none 0 0,.slice none 0 0,.slice none 0 0,.int .i64 0,.int .i64 0,.int .i64 0,.int .i64 0,.int .i64 0,.int .i64 0,.int .i64 0,.int .i64 0,.int .i64 0,.slice none 0 0] 32)).alloc (.cells #[.int .i64 0,.int .i64 0,.int .i64 0,.int .i64 0,.int .i64 0,.slice none 0 0] 30))=W at *
 have zW:w.heap.size+3<W.heap.size:=RZT.out.lt
 refine(tenCopy_any m v _ QM hsz).mono ?_
 rintro e w1 ⟨u,rfl,o1,b⟩
 have z_w1:=b.size
 have MA:=hid (MA.out.later b)
 have TK:=hid (TK.out.later b)
 have RM:=hid (RM.out.later b)
 have RZT:=hid (RZT.out.later b)
 have BW:=hid (bl_next BW.out b)
 have QM:=hid (QM.out.later b)
 have SW:=hid (ownL SW.out b)
 clear b
 clear o1
 have hz:=hid (Bx.new w1 32 [.int .i64 0,.int .i64 0,.slice none 0 0,.slice none 0 0,.slice none 0 0,.slice none 0 0,.int .i64 0,.int .i64 0,.int .i64 0,.int .i64 0,.int .i64 0,.int .i64 0,.int .i64 0,.int .i64 0,.int .i64 0,.slice none 0 0])
 go_wp2_with (first|(refine wpList_stW rfl 32 _ _ rfl w1.heap.size rfl 32 _ hz.out [.int .i64 m.id,.int .i64 m.rid,.slice u.ms.a u.ms.n u.ms.c,.slice u.its.a u.its.n u.its.c,.slice u.lv.a u.lv.n u.lv.c,.slice u.tx.a u.tx.n u.tx.c,.int .i64 m.rd,.int .i64 m.se,.int .i64 m.li,.int .i64 m.he,.int .i64 m.la.c,.int .i64 m.la.r,.int .i64 m.la.q,.int .i64 m.la.a,.int .i64 m.la.b,.slice u.ws.a u.ws.n u.ws.c] rfl rfl Tryz.sizeM rfl ?_;intro w2 OB TB;have b:Below w1.heap.size w1 w2:=((Below.refl _ _).alloc (Nat.le_refl _) _).trans (TB.below (Nat.le_refl _));have G:=hid OB;have z_w2:=b.size;have MA:=hid (MA.out.later b);have TK:=hid (TK.out.later b);have RM:=hid (RM.out.later b);have RZT:=hid (RZT.out.later b);have BW:=hid (bl_next BW.out b);have QM:=hid (QM.out.later b);have SW:=hid (ownL SW.out b);clear OB TB b;refine Stp.here ?_))
 refine Stp.go ?_
 clear hz
 have zl_G:=G.out.lt
 generalize hg_G:w1.heap.size=g at *
 clear hg_G
 have b:=bA w2 (.cells #[] 41)
 have MA:=hid (MA.out.later b)
 have TK:=hid (TK.out.later b)
 have RM:=hid (RM.out.later b)
 have RZT:=hid (RZT.out.later b)
 have BW:=hid (bl_next BW.out b)
 have QM:=hid (QM.out.later b)
 have SW:=hid (ownL SW.out b)
 have G:=hid (G.out.later b)
 have SE:Hid (SlI (w2.alloc (.cells #[] 41)) 0 ((.slice (some ⟨w2.heap.size,0,none⟩) 0 0)) ([])):=SlI.made w2 0 (Nat.zero_le _)
 clear b
 go_wp2_with (first|(refine wpList_ldG rfl 32 _ rfl w.heap.size 0 rfl 32 _ MA.out [.int .i64 m.id,.int .i64 m.rid,.slice v.ms.a v.ms.n v.ms.c,.slice v.its.a v.its.n v.its.c,.slice v.lv.a v.lv.n v.lv.c,.slice v.tx.a v.tx.n v.tx.c,.int .i64 m.rd,.int .i64 m.se,.int .i64 m.li,.int .i64 m.he,.int .i64 m.la.c,.int .i64 m.la.r,.int .i64 m.la.q,.int .i64 m.la.a,.int .i64 m.la.b,.slice v.ws.a v.ws.n v.ws.c] rfl _ Tryz.underlying32 rfl Tryz.sizeM ?_))
 generalize (w2.alloc (.cells #[] 41))=w3 at *
 refine(spMateOk_any m v _ QM.out.r hsz).mono ?_
 rintro e w4 ⟨rfl,b⟩
 have z_w4:=b.size
 have MA:=hid (MA.out.later b)
 have TK:=hid (TK.out.later b)
 have RM:=hid (RM.out.later b)
 have RZT:=hid (RZT.out.later b)
 have BW:=hid (bl_next BW.out b)
 have QM:=hid (QM.out.later b)
 have SW:=hid (ownL SW.out b)
 have G:=hid (G.out.later b)
 have SE:=hid (SE.out.below b)
 clear b
 rw[hok.out]
 clear QM
 go_wp2_with (first|(refine wpList_ldG rfl 30 _ rfl (w.heap.size+1) 0 rfl 30 _ TK.out [.int .i64 t.c,.int .i64 t.r,.int .i64 t.q,.int .i64 t.a,.int .i64 t.b,.slice s.a s.n s.c] rfl _ Tryz.underlying30 rfl Tryz.sizeT ?_))
 refine(spTokenOk_r t.c t.r t.q t.a t.b t.ws (show Hid (RI w4 (.slice s.a s.n s.c) t.ws)from SW.out.ri) hl).mono ?_
 rintro e w5 ⟨rfl,b⟩
 have z_w5:=b.size
 have MA:=hid (MA.out.later b)
 have TK:=hid (TK.out.later b)
 have RM:=hid (RM.out.later b)
 have RZT:=hid (RZT.out.later b)
 have BW:=hid (bl_next BW.out b)
 have SW:=hid (ownL SW.out b)
 have G:=hid (G.out.later b)
 have SE:=hid (SE.out.below b)
 clear b
 have c_TK_0:=TK.out.cell 0
 have c_TK_1:=TK.out.cell 1
 have c_MA_1:=MA.out.cell 1
 have c_MA_6:=MA.out.cell 6
 cases htk:tkB t.c t.r t.q t.a t.b t.ws with
 |false=>
  clear htk
  go_wp2_with (first|(refine wpList_ldG rfl 32 _ rfl g 0 rfl 32 _ G.out [.int .i64 m.id,.int .i64 m.rid,.slice u.ms.a u.ms.n u.ms.c,.slice u.its.a u.its.n u.its.c,.slice u.lv.a u.lv.n u.lv.c,.slice u.tx.a u.tx.n u.tx.c,.int .i64 m.rd,.int .i64 m.se,.int .i64 m.li,.int .i64 m.he,.int .i64 m.la.c,.int .i64 m.la.r,.int .i64 m.la.q,.int .i64 m.la.a,.int .i64 m.la.b,.slice u.ws.a u.ws.n u.ws.c] rfl _ Tryz.underlying32 rfl Tryz.sizeM ?_)|(refine wpList_stW rfl 32 _ _ rfl (w.heap.size+2) rfl 32 _ RM.out [.int .i64 m.id,.int .i64 m.rid,.slice u.ms.a u.ms.n u.ms.c,.slice u.its.a u.its.n u.its.c,.slice u.lv.a u.lv.n u.lv.c,.slice u.tx.a u.tx.n u.tx.c,.int .i64 m.rd,.int .i64 m.se,.int .i64 m.li,.int .i64 m.he,.int .i64 m.la.c,.int .i64 m.la.r,.int .i64 m.la.q,.int .i64 m.la.a,.int .i64 m.la.b,.slice u.ws.a u.ws.n u.ws.c] rfl rfl Tryz.sizeM rfl ?_;intro w6 R6 T6;have RZ6:=hid (RZT.out.turn T6 (by omega)))|(refine wpList_stW rfl 30 _ _ rfl (w.heap.size+3) rfl 30 _ RZ6.out [.int .i64 0,.int .i64 0,.int .i64 0,.int .i64 0,.int .i64 0,.slice none 0 0] rfl rfl Tryz.sizeT rfl ?_;intro w7 R7 T7;have R6:=Bx.turn R6 T7 (by omega)))
  refine bodyPost_ret (results_btbt Tryz.results12 (w.heap.size+2) 32 [.int .i64 m.id,.int .i64 m.rid,.slice u.ms.a u.ms.n u.ms.c,.slice u.its.a u.its.n u.its.c,.slice u.lv.a u.lv.n u.lv.c,.slice u.tx.a u.tx.n u.tx.c,.int .i64 m.rd,.int .i64 m.se,.int .i64 m.li,.int .i64 m.he,.int .i64 m.la.c,.int .i64 m.la.r,.int .i64 m.la.q,.int .i64 m.la.a,.int .i64 m.la.b,.slice u.ws.a u.ws.n u.ws.c] _ rfl R6 Tryz.underlying32 rfl Tryz.sizeM (w.heap.size+3) 30 [.int .i64 0,.int .i64 0,.int .i64 0,.int .i64 0,.int .i64 0,.slice none 0 0] _ rfl R7 Tryz.underlying30 rfl Tryz.sizeT) rfl ?_
  exact⟨u,⟨some ⟨w2.heap.size,0,none⟩,0,0⟩,rfl,SlI.past (SlI.past SE.out RM.out T6 (by decide)) RZ6.out T7 (by decide),(BW.out.trans (T6.below (by omega))).trans (T7.below (by omega))⟩
 |true=>
  have hmy:=hmay.out
  unfold mayB at hmy
  rw[htk,Bool.true_and]at hmy
  clear htk
  by_cases hcr:t.c=m.rid
  ·have q1:(t.c==m.rid)=true:=by simpa using hcr
   have q4:(t.c !=m.rid)=false:=by simpa using hcr
   have hmy: ¬(m.rd+1≤t.r∧t.r≤999999999):=by simpa [hcr] using hmy
   clear hcr
   by_cases h2:t.r≤m.rd
   ·have q2:decide (t.r≤m.rd)=true:=by simpa using h2
    clear h2 hmy
    go_wp2_with (first|(refine wpList_ldG rfl 32 _ rfl g 0 rfl 32 _ G.out [.int .i64 m.id,.int .i64 m.rid,.slice u.ms.a u.ms.n u.ms.c,.slice u.its.a u.its.n u.its.c,.slice u.lv.a u.lv.n u.lv.c,.slice u.tx.a u.tx.n u.tx.c,.int .i64 m.rd,.int .i64 m.se,.int .i64 m.li,.int .i64 m.he,.int .i64 m.la.c,.int .i64 m.la.r,.int .i64 m.la.q,.int .i64 m.la.a,.int .i64 m.la.b,.slice u.ws.a u.ws.n u.ws.c] rfl _ Tryz.underlying32 rfl Tryz.sizeM ?_)|(refine wpList_stW rfl 32 _ _ rfl (w.heap.size+2) rfl 32 _ RM.out [.int .i64 m.id,.int .i64 m.rid,.slice u.ms.a u.ms.n u.ms.c,.slice u.its.a u.its.n u.its.c,.slice u.lv.a u.lv.n u.lv.c,.slice u.tx.a u.tx.n u.tx.c,.int .i64 m.rd,.int .i64 m.se,.int .i64 m.li,.int .i64 m.he,.int .i64 m.la.c,.int .i64 m.la.r,.int .i64 m.la.q,.int .i64 m.la.a,.int .i64 m.la.b,.slice u.ws.a u.ws.n u.ws.c] rfl rfl Tryz.sizeM rfl ?_;intro w6 R6 T6;have RZ6:=hid (RZT.out.turn T6 (by omega)))|(refine wpList_stW rfl 30 _ _ rfl (w.heap.size+3) rfl 30 _ RZ6.out [.int .i64 0,.int .i64 0,.int .i64 0,.int .i64 0,.int .i64 0,.slice none 0 0] rfl rfl Tryz.sizeT rfl ?_;intro w7 R7 T7;have R6:=Bx.turn R6 T7 (by omega)))
    refine bodyPost_ret (results_btbt Tryz.results12 (w.heap.size+2) 32 [.int .i64 m.id,.int .i64 m.rid,.slice u.ms.a u.ms.n u.ms.c,.slice u.its.a u.its.n u.its.c,.slice u.lv.a u.lv.n u.lv.c,.slice u.tx.a u.tx.n u.tx.c,.int .i64 m.rd,.int .i64 m.se,.int .i64 m.li,.int .i64 m.he,.int .i64 m.la.c,.int .i64 m.la.r,.int .i64 m.la.q,.int .i64 m.la.a,.int .i64 m.la.b,.slice u.ws.a u.ws.n u.ws.c] _ rfl R6 Tryz.underlying32 rfl Tryz.sizeM (w.heap.size+3) 30 [.int .i64 0,.int .i64 0,.int .i64 0,.int .i64 0,.int .i64 0,.slice none 0 0] _ rfl R7 Tryz.underlying30 rfl Tryz.sizeT) rfl ?_
    exact⟨u,⟨some ⟨w2.heap.size,0,none⟩,0,0⟩,rfl,SlI.past (SlI.past SE.out RM.out T6 (by decide)) RZ6.out T7 (by decide),(BW.out.trans (T6.below (by omega))).trans (T7.below (by omega))⟩
   ·have q2:decide (t.r≤m.rd)=false:=by simpa using h2
    have q3:decide (1000000000≤t.r)=true:=by simp;omega
    clear h2 hmy
    go_wp2_with (first|(refine wpList_ldG rfl 32 _ rfl g 0 rfl 32 _ G.out [.int .i64 m.id,.int .i64 m.rid,.slice u.ms.a u.ms.n u.ms.c,.slice u.its.a u.its.n u.its.c,.slice u.lv.a u.lv.n u.lv.c,.slice u.tx.a u.tx.n u.tx.c,.int .i64 m.rd,.int .i64 m.se,.int .i64 m.li,.int .i64 m.he,.int .i64 m.la.c,.int .i64 m.la.r,.int .i64 m.la.q,.int .i64 m.la.a,.int .i64 m.la.b,.slice u.ws.a u.ws.n u.ws.c] rfl _ Tryz.underlying32 rfl Tryz.sizeM ?_)|(refine wpList_stW rfl 32 _ _ rfl (w.heap.size+2) rfl 32 _ RM.out [.int .i64 m.id,.int .i64 m.rid,.slice u.ms.a u.ms.n u.ms.c,.slice u.its.a u.its.n u.its.c,.slice u.lv.a u.lv.n u.lv.c,.slice u.tx.a u.tx.n u.tx.c,.int .i64 m.rd,.int .i64 m.se,.int .i64 m.li,.int .i64 m.he,.int .i64 m.la.c,.int .i64 m.la.r,.int .i64 m.la.q,.int .i64 m.la.a,.int .i64 m.la.b,.slice u.ws.a u.ws.n u.ws.c] rfl rfl Tryz.sizeM rfl ?_;intro w6 R6 T6;have RZ6:=hid (RZT.out.turn T6 (by omega)))|(refine wpList_stW rfl 30 _ _ rfl (w.heap.size+3) rfl 30 _ RZ6.out [.int .i64 0,.int .i64 0,.int .i64 0,.int .i64 0,.int .i64 0,.slice none 0 0] rfl rfl Tryz.sizeT rfl ?_;intro w7 R7 T7;have R6:=Bx.turn R6 T7 (by omega)))
    refine bodyPost_ret (results_btbt Tryz.results12 (w.heap.size+2) 32 [.int .i64 m.id,.int .i64 m.rid,.slice u.ms.a u.ms.n u.ms.c,.slice u.its.a u.its.n u.its.c,.slice u.lv.a u.lv.n u.lv.c,.slice u.tx.a u.tx.n u.tx.c,.int .i64 m.rd,.int .i64 m.se,.int .i64 m.li,.int .i64 m.he,.int .i64 m.la.c,.int .i64 m.la.r,.int .i64 m.la.q,.int .i64 m.la.a,.int .i64 m.la.b,.slice u.ws.a u.ws.n u.ws.c] _ rfl R6 Tryz.underlying32 rfl Tryz.sizeM (w.heap.size+3) 30 [.int .i64 0,.int .i64 0,.int .i64 0,.int .i64 0,.int .i64 0,.slice none 0 0] _ rfl R7 Tryz.underlying30 rfl Tryz.sizeT) rfl ?_
    exact⟨u,⟨some ⟨w2.heap.size,0,none⟩,0,0⟩,rfl,SlI.past (SlI.past SE.out RM.out T6 (by decide)) RZ6.out T7 (by decide),(BW.out.trans (T6.below (by omega))).trans (T7.below (by omega))⟩
  ·have q1:(t.c==m.rid)=false:=by simpa using hcr
   have q4:(t.c !=m.rid)=true:=by simpa using hcr
   clear hcr hmy
   go_wp2_with (first|(refine wpList_ldG rfl 32 _ rfl g 0 rfl 32 _ G.out [.int .i64 m.id,.int .i64 m.rid,.slice u.ms.a u.ms.n u.ms.c,.slice u.its.a u.its.n u.its.c,.slice u.lv.a u.lv.n u.lv.c,.slice u.tx.a u.tx.n u.tx.c,.int .i64 m.rd,.int .i64 m.se,.int .i64 m.li,.int .i64 m.he,.int .i64 m.la.c,.int .i64 m.la.r,.int .i64 m.la.q,.int .i64 m.la.a,.int .i64 m.la.b,.slice u.ws.a u.ws.n u.ws.c] rfl _ Tryz.underlying32 rfl Tryz.sizeM ?_)|(refine wpList_stW rfl 32 _ _ rfl (w.heap.size+2) rfl 32 _ RM.out [.int .i64 m.id,.int .i64 m.rid,.slice u.ms.a u.ms.n u.ms.c,.slice u.its.a u.its.n u.its.c,.slice u.lv.a u.lv.n u.lv.c,.slice u.tx.a u.tx.n u.tx.c,.int .i64 m.rd,.int .i64 m.se,.int .i64 m.li,.int .i64 m.he,.int .i64 m.la.c,.int .i64 m.la.r,.int .i64 m.la.q,.int .i64 m.la.a,.int .i64 m.la.b,.slice u.ws.a u.ws.n u.ws.c] rfl rfl Tryz.sizeM rfl ?_;intro w6 R6 T6;have RZ6:=hid (RZT.out.turn T6 (by omega)))|(refine wpList_stW rfl 30 _ _ rfl (w.heap.size+3) rfl 30 _ RZ6.out [.int .i64 0,.int .i64 0,.int .i64 0,.int .i64 0,.int .i64 0,.slice none 0 0] rfl rfl Tryz.sizeT rfl ?_;intro w7 R7 T7;have R6:=Bx.turn R6 T7 (by omega)))
   refine bodyPost_ret (results_btbt Tryz.results12 (w.heap.size+2) 32 [.int .i64 m.id,.int .i64 m.rid,.slice u.ms.a u.ms.n u.ms.c,.slice u.its.a u.its.n u.its.c,.slice u.lv.a u.lv.n u.lv.c,.slice u.tx.a u.tx.n u.tx.c,.int .i64 m.rd,.int .i64 m.se,.int .i64 m.li,.int .i64 m.he,.int .i64 m.la.c,.int .i64 m.la.r,.int .i64 m.la.q,.int .i64 m.la.a,.int .i64 m.la.b,.slice u.ws.a u.ws.n u.ws.c] _ rfl R6 Tryz.underlying32 rfl Tryz.sizeM (w.heap.size+3) 30 [.int .i64 0,.int .i64 0,.int .i64 0,.int .i64 0,.int .i64 0,.slice none 0 0] _ rfl R7 Tryz.underlying30 rfl Tryz.sizeT) rfl ?_
   exact⟨u,⟨some ⟨w2.heap.size,0,none⟩,0,0⟩,rfl,SlI.past (SlI.past SE.out RM.out T6 (by decide)) RZ6.out T7 (by decide),(BW.out.trans (T6.below (by omega))).trans (T7.below (by omega))⟩
def newQ (t:Tok) (l:List It):List It:=l.filter fun x=>decide (t.q<x.1)
def comeT (p:Wp) (i:Nat) (d:Int) (m:Mt) (t:Tok):Wp:=⟨p.rid,p.ms,p.ma.set i (m.sheld t),p.fl++(tellL (p.ma.set i (m.sheld t)) d (saidL m t)).map (·.1)++[⟨nextP p.rid p.ms d,true,sTok m t,zIt⟩],p.he,p.sa++newQ t (saidL m t)⟩
def Wv.setS (k:Wv) (sa:List It) (z:Sv):Wv:=⟨k.rid,k.ms,k.mv,k.ma,k.mav,k.fl,k.flv,k.he,k.hev,sa,z⟩
theorem newP_step {t:Tok} {l:List It} {j:Nat} (hj:j<l.length):newQ t (l.take (j+1))=newQ t (l.take j)++if t.q<l[j].1 then[l[j]]else[]:=by
 unfold newQ
 rw[List.take_succ_eq_append_getElem hj,List.filter_append]
 congr 1
 by_cases h:t.q<l[j].1
 ·simp[h]
 ·simp[h]
theorem newQ_len (t:Tok) (l:List It):(newQ t l).length≤l.length:=List.length_filter_le _ _
theorem said_len {m:Mt} (h:m.ok=true) (t:Tok):(saidL m t).length≤63:=by
 have h1:=iGo_short (ok_parts h).2.2.1
 have h2:=fresh_len m t
 have h3:(giveP t.ws m.its).length≤m.its.length:=List.length_filter_le _ _
 unfold saidL
 rw[List.length_append]
 omega
def comeG (p:Wp) (i:Nat) (d:Int) (m2:Mt) (L2:List It) (t2 t:Tok):Wp:=⟨p.rid,p.ms,p.ma.set i m2,p.fl++(tellL (p.ma.set i m2) d L2).map (·.1)++[⟨nextP p.rid p.ms d,true,t2,zIt⟩],p.he,p.sa++newQ t L2⟩
structure HdR (w:World) (m2:Mt) (u:Mv) (fs:Sv) (L2:List It) (t2:Tok) (sn:Sv):Prop where
 mt:MtP w m2 u
 it:SlI w 0 fs.v L2
 tk:OwnI w 0 sn.v t2.ws
theorem HdR.later {w w':World} {m2:Mt} {u:Mv} {fs:Sv} {L2:List It} {t2:Tok} {sn:Sv} (h:HdR w m2 u fs L2 t2 sn) (b:Below w.heap.size w w'):HdR w' m2 u fs L2 t2 sn:=⟨h.mt.later b,h.it.below b,h.tk.keep fun _ _ hk=>b.block _ hk⟩
theorem HdR.keepb {w w':World} {m2:Mt} {u:Mv} {fs:Sv} {L2:List It} {t2:Tok} {sn:Sv} {g T:Nat} {cs:List Value} (h:HdR w m2 u fs L2 t2 sn) (hB:Bx w g T cs) (k:KeepBut g w w') (h3:T≠3) (h9:T≠9) (hi:T≠41):HdR w' m2 u fs L2 t2 sn:=
 ⟨h.mt.keepb hB k h3 h9 hi,SlI.keepb h.it hB k hi,h.tk.keepb hB k h3⟩
def ComeP (okb:Bool) (g:Nat) (PP:Wp) (w:World) (e:Ending) (w':World):Prop:=
 match okb with
 |false=>e=.returned (.int .i64 1)∧Below w.heap.size w w'
 |true=>e=.returned (.int .i64 0)∧∃k':Wv,WkB w' g k'∧WkP w' k'∧k'.pl=PP∧KeepBut g w w'
theorem elCome_tok (g:Nat) (k:Wv) (i:Nat) (m:Mt) (v:Mv) (d:Int) (t:Tok) (s:Sv) (q0 f0 l0:Int) (t0:ByteArray) (w:World) (h:Hid (WkB w g k)) (hk:Hid (WkP w k)) (hi:i<k.ma.length) (hm:Hid (k.ma[i]=(m,v))) (hat:Hid (atW (k.ma.map (·.1)) d=(i:Int))) (hok:Hid (m.ok=true)) (hl:k.ma.length≤10) (hs:Hid (OwnI w 0 s.v t.ws)) (okb:Bool) (m2:Mt) (L2:List It) (t2:Tok) (hH:Hid (∀w9:World,Hid (MtP w9 m v)→Hid (OwnI w9 0 s.v t.ws)→Calls Tryz.prog 12 #[.agg #[.int .i64 m.id,.int .i64 m.rid,.slice v.ms.a v.ms.n v.ms.c,.slice v.its.a v.its.n v.its.c,.slice v.lv.a v.lv.n v.lv.c,.slice v.tx.a v.tx.n v.tx.c,.int .i64 m.rd,.int .i64 m.se,.int .i64 m.li,.int .i64 m.he,.int .i64 m.la.c,.int .i64 m.la.r,.int .i64 m.la.q,.int .i64 m.la.a,.int .i64 m.la.b,.slice v.ws.a v.ws.n v.ws.c],.agg #[.int .i64 t.c,.int .i64 t.r,.int .i64 t.q,.int .i64 t.a,.int .i64 t.b,.slice s.a s.n s.c]] w9 fun e w'=>∃(u:Mv) (fs sn:Sv),e=.returned (.tuple #[.agg #[.int .i64 m2.id,.int .i64 m2.rid,.slice u.ms.a u.ms.n u.ms.c,.slice u.its.a u.its.n u.its.c,.slice u.lv.a u.lv.n u.lv.c,.slice u.tx.a u.tx.n u.tx.c,.int .i64 m2.rd,.int .i64 m2.se,.int .i64 m2.li,.int .i64 m2.he,.int .i64 m2.la.c,.int .i64 m2.la.r,.int .i64 m2.la.q,.int .i64 m2.la.a,.int .i64 m2.la.b,.slice u.ws.a u.ws.n u.ws.c],.slice fs.a fs.n fs.c,.agg #[.int .i64 t2.c,.int .i64 t2.r,.int .i64 t2.q,.int .i64 t2.a,.int .i64 t2.b,.slice sn.a sn.n sn.c],.bool okb])∧(okb=true→HdR w' m2 u fs L2 t2 sn)∧Below w9.heap.size w9 w')) (hLl2:L2.length≤63) (ht2:t2.ws.length≤1048576) (hbig:okb=true→k.ms.length≤1048576∧k.fl.length≤990000∧k.sa.length≤990000):
  Calls Tryz.prog 159 #[.pointer (some ⟨g,0,none⟩),.agg #[.int .i64 d,.bool true,.int .i64 t.c,.int .i64 t.r,.int .i64 t.q,.int .i64 t.a,.int .i64 t.b,.slice s.a s.n s.c,.int .i64 q0,.int .i64 f0,.int .i64 l0,.string t0]] w fun e w'=>ComeP okb g (comeG k.pl i d m2 L2 t2 t) w e w':=by
 have zg:g<w.heap.size:=Bx.lt h.out
 have hsz:Hid (MtS m):=ok_sizes hok.out
 have b0:=bA w (.cells #[.int .i64 d,.bool true,.int .i64 t.c,.int .i64 t.r,.int .i64 t.q,.int .i64 t.a,.int .i64 t.b,.slice s.a s.n s.c,.int .i64 q0,.int .i64 f0,.int .i64 l0,.string t0] 68)
 have FB:=hid (Bx.new w 68 [.int .i64 d,.bool true,.int .i64 t.c,.int .i64 t.r,.int .i64 t.q,.int .i64 t.a,.int .i64 t.b,.slice s.a s.n s.c,.int .i64 q0,.int .i64 f0,.int .i64 l0,.string t0])
 have G0:=hid (h.out.later b0)
 have P0:=hid (hk.out.below b0)
 have B0:Hid (Below w.heap.size w (w.alloc (.cells #[.int .i64 d,.bool true,.int .i64 t.c,.int .i64 t.r,.int .i64 t.q,.int .i64 t.a,.int .i64 t.b,.slice s.a s.n s.c,.int .i64 q0,.int .i64 f0,.int .i64 l0,.string t0] 68))):=b0
 have f00:=FB.out.cell 0
 have d0:decide ((i:Int)<0)=false:=by simp
 clear b0 h hk
 go_enter Tryz.func159,Tryz.ntmps159
 go_wp2_with fail
 have zW:w.heap.size<(w.alloc (.cells #[.int .i64 d,.bool true,.int .i64 t.c,.int .i64 t.r,.int .i64 t.q,.int .i64 t.a,.int .i64 t.b,.slice s.a s.n s.c,.int .i64 q0,.int .i64 f0,.int .i64 l0,.string t0] 68)).heap.size:=FB.out.lt
 generalize (w.alloc (.cells #[.int .i64 d,.bool true,.int .i64 t.c,.int .i64 t.r,.int .i64 t.q,.int .i64 t.a,.int .i64 t.b,.slice s.a s.n s.c,.int .i64 q0,.int .i64 f0,.int .i64 l0,.string t0] 68))=W at *
 refine(elAt_any g k d _ G0 P0.out.ma (by omega)).mono ?_
 rintro e w1 ⟨rfl,b⟩
 rw[hat.out]
 have FB:=hid (FB.out.later b)
 have G1:=hid (G0.out.later b)
 have P1:=hid (P0.out.below b)
 have B1:=hid (bl_next B0.out b)
 have z1:=b.size
 clear b G0 P0 B0 f00
 have f1:=FB.out.cell 1
 obtain⟨_,gm,off,ha,_,hgl,hr⟩:=P1.out.ma.row hi
 have HR:Hid (w1.rangeAt gm (off+i * 16) [.int .i64 m.id,.int .i64 m.rid,.slice v.ms.a v.ms.n v.ms.c,.slice v.its.a v.its.n v.its.c,.slice v.lv.a v.lv.n v.lv.c,.slice v.tx.a v.tx.n v.tx.c,.int .i64 m.rd,.int .i64 m.se,.int .i64 m.li,.int .i64 m.he,.int .i64 m.la.c,.int .i64 m.la.r,.int .i64 m.la.q,.int .i64 m.la.a,.int .i64 m.la.b,.slice v.ws.a v.ws.n v.ws.c]):=(by have e:=hm.out;rw[e]at hr;exact hr:World.rangeAt _ _ _ _)
 have hgm:gm≠g:=P1.out.ma.1.box_ne G1.out (by decide) gm (by simp[Sv.v,Value.ownBlock,ha])
 have HMP:Hid (MtP w1 m v):=(by have:=P1.out.ma.2 k.ma[i] (List.getElem_mem hi);rw[hm.out]at this;exact this:MtP _ _ _)
 have G1a:Hid (Bx w1 g 56 [.int .i64 k.rid,.slice k.mv.a k.mv.n k.mv.c,.slice (some ⟨gm,off,none⟩) k.mav.n k.mav.c,.slice k.flv.a k.flv.n k.flv.c,.slice k.hev.a k.hev.n k.hev.c,.slice k.sav.a k.sav.n k.sav.c]):=(by have G2:=G1.out;unfold WkB at G2;rw[ha]at G2;exact G2:Bx _ _ _ _)
 have HMN:Hid (k.mav.n=k.ma.length):=P1.out.ma.len
 have hin:i<k.mav.n:=by have:=HMN.out;omega
 have i0:(0:Int)≤(i:Int):=by omega
 have i1:(i:Int)<(k.mav.n:Int):=by omega
 clear hr ha
 go_wp2_with fail
 clear f1
 have HS1:=hid (ownL hs.out B1.out)
 go_cut [6,7,8,9] (fun a6 a7 a8 a9 wx=>∃(gb gt:Nat) (u:Mv) (fs sn:Sv),a6=.pointer (some ⟨gb,0,none⟩)∧a7=.slice fs.a fs.n fs.c∧a8=.pointer (some ⟨gt,0,none⟩)∧a9=.bool okb∧Bx wx gb 32 [.int .i64 m2.id,.int .i64 m2.rid,.slice u.ms.a u.ms.n u.ms.c,.slice u.its.a u.its.n u.its.c,.slice u.lv.a u.lv.n u.lv.c,.slice u.tx.a u.tx.n u.tx.c,.int .i64 m2.rd,.int .i64 m2.se,.int .i64 m2.li,.int .i64 m2.he,.int .i64 m2.la.c,.int .i64 m2.la.r,.int .i64 m2.la.q,.int .i64 m2.la.a,.int .i64 m2.la.b,.slice u.ws.a u.ws.n u.ws.c]∧Bx wx gt 30 [.int .i64 t2.c,.int .i64 t2.r,.int .i64 t2.q,.int .i64 t2.a,.int .i64 t2.b,.slice sn.a sn.n sn.c]∧(okb=true→HdR wx m2 u fs L2 t2 sn)∧w1.heap.size≤gb∧w1.heap.size≤gt∧Below w1.heap.size w1 wx)
 case first=>
  have c:Below w1.heap.size w1 w1.drew:=(Below.refl _ _).drew
  refine wp_region_held_drew (S:=fun w'=>Below w1.heap.size w1 w') (by kernel_rfl) c (fun hHeld=>?_)
  refine tkP (i:=0) rfl (by kernel_rfl) (fun _ _ _ h=>h) (by rfl) (fun w hSw=>by simp only[LgT,Lg0,LgS];go_simp;try with_reducible rfl) (by assumption) ?_
  try simp only[Act.put,LgT,Lg0,LgS,LsT,Ls0,LsS]
  refine tkP (i:=1) rfl (by kernel_rfl) (fun _ _ _ h=>h) (by rfl) (fun w hSw=>by simp only[LgT,Lg0,LgS];go_simp;try with_reducible rfl) (by assumption) ?_
  try simp only[Act.put,LgT,Lg0,LgS,LsT,Ls0,LsS]
  refine tkP (i:=2) rfl (by kernel_rfl) (fun _ _ _ h=>h) (by rfl) (fun w hSw=>by simp only[LgT,Lg0,LgS];go_simp;try with_reducible rfl) (by assumption) ?_
  try simp only[Act.put,LgT,Lg0,LgS,LsT,Ls0,LsS]
  refine tkH (i:=3) (v:=_) rfl (by kernel_rfl) (fun _ _ _ h=>h) (ld1_yield (by rfl) 52 _ rfl g 2 rfl 56 _ (fun w hS=>G1a.out.later hS) (.slice (some ⟨gm,off,none⟩) k.mav.n k.mav.c) rfl _ Tryz.underlying52 rfl) (by assumption) ?_
  try simp only[Act.put,LgT,Lg0,LgS,LsT,Ls0,LsS]
  refine tkP (i:=4) rfl (by kernel_rfl) (fun _ _ _ h=>h) (by rfl) (fun w hSw=>by simp only[LgT,Lg0,LgS];go_simp;try with_reducible rfl) (by assumption) ?_
  try simp only[Act.put,LgT,Lg0,LgS,LsT,Ls0,LsS]
  refine tkP (i:=5) rfl (by kernel_rfl) (fun _ _ _ h=>h) (by rfl) (fun w hSw=>by simp only[LgT,Lg0,LgS];go_simp;try with_reducible rfl) (by assumption) ?_
  try simp only[Act.put,LgT,Lg0,LgS,LsT,Ls0,LsS]
  refine tkH (i:=6) (v:=_) rfl (by kernel_rfl) (fun _ _ _ h=>h) (ldN_yield (by rfl) 32 _ rfl gm (off+i * 16) (by rfl) [.int .i64 m.id,.int .i64 m.rid,.slice v.ms.a v.ms.n v.ms.c,.slice v.its.a v.its.n v.its.c,.slice v.lv.a v.lv.n v.lv.c,.slice v.tx.a v.tx.n v.tx.c,.int .i64 m.rd,.int .i64 m.se,.int .i64 m.li,.int .i64 m.he,.int .i64 m.la.c,.int .i64 m.la.r,.int .i64 m.la.q,.int .i64 m.la.a,.int .i64 m.la.b,.slice v.ws.a v.ws.n v.ws.c] (fun w hS=>range_later HR.out hgl hS) _ Tryz.underlying32 rfl Tryz.sizeM) (by assumption) ?_
  try simp only[Act.put,LsT,Ls0,LsS]
  refine tkP (i:=7) rfl (by kernel_rfl) (fun _ _ _ h=>h) (by rfl) (fun w hSw=>by simp only[LgT,Lg0,LgS];go_simp;try with_reducible rfl) (by assumption) ?_
  try simp only[Act.put,LgT,Lg0,LgS,LsT,Ls0,LsS]
  refine tkH (i:=8) (v:=_) rfl (by kernel_rfl) (fun _ _ _ h=>h) (ld_yield (by rfl) 30 _ rfl w.heap.size 2 rfl 68 _ (fun w hS=>FB.out.later hS) [.int .i64 t.c,.int .i64 t.r,.int .i64 t.q,.int .i64 t.a,.int .i64 t.b,.slice s.a s.n s.c] rfl _ Tryz.underlying30 rfl Tryz.sizeT) (by assumption) ?_
  try simp only[Act.put,LgT,Lg0,LgS,LsT,Ls0,LsS]
  refine wpAnyH_ready (rs:=[9,15,16]) (by kernel_rfl) (by simp) ?_
  refine(AllReadyH.cons (i:=9) rfl (fun K hK=>?_) (AllReadyH.cons (i:=15) rfl (fun K hK=>?_) (AllReadyH.cons (i:=16) rfl (fun K hK=>?_) AllReadyH.nil)))
  ·skip
   rw[if_pos (by rfl)]
   simp only[LgT,Lg0,LgS]
   go_simp
   refine(hH.out _ (show Hid (MtP w1.drew m v)from HMP.out.later c) (show Hid (OwnI w1.drew 0 s.v t.ws)from HS1.out.keep fun _ _ hk=>c.block _ hk)).mono ?_
   rintro e y1 ⟨u,fs,sn,rfl,hc,b⟩
   have HC:Hid (okb=true→HdR y1 m2 u fs L2 t2 sn):=hc
   have c:=bl_next c b
   refine hK.out _ _ (c) (fun hHeld=>?_)
   clear hK K
   try simp only[Act.put,LgT,Lg0,LgS,LsT,Ls0,LsS]
   clear b hc
   refine tkP (i:=10) rfl (by kernel_rfl) (fun _ _ _ h=>h) (by rfl) (fun w hSw=>by simp only[LgT,Lg0,LgS];go_simp;try with_reducible rfl) (by assumption) ?_
   try simp only[Act.put,LgT,Lg0,LgS,LsT,Ls0,LsS]
   refine tkP (i:=11) rfl (by kernel_rfl) (fun _ _ _ h=>h) (by rfl) (fun w hSw=>by simp only[LgT,Lg0,LgS];go_simp;try with_reducible rfl) (by assumption) ?_
   try simp only[Act.put,LgT,Lg0,LgS,LsT,Ls0,LsS]
   refine tkP (i:=12) rfl (by kernel_rfl) (fun _ _ _ h=>h) (by rfl) (fun w hSw=>by simp only[LgT,Lg0,LgS];go_simp;try with_reducible rfl) (by assumption) ?_
   try simp only[Act.put,LgT,Lg0,LgS,LsT,Ls0,LsS]
   refine tkP (i:=13) rfl (by kernel_rfl) (fun _ _ _ h=>h) (by rfl) (fun w hSw=>by simp only[LgT,Lg0,LgS];go_simp;try with_reducible rfl) (by assumption) ?_
   try simp only[Act.put,LgT,Lg0,LgS,LsT,Ls0,LsS]
   refine tkP (i:=14) rfl (by kernel_rfl) (fun _ _ _ h=>h) (by rfl) (fun w hSw=>by simp only[LgT,Lg0,LgS];go_simp;try with_reducible rfl) (by assumption) ?_
   try simp only[Act.put,LgT,Lg0,LgS,LsT,Ls0,LsS]
   refine wpAnyH_ready (rs:=[15,16]) (by kernel_rfl) (by simp) ?_
   refine(AllReadyH.cons (i:=15) rfl (fun K hK=>?_) (AllReadyH.cons (i:=16) rfl (fun K hK=>?_) AllReadyH.nil))
   ·skip
    rw[if_pos (by rfl)]
    simp only[LgT,Lg0,LgS]
    go_simp
    have b:=bA y1 (.cells zzM.toArray 32)
    have HC:Hid (okb=true→HdR (y1.alloc (.cells zzM.toArray 32)) m2 u fs L2 t2 sn):=fun e=>(HC.out e).later b
    have BM:=hid (bxAt y1 32 [.int .i64 0,.int .i64 0,.slice none 0 0,.slice none 0 0,.slice none 0 0,.slice none 0 0,.int .i64 0,.int .i64 0,.int .i64 0,.int .i64 0,.int .i64 0,.int .i64 0,.int .i64 0,.int .i64 0,.int .i64 0,.slice none 0 0] y1.heap.size (by simp))
    have zBM:w1.heap.size≤y1.heap.size:=by have h:=c.size;rw[show y1.heap.size=y1.heap.size by simp]at h;exact h
    have c:=bl_next c b
    refine hK.out _ _ (c) (fun hHeld=>?_)
    clear hK K
    try simp only[Act.put,LgT,Lg0,LgS,LsT,Ls0,LsS]
    clear b
    refine wpAnyH_ready (rs:=[16]) (by kernel_rfl) (by simp) ?_
    refine AllReadyH.cons (i:=16) rfl (fun K hK=>?_) AllReadyH.nil
    rw[if_pos (by rfl)]
    simp only[LgT,Lg0,LgS]
    go_simp
    have b:Below (y1.alloc (.cells zzM.toArray 32)).heap.size (y1.alloc (.cells zzM.toArray 32)) ((y1.alloc (.cells zzM.toArray 32)).alloc (.cells zzT.toArray 30)):=(Below.refl _ _).alloc (Nat.le_refl _) _
    have BM:=hid (BM.out.later b)
    have HC:Hid (okb=true→HdR ((y1.alloc (.cells zzM.toArray 32)).alloc (.cells zzT.toArray 30)) m2 u fs L2 t2 sn):=fun e=>(HC.out e).later b
    have BT:=hid (bxAt (y1.alloc (.cells zzM.toArray 32)) 30 [.int .i64 0,.int .i64 0,.int .i64 0,.int .i64 0,.int .i64 0,.slice none 0 0] (y1.heap.size+1) (by simp))
    have zBT:w1.heap.size≤(y1.heap.size+1):=by have h:=c.size;rw[show(y1.alloc (.cells zzM.toArray 32)).heap.size=(y1.heap.size+1) by simp]at h;exact h
    have c:=bl_next c b
    refine hK.out _ _ (c) (fun hHeld=>?_)
    clear hK K
    try simp only[Act.put,LgT,Lg0,LgS,LsT,Ls0,LsS]
    clear b
    refine wpAnyH_ready (rs:=[17]) (by kernel_rfl) (by simp) ?_
    refine AllReadyH.cons (i:=17) rfl (fun K hK=>?_) AllReadyH.nil
    rw[if_pos (by rfl)]
    simp only[LgT,Lg0,LgS]
    refine wp_stW 32 _ _ rfl y1.heap.size (by rfl) 32 _ BM.out [.int .i64 m2.id,.int .i64 m2.rid,.slice u.ms.a u.ms.n u.ms.c,.slice u.its.a u.its.n u.its.c,.slice u.lv.a u.lv.n u.lv.c,.slice u.tx.a u.tx.n u.tx.c,.int .i64 m2.rd,.int .i64 m2.se,.int .i64 m2.li,.int .i64 m2.he,.int .i64 m2.la.c,.int .i64 m2.la.r,.int .i64 m2.la.q,.int .i64 m2.la.a,.int .i64 m2.la.b,.slice u.ws.a u.ws.n u.ws.c] (by rfl) rfl Tryz.sizeM rfl ?_
    intro x1 kb kt
    have BT:=hid (BT.out.kt (KeepTy.ofTurn (S:=fun X=>X=32) BM.out kt rfl) (by decide))
    have HC:Hid (okb=true→HdR x1 m2 u fs L2 t2 sn):=fun e=>(HC.out e).keepb BM.out kt.keep (by decide) (by decide) (by decide)
    have c:=c.trans (kt.below zBM)
    have BM:=hid kb
    refine hK.out _ _ (c) (fun hHeld=>?_)
    clear hK K
    try simp only[Act.put,LgT,Lg0,LgS,LsT,Ls0,LsS]
    clear kb kt
    refine tkP (i:=18) rfl (by kernel_rfl) (fun _ _ _ h=>h) (by rfl) (fun w hSw=>by simp only[LgT,Lg0,LgS];go_simp;try with_reducible rfl) (by assumption) ?_
    try simp only[Act.put,LgT,Lg0,LgS,LsT,Ls0,LsS]
    refine wpAnyH_ready (rs:=[19]) (by kernel_rfl) (by simp) ?_
    refine AllReadyH.cons (i:=19) rfl (fun K hK=>?_) AllReadyH.nil
    rw[if_pos (by rfl)]
    simp only[LgT,Lg0,LgS]
    refine wp_stW 30 _ _ rfl (y1.heap.size+1) (by rfl) 30 _ BT.out [.int .i64 t2.c,.int .i64 t2.r,.int .i64 t2.q,.int .i64 t2.a,.int .i64 t2.b,.slice sn.a sn.n sn.c] (by rfl) rfl Tryz.sizeT rfl ?_
    intro x2 kb kt
    have BM:=hid (BM.out.kt (KeepTy.ofTurn (S:=fun X=>X=30) BT.out kt rfl) (by decide))
    have HC:Hid (okb=true→HdR x2 m2 u fs L2 t2 sn):=fun e=>(HC.out e).keepb BT.out kt.keep (by decide) (by decide) (by decide)
    have c:=c.trans (kt.below zBT)
    have BT:=hid kb
    refine hK.out _ _ (c) (fun hHeld=>?_)
    clear hK K
    try simp only[Act.put,LgT,Lg0,LgS,LsT,Ls0,LsS]
    clear kb kt
    refine tkP (i:=20) rfl (by kernel_rfl) (fun _ _ _ h=>h) (by rfl) (fun w hSw=>by simp only[LgT,Lg0,LgS];go_simp;try with_reducible rfl) (by assumption) ?_
    try simp only[Act.put,LgT,Lg0,LgS,LsT,Ls0,LsS]
    refine wpAnyH_done (by kernel_rfl) ?_ _
    try go_wp2_with fail
    go_meet
    exact⟨y1.heap.size,(y1.heap.size+1),u,fs,sn,rfl,rfl,rfl,rfl,BM.out,BT.out,HC.out,zBM,zBT,c⟩
   ·skip
    rw[if_pos (by rfl)]
    simp only[LgT,Lg0,LgS]
    go_simp
    have b:=bA y1 (.cells zzT.toArray 30)
    have HC:Hid (okb=true→HdR (y1.alloc (.cells zzT.toArray 30)) m2 u fs L2 t2 sn):=fun e=>(HC.out e).later b
    have BT:=hid (bxAt y1 30 [.int .i64 0,.int .i64 0,.int .i64 0,.int .i64 0,.int .i64 0,.slice none 0 0] y1.heap.size (by simp))
    have zBT:w1.heap.size≤y1.heap.size:=by have h:=c.size;rw[show y1.heap.size=y1.heap.size by simp]at h;exact h
    have c:=bl_next c b
    refine hK.out _ _ (c) (fun hHeld=>?_)
    clear hK K
    try simp only[Act.put,LgT,Lg0,LgS,LsT,Ls0,LsS]
    clear b
    refine wpAnyH_ready (rs:=[15]) (by kernel_rfl) (by simp) ?_
    refine AllReadyH.cons (i:=15) rfl (fun K hK=>?_) AllReadyH.nil
    rw[if_pos (by rfl)]
    simp only[LgT,Lg0,LgS]
    go_simp
    have b:Below (y1.alloc (.cells zzT.toArray 30)).heap.size (y1.alloc (.cells zzT.toArray 30)) ((y1.alloc (.cells zzT.toArray 30)).alloc (.cells zzM.toArray 32)):=(Below.refl _ _).alloc (Nat.le_refl _) _
    have BT:=hid (BT.out.later b)
    have HC:Hid (okb=true→HdR ((y1.alloc (.cells zzT.toArray 30)).alloc (.cells zzM.toArray 32)) m2 u fs L2 t2 sn):=fun e=>(HC.out e).later b
    have BM:=hid (bxAt (y1.alloc (.cells zzT.toArray 30)) 32 [.int .i64 0,.int .i64 0,.slice none 0 0,.slice none 0 0,.slice none 0 0,.slice none 0 0,.int .i64 0,.int .i64 0,.int .i64 0,.int .i64 0,.int .i64 0,.int .i64 0,.int .i64 0,.int .i64 0,.int .i64 0,.slice none 0 0] (y1.heap.size+1) (by simp))
    have zBM:w1.heap.size≤(y1.heap.size+1):=by have h:=c.size;rw[show(y1.alloc (.cells zzT.toArray 30)).heap.size=(y1.heap.size+1) by simp]at h;exact h
    have c:=bl_next c b
    refine hK.out _ _ (c) (fun hHeld=>?_)
    clear hK K
    try simp only[Act.put,LgT,Lg0,LgS,LsT,Ls0,LsS]
    clear b
    refine wpAnyH_ready (rs:=[17]) (by kernel_rfl) (by simp) ?_
    refine AllReadyH.cons (i:=17) rfl (fun K hK=>?_) AllReadyH.nil
    rw[if_pos (by rfl)]
    simp only[LgT,Lg0,LgS]
    refine wp_stW 32 _ _ rfl (y1.heap.size+1) (by rfl) 32 _ BM.out [.int .i64 m2.id,.int .i64 m2.rid,.slice u.ms.a u.ms.n u.ms.c,.slice u.its.a u.its.n u.its.c,.slice u.lv.a u.lv.n u.lv.c,.slice u.tx.a u.tx.n u.tx.c,.int .i64 m2.rd,.int .i64 m2.se,.int .i64 m2.li,.int .i64 m2.he,.int .i64 m2.la.c,.int .i64 m2.la.r,.int .i64 m2.la.q,.int .i64 m2.la.a,.int .i64 m2.la.b,.slice u.ws.a u.ws.n u.ws.c] (by rfl) rfl Tryz.sizeM rfl ?_
    intro x1 kb kt
    have BT:=hid (BT.out.kt (KeepTy.ofTurn (S:=fun X=>X=32) BM.out kt rfl) (by decide))
    have HC:Hid (okb=true→HdR x1 m2 u fs L2 t2 sn):=fun e=>(HC.out e).keepb BM.out kt.keep (by decide) (by decide) (by decide)
    have c:=c.trans (kt.below zBM)
    have BM:=hid kb
    refine hK.out _ _ (c) (fun hHeld=>?_)
    clear hK K
    try simp only[Act.put,LgT,Lg0,LgS,LsT,Ls0,LsS]
    clear kb kt
    refine tkP (i:=18) rfl (by kernel_rfl) (fun _ _ _ h=>h) (by rfl) (fun w hSw=>by simp only[LgT,Lg0,LgS];go_simp;try with_reducible rfl) (by assumption) ?_
    try simp only[Act.put,LgT,Lg0,LgS,LsT,Ls0,LsS]
    refine wpAnyH_ready (rs:=[19]) (by kernel_rfl) (by simp) ?_
    refine AllReadyH.cons (i:=19) rfl (fun K hK=>?_) AllReadyH.nil
    rw[if_pos (by rfl)]
    simp only[LgT,Lg0,LgS]
    refine wp_stW 30 _ _ rfl y1.heap.size (by rfl) 30 _ BT.out [.int .i64 t2.c,.int .i64 t2.r,.int .i64 t2.q,.int .i64 t2.a,.int .i64 t2.b,.slice sn.a sn.n sn.c] (by rfl) rfl Tryz.sizeT rfl ?_
    intro x2 kb kt
    have BM:=hid (BM.out.kt (KeepTy.ofTurn (S:=fun X=>X=30) BT.out kt rfl) (by decide))
    have HC:Hid (okb=true→HdR x2 m2 u fs L2 t2 sn):=fun e=>(HC.out e).keepb BT.out kt.keep (by decide) (by decide) (by decide)
    have c:=c.trans (kt.below zBT)
    have BT:=hid kb
    refine hK.out _ _ (c) (fun hHeld=>?_)
    clear hK K
    try simp only[Act.put,LgT,Lg0,LgS,LsT,Ls0,LsS]
    clear kb kt
    refine tkP (i:=20) rfl (by kernel_rfl) (fun _ _ _ h=>h) (by rfl) (fun w hSw=>by simp only[LgT,Lg0,LgS];go_simp;try with_reducible rfl) (by assumption) ?_
    try simp only[Act.put,LgT,Lg0,LgS,LsT,Ls0,LsS]
    refine wpAnyH_done (by kernel_rfl) ?_ _
    try go_wp2_with fail
    go_meet
    exact⟨(y1.heap.size+1),y1.heap.size,u,fs,sn,rfl,rfl,rfl,rfl,BM.out,BT.out,HC.out,zBM,zBT,c⟩
  ·skip
   rw[if_pos (by rfl)]
   simp only[LgT,Lg0,LgS]
   go_simp
   have b:=bA w1.drew (.cells zzM.toArray 32)
   have BM:=hid (bxAt w1.drew 32 [.int .i64 0,.int .i64 0,.slice none 0 0,.slice none 0 0,.slice none 0 0,.slice none 0 0,.int .i64 0,.int .i64 0,.int .i64 0,.int .i64 0,.int .i64 0,.int .i64 0,.int .i64 0,.int .i64 0,.int .i64 0,.slice none 0 0] w1.heap.size (by simp))
   have zBM:w1.heap.size≤w1.heap.size:=by have h:=c.size;rw[show w1.drew.heap.size=w1.heap.size by simp]at h;exact h
   have c:=bl_next c b
   refine hK.out _ _ (c) (fun hHeld=>?_)
   clear hK K
   try simp only[Act.put,LgT,Lg0,LgS,LsT,Ls0,LsS]
   clear b
   refine wpAnyH_ready (rs:=[9,16]) (by kernel_rfl) (by simp) ?_
   refine(AllReadyH.cons (i:=9) rfl (fun K hK=>?_) (AllReadyH.cons (i:=16) rfl (fun K hK=>?_) AllReadyH.nil))
   ·skip
    rw[if_pos (by rfl)]
    simp only[LgT,Lg0,LgS]
    go_simp
    refine(hH.out _ (show Hid (MtP (w1.drew.alloc (.cells zzM.toArray 32)) m v)from HMP.out.later c) (show Hid (OwnI (w1.drew.alloc (.cells zzM.toArray 32)) 0 s.v t.ws)from HS1.out.keep fun _ _ hk=>c.block _ hk)).mono ?_
    rintro e y1 ⟨u,fs,sn,rfl,hc,b⟩
    have BM:=hid (BM.out.later b)
    have HC:Hid (okb=true→HdR y1 m2 u fs L2 t2 sn):=hc
    have c:=bl_next c b
    refine hK.out _ _ (c) (fun hHeld=>?_)
    clear hK K
    try simp only[Act.put,LgT,Lg0,LgS,LsT,Ls0,LsS]
    clear b hc
    refine tkP (i:=10) rfl (by kernel_rfl) (fun _ _ _ h=>h) (by rfl) (fun w hSw=>by simp only[LgT,Lg0,LgS];go_simp;try with_reducible rfl) (by assumption) ?_
    try simp only[Act.put,LgT,Lg0,LgS,LsT,Ls0,LsS]
    refine tkP (i:=11) rfl (by kernel_rfl) (fun _ _ _ h=>h) (by rfl) (fun w hSw=>by simp only[LgT,Lg0,LgS];go_simp;try with_reducible rfl) (by assumption) ?_
    try simp only[Act.put,LgT,Lg0,LgS,LsT,Ls0,LsS]
    refine tkP (i:=12) rfl (by kernel_rfl) (fun _ _ _ h=>h) (by rfl) (fun w hSw=>by simp only[LgT,Lg0,LgS];go_simp;try with_reducible rfl) (by assumption) ?_
    try simp only[Act.put,LgT,Lg0,LgS,LsT,Ls0,LsS]
    refine tkP (i:=13) rfl (by kernel_rfl) (fun _ _ _ h=>h) (by rfl) (fun w hSw=>by simp only[LgT,Lg0,LgS];go_simp;try with_reducible rfl) (by assumption) ?_
    try simp only[Act.put,LgT,Lg0,LgS,LsT,Ls0,LsS]
    refine tkP (i:=14) rfl (by kernel_rfl) (fun _ _ _ h=>h) (by rfl) (fun w hSw=>by simp only[LgT,Lg0,LgS];go_simp;try with_reducible rfl) (by assumption) ?_
    try simp only[Act.put,LgT,Lg0,LgS,LsT,Ls0,LsS]
    refine wpAnyH_ready (rs:=[16]) (by kernel_rfl) (by simp) ?_
    refine AllReadyH.cons (i:=16) rfl (fun K hK=>?_) AllReadyH.nil
    rw[if_pos (by rfl)]
    simp only[LgT,Lg0,LgS]
    go_simp
    have b:=bA y1 (.cells zzT.toArray 30)
    have BM:=hid (BM.out.later b)
    have HC:Hid (okb=true→HdR (y1.alloc (.cells zzT.toArray 30)) m2 u fs L2 t2 sn):=fun e=>(HC.out e).later b
    have BT:=hid (bxAt y1 30 [.int .i64 0,.int .i64 0,.int .i64 0,.int .i64 0,.int .i64 0,.slice none 0 0] y1.heap.size (by simp))
    have zBT:w1.heap.size≤y1.heap.size:=by have h:=c.size;rw[show y1.heap.size=y1.heap.size by simp]at h;exact h
    have c:=bl_next c b
    refine hK.out _ _ (c) (fun hHeld=>?_)
    clear hK K
    try simp only[Act.put,LgT,Lg0,LgS,LsT,Ls0,LsS]
    clear b
    refine wpAnyH_ready (rs:=[17]) (by kernel_rfl) (by simp) ?_
    refine AllReadyH.cons (i:=17) rfl (fun K hK=>?_) AllReadyH.nil
    rw[if_pos (by rfl)]
    simp only[LgT,Lg0,LgS]
    refine wp_stW 32 _ _ rfl w1.heap.size (by rfl) 32 _ BM.out [.int .i64 m2.id,.int .i64 m2.rid,.slice u.ms.a u.ms.n u.ms.c,.slice u.its.a u.its.n u.its.c,.slice u.lv.a u.lv.n u.lv.c,.slice u.tx.a u.tx.n u.tx.c,.int .i64 m2.rd,.int .i64 m2.se,.int .i64 m2.li,.int .i64 m2.he,.int .i64 m2.la.c,.int .i64 m2.la.r,.int .i64 m2.la.q,.int .i64 m2.la.a,.int .i64 m2.la.b,.slice u.ws.a u.ws.n u.ws.c] (by rfl) rfl Tryz.sizeM rfl ?_
    intro x1 kb kt
    have BT:=hid (BT.out.kt (KeepTy.ofTurn (S:=fun X=>X=32) BM.out kt rfl) (by decide))
    have HC:Hid (okb=true→HdR x1 m2 u fs L2 t2 sn):=fun e=>(HC.out e).keepb BM.out kt.keep (by decide) (by decide) (by decide)
    have c:=c.trans (kt.below zBM)
    have BM:=hid kb
    refine hK.out _ _ (c) (fun hHeld=>?_)
    clear hK K
    try simp only[Act.put,LgT,Lg0,LgS,LsT,Ls0,LsS]
    clear kb kt
    refine tkP (i:=18) rfl (by kernel_rfl) (fun _ _ _ h=>h) (by rfl) (fun w hSw=>by simp only[LgT,Lg0,LgS];go_simp;try with_reducible rfl) (by assumption) ?_
    try simp only[Act.put,LgT,Lg0,LgS,LsT,Ls0,LsS]
    refine wpAnyH_ready (rs:=[19]) (by kernel_rfl) (by simp) ?_
    refine AllReadyH.cons (i:=19) rfl (fun K hK=>?_) AllReadyH.nil
    rw[if_pos (by rfl)]
    simp only[LgT,Lg0,LgS]
    refine wp_stW 30 _ _ rfl y1.heap.size (by rfl) 30 _ BT.out [.int .i64 t2.c,.int .i64 t2.r,.int .i64 t2.q,.int .i64 t2.a,.int .i64 t2.b,.slice sn.a sn.n sn.c] (by rfl) rfl Tryz.sizeT rfl ?_
    intro x2 kb kt
    have BM:=hid (BM.out.kt (KeepTy.ofTurn (S:=fun X=>X=30) BT.out kt rfl) (by decide))
    have HC:Hid (okb=true→HdR x2 m2 u fs L2 t2 sn):=fun e=>(HC.out e).keepb BT.out kt.keep (by decide) (by decide) (by decide)
    have c:=c.trans (kt.below zBT)
    have BT:=hid kb
    refine hK.out _ _ (c) (fun hHeld=>?_)
    clear hK K
    try simp only[Act.put,LgT,Lg0,LgS,LsT,Ls0,LsS]
    clear kb kt
    refine tkP (i:=20) rfl (by kernel_rfl) (fun _ _ _ h=>h) (by rfl) (fun w hSw=>by simp only[LgT,Lg0,LgS];go_simp;try with_reducible rfl) (by assumption) ?_
    try simp only[Act.put,LgT,Lg0,LgS,LsT,Ls0,LsS]
    refine wpAnyH_done (by kernel_rfl) ?_ _
    try go_wp2_with fail
    go_meet
    exact⟨w1.heap.size,y1.heap.size,u,fs,sn,rfl,rfl,rfl,rfl,BM.out,BT.out,HC.out,zBM,zBT,c⟩
   ·skip
    rw[if_pos (by rfl)]
    simp only[LgT,Lg0,LgS]
    go_simp
    have b:Below (w1.drew.alloc (.cells zzM.toArray 32)).heap.size (w1.drew.alloc (.cells zzM.toArray 32)) ((w1.drew.alloc (.cells zzM.toArray 32)).alloc (.cells zzT.toArray 30)):=(Below.refl _ _).alloc (Nat.le_refl _) _
    have BM:=hid (BM.out.later b)
    have BT:=hid (bxAt (w1.drew.alloc (.cells zzM.toArray 32)) 30 [.int .i64 0,.int .i64 0,.int .i64 0,.int .i64 0,.int .i64 0,.slice none 0 0] (w1.heap.size+1) (by simp))
    have zBT:w1.heap.size≤(w1.heap.size+1):=by have h:=c.size;rw[show(w1.drew.alloc (.cells zzM.toArray 32)).heap.size=(w1.heap.size+1) by simp]at h;exact h
    have c:=bl_next c b
    refine hK.out _ _ (c) (fun hHeld=>?_)
    clear hK K
    try simp only[Act.put,LgT,Lg0,LgS,LsT,Ls0,LsS]
    clear b
    refine wpAnyH_ready (rs:=[9]) (by kernel_rfl) (by simp) ?_
    refine AllReadyH.cons (i:=9) rfl (fun K hK=>?_) AllReadyH.nil
    rw[if_pos (by rfl)]
    simp only[LgT,Lg0,LgS]
    go_simp
    refine(hH.out _ (show Hid (MtP ((w1.drew.alloc (.cells zzM.toArray 32)).alloc (.cells zzT.toArray 30)) m v)from HMP.out.later c) (show Hid (OwnI ((w1.drew.alloc (.cells zzM.toArray 32)).alloc (.cells zzT.toArray 30)) 0 s.v t.ws)from HS1.out.keep fun _ _ hk=>c.block _ hk)).mono ?_
    rintro e y1 ⟨u,fs,sn,rfl,hc,b⟩
    have BM:=hid (BM.out.later b)
    have BT:=hid (BT.out.later b)
    have HC:Hid (okb=true→HdR y1 m2 u fs L2 t2 sn):=hc
    have c:=bl_next c b
    refine hK.out _ _ (c) (fun hHeld=>?_)
    clear hK K
    try simp only[Act.put,LgT,Lg0,LgS,LsT,Ls0,LsS]
    clear b hc
    refine tkP (i:=10) rfl (by kernel_rfl) (fun _ _ _ h=>h) (by rfl) (fun w hSw=>by simp only[LgT,Lg0,LgS];go_simp;try with_reducible rfl) (by assumption) ?_
    try simp only[Act.put,LgT,Lg0,LgS,LsT,Ls0,LsS]
    refine tkP (i:=11) rfl (by kernel_rfl) (fun _ _ _ h=>h) (by rfl) (fun w hSw=>by simp only[LgT,Lg0,LgS];go_simp;try with_reducible rfl) (by assumption) ?_
    try simp only[Act.put,LgT,Lg0,LgS,LsT,Ls0,LsS]
    refine tkP (i:=12) rfl (by kernel_rfl) (fun _ _ _ h=>h) (by rfl) (fun w hSw=>by simp only[LgT,Lg0,LgS];go_simp;try with_reducible rfl) (by assumption) ?_
    try simp only[Act.put,LgT,Lg0,LgS,LsT,Ls0,LsS]
    refine tkP (i:=13) rfl (by kernel_rfl) (fun _ _ _ h=>h) (by rfl) (fun w hSw=>by simp only[LgT,Lg0,LgS];go_simp;try with_reducible rfl) (by assumption) ?_
    try simp only[Act.put,LgT,Lg0,LgS,LsT,Ls0,LsS]
    refine tkP (i:=14) rfl (by kernel_rfl) (fun _ _ _ h=>h) (by rfl) (fun w hSw=>by simp only[LgT,Lg0,LgS];go_simp;try with_reducible rfl) (by assumption) ?_
    try simp only[Act.put,LgT,Lg0,LgS,LsT,Ls0,LsS]
    refine wpAnyH_ready (rs:=[17]) (by kernel_rfl) (by simp) ?_
    refine AllReadyH.cons (i:=17) rfl (fun K hK=>?_) AllReadyH.nil
    rw[if_pos (by rfl)]
    simp only[LgT,Lg0,LgS]
    refine wp_stW 32 _ _ rfl w1.heap.size (by rfl) 32 _ BM.out [.int .i64 m2.id,.int .i64 m2.rid,.slice u.ms.a u.ms.n u.ms.c,.slice u.its.a u.its.n u.its.c,.slice u.lv.a u.lv.n u.lv.c,.slice u.tx.a u.tx.n u.tx.c,.int .i64 m2.rd,.int .i64 m2.se,.int .i64 m2.li,.int .i64 m2.he,.int .i64 m2.la.c,.int .i64 m2.la.r,.int .i64 m2.la.q,.int .i64 m2.la.a,.int .i64 m2.la.b,.slice u.ws.a u.ws.n u.ws.c] (by rfl) rfl Tryz.sizeM rfl ?_
    intro x1 kb kt
    have BT:=hid (BT.out.kt (KeepTy.ofTurn (S:=fun X=>X=32) BM.out kt rfl) (by decide))
    have HC:Hid (okb=true→HdR x1 m2 u fs L2 t2 sn):=fun e=>(HC.out e).keepb BM.out kt.keep (by decide) (by decide) (by decide)
    have c:=c.trans (kt.below zBM)
    have BM:=hid kb
    refine hK.out _ _ (c) (fun hHeld=>?_)
    clear hK K
    try simp only[Act.put,LgT,Lg0,LgS,LsT,Ls0,LsS]
    clear kb kt
    refine tkP (i:=18) rfl (by kernel_rfl) (fun _ _ _ h=>h) (by rfl) (fun w hSw=>by simp only[LgT,Lg0,LgS];go_simp;try with_reducible rfl) (by assumption) ?_
    try simp only[Act.put,LgT,Lg0,LgS,LsT,Ls0,LsS]
    refine wpAnyH_ready (rs:=[19]) (by kernel_rfl) (by simp) ?_
    refine AllReadyH.cons (i:=19) rfl (fun K hK=>?_) AllReadyH.nil
    rw[if_pos (by rfl)]
    simp only[LgT,Lg0,LgS]
    refine wp_stW 30 _ _ rfl (w1.heap.size+1) (by rfl) 30 _ BT.out [.int .i64 t2.c,.int .i64 t2.r,.int .i64 t2.q,.int .i64 t2.a,.int .i64 t2.b,.slice sn.a sn.n sn.c] (by rfl) rfl Tryz.sizeT rfl ?_
    intro x2 kb kt
    have BM:=hid (BM.out.kt (KeepTy.ofTurn (S:=fun X=>X=30) BT.out kt rfl) (by decide))
    have HC:Hid (okb=true→HdR x2 m2 u fs L2 t2 sn):=fun e=>(HC.out e).keepb BT.out kt.keep (by decide) (by decide) (by decide)
    have c:=c.trans (kt.below zBT)
    have BT:=hid kb
    refine hK.out _ _ (c) (fun hHeld=>?_)
    clear hK K
    try simp only[Act.put,LgT,Lg0,LgS,LsT,Ls0,LsS]
    clear kb kt
    refine tkP (i:=20) rfl (by kernel_rfl) (fun _ _ _ h=>h) (by rfl) (fun w hSw=>by simp only[LgT,Lg0,LgS];go_simp;try with_reducible rfl) (by assumption) ?_
    try simp only[Act.put,LgT,Lg0,LgS,LsT,Ls0,LsS]
    refine wpAnyH_done (by kernel_rfl) ?_ _
    try go_wp2_with fail
    go_meet
    exact⟨w1.heap.size,(w1.heap.size+1),u,fs,sn,rfl,rfl,rfl,rfl,BM.out,BT.out,HC.out,zBM,zBT,c⟩
  ·skip
   rw[if_pos (by rfl)]
   simp only[LgT,Lg0,LgS]
   go_simp
   have b:=bA w1.drew (.cells zzT.toArray 30)
   have BT:=hid (bxAt w1.drew 30 [.int .i64 0,.int .i64 0,.int .i64 0,.int .i64 0,.int .i64 0,.slice none 0 0] w1.heap.size (by simp))
   have zBT:w1.heap.size≤w1.heap.size:=by have h:=c.size;rw[show w1.drew.heap.size=w1.heap.size by simp]at h;exact h
   have c:=bl_next c b
   refine hK.out _ _ (c) (fun hHeld=>?_)
   clear hK K
   try simp only[Act.put,LgT,Lg0,LgS,LsT,Ls0,LsS]
   clear b
   refine wpAnyH_ready (rs:=[9,15]) (by kernel_rfl) (by simp) ?_
   refine(AllReadyH.cons (i:=9) rfl (fun K hK=>?_) (AllReadyH.cons (i:=15) rfl (fun K hK=>?_) AllReadyH.nil))
   ·skip
    rw[if_pos (by rfl)]
    simp only[LgT,Lg0,LgS]
    go_simp
    refine(hH.out _ (show Hid (MtP (w1.drew.alloc (.cells zzT.toArray 30)) m v)from HMP.out.later c) (show Hid (OwnI (w1.drew.alloc (.cells zzT.toArray 30)) 0 s.v t.ws)from HS1.out.keep fun _ _ hk=>c.block _ hk)).mono ?_
    rintro e y1 ⟨u,fs,sn,rfl,hc,b⟩
    have BT:=hid (BT.out.later b)
    have HC:Hid (okb=true→HdR y1 m2 u fs L2 t2 sn):=hc
    have c:=bl_next c b
    refine hK.out _ _ (c) (fun hHeld=>?_)
    clear hK K
    try simp only[Act.put,LgT,Lg0,LgS,LsT,Ls0,LsS]
    clear b hc
    refine tkP (i:=10) rfl (by kernel_rfl) (fun _ _ _ h=>h) (by rfl) (fun w hSw=>by simp only[LgT,Lg0,LgS];go_simp;try with_reducible rfl) (by assumption) ?_
    try simp only[Act.put,LgT,Lg0,LgS,LsT,Ls0,LsS]
    refine tkP (i:=11) rfl (by kernel_rfl) (fun _ _ _ h=>h) (by rfl) (fun w hSw=>by simp only[LgT,Lg0,LgS];go_simp;try with_reducible rfl) (by assumption) ?_
    try simp only[Act.put,LgT,Lg0,LgS,LsT,Ls0,LsS]
    refine tkP (i:=12) rfl (by kernel_rfl) (fun _ _ _ h=>h) (by rfl) (fun w hSw=>by simp only[LgT,Lg0,LgS];go_simp;try with_reducible rfl) (by assumption) ?_
    try simp only[Act.put,LgT,Lg0,LgS,LsT,Ls0,LsS]
    refine tkP (i:=13) rfl (by kernel_rfl) (fun _ _ _ h=>h) (by rfl) (fun w hSw=>by simp only[LgT,Lg0,LgS];go_simp;try with_reducible rfl) (by assumption) ?_
    try simp only[Act.put,LgT,Lg0,LgS,LsT,Ls0,LsS]
    refine tkP (i:=14) rfl (by kernel_rfl) (fun _ _ _ h=>h) (by rfl) (fun w hSw=>by simp only[LgT,Lg0,LgS];go_simp;try with_reducible rfl) (by assumption) ?_
    try simp only[Act.put,LgT,Lg0,LgS,LsT,Ls0,LsS]
    refine wpAnyH_ready (rs:=[15]) (by kernel_rfl) (by simp) ?_
    refine AllReadyH.cons (i:=15) rfl (fun K hK=>?_) AllReadyH.nil
    rw[if_pos (by rfl)]
    simp only[LgT,Lg0,LgS]
    go_simp
    have b:=bA y1 (.cells zzM.toArray 32)
    have BT:=hid (BT.out.later b)
    have HC:Hid (okb=true→HdR (y1.alloc (.cells zzM.toArray 32)) m2 u fs L2 t2 sn):=fun e=>(HC.out e).later b
    have BM:=hid (bxAt y1 32 [.int .i64 0,.int .i64 0,.slice none 0 0,.slice none 0 0,.slice none 0 0,.slice none 0 0,.int .i64 0,.int .i64 0,.int .i64 0,.int .i64 0,.int .i64 0,.int .i64 0,.int .i64 0,.int .i64 0,.int .i64 0,.slice none 0 0] y1.heap.size (by simp))
    have zBM:w1.heap.size≤y1.heap.size:=by have h:=c.size;rw[show y1.heap.size=y1.heap.size by simp]at h;exact h
    have c:=bl_next c b
    refine hK.out _ _ (c) (fun hHeld=>?_)
    clear hK K
    try simp only[Act.put,LgT,Lg0,LgS,LsT,Ls0,LsS]
    clear b
    refine wpAnyH_ready (rs:=[17]) (by kernel_rfl) (by simp) ?_
    refine AllReadyH.cons (i:=17) rfl (fun K hK=>?_) AllReadyH.nil
    rw[if_pos (by rfl)]
    simp only[LgT,Lg0,LgS]
    refine wp_stW 32 _ _ rfl y1.heap.size (by rfl) 32 _ BM.out [.int .i64 m2.id,.int .i64 m2.rid,.slice u.ms.a u.ms.n u.ms.c,.slice u.its.a u.its.n u.its.c,.slice u.lv.a u.lv.n u.lv.c,.slice u.tx.a u.tx.n u.tx.c,.int .i64 m2.rd,.int .i64 m2.se,.int .i64 m2.li,.int .i64 m2.he,.int .i64 m2.la.c,.int .i64 m2.la.r,.int .i64 m2.la.q,.int .i64 m2.la.a,.int .i64 m2.la.b,.slice u.ws.a u.ws.n u.ws.c] (by rfl) rfl Tryz.sizeM rfl ?_
    intro x1 kb kt
    have BT:=hid (BT.out.kt (KeepTy.ofTurn (S:=fun X=>X=32) BM.out kt rfl) (by decide))
    have HC:Hid (okb=true→HdR x1 m2 u fs L2 t2 sn):=fun e=>(HC.out e).keepb BM.out kt.keep (by decide) (by decide) (by decide)
    have c:=c.trans (kt.below zBM)
    have BM:=hid kb
    refine hK.out _ _ (c) (fun hHeld=>?_)
    clear hK K
    try simp only[Act.put,LgT,Lg0,LgS,LsT,Ls0,LsS]
    clear kb kt
    refine tkP (i:=18) rfl (by kernel_rfl) (fun _ _ _ h=>h) (by rfl) (fun w hSw=>by simp only[LgT,Lg0,LgS];go_simp;try with_reducible rfl) (by assumption) ?_
    try simp only[Act.put,LgT,Lg0,LgS,LsT,Ls0,LsS]
    refine wpAnyH_ready (rs:=[19]) (by kernel_rfl) (by simp) ?_
    refine AllReadyH.cons (i:=19) rfl (fun K hK=>?_) AllReadyH.nil
    rw[if_pos (by rfl)]
    simp only[LgT,Lg0,LgS]
    refine wp_stW 30 _ _ rfl w1.heap.size (by rfl) 30 _ BT.out [.int .i64 t2.c,.int .i64 t2.r,.int .i64 t2.q,.int .i64 t2.a,.int .i64 t2.b,.slice sn.a sn.n sn.c] (by rfl) rfl Tryz.sizeT rfl ?_
    intro x2 kb kt
    have BM:=hid (BM.out.kt (KeepTy.ofTurn (S:=fun X=>X=30) BT.out kt rfl) (by decide))
    have HC:Hid (okb=true→HdR x2 m2 u fs L2 t2 sn):=fun e=>(HC.out e).keepb BT.out kt.keep (by decide) (by decide) (by decide)
    have c:=c.trans (kt.below zBT)
    have BT:=hid kb
    refine hK.out _ _ (c) (fun hHeld=>?_)
    clear hK K
    try simp only[Act.put,LgT,Lg0,LgS,LsT,Ls0,LsS]
    clear kb kt
    refine tkP (i:=20) rfl (by kernel_rfl) (fun _ _ _ h=>h) (by rfl) (fun w hSw=>by simp only[LgT,Lg0,LgS];go_simp;try with_reducible rfl) (by assumption) ?_
    try simp only[Act.put,LgT,Lg0,LgS,LsT,Ls0,LsS]
    refine wpAnyH_done (by kernel_rfl) ?_ _
    try go_wp2_with fail
    go_meet
    exact⟨y1.heap.size,w1.heap.size,u,fs,sn,rfl,rfl,rfl,rfl,BM.out,BT.out,HC.out,zBM,zBT,c⟩
   ·skip
    rw[if_pos (by rfl)]
    simp only[LgT,Lg0,LgS]
    go_simp
    have b:Below (w1.drew.alloc (.cells zzT.toArray 30)).heap.size (w1.drew.alloc (.cells zzT.toArray 30)) ((w1.drew.alloc (.cells zzT.toArray 30)).alloc (.cells zzM.toArray 32)):=(Below.refl _ _).alloc (Nat.le_refl _) _
    have BT:=hid (BT.out.later b)
    have BM:=hid (bxAt (w1.drew.alloc (.cells zzT.toArray 30)) 32 [.int .i64 0,.int .i64 0,.slice none 0 0,.slice none 0 0,.slice none 0 0,.slice none 0 0,.int .i64 0,.int .i64 0,.int .i64 0,.int .i64 0,.int .i64 0,.int .i64 0,.int .i64 0,.int .i64 0,.int .i64 0,.slice none 0 0] (w1.heap.size+1) (by simp))
    have zBM:w1.heap.size≤(w1.heap.size+1):=by have h:=c.size;rw[show(w1.drew.alloc (.cells zzT.toArray 30)).heap.size=(w1.heap.size+1) by simp]at h;exact h
    have c:=bl_next c b
    refine hK.out _ _ (c) (fun hHeld=>?_)
    clear hK K
    try simp only[Act.put,LgT,Lg0,LgS,LsT,Ls0,LsS]
    clear b
    refine wpAnyH_ready (rs:=[9]) (by kernel_rfl) (by simp) ?_
    refine AllReadyH.cons (i:=9) rfl (fun K hK=>?_) AllReadyH.nil
    rw[if_pos (by rfl)]
    simp only[LgT,Lg0,LgS]
    go_simp
    refine(hH.out _ (show Hid (MtP ((w1.drew.alloc (.cells zzT.toArray 30)).alloc (.cells zzM.toArray 32)) m v)from HMP.out.later c) (show Hid (OwnI ((w1.drew.alloc (.cells zzT.toArray 30)).alloc (.cells zzM.toArray 32)) 0 s.v t.ws)from HS1.out.keep fun _ _ hk=>c.block _ hk)).mono ?_
    rintro e y1 ⟨u,fs,sn,rfl,hc,b⟩
    have BM:=hid (BM.out.later b)
    have BT:=hid (BT.out.later b)
    have HC:Hid (okb=true→HdR y1 m2 u fs L2 t2 sn):=hc
    have c:=bl_next c b
    refine hK.out _ _ (c) (fun hHeld=>?_)
    clear hK K
    try simp only[Act.put,LgT,Lg0,LgS,LsT,Ls0,LsS]
    clear b hc
    refine tkP (i:=10) rfl (by kernel_rfl) (fun _ _ _ h=>h) (by rfl) (fun w hSw=>by simp only[LgT,Lg0,LgS];go_simp;try with_reducible rfl) (by assumption) ?_
    try simp only[Act.put,LgT,Lg0,LgS,LsT,Ls0,LsS]
    refine tkP (i:=11) rfl (by kernel_rfl) (fun _ _ _ h=>h) (by rfl) (fun w hSw=>by simp only[LgT,Lg0,LgS];go_simp;try with_reducible rfl) (by assumption) ?_
    try simp only[Act.put,LgT,Lg0,LgS,LsT,Ls0,LsS]
    refine tkP (i:=12) rfl (by kernel_rfl) (fun _ _ _ h=>h) (by rfl) (fun w hSw=>by simp only[LgT,Lg0,LgS];go_simp;try with_reducible rfl) (by assumption) ?_
    try simp only[Act.put,LgT,Lg0,LgS,LsT,Ls0,LsS]
    refine tkP (i:=13) rfl (by kernel_rfl) (fun _ _ _ h=>h) (by rfl) (fun w hSw=>by simp only[LgT,Lg0,LgS];go_simp;try with_reducible rfl) (by assumption) ?_
    try simp only[Act.put,LgT,Lg0,LgS,LsT,Ls0,LsS]
    refine tkP (i:=14) rfl (by kernel_rfl) (fun _ _ _ h=>h) (by rfl) (fun w hSw=>by simp only[LgT,Lg0,LgS];go_simp;try with_reducible rfl) (by assumption) ?_
    try simp only[Act.put,LgT,Lg0,LgS,LsT,Ls0,LsS]
    refine wpAnyH_ready (rs:=[17]) (by kernel_rfl) (by simp) ?_
    refine AllReadyH.cons (i:=17) rfl (fun K hK=>?_) AllReadyH.nil
    rw[if_pos (by rfl)]
    simp only[LgT,Lg0,LgS]
    refine wp_stW 32 _ _ rfl (w1.heap.size+1) (by rfl) 32 _ BM.out [.int .i64 m2.id,.int .i64 m2.rid,.slice u.ms.a u.ms.n u.ms.c,.slice u.its.a u.its.n u.its.c,.slice u.lv.a u.lv.n u.lv.c,.slice u.tx.a u.tx.n u.tx.c,.int .i64 m2.rd,.int .i64 m2.se,.int .i64 m2.li,.int .i64 m2.he,.int .i64 m2.la.c,.int .i64 m2.la.r,.int .i64 m2.la.q,.int .i64 m2.la.a,.int .i64 m2.la.b,.slice u.ws.a u.ws.n u.ws.c] (by rfl) rfl Tryz.sizeM rfl ?_
    intro x1 kb kt
    have BT:=hid (BT.out.kt (KeepTy.ofTurn (S:=fun X=>X=32) BM.out kt rfl) (by decide))
    have HC:Hid (okb=true→HdR x1 m2 u fs L2 t2 sn):=fun e=>(HC.out e).keepb BM.out kt.keep (by decide) (by decide) (by decide)
    have c:=c.trans (kt.below zBM)
    have BM:=hid kb
    refine hK.out _ _ (c) (fun hHeld=>?_)
    clear hK K
    try simp only[Act.put,LgT,Lg0,LgS,LsT,Ls0,LsS]
    clear kb kt
    refine tkP (i:=18) rfl (by kernel_rfl) (fun _ _ _ h=>h) (by rfl) (fun w hSw=>by simp only[LgT,Lg0,LgS];go_simp;try with_reducible rfl) (by assumption) ?_
    try simp only[Act.put,LgT,Lg0,LgS,LsT,Ls0,LsS]
    refine wpAnyH_ready (rs:=[19]) (by kernel_rfl) (by simp) ?_
    refine AllReadyH.cons (i:=19) rfl (fun K hK=>?_) AllReadyH.nil
    rw[if_pos (by rfl)]
    simp only[LgT,Lg0,LgS]
    refine wp_stW 30 _ _ rfl w1.heap.size (by rfl) 30 _ BT.out [.int .i64 t2.c,.int .i64 t2.r,.int .i64 t2.q,.int .i64 t2.a,.int .i64 t2.b,.slice sn.a sn.n sn.c] (by rfl) rfl Tryz.sizeT rfl ?_
    intro x2 kb kt
    have BM:=hid (BM.out.kt (KeepTy.ofTurn (S:=fun X=>X=30) BT.out kt rfl) (by decide))
    have HC:Hid (okb=true→HdR x2 m2 u fs L2 t2 sn):=fun e=>(HC.out e).keepb BT.out kt.keep (by decide) (by decide) (by decide)
    have c:=c.trans (kt.below zBT)
    have BT:=hid kb
    refine hK.out _ _ (c) (fun hHeld=>?_)
    clear hK K
    try simp only[Act.put,LgT,Lg0,LgS,LsT,Ls0,LsS]
    clear kb kt
    refine tkP (i:=20) rfl (by kernel_rfl) (fun _ _ _ h=>h) (by rfl) (fun w hSw=>by simp only[LgT,Lg0,LgS];go_simp;try with_reducible rfl) (by assumption) ?_
    try simp only[Act.put,LgT,Lg0,LgS,LsT,Ls0,LsS]
    refine wpAnyH_done (by kernel_rfl) ?_ _
    try go_wp2_with fail
    go_meet
    exact⟨(w1.heap.size+1),w1.heap.size,u,fs,sn,rfl,rfl,rfl,rfl,BM.out,BT.out,HC.out,zBM,zBT,c⟩
 case rest=>
 obtain⟨gb,gt,u,fs,sn,rfl,rfl,rfl,rfl,bm,bt,hcc,zb,zt,b2⟩:=hcut
 generalize wc=w2 at *
 cases okb with
 |false=>
  go_wp2_with fail
  go_ret
  exact(show ComeP false _ _ _ _ _ from⟨rfl,bl_next B1.out b2⟩)
 |true=>
 obtain⟨hu,hf,ht⟩:=hcc rfl
 obtain⟨hml,hfl,hsl⟩:=hbig rfl
 clear hcc hbig
 have BM:Hid (Bx w2 gb 32 [.int .i64 m2.id,.int .i64 m2.rid,.slice u.ms.a u.ms.n u.ms.c,.slice u.its.a u.its.n u.its.c,.slice u.lv.a u.lv.n u.lv.c,.slice u.tx.a u.tx.n u.tx.c,.int .i64 m2.rd,.int .i64 m2.se,.int .i64 m2.li,.int .i64 m2.he,.int .i64 m2.la.c,.int .i64 m2.la.r,.int .i64 m2.la.q,.int .i64 m2.la.a,.int .i64 m2.la.b,.slice u.ws.a u.ws.n u.ws.c]):=bm
 have BT:Hid (Bx w2 gt 30 [.int .i64 t2.c,.int .i64 t2.r,.int .i64 t2.q,.int .i64 t2.a,.int .i64 t2.b,.slice sn.a sn.n sn.c]):=bt
 have HU:Hid (MtP w2 m2 u):=hu
 have HF:Hid (SlI w2 0 fs.v (L2)):=hf
 have HT:Hid (OwnI w2 0 sn.v t2.ws):=ht
 have G2:=hid (G1.out.later b2)
 have P2:=hid (P1.out.below b2)
 have FB:=hid (FB.out.later b2)
 have B2:=hid (bl_next B1.out b2)
 have z2:=b2.size
 clear bm bt hu hf ht b2 G1 P1 G1a HMP HR HS1 B1 hgm hgl
 go_wp2_with (first|(refine wpList_ldG rfl 32 _ rfl gb 0 rfl 32 _ BM.out [.int .i64 m2.id,.int .i64 m2.rid,.slice u.ms.a u.ms.n u.ms.c,.slice u.its.a u.its.n u.its.c,.slice u.lv.a u.lv.n u.lv.c,.slice u.tx.a u.tx.n u.tx.c,.int .i64 m2.rd,.int .i64 m2.se,.int .i64 m2.li,.int .i64 m2.he,.int .i64 m2.la.c,.int .i64 m2.la.r,.int .i64 m2.la.q,.int .i64 m2.la.a,.int .i64 m2.la.b,.slice u.ws.a u.ws.n u.ws.c] rfl _ Tryz.underlying32 rfl Tryz.sizeM ?_))
 refine(elMate_any g k i m2 u _ G2 P2 HU hi (by omega)).mono ?_
 rintro e w3 ⟨rfl,mz,g3,p3,k3⟩
 have G3:Hid (Bx w3 g 56 [.int .i64 k.rid,.slice k.mv.a k.mv.n k.mv.c,.slice mz.a mz.n mz.c,.slice k.flv.a k.flv.n k.flv.c,.slice k.hev.a k.hev.n k.hev.c,.slice k.sav.a k.sav.n k.sav.c]):=g3
 have P3:Hid (WkP w3 (k.setM i m2 u mz)):=p3
 have BT:=hid (BT.out.keepb k3 (by omega))
 have HF:=hid (SlI.keepb HF.out G2.out k3 (by decide))
 have HT:=hid (HT.out.keepb G2.out k3 (by decide))
 have FB:=hid (FB.out.keepb k3 (by omega))
 have K3:Hid (KeepBut g w w3):=(keep_of_below B2.out).trans k3
 have z3:=k3.size
 clear g3 p3 k3 BM HU G2 P2 B2
 obtain⟨L,hL⟩: ∃x,x=L2:=⟨_,rfl⟩
 have hLl:L.length≤63:=by rw[hL];exact hLl2
 have HL:Hid (L=L2):=hL
 rw[←hL]at HF
 clear hL
 have HFN:Hid (fs.n=L.length):=HF.out.len
 have hfn:fs.n≤63:=by have:=HFN.out;omega
 have K0:Hid (KeepBut g w3 w3):=keep_of_below (Below.refl _ _)
 go_wp2_with fail
 go_loopw [10] (fun v10 wr=>∃(j:Nat) (z:Sv) (sa:List It),j≤fs.n∧v10=.int .i64 (j:Int)∧Hid (sa=k.sa++newQ t (L.take j))∧Hid (Bx wr g 56 [.int .i64 k.rid,.slice k.mv.a k.mv.n k.mv.c,.slice mz.a mz.n mz.c,.slice k.flv.a k.flv.n k.flv.c,.slice k.hev.a k.hev.n k.hev.c,.slice z.a z.n z.c])∧Hid (SlI wr 0 z.v sa)∧Hid (KeepBut g w3 wr)) (fun v10 _=>fs.n - (intOf v10).toNat)
 case atStart=>exact⟨0,k.sav,k.sa,Nat.zero_le _,rfl,by simp[newQ];trivial,G3,P3.out.sa,K0⟩
 case round=>
  clear K0
  obtain⟨j,z,sa,hj,rfl,HSA,GR,SR,KR⟩:=hrel
  have FB1:=hid (FB.out.keepb KR.out (by omega))
  have zr:w3.heap.size≤wr.heap.size:=KR.out.size
  by_cases hlt:j<fs.n
  ·have hjL:j<L.length:=by have:=HFN.out;omega
   have HF1:=hid (SlI.keepb HF.out G3.out KR.out (by decide))
   have hsal:sa.length≤991000:=by have e1:=HSA.out;have e2:=newQ_len t (L.take j);rw[e1,List.length_append];rw[List.length_take]at e2;omega
   obtain⟨gi,oi,hia,_,hil2,hir⟩:=HF1.out.at hjL
   obtain⟨⟨q1,f1,l1,t1⟩,hy⟩: ∃y:It,L[j]=y:=⟨_,rfl⟩
   rw[hy]at hir
   have HY:Hid (L[j]=(q1,f1,l1,t1)):=hy
   have HIR:Hid (wr.rangeAt gi (oi+j * 4) [.int .i64 q1,.int .i64 f1,.int .i64 l1,.string t1]):=hir
   have hc:wr.cell? ⟨gi,oi+j * 4,none⟩=some (.int .i64 q1):=by have:=range_cell hir 0 (v:=.int .i64 q1) rfl;simpa using this
   have HC:Hid (wr.cell? ⟨gi,oi+j * 4,none⟩=some (.int .i64 q1)):=hc
   clear hy hir hc
   obtain⟨fa,fn,fc⟩:=fs
   simp only at hia
   subst hia
   have i0:(0:Int)≤(j:Int):=by omega
   have i1:(j:Int)<(fn:Int):=by have:=hlt;simp at this;omega
   go_wp2_with fail
   go_cut [68]from 58 to 83 (fun a68 wx=>a68=.bool (decide (t.q<q1))∧wx=wr.drew)
   case first=>
    have c:wr.drew=wr.drew:=rfl
    refine wp_region_held_drew (S:=fun w'=>w'=wr.drew) (by kernel_rfl) rfl (fun hHeld=>?_)
    refine tkP (i:=0) rfl (by kernel_rfl) (fun _ _ _ h=>h) (by rfl) (fun w hSw=>by simp only[LgT,Lg0,LgS];go_simp;try with_reducible rfl) (by assumption) ?_
    try simp only[Act.put,LgT,Lg0,LgS,LsT,Ls0,LsS]
    refine tkP (i:=1) rfl (by kernel_rfl) (fun _ _ _ h=>h) (by rfl) (fun w hSw=>by simp only[LgT,Lg0,LgS];go_simp;try with_reducible rfl) (by assumption) ?_
    try simp only[Act.put,LgT,Lg0,LgS,LsT,Ls0,LsS]
    refine tkP (i:=2) rfl (by kernel_rfl) (fun _ _ _ h=>h) (by rfl) (fun w hSw=>by simp only[LgT,Lg0,LgS];go_simp;try with_reducible rfl) (by assumption) ?_
    try simp only[Act.put,LgT,Lg0,LgS,LsT,Ls0,LsS]
    refine tkP (i:=3) rfl (by kernel_rfl) (fun _ _ _ h=>h) (by rfl) (fun w hSw=>by simp only[LgT,Lg0,LgS];go_simp;try with_reducible rfl) (by assumption) ?_
    try simp only[Act.put,LgT,Lg0,LgS,LsT,Ls0,LsS]
    refine tkH (i:=4) (v:=.int .i64 q1) rfl (by kernel_rfl) (fun _ _ _ h=>h) (Or.inl ⟨by rfl,fun w hS=>by subst hS;have hc0:=HC.out;go_simp⟩) (by assumption) ?_
    try simp only[Act.put,LsT,Ls0,LsS]
    refine tkP (i:=5) rfl (by kernel_rfl) (fun _ _ _ h=>h) (by rfl) (fun w hSw=>by simp only[LgT,Lg0,LgS];go_simp;try with_reducible rfl) (by assumption) ?_
    try simp only[Act.put,LgT,Lg0,LgS,LsT,Ls0,LsS]
    refine tkP (i:=6) rfl (by kernel_rfl) (fun _ _ _ h=>h) (by rfl) (fun w hSw=>by simp only[LgT,Lg0,LgS];go_simp;try with_reducible rfl) (by assumption) ?_
    try simp only[Act.put,LgT,Lg0,LgS,LsT,Ls0,LsS]
    refine tkH (i:=7) (v:=_) rfl (by kernel_rfl) (fun _ _ _ h=>h) (ld1_yield (by rfl) 3 _ rfl w.heap.size 4 rfl 68 _ (fun w hS=>by subst hS;exact FB1.out.later (Below.refl _ _).drew) (.int .i64 t.q) rfl _ Tryz.underlying3 rfl) (by assumption) ?_
    try simp only[Act.put,LgT,Lg0,LgS,LsT,Ls0,LsS]
    refine tkP (i:=8) rfl (by kernel_rfl) (fun _ _ _ h=>h) (by rfl) (fun w hSw=>by simp only[LgT,Lg0,LgS];go_simp;try with_reducible rfl) (by assumption) ?_
    try simp only[Act.put,LgT,Lg0,LgS,LsT,Ls0,LsS]
    refine wpAnyH_done (by kernel_rfl) ?_ _
    try go_wp2_with fail
    go_meet
    exact⟨rfl,rfl⟩
   case rest=>
   obtain⟨rfl,rfl⟩:=hcut
   have bd:Below wr.heap.size wr wr.drew:=(Below.refl _ _).drew
   have GR:=hid (GR.out.later bd)
   have SR:=hid (SR.out.below bd)
   have HIR:=hid (range_later HIR.out hil2 bd)
   have hil2:gi<wr.drew.heap.size:=by have:=bd.size;omega
   have KR:=hid (KR.out.trans (keep_of_below bd))
   clear bd HC FB1 HF1
   generalize wr.drew=Wd at *
   have zg3:=GR.out.lt
   by_cases hq:t.q<q1
   ·have hd:decide (t.q<q1)=true:=by simpa using hq
    have E:Hid (sa++[(q1,f1,l1,t1)]=k.sa++newQ t (L.take (j+1))):=(by rw[newP_step hjL,HY.out,if_pos hq,←List.append_assoc,←HSA.out]:_=_)
    rw[hd]
    clear hq
    go_wp2_with fail
    have c:Below Wd.heap.size Wd Wd.drew:=(Below.refl _ _).drew
    refine wp_region_heldLast (S:=fun w'=>Below Wd.heap.size Wd w') _ (by simp) (by kernel_rfl) (by rfl) (by rfl) (by kernel_rfl) (by kernel_rfl) c (fun hHeld=>?_)
    simp only[List.dropLast_cons_cons,List.dropLast_singleton,List.getLast_cons_cons,List.getLast_singleton,List.cons_append,List.nil_append,List.length_cons,List.length_nil]
    refine tkP (i:=0) rfl (by kernel_rfl) (fun _ _ _ h=>h) (by rfl) (fun w hSw=>by simp only[LgT,Lg0,LgS];go_simp;try with_reducible rfl) (by assumption) ?_
    try simp only[Act.put,LgT,Lg0,LgS,LsT,Ls0,LsS]
    refine tkP (i:=2) rfl (by kernel_rfl) (fun _ _ _ h=>h) (by rfl) (fun w hSw=>by simp only[LgT,Lg0,LgS];go_simp;try with_reducible rfl) (by assumption) ?_
    try simp only[Act.put,LgT,Lg0,LgS,LsT,Ls0,LsS]
    refine tkP (i:=3) rfl (by kernel_rfl) (fun _ _ _ h=>h) (by rfl) (fun w hSw=>by simp only[LgT,Lg0,LgS];go_simp;try with_reducible rfl) (by assumption) ?_
    try simp only[Act.put,LgT,Lg0,LgS,LsT,Ls0,LsS]
    refine tkP (i:=4) rfl (by kernel_rfl) (fun _ _ _ h=>h) (by rfl) (fun w hSw=>by simp only[LgT,Lg0,LgS];go_simp;try with_reducible rfl) (by assumption) ?_
    try simp only[Act.put,LgT,Lg0,LgS,LsT,Ls0,LsS]
    refine tkH (i:=5) (v:=_) rfl (by kernel_rfl) (fun _ _ _ h=>h) (ld1_yield (by rfl) 27 _ rfl g 5 rfl 56 _ (fun w hS=>GR.out.later hS) (.slice z.a z.n z.c) rfl _ Tryz.underlying27 rfl) (by assumption) ?_
    try simp only[Act.put,LgT,Lg0,LgS,LsT,Ls0,LsS]
    refine tkP (i:=7) rfl (by kernel_rfl) (fun _ _ _ h=>h) (by rfl) (fun w hSw=>by simp only[LgT,Lg0,LgS];go_simp;try with_reducible rfl) (by assumption) ?_
    try simp only[Act.put,LgT,Lg0,LgS,LsT,Ls0,LsS]
    refine tkP (i:=8) rfl (by kernel_rfl) (fun _ _ _ h=>h) (by rfl) (fun w hSw=>by simp only[LgT,Lg0,LgS];go_simp;try with_reducible rfl) (by assumption) ?_
    try simp only[Act.put,LgT,Lg0,LgS,LsT,Ls0,LsS]
    refine tkP (i:=9) rfl (by kernel_rfl) (fun _ _ _ h=>h) (by rfl) (fun w hSw=>by simp only[LgT,Lg0,LgS];go_simp;try with_reducible rfl) (by assumption) ?_
    try simp only[Act.put,LgT,Lg0,LgS,LsT,Ls0,LsS]
    refine tkH (i:=10) (v:=_) rfl (by kernel_rfl) (fun _ _ _ h=>h) (ldN_yield (by rfl) 41 _ rfl gi (oi+j * 4) (by rfl) [.int .i64 q1,.int .i64 f1,.int .i64 l1,.string t1] (fun w hS=>range_later HIR.out hil2 hS) _ Tryz.underlying41 rfl Tryz.sizeI) (by assumption) ?_
    try simp only[Act.put,LsT,Ls0,LsS]
    refine wpAnyH_ready (rs:=[1,11]) (by kernel_rfl) (by simp) ?_
    refine(AllReadyH.cons (i:=1) rfl (fun K hK=>?_) (AllReadyH.cons (i:=11) rfl (fun K hK=>?_) AllReadyH.nil))
    ·skip
     rw[if_pos (by rfl)]
     simp only[LgT,Lg0,LgS]
     go_simp
     have b:=bA Wd.drew (.cells #[] 41)
     have S1:=hid (sliAt Wd.drew Wd.heap.size Wd.heap.size c.size (by simp))
     have c:=bl_next c b
     refine hK.out _ _ (c) (fun hHeld=>?_)
     clear hK K
     try simp only[Act.put,LgT,Lg0,LgS,LsT,Ls0,LsS]
     clear b
     refine wpAnyH_ready (rs:=[6,11]) (by kernel_rfl) (by simp) ?_
     refine(AllReadyH.cons (i:=6) rfl (fun K hK=>?_) (AllReadyH.cons (i:=11) rfl (fun K hK=>?_) AllReadyH.nil))
     ·skip
      rw[if_pos (by rfl)]
      simp only[LgT,Lg0,LgS]
      refine wp_catIt _ _ 27 rfl Tryz.underlying27 Wd.heap.size (.slice (some ⟨Wd.heap.size,0,none⟩) 0 0) [] (by rfl) S1.out (.slice z.a z.n z.c) sa (by rfl) (SR.out.rit.stays c) (by simp;omega) c.size ?_
      intro v2 y2 s2 g2 _
      rw[List.nil_append]at s2
      have c:=c.grown g2 c.size (fun n hn=>(S1.out.lt n hn).1)
      have S2:Hid (SlI y2 Wd.heap.size v2 sa):=s2
      refine hK.out _ _ (c) (fun hHeld=>?_)
      clear hK K
      try simp only[Act.put,LgT,Lg0,LgS,LsT,Ls0,LsS]
      clear s2 g2 S1
      refine wpAnyH_ready (rs:=[11]) (by kernel_rfl) (by simp) ?_
      refine AllReadyH.cons (i:=11) rfl (fun K hK=>?_) AllReadyH.nil
      rw[if_pos (by rfl)]
      simp only[LgT,Lg0,LgS]
      go_simp
      have b:=bA y2 (.cells #[.int .i64 q1,.int .i64 f1,.int .i64 l1,.string t1] 41)
      have BX:=hid (bxAt y2 41 [.int .i64 q1,.int .i64 f1,.int .i64 l1,.string t1] y2.heap.size (by simp))
      have S2:=hid (S2.out.below b)
      have c:=bl_next c b
      refine hK.out _ _ (c) (fun hHeld=>?_)
      clear hK K
      try simp only[Act.put,LgT,Lg0,LgS,LsT,Ls0,LsS]
      clear b
      refine wpAnyH_ready (rs:=[12]) (by kernel_rfl) (by simp) ?_
      refine AllReadyH.cons (i:=12) rfl (fun K hK=>?_) AllReadyH.nil
      rw[if_pos (by rfl)]
      simp only[LgT,Lg0,LgS]
      have RX:RIt (y2.alloc (.cells #[.int .i64 q1,.int .i64 f1,.int .i64 l1,.string t1] 41)) (Sv.mk (some ⟨y2.heap.size,0,none⟩) 1 1).v [(q1,f1,l1,t1)]:=one_item BX.out BX.out.lt
      refine wp_catIt _ _ 27 rfl Tryz.underlying27 Wd.heap.size v2 sa (by rfl) S2.out _ [(q1,f1,l1,t1)] (by rfl) RX (by simp;omega) c.size ?_
      intro v3 y3 s3 g3 _
      obtain⟨z3,hz3⟩:=SlI.sv s3
      subst hz3
      have c:=c.grown g3 c.size (fun n hn=>(S2.out.lt n hn).1)
      have S3:Hid (SlI y3 0 z3.v (sa++[(q1,f1,l1,t1)])):=SlI.down s3 (Nat.zero_le _)
      refine hK.out _ _ (c) (fun hHeld=>?_)
      clear hK K
      try simp only[Act.put,LgT,Lg0,LgS,LsT,Ls0,LsS]
      clear s3 g3 S2 RX
      refine tkP (i:=13) rfl (by kernel_rfl) (fun _ _ _ h=>h) (by rfl) (fun w hSw=>by simp only[LgT,Lg0,LgS];go_simp;try with_reducible rfl) (by assumption) ?_
      try simp only[Act.put,LgT,Lg0,LgS,LsT,Ls0,LsS]
      refine tkP (i:=14) rfl (by kernel_rfl) (fun _ _ _ h=>h) (by rfl) (fun w hSw=>by simp only[LgT,Lg0,LgS];go_simp;try with_reducible rfl) (by assumption) ?_
      try simp only[Act.put,LgT,Lg0,LgS,LsT,Ls0,LsS]
      refine tkP (i:=15) rfl (by kernel_rfl) (fun _ _ _ h=>h) (by rfl) (fun w hSw=>by simp only[LgT,Lg0,LgS];go_simp;try with_reducible rfl) (by assumption) ?_
      try simp only[Act.put,LgT,Lg0,LgS,LsT,Ls0,LsS]
      refine wpAnyH_done (by kernel_rfl) ?_ _
      have G9:=hid (GR.out.later c)
      refine lastQ_of rfl rfl ?_
      refine wp_st1 27 _ _ rfl g 5 rfl 56 _ G9.out (.slice z3.a z3.n z3.c) rfl (by simp) rfl Tryz.sizeIs [.int .i64 k.rid,.slice k.mv.a k.mv.n k.mv.c,.slice mz.a mz.n mz.c,.slice k.flv.a k.flv.n k.flv.c,.slice k.hev.a k.hev.n k.hev.c,.slice z3.a z3.n z3.c] rfl ?_
      intro w9 k9 t9
      have G10:=hid k9
      have S10:=hid (SlI.past S3.out G9.out t9 (by decide))
      have K10:=hid ((KR.out.trans (keep_of_below c)).trans t9.keep)
      clear k9 t9 c S3 G9
      go_wp2_with fail
      go_roundw
      case rel=>exact⟨j+1,z3,_,by omega,by go_num,E,G10,S10,K10⟩
      case measure=>simp[intOf];omega
     ·skip
      rw[if_pos (by rfl)]
      simp only[LgT,Lg0,LgS]
      go_simp
      have b:Below (Wd.drew.alloc (.cells #[] 41)).heap.size (Wd.drew.alloc (.cells #[] 41)) ((Wd.drew.alloc (.cells #[] 41)).alloc (.cells #[.int .i64 q1,.int .i64 f1,.int .i64 l1,.string t1] 41)):=(Below.refl _ _).alloc (Nat.le_refl _) _
      have BX:=hid (bxAt (Wd.drew.alloc (.cells #[] 41)) 41 [.int .i64 q1,.int .i64 f1,.int .i64 l1,.string t1] (Wd.heap.size+1) (by simp))
      have S1:=hid (S1.out.below b)
      have c:=bl_next c b
      refine hK.out _ _ (c) (fun hHeld=>?_)
      clear hK K
      try simp only[Act.put,LgT,Lg0,LgS,LsT,Ls0,LsS]
      clear b
      refine wpAnyH_ready (rs:=[6]) (by kernel_rfl) (by simp) ?_
      refine AllReadyH.cons (i:=6) rfl (fun K hK=>?_) AllReadyH.nil
      rw[if_pos (by rfl)]
      simp only[LgT,Lg0,LgS]
      refine wp_catIt _ _ 27 rfl Tryz.underlying27 Wd.heap.size (.slice (some ⟨Wd.heap.size,0,none⟩) 0 0) [] (by rfl) S1.out (.slice z.a z.n z.c) sa (by rfl) (SR.out.rit.stays c) (by simp;omega) c.size ?_
      intro v2 y2 s2 g2 _
      rw[List.nil_append]at s2
      have BX:Hid (Bx y2 (Wd.heap.size+1) 41 [.int .i64 q1,.int .i64 f1,.int .i64 l1,.string t1]):=BX.out.grown g2 (by simp[Value.ownBlock]<;>omega)
      have c:=c.grown g2 c.size (fun n hn=>(S1.out.lt n hn).1)
      have S2:Hid (SlI y2 Wd.heap.size v2 sa):=s2
      refine hK.out _ _ (c) (fun hHeld=>?_)
      clear hK K
      try simp only[Act.put,LgT,Lg0,LgS,LsT,Ls0,LsS]
      clear s2 g2 S1
      refine wpAnyH_ready (rs:=[12]) (by kernel_rfl) (by simp) ?_
      refine AllReadyH.cons (i:=12) rfl (fun K hK=>?_) AllReadyH.nil
      rw[if_pos (by rfl)]
      simp only[LgT,Lg0,LgS]
      have RX:RIt y2 (Sv.mk (some ⟨(Wd.heap.size+1),0,none⟩) 1 1).v [(q1,f1,l1,t1)]:=one_item BX.out BX.out.lt
      refine wp_catIt _ _ 27 rfl Tryz.underlying27 Wd.heap.size v2 sa (by rfl) S2.out _ [(q1,f1,l1,t1)] (by rfl) RX (by simp;omega) c.size ?_
      intro v3 y3 s3 g3 _
      obtain⟨z3,hz3⟩:=SlI.sv s3
      subst hz3
      have c:=c.grown g3 c.size (fun n hn=>(S2.out.lt n hn).1)
      have S3:Hid (SlI y3 0 z3.v (sa++[(q1,f1,l1,t1)])):=SlI.down s3 (Nat.zero_le _)
      refine hK.out _ _ (c) (fun hHeld=>?_)
      clear hK K
      try simp only[Act.put,LgT,Lg0,LgS,LsT,Ls0,LsS]
      clear s3 g3 S2 RX
      refine tkP (i:=13) rfl (by kernel_rfl) (fun _ _ _ h=>h) (by rfl) (fun w hSw=>by simp only[LgT,Lg0,LgS];go_simp;try with_reducible rfl) (by assumption) ?_
      try simp only[Act.put,LgT,Lg0,LgS,LsT,Ls0,LsS]
      refine tkP (i:=14) rfl (by kernel_rfl) (fun _ _ _ h=>h) (by rfl) (fun w hSw=>by simp only[LgT,Lg0,LgS];go_simp;try with_reducible rfl) (by assumption) ?_
      try simp only[Act.put,LgT,Lg0,LgS,LsT,Ls0,LsS]
      refine tkP (i:=15) rfl (by kernel_rfl) (fun _ _ _ h=>h) (by rfl) (fun w hSw=>by simp only[LgT,Lg0,LgS];go_simp;try with_reducible rfl) (by assumption) ?_
      try simp only[Act.put,LgT,Lg0,LgS,LsT,Ls0,LsS]
      refine wpAnyH_done (by kernel_rfl) ?_ _
      have G9:=hid (GR.out.later c)
      refine lastQ_of rfl rfl ?_
      refine wp_st1 27 _ _ rfl g 5 rfl 56 _ G9.out (.slice z3.a z3.n z3.c) rfl (by simp) rfl Tryz.sizeIs [.int .i64 k.rid,.slice k.mv.a k.mv.n k.mv.c,.slice mz.a mz.n mz.c,.slice k.flv.a k.flv.n k.flv.c,.slice k.hev.a k.hev.n k.hev.c,.slice z3.a z3.n z3.c] rfl ?_
      intro w9 k9 t9
      have G10:=hid k9
      have S10:=hid (SlI.past S3.out G9.out t9 (by decide))
      have K10:=hid ((KR.out.trans (keep_of_below c)).trans t9.keep)
      clear k9 t9 c S3 G9
      go_wp2_with fail
      go_roundw
      case rel=>exact⟨j+1,z3,_,by omega,by go_num,E,G10,S10,K10⟩
      case measure=>simp[intOf];omega
    ·skip
     rw[if_pos (by rfl)]
     simp only[LgT,Lg0,LgS]
     go_simp
     have b:=bA Wd.drew (.cells #[.int .i64 q1,.int .i64 f1,.int .i64 l1,.string t1] 41)
     have BX:=hid (bxAt Wd.drew 41 [.int .i64 q1,.int .i64 f1,.int .i64 l1,.string t1] Wd.heap.size (by simp))
     have c:=bl_next c b
     refine hK.out _ _ (c) (fun hHeld=>?_)
     clear hK K
     try simp only[Act.put,LgT,Lg0,LgS,LsT,Ls0,LsS]
     clear b
     refine wpAnyH_ready (rs:=[1]) (by kernel_rfl) (by simp) ?_
     refine AllReadyH.cons (i:=1) rfl (fun K hK=>?_) AllReadyH.nil
     rw[if_pos (by rfl)]
     simp only[LgT,Lg0,LgS]
     go_simp
     have b:Below (Wd.drew.alloc (.cells #[.int .i64 q1,.int .i64 f1,.int .i64 l1,.string t1] 41)).heap.size (Wd.drew.alloc (.cells #[.int .i64 q1,.int .i64 f1,.int .i64 l1,.string t1] 41)) ((Wd.drew.alloc (.cells #[.int .i64 q1,.int .i64 f1,.int .i64 l1,.string t1] 41)).alloc (.cells #[] 41)):=(Below.refl _ _).alloc (Nat.le_refl _) _
     have BX:=hid (BX.out.later b)
     have S1:=hid (sliAt (Wd.drew.alloc (.cells #[.int .i64 q1,.int .i64 f1,.int .i64 l1,.string t1] 41)) Wd.heap.size (Wd.heap.size+1) c.size (by simp))
     have c:=bl_next c b
     refine hK.out _ _ (c) (fun hHeld=>?_)
     clear hK K
     try simp only[Act.put,LgT,Lg0,LgS,LsT,Ls0,LsS]
     clear b
     refine wpAnyH_ready (rs:=[6]) (by kernel_rfl) (by simp) ?_
     refine AllReadyH.cons (i:=6) rfl (fun K hK=>?_) AllReadyH.nil
     rw[if_pos (by rfl)]
     simp only[LgT,Lg0,LgS]
     refine wp_catIt _ _ 27 rfl Tryz.underlying27 Wd.heap.size (.slice (some ⟨(Wd.heap.size+1),0,none⟩) 0 0) [] (by rfl) S1.out (.slice z.a z.n z.c) sa (by rfl) (SR.out.rit.stays c) (by simp;omega) c.size ?_
     intro v2 y2 s2 g2 _
     rw[List.nil_append]at s2
     have BX:Hid (Bx y2 Wd.heap.size 41 [.int .i64 q1,.int .i64 f1,.int .i64 l1,.string t1]):=BX.out.grown g2 (by simp[Value.ownBlock]<;>omega)
     have c:=c.grown g2 c.size (fun n hn=>(S1.out.lt n hn).1)
     have S2:Hid (SlI y2 Wd.heap.size v2 sa):=s2
     refine hK.out _ _ (c) (fun hHeld=>?_)
     clear hK K
     try simp only[Act.put,LgT,Lg0,LgS,LsT,Ls0,LsS]
     clear s2 g2 S1
     refine wpAnyH_ready (rs:=[12]) (by kernel_rfl) (by simp) ?_
     refine AllReadyH.cons (i:=12) rfl (fun K hK=>?_) AllReadyH.nil
     rw[if_pos (by rfl)]
     simp only[LgT,Lg0,LgS]
     have RX:RIt y2 (Sv.mk (some ⟨Wd.heap.size,0,none⟩) 1 1).v [(q1,f1,l1,t1)]:=one_item BX.out BX.out.lt
     refine wp_catIt _ _ 27 rfl Tryz.underlying27 Wd.heap.size v2 sa (by rfl) S2.out _ [(q1,f1,l1,t1)] (by rfl) RX (by simp;omega) c.size ?_
     intro v3 y3 s3 g3 _
     obtain⟨z3,hz3⟩:=SlI.sv s3
     subst hz3
     have c:=c.grown g3 c.size (fun n hn=>(S2.out.lt n hn).1)
     have S3:Hid (SlI y3 0 z3.v (sa++[(q1,f1,l1,t1)])):=SlI.down s3 (Nat.zero_le _)
     refine hK.out _ _ (c) (fun hHeld=>?_)
     clear hK K
     try simp only[Act.put,LgT,Lg0,LgS,LsT,Ls0,LsS]
     clear s3 g3 S2 RX
     refine tkP (i:=13) rfl (by kernel_rfl) (fun _ _ _ h=>h) (by rfl) (fun w hSw=>by simp only[LgT,Lg0,LgS];go_simp;try with_reducible rfl) (by assumption) ?_
     try simp only[Act.put,LgT,Lg0,LgS,LsT,Ls0,LsS]
     refine tkP (i:=14) rfl (by kernel_rfl) (fun _ _ _ h=>h) (by rfl) (fun w hSw=>by simp only[LgT,Lg0,LgS];go_simp;try with_reducible rfl) (by assumption) ?_
     try simp only[Act.put,LgT,Lg0,LgS,LsT,Ls0,LsS]
     refine tkP (i:=15) rfl (by kernel_rfl) (fun _ _ _ h=>h) (by rfl) (fun w hSw=>by simp only[LgT,Lg0,LgS];go_simp;try with_reducible rfl) (by assumption) ?_
     try simp only[Act.put,LgT,Lg0,LgS,LsT,Ls0,LsS]
     refine wpAnyH_done (by kernel_rfl) ?_ _
     have G9:=hid (GR.out.later c)
     refine lastQ_of rfl rfl ?_
     refine wp_st1 27 _ _ rfl g 5 rfl 56 _ G9.out (.slice z3.a z3.n z3.c) rfl (by simp) rfl Tryz.sizeIs [.int .i64 k.rid,.slice k.mv.a k.mv.n k.mv.c,.slice mz.a mz.n mz.c,.slice k.flv.a k.flv.n k.flv.c,.slice k.hev.a k.hev.n k.hev.c,.slice z3.a z3.n z3.c] rfl ?_
     intro w9 k9 t9
     have G10:=hid k9
     have S10:=hid (SlI.past S3.out G9.out t9 (by decide))
     have K10:=hid ((KR.out.trans (keep_of_below c)).trans t9.keep)
     clear k9 t9 c S3 G9
     go_wp2_with fail
     go_roundw
     case rel=>exact⟨j+1,z3,_,by omega,by go_num,E,G10,S10,K10⟩
     case measure=>simp[intOf];omega
   ·have hd:decide (t.q<q1)=false:=by simpa using hq
    have E:Hid (sa=k.sa++newQ t (L.take (j+1))):=(by rw[newP_step hjL,HY.out,if_neg hq,List.append_nil];exact HSA.out:_=_)
    rw[hd]
    clear hq
    go_wp2_with fail
    go_roundw
    case rel=>exact⟨j+1,z,sa,by omega,by go_num,E,GR,SR,KR⟩
    case measure=>simp[intOf];omega
  ·have hjn:j=L.length:=by have:=HFN.out;omega
   have E:Hid (sa=k.sa++newQ t L):=(by rw[HSA.out,hjn,List.take_length]:_=_)
   have hd: ¬j<fs.n:=hlt
   have P4:Hid (WkP wr ((k.setM i m2 u mz).setS sa z)):=(by have p:=P3.out.keepb G3.out KR.out;exact⟨p.ring,p.ma,p.fl,p.he,SR.out⟩:WkP _ _)
   have G4:Hid (WkB wr g ((k.setM i m2 u mz).setS sa z)):=GR.out
   have HF1:=hid (SlI.keepb HF.out G3.out KR.out (by decide))
   have BT1:=hid (BT.out.keepb KR.out (by omega))
   have HT1:=hid (HT.out.keepb G3.out KR.out (by decide))
   have KW:=hid (K3.out.trans KR.out)
   have hf0:=FB1.out.cell 0
   clear hjn HSA
   go_wp2_with fail
   refine(elTell_any g ((k.setM i m2 u mz).setS sa z) d fs L _ G4 P4 HF1 (by simp[Wv.setS,Wv.setM];omega) (by omega) (by simp[Wv.setS,Wv.setM];omega)).mono ?_
   rintro e w5 ⟨rfl,z5,g5,p5,k5⟩
   have G5:Hid (WkB w5 g _):=g5
   have P5:Hid (WkP w5 _):=p5
   have FB5:=hid (FB1.out.keepb k5 (by omega))
   have BT5:=hid (BT1.out.keepb k5 (by omega))
   have HT5:=hid (HT1.out.keepb G4.out k5 (by decide))
   have KW5:=hid (KW.out.trans k5)
   clear g5 p5 k5 hf0
   have hf0:=FB5.out.cell 0
   go_wp2_with (first|(refine wpList_ldG rfl 30 _ rfl gt 0 rfl 30 _ BT5.out [.int .i64 t2.c,.int .i64 t2.r,.int .i64 t2.q,.int .i64 t2.a,.int .i64 t2.b,.slice sn.a sn.n sn.c] rfl _ Tryz.underlying30 rfl Tryz.sizeT ?_))
   refine(elToken_any g _ d t2 sn _ G5 P5 HT5 ht2 hml (by
    have e1:=tellL_len ((((k.setM i m2 u mz).setS sa z).ma).map (·.1)) d L
    simp only[Wv.setF,Wv.setS,Wv.setM,List.length_append,List.length_map,List.length_set]at e1⊢
    have e2:L.length * k.ma.length≤63 * 10:=Nat.mul_le_mul hLl hl
    omega)).mono ?_
   rintro e w6 ⟨rfl,z6,y6,g6,p6,k6⟩
   go_wp2_with fail
   go_ret
   refine(show ComeP true _ _ _ _ _ from⟨rfl,_,g6,p6,?_,KW5.out.trans k6⟩)
   simp only[Wv.pl,Wv.setF,Wv.setS,Wv.setM,comeG,List.map_append,List.map_set,List.map_cons,List.map_nil,E.out,HL.out]
theorem elCome_no (g:Nat) (k:Wv) (i:Nat) (m:Mt) (v:Mv) (d:Int) (t:Tok) (s:Sv) (q0 f0 l0:Int) (t0:ByteArray) (w:World) (h:Hid (WkB w g k)) (hk:Hid (WkP w k)) (hi:i<k.ma.length) (hm:Hid (k.ma[i]=(m,v))) (hat:Hid (atW (k.ma.map (·.1)) d=(i:Int))) (hok:Hid (m.ok=true)) (hl:k.ma.length≤10) (hs:Hid (OwnI w 0 s.v t.ws)) (hwl:t.ws.length≤1048576) (hmay:Hid (mayB m t=false)):
  Calls Tryz.prog 159 #[.pointer (some ⟨g,0,none⟩),.agg #[.int .i64 d,.bool true,.int .i64 t.c,.int .i64 t.r,.int .i64 t.q,.int .i64 t.a,.int .i64 t.b,.slice s.a s.n s.c,.int .i64 q0,.int .i64 f0,.int .i64 l0,.string t0]] w fun e w'=>e=.returned (.int .i64 1)∧Below w.heap.size w w':=
 elCome_tok g k i m v d t s q0 f0 l0 t0 w h hk hi hm hat hok hl hs false m [] zTok (fun w9 h1 h2=>(spHold_no m v t s w9 h1 h2 hwl (ok_sizes hok.out) hok hmay).mono fun e w' ⟨u,fs,he,_,b⟩=>⟨u,fs,zSv,he,(fun e=>by cases e),b⟩) (by decide) (by decide) (fun e=>by cases e)
theorem elCome_yes (g:Nat) (k:Wv) (i:Nat) (m:Mt) (v:Mv) (d:Int) (t:Tok) (s:Sv) (q0 f0 l0:Int) (t0:ByteArray) (w:World) (h:Hid (WkB w g k)) (hk:Hid (WkP w k)) (hi:i<k.ma.length) (hm:Hid (k.ma[i]=(m,v))) (hat:Hid (atW (k.ma.map (·.1)) d=(i:Int))) (hok:Hid (m.ok=true)) (hl:k.ma.length≤10) (hs:Hid (OwnI w 0 s.v t.ws)) (hwl:t.ws.length≤1048576) (hmay:Hid (mayB m t=true)) (hml:k.ms.length≤1048576) (hfl:k.fl.length≤990000) (hsl:k.sa.length≤990000):
  Calls Tryz.prog 159 #[.pointer (some ⟨g,0,none⟩),.agg #[.int .i64 d,.bool true,.int .i64 t.c,.int .i64 t.r,.int .i64 t.q,.int .i64 t.a,.int .i64 t.b,.slice s.a s.n s.c,.int .i64 q0,.int .i64 f0,.int .i64 l0,.string t0]] w fun e w'=>e=.returned (.int .i64 0)∧∃k':Wv,WkB w' g k'∧WkP w' k'∧k'.pl=comeT k.pl i d m t∧KeepBut g w w':=
 elCome_tok g k i m v d t s q0 f0 l0 t0 w h hk hi hm hat hok hl hs true (m.sheld t) (saidL m t) (sTok m t) (fun w9 h1 h2=>(spHold_yes m v t s w9 h1 h2 hwl (ok_sizes hok.out) hok hmay).mono fun e w' ⟨u,fs,sn,he,hu,hf,ht,b⟩=>⟨u,fs,sn,he,(fun _=>⟨hu,hf,ht⟩),b⟩) (said_len hok.out t) (Nat.le_trans (slackP_len _ _ _) (by decide)) (fun _=>⟨hml,hfl,hsl⟩)
theorem elDo_empty (g:Nat) (k:Wv) (d at0 l:Int) (x:ByteArray) (w:World) (h:Hid (WkB w g k)) (hk:Hid (WkP w k)) (hl:k.ma.length≤10) (kd:Int) (hkd:2≤kd∧kd≤5) (hf:Hid (k.fl.length=0)):
  Calls Tryz.prog 87 #[.pointer (some ⟨g,0,none⟩),.agg #[.int .i64 kd,.int .i64 d,.int .i64 at0,.int .i64 l,.string x]] w fun e w'=>e=.returned (.int .i64 1)∧Below w.heap.size w w':=by
 have zg:g<w.heap.size:=Bx.lt h.out
 have b0:=bA w (.cells #[.int .i64 kd,.int .i64 d,.int .i64 at0,.int .i64 l,.string x] 64)
 have TB:=hid (Bx.new w 64 [.int .i64 kd,.int .i64 d,.int .i64 at0,.int .i64 l,.string x])
 have G0:=hid (h.out.later b0)
 have P0:=hid (hk.out.below b0)
 have B0:Hid (Below w.heap.size w (w.alloc (.cells #[.int .i64 kd,.int .i64 d,.int .i64 at0,.int .i64 l,.string x] 64))):=b0
 have t1:=TB.out.cell 1
 clear b0 h hk
 go_enter Tryz.func87,Tryz.ntmps87
 go_wp2_with fail
 have zW:w.heap.size<(w.alloc (.cells #[.int .i64 kd,.int .i64 d,.int .i64 at0,.int .i64 l,.string x] 64)).heap.size:=TB.out.lt
 generalize (w.alloc (.cells #[.int .i64 kd,.int .i64 d,.int .i64 at0,.int .i64 l,.string x] 64))=W at *
 refine(elAt_any g k d _ G0 P0.out.ma (by omega)).mono ?_
 rintro e w1 ⟨rfl,b⟩
 have TB:=hid (TB.out.later b)
 have G1:=hid (G0.out.later b)
 have P1:=hid (P0.out.below b)
 have B1:=hid (bl_next B0.out b)
 have z1:=b.size
 clear b G0 P0 B0 t1
 have t0:=TB.out.cell 0
 have HFN:Hid (k.flv.n=k.fl.length):=P1.out.fl.len
 have q1:(kd==1)=false:=by simp;omega
 have q7:(kd==7)=false:=by simp;omega
 have q6:(kd==6)=false:=by simp;omega
 have c3:=Bx.cell G1.out 3
 have hn:k.flv.n=0:=by have h1:=HFN.out;have h2:=hf.out;omega
 rw[hn]at c3
 clear hn
 go_wp2_with fail
 go_ret
 exact⟨rfl,B1.out⟩
def twiceW (p:Wp) (f:Fl):Wp:=⟨p.rid,p.ms,p.ma,p.fl++[f],p.he,p.sa⟩
theorem elDo_twice (g:Nat) (k:Wv) (d at0 l:Int) (x:ByteArray) (w:World) (h:Hid (WkB w g k)) (hk:Hid (WkP w k)) (hl:k.ma.length≤10) (A:Nat) (f:Fl) (fsv:Sv) (hA:A<k.fl.length) (hrm:Hid (Int.tmod at0 (k.fl.length:Int)=(A:Int))) (hm:Hid (k.fl[A]=(f,fsv))) (hfl:k.fl.length≤1000000):
  Calls Tryz.prog 87 #[.pointer (some ⟨g,0,none⟩),.agg #[.int .i64 5,.int .i64 d,.int .i64 at0,.int .i64 l,.string x]] w fun e w'=>e=.returned (.int .i64 0)∧∃k':Wv,WkB w' g k'∧WkP w' k'∧k'.pl=twiceW k.pl f∧KeepBut g w w':=by
 have zg:g<w.heap.size:=Bx.lt h.out
 have b0:=bA w (.cells #[.int .i64 5,.int .i64 d,.int .i64 at0,.int .i64 l,.string x] 64)
 have TB:=hid (Bx.new w 64 [.int .i64 5,.int .i64 d,.int .i64 at0,.int .i64 l,.string x])
 have G0:=hid (h.out.later b0)
 have P0:=hid (hk.out.below b0)
 have B0:Hid (Below w.heap.size w (w.alloc (.cells #[.int .i64 5,.int .i64 d,.int .i64 at0,.int .i64 l,.string x] 64))):=b0
 have t1:=TB.out.cell 1
 clear b0 h hk
 go_enter Tryz.func87,Tryz.ntmps87
 go_wp2_with fail
 have zW:w.heap.size<(w.alloc (.cells #[.int .i64 5,.int .i64 d,.int .i64 at0,.int .i64 l,.string x] 64)).heap.size:=TB.out.lt
 generalize (w.alloc (.cells #[.int .i64 5,.int .i64 d,.int .i64 at0,.int .i64 l,.string x] 64))=W at *
 refine(elAt_any g k d _ G0 P0.out.ma (by omega)).mono ?_
 rintro e w1 ⟨rfl,b⟩
 have TB:=hid (TB.out.later b)
 have G1:=hid (G0.out.later b)
 have P1:=hid (P0.out.below b)
 have B1:=hid (bl_next B0.out b)
 have z1:=b.size
 clear b G0 P0 B0 t1
 have t0:=TB.out.cell 0
 have HFN:Hid (k.flv.n=k.fl.length):=P1.out.fl.len
 have hal:A<k.fl.length:=hA
 obtain⟨_,gf,off,ha,_,hgl,hr⟩:=P1.out.fl.row hal
 have HR:Hid (w1.rangeAt gf (off+A * 12) [.int .i64 f.to,.bool f.tk,.int .i64 f.t.c,.int .i64 f.t.r,.int .i64 f.t.q,.int .i64 f.t.a,.int .i64 f.t.b,.slice fsv.a fsv.n fsv.c,.int .i64 f.x.1,.int .i64 f.x.2.1,.int .i64 f.x.2.2.1,.string f.x.2.2.2]):=(by have e:=hm.out;rw[e]at hr;exact hr:World.rangeAt _ _ _ _)
 have G1a:Hid (Bx w1 g 56 [.int .i64 k.rid,.slice k.mv.a k.mv.n k.mv.c,.slice k.mav.a k.mav.n k.mav.c,.slice (some ⟨gf,off,none⟩) k.fl.length k.flv.c,.slice k.hev.a k.hev.n k.hev.c,.slice k.sav.a k.sav.n k.sav.c]):=(by have G2:=G1.out;unfold WkB at G2;rw[ha,HFN.out]at G2;exact G2:Bx _ _ _ _)
 have HFW:Hid (OwnI w1 0 fsv.v f.t.ws):=(by have:=P1.out.fl.2 k.fl[A] (List.getElem_mem hal);rw[hm.out]at this;exact this:OwnI _ _ _ _)
 have c3:=G1a.out.cell 3
 have hn0:((k.fl.length:Int)==0)=false:=by simp;intro h;rw[h]at hal;simp at hal
 have HA9:Hid (k.flv.a=some ⟨gf,off,none⟩):=ha
 clear hr ha
 go_wp2_with fail
 go_cut [8] (fun a8 wx=>a8=.int .i64 (A:Int)∧wx=w1.drew)
 case first=>
  refine wp_region_held_drew (S:=fun w'=>w'=w1.drew) (by kernel_rfl) rfl (fun hHeld=>?_)
  refine tkP (i:=0) rfl (by kernel_rfl) (fun _ _ _ h=>h) (by rfl) (fun w hSw=>by simp only[LgT,Lg0,LgS];go_simp;try with_reducible rfl) (by assumption) ?_
  try simp only[Act.put,LgT,Lg0,LgS,LsT,Ls0,LsS]
  refine tkH (i:=1) (v:=_) rfl (by kernel_rfl) (fun _ _ _ h=>h) (ld1_yield (by rfl) 3 _ rfl w.heap.size 2 rfl 64 _ (fun w hS=>by subst hS;exact TB.out.later (Below.refl _ _).drew) (.int .i64 at0) rfl _ Tryz.underlying3 rfl) (by assumption) ?_
  try simp only[Act.put,LgT,Lg0,LgS,LsT,Ls0,LsS]
  refine tkP (i:=2) rfl (by kernel_rfl) (fun _ _ _ h=>h) (by rfl) (fun w hSw=>by simp only[LgT,Lg0,LgS];go_simp;try with_reducible rfl) (by assumption) ?_
  try simp only[Act.put,LgT,Lg0,LgS,LsT,Ls0,LsS]
  refine tkP (i:=3) rfl (by kernel_rfl) (fun _ _ _ h=>h) (by rfl) (fun w hSw=>by simp only[LgT,Lg0,LgS];go_simp;try with_reducible rfl) (by assumption) ?_
  try simp only[Act.put,LgT,Lg0,LgS,LsT,Ls0,LsS]
  refine tkP (i:=4) rfl (by kernel_rfl) (fun _ _ _ h=>h) (by rfl) (fun w hSw=>by simp only[LgT,Lg0,LgS];go_simp;try with_reducible rfl) (by assumption) ?_
  try simp only[Act.put,LgT,Lg0,LgS,LsT,Ls0,LsS]
  refine tkH (i:=5) (v:=_) rfl (by kernel_rfl) (fun _ _ _ h=>h) (ld1_yield (by rfl) 53 _ rfl g 3 rfl 56 _ (fun w hS=>by subst hS;exact G1a.out.later (Below.refl _ _).drew) (.slice (some ⟨gf,off,none⟩) k.fl.length k.flv.c) rfl _ Tryz.underlying53 rfl) (by assumption) ?_
  try simp only[Act.put,LgT,Lg0,LgS,LsT,Ls0,LsS]
  refine tkP (i:=6) rfl (by kernel_rfl) (fun _ _ _ h=>h) (by rfl) (fun w hSw=>by simp only[LgT,Lg0,LgS];go_simp;try with_reducible rfl) (by assumption) ?_
  try simp only[Act.put,LgT,Lg0,LgS,LsT,Ls0,LsS]
  refine tkH (i:=7) (v:=.int .i64 (A:Int)) rfl (by kernel_rfl) (fun _ _ _ h=>h) (Or.inl ⟨by rfl,fun w hS=>by have hrem:=hrm.out;have hnz: ¬k.fl=[]:=(fun h=>by rw[h]at hal;simp at hal);go_simp⟩) (by assumption) ?_
  try simp only[Act.put,LsT,Ls0,LsS]
  refine tkP (i:=8) rfl (by kernel_rfl) (fun _ _ _ h=>h) (by rfl) (fun w hSw=>by simp only[LgT,Lg0,LgS];go_simp;try with_reducible rfl) (by assumption) ?_
  try simp only[Act.put,LgT,Lg0,LgS,LsT,Ls0,LsS]
  refine wpAnyH_done (by kernel_rfl) ?_ _
  try go_wp2_with fail
  go_meet
  exact⟨rfl,rfl⟩
 case rest=>
 obtain⟨rfl,rfl⟩:=hcut
 have bd:Below w1.heap.size w1 w1.drew:=(Below.refl _ _).drew
 have TB:=hid (TB.out.later bd)
 have G1:=hid (G1.out.later bd)
 have P1:=hid (P1.out.below bd)
 have G1a:=hid (G1a.out.later bd)
 have B1:=hid (bl_next B1.out bd)
 have HR:=hid (range_later HR.out hgl bd)
 have HFW:=hid (ownL HFW.out bd)
 have z2:=TB.out.lt
 clear bd c3 t0
 generalize w1.drew=w2 at *
 have c3:=G1a.out.cell 3
 have i0:(0:Int)≤(A:Int):=by omega
 have i1:(A:Int)<(k.fl.length:Int):=by omega
 have hz:=hid (Bx.new w2 68 [.int .i64 0,.bool false,.int .i64 0,.int .i64 0,.int .i64 0,.int .i64 0,.int .i64 0,.slice none 0 0,.int .i64 0,.int .i64 0,.int .i64 0,.string ⟨#[]⟩])
 go_wp2_with (first|(refine wpList_ldR rfl 68 _ rfl gf (off+A * 12) rfl [.int .i64 f.to,.bool f.tk,.int .i64 f.t.c,.int .i64 f.t.r,.int .i64 f.t.q,.int .i64 f.t.a,.int .i64 f.t.b,.slice fsv.a fsv.n fsv.c,.int .i64 f.x.1,.int .i64 f.x.2.1,.int .i64 f.x.2.2.1,.string f.x.2.2.2] HR.out _ Tryz.underlying68 rfl Tryz.sizeFl ?_)|(refine wpList_stW rfl 68 _ _ rfl w2.heap.size rfl 68 _ hz.out [.int .i64 f.to,.bool f.tk,.int .i64 f.t.c,.int .i64 f.t.r,.int .i64 f.t.q,.int .i64 f.t.a,.int .i64 f.t.b,.slice fsv.a fsv.n fsv.c,.int .i64 f.x.1,.int .i64 f.x.2.1,.int .i64 f.x.2.2.1,.string f.x.2.2.2] rfl rfl Tryz.sizeFl rfl ?_;intro w3 OB TB3;have b:Below w2.heap.size w2 w3:=((Below.refl _ _).alloc (Nat.le_refl _) _).trans (TB3.below (Nat.le_refl _));have FB:=hid OB;clear OB TB3;refine Stp.here ?_))
 refine Stp.go ?_
 have TB:=hid (TB.out.later b)
 have G1:=hid (G1.out.later b)
 have P1:=hid (P1.out.below b)
 have G1a:=hid (G1a.out.later b)
 have B1:=hid (bl_next B1.out b)
 have HFW:=hid (ownL HFW.out b)
 have z3:=FB.out.lt
 clear b hz HR c3
 generalize w2.heap.size=gx at *
 have t0:=TB.out.cell 0
 have FL3:Hid (SlN w3 68 12 0 (.slice (some ⟨gf,off,none⟩) k.fl.length k.flv.c) (k.fl.map fcel)):=(by have h1:=P1.out.fl.1;have h2:=HA9.out;have h3:=HFN.out;unfold Sv.v at h1;rw[h2,h3]at h1;exact h1:SlN _ _ _ _ _ _)
 have hll:([]:List (List Value)).length+(k.fl.map fcel).length≤1048577:=by simp;omega
 have hl2:(k.fl.map fcel).length+1≤1048577:=by simp;omega
 go_wp2_with fail
 have c:Below w3.heap.size w3 w3.drew:=(Below.refl _ _).drew
 refine wp_region_heldLast (S:=fun w'=>Below w3.heap.size w3 w') _ (by simp) (by kernel_rfl) (by rfl) (by rfl) (by kernel_rfl) (by kernel_rfl) c (fun hHeld=>?_)
 simp only[List.dropLast_cons_cons,List.dropLast_singleton,List.getLast_cons_cons,List.getLast_singleton,List.cons_append,List.nil_append,List.length_cons,List.length_nil]
 refine tkP (i:=0) rfl (by kernel_rfl) (fun _ _ _ h=>h) (by rfl) (fun w hSw=>by simp only[LgT,Lg0,LgS];go_simp;try with_reducible rfl) (by assumption) ?_
 try simp only[Act.put,LgT,Lg0,LgS,LsT,Ls0,LsS]
 refine tkP (i:=2) rfl (by kernel_rfl) (fun _ _ _ h=>h) (by rfl) (fun w hSw=>by simp only[LgT,Lg0,LgS];go_simp;try with_reducible rfl) (by assumption) ?_
 try simp only[Act.put,LgT,Lg0,LgS,LsT,Ls0,LsS]
 refine tkP (i:=3) rfl (by kernel_rfl) (fun _ _ _ h=>h) (by rfl) (fun w hSw=>by simp only[LgT,Lg0,LgS];go_simp;try with_reducible rfl) (by assumption) ?_
 try simp only[Act.put,LgT,Lg0,LgS,LsT,Ls0,LsS]
 refine tkP (i:=4) rfl (by kernel_rfl) (fun _ _ _ h=>h) (by rfl) (fun w hSw=>by simp only[LgT,Lg0,LgS];go_simp;try with_reducible rfl) (by assumption) ?_
 try simp only[Act.put,LgT,Lg0,LgS,LsT,Ls0,LsS]
 refine tkH (i:=5) (v:=_) rfl (by kernel_rfl) (fun _ _ _ h=>h) (ld1_yield (by rfl) 53 _ rfl g 3 rfl 56 _ (fun w hS=>G1a.out.later hS) (.slice (some ⟨gf,off,none⟩) k.fl.length k.flv.c) rfl _ Tryz.underlying53 rfl) (by assumption) ?_
 try simp only[Act.put,LgT,Lg0,LgS,LsT,Ls0,LsS]
 refine tkH (i:=7) (v:=_) rfl (by kernel_rfl) (fun _ _ _ h=>h) (ld_yield (by rfl) 68 _ rfl gx 0 rfl 68 _ (fun w hS=>FB.out.later hS) [.int .i64 f.to,.bool f.tk,.int .i64 f.t.c,.int .i64 f.t.r,.int .i64 f.t.q,.int .i64 f.t.a,.int .i64 f.t.b,.slice fsv.a fsv.n fsv.c,.int .i64 f.x.1,.int .i64 f.x.2.1,.int .i64 f.x.2.2.1,.string f.x.2.2.2] rfl _ Tryz.underlying68 rfl Tryz.sizeFl) (by assumption) ?_
 try simp only[Act.put,LgT,Lg0,LgS,LsT,Ls0,LsS]
 refine wpAnyH_ready (rs:=[1,8]) (by kernel_rfl) (by simp) ?_
 refine(AllReadyH.cons (i:=1) rfl (fun K hK=>?_) (AllReadyH.cons (i:=8) rfl (fun K hK=>?_) AllReadyH.nil))
 ·skip
  rw[if_pos (by rfl)]
  simp only[LgT,Lg0,LgS]
  go_simp
  have b:=bA w3.drew (.cells #[] 68)
  have S1:=hid (slnAt w3.drew 68 12 w3.heap.size w3.heap.size c.size (by simp))
  have c:=bl_next c b
  refine hK.out _ _ (c) (fun hHeld=>?_)
  clear hK K
  try simp only[Act.put,LgT,Lg0,LgS,LsT,Ls0,LsS]
  clear b
  refine wpAnyH_ready (rs:=[6,8]) (by kernel_rfl) (by simp) ?_
  refine(AllReadyH.cons (i:=6) rfl (fun K hK=>?_) (AllReadyH.cons (i:=8) rfl (fun K hK=>?_) AllReadyH.nil))
  ·skip
   rw[if_pos (by rfl)]
   simp only[LgT,Lg0,LgS]
   refine wp_catN _ _ 53 rfl _ 120 Tryz.underlying53 Tryz.infoFl rfl (by decide) w3.heap.size (.slice (some ⟨w3.heap.size,0,none⟩) 0 0) [] (by rfl) S1.out 0 _ (k.fl.map fcel) (by rfl) (FL3.out.below c) hll c.size ?_
   intro v2 y2 s2 g2 b2 _
   rw[List.nil_append]at s2
   have c:Below w3.heap.size w3 y2:=c.trans b2
   have S2:Hid (SlN y2 68 12 w3.heap.size v2 (k.fl.map fcel)):=s2
   refine hK.out _ _ (c) (fun hHeld=>?_)
   clear hK K
   try simp only[Act.put,LgT,Lg0,LgS,LsT,Ls0,LsS]
   clear s2 g2 b2 S1
   refine wpAnyH_ready (rs:=[8]) (by kernel_rfl) (by simp) ?_
   refine AllReadyH.cons (i:=8) rfl (fun K hK=>?_) AllReadyH.nil
   rw[if_pos (by rfl)]
   simp only[LgT,Lg0,LgS]
   go_simp
   have b:=bA y2 (.cells #[.int .i64 f.to,.bool f.tk,.int .i64 f.t.c,.int .i64 f.t.r,.int .i64 f.t.q,.int .i64 f.t.a,.int .i64 f.t.b,.slice fsv.a fsv.n fsv.c,.int .i64 f.x.1,.int .i64 f.x.2.1,.int .i64 f.x.2.2.1,.string f.x.2.2.2] 68)
   have BX:Hid (SlN (y2.alloc (.cells #[.int .i64 f.to,.bool f.tk,.int .i64 f.t.c,.int .i64 f.t.r,.int .i64 f.t.q,.int .i64 f.t.a,.int .i64 f.t.b,.slice fsv.a fsv.n fsv.c,.int .i64 f.x.1,.int .i64 f.x.2.1,.int .i64 f.x.2.2.1,.string f.x.2.2.2] 68)) 68 12 w3.heap.size (.slice (some ⟨y2.heap.size,0,none⟩) 1 1) [[.int .i64 f.to,.bool f.tk,.int .i64 f.t.c,.int .i64 f.t.r,.int .i64 f.t.q,.int .i64 f.t.a,.int .i64 f.t.b,.slice fsv.a fsv.n fsv.c,.int .i64 f.x.1,.int .i64 f.x.2.1,.int .i64 f.x.2.2.1,.string f.x.2.2.2]]):=by have h:=SlN.one y2 68 12 w3.heap.size [.int .i64 f.to,.bool f.tk,.int .i64 f.t.c,.int .i64 f.t.r,.int .i64 f.t.q,.int .i64 f.t.a,.int .i64 f.t.b,.slice fsv.a fsv.n fsv.c,.int .i64 f.x.1,.int .i64 f.x.2.1,.int .i64 f.x.2.2.1,.string f.x.2.2.2] rfl rfl c.size;rw[show y2.heap.size=y2.heap.size by simp]at h;exact h
   have S2:=hid (S2.out.below b)
   have c:=bl_next c b
   refine hK.out _ _ (c) (fun hHeld=>?_)
   clear hK K
   try simp only[Act.put,LgT,Lg0,LgS,LsT,Ls0,LsS]
   clear b
   refine wpAnyH_ready (rs:=[9]) (by kernel_rfl) (by simp) ?_
   refine AllReadyH.cons (i:=9) rfl (fun K hK=>?_) AllReadyH.nil
   rw[if_pos (by rfl)]
   simp only[LgT,Lg0,LgS]
   refine wp_catN _ _ 53 rfl _ 120 Tryz.underlying53 Tryz.infoFl rfl (by decide) w3.heap.size v2 (k.fl.map fcel) (by rfl) S2.out w3.heap.size _ [[.int .i64 f.to,.bool f.tk,.int .i64 f.t.c,.int .i64 f.t.r,.int .i64 f.t.q,.int .i64 f.t.a,.int .i64 f.t.b,.slice fsv.a fsv.n fsv.c,.int .i64 f.x.1,.int .i64 f.x.2.1,.int .i64 f.x.2.2.1,.string f.x.2.2.2]] (by rfl) BX.out hl2 c.size ?_
   intro v3 y3 s3 g3 b3 _
   obtain⟨z3,hz3,_⟩:=s3.form
   subst hz3
   have c:Below w3.heap.size w3 y3:=c.trans b3
   have S3:Hid (SlN y3 68 12 w3.heap.size (.slice z3.a z3.n z3.c) (k.fl.map fcel++[[.int .i64 f.to,.bool f.tk,.int .i64 f.t.c,.int .i64 f.t.r,.int .i64 f.t.q,.int .i64 f.t.a,.int .i64 f.t.b,.slice fsv.a fsv.n fsv.c,.int .i64 f.x.1,.int .i64 f.x.2.1,.int .i64 f.x.2.2.1,.string f.x.2.2.2]])):=s3
   refine hK.out _ _ (c) (fun hHeld=>?_)
   clear hK K
   try simp only[Act.put,LgT,Lg0,LgS,LsT,Ls0,LsS]
   clear s3 g3 b3 S2 BX
   refine tkP (i:=10) rfl (by kernel_rfl) (fun _ _ _ h=>h) (by rfl) (fun w hSw=>by simp only[LgT,Lg0,LgS];go_simp;try with_reducible rfl) (by assumption) ?_
   try simp only[Act.put,LgT,Lg0,LgS,LsT,Ls0,LsS]
   refine tkP (i:=11) rfl (by kernel_rfl) (fun _ _ _ h=>h) (by rfl) (fun w hSw=>by simp only[LgT,Lg0,LgS];go_simp;try with_reducible rfl) (by assumption) ?_
   try simp only[Act.put,LgT,Lg0,LgS,LsT,Ls0,LsS]
   refine tkP (i:=12) rfl (by kernel_rfl) (fun _ _ _ h=>h) (by rfl) (fun w hSw=>by simp only[LgT,Lg0,LgS];go_simp;try with_reducible rfl) (by assumption) ?_
   try simp only[Act.put,LgT,Lg0,LgS,LsT,Ls0,LsS]
   refine wpAnyH_done (by kernel_rfl) ?_ _
   have G9:=hid (G1a.out.later c)
   refine lastQ_of rfl rfl ?_
   refine wp_st1 53 _ _ rfl g 3 rfl 56 _ G9.out (.slice z3.a z3.n z3.c) rfl (by simp) rfl Tryz.sizeFls [.int .i64 k.rid,.slice k.mv.a k.mv.n k.mv.c,.slice k.mav.a k.mav.n k.mav.c,.slice z3.a z3.n z3.c,.slice k.hev.a k.hev.n k.hev.c,.slice k.sav.a k.sav.n k.sav.c] rfl ?_
   intro w9 k9 t9
   go_wp2_with fail
   go_ret
   have p:=P1.out.below c
   have P9:WkP y3 (k.setF (k.fl++[(f,fsv)]) z3):=by
    refine⟨p.ring,p.ma,⟨?_,fun e he=>?_⟩,p.he,p.sa⟩
    ·show SlN y3 68 12 0 (.slice z3.a z3.n z3.c) ((k.fl++[(f,fsv)]).map fcel)
     rw[List.map_append]
     exact S3.out.down (Nat.zero_le _)
    ·rcases List.mem_append.1 he with he|he
     ·exact p.fl.2 e he
     ·simp at he;subst he;exact HFW.out.keep fun _ _ hk=>c.block _ hk
   refine⟨rfl,k.setF (k.fl++[(f,fsv)]) z3,k9,P9.keepb G9.out t9.keep,?_,(keep_of_below (bl_next B1.out c)).trans t9.keep⟩
   simp only[Wv.pl,Wv.setF,twiceW,List.map_append,List.map_cons,List.map_nil]
  ·skip
   rw[if_pos (by rfl)]
   simp only[LgT,Lg0,LgS]
   go_simp
   have b:Below (w3.drew.alloc (.cells #[] 68)).heap.size (w3.drew.alloc (.cells #[] 68)) ((w3.drew.alloc (.cells #[] 68)).alloc (.cells #[.int .i64 f.to,.bool f.tk,.int .i64 f.t.c,.int .i64 f.t.r,.int .i64 f.t.q,.int .i64 f.t.a,.int .i64 f.t.b,.slice fsv.a fsv.n fsv.c,.int .i64 f.x.1,.int .i64 f.x.2.1,.int .i64 f.x.2.2.1,.string f.x.2.2.2] 68)):=(Below.refl _ _).alloc (Nat.le_refl _) _
   have BX:Hid (SlN ((w3.drew.alloc (.cells #[] 68)).alloc (.cells #[.int .i64 f.to,.bool f.tk,.int .i64 f.t.c,.int .i64 f.t.r,.int .i64 f.t.q,.int .i64 f.t.a,.int .i64 f.t.b,.slice fsv.a fsv.n fsv.c,.int .i64 f.x.1,.int .i64 f.x.2.1,.int .i64 f.x.2.2.1,.string f.x.2.2.2] 68)) 68 12 w3.heap.size (.slice (some ⟨(w3.heap.size+1),0,none⟩) 1 1) [[.int .i64 f.to,.bool f.tk,.int .i64 f.t.c,.int .i64 f.t.r,.int .i64 f.t.q,.int .i64 f.t.a,.int .i64 f.t.b,.slice fsv.a fsv.n fsv.c,.int .i64 f.x.1,.int .i64 f.x.2.1,.int .i64 f.x.2.2.1,.string f.x.2.2.2]]):=by have h:=SlN.one (w3.drew.alloc (.cells #[] 68)) 68 12 w3.heap.size [.int .i64 f.to,.bool f.tk,.int .i64 f.t.c,.int .i64 f.t.r,.int .i64 f.t.q,.int .i64 f.t.a,.int .i64 f.t.b,.slice fsv.a fsv.n fsv.c,.int .i64 f.x.1,.int .i64 f.x.2.1,.int .i64 f.x.2.2.1,.string f.x.2.2.2] rfl rfl c.size;rw[show(w3.drew.alloc (.cells #[] 68)).heap.size=(w3.heap.size+1) by simp]at h;exact h
   have S1:=hid (S1.out.below b)
   have c:=bl_next c b
   refine hK.out _ _ (c) (fun hHeld=>?_)
   clear hK K
   try simp only[Act.put,LgT,Lg0,LgS,LsT,Ls0,LsS]
   clear b
   refine wpAnyH_ready (rs:=[6]) (by kernel_rfl) (by simp) ?_
   refine AllReadyH.cons (i:=6) rfl (fun K hK=>?_) AllReadyH.nil
   rw[if_pos (by rfl)]
   simp only[LgT,Lg0,LgS]
   refine wp_catN _ _ 53 rfl _ 120 Tryz.underlying53 Tryz.infoFl rfl (by decide) w3.heap.size (.slice (some ⟨w3.heap.size,0,none⟩) 0 0) [] (by rfl) S1.out 0 _ (k.fl.map fcel) (by rfl) (FL3.out.below c) hll c.size ?_
   intro v2 y2 s2 g2 b2 _
   rw[List.nil_append]at s2
   have BX:Hid (SlN y2 68 12 w3.heap.size (.slice (some ⟨(w3.heap.size+1),0,none⟩) 1 1) [[.int .i64 f.to,.bool f.tk,.int .i64 f.t.c,.int .i64 f.t.r,.int .i64 f.t.q,.int .i64 f.t.a,.int .i64 f.t.b,.slice fsv.a fsv.n fsv.c,.int .i64 f.x.1,.int .i64 f.x.2.1,.int .i64 f.x.2.2.1,.string f.x.2.2.2]]):=BX.out.kept g2 (fun n hn=>by simp[Value.ownBlock]at hn⊢;omega)
   have c:Below w3.heap.size w3 y2:=c.trans b2
   have S2:Hid (SlN y2 68 12 w3.heap.size v2 (k.fl.map fcel)):=s2
   refine hK.out _ _ (c) (fun hHeld=>?_)
   clear hK K
   try simp only[Act.put,LgT,Lg0,LgS,LsT,Ls0,LsS]
   clear s2 g2 b2 S1
   refine wpAnyH_ready (rs:=[9]) (by kernel_rfl) (by simp) ?_
   refine AllReadyH.cons (i:=9) rfl (fun K hK=>?_) AllReadyH.nil
   rw[if_pos (by rfl)]
   simp only[LgT,Lg0,LgS]
   refine wp_catN _ _ 53 rfl _ 120 Tryz.underlying53 Tryz.infoFl rfl (by decide) w3.heap.size v2 (k.fl.map fcel) (by rfl) S2.out w3.heap.size _ [[.int .i64 f.to,.bool f.tk,.int .i64 f.t.c,.int .i64 f.t.r,.int .i64 f.t.q,.int .i64 f.t.a,.int .i64 f.t.b,.slice fsv.a fsv.n fsv.c,.int .i64 f.x.1,.int .i64 f.x.2.1,.int .i64 f.x.2.2.1,.string f.x.2.2.2]] (by rfl) BX.out hl2 c.size ?_
   intro v3 y3 s3 g3 b3 _
   obtain⟨z3,hz3,_⟩:=s3.form
   subst hz3
   have c:Below w3.heap.size w3 y3:=c.trans b3
   have S3:Hid (SlN y3 68 12 w3.heap.size (.slice z3.a z3.n z3.c) (k.fl.map fcel++[[.int .i64 f.to,.bool f.tk,.int .i64 f.t.c,.int .i64 f.t.r,.int .i64 f.t.q,.int .i64 f.t.a,.int .i64 f.t.b,.slice fsv.a fsv.n fsv.c,.int .i64 f.x.1,.int .i64 f.x.2.1,.int .i64 f.x.2.2.1,.string f.x.2.2.2]])):=s3
   refine hK.out _ _ (c) (fun hHeld=>?_)
   clear hK K
   try simp only[Act.put,LgT,Lg0,LgS,LsT,Ls0,LsS]
   clear s3 g3 b3 S2 BX
   refine tkP (i:=10) rfl (by kernel_rfl) (fun _ _ _ h=>h) (by rfl) (fun w hSw=>by simp only[LgT,Lg0,LgS];go_simp;try with_reducible rfl) (by assumption) ?_
   try simp only[Act.put,LgT,Lg0,LgS,LsT,Ls0,LsS]
   refine tkP (i:=11) rfl (by kernel_rfl) (fun _ _ _ h=>h) (by rfl) (fun w hSw=>by simp only[LgT,Lg0,LgS];go_simp;try with_reducible rfl) (by assumption) ?_
   try simp only[Act.put,LgT,Lg0,LgS,LsT,Ls0,LsS]
   refine tkP (i:=12) rfl (by kernel_rfl) (fun _ _ _ h=>h) (by rfl) (fun w hSw=>by simp only[LgT,Lg0,LgS];go_simp;try with_reducible rfl) (by assumption) ?_
   try simp only[Act.put,LgT,Lg0,LgS,LsT,Ls0,LsS]
   refine wpAnyH_done (by kernel_rfl) ?_ _
   have G9:=hid (G1a.out.later c)
   refine lastQ_of rfl rfl ?_
   refine wp_st1 53 _ _ rfl g 3 rfl 56 _ G9.out (.slice z3.a z3.n z3.c) rfl (by simp) rfl Tryz.sizeFls [.int .i64 k.rid,.slice k.mv.a k.mv.n k.mv.c,.slice k.mav.a k.mav.n k.mav.c,.slice z3.a z3.n z3.c,.slice k.hev.a k.hev.n k.hev.c,.slice k.sav.a k.sav.n k.sav.c] rfl ?_
   intro w9 k9 t9
   go_wp2_with fail
   go_ret
   have p:=P1.out.below c
   have P9:WkP y3 (k.setF (k.fl++[(f,fsv)]) z3):=by
    refine⟨p.ring,p.ma,⟨?_,fun e he=>?_⟩,p.he,p.sa⟩
    ·show SlN y3 68 12 0 (.slice z3.a z3.n z3.c) ((k.fl++[(f,fsv)]).map fcel)
     rw[List.map_append]
     exact S3.out.down (Nat.zero_le _)
    ·rcases List.mem_append.1 he with he|he
     ·exact p.fl.2 e he
     ·simp at he;subst he;exact HFW.out.keep fun _ _ hk=>c.block _ hk
   refine⟨rfl,k.setF (k.fl++[(f,fsv)]) z3,k9,P9.keepb G9.out t9.keep,?_,(keep_of_below (bl_next B1.out c)).trans t9.keep⟩
   simp only[Wv.pl,Wv.setF,twiceW,List.map_append,List.map_cons,List.map_nil]
 ·skip
  rw[if_pos (by rfl)]
  simp only[LgT,Lg0,LgS]
  go_simp
  have b:=bA w3.drew (.cells #[.int .i64 f.to,.bool f.tk,.int .i64 f.t.c,.int .i64 f.t.r,.int .i64 f.t.q,.int .i64 f.t.a,.int .i64 f.t.b,.slice fsv.a fsv.n fsv.c,.int .i64 f.x.1,.int .i64 f.x.2.1,.int .i64 f.x.2.2.1,.string f.x.2.2.2] 68)
  have BX:Hid (SlN (w3.drew.alloc (.cells #[.int .i64 f.to,.bool f.tk,.int .i64 f.t.c,.int .i64 f.t.r,.int .i64 f.t.q,.int .i64 f.t.a,.int .i64 f.t.b,.slice fsv.a fsv.n fsv.c,.int .i64 f.x.1,.int .i64 f.x.2.1,.int .i64 f.x.2.2.1,.string f.x.2.2.2] 68)) 68 12 w3.heap.size (.slice (some ⟨w3.heap.size,0,none⟩) 1 1) [[.int .i64 f.to,.bool f.tk,.int .i64 f.t.c,.int .i64 f.t.r,.int .i64 f.t.q,.int .i64 f.t.a,.int .i64 f.t.b,.slice fsv.a fsv.n fsv.c,.int .i64 f.x.1,.int .i64 f.x.2.1,.int .i64 f.x.2.2.1,.string f.x.2.2.2]]):=by have h:=SlN.one w3.drew 68 12 w3.heap.size [.int .i64 f.to,.bool f.tk,.int .i64 f.t.c,.int .i64 f.t.r,.int .i64 f.t.q,.int .i64 f.t.a,.int .i64 f.t.b,.slice fsv.a fsv.n fsv.c,.int .i64 f.x.1,.int .i64 f.x.2.1,.int .i64 f.x.2.2.1,.string f.x.2.2.2] rfl rfl c.size;rw[show w3.drew.heap.size=w3.heap.size by simp]at h;exact h
  have c:=bl_next c b
  refine hK.out _ _ (c) (fun hHeld=>?_)
  clear hK K
  try simp only[Act.put,LgT,Lg0,LgS,LsT,Ls0,LsS]
  clear b
  refine wpAnyH_ready (rs:=[1]) (by kernel_rfl) (by simp) ?_
  refine AllReadyH.cons (i:=1) rfl (fun K hK=>?_) AllReadyH.nil
  rw[if_pos (by rfl)]
  simp only[LgT,Lg0,LgS]
  go_simp
  have b:Below (w3.drew.alloc (.cells #[.int .i64 f.to,.bool f.tk,.int .i64 f.t.c,.int .i64 f.t.r,.int .i64 f.t.q,.int .i64 f.t.a,.int .i64 f.t.b,.slice fsv.a fsv.n fsv.c,.int .i64 f.x.1,.int .i64 f.x.2.1,.int .i64 f.x.2.2.1,.string f.x.2.2.2] 68)).heap.size (w3.drew.alloc (.cells #[.int .i64 f.to,.bool f.tk,.int .i64 f.t.c,.int .i64 f.t.r,.int .i64 f.t.q,.int .i64 f.t.a,.int .i64 f.t.b,.slice fsv.a fsv.n fsv.c,.int .i64 f.x.1,.int .i64 f.x.2.1,.int .i64 f.x.2.2.1,.string f.x.2.2.2] 68)) ((w3.drew.alloc (.cells #[.int .i64 f.to,.bool f.tk,.int .i64 f.t.c,.int .i64 f.t.r,.int .i64 f.t.q,.int .i64 f.t.a,.int .i64 f.t.b,.slice fsv.a fsv.n fsv.c,.int .i64 f.x.1,.int .i64 f.x.2.1,.int .i64 f.x.2.2.1,.string f.x.2.2.2] 68)).alloc (.cells #[] 68)):=(Below.refl _ _).alloc (Nat.le_refl _) _
  have BX:=hid (BX.out.below b)
  have S1:=hid (slnAt (w3.drew.alloc (.cells #[.int .i64 f.to,.bool f.tk,.int .i64 f.t.c,.int .i64 f.t.r,.int .i64 f.t.q,.int .i64 f.t.a,.int .i64 f.t.b,.slice fsv.a fsv.n fsv.c,.int .i64 f.x.1,.int .i64 f.x.2.1,.int .i64 f.x.2.2.1,.string f.x.2.2.2] 68)) 68 12 w3.heap.size (w3.heap.size+1) c.size (by simp))
  have c:=bl_next c b
  refine hK.out _ _ (c) (fun hHeld=>?_)
  clear hK K
  try simp only[Act.put,LgT,Lg0,LgS,LsT,Ls0,LsS]
  clear b
  refine wpAnyH_ready (rs:=[6]) (by kernel_rfl) (by simp) ?_
  refine AllReadyH.cons (i:=6) rfl (fun K hK=>?_) AllReadyH.nil
  rw[if_pos (by rfl)]
  simp only[LgT,Lg0,LgS]
  refine wp_catN _ _ 53 rfl _ 120 Tryz.underlying53 Tryz.infoFl rfl (by decide) w3.heap.size (.slice (some ⟨(w3.heap.size+1),0,none⟩) 0 0) [] (by rfl) S1.out 0 _ (k.fl.map fcel) (by rfl) (FL3.out.below c) hll c.size ?_
  intro v2 y2 s2 g2 b2 _
  rw[List.nil_append]at s2
  have BX:Hid (SlN y2 68 12 w3.heap.size (.slice (some ⟨w3.heap.size,0,none⟩) 1 1) [[.int .i64 f.to,.bool f.tk,.int .i64 f.t.c,.int .i64 f.t.r,.int .i64 f.t.q,.int .i64 f.t.a,.int .i64 f.t.b,.slice fsv.a fsv.n fsv.c,.int .i64 f.x.1,.int .i64 f.x.2.1,.int .i64 f.x.2.2.1,.string f.x.2.2.2]]):=BX.out.kept g2 (fun n hn=>by simp[Value.ownBlock]at hn⊢;omega)
  have c:Below w3.heap.size w3 y2:=c.trans b2
  have S2:Hid (SlN y2 68 12 w3.heap.size v2 (k.fl.map fcel)):=s2
  refine hK.out _ _ (c) (fun hHeld=>?_)
  clear hK K
  try simp only[Act.put,LgT,Lg0,LgS,LsT,Ls0,LsS]
  clear s2 g2 b2 S1
  refine wpAnyH_ready (rs:=[9]) (by kernel_rfl) (by simp) ?_
  refine AllReadyH.cons (i:=9) rfl (fun K hK=>?_) AllReadyH.nil
  rw[if_pos (by rfl)]
  simp only[LgT,Lg0,LgS]
  refine wp_catN _ _ 53 rfl _ 120 Tryz.underlying53 Tryz.infoFl rfl (by decide) w3.heap.size v2 (k.fl.map fcel) (by rfl) S2.out w3.heap.size _ [[.int .i64 f.to,.bool f.tk,.int .i64 f.t.c,.int .i64 f.t.r,.int .i64 f.t.q,.int .i64 f.t.a,.int .i64 f.t.b,.slice fsv.a fsv.n fsv.c,.int .i64 f.x.1,.int .i64 f.x.2.1,.int .i64 f.x.2.2.1,.string f.x.2.2.2]] (by rfl) BX.out hl2 c.size ?_
  intro v3 y3 s3 g3 b3 _
  obtain⟨z3,hz3,_⟩:=s3.form
  subst hz3
  have c:Below w3.heap.size w3 y3:=c.trans b3
  have S3:Hid (SlN y3 68 12 w3.heap.size (.slice z3.a z3.n z3.c) (k.fl.map fcel++[[.int .i64 f.to,.bool f.tk,.int .i64 f.t.c,.int .i64 f.t.r,.int .i64 f.t.q,.int .i64 f.t.a,.int .i64 f.t.b,.slice fsv.a fsv.n fsv.c,.int .i64 f.x.1,.int .i64 f.x.2.1,.int .i64 f.x.2.2.1,.string f.x.2.2.2]])):=s3
  refine hK.out _ _ (c) (fun hHeld=>?_)
  clear hK K
  try simp only[Act.put,LgT,Lg0,LgS,LsT,Ls0,LsS]
  clear s3 g3 b3 S2 BX
  refine tkP (i:=10) rfl (by kernel_rfl) (fun _ _ _ h=>h) (by rfl) (fun w hSw=>by simp only[LgT,Lg0,LgS];go_simp;try with_reducible rfl) (by assumption) ?_
  try simp only[Act.put,LgT,Lg0,LgS,LsT,Ls0,LsS]
  refine tkP (i:=11) rfl (by kernel_rfl) (fun _ _ _ h=>h) (by rfl) (fun w hSw=>by simp only[LgT,Lg0,LgS];go_simp;try with_reducible rfl) (by assumption) ?_
  try simp only[Act.put,LgT,Lg0,LgS,LsT,Ls0,LsS]
  refine tkP (i:=12) rfl (by kernel_rfl) (fun _ _ _ h=>h) (by rfl) (fun w hSw=>by simp only[LgT,Lg0,LgS];go_simp;try with_reducible rfl) (by assumption) ?_
  try simp only[Act.put,LgT,Lg0,LgS,LsT,Ls0,LsS]
  refine wpAnyH_done (by kernel_rfl) ?_ _
  have G9:=hid (G1a.out.later c)
  refine lastQ_of rfl rfl ?_
  refine wp_st1 53 _ _ rfl g 3 rfl 56 _ G9.out (.slice z3.a z3.n z3.c) rfl (by simp) rfl Tryz.sizeFls [.int .i64 k.rid,.slice k.mv.a k.mv.n k.mv.c,.slice k.mav.a k.mav.n k.mav.c,.slice z3.a z3.n z3.c,.slice k.hev.a k.hev.n k.hev.c,.slice k.sav.a k.sav.n k.sav.c] rfl ?_
  intro w9 k9 t9
  go_wp2_with fail
  go_ret
  have p:=P1.out.below c
  have P9:WkP y3 (k.setF (k.fl++[(f,fsv)]) z3):=by
   refine⟨p.ring,p.ma,⟨?_,fun e he=>?_⟩,p.he,p.sa⟩
   ·show SlN y3 68 12 0 (.slice z3.a z3.n z3.c) ((k.fl++[(f,fsv)]).map fcel)
    rw[List.map_append]
    exact S3.out.down (Nat.zero_le _)
   ·rcases List.mem_append.1 he with he|he
    ·exact p.fl.2 e he
    ·simp at he;subst he;exact HFW.out.keep fun _ _ hk=>c.block _ hk
  refine⟨rfl,k.setF (k.fl++[(f,fsv)]) z3,k9,P9.keepb G9.out t9.keep,?_,(keep_of_below (bl_next B1.out c)).trans t9.keep⟩
  simp only[Wv.pl,Wv.setF,twiceW,List.map_append,List.map_cons,List.map_nil]
end Go.Proofs.YthdjkkiegecgnaaGreat
