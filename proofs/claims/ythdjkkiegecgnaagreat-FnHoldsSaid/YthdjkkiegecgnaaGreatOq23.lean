/- Joined texts: CTu CSy. -/
import Derived.Test.YthdjkkiegecgnaaGreatOq15
import Derived.Test.YthdjkkiegecgnaaGreatOq7
import Derived.BigQuiet
import Derived.Test.YthdjkkiegecgnaaGreatOq1
import Derived.Test.YthdjkkiegecgnaaGreatOq13
set_option maxRecDepth 100000
set_option maxHeartbeats 16000000
namespace Go.Proofs.YthdjkkiegecgnaaGreat
open Go.RowKit Pl
set_option linter.unusedSimpArgs false
set_option linter.unusedVariables false
def uttB(k l:Int)(x:ByteArray):Bool:=if k=1 then lvB l&&decide ((x.size:Int)≤60)else decide (l=0)&&x.toList.isEmpty
def qDp(i:Int)(ms:List Int)(k d a l:Int)(x:ByteArray):Bool:=qAy i ms&&(inB ms d&&(decide (1≤k∧k≤7)&&(decide (0≤a)&&uttB k l x)))
theorem spTurnOk_0(i:Int)(v:Value)(ms:List Int)(k d a l:Int)(x:ByteArray)(w:World)(h:Hid (RI w v ms))(hl:ms.length≤1048576)(hx:x.size≤1048576)(h1:qAy i ms=false):
  Calls Tryz.prog 86 #[.agg #[.int .i64 i,v],.agg #[.int .i64 k,.int .i64 d,.int .i64 a,.int .i64 l,.string x]] w fun e w'=>e=.returned (.bool (qDp i ms k d a l x))∧Below w.heap.size w w':=by
 have hs1:(w.alloc (.cells #[.int .i64 i,v] 26)).heap.size=w.heap.size+1:=by simp
 have HR0:=Ag (Bx.new w 26 [.int .i64 i,v])
 have HR:Hid (Bx ((w.alloc (.cells #[.int .i64 i,v] 26)).alloc (.cells #[.int .i64 k,.int .i64 d,.int .i64 a,.int .i64 l,.string x] 64)) w.heap.size 26 [.int .i64 i,v]):=HR0.out.later ((Below.refl _ _).alloc (Nat.le_refl _) _)
 have HE:Hid (Bx ((w.alloc (.cells #[.int .i64 i,v] 26)).alloc (.cells #[.int .i64 k,.int .i64 d,.int .i64 a,.int .i64 l,.string x] 64)) (w.heap.size+1) 64 [.int .i64 k,.int .i64 d,.int .i64 a,.int .i64 l,.string x]):=by
  have:=Bx.new (w.alloc (.cells #[.int .i64 i,v] 26)) 64 [.int .i64 k,.int .i64 d,.int .i64 a,.int .i64 l,.string x]
  rw[hs1]at this;exact this
 have HB:Hid (Below w.heap.size w ((w.alloc (.cells #[.int .i64 i,v] 26)).alloc (.cells #[.int .i64 k,.int .i64 d,.int .i64 a,.int .i64 l,.string x] 64))):=((Below.refl _ _).alloc (Nat.le_refl _) _).alloc (by simp) _
 have HV:=Ag (h.out.stays HB.out)
 clear h hs1 HR0
 go_enter Tryz.func86,Tryz.ntmps86
 go_wp2_with fail
 generalize (w.alloc (.cells #[.int .i64 i,v] 26)).alloc (.cells #[.int .i64 k,.int .i64 d,.int .i64 a,.int .i64 l,.string x] 64)=W at *
 refine(qBk i ms HV hl).mono ?_
 rintro e w1 ⟨rfl,hb1⟩
 have B1:Hid (Below W.heap.size W w1):=hb1
 have V1:=Ag (HV.out.stays hb1)
 have E1:=HE.out.later hb1
 have R1:=HR.out.later hb1
 have r0:=E1.cell 0
 have r1:=E1.cell 1
 have r2:=E1.cell 2
 have r3:=E1.cell 3
 have r4:=E1.cell 4
 have z0:=R1.cell 0
 have z1:=R1.cell 1
 clear hb1 E1 HR HE HV R1
 simp only[h1]
 go_wp2_with fail
 go_ret
 exact⟨by unfold qDp;rw[h1];rfl,qAa HB.out B1.out⟩
theorem spTurnOk_1(i:Int)(v:Value)(ms:List Int)(k d a l:Int)(x:ByteArray)(w:World)(h:Hid (RI w v ms))(hl:ms.length≤1048576)(hx:x.size≤1048576)(h1:qAy i ms=true)(h3:decide (1≤k∧k≤7)=false):
  Calls Tryz.prog 86 #[.agg #[.int .i64 i,v],.agg #[.int .i64 k,.int .i64 d,.int .i64 a,.int .i64 l,.string x]] w fun e w'=>e=.returned (.bool (qDp i ms k d a l x))∧Below w.heap.size w w':=by
 have hs1:(w.alloc (.cells #[.int .i64 i,v] 26)).heap.size=w.heap.size+1:=by simp
 have HR0:=Ag (Bx.new w 26 [.int .i64 i,v])
 have HR:Hid (Bx ((w.alloc (.cells #[.int .i64 i,v] 26)).alloc (.cells #[.int .i64 k,.int .i64 d,.int .i64 a,.int .i64 l,.string x] 64)) w.heap.size 26 [.int .i64 i,v]):=HR0.out.later ((Below.refl _ _).alloc (Nat.le_refl _) _)
 have HE:Hid (Bx ((w.alloc (.cells #[.int .i64 i,v] 26)).alloc (.cells #[.int .i64 k,.int .i64 d,.int .i64 a,.int .i64 l,.string x] 64)) (w.heap.size+1) 64 [.int .i64 k,.int .i64 d,.int .i64 a,.int .i64 l,.string x]):=by
  have:=Bx.new (w.alloc (.cells #[.int .i64 i,v] 26)) 64 [.int .i64 k,.int .i64 d,.int .i64 a,.int .i64 l,.string x]
  rw[hs1]at this;exact this
 have HB:Hid (Below w.heap.size w ((w.alloc (.cells #[.int .i64 i,v] 26)).alloc (.cells #[.int .i64 k,.int .i64 d,.int .i64 a,.int .i64 l,.string x] 64))):=((Below.refl _ _).alloc (Nat.le_refl _) _).alloc (by simp) _
 have HV:=Ag (h.out.stays HB.out)
 clear h hs1 HR0
 go_enter Tryz.func86,Tryz.ntmps86
 go_wp2_with fail
 generalize (w.alloc (.cells #[.int .i64 i,v] 26)).alloc (.cells #[.int .i64 k,.int .i64 d,.int .i64 a,.int .i64 l,.string x] 64)=W at *
 refine(qBk i ms HV hl).mono ?_
 rintro e w1 ⟨rfl,hb1⟩
 have B1:Hid (Below W.heap.size W w1):=hb1
 have V1:=Ag (HV.out.stays hb1)
 have E1:=HE.out.later hb1
 have R1:=HR.out.later hb1
 have r0:=E1.cell 0
 have r1:=E1.cell 1
 have r2:=E1.cell 2
 have r3:=E1.cell 3
 have r4:=E1.cell 4
 have z0:=R1.cell 0
 have z1:=R1.cell 1
 clear hb1 E1 HR HE HV R1
 simp only[h1]
 go_wp2_with fail
 refine(qEe k 1 7 _).mono ?_
 rintro e w2 ⟨rfl,rfl⟩
 simp only[h3]
 go_wp2_with fail
 go_ret
 exact⟨by unfold qDp;rw[h1,h3];simp,qAa HB.out B1.out⟩
theorem spTurnOk_2(i:Int)(v:Value)(ms:List Int)(k d a l:Int)(x:ByteArray)(w:World)(h:Hid (RI w v ms))(hl:ms.length≤1048576)(hx:x.size≤1048576)(h1:qAy i ms=true)(h3:decide (1≤k∧k≤7)=true)(h2:inB ms d=false):
  Calls Tryz.prog 86 #[.agg #[.int .i64 i,v],.agg #[.int .i64 k,.int .i64 d,.int .i64 a,.int .i64 l,.string x]] w fun e w'=>e=.returned (.bool (qDp i ms k d a l x))∧Below w.heap.size w w':=by
 have hs1:(w.alloc (.cells #[.int .i64 i,v] 26)).heap.size=w.heap.size+1:=by simp
 have HR0:=Ag (Bx.new w 26 [.int .i64 i,v])
 have HR:Hid (Bx ((w.alloc (.cells #[.int .i64 i,v] 26)).alloc (.cells #[.int .i64 k,.int .i64 d,.int .i64 a,.int .i64 l,.string x] 64)) w.heap.size 26 [.int .i64 i,v]):=HR0.out.later ((Below.refl _ _).alloc (Nat.le_refl _) _)
 have HE:Hid (Bx ((w.alloc (.cells #[.int .i64 i,v] 26)).alloc (.cells #[.int .i64 k,.int .i64 d,.int .i64 a,.int .i64 l,.string x] 64)) (w.heap.size+1) 64 [.int .i64 k,.int .i64 d,.int .i64 a,.int .i64 l,.string x]):=by
  have:=Bx.new (w.alloc (.cells #[.int .i64 i,v] 26)) 64 [.int .i64 k,.int .i64 d,.int .i64 a,.int .i64 l,.string x]
  rw[hs1]at this;exact this
 have HB:Hid (Below w.heap.size w ((w.alloc (.cells #[.int .i64 i,v] 26)).alloc (.cells #[.int .i64 k,.int .i64 d,.int .i64 a,.int .i64 l,.string x] 64))):=((Below.refl _ _).alloc (Nat.le_refl _) _).alloc (by simp) _
 have HV:=Ag (h.out.stays HB.out)
 clear h hs1 HR0
 go_enter Tryz.func86,Tryz.ntmps86
 go_wp2_with fail
 generalize (w.alloc (.cells #[.int .i64 i,v] 26)).alloc (.cells #[.int .i64 k,.int .i64 d,.int .i64 a,.int .i64 l,.string x] 64)=W at *
 refine(qBk i ms HV hl).mono ?_
 rintro e w1 ⟨rfl,hb1⟩
 have B1:Hid (Below W.heap.size W w1):=hb1
 have V1:=Ag (HV.out.stays hb1)
 have E1:=HE.out.later hb1
 have R1:=HR.out.later hb1
 have r0:=E1.cell 0
 have r1:=E1.cell 1
 have r2:=E1.cell 2
 have r3:=E1.cell 3
 have r4:=E1.cell 4
 have z0:=R1.cell 0
 have z1:=R1.cell 1
 have E2:=Ag E1
 clear hb1 E1 HR HE HV R1
 simp only[h1]
 go_wp2_with fail
 refine(qEe k 1 7 _).mono ?_
 rintro e w2 ⟨rfl,rfl⟩
 simp only[h3]
 go_wp2_with fail
 refine(qKs ms d V1 hl).mono ?_
 rintro e w2 ⟨rfl,hb2⟩
 have B1:=Ag (qAa B1.out hb2)
 have E2:Bx w2 (w.heap.size+1) 64 [.int .i64 k,.int .i64 d,.int .i64 a,.int .i64 l,.string x]:=E2.out.later hb2
 have r0:=E2.cell 0
 have r1:=E2.cell 1
 have r2:=E2.cell 2
 have r3:=E2.cell 3
 have r4:=E2.cell 4
 clear hb2 V1 E2
 simp only[h2]
 go_wp2_with fail
 go_ret
 exact⟨by unfold qDp;rw[h1,h2];rfl,qAa HB.out B1.out⟩
theorem spTurnOk_3(i:Int)(v:Value)(ms:List Int)(k d a l:Int)(x:ByteArray)(w:World)(h:Hid (RI w v ms))(hl:ms.length≤1048576)(hx:x.size≤1048576)(h1:qAy i ms=true)(h3:decide (1≤k∧k≤7)=true)(h2:inB ms d=true)(h4:decide (a<0)=true):
  Calls Tryz.prog 86 #[.agg #[.int .i64 i,v],.agg #[.int .i64 k,.int .i64 d,.int .i64 a,.int .i64 l,.string x]] w fun e w'=>e=.returned (.bool (qDp i ms k d a l x))∧Below w.heap.size w w':=by
 have hs1:(w.alloc (.cells #[.int .i64 i,v] 26)).heap.size=w.heap.size+1:=by simp
 have HR0:=Ag (Bx.new w 26 [.int .i64 i,v])
 have HR:Hid (Bx ((w.alloc (.cells #[.int .i64 i,v] 26)).alloc (.cells #[.int .i64 k,.int .i64 d,.int .i64 a,.int .i64 l,.string x] 64)) w.heap.size 26 [.int .i64 i,v]):=HR0.out.later ((Below.refl _ _).alloc (Nat.le_refl _) _)
 have HE:Hid (Bx ((w.alloc (.cells #[.int .i64 i,v] 26)).alloc (.cells #[.int .i64 k,.int .i64 d,.int .i64 a,.int .i64 l,.string x] 64)) (w.heap.size+1) 64 [.int .i64 k,.int .i64 d,.int .i64 a,.int .i64 l,.string x]):=by
  have:=Bx.new (w.alloc (.cells #[.int .i64 i,v] 26)) 64 [.int .i64 k,.int .i64 d,.int .i64 a,.int .i64 l,.string x]
  rw[hs1]at this;exact this
 have HB:Hid (Below w.heap.size w ((w.alloc (.cells #[.int .i64 i,v] 26)).alloc (.cells #[.int .i64 k,.int .i64 d,.int .i64 a,.int .i64 l,.string x] 64))):=((Below.refl _ _).alloc (Nat.le_refl _) _).alloc (by simp) _
 have HV:=Ag (h.out.stays HB.out)
 clear h hs1 HR0
 go_enter Tryz.func86,Tryz.ntmps86
 go_wp2_with fail
 generalize (w.alloc (.cells #[.int .i64 i,v] 26)).alloc (.cells #[.int .i64 k,.int .i64 d,.int .i64 a,.int .i64 l,.string x] 64)=W at *
 refine(qBk i ms HV hl).mono ?_
 rintro e w1 ⟨rfl,hb1⟩
 have B1:Hid (Below W.heap.size W w1):=hb1
 have V1:=Ag (HV.out.stays hb1)
 have E1:=HE.out.later hb1
 have R1:=HR.out.later hb1
 have r0:=E1.cell 0
 have r1:=E1.cell 1
 have r2:=E1.cell 2
 have r3:=E1.cell 3
 have r4:=E1.cell 4
 have z0:=R1.cell 0
 have z1:=R1.cell 1
 have E2:=Ag E1
 clear hb1 E1 HR HE HV R1
 simp only[h1]
 go_wp2_with fail
 refine(qEe k 1 7 _).mono ?_
 rintro e w2 ⟨rfl,rfl⟩
 simp only[h3]
 go_wp2_with fail
 refine(qKs ms d V1 hl).mono ?_
 rintro e w2 ⟨rfl,hb2⟩
 have B1:=Ag (qAa B1.out hb2)
 have E2:Bx w2 (w.heap.size+1) 64 [.int .i64 k,.int .i64 d,.int .i64 a,.int .i64 l,.string x]:=E2.out.later hb2
 have r0:=E2.cell 0
 have r1:=E2.cell 1
 have r2:=E2.cell 2
 have r3:=E2.cell 3
 have r4:=E2.cell 4
 clear hb2 V1 E2
 simp only[h2]
 go_wp2_with fail
 go_ret
 exact⟨by unfold qDp;rw[h1,h2,h3,show decide (0≤a)=false by simpa using h4];rfl,qAa HB.out B1.out⟩
theorem spTurnOk_4(i:Int)(v:Value)(ms:List Int)(k d a l:Int)(x:ByteArray)(w:World)(h:Hid (RI w v ms))(hl:ms.length≤1048576)(hx:x.size≤1048576)(h1:qAy i ms=true)(h3:decide (1≤k∧k≤7)=true)(h2:inB ms d=true)(h4:decide (a<0)=false)(h5:k≠1)(h7: ¬l=0):
  Calls Tryz.prog 86 #[.agg #[.int .i64 i,v],.agg #[.int .i64 k,.int .i64 d,.int .i64 a,.int .i64 l,.string x]] w fun e w'=>e=.returned (.bool (qDp i ms k d a l x))∧Below w.heap.size w w':=by
 have hs1:(w.alloc (.cells #[.int .i64 i,v] 26)).heap.size=w.heap.size+1:=by simp
 have HR0:=Ag (Bx.new w 26 [.int .i64 i,v])
 have HR:Hid (Bx ((w.alloc (.cells #[.int .i64 i,v] 26)).alloc (.cells #[.int .i64 k,.int .i64 d,.int .i64 a,.int .i64 l,.string x] 64)) w.heap.size 26 [.int .i64 i,v]):=HR0.out.later ((Below.refl _ _).alloc (Nat.le_refl _) _)
 have HE:Hid (Bx ((w.alloc (.cells #[.int .i64 i,v] 26)).alloc (.cells #[.int .i64 k,.int .i64 d,.int .i64 a,.int .i64 l,.string x] 64)) (w.heap.size+1) 64 [.int .i64 k,.int .i64 d,.int .i64 a,.int .i64 l,.string x]):=by
  have:=Bx.new (w.alloc (.cells #[.int .i64 i,v] 26)) 64 [.int .i64 k,.int .i64 d,.int .i64 a,.int .i64 l,.string x]
  rw[hs1]at this;exact this
 have HB:Hid (Below w.heap.size w ((w.alloc (.cells #[.int .i64 i,v] 26)).alloc (.cells #[.int .i64 k,.int .i64 d,.int .i64 a,.int .i64 l,.string x] 64))):=((Below.refl _ _).alloc (Nat.le_refl _) _).alloc (by simp) _
 have HV:=Ag (h.out.stays HB.out)
 clear h hs1 HR0
 go_enter Tryz.func86,Tryz.ntmps86
 go_wp2_with fail
 generalize (w.alloc (.cells #[.int .i64 i,v] 26)).alloc (.cells #[.int .i64 k,.int .i64 d,.int .i64 a,.int .i64 l,.string x] 64)=W at *
 refine(qBk i ms HV hl).mono ?_
 rintro e w1 ⟨rfl,hb1⟩
 have B1:Hid (Below W.heap.size W w1):=hb1
 have V1:=Ag (HV.out.stays hb1)
 have E1:=HE.out.later hb1
 have R1:=HR.out.later hb1
 have r0:=E1.cell 0
 have r1:=E1.cell 1
 have r2:=E1.cell 2
 have r3:=E1.cell 3
 have r4:=E1.cell 4
 have z0:=R1.cell 0
 have z1:=R1.cell 1
 have E2:=Ag E1
 clear hb1 E1 HR HE HV R1
 simp only[h1]
 go_wp2_with fail
 refine(qEe k 1 7 _).mono ?_
 rintro e w2 ⟨rfl,rfl⟩
 simp only[h3]
 go_wp2_with fail
 refine(qKs ms d V1 hl).mono ?_
 rintro e w2 ⟨rfl,hb2⟩
 have B1:=Ag (qAa B1.out hb2)
 have E2:Bx w2 (w.heap.size+1) 64 [.int .i64 k,.int .i64 d,.int .i64 a,.int .i64 l,.string x]:=E2.out.later hb2
 have r0:=E2.cell 0
 have r1:=E2.cell 1
 have r2:=E2.cell 2
 have r3:=E2.cell 3
 have r4:=E2.cell 4
 clear hb2 V1 E2
 simp only[h2]
 go_wp2_with fail
 go_ret
 exact⟨by unfold qDp;rw[h1,h2,h3,show decide (0≤a)=true by simpa using h4];unfold uttB;rw[if_neg h5,decide_eq_false h7];rfl,qAa HB.out B1.out⟩
theorem spTurnOk_7(i:Int)(v:Value)(ms:List Int)(k d a:Int)(x:ByteArray)(w:World)(h:Hid (RI w v ms))(hl:ms.length≤1048576)(hx:x.size≤1048576)(h1:qAy i ms=true)(h3:decide (1≤k∧k≤7)=true)(h2:inB ms d=true)(h4:decide (a<0)=false)(h5:k≠1):
  Calls Tryz.prog 86 #[.agg #[.int .i64 i,v],.agg #[.int .i64 k,.int .i64 d,.int .i64 a,.int .i64 0,.string x]] w fun e w'=>e=.returned (.bool (qDp i ms k d a 0 x))∧Below w.heap.size w w':=by
 have hs1:(w.alloc (.cells #[.int .i64 i,v] 26)).heap.size=w.heap.size+1:=by simp
 have HR0:=Ag (Bx.new w 26 [.int .i64 i,v])
 have HR:Hid (Bx ((w.alloc (.cells #[.int .i64 i,v] 26)).alloc (.cells #[.int .i64 k,.int .i64 d,.int .i64 a,.int .i64 0,.string x] 64)) w.heap.size 26 [.int .i64 i,v]):=HR0.out.later ((Below.refl _ _).alloc (Nat.le_refl _) _)
 have HE:Hid (Bx ((w.alloc (.cells #[.int .i64 i,v] 26)).alloc (.cells #[.int .i64 k,.int .i64 d,.int .i64 a,.int .i64 0,.string x] 64)) (w.heap.size+1) 64 [.int .i64 k,.int .i64 d,.int .i64 a,.int .i64 0,.string x]):=by
  have:=Bx.new (w.alloc (.cells #[.int .i64 i,v] 26)) 64 [.int .i64 k,.int .i64 d,.int .i64 a,.int .i64 0,.string x]
  rw[hs1]at this;exact this
 have HB:Hid (Below w.heap.size w ((w.alloc (.cells #[.int .i64 i,v] 26)).alloc (.cells #[.int .i64 k,.int .i64 d,.int .i64 a,.int .i64 0,.string x] 64))):=((Below.refl _ _).alloc (Nat.le_refl _) _).alloc (by simp) _
 have HV:=Ag (h.out.stays HB.out)
 clear h hs1 HR0
 go_enter Tryz.func86,Tryz.ntmps86
 go_wp2_with fail
 generalize (w.alloc (.cells #[.int .i64 i,v] 26)).alloc (.cells #[.int .i64 k,.int .i64 d,.int .i64 a,.int .i64 0,.string x] 64)=W at *
 refine(qBk i ms HV hl).mono ?_
 rintro e w1 ⟨rfl,hb1⟩
 have B1:Hid (Below W.heap.size W w1):=hb1
 have V1:=Ag (HV.out.stays hb1)
 have E1:=HE.out.later hb1
 have R1:=HR.out.later hb1
 have r0:=E1.cell 0
 have r1:=E1.cell 1
 have r2:=E1.cell 2
 have r3:=E1.cell 3
 have r4:=E1.cell 4
 have z0:=R1.cell 0
 have z1:=R1.cell 1
 have E2:=Ag E1
 clear hb1 E1 HR HE HV R1
 simp only[h1]
 go_wp2_with fail
 refine(qEe k 1 7 _).mono ?_
 rintro e w2 ⟨rfl,rfl⟩
 simp only[h3]
 go_wp2_with fail
 refine(qKs ms d V1 hl).mono ?_
 rintro e w2 ⟨rfl,hb2⟩
 have B1:=Ag (qAa B1.out hb2)
 have E2:Bx w2 (w.heap.size+1) 64 [.int .i64 k,.int .i64 d,.int .i64 a,.int .i64 0,.string x]:=E2.out.later hb2
 have r0:=E2.cell 0
 have r1:=E2.cell 1
 have r2:=E2.cell 2
 have r3:=E2.cell 3
 have r4:=E2.cell 4
 clear hb2 V1 E2
 simp only[h2]
 go_wp2_with fail
 go_ret
 exact⟨by unfold qDp;rw[h1,h2,h3,show decide (0≤a)=true by simpa using h4];unfold uttB;rw[if_neg h5];rfl,qAa HB.out B1.out⟩
theorem spTurnOk_5(i:Int)(v:Value)(ms:List Int)(d a l:Int)(x:ByteArray)(w:World)(h:Hid (RI w v ms))(hl:ms.length≤1048576)(hx:x.size≤1048576)(h1:qAy i ms=true)(h3:decide ((1:Int)≤1∧(1:Int)≤7)=true)(h2:inB ms d=true)(h4:decide (a<0)=false)(h6:decide (1≤l∧l≤2)=false):
  Calls Tryz.prog 86 #[.agg #[.int .i64 i,v],.agg #[.int .i64 1,.int .i64 d,.int .i64 a,.int .i64 l,.string x]] w fun e w'=>e=.returned (.bool (qDp i ms 1 d a l x))∧Below w.heap.size w w':=by
 have hs1:(w.alloc (.cells #[.int .i64 i,v] 26)).heap.size=w.heap.size+1:=by simp
 have HR0:=Ag (Bx.new w 26 [.int .i64 i,v])
 have HR:Hid (Bx ((w.alloc (.cells #[.int .i64 i,v] 26)).alloc (.cells #[.int .i64 1,.int .i64 d,.int .i64 a,.int .i64 l,.string x] 64)) w.heap.size 26 [.int .i64 i,v]):=HR0.out.later ((Below.refl _ _).alloc (Nat.le_refl _) _)
 have HE:Hid (Bx ((w.alloc (.cells #[.int .i64 i,v] 26)).alloc (.cells #[.int .i64 1,.int .i64 d,.int .i64 a,.int .i64 l,.string x] 64)) (w.heap.size+1) 64 [.int .i64 1,.int .i64 d,.int .i64 a,.int .i64 l,.string x]):=by
  have:=Bx.new (w.alloc (.cells #[.int .i64 i,v] 26)) 64 [.int .i64 1,.int .i64 d,.int .i64 a,.int .i64 l,.string x]
  rw[hs1]at this;exact this
 have HB:Hid (Below w.heap.size w ((w.alloc (.cells #[.int .i64 i,v] 26)).alloc (.cells #[.int .i64 1,.int .i64 d,.int .i64 a,.int .i64 l,.string x] 64))):=((Below.refl _ _).alloc (Nat.le_refl _) _).alloc (by simp) _
 have HV:=Ag (h.out.stays HB.out)
 clear h hs1 HR0
 go_enter Tryz.func86,Tryz.ntmps86
 go_wp2_with fail
 generalize (w.alloc (.cells #[.int .i64 i,v] 26)).alloc (.cells #[.int .i64 1,.int .i64 d,.int .i64 a,.int .i64 l,.string x] 64)=W at *
 refine(qBk i ms HV hl).mono ?_
 rintro e w1 ⟨rfl,hb1⟩
 have B1:Hid (Below W.heap.size W w1):=hb1
 have V1:=Ag (HV.out.stays hb1)
 have E1:=HE.out.later hb1
 have R1:=HR.out.later hb1
 have r0:=E1.cell 0
 have r1:=E1.cell 1
 have r2:=E1.cell 2
 have r3:=E1.cell 3
 have r4:=E1.cell 4
 have z0:=R1.cell 0
 have z1:=R1.cell 1
 have E2:=Ag E1
 clear hb1 E1 HR HE HV R1
 simp only[h1]
 go_wp2_with fail
 refine(qEe 1 1 7 _).mono ?_
 rintro e w2 ⟨rfl,rfl⟩
 simp only[h3]
 go_wp2_with fail
 refine(qKs ms d V1 hl).mono ?_
 rintro e w2 ⟨rfl,hb2⟩
 have B1:=Ag (qAa B1.out hb2)
 have E2:Bx w2 (w.heap.size+1) 64 [.int .i64 1,.int .i64 d,.int .i64 a,.int .i64 l,.string x]:=E2.out.later hb2
 have r0:=E2.cell 0
 have r1:=E2.cell 1
 have r2:=E2.cell 2
 have r3:=E2.cell 3
 have r4:=E2.cell 4
 clear hb2 V1 E2
 simp only[h2]
 go_wp2_with fail
 refine(qEe l 1 2 _).mono ?_
 rintro e w3 ⟨rfl,rfl⟩
 simp only[h6]
 go_wp2_with fail
 go_ret
 exact⟨by unfold qDp;rw[h1,h2,h3,show decide (0≤a)=true by simpa using h4];unfold uttB lvB;rw[if_pos rfl,h6];rfl,qAa HB.out B1.out⟩
theorem spTurnOk_6(i:Int)(v:Value)(ms:List Int)(d a l:Int)(x:ByteArray)(w:World)(h:Hid (RI w v ms))(hl:ms.length≤1048576)(hx:x.size≤1048576)(h1:qAy i ms=true)(h3:decide ((1:Int)≤1∧(1:Int)≤7)=true)(h2:inB ms d=true)(h4:decide (a<0)=false)(h6:decide (1≤l∧l≤2)=true):
  Calls Tryz.prog 86 #[.agg #[.int .i64 i,v],.agg #[.int .i64 1,.int .i64 d,.int .i64 a,.int .i64 l,.string x]] w fun e w'=>e=.returned (.bool (qDp i ms 1 d a l x))∧Below w.heap.size w w':=by
 have hs1:(w.alloc (.cells #[.int .i64 i,v] 26)).heap.size=w.heap.size+1:=by simp
 have HR0:=Ag (Bx.new w 26 [.int .i64 i,v])
 have HR:Hid (Bx ((w.alloc (.cells #[.int .i64 i,v] 26)).alloc (.cells #[.int .i64 1,.int .i64 d,.int .i64 a,.int .i64 l,.string x] 64)) w.heap.size 26 [.int .i64 i,v]):=HR0.out.later ((Below.refl _ _).alloc (Nat.le_refl _) _)
 have HE:Hid (Bx ((w.alloc (.cells #[.int .i64 i,v] 26)).alloc (.cells #[.int .i64 1,.int .i64 d,.int .i64 a,.int .i64 l,.string x] 64)) (w.heap.size+1) 64 [.int .i64 1,.int .i64 d,.int .i64 a,.int .i64 l,.string x]):=by
  have:=Bx.new (w.alloc (.cells #[.int .i64 i,v] 26)) 64 [.int .i64 1,.int .i64 d,.int .i64 a,.int .i64 l,.string x]
  rw[hs1]at this;exact this
 have HB:Hid (Below w.heap.size w ((w.alloc (.cells #[.int .i64 i,v] 26)).alloc (.cells #[.int .i64 1,.int .i64 d,.int .i64 a,.int .i64 l,.string x] 64))):=((Below.refl _ _).alloc (Nat.le_refl _) _).alloc (by simp) _
 have HV:=Ag (h.out.stays HB.out)
 clear h hs1 HR0
 go_enter Tryz.func86,Tryz.ntmps86
 go_wp2_with fail
 generalize (w.alloc (.cells #[.int .i64 i,v] 26)).alloc (.cells #[.int .i64 1,.int .i64 d,.int .i64 a,.int .i64 l,.string x] 64)=W at *
 refine(qBk i ms HV hl).mono ?_
 rintro e w1 ⟨rfl,hb1⟩
 have B1:Hid (Below W.heap.size W w1):=hb1
 have V1:=Ag (HV.out.stays hb1)
 have E1:=HE.out.later hb1
 have R1:=HR.out.later hb1
 have r0:=E1.cell 0
 have r1:=E1.cell 1
 have r2:=E1.cell 2
 have r3:=E1.cell 3
 have r4:=E1.cell 4
 have z0:=R1.cell 0
 have z1:=R1.cell 1
 have E2:=Ag E1
 clear hb1 E1 HR HE HV R1
 simp only[h1]
 go_wp2_with fail
 refine(qEe 1 1 7 _).mono ?_
 rintro e w2 ⟨rfl,rfl⟩
 simp only[h3]
 go_wp2_with fail
 refine(qKs ms d V1 hl).mono ?_
 rintro e w2 ⟨rfl,hb2⟩
 have B1:=Ag (qAa B1.out hb2)
 have E2:Bx w2 (w.heap.size+1) 64 [.int .i64 1,.int .i64 d,.int .i64 a,.int .i64 l,.string x]:=E2.out.later hb2
 have r0:=E2.cell 0
 have r1:=E2.cell 1
 have r2:=E2.cell 2
 have r3:=E2.cell 3
 have r4:=E2.cell 4
 clear hb2 V1 E2
 simp only[h2]
 go_wp2_with fail
 refine(qEe l 1 2 _).mono ?_
 rintro e w3 ⟨rfl,rfl⟩
 simp only[h6]
 go_wp2_with fail
 go_ret
 exact⟨by unfold qDp;rw[h1,h2,h3,show decide (0≤a)=true by simpa using h4];unfold uttB lvB;rw[if_pos rfl,h6];rfl,qAa HB.out B1.out⟩
theorem spTurnOk_any(i:Int)(v:Value)(ms:List Int)(k d a l:Int)(x:ByteArray)(w:World)(h:Hid (RI w v ms))(hl:ms.length≤1048576)(hx:x.size≤1048576):
  Calls Tryz.prog 86 #[.agg #[.int .i64 i,v],.agg #[.int .i64 k,.int .i64 d,.int .i64 a,.int .i64 l,.string x]] w fun e w'=>e=.returned (.bool (qDp i ms k d a l x))∧Below w.heap.size w w':=by
 cases h1:qAy i ms with
 |false=>exact spTurnOk_0 i v ms k d a l x w h hl hx h1
 |true=>
  cases h3:decide (1≤k∧k≤7)with
  |false=>exact spTurnOk_1 i v ms k d a l x w h hl hx h1 h3
  |true=>
   cases h2:inB ms d with
   |false=>exact spTurnOk_2 i v ms k d a l x w h hl hx h1 h3 h2
   |true=>
    cases h4:decide (a<0)with
    |true=>exact spTurnOk_3 i v ms k d a l x w h hl hx h1 h3 h2 h4
    |false=>
     by_cases h5:k=1
     ·subst h5
      cases h6:decide (1≤l∧l≤2)with
      |false=>exact spTurnOk_5 i v ms d a l x w h hl hx h1 h3 h2 h4 h6
      |true=>exact spTurnOk_6 i v ms d a l x w h hl hx h1 h3 h2 h4 h6
     ·by_cases h7:l=0
      ·subst h7;exact spTurnOk_7 i v ms k d a x w h hl hx h1 h3 h2 h4 h5
      ·exact spTurnOk_4 i v ms k d a l x w h hl hx h1 h3 h2 h4 h5 h7
def qGa(m:Mt)(l:Int)(x:ByteArray):Bool:=m.ok&&(lvB l&&(decide (x.size≤60)&&decide (m.tx.length<20)))
def sayM(m:Mt)(l:Int)(x:ByteArray):Mt:=⟨m.id,m.rid,m.ms,m.its,m.lv++[l],m.tx++[x],m.rd,m.se,m.li,m.he,m.la⟩
theorem spSay_no(m:Mt)(v:Mv)(l:Int)(x:ByteArray)(w:World)(h:Hid (MtP w m v))(hs:Hid (MtS m))(hx:x.size≤1048576)(hk:Hid (qGa m l x=false)):
  Calls Tryz.prog 155 #[.agg #[.int .i64 m.id,.int .i64 m.rid,.slice v.ms.a v.ms.n v.ms.c,.slice v.its.a v.its.n v.its.c,.slice v.lv.a v.lv.n v.lv.c,.slice v.tx.a v.tx.n v.tx.c,.int .i64 m.rd,.int .i64 m.se,.int .i64 m.li,.int .i64 m.he,.int .i64 m.la.c,.int .i64 m.la.r,.int .i64 m.la.q,.int .i64 m.la.a,.int .i64 m.la.b,.slice v.ws.a v.ws.n v.ws.c],.int .i64 l,.string x] w fun e w'=>e=.returned (.tuple #[.agg #[.int .i64 0,.int .i64 0,.slice none 0 0,.slice none 0 0,.slice none 0 0,.slice none 0 0,.int .i64 0,.int .i64 0,.int .i64 0,.int .i64 0,.int .i64 0,.int .i64 0,.int .i64 0,.int .i64 0,.int .i64 0,.slice none 0 0],.bool false])∧Below w.heap.size w w':=by
 obtain⟨HA,HR,HB⟩:=en2 w 32 [.int .i64 m.id,.int .i64 m.rid,.slice v.ms.a v.ms.n v.ms.c,.slice v.its.a v.its.n v.its.c,.slice v.lv.a v.lv.n v.lv.c,.slice v.tx.a v.tx.n v.tx.c,.int .i64 m.rd,.int .i64 m.se,.int .i64 m.li,.int .i64 m.he,.int .i64 m.la.c,.int .i64 m.la.r,.int .i64 m.la.q,.int .i64 m.la.a,.int .i64 m.la.b,.slice v.ws.a v.ws.n v.ws.c] 32 [.int .i64 0,.int .i64 0,.slice none 0 0,.slice none 0 0,.slice none 0 0,.slice none 0 0,.int .i64 0,.int .i64 0,.int .i64 0,.int .i64 0,.int .i64 0,.int .i64 0,.int .i64 0,.int .i64 0,.int .i64 0,.slice none 0 0]
 have HP:=Ag (h.out.later HB.out)
 have LT:Hid (v.tx.n=m.tx.length):=RT.len h.out.tx.rt
 clear h
 go_enter Tryz.func155,Tryz.ntmps155
 go_wp2_with (first|(refine qAb rfl 32 _ rfl w.heap.size 0 rfl 32 _ HA.out (mC m v) rfl _ Tryz.underlying32 rfl Tryz.sizeM ?_))
 generalize (w.alloc (.cells #[.int .i64 m.id,.int .i64 m.rid,.slice v.ms.a v.ms.n v.ms.c,.slice v.its.a v.its.n v.its.c,.slice v.lv.a v.lv.n v.lv.c,.slice v.tx.a v.tx.n v.tx.c,.int .i64 m.rd,.int .i64 m.se,.int .i64 m.li,.int .i64 m.he,.int .i64 m.la.c,.int .i64 m.la.r,.int .i64 m.la.q,.int .i64 m.la.a,.int .i64 m.la.b,.slice v.ws.a v.ws.n v.ws.c] 32)).alloc (.cells #[.int .i64 0,.int .i64 0,.slice none 0 0,.slice none 0 0,.slice none 0 0,.slice none 0 0,.int .i64 0,.int .i64 0,.int .i64 0,.int .i64 0,.int .i64 0,.int .i64 0,.int .i64 0,.int .i64 0,.int .i64 0,.slice none 0 0] 32)=W at *
 refine(qCg m v _ HP.out.r hs).mono ?_
 rintro e w1 ⟨rfl,b⟩
 obtain⟨HA,HR,HP,HB⟩:=cy4 (HA.out.later b) (HR.out.later b) (HP.out.later b) (qAa HB.out b)
 clear b
 obtain⟨R,hR⟩: ∃R,m.ok=R:=⟨_,rfl⟩
 rw[hR]
 have KR:Hid (m.ok=R):=hR
 clear hR
 cases R with
 |false=>
  go_wp2_with (first|(refine qAt rfl 28 _ rfl w.heap.size 5 rfl 32 _ HA.out (.slice v.tx.a v.tx.n v.tx.c) rfl _ Tryz.underlying28 rfl ?_)|(refine qAd rfl 32 _ _ rfl (w.heap.size+1) rfl 32 _ HR.out [.int .i64 0,.int .i64 0,.slice none 0 0,.slice none 0 0,.slice none 0 0,.slice none 0 0,.int .i64 0,.int .i64 0,.int .i64 0,.int .i64 0,.int .i64 0,.int .i64 0,.int .i64 0,.int .i64 0,.int .i64 0,.slice none 0 0] rfl rfl Tryz.sizeM rfl ?_;intro wz RZ TZ))
  refine bodyPost_ret (qBu Tryz.results155 (w.heap.size+1) 32 [.int .i64 0,.int .i64 0,.slice none 0 0,.slice none 0 0,.slice none 0 0,.slice none 0 0,.int .i64 0,.int .i64 0,.int .i64 0,.int .i64 0,.int .i64 0,.int .i64 0,.int .i64 0,.int .i64 0,.int .i64 0,.slice none 0 0] _ rfl RZ Tryz.underlying32 rfl Tryz.sizeM) rfl ?_
  exact⟨rfl,HB.out.trans (TZ.below (by omega))⟩
 |true=>
  go_wp2_with fail
  refine(in_b l 1 2 _).mono ?_
  rintro e w2 ⟨rfl,b⟩
  obtain⟨HA,HR,HP,HB⟩:=cy4 (HA.out.later b) (HR.out.later b) (HP.out.later b) (qAa HB.out b)
  clear b
  obtain⟨R2,hR⟩: ∃R,(decide (1≤l∧l≤2))=R:=⟨_,rfl⟩
  rw[hR]
  have KL:Hid (lvB l=R2):=hR
  clear hR
  cases R2 with
  |false=>
   go_wp2_with (first|(refine qAt rfl 28 _ rfl w.heap.size 5 rfl 32 _ HA.out (.slice v.tx.a v.tx.n v.tx.c) rfl _ Tryz.underlying28 rfl ?_)|(refine qAd rfl 32 _ _ rfl (w.heap.size+1) rfl 32 _ HR.out [.int .i64 0,.int .i64 0,.slice none 0 0,.slice none 0 0,.slice none 0 0,.slice none 0 0,.int .i64 0,.int .i64 0,.int .i64 0,.int .i64 0,.int .i64 0,.int .i64 0,.int .i64 0,.int .i64 0,.int .i64 0,.slice none 0 0] rfl rfl Tryz.sizeM rfl ?_;intro wz RZ TZ))
   refine bodyPost_ret (qBu Tryz.results155 (w.heap.size+1) 32 [.int .i64 0,.int .i64 0,.slice none 0 0,.slice none 0 0,.slice none 0 0,.slice none 0 0,.int .i64 0,.int .i64 0,.int .i64 0,.int .i64 0,.int .i64 0,.int .i64 0,.int .i64 0,.int .i64 0,.int .i64 0,.slice none 0 0] _ rfl RZ Tryz.underlying32 rfl Tryz.sizeM) rfl ?_
   exact⟨rfl,HB.out.trans (TZ.below (by omega))⟩
  |true=>
   by_cases h60:60<x.size
   ·have hd:decide (60<(x.size:Int))=true:=by simp;omega
    clear h60
    go_wp2_with (first|(refine qAt rfl 28 _ rfl w.heap.size 5 rfl 32 _ HA.out (.slice v.tx.a v.tx.n v.tx.c) rfl _ Tryz.underlying28 rfl ?_)|(refine qAd rfl 32 _ _ rfl (w.heap.size+1) rfl 32 _ HR.out [.int .i64 0,.int .i64 0,.slice none 0 0,.slice none 0 0,.slice none 0 0,.slice none 0 0,.int .i64 0,.int .i64 0,.int .i64 0,.int .i64 0,.int .i64 0,.int .i64 0,.int .i64 0,.int .i64 0,.int .i64 0,.slice none 0 0] rfl rfl Tryz.sizeM rfl ?_;intro wz RZ TZ))
    refine bodyPost_ret (qBu Tryz.results155 (w.heap.size+1) 32 [.int .i64 0,.int .i64 0,.slice none 0 0,.slice none 0 0,.slice none 0 0,.slice none 0 0,.int .i64 0,.int .i64 0,.int .i64 0,.int .i64 0,.int .i64 0,.int .i64 0,.int .i64 0,.int .i64 0,.int .i64 0,.slice none 0 0] _ rfl RZ Tryz.underlying32 rfl Tryz.sizeM) rfl ?_
    exact⟨rfl,HB.out.trans (TZ.below (by omega))⟩
   ·have hd:decide (60<(x.size:Int))=false:=by simp;omega
    have h20:decide ((20:Int)≤(v.tx.n:Int))=true:=by
     have h1:=hk.out
     have h2:=LT.out
     unfold qGa at h1
     rw[KR.out,KL.out]at h1
     simp at h1
     simp;omega
    clear h60
    go_wp2_with (first|(refine qAt rfl 28 _ rfl w.heap.size 5 rfl 32 _ HA.out (.slice v.tx.a v.tx.n v.tx.c) rfl _ Tryz.underlying28 rfl ?_)|(refine qAd rfl 32 _ _ rfl (w.heap.size+1) rfl 32 _ HR.out [.int .i64 0,.int .i64 0,.slice none 0 0,.slice none 0 0,.slice none 0 0,.slice none 0 0,.int .i64 0,.int .i64 0,.int .i64 0,.int .i64 0,.int .i64 0,.int .i64 0,.int .i64 0,.int .i64 0,.int .i64 0,.slice none 0 0] rfl rfl Tryz.sizeM rfl ?_;intro wz RZ TZ))
    refine bodyPost_ret (qBu Tryz.results155 (w.heap.size+1) 32 [.int .i64 0,.int .i64 0,.slice none 0 0,.slice none 0 0,.slice none 0 0,.slice none 0 0,.int .i64 0,.int .i64 0,.int .i64 0,.int .i64 0,.int .i64 0,.int .i64 0,.int .i64 0,.int .i64 0,.int .i64 0,.slice none 0 0] _ rfl RZ Tryz.underlying32 rfl Tryz.sizeM) rfl ?_
    exact⟨rfl,HB.out.trans (TZ.below (by omega))⟩
theorem spSay_yes(m:Mt)(v:Mv)(l:Int)(x:ByteArray)(w:World)(h:Hid (MtP w m v))(hs:Hid (MtS m))(hx:x.size≤1048576)(hk:Hid (qGa m l x=true)):
  Calls Tryz.prog 155 #[.agg #[.int .i64 m.id,.int .i64 m.rid,.slice v.ms.a v.ms.n v.ms.c,.slice v.its.a v.its.n v.its.c,.slice v.lv.a v.lv.n v.lv.c,.slice v.tx.a v.tx.n v.tx.c,.int .i64 m.rd,.int .i64 m.se,.int .i64 m.li,.int .i64 m.he,.int .i64 m.la.c,.int .i64 m.la.r,.int .i64 m.la.q,.int .i64 m.la.a,.int .i64 m.la.b,.slice v.ws.a v.ws.n v.ws.c],.int .i64 l,.string x] w fun e w'=>∃u:Mv,e=.returned (.tuple #[.agg #[.int .i64 (sayM m l x).id,.int .i64 (sayM m l x).rid,.slice u.ms.a u.ms.n u.ms.c,.slice u.its.a u.its.n u.its.c,.slice u.lv.a u.lv.n u.lv.c,.slice u.tx.a u.tx.n u.tx.c,.int .i64 (sayM m l x).rd,.int .i64 (sayM m l x).se,.int .i64 (sayM m l x).li,.int .i64 (sayM m l x).he,.int .i64 (sayM m l x).la.c,.int .i64 (sayM m l x).la.r,.int .i64 (sayM m l x).la.q,.int .i64 (sayM m l x).la.a,.int .i64 (sayM m l x).la.b,.slice u.ws.a u.ws.n u.ws.c],.bool true])∧MtO w' w.heap.size (sayM m l x) u∧Below w.heap.size w w':=by
 obtain⟨HA,HR,HB⟩:=en2 w 32 [.int .i64 m.id,.int .i64 m.rid,.slice v.ms.a v.ms.n v.ms.c,.slice v.its.a v.its.n v.its.c,.slice v.lv.a v.lv.n v.lv.c,.slice v.tx.a v.tx.n v.tx.c,.int .i64 m.rd,.int .i64 m.se,.int .i64 m.li,.int .i64 m.he,.int .i64 m.la.c,.int .i64 m.la.r,.int .i64 m.la.q,.int .i64 m.la.a,.int .i64 m.la.b,.slice v.ws.a v.ws.n v.ws.c] 32 [.int .i64 0,.int .i64 0,.slice none 0 0,.slice none 0 0,.slice none 0 0,.slice none 0 0,.int .i64 0,.int .i64 0,.int .i64 0,.int .i64 0,.int .i64 0,.int .i64 0,.int .i64 0,.int .i64 0,.int .i64 0,.slice none 0 0]
 have HP:=Ag (h.out.later HB.out)
 have LT:Hid (v.tx.n=m.tx.length):=RT.len h.out.tx.rt
 clear h
 go_enter Tryz.func155,Tryz.ntmps155
 go_wp2_with (first|(refine qAb rfl 32 _ rfl w.heap.size 0 rfl 32 _ HA.out (mC m v) rfl _ Tryz.underlying32 rfl Tryz.sizeM ?_))
 generalize (w.alloc (.cells #[.int .i64 m.id,.int .i64 m.rid,.slice v.ms.a v.ms.n v.ms.c,.slice v.its.a v.its.n v.its.c,.slice v.lv.a v.lv.n v.lv.c,.slice v.tx.a v.tx.n v.tx.c,.int .i64 m.rd,.int .i64 m.se,.int .i64 m.li,.int .i64 m.he,.int .i64 m.la.c,.int .i64 m.la.r,.int .i64 m.la.q,.int .i64 m.la.a,.int .i64 m.la.b,.slice v.ws.a v.ws.n v.ws.c] 32)).alloc (.cells #[.int .i64 0,.int .i64 0,.slice none 0 0,.slice none 0 0,.slice none 0 0,.slice none 0 0,.int .i64 0,.int .i64 0,.int .i64 0,.int .i64 0,.int .i64 0,.int .i64 0,.int .i64 0,.int .i64 0,.int .i64 0,.slice none 0 0] 32)=W at *
 have KR:Hid (m.ok=true):=by have:=hk.out;unfold qGa at this;simp at this;exact this.1
 have KL:Hid (lvB l=true):=by have:=hk.out;unfold qGa at this;simp at this;exact this.2.1
 have h60:decide (60<(x.size:Int))=false:=by have:=hk.out;unfold qGa at this;simp at this;simp;omega
 have h20:decide ((20:Int)≤(v.tx.n:Int))=false:=by have:=hk.out;have:=LT.out;unfold qGa at *;simp at *;omega
 clear hk
 refine(qCg m v _ HP.out.r hs).mono ?_
 rintro e w1 ⟨rfl,b⟩
 rw[KR.out]
 obtain⟨HA,HR,HP,HB⟩:=cy4 (HA.out.later b) (HR.out.later b) (HP.out.later b) (qAa HB.out b)
 clear b
 go_wp2_with fail
 refine(in_b l 1 2 _).mono ?_
 rintro e w2 ⟨rfl,b⟩
 rw[show decide (1≤l∧l≤2)=true from KL.out]
 obtain⟨HA,HR,HP,HB⟩:=cy4 (HA.out.later b) (HR.out.later b) (HP.out.later b) (qAa HB.out b)
 clear b
 go_wp2_with (first|(refine qAt rfl 28 _ rfl w.heap.size 5 rfl 32 _ HA.out (.slice v.tx.a v.tx.n v.tx.c) rfl _ Tryz.underlying28 rfl ?_)|(refine qAb rfl 32 _ rfl w.heap.size 0 rfl 32 _ HA.out (mC m v) rfl _ Tryz.underlying32 rfl Tryz.sizeM ?_))
 refine(qCm m v _ HP hs).mono ?_
 rintro e w3 ⟨u,rfl,o3,b⟩
 have HO:Hid (MtO w3 w2.heap.size m u):=o3
 have z3:=b.size
 have zw:w.heap.size≤w2.heap.size:=HB.out.size
 have zr:w.heap.size+1<w2.heap.size:=HR.out.lt
 clear o3
 obtain⟨HA,HR,HP,HB⟩:=cy4 (HA.out.later b) (HR.out.later b) (HP.out.later b) (qAa HB.out b)
 clear b
 have hz:=Ag (Bx.new w3 32 [.int .i64 0,.int .i64 0,.slice none 0 0,.slice none 0 0,.slice none 0 0,.slice none 0 0,.int .i64 0,.int .i64 0,.int .i64 0,.int .i64 0,.int .i64 0,.int .i64 0,.int .i64 0,.int .i64 0,.int .i64 0,.slice none 0 0])
 go_wp2_with (first|(refine qAd rfl 32 _ _ rfl w3.heap.size rfl 32 _ hz.out [.int .i64 m.id,.int .i64 m.rid,.slice u.ms.a u.ms.n u.ms.c,.slice u.its.a u.its.n u.its.c,.slice u.lv.a u.lv.n u.lv.c,.slice u.tx.a u.tx.n u.tx.c,.int .i64 m.rd,.int .i64 m.se,.int .i64 m.li,.int .i64 m.he,.int .i64 m.la.c,.int .i64 m.la.r,.int .i64 m.la.q,.int .i64 m.la.a,.int .i64 m.la.b,.slice u.ws.a u.ws.n u.ws.c] rfl rfl Tryz.sizeM rfl ?_;intro w4 OB TB;have bb:Below w3.heap.size w3 w4:=((Below.refl _ _).alloc (Nat.le_refl _) _).trans (TB.below (Nat.le_refl _));have HG:=Ag OB;have HO:=Ag (HO.out.later bb);have HR:=Ag (HR.out.later bb);have HB:=Ag (qAa HB.out bb);clear OB TB bb;refine Stp.here ?_))
 refine Stp.go ?_
 generalize w3.heap.size=g at *
 have z4:w2.heap.size≤w4.heap.size:=by have:=HG.out.lt;omega
 have zl:m.lv.length<4000000:=by have:=hs.out.lv;omega
 have zt:m.tx.length<4000000:=by have:=hs.out.tx;omega
 have HG2:Hid (Bx (w4.alloc (.cells #[.int .i64 l] 3)) g 32 [.int .i64 m.id,.int .i64 m.rid,.slice u.ms.a u.ms.n u.ms.c,.slice u.its.a u.its.n u.its.c,.slice u.lv.a u.lv.n u.lv.c,.slice u.tx.a u.tx.n u.tx.c,.int .i64 m.rd,.int .i64 m.se,.int .i64 m.li,.int .i64 m.he,.int .i64 m.la.c,.int .i64 m.la.r,.int .i64 m.la.q,.int .i64 m.la.a,.int .i64 m.la.b,.slice u.ws.a u.ws.n u.ws.c]):=HG.out.later ((Below.refl _ _).alloc (Nat.le_refl _) _)
 go_wp2_with (first|(refine qAt rfl 24 _ rfl g 4 rfl 32 _ HG.out (.slice u.lv.a u.lv.n u.lv.c) rfl _ Tryz.underlying24 rfl ?_)|(at_builtin;refine qKe rfl _ _ 24 rfl Tryz.underlying24 Tryz.info3' w2.heap.size (.slice u.lv.a u.lv.n u.lv.c) m.lv rfl HO.out.lv l rfl zl z4 ?_;intro v5 w5 o5 g5 k5;have Xlv:=Ag o5;have G5:Hid ((w4.alloc (.cells #[.int .i64 l] 3)).grownBy w5 u.lv.v.ownBlock):=g5;have Q5:Hid (v5.ownBlock=u.lv.v.ownBlock∨v5.ownBlock=some (w4.heap.size+1)):=k5;clear o5 g5 k5;refine Stp.here ?_))
 refine Stp.go ?_
 obtain⟨ulv,hf⟩:=Xlv.out.sv
 subst hf
 have KK:=qFi G5.out
 have N1:Hid (∀k,(u.lv.v).ownBlock=some k→w2.heap.size≤k∧k<w4.heap.size):=HO.out.lv.lt
 have ng:some g≠u.lv.v.ownBlock:=fun e=>qCn HO.out.lv HG.out (by decide) e.symm
 have P1:Hid (OwnI w5 w2.heap.size u.ms.v m.ms):=HO.out.ms.kept KK (fun k a b=>HO.out.a1 k a b.symm)
 have P2:Hid (SlI w5 w2.heap.size u.its.v m.its):=HO.out.its.kept KK (fun k a b=>ap_i_it HO.out.lv HO.out.its k b.symm a)
 have P4:Hid (OwnS w5 w2.heap.size u.tx.v m.tx):=ownS_kept HO.out.tx KK (fun k a b=>ap_i_s HO.out.lv HO.out.tx k b.symm a)
 have P5:Hid (OwnI w5 w2.heap.size u.ws.v m.la.ws):=HO.out.ws.kept KK (fun k a b=>HO.out.a3 k b.symm a)
 have AP1:Hid (Ap u.ms.v ulv.v):=fun k a b=>by
  rcases Q5.out with e|e
  ·exact HO.out.a1 k a (e.symm.trans b)
  ·have:=(HO.out.ms.lt k a).2;have e2:=e.symm.trans b;cases e2;omega
 have AP3:Hid (Ap ulv.v u.ws.v):=fun k a b=>by
  rcases Q5.out with e|e
  ·exact HO.out.a3 k (e.symm.trans a) b
  ·have:=(HO.out.ws.lt k b).2;have e2:=e.symm.trans a;cases e2;omega
 have AP2:Hid (Ap u.ms.v u.ws.v):=HO.out.a2
 have HR:Hid (Bx w5 (w.heap.size+1) 32 [.int .i64 0,.int .i64 0,.slice none 0 0,.slice none 0 0,.slice none 0 0,.slice none 0 0,.int .i64 0,.int .i64 0,.int .i64 0,.int .i64 0,.int .i64 0,.int .i64 0,.int .i64 0,.int .i64 0,.int .i64 0,.slice none 0 0]):=HR.out.grown KK (fun e=>by have:=(N1.out _ e.symm).1;omega)
 have HG:Hid (Bx w5 g 32 (mC m u)):=HG.out.grown KK ng
 have HB:Hid (Below w.heap.size w w5):=HB.out.grown KK HB.out.size (fun k hk=>by have:=(N1.out k hk).1;omega)
 have z5:=KK.size
 clear HG2 G5 Q5 KK ng HO N1
 go_wp2_with (first|(refine qAe rfl 24 _ _ rfl g 4 rfl 32 _ HG.out (.slice ulv.a ulv.n ulv.c) rfl (by simp) rfl Tryz.sizeNs (mX m.id m.rid u.ms u.its ulv u.tx m.rd m.se m.li m.he m.la.c m.la.r m.la.q m.la.a m.la.b u.ws) rfl ?_;intro w6 OB TB;refine Stp.here ?_))
 refine Stp.go ?_
 obtain⟨P1,P2,Xlv,P5,P4,HR,HB⟩:=cy7 (P1.out.past HG.out TB (by decide)) (P2.out.past HG.out TB (by decide)) (Xlv.out.past HG.out TB (by decide)) (P5.out.past HG.out TB (by decide)) (P4.out.past HG.out TB (by decide)) (HR.out.turn TB (by omega)) (HB.out.trans (TB.below (by omega)))
 have z6:w5.heap.size≤w6.heap.size:=Nat.le_of_eq TB.size.symm
 have HG:=Ag OB
 clear OB TB
 obtain⟨w7,hw7⟩: ∃w7,w7=w6:=⟨_,rfl⟩
 subst hw7
 go_wp2_with (first|(refine qAt rfl 28 _ rfl g 5 rfl 32 _ HG.out (.slice u.tx.a u.tx.n u.tx.c) rfl _ Tryz.underlying28 rfl ?_)|(at_builtin;refine qKd rfl _ _ 28 rfl Tryz.underlying28 Tryz.info9 w2.heap.size (.slice u.tx.a u.tx.n u.tx.c) m.tx rfl P4.out x rfl zt (by omega) ?_;intro v8 w8 o8 g8 _;have Xtx:=Ag o8;have G8:Hid ((w7.alloc (.cells #[.string x] 9)).grownBy w8 u.tx.v.ownBlock):=g8;clear o8 g8;refine Stp.here ?_))
 refine Stp.go ?_
 obtain⟨utx,hf⟩:=Xtx.out.sv
 subst hf
 have KK:=qFi G8.out
 have N1:Hid (∀k,(u.tx.v).ownBlock=some k→w2.heap.size≤k∧k<w7.heap.size):=P4.out.lt
 have ng:some g≠u.tx.v.ownBlock:=fun e=>bx_s_ne P4.out HG.out (by decide) e.symm
 have P1:Hid (OwnI w8 w2.heap.size u.ms.v m.ms):=P1.out.kept KK (fun k a b=>ap_i_s P1.out P4.out k a b.symm)
 have P2:Hid (SlI w8 w2.heap.size u.its.v m.its):=P2.out.kept KK (fun k a b=>ap_s_it P4.out P2.out k b.symm a)
 have Xlv:Hid (OwnI w8 w2.heap.size ulv.v (m.lv++[l])):=Xlv.out.kept KK (fun k a b=>ap_i_s Xlv.out P4.out k a b.symm)
 have P5:Hid (OwnI w8 w2.heap.size u.ws.v m.la.ws):=P5.out.kept KK (fun k a b=>ap_i_s P5.out P4.out k a b.symm)
 have HR:Hid (Bx w8 (w.heap.size+1) 32 [.int .i64 0,.int .i64 0,.slice none 0 0,.slice none 0 0,.slice none 0 0,.slice none 0 0,.int .i64 0,.int .i64 0,.int .i64 0,.int .i64 0,.int .i64 0,.int .i64 0,.int .i64 0,.int .i64 0,.int .i64 0,.slice none 0 0]):=HR.out.grown KK (fun e=>by have:=(N1.out _ e.symm).1;omega)
 have HG:Hid (Bx w8 g 32 (mX m.id m.rid u.ms u.its ulv u.tx m.rd m.se m.li m.he m.la.c m.la.r m.la.q m.la.a m.la.b u.ws)):=HG.out.grown KK ng
 have HB:Hid (Below w.heap.size w w8):=HB.out.grown KK HB.out.size (fun k hk=>by have:=(N1.out k hk).1;omega)
 clear G8 KK ng P4 N1
 go_wp2_with (first|(refine qAe rfl 28 _ _ rfl g 5 rfl 32 _ HG.out (.slice utx.a utx.n utx.c) rfl (by simp) rfl Tryz.sizeTs (mX m.id m.rid u.ms u.its ulv utx m.rd m.se m.li m.he m.la.c m.la.r m.la.q m.la.a m.la.b u.ws) rfl ?_;intro w9 OB TB;refine Stp.here ?_))
 refine Stp.go ?_
 obtain⟨P1,P2,Xlv,P5,Xtx,HR,HB,HG⟩:=cy8 (P1.out.past HG.out TB (by decide)) (P2.out.past HG.out TB (by decide)) (Xlv.out.past HG.out TB (by decide)) (P5.out.past HG.out TB (by decide)) (Xtx.out.past HG.out TB (by decide)) (HR.out.turn TB (by omega)) (HB.out.trans (TB.below (by omega))) OB
 clear OB TB
 go_wp2_with (first|(refine qAb rfl 32 _ rfl g 0 rfl 32 _ HG.out (mX m.id m.rid u.ms u.its ulv utx m.rd m.se m.li m.he m.la.c m.la.r m.la.q m.la.a m.la.b u.ws) rfl _ Tryz.underlying32 rfl Tryz.sizeM ?_)|(refine qAd rfl 32 _ _ rfl (w.heap.size+1) rfl 32 _ HR.out (mX m.id m.rid u.ms u.its ulv utx m.rd m.se m.li m.he m.la.c m.la.r m.la.q m.la.a m.la.b u.ws) rfl rfl Tryz.sizeM rfl ?_;intro wz RZ TZ))
 refine bodyPost_ret (qBu Tryz.results155 (w.heap.size+1) 32 (mX m.id m.rid u.ms u.its ulv utx m.rd m.se m.li m.he m.la.c m.la.r m.la.q m.la.a m.la.b u.ws) _ rfl RZ Tryz.underlying32 rfl Tryz.sizeM) rfl ?_
 refine⟨⟨u.ms,u.its,ulv,utx,u.ws⟩,rfl,⟨(P1.out.past HR.out TZ (by decide)).down zw,(P2.out.past HR.out TZ (by decide)).down zw,(Xlv.out.past HR.out TZ (by decide)).down zw,(Xtx.out.past HR.out TZ (by decide)).down zw,(P5.out.past HR.out TZ (by decide)).down zw,AP1.out,AP2.out,AP3.out⟩,HB.out.trans (TZ.below (by omega))⟩
end Go.Proofs.YthdjkkiegecgnaaGreat
