/- The walk over the law on SendNew. -/
import Derived.Test.YtohagaelenhebaaBy
import Derived.Test.YtohagaelenhebaaS4
import Derived.Test.YtohagaelenhebaaQ5
namespace Go.Proofs.Ytohagaelenhebaa
open Go.RowKit Pl
set_option linter.unusedVariables false

set_option maxRecDepth 100000 in
set_option maxHeartbeats 8000000 in
theorem lawSendNew (e : En) (qa oa : Option Addr) (qc oc : Nat) (w : World) (hg : Hid (Given w qa oa e.q e.o)) :
    Calls Try.prog 8 #[.agg #[.int .i64 e.nx, .int .i64 e.ak, .slice qa e.q.length qc, .int .i64 e.gt, .slice oa e.o.length oc]] w fun r w' => r = .returned (.bool true) ∧ Below w.heap.size w w' := by
  go_enter Try.func8, Try.ntmps8
  go_wp2_with fail
  have B_ : Below w.heap.size w (w.alloc (Obj.cells #[Value.int IntKind.i64 e.nx, Value.int IntKind.i64 e.ak, Value.slice qa e.q.length qc, Value.int IntKind.i64 e.gt, Value.slice oa e.o.length oc] 45)) := (Below.refl _ _).alloc (Nat.le_refl _) _
  have F_ := EndC.new w 45 e.nx e.ak e.gt (.slice qa e.q.length qc) (.slice oa e.o.length oc)
  have z0 : (w.alloc (Obj.cells #[Value.int IntKind.i64 e.nx, Value.int IntKind.i64 e.ak, Value.slice qa e.q.length qc, Value.int IntKind.i64 e.gt, Value.slice oa e.o.length oc] 45)).heap.size = w.heap.size + 1 := by simp
  generalize (w.alloc (Obj.cells #[Value.int IntKind.i64 e.nx, Value.int IntKind.i64 e.ak, Value.slice qa e.q.length qc, Value.int IntKind.i64 e.gt, Value.slice oa e.o.length oc] 45)) = w0 at *
  have F : Hid (EndC w0 45 w.heap.size e.nx e.ak (.slice qa e.q.length qc) e.gt (.slice oa e.o.length oc)) := F_
  have B : Hid (Below w.heap.size w w0) := B_
  clear F_ B_
  refine (szEnd_any e.nx e.ak e.gt qa oa qc oc e.q e.o w0 (show Hid (TextsAt _ _ _) from hg.out.tq.stays B.out) (show Hid (TextsAt _ _ _) from hg.out.to.stays B.out) hg.out.lq hg.out.lo hg.out.sq hg.out.so).mono ?_
  rintro r_ w1 ⟨hr | ⟨r, hr, hf⟩, hb⟩
  · subst hr
    have BB : Hid (Below w.heap.size w w1) := B.out.trans (hb.mono B.out.size)
    clear hb
    go_wp2_with fail
    go_ret
    exact ⟨rfl, BB.out⟩
  subst hr
  obtain ⟨hl, hsq, hso⟩ := hf.out
  have hd : decide ((r : Int) < 0) = false := by simp
  have z1 : w0.heap.size ≤ w1.heap.size := hb.size
  have F_ : Hid (EndC w1 45 w.heap.size e.nx e.ak (.slice qa e.q.length qc) e.gt (.slice oa e.o.length oc)) := (F.out.below hb)
  have B_ : Hid (Below w.heap.size w w1) := (B.out.trans (hb.mono B.out.size))
  clear F B
  have F := F_
  have B := B_
  clear F_ B_
  clear hb
  have HSQ : Hid (∀ t ∈ e.q, t.size ≤ 1048576) := hsq
  have HSO : Hid (∀ t ∈ e.o, t.size ≤ 1048576) := hso
  clear hf hsq hso
  obtain ⟨F0, F1, F2, F3, F4⟩ := F.out.cells
  go_wp2_with fail
  clear hd
  refine (toEnd_any e.nx e.ak e.gt qa oa qc oc e.q e.o w1 (show Hid (TextsAt _ _ _) from hg.out.tq.stays B.out) (show Hid (TextsAt _ _ _) from hg.out.to.stays B.out) (by omega) (by omega)).mono ?_
  rintro r_ w2 ⟨v_, rfl, m_, hb⟩
  have z2 : w1.heap.size ≤ w2.heap.size := hb.size
  clear F0 F1 F2 F3 F4 
  have F_ : Hid (EndC w2 45 w.heap.size e.nx e.ak (.slice qa e.q.length qc) e.gt (.slice oa e.o.length oc)) := (F.out.below hb)
  have B_ : Hid (Below w.heap.size w w2) := (B.out.trans (hb.mono B.out.size))
  clear F B
  have F := F_
  have B := B_
  clear F_ B_
  clear hb
  go_wp2_with fail
  refine (spSendNew_any (e := e) w2 (show EndR _ _ e from EndM.r m_) (by omega) (by omega)).mono ?_
  rintro r_ w3 ⟨⟨v_, sw, mw, rfl, hmw, ix_, iy_⟩, hb⟩
  have z3 : w2.heap.size ≤ w3.heap.size := hb.size
  have HF : Hid (∃ f : En, f = newF e) := ⟨_, rfl⟩
  obtain ⟨f, hfe⟩ := HF.out
  have fl : f.q.length = e.q.length ∧ f.o.length = e.o.length := by rw [hfe]; unfold newF; split <;> exact ⟨rfl, rfl⟩
  have HFE : Hid (f = newF e) := hfe
  obtain ⟨fl1, fl2⟩ := fl
  have HL1 : Hid (f.q.length = e.q.length) := fl1
  have HL2 : Hid (f.o.length = e.o.length) := fl2
  have fl3 : f.q.length + f.o.length ≤ 1048577 := by omega
  have HP : Hid (∃ ps : List Pc, ps = newL e) := ⟨_, rfl⟩
  obtain ⟨ps, hpe⟩ := HP.out
  have HPE : Hid (ps = newL e) := hpe
  have pl : ps.length ≤ 4 := by rw [hpe]; exact newL_len e
  obtain ⟨K, hKe⟩ : ∃ K : Nat, K = 1 + f.q.length + f.o.length := ⟨_, rfl⟩
  obtain ⟨J, hJe⟩ : ∃ J : Nat, J = K + ps.length * 3 := ⟨_, rfl⟩
  have HKE : Hid (K = 1 + f.q.length + f.o.length) := hKe
  have HJE : Hid (J = K + ps.length * 3) := hJe
  have K1 : 0 < K ∧ K ≤ 1048578 := by omega
  have J1 : 0 < J ∧ J ≤ 1900000 := by omega
  clear hfe HF hpe HP hKe hJe fl1 fl2
  have ix : EndI w3 w2.heap.size mw v_ f := by rw [HFE.out]; exact ix_
  have iy : SlI w3 mw w3.heap.size sw ps := by rw [HPE.out]; exact iy_
  clear ix_ iy_
  have F_ : Hid (EndC w3 45 w.heap.size e.nx e.ak (.slice qa e.q.length qc) e.gt (.slice oa e.o.length oc)) := (F.out.below hb)
  have B_ : Hid (Below w.heap.size w w3) := (B.out.trans (hb.mono B.out.size))
  clear F B
  have F := F_
  have B := B_
  clear F_ B_
  have SW : Hid (SlI w3 mw w3.heap.size sw ps) := iy
  obtain ⟨wa, wc, wb, wd, rfl⟩ := endM_form ix.own
  have lmw : mw ≤ w3.heap.size := ix.le
  clear iy hb
  have bx : Below w3.heap.size w3 (w3.alloc (Obj.cells #[Value.int IntKind.i64 f.nx, Value.int IntKind.i64 f.ak, Value.slice wa f.q.length wc, Value.int IntKind.i64 f.gt, Value.slice wb f.o.length wd] 32)) := (Below.refl _ _).alloc (Nat.le_refl _) _
  have cx := EndC.new w3 32 f.nx f.ak f.gt (.slice wa f.q.length wc) (.slice wb f.o.length wd)
  have z4 : (w3.alloc (Obj.cells #[Value.int IntKind.i64 f.nx, Value.int IntKind.i64 f.ak, Value.slice wa f.q.length wc, Value.int IntKind.i64 f.gt, Value.slice wb f.o.length wd] 32)).heap.size = w3.heap.size + 1 := by simp
  have F_ : Hid (EndC (w3.alloc (Obj.cells #[Value.int IntKind.i64 f.nx, Value.int IntKind.i64 f.ak, Value.slice wa f.q.length wc, Value.int IntKind.i64 f.gt, Value.slice wb f.o.length wd] 32)) 45 w.heap.size e.nx e.ak (.slice qa e.q.length qc) e.gt (.slice oa e.o.length oc)) := (F.out.below bx)
  have B_ : Hid (Below w.heap.size w (w3.alloc (Obj.cells #[Value.int IntKind.i64 f.nx, Value.int IntKind.i64 f.ak, Value.slice wa f.q.length wc, Value.int IntKind.i64 f.gt, Value.slice wb f.o.length wd] 32))) := (B.out.trans (bx.mono B.out.size))
  have SW_ : Hid (SlI (w3.alloc (Obj.cells #[Value.int IntKind.i64 f.nx, Value.int IntKind.i64 f.ak, Value.slice wa f.q.length wc, Value.int IntKind.i64 f.gt, Value.slice wb f.o.length wd] 32)) mw w3.heap.size sw ps) := (SW.out.below bx)
  clear F B SW
  have F := F_
  have B := B_
  have SW := SW_
  clear F_ B_ SW_
  have CW : Hid (EndC (w3.alloc (Obj.cells #[Value.int IntKind.i64 f.nx, Value.int IntKind.i64 f.ak, Value.slice wa f.q.length wc, Value.int IntKind.i64 f.gt, Value.slice wb f.o.length wd] 32)) 32 w3.heap.size f.nx f.ak (.slice wa f.q.length wc) f.gt (.slice wb f.o.length wd)) := cx
  have IW : Hid (EndI (w3.alloc (Obj.cells #[Value.int IntKind.i64 f.nx, Value.int IntKind.i64 f.ak, Value.slice wa f.q.length wc, Value.int IntKind.i64 f.gt, Value.slice wb f.o.length wd] 32)) w2.heap.size mw (.agg #[.int .i64 f.nx, .int .i64 f.ak, .slice wa f.q.length wc, .int .i64 f.gt, .slice wb f.o.length wd]) f) := EndI.below ix bx
  clear cx ix bx
  obtain ⟨F0, F1, F2, F3, F4⟩ := F.out.cells
  go_wp2_with fail
  generalize (w3.alloc (Obj.cells #[Value.int IntKind.i64 f.nx, Value.int IntKind.i64 f.ak, Value.slice wa f.q.length wc, Value.int IntKind.i64 f.gt, Value.slice wb f.o.length wd] 32)) = w4 at *
  clear F0 F1 F2 F3 F4 
  refine (toEnd_any e.nx e.ak e.gt qa oa qc oc e.q e.o w4 (show Hid (TextsAt _ _ _) from hg.out.tq.stays B.out) (show Hid (TextsAt _ _ _) from hg.out.to.stays B.out) (by omega) (by omega)).mono ?_
  rintro r_ w5 ⟨v_, rfl, m_, hb⟩
  have z5 : w4.heap.size ≤ w5.heap.size := hb.size
  have F_ : Hid (EndC w5 45 w.heap.size e.nx e.ak (.slice qa e.q.length qc) e.gt (.slice oa e.o.length oc)) := (F.out.below hb)
  have B_ : Hid (Below w.heap.size w w5) := (B.out.trans (hb.mono B.out.size))
  have SW_ : Hid (SlI w5 mw w3.heap.size sw ps) := (SW.out.below hb)
  have CW_ : Hid (EndC w5 32 w3.heap.size f.nx f.ak (.slice wa f.q.length wc) f.gt (.slice wb f.o.length wd)) := (CW.out.below hb)
  have IW_ : Hid (EndI w5 w2.heap.size mw (.agg #[.int .i64 f.nx, .int .i64 f.ak, .slice wa f.q.length wc, .int .i64 f.gt, .slice wb f.o.length wd]) f) := (IW.out.below hb)
  clear F B SW CW IW
  have F := F_
  have B := B_
  have SW := SW_
  have CW := CW_
  have IW := IW_
  clear F_ B_ SW_ CW_ IW_
  obtain ⟨xa, xc, xb, xd, rfl⟩ := endM_form m_
  have ix : EndI w5 w4.heap.size w5.heap.size (.agg #[.int .i64 e.nx, .int .i64 e.ak, .slice xa e.q.length xc, .int .i64 e.gt, .slice xb e.o.length xd]) e := EndI.new m_
  clear m_ hb
  dsimp only at ix ⊢
  have bx : Below w5.heap.size w5 (w5.alloc (Obj.cells #[Value.int IntKind.i64 e.nx, Value.int IntKind.i64 e.ak, Value.slice xa e.q.length xc, Value.int IntKind.i64 e.gt, Value.slice xb e.o.length xd] 32)) := (Below.refl _ _).alloc (Nat.le_refl _) _
  have cx := EndC.new w5 32 e.nx e.ak e.gt (.slice xa e.q.length xc) (.slice xb e.o.length xd)
  have z6 : (w5.alloc (Obj.cells #[Value.int IntKind.i64 e.nx, Value.int IntKind.i64 e.ak, Value.slice xa e.q.length xc, Value.int IntKind.i64 e.gt, Value.slice xb e.o.length xd] 32)).heap.size = w5.heap.size + 1 := by simp
  have F_ : Hid (EndC (w5.alloc (Obj.cells #[Value.int IntKind.i64 e.nx, Value.int IntKind.i64 e.ak, Value.slice xa e.q.length xc, Value.int IntKind.i64 e.gt, Value.slice xb e.o.length xd] 32)) 45 w.heap.size e.nx e.ak (.slice qa e.q.length qc) e.gt (.slice oa e.o.length oc)) := (F.out.below bx)
  have B_ : Hid (Below w.heap.size w (w5.alloc (Obj.cells #[Value.int IntKind.i64 e.nx, Value.int IntKind.i64 e.ak, Value.slice xa e.q.length xc, Value.int IntKind.i64 e.gt, Value.slice xb e.o.length xd] 32))) := (B.out.trans (bx.mono B.out.size))
  have SW_ : Hid (SlI (w5.alloc (Obj.cells #[Value.int IntKind.i64 e.nx, Value.int IntKind.i64 e.ak, Value.slice xa e.q.length xc, Value.int IntKind.i64 e.gt, Value.slice xb e.o.length xd] 32)) mw w3.heap.size sw ps) := (SW.out.below bx)
  have CW_ : Hid (EndC (w5.alloc (Obj.cells #[Value.int IntKind.i64 e.nx, Value.int IntKind.i64 e.ak, Value.slice xa e.q.length xc, Value.int IntKind.i64 e.gt, Value.slice xb e.o.length xd] 32)) 32 w3.heap.size f.nx f.ak (.slice wa f.q.length wc) f.gt (.slice wb f.o.length wd)) := (CW.out.below bx)
  have IW_ : Hid (EndI (w5.alloc (Obj.cells #[Value.int IntKind.i64 e.nx, Value.int IntKind.i64 e.ak, Value.slice xa e.q.length xc, Value.int IntKind.i64 e.gt, Value.slice xb e.o.length xd] 32)) w2.heap.size mw (.agg #[.int .i64 f.nx, .int .i64 f.ak, .slice wa f.q.length wc, .int .i64 f.gt, .slice wb f.o.length wd]) f) := (IW.out.below bx)
  clear F B SW CW IW
  have F := F_
  have B := B_
  have SW := SW_
  have CW := CW_
  have IW := IW_
  clear F_ B_ SW_ CW_ IW_
  have CX : Hid (EndC (w5.alloc (Obj.cells #[Value.int IntKind.i64 e.nx, Value.int IntKind.i64 e.ak, Value.slice xa e.q.length xc, Value.int IntKind.i64 e.gt, Value.slice xb e.o.length xd] 32)) 32 w5.heap.size e.nx e.ak (.slice xa e.q.length xc) e.gt (.slice xb e.o.length xd)) := cx
  have IX : Hid (EndI (w5.alloc (Obj.cells #[Value.int IntKind.i64 e.nx, Value.int IntKind.i64 e.ak, Value.slice xa e.q.length xc, Value.int IntKind.i64 e.gt, Value.slice xb e.o.length xd] 32)) w4.heap.size w5.heap.size (.agg #[.int .i64 e.nx, .int .i64 e.ak, .slice xa e.q.length xc, .int .i64 e.gt, .slice xb e.o.length xd]) e) := EndI.below ix bx
  clear cx ix bx
  go_wp2_with fail
  generalize (w5.alloc (Obj.cells #[Value.int IntKind.i64 e.nx, Value.int IntKind.i64 e.ak, Value.slice xa e.q.length xc, Value.int IntKind.i64 e.gt, Value.slice xb e.o.length xd] 32)) = w6 at *
  refine (sendNew_any (e := e) w6 IX.out.r (by omega) (by omega) HSQ HSO).mono ?_
  rintro r_ w7 ⟨⟨v_, sg, mg, rfl, hmg, ix_, iy_⟩, hb⟩
  have z7 : w6.heap.size ≤ w7.heap.size := hb.size
  have ix : EndI w7 w6.heap.size mg v_ f := by rw [HFE.out]; exact ix_
  have iy : SlI w7 mg w7.heap.size sg ps := by rw [HPE.out]; exact iy_
  clear ix_ iy_
  have F_ : Hid (EndC w7 45 w.heap.size e.nx e.ak (.slice qa e.q.length qc) e.gt (.slice oa e.o.length oc)) := (F.out.below hb)
  have B_ : Hid (Below w.heap.size w w7) := (B.out.trans (hb.mono B.out.size))
  have SW_ : Hid (SlI w7 mw w3.heap.size sw ps) := (SW.out.below hb)
  have CW_ : Hid (EndC w7 32 w3.heap.size f.nx f.ak (.slice wa f.q.length wc) f.gt (.slice wb f.o.length wd)) := (CW.out.below hb)
  have IW_ : Hid (EndI w7 w2.heap.size mw (.agg #[.int .i64 f.nx, .int .i64 f.ak, .slice wa f.q.length wc, .int .i64 f.gt, .slice wb f.o.length wd]) f) := (IW.out.below hb)
  have CX_ : Hid (EndC w7 32 w5.heap.size e.nx e.ak (.slice xa e.q.length xc) e.gt (.slice xb e.o.length xd)) := (CX.out.below hb)
  have IX_ : Hid (EndI w7 w4.heap.size w5.heap.size (.agg #[.int .i64 e.nx, .int .i64 e.ak, .slice xa e.q.length xc, .int .i64 e.gt, .slice xb e.o.length xd]) e) := (IX.out.below hb)
  clear F B SW CW IW CX IX
  have F := F_
  have B := B_
  have SW := SW_
  have CW := CW_
  have IW := IW_
  have CX := CX_
  have IX := IX_
  clear F_ B_ SW_ CW_ IW_ CX_ IX_
  have SG : Hid (SlI w7 mg w7.heap.size sg ps) := iy
  obtain ⟨ga, gc, gb, gd, rfl⟩ := endM_form ix.own
  have lmg : mg ≤ w7.heap.size := ix.le
  clear iy hb
  have bx : Below w7.heap.size w7 (w7.alloc (Obj.cells #[Value.int IntKind.i64 f.nx, Value.int IntKind.i64 f.ak, Value.slice ga f.q.length gc, Value.int IntKind.i64 f.gt, Value.slice gb f.o.length gd] 32)) := (Below.refl _ _).alloc (Nat.le_refl _) _
  have cx := EndC.new w7 32 f.nx f.ak f.gt (.slice ga f.q.length gc) (.slice gb f.o.length gd)
  have z8 : (w7.alloc (Obj.cells #[Value.int IntKind.i64 f.nx, Value.int IntKind.i64 f.ak, Value.slice ga f.q.length gc, Value.int IntKind.i64 f.gt, Value.slice gb f.o.length gd] 32)).heap.size = w7.heap.size + 1 := by simp
  have F_ : Hid (EndC (w7.alloc (Obj.cells #[Value.int IntKind.i64 f.nx, Value.int IntKind.i64 f.ak, Value.slice ga f.q.length gc, Value.int IntKind.i64 f.gt, Value.slice gb f.o.length gd] 32)) 45 w.heap.size e.nx e.ak (.slice qa e.q.length qc) e.gt (.slice oa e.o.length oc)) := (F.out.below bx)
  have B_ : Hid (Below w.heap.size w (w7.alloc (Obj.cells #[Value.int IntKind.i64 f.nx, Value.int IntKind.i64 f.ak, Value.slice ga f.q.length gc, Value.int IntKind.i64 f.gt, Value.slice gb f.o.length gd] 32))) := (B.out.trans (bx.mono B.out.size))
  have SW_ : Hid (SlI (w7.alloc (Obj.cells #[Value.int IntKind.i64 f.nx, Value.int IntKind.i64 f.ak, Value.slice ga f.q.length gc, Value.int IntKind.i64 f.gt, Value.slice gb f.o.length gd] 32)) mw w3.heap.size sw ps) := (SW.out.below bx)
  have CW_ : Hid (EndC (w7.alloc (Obj.cells #[Value.int IntKind.i64 f.nx, Value.int IntKind.i64 f.ak, Value.slice ga f.q.length gc, Value.int IntKind.i64 f.gt, Value.slice gb f.o.length gd] 32)) 32 w3.heap.size f.nx f.ak (.slice wa f.q.length wc) f.gt (.slice wb f.o.length wd)) := (CW.out.below bx)
  have IW_ : Hid (EndI (w7.alloc (Obj.cells #[Value.int IntKind.i64 f.nx, Value.int IntKind.i64 f.ak, Value.slice ga f.q.length gc, Value.int IntKind.i64 f.gt, Value.slice gb f.o.length gd] 32)) w2.heap.size mw (.agg #[.int .i64 f.nx, .int .i64 f.ak, .slice wa f.q.length wc, .int .i64 f.gt, .slice wb f.o.length wd]) f) := (IW.out.below bx)
  have CX_ : Hid (EndC (w7.alloc (Obj.cells #[Value.int IntKind.i64 f.nx, Value.int IntKind.i64 f.ak, Value.slice ga f.q.length gc, Value.int IntKind.i64 f.gt, Value.slice gb f.o.length gd] 32)) 32 w5.heap.size e.nx e.ak (.slice xa e.q.length xc) e.gt (.slice xb e.o.length xd)) := (CX.out.below bx)
  have IX_ : Hid (EndI (w7.alloc (Obj.cells #[Value.int IntKind.i64 f.nx, Value.int IntKind.i64 f.ak, Value.slice ga f.q.length gc, Value.int IntKind.i64 f.gt, Value.slice gb f.o.length gd] 32)) w4.heap.size w5.heap.size (.agg #[.int .i64 e.nx, .int .i64 e.ak, .slice xa e.q.length xc, .int .i64 e.gt, .slice xb e.o.length xd]) e) := (IX.out.below bx)
  have SG_ : Hid (SlI (w7.alloc (Obj.cells #[Value.int IntKind.i64 f.nx, Value.int IntKind.i64 f.ak, Value.slice ga f.q.length gc, Value.int IntKind.i64 f.gt, Value.slice gb f.o.length gd] 32)) mg w7.heap.size sg ps) := (SG.out.below bx)
  clear F B SW CW IW CX IX SG
  have F := F_
  have B := B_
  have SW := SW_
  have CW := CW_
  have IW := IW_
  have CX := CX_
  have IX := IX_
  have SG := SG_
  clear F_ B_ SW_ CW_ IW_ CX_ IX_ SG_
  have CG : Hid (EndC (w7.alloc (Obj.cells #[Value.int IntKind.i64 f.nx, Value.int IntKind.i64 f.ak, Value.slice ga f.q.length gc, Value.int IntKind.i64 f.gt, Value.slice gb f.o.length gd] 32)) 32 w7.heap.size f.nx f.ak (.slice ga f.q.length gc) f.gt (.slice gb f.o.length gd)) := cx
  have IG : Hid (EndI (w7.alloc (Obj.cells #[Value.int IntKind.i64 f.nx, Value.int IntKind.i64 f.ak, Value.slice ga f.q.length gc, Value.int IntKind.i64 f.gt, Value.slice gb f.o.length gd] 32)) w6.heap.size mg (.agg #[.int .i64 f.nx, .int .i64 f.ak, .slice ga f.q.length gc, .int .i64 f.gt, .slice gb f.o.length gd]) f) := EndI.below ix bx
  clear cx ix bx
  obtain ⟨CW0, CW1, CW2, CW3, CW4⟩ := CW.out.cells
  go_wp2_with fail
  generalize (w7.alloc (Obj.cells #[Value.int IntKind.i64 f.nx, Value.int IntKind.i64 f.ak, Value.slice ga f.q.length gc, Value.int IntKind.i64 f.gt, Value.slice gb f.o.length gd] 32)) = w8 at *
  clear CW0 CW1 CW2 CW3 CW4 
  refine (eqEnd_same (e := f) w8 IG.out.r IW.out.r (by omega) (by omega)).mono ?_
  rintro r_ w9 ⟨rfl, hb⟩
  have z9 : w8.heap.size ≤ w9.heap.size := hb.size
  have F_ : Hid (EndC w9 45 w.heap.size e.nx e.ak (.slice qa e.q.length qc) e.gt (.slice oa e.o.length oc)) := (F.out.below hb)
  have B_ : Hid (Below w.heap.size w w9) := (B.out.trans (hb.mono B.out.size))
  have SW_ : Hid (SlI w9 mw w3.heap.size sw ps) := (SW.out.below hb)
  have CW_ : Hid (EndC w9 32 w3.heap.size f.nx f.ak (.slice wa f.q.length wc) f.gt (.slice wb f.o.length wd)) := (CW.out.below hb)
  have IW_ : Hid (EndI w9 w2.heap.size mw (.agg #[.int .i64 f.nx, .int .i64 f.ak, .slice wa f.q.length wc, .int .i64 f.gt, .slice wb f.o.length wd]) f) := (IW.out.below hb)
  have CX_ : Hid (EndC w9 32 w5.heap.size e.nx e.ak (.slice xa e.q.length xc) e.gt (.slice xb e.o.length xd)) := (CX.out.below hb)
  have IX_ : Hid (EndI w9 w4.heap.size w5.heap.size (.agg #[.int .i64 e.nx, .int .i64 e.ak, .slice xa e.q.length xc, .int .i64 e.gt, .slice xb e.o.length xd]) e) := (IX.out.below hb)
  have SG_ : Hid (SlI w9 mg w7.heap.size sg ps) := (SG.out.below hb)
  have CG_ : Hid (EndC w9 32 w7.heap.size f.nx f.ak (.slice ga f.q.length gc) f.gt (.slice gb f.o.length gd)) := (CG.out.below hb)
  have IG_ : Hid (EndI w9 w6.heap.size mg (.agg #[.int .i64 f.nx, .int .i64 f.ak, .slice ga f.q.length gc, .int .i64 f.gt, .slice gb f.o.length gd]) f) := (IG.out.below hb)
  clear F B SW CW IW CX IX SG CG IG
  have F := F_
  have B := B_
  have SW := SW_
  have CW := CW_
  have IW := IW_
  have CX := CX_
  have IX := IX_
  have SG := SG_
  have CG := CG_
  have IG := IG_
  clear F_ B_ SW_ CW_ IW_ CX_ IX_ SG_ CG_ IG_
  clear hb
  go_wp2_with fail
  refine (eq_P w9 SG.out SW.out (by omega)).mono ?_
  rintro r_ w10 ⟨rfl, hb⟩
  have z10 : w9.heap.size ≤ w10.heap.size := hb.size
  have F_ : Hid (EndC w10 45 w.heap.size e.nx e.ak (.slice qa e.q.length qc) e.gt (.slice oa e.o.length oc)) := (F.out.below hb)
  have B_ : Hid (Below w.heap.size w w10) := (B.out.trans (hb.mono B.out.size))
  have SW_ : Hid (SlI w10 mw w3.heap.size sw ps) := (SW.out.below hb)
  have CW_ : Hid (EndC w10 32 w3.heap.size f.nx f.ak (.slice wa f.q.length wc) f.gt (.slice wb f.o.length wd)) := (CW.out.below hb)
  have IW_ : Hid (EndI w10 w2.heap.size mw (.agg #[.int .i64 f.nx, .int .i64 f.ak, .slice wa f.q.length wc, .int .i64 f.gt, .slice wb f.o.length wd]) f) := (IW.out.below hb)
  have CX_ : Hid (EndC w10 32 w5.heap.size e.nx e.ak (.slice xa e.q.length xc) e.gt (.slice xb e.o.length xd)) := (CX.out.below hb)
  have IX_ : Hid (EndI w10 w4.heap.size w5.heap.size (.agg #[.int .i64 e.nx, .int .i64 e.ak, .slice xa e.q.length xc, .int .i64 e.gt, .slice xb e.o.length xd]) e) := (IX.out.below hb)
  have SG_ : Hid (SlI w10 mg w7.heap.size sg ps) := (SG.out.below hb)
  have CG_ : Hid (EndC w10 32 w7.heap.size f.nx f.ak (.slice ga f.q.length gc) f.gt (.slice gb f.o.length gd)) := (CG.out.below hb)
  have IG_ : Hid (EndI w10 w6.heap.size mg (.agg #[.int .i64 f.nx, .int .i64 f.ak, .slice ga f.q.length gc, .int .i64 f.gt, .slice gb f.o.length gd]) f) := (IG.out.below hb)
  clear F B SW CW IW CX IX SG CG IG
  have F := F_
  have B := B_
  have SW := SW_
  have CW := CW_
  have IW := IW_
  have CX := CX_
  have IX := IX_
  have SG := SG_
  have CG := CG_
  have IG := IG_
  clear F_ B_ SW_ CW_ IW_ CX_ IX_ SG_ CG_ IG_
  clear hb
  go_wp2_with fail
  go_region_held3 (fun w' => w'.cell? ⟨w5.heap.size, 0, none⟩ = some (.int .i64 e.nx) ∧ w'.cell? ⟨w5.heap.size, 1, none⟩ = some (.int .i64 e.ak) ∧ w'.cell? ⟨w5.heap.size, 2, none⟩ = some (.slice xa e.q.length xc) ∧ w'.cell? ⟨w5.heap.size, 3, none⟩ = some (.int .i64 e.gt) ∧ w'.cell? ⟨w5.heap.size, 4, none⟩ = some (.slice xb e.o.length xd) ∧ w'.cell? ⟨w.heap.size, 0, none⟩ = some (.int .i64 e.nx) ∧ w'.cell? ⟨w.heap.size, 1, none⟩ = some (.int .i64 e.ak) ∧ w'.cell? ⟨w.heap.size, 2, none⟩ = some (.slice qa e.q.length qc) ∧ w'.cell? ⟨w.heap.size, 3, none⟩ = some (.int .i64 e.gt) ∧ w'.cell? ⟨w.heap.size, 4, none⟩ = some (.slice oa e.o.length oc)) (first | exact flat10 x8.cells f8.cells | exact flat10 x7.cells f7.cells | exact flat10 CX.out.cells F.out.cells)
    (first | (go_at_call 26; refine (toEnd_any e.nx e.ak e.gt qa oa qc oc e.q e.o _ (show Hid (TextsAt _ _ _) from hg.out.tq.stays B.out.drew) (show Hid (TextsAt _ _ _) from hg.out.to.stays B.out.drew) (by omega) (by omega)).mono ?_; rintro r_ w11 ⟨y, rfl, m7, hb7⟩; have x7 := EndC.below (show EndC w10.drew _ _ _ _ _ _ _ from CX.out) hb7; have f7 := EndC.below (show EndC w10.drew _ _ _ _ _ _ _ from F.out) hb7) | (go_at_call 27; refine (eqEnd_same (e := e) _ (EndM.r (EndM.stays (show EndM w10.drew _ _ _ from IX.out.own) hb7)) m7.r (by omega) (by omega)).mono ?_; rintro r_ w12 ⟨rfl, hb8⟩; have x8 := x7.below hb8; have f8 := f7.below hb8))
  have hb : Below w10.heap.size w10 w12 := ((Below.refl _ _).drew.trans (show Below w10.heap.size _ w11 from hb7)).trans (hb8.mono (show w10.heap.size ≤ w11.heap.size from hb7.size))
  have z12 : w10.heap.size ≤ w12.heap.size := hb.size
  clear x7 f7 x8 f8 m7 hb7 hb8
  have F_ : Hid (EndC w12 45 w.heap.size e.nx e.ak (.slice qa e.q.length qc) e.gt (.slice oa e.o.length oc)) := (F.out.below hb)
  have B_ : Hid (Below w.heap.size w w12) := (B.out.trans (hb.mono B.out.size))
  have SW_ : Hid (SlI w12 mw w3.heap.size sw ps) := (SW.out.below hb)
  have CW_ : Hid (EndC w12 32 w3.heap.size f.nx f.ak (.slice wa f.q.length wc) f.gt (.slice wb f.o.length wd)) := (CW.out.below hb)
  have IW_ : Hid (EndI w12 w2.heap.size mw (.agg #[.int .i64 f.nx, .int .i64 f.ak, .slice wa f.q.length wc, .int .i64 f.gt, .slice wb f.o.length wd]) f) := (IW.out.below hb)
  have CX_ : Hid (EndC w12 32 w5.heap.size e.nx e.ak (.slice xa e.q.length xc) e.gt (.slice xb e.o.length xd)) := (CX.out.below hb)
  have IX_ : Hid (EndI w12 w4.heap.size w5.heap.size (.agg #[.int .i64 e.nx, .int .i64 e.ak, .slice xa e.q.length xc, .int .i64 e.gt, .slice xb e.o.length xd]) e) := (IX.out.below hb)
  have SG_ : Hid (SlI w12 mg w7.heap.size sg ps) := (SG.out.below hb)
  have CG_ : Hid (EndC w12 32 w7.heap.size f.nx f.ak (.slice ga f.q.length gc) f.gt (.slice gb f.o.length gd)) := (CG.out.below hb)
  have IG_ : Hid (EndI w12 w6.heap.size mg (.agg #[.int .i64 f.nx, .int .i64 f.ak, .slice ga f.q.length gc, .int .i64 f.gt, .slice gb f.o.length gd]) f) := (IG.out.below hb)
  clear F B SW CW IW CX IX SG CG IG
  have F := F_
  have B := B_
  have SW := SW_
  have CW := CW_
  have IW := IW_
  have CX := CX_
  have IX := IX_
  have SG := SG_
  have CG := CG_
  have IG := IG_
  clear F_ B_ SW_ CW_ IW_ CX_ IX_ SG_ CG_ IG_
  clear hb
  obtain ⟨CX0, CX1, CX2, CX3, CX4⟩ := CX.out.cells
  go_wp2_with fail
  refine (mark_I w12 IX.out (by omega)).mono ?_
  rintro r_ w13 ⟨rfl, hgr, f1, hq1, hq2, hm1, hm2, ix⟩
  have z13 : w12.heap.size ≤ w13.heap.size := hgr.size
  clear IX hm1 hm2 ix hq1 hq2 f1
  clear CX0 CX1 CX2 CX3 CX4 
  have F_ : Hid (EndC w13 45 w.heap.size e.nx e.ak (.slice qa e.q.length qc) e.gt (.slice oa e.o.length oc)) := (F.out.gr hgr (by omega))
  have B_ : Hid (Below w.heap.size w w13) := (GrI.below' B.out hgr (by omega) (by omega))
  have SW_ : Hid (SlI w13 mw w3.heap.size sw ps) := (SW.out.gr hgr (by omega))
  have CW_ : Hid (EndC w13 32 w3.heap.size f.nx f.ak (.slice wa f.q.length wc) f.gt (.slice wb f.o.length wd)) := (CW.out.gr hgr (by omega))
  have IW_ : Hid (EndI w13 w2.heap.size mw (.agg #[.int .i64 f.nx, .int .i64 f.ak, .slice wa f.q.length wc, .int .i64 f.gt, .slice wb f.o.length wd]) f) := (IW.out.gr hgr (by omega))
  have CX_ : Hid (EndC w13 32 w5.heap.size e.nx e.ak (.slice xa e.q.length xc) e.gt (.slice xb e.o.length xd)) := (CX.out.gr hgr (by omega))
  have SG_ : Hid (SlI w13 mg w7.heap.size sg ps) := (SG.out.gr hgr (by omega))
  have CG_ : Hid (EndC w13 32 w7.heap.size f.nx f.ak (.slice ga f.q.length gc) f.gt (.slice gb f.o.length gd)) := (CG.out.gr hgr (by omega))
  have IG_ : Hid (EndI w13 w6.heap.size mg (.agg #[.int .i64 f.nx, .int .i64 f.ak, .slice ga f.q.length gc, .int .i64 f.gt, .slice gb f.o.length gd]) f) := (IG.out.gr hgr (by omega))
  clear F B SW CW IW CX SG CG IG
  have F := F_
  have B := B_
  have SW := SW_
  have CW := CW_
  have IW := IW_
  have CX := CX_
  have SG := SG_
  have CG := CG_
  have IG := IG_
  clear F_ B_ SW_ CW_ IW_ CX_ SG_ CG_ IG_
  clear hgr
  have hk : decide (((1 + e.q.length + e.o.length : Nat) : Int) < 0) = false := by simp; omega
  obtain ⟨CG0, CG1, CG2, CG3, CG4⟩ := CG.out.cells
  obtain ⟨CW0, CW1, CW2, CW3, CW4⟩ := CW.out.cells
  go_wp2_with fail
  clear hk
  refine (eqEnd_same (e := f) w13 IG.out.r IW.out.r (by omega) (by omega)).mono ?_
  rintro r_ w14 ⟨rfl, hb⟩
  have z14 : w13.heap.size ≤ w14.heap.size := hb.size
  clear CG0 CG1 CG2 CG3 CG4 CW0 CW1 CW2 CW3 CW4 
  have F_ : Hid (EndC w14 45 w.heap.size e.nx e.ak (.slice qa e.q.length qc) e.gt (.slice oa e.o.length oc)) := (F.out.below hb)
  have B_ : Hid (Below w.heap.size w w14) := (B.out.trans (hb.mono B.out.size))
  have SW_ : Hid (SlI w14 mw w3.heap.size sw ps) := (SW.out.below hb)
  have CW_ : Hid (EndC w14 32 w3.heap.size f.nx f.ak (.slice wa f.q.length wc) f.gt (.slice wb f.o.length wd)) := (CW.out.below hb)
  have IW_ : Hid (EndI w14 w2.heap.size mw (.agg #[.int .i64 f.nx, .int .i64 f.ak, .slice wa f.q.length wc, .int .i64 f.gt, .slice wb f.o.length wd]) f) := (IW.out.below hb)
  have CX_ : Hid (EndC w14 32 w5.heap.size e.nx e.ak (.slice xa e.q.length xc) e.gt (.slice xb e.o.length xd)) := (CX.out.below hb)
  have SG_ : Hid (SlI w14 mg w7.heap.size sg ps) := (SG.out.below hb)
  have CG_ : Hid (EndC w14 32 w7.heap.size f.nx f.ak (.slice ga f.q.length gc) f.gt (.slice gb f.o.length gd)) := (CG.out.below hb)
  have IG_ : Hid (EndI w14 w6.heap.size mg (.agg #[.int .i64 f.nx, .int .i64 f.ak, .slice ga f.q.length gc, .int .i64 f.gt, .slice gb f.o.length gd]) f) := (IG.out.below hb)
  clear F B SW CW IW CX SG CG IG
  have F := F_
  have B := B_
  have SW := SW_
  have CW := CW_
  have IW := IW_
  have CX := CX_
  have SG := SG_
  have CG := CG_
  have IG := IG_
  clear F_ B_ SW_ CW_ IW_ CX_ SG_ CG_ IG_
  clear hb
  go_wp2_with fail
  refine (eq_P w14 SG.out SW.out (by omega)).mono ?_
  rintro r_ w15 ⟨rfl, hb⟩
  have z15 : w14.heap.size ≤ w15.heap.size := hb.size
  have F_ : Hid (EndC w15 45 w.heap.size e.nx e.ak (.slice qa e.q.length qc) e.gt (.slice oa e.o.length oc)) := (F.out.below hb)
  have B_ : Hid (Below w.heap.size w w15) := (B.out.trans (hb.mono B.out.size))
  have SW_ : Hid (SlI w15 mw w3.heap.size sw ps) := (SW.out.below hb)
  have CW_ : Hid (EndC w15 32 w3.heap.size f.nx f.ak (.slice wa f.q.length wc) f.gt (.slice wb f.o.length wd)) := (CW.out.below hb)
  have IW_ : Hid (EndI w15 w2.heap.size mw (.agg #[.int .i64 f.nx, .int .i64 f.ak, .slice wa f.q.length wc, .int .i64 f.gt, .slice wb f.o.length wd]) f) := (IW.out.below hb)
  have CX_ : Hid (EndC w15 32 w5.heap.size e.nx e.ak (.slice xa e.q.length xc) e.gt (.slice xb e.o.length xd)) := (CX.out.below hb)
  have SG_ : Hid (SlI w15 mg w7.heap.size sg ps) := (SG.out.below hb)
  have CG_ : Hid (EndC w15 32 w7.heap.size f.nx f.ak (.slice ga f.q.length gc) f.gt (.slice gb f.o.length gd)) := (CG.out.below hb)
  have IG_ : Hid (EndI w15 w6.heap.size mg (.agg #[.int .i64 f.nx, .int .i64 f.ak, .slice ga f.q.length gc, .int .i64 f.gt, .slice gb f.o.length gd]) f) := (IG.out.below hb)
  clear F B SW CW IW CX SG CG IG
  have F := F_
  have B := B_
  have SW := SW_
  have CW := CW_
  have IW := IW_
  have CX := CX_
  have SG := SG_
  have CG := CG_
  have IG := IG_
  clear F_ B_ SW_ CW_ IW_ CX_ SG_ CG_ IG_
  clear hb
  obtain ⟨CG0, CG1, CG2, CG3, CG4⟩ := CG.out.cells
  go_wp2_with fail
  refine (mark_I w15 IG.out (by omega)).mono ?_
  rintro r_ w16 ⟨hr, hgr, f1, hq1, hq2, hm1, hm2, ix⟩
  rw [← HKE.out] at hr
  subst hr
  have z16 : w15.heap.size ≤ w16.heap.size := hgr.size
  have HM1 : Hid (Marked f1.q 1 f1.q.length) := hm1
  have HM2 : Hid (Marked f1.o (1 + f1.q.length) f1.o.length) := hm2
  have HQ1 : Hid (f1.q.length = f.q.length) := hq1
  have HQ2 : Hid (f1.o.length = f.o.length) := hq2
  clear IG hm1 hm2 hq1 hq2
  clear CG0 CG1 CG2 CG3 CG4 
  have F_ : Hid (EndC w16 45 w.heap.size e.nx e.ak (.slice qa e.q.length qc) e.gt (.slice oa e.o.length oc)) := (F.out.gr hgr (by omega))
  have B_ : Hid (Below w.heap.size w w16) := (GrI.below' B.out hgr (by omega) (by omega))
  have SW_ : Hid (SlI w16 mw w3.heap.size sw ps) := (SW.out.gr hgr (by omega))
  have CW_ : Hid (EndC w16 32 w3.heap.size f.nx f.ak (.slice wa f.q.length wc) f.gt (.slice wb f.o.length wd)) := (CW.out.gr hgr (by omega))
  have IW_ : Hid (EndI w16 w2.heap.size mw (.agg #[.int .i64 f.nx, .int .i64 f.ak, .slice wa f.q.length wc, .int .i64 f.gt, .slice wb f.o.length wd]) f) := (IW.out.gr hgr (by omega))
  have CX_ : Hid (EndC w16 32 w5.heap.size e.nx e.ak (.slice xa e.q.length xc) e.gt (.slice xb e.o.length xd)) := (CX.out.gr hgr (by omega))
  have SG_ : Hid (SlI w16 mg w7.heap.size sg ps) := (SG.out.gr hgr (by omega))
  have CG_ : Hid (EndC w16 32 w7.heap.size f.nx f.ak (.slice ga f.q.length gc) f.gt (.slice gb f.o.length gd)) := (CG.out.gr hgr (by omega))
  clear F B SW CW IW CX SG CG
  have F := F_
  have B := B_
  have SW := SW_
  have CW := CW_
  have IW := IW_
  have CX := CX_
  have SG := SG_
  have CG := CG_
  clear F_ B_ SW_ CW_ IW_ CX_ SG_ CG_
  clear hgr
  have IG : Hid (EndI w16 w6.heap.size mg (.agg #[.int .i64 f.nx, .int .i64 f.ak, .slice ga f.q.length gc, .int .i64 f.gt, .slice gb f.o.length gd]) f1) := ix
  clear ix
  go_wp2_with fail
  refine (mark_P K w16 SG.out (by omega) (by omega)).mono ?_
  rintro r_ w17 ⟨hr, hgr, xs, hq1, hm1, ix⟩
  rw [← HJE.out] at hr
  subst hr
  have z17 : w16.heap.size ≤ w17.heap.size := hgr.size
  have HM3 : Hid (MarkedP xs K xs.length) := hm1
  have HQ3 : Hid (xs.length = ps.length) := hq1
  clear SG hm1 hq1
  have F_ : Hid (EndC w17 45 w.heap.size e.nx e.ak (.slice qa e.q.length qc) e.gt (.slice oa e.o.length oc)) := (F.out.gr hgr (by omega))
  have B_ : Hid (Below w.heap.size w w17) := (GrI.below' B.out hgr (by omega) (by omega))
  have SW_ : Hid (SlI w17 mw w3.heap.size sw ps) := (SW.out.gr hgr (by omega))
  have CW_ : Hid (EndC w17 32 w3.heap.size f.nx f.ak (.slice wa f.q.length wc) f.gt (.slice wb f.o.length wd)) := (CW.out.gr hgr (by omega))
  have IW_ : Hid (EndI w17 w2.heap.size mw (.agg #[.int .i64 f.nx, .int .i64 f.ak, .slice wa f.q.length wc, .int .i64 f.gt, .slice wb f.o.length wd]) f) := (IW.out.gr hgr (by omega))
  have CX_ : Hid (EndC w17 32 w5.heap.size e.nx e.ak (.slice xa e.q.length xc) e.gt (.slice xb e.o.length xd)) := (CX.out.gr hgr (by omega))
  have CG_ : Hid (EndC w17 32 w7.heap.size f.nx f.ak (.slice ga f.q.length gc) f.gt (.slice gb f.o.length gd)) := (CG.out.gr hgr (by omega))
  have IG_ : Hid (EndI w17 w6.heap.size mg (.agg #[.int .i64 f.nx, .int .i64 f.ak, .slice ga f.q.length gc, .int .i64 f.gt, .slice gb f.o.length gd]) f1) := (IG.out.gr hgr (by omega))
  clear F B SW CW IW CX CG IG
  have F := F_
  have B := B_
  have SW := SW_
  have CW := CW_
  have IW := IW_
  have CX := CX_
  have CG := CG_
  have IG := IG_
  clear F_ B_ SW_ CW_ IW_ CX_ CG_ IG_
  clear hgr
  have SG : Hid (SlI w17 mg w7.heap.size sg xs) := ix
  clear ix
  obtain ⟨CG0, CG1, CG2, CG3, CG4⟩ := CG.out.cells
  go_wp2_with fail
  refine (held_I w17 IG.out f.q.length f.o.length HQ1.out HQ2.out (by omega) HM1.out HM2.out).mono ?_
  rintro r_ w18 ⟨hr, hb⟩
  rw [← HKE.out] at hr
  subst hr
  have z18 : w17.heap.size ≤ w18.heap.size := hb.size
  clear CG0 CG1 CG2 CG3 CG4 
  have F_ : Hid (EndC w18 45 w.heap.size e.nx e.ak (.slice qa e.q.length qc) e.gt (.slice oa e.o.length oc)) := (F.out.below hb)
  have B_ : Hid (Below w.heap.size w w18) := (B.out.trans (hb.mono B.out.size))
  have SW_ : Hid (SlI w18 mw w3.heap.size sw ps) := (SW.out.below hb)
  have CW_ : Hid (EndC w18 32 w3.heap.size f.nx f.ak (.slice wa f.q.length wc) f.gt (.slice wb f.o.length wd)) := (CW.out.below hb)
  have IW_ : Hid (EndI w18 w2.heap.size mw (.agg #[.int .i64 f.nx, .int .i64 f.ak, .slice wa f.q.length wc, .int .i64 f.gt, .slice wb f.o.length wd]) f) := (IW.out.below hb)
  have CX_ : Hid (EndC w18 32 w5.heap.size e.nx e.ak (.slice xa e.q.length xc) e.gt (.slice xb e.o.length xd)) := (CX.out.below hb)
  have CG_ : Hid (EndC w18 32 w7.heap.size f.nx f.ak (.slice ga f.q.length gc) f.gt (.slice gb f.o.length gd)) := (CG.out.below hb)
  have IG_ : Hid (EndI w18 w6.heap.size mg (.agg #[.int .i64 f.nx, .int .i64 f.ak, .slice ga f.q.length gc, .int .i64 f.gt, .slice gb f.o.length gd]) f1) := (IG.out.below hb)
  have SG_ : Hid (SlI w18 mg w7.heap.size sg xs) := (SG.out.below hb)
  clear F B SW CW IW CX CG IG SG
  have F := F_
  have B := B_
  have SW := SW_
  have CW := CW_
  have IW := IW_
  have CX := CX_
  have CG := CG_
  have IG := IG_
  have SG := SG_
  clear F_ B_ SW_ CW_ IW_ CX_ CG_ IG_ SG_
  clear hb
  have hk : decide ((K : Int) < 0) = false := by simp
  go_wp2_with fail
  clear hk
  refine (held_P K w18 SG.out ps.length HQ3.out (by omega) (by omega) HM3.out).mono ?_
  rintro r_ w19 ⟨hr, hb⟩
  rw [← HJE.out] at hr
  subst hr
  have z19 : w18.heap.size ≤ w19.heap.size := hb.size
  have F_ : Hid (EndC w19 45 w.heap.size e.nx e.ak (.slice qa e.q.length qc) e.gt (.slice oa e.o.length oc)) := (F.out.below hb)
  have B_ : Hid (Below w.heap.size w w19) := (B.out.trans (hb.mono B.out.size))
  have SW_ : Hid (SlI w19 mw w3.heap.size sw ps) := (SW.out.below hb)
  have CW_ : Hid (EndC w19 32 w3.heap.size f.nx f.ak (.slice wa f.q.length wc) f.gt (.slice wb f.o.length wd)) := (CW.out.below hb)
  have IW_ : Hid (EndI w19 w2.heap.size mw (.agg #[.int .i64 f.nx, .int .i64 f.ak, .slice wa f.q.length wc, .int .i64 f.gt, .slice wb f.o.length wd]) f) := (IW.out.below hb)
  have CX_ : Hid (EndC w19 32 w5.heap.size e.nx e.ak (.slice xa e.q.length xc) e.gt (.slice xb e.o.length xd)) := (CX.out.below hb)
  have CG_ : Hid (EndC w19 32 w7.heap.size f.nx f.ak (.slice ga f.q.length gc) f.gt (.slice gb f.o.length gd)) := (CG.out.below hb)
  have IG_ : Hid (EndI w19 w6.heap.size mg (.agg #[.int .i64 f.nx, .int .i64 f.ak, .slice ga f.q.length gc, .int .i64 f.gt, .slice gb f.o.length gd]) f1) := (IG.out.below hb)
  have SG_ : Hid (SlI w19 mg w7.heap.size sg xs) := (SG.out.below hb)
  clear F B SW CW IW CX CG IG SG
  have F := F_
  have B := B_
  have SW := SW_
  have CW := CW_
  have IW := IW_
  have CX := CX_
  have CG := CG_
  have IG := IG_
  have SG := SG_
  clear F_ B_ SW_ CW_ IW_ CX_ CG_ IG_ SG_
  clear hb
  have hk : decide ((J : Int) < 0) = false := by simp
  obtain ⟨F0, F1, F2, F3, F4⟩ := F.out.cells
  go_wp2_with fail
  clear hk
  refine (toEnd_any e.nx e.ak e.gt qa oa qc oc e.q e.o w19 (show Hid (TextsAt _ _ _) from hg.out.tq.stays B.out) (show Hid (TextsAt _ _ _) from hg.out.to.stays B.out) (by omega) (by omega)).mono ?_
  rintro r_ w20 ⟨v_, rfl, m_, hb⟩
  have z20 : w19.heap.size ≤ w20.heap.size := hb.size
  clear F0 F1 F2 F3 F4 
  have F_ : Hid (EndC w20 45 w.heap.size e.nx e.ak (.slice qa e.q.length qc) e.gt (.slice oa e.o.length oc)) := (F.out.below hb)
  have B_ : Hid (Below w.heap.size w w20) := (B.out.trans (hb.mono B.out.size))
  have SW_ : Hid (SlI w20 mw w3.heap.size sw ps) := (SW.out.below hb)
  have CW_ : Hid (EndC w20 32 w3.heap.size f.nx f.ak (.slice wa f.q.length wc) f.gt (.slice wb f.o.length wd)) := (CW.out.below hb)
  have IW_ : Hid (EndI w20 w2.heap.size mw (.agg #[.int .i64 f.nx, .int .i64 f.ak, .slice wa f.q.length wc, .int .i64 f.gt, .slice wb f.o.length wd]) f) := (IW.out.below hb)
  have CX_ : Hid (EndC w20 32 w5.heap.size e.nx e.ak (.slice xa e.q.length xc) e.gt (.slice xb e.o.length xd)) := (CX.out.below hb)
  have CG_ : Hid (EndC w20 32 w7.heap.size f.nx f.ak (.slice ga f.q.length gc) f.gt (.slice gb f.o.length gd)) := (CG.out.below hb)
  have IG_ : Hid (EndI w20 w6.heap.size mg (.agg #[.int .i64 f.nx, .int .i64 f.ak, .slice ga f.q.length gc, .int .i64 f.gt, .slice gb f.o.length gd]) f1) := (IG.out.below hb)
  have SG_ : Hid (SlI w20 mg w7.heap.size sg xs) := (SG.out.below hb)
  clear F B SW CW IW CX CG IG SG
  have F := F_
  have B := B_
  have SW := SW_
  have CW := CW_
  have IW := IW_
  have CX := CX_
  have CG := CG_
  have IG := IG_
  have SG := SG_
  clear F_ B_ SW_ CW_ IW_ CX_ CG_ IG_ SG_
  clear hb
  go_wp2_with fail
  refine (sendNew_any (e := e) w20 (show EndR _ _ e from EndM.r m_) (by omega) (by omega) HSQ HSO).mono ?_
  rintro r_ w21 ⟨⟨v_, su, mu, rfl, hmu, ix_, iy_⟩, hb⟩
  have z21 : w20.heap.size ≤ w21.heap.size := hb.size
  have ix : EndI w21 w20.heap.size mu v_ f := by rw [HFE.out]; exact ix_
  have iy : SlI w21 mu w21.heap.size su ps := by rw [HPE.out]; exact iy_
  clear ix_ iy_
  have F_ : Hid (EndC w21 45 w.heap.size e.nx e.ak (.slice qa e.q.length qc) e.gt (.slice oa e.o.length oc)) := (F.out.below hb)
  have B_ : Hid (Below w.heap.size w w21) := (B.out.trans (hb.mono B.out.size))
  have SW_ : Hid (SlI w21 mw w3.heap.size sw ps) := (SW.out.below hb)
  have CW_ : Hid (EndC w21 32 w3.heap.size f.nx f.ak (.slice wa f.q.length wc) f.gt (.slice wb f.o.length wd)) := (CW.out.below hb)
  have IW_ : Hid (EndI w21 w2.heap.size mw (.agg #[.int .i64 f.nx, .int .i64 f.ak, .slice wa f.q.length wc, .int .i64 f.gt, .slice wb f.o.length wd]) f) := (IW.out.below hb)
  have CX_ : Hid (EndC w21 32 w5.heap.size e.nx e.ak (.slice xa e.q.length xc) e.gt (.slice xb e.o.length xd)) := (CX.out.below hb)
  have CG_ : Hid (EndC w21 32 w7.heap.size f.nx f.ak (.slice ga f.q.length gc) f.gt (.slice gb f.o.length gd)) := (CG.out.below hb)
  have IG_ : Hid (EndI w21 w6.heap.size mg (.agg #[.int .i64 f.nx, .int .i64 f.ak, .slice ga f.q.length gc, .int .i64 f.gt, .slice gb f.o.length gd]) f1) := (IG.out.below hb)
  have SG_ : Hid (SlI w21 mg w7.heap.size sg xs) := (SG.out.below hb)
  clear F B SW CW IW CX CG IG SG
  have F := F_
  have B := B_
  have SW := SW_
  have CW := CW_
  have IW := IW_
  have CX := CX_
  have CG := CG_
  have IG := IG_
  have SG := SG_
  clear F_ B_ SW_ CW_ IW_ CX_ CG_ IG_ SG_
  have SH : Hid (SlI w21 mu w21.heap.size su ps) := iy
  obtain ⟨ua, uc, ub, ud, rfl⟩ := endM_form ix.own
  have lmu : mu ≤ w21.heap.size := ix.le
  clear iy hb
  have bx : Below w21.heap.size w21 (w21.alloc (Obj.cells #[Value.int IntKind.i64 f.nx, Value.int IntKind.i64 f.ak, Value.slice ua f.q.length uc, Value.int IntKind.i64 f.gt, Value.slice ub f.o.length ud] 32)) := (Below.refl _ _).alloc (Nat.le_refl _) _
  have cx := EndC.new w21 32 f.nx f.ak f.gt (.slice ua f.q.length uc) (.slice ub f.o.length ud)
  have z22 : (w21.alloc (Obj.cells #[Value.int IntKind.i64 f.nx, Value.int IntKind.i64 f.ak, Value.slice ua f.q.length uc, Value.int IntKind.i64 f.gt, Value.slice ub f.o.length ud] 32)).heap.size = w21.heap.size + 1 := by simp
  have F_ : Hid (EndC (w21.alloc (Obj.cells #[Value.int IntKind.i64 f.nx, Value.int IntKind.i64 f.ak, Value.slice ua f.q.length uc, Value.int IntKind.i64 f.gt, Value.slice ub f.o.length ud] 32)) 45 w.heap.size e.nx e.ak (.slice qa e.q.length qc) e.gt (.slice oa e.o.length oc)) := (F.out.below bx)
  have B_ : Hid (Below w.heap.size w (w21.alloc (Obj.cells #[Value.int IntKind.i64 f.nx, Value.int IntKind.i64 f.ak, Value.slice ua f.q.length uc, Value.int IntKind.i64 f.gt, Value.slice ub f.o.length ud] 32))) := (B.out.trans (bx.mono B.out.size))
  have SW_ : Hid (SlI (w21.alloc (Obj.cells #[Value.int IntKind.i64 f.nx, Value.int IntKind.i64 f.ak, Value.slice ua f.q.length uc, Value.int IntKind.i64 f.gt, Value.slice ub f.o.length ud] 32)) mw w3.heap.size sw ps) := (SW.out.below bx)
  have CW_ : Hid (EndC (w21.alloc (Obj.cells #[Value.int IntKind.i64 f.nx, Value.int IntKind.i64 f.ak, Value.slice ua f.q.length uc, Value.int IntKind.i64 f.gt, Value.slice ub f.o.length ud] 32)) 32 w3.heap.size f.nx f.ak (.slice wa f.q.length wc) f.gt (.slice wb f.o.length wd)) := (CW.out.below bx)
  have IW_ : Hid (EndI (w21.alloc (Obj.cells #[Value.int IntKind.i64 f.nx, Value.int IntKind.i64 f.ak, Value.slice ua f.q.length uc, Value.int IntKind.i64 f.gt, Value.slice ub f.o.length ud] 32)) w2.heap.size mw (.agg #[.int .i64 f.nx, .int .i64 f.ak, .slice wa f.q.length wc, .int .i64 f.gt, .slice wb f.o.length wd]) f) := (IW.out.below bx)
  have CX_ : Hid (EndC (w21.alloc (Obj.cells #[Value.int IntKind.i64 f.nx, Value.int IntKind.i64 f.ak, Value.slice ua f.q.length uc, Value.int IntKind.i64 f.gt, Value.slice ub f.o.length ud] 32)) 32 w5.heap.size e.nx e.ak (.slice xa e.q.length xc) e.gt (.slice xb e.o.length xd)) := (CX.out.below bx)
  have CG_ : Hid (EndC (w21.alloc (Obj.cells #[Value.int IntKind.i64 f.nx, Value.int IntKind.i64 f.ak, Value.slice ua f.q.length uc, Value.int IntKind.i64 f.gt, Value.slice ub f.o.length ud] 32)) 32 w7.heap.size f.nx f.ak (.slice ga f.q.length gc) f.gt (.slice gb f.o.length gd)) := (CG.out.below bx)
  have IG_ : Hid (EndI (w21.alloc (Obj.cells #[Value.int IntKind.i64 f.nx, Value.int IntKind.i64 f.ak, Value.slice ua f.q.length uc, Value.int IntKind.i64 f.gt, Value.slice ub f.o.length ud] 32)) w6.heap.size mg (.agg #[.int .i64 f.nx, .int .i64 f.ak, .slice ga f.q.length gc, .int .i64 f.gt, .slice gb f.o.length gd]) f1) := (IG.out.below bx)
  have SG_ : Hid (SlI (w21.alloc (Obj.cells #[Value.int IntKind.i64 f.nx, Value.int IntKind.i64 f.ak, Value.slice ua f.q.length uc, Value.int IntKind.i64 f.gt, Value.slice ub f.o.length ud] 32)) mg w7.heap.size sg xs) := (SG.out.below bx)
  have SH_ : Hid (SlI (w21.alloc (Obj.cells #[Value.int IntKind.i64 f.nx, Value.int IntKind.i64 f.ak, Value.slice ua f.q.length uc, Value.int IntKind.i64 f.gt, Value.slice ub f.o.length ud] 32)) mu w21.heap.size su ps) := (SH.out.below bx)
  clear F B SW CW IW CX CG IG SG SH
  have F := F_
  have B := B_
  have SW := SW_
  have CW := CW_
  have IW := IW_
  have CX := CX_
  have CG := CG_
  have IG := IG_
  have SG := SG_
  have SH := SH_
  clear F_ B_ SW_ CW_ IW_ CX_ CG_ IG_ SG_ SH_
  have CH : Hid (EndC (w21.alloc (Obj.cells #[Value.int IntKind.i64 f.nx, Value.int IntKind.i64 f.ak, Value.slice ua f.q.length uc, Value.int IntKind.i64 f.gt, Value.slice ub f.o.length ud] 32)) 32 w21.heap.size f.nx f.ak (.slice ua f.q.length uc) f.gt (.slice ub f.o.length ud)) := cx
  have IH : Hid (EndI (w21.alloc (Obj.cells #[Value.int IntKind.i64 f.nx, Value.int IntKind.i64 f.ak, Value.slice ua f.q.length uc, Value.int IntKind.i64 f.gt, Value.slice ub f.o.length ud] 32)) w20.heap.size mu (.agg #[.int .i64 f.nx, .int .i64 f.ak, .slice ua f.q.length uc, .int .i64 f.gt, .slice ub f.o.length ud]) f) := EndI.below ix bx
  clear cx ix bx
  obtain ⟨CW0, CW1, CW2, CW3, CW4⟩ := CW.out.cells
  go_wp2_with fail
  generalize (w21.alloc (Obj.cells #[Value.int IntKind.i64 f.nx, Value.int IntKind.i64 f.ak, Value.slice ua f.q.length uc, Value.int IntKind.i64 f.gt, Value.slice ub f.o.length ud] 32)) = w22 at *
  clear CW0 CW1 CW2 CW3 CW4 
  refine (eqEnd_same (e := f) w22 IH.out.r IW.out.r (by omega) (by omega)).mono ?_
  rintro r_ w23 ⟨rfl, hb⟩
  have z23 : w22.heap.size ≤ w23.heap.size := hb.size
  have F_ : Hid (EndC w23 45 w.heap.size e.nx e.ak (.slice qa e.q.length qc) e.gt (.slice oa e.o.length oc)) := (F.out.below hb)
  have B_ : Hid (Below w.heap.size w w23) := (B.out.trans (hb.mono B.out.size))
  have SW_ : Hid (SlI w23 mw w3.heap.size sw ps) := (SW.out.below hb)
  have CW_ : Hid (EndC w23 32 w3.heap.size f.nx f.ak (.slice wa f.q.length wc) f.gt (.slice wb f.o.length wd)) := (CW.out.below hb)
  have IW_ : Hid (EndI w23 w2.heap.size mw (.agg #[.int .i64 f.nx, .int .i64 f.ak, .slice wa f.q.length wc, .int .i64 f.gt, .slice wb f.o.length wd]) f) := (IW.out.below hb)
  have CX_ : Hid (EndC w23 32 w5.heap.size e.nx e.ak (.slice xa e.q.length xc) e.gt (.slice xb e.o.length xd)) := (CX.out.below hb)
  have CG_ : Hid (EndC w23 32 w7.heap.size f.nx f.ak (.slice ga f.q.length gc) f.gt (.slice gb f.o.length gd)) := (CG.out.below hb)
  have IG_ : Hid (EndI w23 w6.heap.size mg (.agg #[.int .i64 f.nx, .int .i64 f.ak, .slice ga f.q.length gc, .int .i64 f.gt, .slice gb f.o.length gd]) f1) := (IG.out.below hb)
  have SG_ : Hid (SlI w23 mg w7.heap.size sg xs) := (SG.out.below hb)
  have SH_ : Hid (SlI w23 mu w21.heap.size su ps) := (SH.out.below hb)
  have CH_ : Hid (EndC w23 32 w21.heap.size f.nx f.ak (.slice ua f.q.length uc) f.gt (.slice ub f.o.length ud)) := (CH.out.below hb)
  have IH_ : Hid (EndI w23 w20.heap.size mu (.agg #[.int .i64 f.nx, .int .i64 f.ak, .slice ua f.q.length uc, .int .i64 f.gt, .slice ub f.o.length ud]) f) := (IH.out.below hb)
  clear F B SW CW IW CX CG IG SG SH CH IH
  have F := F_
  have B := B_
  have SW := SW_
  have CW := CW_
  have IW := IW_
  have CX := CX_
  have CG := CG_
  have IG := IG_
  have SG := SG_
  have SH := SH_
  have CH := CH_
  have IH := IH_
  clear F_ B_ SW_ CW_ IW_ CX_ CG_ IG_ SG_ SH_ CH_ IH_
  clear hb
  go_wp2_with fail
  refine (eq_P w23 SH.out SW.out (by omega)).mono ?_
  rintro r_ w24 ⟨rfl, hb⟩
  have z24 : w23.heap.size ≤ w24.heap.size := hb.size
  have F_ : Hid (EndC w24 45 w.heap.size e.nx e.ak (.slice qa e.q.length qc) e.gt (.slice oa e.o.length oc)) := (F.out.below hb)
  have B_ : Hid (Below w.heap.size w w24) := (B.out.trans (hb.mono B.out.size))
  have SW_ : Hid (SlI w24 mw w3.heap.size sw ps) := (SW.out.below hb)
  have CW_ : Hid (EndC w24 32 w3.heap.size f.nx f.ak (.slice wa f.q.length wc) f.gt (.slice wb f.o.length wd)) := (CW.out.below hb)
  have IW_ : Hid (EndI w24 w2.heap.size mw (.agg #[.int .i64 f.nx, .int .i64 f.ak, .slice wa f.q.length wc, .int .i64 f.gt, .slice wb f.o.length wd]) f) := (IW.out.below hb)
  have CX_ : Hid (EndC w24 32 w5.heap.size e.nx e.ak (.slice xa e.q.length xc) e.gt (.slice xb e.o.length xd)) := (CX.out.below hb)
  have CG_ : Hid (EndC w24 32 w7.heap.size f.nx f.ak (.slice ga f.q.length gc) f.gt (.slice gb f.o.length gd)) := (CG.out.below hb)
  have IG_ : Hid (EndI w24 w6.heap.size mg (.agg #[.int .i64 f.nx, .int .i64 f.ak, .slice ga f.q.length gc, .int .i64 f.gt, .slice gb f.o.length gd]) f1) := (IG.out.below hb)
  have SG_ : Hid (SlI w24 mg w7.heap.size sg xs) := (SG.out.below hb)
  have SH_ : Hid (SlI w24 mu w21.heap.size su ps) := (SH.out.below hb)
  have CH_ : Hid (EndC w24 32 w21.heap.size f.nx f.ak (.slice ua f.q.length uc) f.gt (.slice ub f.o.length ud)) := (CH.out.below hb)
  have IH_ : Hid (EndI w24 w20.heap.size mu (.agg #[.int .i64 f.nx, .int .i64 f.ak, .slice ua f.q.length uc, .int .i64 f.gt, .slice ub f.o.length ud]) f) := (IH.out.below hb)
  clear F B SW CW IW CX CG IG SG SH CH IH
  have F := F_
  have B := B_
  have SW := SW_
  have CW := CW_
  have IW := IW_
  have CX := CX_
  have CG := CG_
  have IG := IG_
  have SG := SG_
  have SH := SH_
  have CH := CH_
  have IH := IH_
  clear F_ B_ SW_ CW_ IW_ CX_ CG_ IG_ SG_ SH_ CH_ IH_
  clear hb
  obtain ⟨CG0, CG1, CG2, CG3, CG4⟩ := CG.out.cells
  go_wp2_with fail
  refine (held_I w24 IG.out f.q.length f.o.length HQ1.out HQ2.out (by omega) HM1.out HM2.out).mono ?_
  rintro r_ w25 ⟨hr, hb⟩
  rw [← HKE.out] at hr
  subst hr
  have z25 : w24.heap.size ≤ w25.heap.size := hb.size
  clear CG0 CG1 CG2 CG3 CG4 
  have F_ : Hid (EndC w25 45 w.heap.size e.nx e.ak (.slice qa e.q.length qc) e.gt (.slice oa e.o.length oc)) := (F.out.below hb)
  have B_ : Hid (Below w.heap.size w w25) := (B.out.trans (hb.mono B.out.size))
  have SW_ : Hid (SlI w25 mw w3.heap.size sw ps) := (SW.out.below hb)
  have CW_ : Hid (EndC w25 32 w3.heap.size f.nx f.ak (.slice wa f.q.length wc) f.gt (.slice wb f.o.length wd)) := (CW.out.below hb)
  have IW_ : Hid (EndI w25 w2.heap.size mw (.agg #[.int .i64 f.nx, .int .i64 f.ak, .slice wa f.q.length wc, .int .i64 f.gt, .slice wb f.o.length wd]) f) := (IW.out.below hb)
  have CX_ : Hid (EndC w25 32 w5.heap.size e.nx e.ak (.slice xa e.q.length xc) e.gt (.slice xb e.o.length xd)) := (CX.out.below hb)
  have CG_ : Hid (EndC w25 32 w7.heap.size f.nx f.ak (.slice ga f.q.length gc) f.gt (.slice gb f.o.length gd)) := (CG.out.below hb)
  have IG_ : Hid (EndI w25 w6.heap.size mg (.agg #[.int .i64 f.nx, .int .i64 f.ak, .slice ga f.q.length gc, .int .i64 f.gt, .slice gb f.o.length gd]) f1) := (IG.out.below hb)
  have SG_ : Hid (SlI w25 mg w7.heap.size sg xs) := (SG.out.below hb)
  have SH_ : Hid (SlI w25 mu w21.heap.size su ps) := (SH.out.below hb)
  have CH_ : Hid (EndC w25 32 w21.heap.size f.nx f.ak (.slice ua f.q.length uc) f.gt (.slice ub f.o.length ud)) := (CH.out.below hb)
  have IH_ : Hid (EndI w25 w20.heap.size mu (.agg #[.int .i64 f.nx, .int .i64 f.ak, .slice ua f.q.length uc, .int .i64 f.gt, .slice ub f.o.length ud]) f) := (IH.out.below hb)
  clear F B SW CW IW CX CG IG SG SH CH IH
  have F := F_
  have B := B_
  have SW := SW_
  have CW := CW_
  have IW := IW_
  have CX := CX_
  have CG := CG_
  have IG := IG_
  have SG := SG_
  have SH := SH_
  have CH := CH_
  have IH := IH_
  clear F_ B_ SW_ CW_ IW_ CX_ CG_ IG_ SG_ SH_ CH_ IH_
  clear hb
  have hk : decide ((K : Int) < 0) = false := by simp
  go_wp2_with fail
  clear hk
  refine (held_P K w25 SG.out ps.length HQ3.out (by omega) (by omega) HM3.out).mono ?_
  rintro r_ w26 ⟨hr, hb⟩
  rw [← HJE.out] at hr
  subst hr
  have z26 : w25.heap.size ≤ w26.heap.size := hb.size
  have F_ : Hid (EndC w26 45 w.heap.size e.nx e.ak (.slice qa e.q.length qc) e.gt (.slice oa e.o.length oc)) := (F.out.below hb)
  have B_ : Hid (Below w.heap.size w w26) := (B.out.trans (hb.mono B.out.size))
  have SW_ : Hid (SlI w26 mw w3.heap.size sw ps) := (SW.out.below hb)
  have CW_ : Hid (EndC w26 32 w3.heap.size f.nx f.ak (.slice wa f.q.length wc) f.gt (.slice wb f.o.length wd)) := (CW.out.below hb)
  have IW_ : Hid (EndI w26 w2.heap.size mw (.agg #[.int .i64 f.nx, .int .i64 f.ak, .slice wa f.q.length wc, .int .i64 f.gt, .slice wb f.o.length wd]) f) := (IW.out.below hb)
  have CX_ : Hid (EndC w26 32 w5.heap.size e.nx e.ak (.slice xa e.q.length xc) e.gt (.slice xb e.o.length xd)) := (CX.out.below hb)
  have CG_ : Hid (EndC w26 32 w7.heap.size f.nx f.ak (.slice ga f.q.length gc) f.gt (.slice gb f.o.length gd)) := (CG.out.below hb)
  have IG_ : Hid (EndI w26 w6.heap.size mg (.agg #[.int .i64 f.nx, .int .i64 f.ak, .slice ga f.q.length gc, .int .i64 f.gt, .slice gb f.o.length gd]) f1) := (IG.out.below hb)
  have SG_ : Hid (SlI w26 mg w7.heap.size sg xs) := (SG.out.below hb)
  have SH_ : Hid (SlI w26 mu w21.heap.size su ps) := (SH.out.below hb)
  have CH_ : Hid (EndC w26 32 w21.heap.size f.nx f.ak (.slice ua f.q.length uc) f.gt (.slice ub f.o.length ud)) := (CH.out.below hb)
  have IH_ : Hid (EndI w26 w20.heap.size mu (.agg #[.int .i64 f.nx, .int .i64 f.ak, .slice ua f.q.length uc, .int .i64 f.gt, .slice ub f.o.length ud]) f) := (IH.out.below hb)
  clear F B SW CW IW CX CG IG SG SH CH IH
  have F := F_
  have B := B_
  have SW := SW_
  have CW := CW_
  have IW := IW_
  have CX := CX_
  have CG := CG_
  have IG := IG_
  have SG := SG_
  have SH := SH_
  have CH := CH_
  have IH := IH_
  clear F_ B_ SW_ CW_ IW_ CX_ CG_ IG_ SG_ SH_ CH_ IH_
  clear hb
  have hk : decide ((J : Int) < 0) = false := by simp
  go_wp2_with fail
  go_ret
  exact ⟨rfl, B.out⟩
end Go.Proofs.Ytohagaelenhebaa
