/- The walk over the law on Offer. -/
import Derived.Test.YtohagaelenhebaaBx
import Derived.Test.YtohagaelenhebaaS2
import Derived.Test.YtohagaelenhebaaP3
namespace Go.Proofs.Ytohagaelenhebaa
open Go.RowKit Pl
set_option linter.unusedVariables false

set_option maxRecDepth 100000 in
set_option maxHeartbeats 8000000 in
theorem lawOffer (e : En) (qa oa : Option Addr) (qc oc : Nat) (s : ByteArray) (w : World) (hg : Hid (Given w qa oa e.q e.o)) (hs0 : s.size ≤ maxLen) :
    Calls Try.prog 7 #[.agg #[.int .i64 e.nx, .int .i64 e.ak, .slice qa e.q.length qc, .int .i64 e.gt, .slice oa e.o.length oc], .string s] w fun r w' => r = .returned (.bool true) ∧ Below w.heap.size w w' := by
  unfold maxLen at hs0
  by_cases hsl : 1048576 < s.size
  · have hd : decide (1048576 < (s.size : Int)) = true := by simp; omega
    go_enter Try.func7, Try.ntmps7
    go_wp2_with fail
    go_ret
    exact ⟨rfl, (Below.refl _ _).alloc (Nat.le_refl _) _⟩
  have hd0 : decide (1048576 < (s.size : Int)) = false := by simp; omega
  go_enter Try.func7, Try.ntmps7
  go_wp2_with fail
  have B_ : Below w.heap.size w (w.alloc (Obj.cells #[Value.int IntKind.i64 e.nx, Value.int IntKind.i64 e.ak, Value.slice qa e.q.length qc, Value.int IntKind.i64 e.gt, Value.slice oa e.o.length oc] 45)) := (Below.refl _ _).alloc (Nat.le_refl _) _
  have F_ := EndC.new w 45 e.nx e.ak e.gt (.slice qa e.q.length qc) (.slice oa e.o.length oc)
  have z0 : (w.alloc (Obj.cells #[Value.int IntKind.i64 e.nx, Value.int IntKind.i64 e.ak, Value.slice qa e.q.length qc, Value.int IntKind.i64 e.gt, Value.slice oa e.o.length oc] 45)).heap.size = w.heap.size + 1 := by simp
  generalize (w.alloc (Obj.cells #[Value.int IntKind.i64 e.nx, Value.int IntKind.i64 e.ak, Value.slice qa e.q.length qc, Value.int IntKind.i64 e.gt, Value.slice oa e.o.length oc] 45)) = w0 at *
  have F : Hid (EndC w0 45 w.heap.size e.nx e.ak (.slice qa e.q.length qc) e.gt (.slice oa e.o.length oc)) := F_
  have B : Hid (Below w.heap.size w w0) := B_
  clear F_ B_
  clear hd0
  refine (szEnd_any e.nx e.ak e.gt qa oa qc oc e.q e.o w0 (show Hid (TextsAt _ _ _) from hg.out.tq.stays B.out) (show Hid (TextsAt _ _ _) from hg.out.to.stays B.out) hg.out.lq hg.out.lo hg.out.sq hg.out.so).mono ?_
  rintro r_ w1 ⟨hr | ⟨r, hr, hf⟩, hb⟩
  · subst hr
    have BB : Hid (Below w.heap.size w w1) := B.out.trans (hb.mono B.out.size)
    clear hb
    go_wp2_with fail
    go_ret
    exact ⟨rfl, BB.out⟩
  subst hr
  obtain ⟨hl, hsq, hso⟩ := hf.out
  have hd : decide ((r : Int) < 0) = false := by simp
  have z1 : w0.heap.size ≤ w1.heap.size := hb.size
  have F_ : Hid (EndC w1 45 w.heap.size e.nx e.ak (.slice qa e.q.length qc) e.gt (.slice oa e.o.length oc)) := (F.out.below hb)
  have B_ : Hid (Below w.heap.size w w1) := (B.out.trans (hb.mono B.out.size))
  clear F B
  have F := F_
  have B := B_
  clear F_ B_
  clear hb
  have HSQ : Hid (∀ t ∈ e.q, t.size ≤ 1048576) := hsq
  have HSO : Hid (∀ t ∈ e.o, t.size ≤ 1048576) := hso
  clear hf hsq hso
  obtain ⟨F0, F1, F2, F3, F4⟩ := F.out.cells
  go_wp2_with fail
  clear hd
  refine (toEnd_any e.nx e.ak e.gt qa oa qc oc e.q e.o w1 (show Hid (TextsAt _ _ _) from hg.out.tq.stays B.out) (show Hid (TextsAt _ _ _) from hg.out.to.stays B.out) (by omega) (by omega)).mono ?_
  rintro r_ w2 ⟨v_, rfl, m_, hb⟩
  have z2 : w1.heap.size ≤ w2.heap.size := hb.size
  clear F0 F1 F2 F3 F4 
  have F_ : Hid (EndC w2 45 w.heap.size e.nx e.ak (.slice qa e.q.length qc) e.gt (.slice oa e.o.length oc)) := (F.out.below hb)
  have B_ : Hid (Below w.heap.size w w2) := (B.out.trans (hb.mono B.out.size))
  clear F B
  have F := F_
  have B := B_
  clear F_ B_
  clear hb
  go_wp2_with fail
  refine (spOffer_any (e := e) s w2 (show EndR _ _ e from EndM.r m_) (by omega) (by omega) (by omega)).mono ?_
  rintro r_ w3 ⟨v_, rfl, m_, hb⟩
  have z3 : w2.heap.size ≤ w3.heap.size := hb.size
  have HF : Hid (∃ f : En, f = if offB e s then offE e s else noE) := ⟨_, rfl⟩
  obtain ⟨f, hfe⟩ := HF.out
  have fl : f.q.length ≤ 1048577 ∧ f.o.length ≤ 1048576 ∧ f.q.length + f.o.length ≤ 1048577 := by rw [hfe]; split <;> simp [offE, noE] <;> omega
  obtain ⟨b, hbe⟩ : ∃ b, b = offB e s := ⟨_, rfl⟩
  have HFE : Hid (f = if offB e s then offE e s else noE) := hfe
  have HBE : Hid (b = offB e s) := hbe
  obtain ⟨fl1, fl2, fl3⟩ := fl
  obtain ⟨m_, hb⟩ : EndM w3 w2.heap.size v_ f ∧ Below w2.heap.size w2 w3 := ⟨by rw [HFE.out]; exact m_, hb⟩
  rw [← HBE.out]
  clear hfe hbe HF
  have F_ : Hid (EndC w3 45 w.heap.size e.nx e.ak (.slice qa e.q.length qc) e.gt (.slice oa e.o.length oc)) := (F.out.below hb)
  have B_ : Hid (Below w.heap.size w w3) := (B.out.trans (hb.mono B.out.size))
  clear F B
  have F := F_
  have B := B_
  clear F_ B_
  obtain ⟨wa, wc, wb, wd, rfl⟩ := endM_form m_
  have ix := EndI.new m_
  clear m_ hb
  have bx : Below w3.heap.size w3 (w3.alloc (Obj.cells #[Value.int IntKind.i64 f.nx, Value.int IntKind.i64 f.ak, Value.slice wa f.q.length wc, Value.int IntKind.i64 f.gt, Value.slice wb f.o.length wd] 32)) := (Below.refl _ _).alloc (Nat.le_refl _) _
  have cx := EndC.new w3 32 f.nx f.ak f.gt (.slice wa f.q.length wc) (.slice wb f.o.length wd)
  have z4 : (w3.alloc (Obj.cells #[Value.int IntKind.i64 f.nx, Value.int IntKind.i64 f.ak, Value.slice wa f.q.length wc, Value.int IntKind.i64 f.gt, Value.slice wb f.o.length wd] 32)).heap.size = w3.heap.size + 1 := by simp
  have F_ : Hid (EndC (w3.alloc (Obj.cells #[Value.int IntKind.i64 f.nx, Value.int IntKind.i64 f.ak, Value.slice wa f.q.length wc, Value.int IntKind.i64 f.gt, Value.slice wb f.o.length wd] 32)) 45 w.heap.size e.nx e.ak (.slice qa e.q.length qc) e.gt (.slice oa e.o.length oc)) := (F.out.below bx)
  have B_ : Hid (Below w.heap.size w (w3.alloc (Obj.cells #[Value.int IntKind.i64 f.nx, Value.int IntKind.i64 f.ak, Value.slice wa f.q.length wc, Value.int IntKind.i64 f.gt, Value.slice wb f.o.length wd] 32))) := (B.out.trans (bx.mono B.out.size))
  clear F B
  have F := F_
  have B := B_
  clear F_ B_
  have CW : Hid (EndC (w3.alloc (Obj.cells #[Value.int IntKind.i64 f.nx, Value.int IntKind.i64 f.ak, Value.slice wa f.q.length wc, Value.int IntKind.i64 f.gt, Value.slice wb f.o.length wd] 32)) 32 w3.heap.size f.nx f.ak (.slice wa f.q.length wc) f.gt (.slice wb f.o.length wd)) := cx
  have IW : Hid (EndI (w3.alloc (Obj.cells #[Value.int IntKind.i64 f.nx, Value.int IntKind.i64 f.ak, Value.slice wa f.q.length wc, Value.int IntKind.i64 f.gt, Value.slice wb f.o.length wd] 32)) w2.heap.size w3.heap.size (.agg #[.int .i64 f.nx, .int .i64 f.ak, .slice wa f.q.length wc, .int .i64 f.gt, .slice wb f.o.length wd]) f) := EndI.below ix bx
  clear cx ix bx
  obtain ⟨F0, F1, F2, F3, F4⟩ := F.out.cells
  go_wp2_with fail
  generalize (w3.alloc (Obj.cells #[Value.int IntKind.i64 f.nx, Value.int IntKind.i64 f.ak, Value.slice wa f.q.length wc, Value.int IntKind.i64 f.gt, Value.slice wb f.o.length wd] 32)) = w4 at *
  clear F0 F1 F2 F3 F4 
  refine (toEnd_any e.nx e.ak e.gt qa oa qc oc e.q e.o w4 (show Hid (TextsAt _ _ _) from hg.out.tq.stays B.out) (show Hid (TextsAt _ _ _) from hg.out.to.stays B.out) (by omega) (by omega)).mono ?_
  rintro r_ w5 ⟨v_, rfl, m_, hb⟩
  have z5 : w4.heap.size ≤ w5.heap.size := hb.size
  have F_ : Hid (EndC w5 45 w.heap.size e.nx e.ak (.slice qa e.q.length qc) e.gt (.slice oa e.o.length oc)) := (F.out.below hb)
  have B_ : Hid (Below w.heap.size w w5) := (B.out.trans (hb.mono B.out.size))
  have CW_ : Hid (EndC w5 32 w3.heap.size f.nx f.ak (.slice wa f.q.length wc) f.gt (.slice wb f.o.length wd)) := (CW.out.below hb)
  have IW_ : Hid (EndI w5 w2.heap.size w3.heap.size (.agg #[.int .i64 f.nx, .int .i64 f.ak, .slice wa f.q.length wc, .int .i64 f.gt, .slice wb f.o.length wd]) f) := (IW.out.below hb)
  clear F B CW IW
  have F := F_
  have B := B_
  have CW := CW_
  have IW := IW_
  clear F_ B_ CW_ IW_
  obtain ⟨xa, xc, xb, xd, rfl⟩ := endM_form m_
  have ix : EndI w5 w4.heap.size w5.heap.size (.agg #[.int .i64 e.nx, .int .i64 e.ak, .slice xa e.q.length xc, .int .i64 e.gt, .slice xb e.o.length xd]) e := EndI.new m_
  clear m_ hb
  dsimp only at ix ⊢
  have bx : Below w5.heap.size w5 (w5.alloc (Obj.cells #[Value.int IntKind.i64 e.nx, Value.int IntKind.i64 e.ak, Value.slice xa e.q.length xc, Value.int IntKind.i64 e.gt, Value.slice xb e.o.length xd] 32)) := (Below.refl _ _).alloc (Nat.le_refl _) _
  have cx := EndC.new w5 32 e.nx e.ak e.gt (.slice xa e.q.length xc) (.slice xb e.o.length xd)
  have z6 : (w5.alloc (Obj.cells #[Value.int IntKind.i64 e.nx, Value.int IntKind.i64 e.ak, Value.slice xa e.q.length xc, Value.int IntKind.i64 e.gt, Value.slice xb e.o.length xd] 32)).heap.size = w5.heap.size + 1 := by simp
  have F_ : Hid (EndC (w5.alloc (Obj.cells #[Value.int IntKind.i64 e.nx, Value.int IntKind.i64 e.ak, Value.slice xa e.q.length xc, Value.int IntKind.i64 e.gt, Value.slice xb e.o.length xd] 32)) 45 w.heap.size e.nx e.ak (.slice qa e.q.length qc) e.gt (.slice oa e.o.length oc)) := (F.out.below bx)
  have B_ : Hid (Below w.heap.size w (w5.alloc (Obj.cells #[Value.int IntKind.i64 e.nx, Value.int IntKind.i64 e.ak, Value.slice xa e.q.length xc, Value.int IntKind.i64 e.gt, Value.slice xb e.o.length xd] 32))) := (B.out.trans (bx.mono B.out.size))
  have CW_ : Hid (EndC (w5.alloc (Obj.cells #[Value.int IntKind.i64 e.nx, Value.int IntKind.i64 e.ak, Value.slice xa e.q.length xc, Value.int IntKind.i64 e.gt, Value.slice xb e.o.length xd] 32)) 32 w3.heap.size f.nx f.ak (.slice wa f.q.length wc) f.gt (.slice wb f.o.length wd)) := (CW.out.below bx)
  have IW_ : Hid (EndI (w5.alloc (Obj.cells #[Value.int IntKind.i64 e.nx, Value.int IntKind.i64 e.ak, Value.slice xa e.q.length xc, Value.int IntKind.i64 e.gt, Value.slice xb e.o.length xd] 32)) w2.heap.size w3.heap.size (.agg #[.int .i64 f.nx, .int .i64 f.ak, .slice wa f.q.length wc, .int .i64 f.gt, .slice wb f.o.length wd]) f) := (IW.out.below bx)
  clear F B CW IW
  have F := F_
  have B := B_
  have CW := CW_
  have IW := IW_
  clear F_ B_ CW_ IW_
  have CX : Hid (EndC (w5.alloc (Obj.cells #[Value.int IntKind.i64 e.nx, Value.int IntKind.i64 e.ak, Value.slice xa e.q.length xc, Value.int IntKind.i64 e.gt, Value.slice xb e.o.length xd] 32)) 32 w5.heap.size e.nx e.ak (.slice xa e.q.length xc) e.gt (.slice xb e.o.length xd)) := cx
  have IX : Hid (EndI (w5.alloc (Obj.cells #[Value.int IntKind.i64 e.nx, Value.int IntKind.i64 e.ak, Value.slice xa e.q.length xc, Value.int IntKind.i64 e.gt, Value.slice xb e.o.length xd] 32)) w4.heap.size w5.heap.size (.agg #[.int .i64 e.nx, .int .i64 e.ak, .slice xa e.q.length xc, .int .i64 e.gt, .slice xb e.o.length xd]) e) := EndI.below ix bx
  clear cx ix bx
  go_wp2_with fail
  generalize (w5.alloc (Obj.cells #[Value.int IntKind.i64 e.nx, Value.int IntKind.i64 e.ak, Value.slice xa e.q.length xc, Value.int IntKind.i64 e.gt, Value.slice xb e.o.length xd] 32)) = w6 at *
  refine (offer_any (e := e) s w6 IX.out.r (by omega) (by omega) (by omega)).mono ?_
  rintro r_ w7 ⟨v_, rfl, m_, hb⟩
  have z7 : w6.heap.size ≤ w7.heap.size := hb.size
  obtain ⟨m_, hb⟩ : EndM w7 w6.heap.size v_ f ∧ Below w6.heap.size w6 w7 := ⟨by rw [HFE.out]; exact m_, hb⟩
  rw [← HBE.out]
  have F_ : Hid (EndC w7 45 w.heap.size e.nx e.ak (.slice qa e.q.length qc) e.gt (.slice oa e.o.length oc)) := (F.out.below hb)
  have B_ : Hid (Below w.heap.size w w7) := (B.out.trans (hb.mono B.out.size))
  have CW_ : Hid (EndC w7 32 w3.heap.size f.nx f.ak (.slice wa f.q.length wc) f.gt (.slice wb f.o.length wd)) := (CW.out.below hb)
  have IW_ : Hid (EndI w7 w2.heap.size w3.heap.size (.agg #[.int .i64 f.nx, .int .i64 f.ak, .slice wa f.q.length wc, .int .i64 f.gt, .slice wb f.o.length wd]) f) := (IW.out.below hb)
  have CX_ : Hid (EndC w7 32 w5.heap.size e.nx e.ak (.slice xa e.q.length xc) e.gt (.slice xb e.o.length xd)) := (CX.out.below hb)
  have IX_ : Hid (EndI w7 w4.heap.size w5.heap.size (.agg #[.int .i64 e.nx, .int .i64 e.ak, .slice xa e.q.length xc, .int .i64 e.gt, .slice xb e.o.length xd]) e) := (IX.out.below hb)
  clear F B CW IW CX IX
  have F := F_
  have B := B_
  have CW := CW_
  have IW := IW_
  have CX := CX_
  have IX := IX_
  clear F_ B_ CW_ IW_ CX_ IX_
  obtain ⟨ga, gc, gb, gd, rfl⟩ := endM_form m_
  have ix := EndI.new m_
  clear m_ hb
  have bx : Below w7.heap.size w7 (w7.alloc (Obj.cells #[Value.int IntKind.i64 f.nx, Value.int IntKind.i64 f.ak, Value.slice ga f.q.length gc, Value.int IntKind.i64 f.gt, Value.slice gb f.o.length gd] 32)) := (Below.refl _ _).alloc (Nat.le_refl _) _
  have cx := EndC.new w7 32 f.nx f.ak f.gt (.slice ga f.q.length gc) (.slice gb f.o.length gd)
  have z8 : (w7.alloc (Obj.cells #[Value.int IntKind.i64 f.nx, Value.int IntKind.i64 f.ak, Value.slice ga f.q.length gc, Value.int IntKind.i64 f.gt, Value.slice gb f.o.length gd] 32)).heap.size = w7.heap.size + 1 := by simp
  have F_ : Hid (EndC (w7.alloc (Obj.cells #[Value.int IntKind.i64 f.nx, Value.int IntKind.i64 f.ak, Value.slice ga f.q.length gc, Value.int IntKind.i64 f.gt, Value.slice gb f.o.length gd] 32)) 45 w.heap.size e.nx e.ak (.slice qa e.q.length qc) e.gt (.slice oa e.o.length oc)) := (F.out.below bx)
  have B_ : Hid (Below w.heap.size w (w7.alloc (Obj.cells #[Value.int IntKind.i64 f.nx, Value.int IntKind.i64 f.ak, Value.slice ga f.q.length gc, Value.int IntKind.i64 f.gt, Value.slice gb f.o.length gd] 32))) := (B.out.trans (bx.mono B.out.size))
  have CW_ : Hid (EndC (w7.alloc (Obj.cells #[Value.int IntKind.i64 f.nx, Value.int IntKind.i64 f.ak, Value.slice ga f.q.length gc, Value.int IntKind.i64 f.gt, Value.slice gb f.o.length gd] 32)) 32 w3.heap.size f.nx f.ak (.slice wa f.q.length wc) f.gt (.slice wb f.o.length wd)) := (CW.out.below bx)
  have IW_ : Hid (EndI (w7.alloc (Obj.cells #[Value.int IntKind.i64 f.nx, Value.int IntKind.i64 f.ak, Value.slice ga f.q.length gc, Value.int IntKind.i64 f.gt, Value.slice gb f.o.length gd] 32)) w2.heap.size w3.heap.size (.agg #[.int .i64 f.nx, .int .i64 f.ak, .slice wa f.q.length wc, .int .i64 f.gt, .slice wb f.o.length wd]) f) := (IW.out.below bx)
  have CX_ : Hid (EndC (w7.alloc (Obj.cells #[Value.int IntKind.i64 f.nx, Value.int IntKind.i64 f.ak, Value.slice ga f.q.length gc, Value.int IntKind.i64 f.gt, Value.slice gb f.o.length gd] 32)) 32 w5.heap.size e.nx e.ak (.slice xa e.q.length xc) e.gt (.slice xb e.o.length xd)) := (CX.out.below bx)
  have IX_ : Hid (EndI (w7.alloc (Obj.cells #[Value.int IntKind.i64 f.nx, Value.int IntKind.i64 f.ak, Value.slice ga f.q.length gc, Value.int IntKind.i64 f.gt, Value.slice gb f.o.length gd] 32)) w4.heap.size w5.heap.size (.agg #[.int .i64 e.nx, .int .i64 e.ak, .slice xa e.q.length xc, .int .i64 e.gt, .slice xb e.o.length xd]) e) := (IX.out.below bx)
  clear F B CW IW CX IX
  have F := F_
  have B := B_
  have CW := CW_
  have IW := IW_
  have CX := CX_
  have IX := IX_
  clear F_ B_ CW_ IW_ CX_ IX_
  have CG : Hid (EndC (w7.alloc (Obj.cells #[Value.int IntKind.i64 f.nx, Value.int IntKind.i64 f.ak, Value.slice ga f.q.length gc, Value.int IntKind.i64 f.gt, Value.slice gb f.o.length gd] 32)) 32 w7.heap.size f.nx f.ak (.slice ga f.q.length gc) f.gt (.slice gb f.o.length gd)) := cx
  have IG : Hid (EndI (w7.alloc (Obj.cells #[Value.int IntKind.i64 f.nx, Value.int IntKind.i64 f.ak, Value.slice ga f.q.length gc, Value.int IntKind.i64 f.gt, Value.slice gb f.o.length gd] 32)) w6.heap.size w7.heap.size (.agg #[.int .i64 f.nx, .int .i64 f.ak, .slice ga f.q.length gc, .int .i64 f.gt, .slice gb f.o.length gd]) f) := EndI.below ix bx
  clear cx ix bx
  obtain ⟨CW0, CW1, CW2, CW3, CW4⟩ := CW.out.cells
  go_wp2_with fail
  generalize (w7.alloc (Obj.cells #[Value.int IntKind.i64 f.nx, Value.int IntKind.i64 f.ak, Value.slice ga f.q.length gc, Value.int IntKind.i64 f.gt, Value.slice gb f.o.length gd] 32)) = w8 at *
  clear CW0 CW1 CW2 CW3 CW4 
  refine (eqEnd_same (e := f) w8 IG.out.r IW.out.r (by omega) (by omega)).mono ?_
  rintro r_ w9 ⟨rfl, hb⟩
  have z9 : w8.heap.size ≤ w9.heap.size := hb.size
  have F_ : Hid (EndC w9 45 w.heap.size e.nx e.ak (.slice qa e.q.length qc) e.gt (.slice oa e.o.length oc)) := (F.out.below hb)
  have B_ : Hid (Below w.heap.size w w9) := (B.out.trans (hb.mono B.out.size))
  have CW_ : Hid (EndC w9 32 w3.heap.size f.nx f.ak (.slice wa f.q.length wc) f.gt (.slice wb f.o.length wd)) := (CW.out.below hb)
  have IW_ : Hid (EndI w9 w2.heap.size w3.heap.size (.agg #[.int .i64 f.nx, .int .i64 f.ak, .slice wa f.q.length wc, .int .i64 f.gt, .slice wb f.o.length wd]) f) := (IW.out.below hb)
  have CX_ : Hid (EndC w9 32 w5.heap.size e.nx e.ak (.slice xa e.q.length xc) e.gt (.slice xb e.o.length xd)) := (CX.out.below hb)
  have IX_ : Hid (EndI w9 w4.heap.size w5.heap.size (.agg #[.int .i64 e.nx, .int .i64 e.ak, .slice xa e.q.length xc, .int .i64 e.gt, .slice xb e.o.length xd]) e) := (IX.out.below hb)
  have CG_ : Hid (EndC w9 32 w7.heap.size f.nx f.ak (.slice ga f.q.length gc) f.gt (.slice gb f.o.length gd)) := (CG.out.below hb)
  have IG_ : Hid (EndI w9 w6.heap.size w7.heap.size (.agg #[.int .i64 f.nx, .int .i64 f.ak, .slice ga f.q.length gc, .int .i64 f.gt, .slice gb f.o.length gd]) f) := (IG.out.below hb)
  clear F B CW IW CX IX CG IG
  have F := F_
  have B := B_
  have CW := CW_
  have IW := IW_
  have CX := CX_
  have IX := IX_
  have CG := CG_
  have IG := IG_
  clear F_ B_ CW_ IW_ CX_ IX_ CG_ IG_
  clear hb
  go_wp2_with fail
  go_region_held3 (fun w' => w'.cell? ⟨w5.heap.size, 0, none⟩ = some (.int .i64 e.nx) ∧ w'.cell? ⟨w5.heap.size, 1, none⟩ = some (.int .i64 e.ak) ∧ w'.cell? ⟨w5.heap.size, 2, none⟩ = some (.slice xa e.q.length xc) ∧ w'.cell? ⟨w5.heap.size, 3, none⟩ = some (.int .i64 e.gt) ∧ w'.cell? ⟨w5.heap.size, 4, none⟩ = some (.slice xb e.o.length xd) ∧ w'.cell? ⟨w.heap.size, 0, none⟩ = some (.int .i64 e.nx) ∧ w'.cell? ⟨w.heap.size, 1, none⟩ = some (.int .i64 e.ak) ∧ w'.cell? ⟨w.heap.size, 2, none⟩ = some (.slice qa e.q.length qc) ∧ w'.cell? ⟨w.heap.size, 3, none⟩ = some (.int .i64 e.gt) ∧ w'.cell? ⟨w.heap.size, 4, none⟩ = some (.slice oa e.o.length oc)) (first | exact flat10 x8.cells f8.cells | exact flat10 x7.cells f7.cells | exact flat10 CX.out.cells F.out.cells)
    (first | (go_at_call 26; refine (toEnd_any e.nx e.ak e.gt qa oa qc oc e.q e.o _ (show Hid (TextsAt _ _ _) from hg.out.tq.stays B.out.drew) (show Hid (TextsAt _ _ _) from hg.out.to.stays B.out.drew) (by omega) (by omega)).mono ?_; rintro r_ w10 ⟨y, rfl, m7, hb7⟩; have x7 := EndC.below (show EndC w9.drew _ _ _ _ _ _ _ from CX.out) hb7; have f7 := EndC.below (show EndC w9.drew _ _ _ _ _ _ _ from F.out) hb7) | (go_at_call 27; refine (eqEnd_same (e := e) _ (EndM.r (EndM.stays (show EndM w9.drew _ _ _ from IX.out.own) hb7)) m7.r (by omega) (by omega)).mono ?_; rintro r_ w11 ⟨rfl, hb8⟩; have x8 := x7.below hb8; have f8 := f7.below hb8))
  have hb : Below w9.heap.size w9 w11 := ((Below.refl _ _).drew.trans (show Below w9.heap.size _ w10 from hb7)).trans (hb8.mono (show w9.heap.size ≤ w10.heap.size from hb7.size))
  have z11 : w9.heap.size ≤ w11.heap.size := hb.size
  clear x7 f7 x8 f8 m7 hb7 hb8
  have F_ : Hid (EndC w11 45 w.heap.size e.nx e.ak (.slice qa e.q.length qc) e.gt (.slice oa e.o.length oc)) := (F.out.below hb)
  have B_ : Hid (Below w.heap.size w w11) := (B.out.trans (hb.mono B.out.size))
  have CW_ : Hid (EndC w11 32 w3.heap.size f.nx f.ak (.slice wa f.q.length wc) f.gt (.slice wb f.o.length wd)) := (CW.out.below hb)
  have IW_ : Hid (EndI w11 w2.heap.size w3.heap.size (.agg #[.int .i64 f.nx, .int .i64 f.ak, .slice wa f.q.length wc, .int .i64 f.gt, .slice wb f.o.length wd]) f) := (IW.out.below hb)
  have CX_ : Hid (EndC w11 32 w5.heap.size e.nx e.ak (.slice xa e.q.length xc) e.gt (.slice xb e.o.length xd)) := (CX.out.below hb)
  have IX_ : Hid (EndI w11 w4.heap.size w5.heap.size (.agg #[.int .i64 e.nx, .int .i64 e.ak, .slice xa e.q.length xc, .int .i64 e.gt, .slice xb e.o.length xd]) e) := (IX.out.below hb)
  have CG_ : Hid (EndC w11 32 w7.heap.size f.nx f.ak (.slice ga f.q.length gc) f.gt (.slice gb f.o.length gd)) := (CG.out.below hb)
  have IG_ : Hid (EndI w11 w6.heap.size w7.heap.size (.agg #[.int .i64 f.nx, .int .i64 f.ak, .slice ga f.q.length gc, .int .i64 f.gt, .slice gb f.o.length gd]) f) := (IG.out.below hb)
  clear F B CW IW CX IX CG IG
  have F := F_
  have B := B_
  have CW := CW_
  have IW := IW_
  have CX := CX_
  have IX := IX_
  have CG := CG_
  have IG := IG_
  clear F_ B_ CW_ IW_ CX_ IX_ CG_ IG_
  clear hb
  obtain ⟨CX0, CX1, CX2, CX3, CX4⟩ := CX.out.cells
  go_wp2_with fail
  refine (mark_I w11 IX.out (by omega)).mono ?_
  rintro r_ w12 ⟨rfl, hgr, f1, hq1, hq2, hm1, hm2, ix⟩
  have z12 : w11.heap.size ≤ w12.heap.size := hgr.size
  clear IX hm1 hm2 ix hq1 hq2 f1
  clear CX0 CX1 CX2 CX3 CX4 
  have F_ : Hid (EndC w12 45 w.heap.size e.nx e.ak (.slice qa e.q.length qc) e.gt (.slice oa e.o.length oc)) := (F.out.gr hgr (by omega))
  have B_ : Hid (Below w.heap.size w w12) := (GrI.below' B.out hgr (by omega) (by omega))
  have CW_ : Hid (EndC w12 32 w3.heap.size f.nx f.ak (.slice wa f.q.length wc) f.gt (.slice wb f.o.length wd)) := (CW.out.gr hgr (by omega))
  have IW_ : Hid (EndI w12 w2.heap.size w3.heap.size (.agg #[.int .i64 f.nx, .int .i64 f.ak, .slice wa f.q.length wc, .int .i64 f.gt, .slice wb f.o.length wd]) f) := (IW.out.gr hgr (by omega))
  have CX_ : Hid (EndC w12 32 w5.heap.size e.nx e.ak (.slice xa e.q.length xc) e.gt (.slice xb e.o.length xd)) := (CX.out.gr hgr (by omega))
  have CG_ : Hid (EndC w12 32 w7.heap.size f.nx f.ak (.slice ga f.q.length gc) f.gt (.slice gb f.o.length gd)) := (CG.out.gr hgr (by omega))
  have IG_ : Hid (EndI w12 w6.heap.size w7.heap.size (.agg #[.int .i64 f.nx, .int .i64 f.ak, .slice ga f.q.length gc, .int .i64 f.gt, .slice gb f.o.length gd]) f) := (IG.out.gr hgr (by omega))
  clear F B CW IW CX CG IG
  have F := F_
  have B := B_
  have CW := CW_
  have IW := IW_
  have CX := CX_
  have CG := CG_
  have IG := IG_
  clear F_ B_ CW_ IW_ CX_ CG_ IG_
  clear hgr
  have hk : decide (((1 + e.q.length + e.o.length : Nat) : Int) < 0) = false := by simp; omega
  obtain ⟨CG0, CG1, CG2, CG3, CG4⟩ := CG.out.cells
  obtain ⟨CW0, CW1, CW2, CW3, CW4⟩ := CW.out.cells
  go_wp2_with fail
  clear hk
  refine (eqEnd_same (e := f) w12 IG.out.r IW.out.r (by omega) (by omega)).mono ?_
  rintro r_ w13 ⟨rfl, hb⟩
  have z13 : w12.heap.size ≤ w13.heap.size := hb.size
  clear CG0 CG1 CG2 CG3 CG4 CW0 CW1 CW2 CW3 CW4 
  have F_ : Hid (EndC w13 45 w.heap.size e.nx e.ak (.slice qa e.q.length qc) e.gt (.slice oa e.o.length oc)) := (F.out.below hb)
  have B_ : Hid (Below w.heap.size w w13) := (B.out.trans (hb.mono B.out.size))
  have CW_ : Hid (EndC w13 32 w3.heap.size f.nx f.ak (.slice wa f.q.length wc) f.gt (.slice wb f.o.length wd)) := (CW.out.below hb)
  have IW_ : Hid (EndI w13 w2.heap.size w3.heap.size (.agg #[.int .i64 f.nx, .int .i64 f.ak, .slice wa f.q.length wc, .int .i64 f.gt, .slice wb f.o.length wd]) f) := (IW.out.below hb)
  have CX_ : Hid (EndC w13 32 w5.heap.size e.nx e.ak (.slice xa e.q.length xc) e.gt (.slice xb e.o.length xd)) := (CX.out.below hb)
  have CG_ : Hid (EndC w13 32 w7.heap.size f.nx f.ak (.slice ga f.q.length gc) f.gt (.slice gb f.o.length gd)) := (CG.out.below hb)
  have IG_ : Hid (EndI w13 w6.heap.size w7.heap.size (.agg #[.int .i64 f.nx, .int .i64 f.ak, .slice ga f.q.length gc, .int .i64 f.gt, .slice gb f.o.length gd]) f) := (IG.out.below hb)
  clear F B CW IW CX CG IG
  have F := F_
  have B := B_
  have CW := CW_
  have IW := IW_
  have CX := CX_
  have CG := CG_
  have IG := IG_
  clear F_ B_ CW_ IW_ CX_ CG_ IG_
  clear hb
  obtain ⟨CG0, CG1, CG2, CG3, CG4⟩ := CG.out.cells
  go_wp2_with fail
  refine (mark_I w13 IG.out (by omega)).mono ?_
  rintro r_ w14 ⟨rfl, hgr, f1, hq1, hq2, hm1, hm2, ix⟩
  have z14 : w13.heap.size ≤ w14.heap.size := hgr.size
  have HM1 : Hid (Marked f1.q 1 f1.q.length) := hm1
  have HM2 : Hid (Marked f1.o (1 + f1.q.length) f1.o.length) := hm2
  clear IG hm1 hm2
  clear CG0 CG1 CG2 CG3 CG4 
  have F_ : Hid (EndC w14 45 w.heap.size e.nx e.ak (.slice qa e.q.length qc) e.gt (.slice oa e.o.length oc)) := (F.out.gr hgr (by omega))
  have B_ : Hid (Below w.heap.size w w14) := (GrI.below' B.out hgr (by omega) (by omega))
  have CW_ : Hid (EndC w14 32 w3.heap.size f.nx f.ak (.slice wa f.q.length wc) f.gt (.slice wb f.o.length wd)) := (CW.out.gr hgr (by omega))
  have IW_ : Hid (EndI w14 w2.heap.size w3.heap.size (.agg #[.int .i64 f.nx, .int .i64 f.ak, .slice wa f.q.length wc, .int .i64 f.gt, .slice wb f.o.length wd]) f) := (IW.out.gr hgr (by omega))
  have CX_ : Hid (EndC w14 32 w5.heap.size e.nx e.ak (.slice xa e.q.length xc) e.gt (.slice xb e.o.length xd)) := (CX.out.gr hgr (by omega))
  have CG_ : Hid (EndC w14 32 w7.heap.size f.nx f.ak (.slice ga f.q.length gc) f.gt (.slice gb f.o.length gd)) := (CG.out.gr hgr (by omega))
  clear F B CW IW CX CG
  have F := F_
  have B := B_
  have CW := CW_
  have IW := IW_
  have CX := CX_
  have CG := CG_
  clear F_ B_ CW_ IW_ CX_ CG_
  clear hgr
  have IG : Hid (EndI w14 w6.heap.size w7.heap.size (.agg #[.int .i64 f.nx, .int .i64 f.ak, .slice ga f.q.length gc, .int .i64 f.gt, .slice gb f.o.length gd]) f1) := ix
  clear ix
  obtain ⟨CG0, CG1, CG2, CG3, CG4⟩ := CG.out.cells
  go_wp2_with fail
  refine (held_I w14 IG.out f.q.length f.o.length hq1 hq2 (by omega) HM1.out HM2.out).mono ?_
  rintro r_ w15 ⟨rfl, hb⟩
  have z15 : w14.heap.size ≤ w15.heap.size := hb.size
  clear CG0 CG1 CG2 CG3 CG4 
  have F_ : Hid (EndC w15 45 w.heap.size e.nx e.ak (.slice qa e.q.length qc) e.gt (.slice oa e.o.length oc)) := (F.out.below hb)
  have B_ : Hid (Below w.heap.size w w15) := (B.out.trans (hb.mono B.out.size))
  have CW_ : Hid (EndC w15 32 w3.heap.size f.nx f.ak (.slice wa f.q.length wc) f.gt (.slice wb f.o.length wd)) := (CW.out.below hb)
  have IW_ : Hid (EndI w15 w2.heap.size w3.heap.size (.agg #[.int .i64 f.nx, .int .i64 f.ak, .slice wa f.q.length wc, .int .i64 f.gt, .slice wb f.o.length wd]) f) := (IW.out.below hb)
  have CX_ : Hid (EndC w15 32 w5.heap.size e.nx e.ak (.slice xa e.q.length xc) e.gt (.slice xb e.o.length xd)) := (CX.out.below hb)
  have CG_ : Hid (EndC w15 32 w7.heap.size f.nx f.ak (.slice ga f.q.length gc) f.gt (.slice gb f.o.length gd)) := (CG.out.below hb)
  have IG_ : Hid (EndI w15 w6.heap.size w7.heap.size (.agg #[.int .i64 f.nx, .int .i64 f.ak, .slice ga f.q.length gc, .int .i64 f.gt, .slice gb f.o.length gd]) f1) := (IG.out.below hb)
  clear F B CW IW CX CG IG
  have F := F_
  have B := B_
  have CW := CW_
  have IW := IW_
  have CX := CX_
  have CG := CG_
  have IG := IG_
  clear F_ B_ CW_ IW_ CX_ CG_ IG_
  clear hb
  have hk : decide (((1 + f.q.length + f.o.length : Nat) : Int) < 0) = false := by simp; omega
  obtain ⟨F0, F1, F2, F3, F4⟩ := F.out.cells
  go_wp2_with fail
  clear hk
  refine (toEnd_any e.nx e.ak e.gt qa oa qc oc e.q e.o w15 (show Hid (TextsAt _ _ _) from hg.out.tq.stays B.out) (show Hid (TextsAt _ _ _) from hg.out.to.stays B.out) (by omega) (by omega)).mono ?_
  rintro r_ w16 ⟨v_, rfl, m_, hb⟩
  have z16 : w15.heap.size ≤ w16.heap.size := hb.size
  clear F0 F1 F2 F3 F4 
  have F_ : Hid (EndC w16 45 w.heap.size e.nx e.ak (.slice qa e.q.length qc) e.gt (.slice oa e.o.length oc)) := (F.out.below hb)
  have B_ : Hid (Below w.heap.size w w16) := (B.out.trans (hb.mono B.out.size))
  have CW_ : Hid (EndC w16 32 w3.heap.size f.nx f.ak (.slice wa f.q.length wc) f.gt (.slice wb f.o.length wd)) := (CW.out.below hb)
  have IW_ : Hid (EndI w16 w2.heap.size w3.heap.size (.agg #[.int .i64 f.nx, .int .i64 f.ak, .slice wa f.q.length wc, .int .i64 f.gt, .slice wb f.o.length wd]) f) := (IW.out.below hb)
  have CX_ : Hid (EndC w16 32 w5.heap.size e.nx e.ak (.slice xa e.q.length xc) e.gt (.slice xb e.o.length xd)) := (CX.out.below hb)
  have CG_ : Hid (EndC w16 32 w7.heap.size f.nx f.ak (.slice ga f.q.length gc) f.gt (.slice gb f.o.length gd)) := (CG.out.below hb)
  have IG_ : Hid (EndI w16 w6.heap.size w7.heap.size (.agg #[.int .i64 f.nx, .int .i64 f.ak, .slice ga f.q.length gc, .int .i64 f.gt, .slice gb f.o.length gd]) f1) := (IG.out.below hb)
  clear F B CW IW CX CG IG
  have F := F_
  have B := B_
  have CW := CW_
  have IW := IW_
  have CX := CX_
  have CG := CG_
  have IG := IG_
  clear F_ B_ CW_ IW_ CX_ CG_ IG_
  clear hb
  go_wp2_with fail
  refine (offer_any (e := e) s w16 (show EndR _ _ e from EndM.r m_) (by omega) (by omega) (by omega)).mono ?_
  rintro r_ w17 ⟨v_, rfl, m_, hb⟩
  have z17 : w16.heap.size ≤ w17.heap.size := hb.size
  obtain ⟨m_, hb⟩ : EndM w17 w16.heap.size v_ f ∧ Below w16.heap.size w16 w17 := ⟨by rw [HFE.out]; exact m_, hb⟩
  rw [← HBE.out]
  have F_ : Hid (EndC w17 45 w.heap.size e.nx e.ak (.slice qa e.q.length qc) e.gt (.slice oa e.o.length oc)) := (F.out.below hb)
  have B_ : Hid (Below w.heap.size w w17) := (B.out.trans (hb.mono B.out.size))
  have CW_ : Hid (EndC w17 32 w3.heap.size f.nx f.ak (.slice wa f.q.length wc) f.gt (.slice wb f.o.length wd)) := (CW.out.below hb)
  have IW_ : Hid (EndI w17 w2.heap.size w3.heap.size (.agg #[.int .i64 f.nx, .int .i64 f.ak, .slice wa f.q.length wc, .int .i64 f.gt, .slice wb f.o.length wd]) f) := (IW.out.below hb)
  have CX_ : Hid (EndC w17 32 w5.heap.size e.nx e.ak (.slice xa e.q.length xc) e.gt (.slice xb e.o.length xd)) := (CX.out.below hb)
  have CG_ : Hid (EndC w17 32 w7.heap.size f.nx f.ak (.slice ga f.q.length gc) f.gt (.slice gb f.o.length gd)) := (CG.out.below hb)
  have IG_ : Hid (EndI w17 w6.heap.size w7.heap.size (.agg #[.int .i64 f.nx, .int .i64 f.ak, .slice ga f.q.length gc, .int .i64 f.gt, .slice gb f.o.length gd]) f1) := (IG.out.below hb)
  clear F B CW IW CX CG IG
  have F := F_
  have B := B_
  have CW := CW_
  have IW := IW_
  have CX := CX_
  have CG := CG_
  have IG := IG_
  clear F_ B_ CW_ IW_ CX_ CG_ IG_
  obtain ⟨ua, uc, ub, ud, rfl⟩ := endM_form m_
  have ix := EndI.new m_
  clear m_ hb
  have bx : Below w17.heap.size w17 (w17.alloc (Obj.cells #[Value.int IntKind.i64 f.nx, Value.int IntKind.i64 f.ak, Value.slice ua f.q.length uc, Value.int IntKind.i64 f.gt, Value.slice ub f.o.length ud] 32)) := (Below.refl _ _).alloc (Nat.le_refl _) _
  have cx := EndC.new w17 32 f.nx f.ak f.gt (.slice ua f.q.length uc) (.slice ub f.o.length ud)
  have z18 : (w17.alloc (Obj.cells #[Value.int IntKind.i64 f.nx, Value.int IntKind.i64 f.ak, Value.slice ua f.q.length uc, Value.int IntKind.i64 f.gt, Value.slice ub f.o.length ud] 32)).heap.size = w17.heap.size + 1 := by simp
  have F_ : Hid (EndC (w17.alloc (Obj.cells #[Value.int IntKind.i64 f.nx, Value.int IntKind.i64 f.ak, Value.slice ua f.q.length uc, Value.int IntKind.i64 f.gt, Value.slice ub f.o.length ud] 32)) 45 w.heap.size e.nx e.ak (.slice qa e.q.length qc) e.gt (.slice oa e.o.length oc)) := (F.out.below bx)
  have B_ : Hid (Below w.heap.size w (w17.alloc (Obj.cells #[Value.int IntKind.i64 f.nx, Value.int IntKind.i64 f.ak, Value.slice ua f.q.length uc, Value.int IntKind.i64 f.gt, Value.slice ub f.o.length ud] 32))) := (B.out.trans (bx.mono B.out.size))
  have CW_ : Hid (EndC (w17.alloc (Obj.cells #[Value.int IntKind.i64 f.nx, Value.int IntKind.i64 f.ak, Value.slice ua f.q.length uc, Value.int IntKind.i64 f.gt, Value.slice ub f.o.length ud] 32)) 32 w3.heap.size f.nx f.ak (.slice wa f.q.length wc) f.gt (.slice wb f.o.length wd)) := (CW.out.below bx)
  have IW_ : Hid (EndI (w17.alloc (Obj.cells #[Value.int IntKind.i64 f.nx, Value.int IntKind.i64 f.ak, Value.slice ua f.q.length uc, Value.int IntKind.i64 f.gt, Value.slice ub f.o.length ud] 32)) w2.heap.size w3.heap.size (.agg #[.int .i64 f.nx, .int .i64 f.ak, .slice wa f.q.length wc, .int .i64 f.gt, .slice wb f.o.length wd]) f) := (IW.out.below bx)
  have CX_ : Hid (EndC (w17.alloc (Obj.cells #[Value.int IntKind.i64 f.nx, Value.int IntKind.i64 f.ak, Value.slice ua f.q.length uc, Value.int IntKind.i64 f.gt, Value.slice ub f.o.length ud] 32)) 32 w5.heap.size e.nx e.ak (.slice xa e.q.length xc) e.gt (.slice xb e.o.length xd)) := (CX.out.below bx)
  have CG_ : Hid (EndC (w17.alloc (Obj.cells #[Value.int IntKind.i64 f.nx, Value.int IntKind.i64 f.ak, Value.slice ua f.q.length uc, Value.int IntKind.i64 f.gt, Value.slice ub f.o.length ud] 32)) 32 w7.heap.size f.nx f.ak (.slice ga f.q.length gc) f.gt (.slice gb f.o.length gd)) := (CG.out.below bx)
  have IG_ : Hid (EndI (w17.alloc (Obj.cells #[Value.int IntKind.i64 f.nx, Value.int IntKind.i64 f.ak, Value.slice ua f.q.length uc, Value.int IntKind.i64 f.gt, Value.slice ub f.o.length ud] 32)) w6.heap.size w7.heap.size (.agg #[.int .i64 f.nx, .int .i64 f.ak, .slice ga f.q.length gc, .int .i64 f.gt, .slice gb f.o.length gd]) f1) := (IG.out.below bx)
  clear F B CW IW CX CG IG
  have F := F_
  have B := B_
  have CW := CW_
  have IW := IW_
  have CX := CX_
  have CG := CG_
  have IG := IG_
  clear F_ B_ CW_ IW_ CX_ CG_ IG_
  have CH : Hid (EndC (w17.alloc (Obj.cells #[Value.int IntKind.i64 f.nx, Value.int IntKind.i64 f.ak, Value.slice ua f.q.length uc, Value.int IntKind.i64 f.gt, Value.slice ub f.o.length ud] 32)) 32 w17.heap.size f.nx f.ak (.slice ua f.q.length uc) f.gt (.slice ub f.o.length ud)) := cx
  have IH : Hid (EndI (w17.alloc (Obj.cells #[Value.int IntKind.i64 f.nx, Value.int IntKind.i64 f.ak, Value.slice ua f.q.length uc, Value.int IntKind.i64 f.gt, Value.slice ub f.o.length ud] 32)) w16.heap.size w17.heap.size (.agg #[.int .i64 f.nx, .int .i64 f.ak, .slice ua f.q.length uc, .int .i64 f.gt, .slice ub f.o.length ud]) f) := EndI.below ix bx
  clear cx ix bx
  obtain ⟨CW0, CW1, CW2, CW3, CW4⟩ := CW.out.cells
  go_wp2_with fail
  generalize (w17.alloc (Obj.cells #[Value.int IntKind.i64 f.nx, Value.int IntKind.i64 f.ak, Value.slice ua f.q.length uc, Value.int IntKind.i64 f.gt, Value.slice ub f.o.length ud] 32)) = w18 at *
  clear CW0 CW1 CW2 CW3 CW4 
  refine (eqEnd_same (e := f) w18 IH.out.r IW.out.r (by omega) (by omega)).mono ?_
  rintro r_ w19 ⟨rfl, hb⟩
  have z19 : w18.heap.size ≤ w19.heap.size := hb.size
  have F_ : Hid (EndC w19 45 w.heap.size e.nx e.ak (.slice qa e.q.length qc) e.gt (.slice oa e.o.length oc)) := (F.out.below hb)
  have B_ : Hid (Below w.heap.size w w19) := (B.out.trans (hb.mono B.out.size))
  have CW_ : Hid (EndC w19 32 w3.heap.size f.nx f.ak (.slice wa f.q.length wc) f.gt (.slice wb f.o.length wd)) := (CW.out.below hb)
  have IW_ : Hid (EndI w19 w2.heap.size w3.heap.size (.agg #[.int .i64 f.nx, .int .i64 f.ak, .slice wa f.q.length wc, .int .i64 f.gt, .slice wb f.o.length wd]) f) := (IW.out.below hb)
  have CX_ : Hid (EndC w19 32 w5.heap.size e.nx e.ak (.slice xa e.q.length xc) e.gt (.slice xb e.o.length xd)) := (CX.out.below hb)
  have CG_ : Hid (EndC w19 32 w7.heap.size f.nx f.ak (.slice ga f.q.length gc) f.gt (.slice gb f.o.length gd)) := (CG.out.below hb)
  have IG_ : Hid (EndI w19 w6.heap.size w7.heap.size (.agg #[.int .i64 f.nx, .int .i64 f.ak, .slice ga f.q.length gc, .int .i64 f.gt, .slice gb f.o.length gd]) f1) := (IG.out.below hb)
  have CH_ : Hid (EndC w19 32 w17.heap.size f.nx f.ak (.slice ua f.q.length uc) f.gt (.slice ub f.o.length ud)) := (CH.out.below hb)
  have IH_ : Hid (EndI w19 w16.heap.size w17.heap.size (.agg #[.int .i64 f.nx, .int .i64 f.ak, .slice ua f.q.length uc, .int .i64 f.gt, .slice ub f.o.length ud]) f) := (IH.out.below hb)
  clear F B CW IW CX CG IG CH IH
  have F := F_
  have B := B_
  have CW := CW_
  have IW := IW_
  have CX := CX_
  have CG := CG_
  have IG := IG_
  have CH := CH_
  have IH := IH_
  clear F_ B_ CW_ IW_ CX_ CG_ IG_ CH_ IH_
  clear hb
  obtain ⟨CG0, CG1, CG2, CG3, CG4⟩ := CG.out.cells
  go_wp2_with fail
  refine (held_I w19 IG.out f.q.length f.o.length hq1 hq2 (by omega) HM1.out HM2.out).mono ?_
  rintro r_ w20 ⟨rfl, hb⟩
  have z20 : w19.heap.size ≤ w20.heap.size := hb.size
  clear CG0 CG1 CG2 CG3 CG4 
  have F_ : Hid (EndC w20 45 w.heap.size e.nx e.ak (.slice qa e.q.length qc) e.gt (.slice oa e.o.length oc)) := (F.out.below hb)
  have B_ : Hid (Below w.heap.size w w20) := (B.out.trans (hb.mono B.out.size))
  have CW_ : Hid (EndC w20 32 w3.heap.size f.nx f.ak (.slice wa f.q.length wc) f.gt (.slice wb f.o.length wd)) := (CW.out.below hb)
  have IW_ : Hid (EndI w20 w2.heap.size w3.heap.size (.agg #[.int .i64 f.nx, .int .i64 f.ak, .slice wa f.q.length wc, .int .i64 f.gt, .slice wb f.o.length wd]) f) := (IW.out.below hb)
  have CX_ : Hid (EndC w20 32 w5.heap.size e.nx e.ak (.slice xa e.q.length xc) e.gt (.slice xb e.o.length xd)) := (CX.out.below hb)
  have CG_ : Hid (EndC w20 32 w7.heap.size f.nx f.ak (.slice ga f.q.length gc) f.gt (.slice gb f.o.length gd)) := (CG.out.below hb)
  have IG_ : Hid (EndI w20 w6.heap.size w7.heap.size (.agg #[.int .i64 f.nx, .int .i64 f.ak, .slice ga f.q.length gc, .int .i64 f.gt, .slice gb f.o.length gd]) f1) := (IG.out.below hb)
  have CH_ : Hid (EndC w20 32 w17.heap.size f.nx f.ak (.slice ua f.q.length uc) f.gt (.slice ub f.o.length ud)) := (CH.out.below hb)
  have IH_ : Hid (EndI w20 w16.heap.size w17.heap.size (.agg #[.int .i64 f.nx, .int .i64 f.ak, .slice ua f.q.length uc, .int .i64 f.gt, .slice ub f.o.length ud]) f) := (IH.out.below hb)
  clear F B CW IW CX CG IG CH IH
  have F := F_
  have B := B_
  have CW := CW_
  have IW := IW_
  have CX := CX_
  have CG := CG_
  have IG := IG_
  have CH := CH_
  have IH := IH_
  clear F_ B_ CW_ IW_ CX_ CG_ IG_ CH_ IH_
  clear hb
  have hk : decide (((1 + f.q.length + f.o.length : Nat) : Int) < 0) = false := by simp; omega
  go_wp2_with fail
  go_ret
  exact ⟨rfl, B.out⟩
end Go.Proofs.Ytohagaelenhebaa
