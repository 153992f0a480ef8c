/- The walk over the law on SendAgain. -/
import Derived.Test.YtohagaelenhebaaBy
import Derived.Test.YtohagaelenhebaaS3
import Derived.Test.YtohagaelenhebaaQ4
namespace Go.Proofs.Ytohagaelenhebaa
open Go.RowKit Pl
set_option linter.unusedVariables false

theorem againL_len (e : En) : (againL e).length ≤ 4 := by
  unfold againL
  split
  · rename_i h; exact again_len (okB_true.1 h)
  · simp

set_option maxRecDepth 100000 in
set_option maxHeartbeats 8000000 in
theorem lawSendAgain (e : En) (qa oa : Option Addr) (qc oc : Nat) (w : World) (hg : Hid (Given w qa oa e.q e.o)) :
    Calls Try.prog 9 #[.agg #[.int .i64 e.nx, .int .i64 e.ak, .slice qa e.q.length qc, .int .i64 e.gt, .slice oa e.o.length oc]] w fun r w' => r = .returned (.bool true) ∧ Below w.heap.size w w' := by
  go_enter Try.func9, Try.ntmps9
  go_wp2_with fail
  have B_ : Below w.heap.size w (w.alloc (Obj.cells #[Value.int IntKind.i64 e.nx, Value.int IntKind.i64 e.ak, Value.slice qa e.q.length qc, Value.int IntKind.i64 e.gt, Value.slice oa e.o.length oc] 45)) := (Below.refl _ _).alloc (Nat.le_refl _) _
  have F_ := EndC.new w 45 e.nx e.ak e.gt (.slice qa e.q.length qc) (.slice oa e.o.length oc)
  have z0 : (w.alloc (Obj.cells #[Value.int IntKind.i64 e.nx, Value.int IntKind.i64 e.ak, Value.slice qa e.q.length qc, Value.int IntKind.i64 e.gt, Value.slice oa e.o.length oc] 45)).heap.size = w.heap.size + 1 := by simp
  generalize (w.alloc (Obj.cells #[Value.int IntKind.i64 e.nx, Value.int IntKind.i64 e.ak, Value.slice qa e.q.length qc, Value.int IntKind.i64 e.gt, Value.slice oa e.o.length oc] 45)) = w0 at *
  have F : Hid (EndC w0 45 w.heap.size e.nx e.ak (.slice qa e.q.length qc) e.gt (.slice oa e.o.length oc)) := F_
  have B : Hid (Below w.heap.size w w0) := B_
  clear F_ B_
  refine (szEnd_any e.nx e.ak e.gt qa oa qc oc e.q e.o w0 (show Hid (TextsAt _ _ _) from hg.out.tq.stays B.out) (show Hid (TextsAt _ _ _) from hg.out.to.stays B.out) hg.out.lq hg.out.lo hg.out.sq hg.out.so).mono ?_
  rintro r_ w1 ⟨hr | ⟨r, hr, hf⟩, hb⟩
  · subst hr
    have BB : Hid (Below w.heap.size w w1) := B.out.trans (hb.mono B.out.size)
    clear hb
    go_wp2_with fail
    go_ret
    exact ⟨rfl, BB.out⟩
  subst hr
  obtain ⟨hl, hsq, hso⟩ := hf.out
  have hd : decide ((r : Int) < 0) = false := by simp
  have z1 : w0.heap.size ≤ w1.heap.size := hb.size
  have F_ : Hid (EndC w1 45 w.heap.size e.nx e.ak (.slice qa e.q.length qc) e.gt (.slice oa e.o.length oc)) := (F.out.below hb)
  have B_ : Hid (Below w.heap.size w w1) := (B.out.trans (hb.mono B.out.size))
  clear F B
  have F := F_
  have B := B_
  clear F_ B_
  clear hb
  have HSQ : Hid (∀ t ∈ e.q, t.size ≤ 1048576) := hsq
  have HSO : Hid (∀ t ∈ e.o, t.size ≤ 1048576) := hso
  clear hf hsq hso
  obtain ⟨F0, F1, F2, F3, F4⟩ := F.out.cells
  go_wp2_with fail
  clear hd
  refine (toEnd_any e.nx e.ak e.gt qa oa qc oc e.q e.o w1 (show Hid (TextsAt _ _ _) from hg.out.tq.stays B.out) (show Hid (TextsAt _ _ _) from hg.out.to.stays B.out) (by omega) (by omega)).mono ?_
  rintro r_ w2 ⟨v_, rfl, m_, hb⟩
  have z2 : w1.heap.size ≤ w2.heap.size := hb.size
  clear F0 F1 F2 F3 F4 
  have F_ : Hid (EndC w2 45 w.heap.size e.nx e.ak (.slice qa e.q.length qc) e.gt (.slice oa e.o.length oc)) := (F.out.below hb)
  have B_ : Hid (Below w.heap.size w w2) := (B.out.trans (hb.mono B.out.size))
  clear F B
  have F := F_
  have B := B_
  clear F_ B_
  clear hb
  go_wp2_with fail
  refine (spSendAgain_any (e := e) w2 (show EndR _ _ e from EndM.r m_) (by omega) (by omega)).mono ?_
  rintro r_ w3 ⟨vw, rfl, m_, hb⟩
  have z3 : w2.heap.size ≤ w3.heap.size := hb.size
  have HF : Hid (∃ ps : List Pc, ps = againL e) := ⟨_, rfl⟩
  obtain ⟨ps, hfe⟩ := HF.out
  have pl : ps.length ≤ 4 := by rw [hfe]; exact againL_len e
  have HFE : Hid (ps = againL e) := hfe
  clear hfe HF
  have ix : SlI w3 w2.heap.size w3.heap.size vw ps := by rw [HFE.out]; exact SlI.new m_
  have F_ : Hid (EndC w3 45 w.heap.size e.nx e.ak (.slice qa e.q.length qc) e.gt (.slice oa e.o.length oc)) := (F.out.below hb)
  have B_ : Hid (Below w.heap.size w w3) := (B.out.trans (hb.mono B.out.size))
  clear F B
  have F := F_
  have B := B_
  clear F_ B_
  have SW : Hid (SlI w3 w2.heap.size w3.heap.size vw ps) := ix
  clear ix m_ hb
  obtain ⟨F0, F1, F2, F3, F4⟩ := F.out.cells
  go_wp2_with fail
  refine (toEnd_any e.nx e.ak e.gt qa oa qc oc e.q e.o w3 (show Hid (TextsAt _ _ _) from hg.out.tq.stays B.out) (show Hid (TextsAt _ _ _) from hg.out.to.stays B.out) (by omega) (by omega)).mono ?_
  rintro r_ w4 ⟨v_, rfl, m_, hb⟩
  have z4 : w3.heap.size ≤ w4.heap.size := hb.size
  clear F0 F1 F2 F3 F4 
  have F_ : Hid (EndC w4 45 w.heap.size e.nx e.ak (.slice qa e.q.length qc) e.gt (.slice oa e.o.length oc)) := (F.out.below hb)
  have B_ : Hid (Below w.heap.size w w4) := (B.out.trans (hb.mono B.out.size))
  have SW_ : Hid (SlI w4 w2.heap.size w3.heap.size vw ps) := (SW.out.below hb)
  clear F B SW
  have F := F_
  have B := B_
  have SW := SW_
  clear F_ B_ SW_
  obtain ⟨xa, xc, xb, xd, rfl⟩ := endM_form m_
  have ix : EndI w4 w3.heap.size w4.heap.size (.agg #[.int .i64 e.nx, .int .i64 e.ak, .slice xa e.q.length xc, .int .i64 e.gt, .slice xb e.o.length xd]) e := EndI.new m_
  clear m_ hb
  dsimp only at ix ⊢
  have bx : Below w4.heap.size w4 (w4.alloc (Obj.cells #[Value.int IntKind.i64 e.nx, Value.int IntKind.i64 e.ak, Value.slice xa e.q.length xc, Value.int IntKind.i64 e.gt, Value.slice xb e.o.length xd] 32)) := (Below.refl _ _).alloc (Nat.le_refl _) _
  have cx := EndC.new w4 32 e.nx e.ak e.gt (.slice xa e.q.length xc) (.slice xb e.o.length xd)
  have z5 : (w4.alloc (Obj.cells #[Value.int IntKind.i64 e.nx, Value.int IntKind.i64 e.ak, Value.slice xa e.q.length xc, Value.int IntKind.i64 e.gt, Value.slice xb e.o.length xd] 32)).heap.size = w4.heap.size + 1 := by simp
  have F_ : Hid (EndC (w4.alloc (Obj.cells #[Value.int IntKind.i64 e.nx, Value.int IntKind.i64 e.ak, Value.slice xa e.q.length xc, Value.int IntKind.i64 e.gt, Value.slice xb e.o.length xd] 32)) 45 w.heap.size e.nx e.ak (.slice qa e.q.length qc) e.gt (.slice oa e.o.length oc)) := (F.out.below bx)
  have B_ : Hid (Below w.heap.size w (w4.alloc (Obj.cells #[Value.int IntKind.i64 e.nx, Value.int IntKind.i64 e.ak, Value.slice xa e.q.length xc, Value.int IntKind.i64 e.gt, Value.slice xb e.o.length xd] 32))) := (B.out.trans (bx.mono B.out.size))
  have SW_ : Hid (SlI (w4.alloc (Obj.cells #[Value.int IntKind.i64 e.nx, Value.int IntKind.i64 e.ak, Value.slice xa e.q.length xc, Value.int IntKind.i64 e.gt, Value.slice xb e.o.length xd] 32)) w2.heap.size w3.heap.size vw ps) := (SW.out.below bx)
  clear F B SW
  have F := F_
  have B := B_
  have SW := SW_
  clear F_ B_ SW_
  have CX : Hid (EndC (w4.alloc (Obj.cells #[Value.int IntKind.i64 e.nx, Value.int IntKind.i64 e.ak, Value.slice xa e.q.length xc, Value.int IntKind.i64 e.gt, Value.slice xb e.o.length xd] 32)) 32 w4.heap.size e.nx e.ak (.slice xa e.q.length xc) e.gt (.slice xb e.o.length xd)) := cx
  have IX : Hid (EndI (w4.alloc (Obj.cells #[Value.int IntKind.i64 e.nx, Value.int IntKind.i64 e.ak, Value.slice xa e.q.length xc, Value.int IntKind.i64 e.gt, Value.slice xb e.o.length xd] 32)) w3.heap.size w4.heap.size (.agg #[.int .i64 e.nx, .int .i64 e.ak, .slice xa e.q.length xc, .int .i64 e.gt, .slice xb e.o.length xd]) e) := EndI.below ix bx
  clear cx ix bx
  go_wp2_with fail
  generalize (w4.alloc (Obj.cells #[Value.int IntKind.i64 e.nx, Value.int IntKind.i64 e.ak, Value.slice xa e.q.length xc, Value.int IntKind.i64 e.gt, Value.slice xb e.o.length xd] 32)) = w5 at *
  refine (sendAgain_any (e := e) w5 IX.out.own (by omega) (by omega) (by omega)).mono ?_
  rintro r_ w6 ⟨vg, rfl, m_, hb⟩
  have z6 : w5.heap.size ≤ w6.heap.size := hb.size
  have ix : SlI w6 w5.heap.size w6.heap.size vg ps := by rw [HFE.out]; exact SlI.new m_
  have F_ : Hid (EndC w6 45 w.heap.size e.nx e.ak (.slice qa e.q.length qc) e.gt (.slice oa e.o.length oc)) := (F.out.below hb)
  have B_ : Hid (Below w.heap.size w w6) := (B.out.trans (hb.mono B.out.size))
  have SW_ : Hid (SlI w6 w2.heap.size w3.heap.size vw ps) := (SW.out.below hb)
  have CX_ : Hid (EndC w6 32 w4.heap.size e.nx e.ak (.slice xa e.q.length xc) e.gt (.slice xb e.o.length xd)) := (CX.out.below hb)
  have IX_ : Hid (EndI w6 w3.heap.size w4.heap.size (.agg #[.int .i64 e.nx, .int .i64 e.ak, .slice xa e.q.length xc, .int .i64 e.gt, .slice xb e.o.length xd]) e) := (IX.out.below hb)
  clear F B SW CX IX
  have F := F_
  have B := B_
  have SW := SW_
  have CX := CX_
  have IX := IX_
  clear F_ B_ SW_ CX_ IX_
  have SG : Hid (SlI w6 w5.heap.size w6.heap.size vg ps) := ix
  clear ix m_ hb
  go_wp2_with fail
  refine (eq_P w6 SG.out SW.out (by omega)).mono ?_
  rintro r_ w7 ⟨rfl, hb⟩
  have z7 : w6.heap.size ≤ w7.heap.size := hb.size
  have F_ : Hid (EndC w7 45 w.heap.size e.nx e.ak (.slice qa e.q.length qc) e.gt (.slice oa e.o.length oc)) := (F.out.below hb)
  have B_ : Hid (Below w.heap.size w w7) := (B.out.trans (hb.mono B.out.size))
  have SW_ : Hid (SlI w7 w2.heap.size w3.heap.size vw ps) := (SW.out.below hb)
  have CX_ : Hid (EndC w7 32 w4.heap.size e.nx e.ak (.slice xa e.q.length xc) e.gt (.slice xb e.o.length xd)) := (CX.out.below hb)
  have IX_ : Hid (EndI w7 w3.heap.size w4.heap.size (.agg #[.int .i64 e.nx, .int .i64 e.ak, .slice xa e.q.length xc, .int .i64 e.gt, .slice xb e.o.length xd]) e) := (IX.out.below hb)
  have SG_ : Hid (SlI w7 w5.heap.size w6.heap.size vg ps) := (SG.out.below hb)
  clear F B SW CX IX SG
  have F := F_
  have B := B_
  have SW := SW_
  have CX := CX_
  have IX := IX_
  have SG := SG_
  clear F_ B_ SW_ CX_ IX_ SG_
  clear hb
  go_wp2_with fail
  go_region_held3 (fun w' => w'.cell? ⟨w4.heap.size, 0, none⟩ = some (.int .i64 e.nx) ∧ w'.cell? ⟨w4.heap.size, 1, none⟩ = some (.int .i64 e.ak) ∧ w'.cell? ⟨w4.heap.size, 2, none⟩ = some (.slice xa e.q.length xc) ∧ w'.cell? ⟨w4.heap.size, 3, none⟩ = some (.int .i64 e.gt) ∧ w'.cell? ⟨w4.heap.size, 4, none⟩ = some (.slice xb e.o.length xd) ∧ w'.cell? ⟨w.heap.size, 0, none⟩ = some (.int .i64 e.nx) ∧ w'.cell? ⟨w.heap.size, 1, none⟩ = some (.int .i64 e.ak) ∧ w'.cell? ⟨w.heap.size, 2, none⟩ = some (.slice qa e.q.length qc) ∧ w'.cell? ⟨w.heap.size, 3, none⟩ = some (.int .i64 e.gt) ∧ w'.cell? ⟨w.heap.size, 4, none⟩ = some (.slice oa e.o.length oc)) (first | exact flat10 x8.cells f8.cells | exact flat10 x7.cells f7.cells | exact flat10 CX.out.cells F.out.cells)
    (first | (go_at_call 26; refine (toEnd_any e.nx e.ak e.gt qa oa qc oc e.q e.o _ (show Hid (TextsAt _ _ _) from hg.out.tq.stays B.out.drew) (show Hid (TextsAt _ _ _) from hg.out.to.stays B.out.drew) (by omega) (by omega)).mono ?_; rintro r_ w8 ⟨y, rfl, m7, hb7⟩; have x7 := EndC.below (show EndC w7.drew _ _ _ _ _ _ _ from CX.out) hb7; have f7 := EndC.below (show EndC w7.drew _ _ _ _ _ _ _ from F.out) hb7) | (go_at_call 27; refine (eqEnd_same (e := e) _ (EndM.r (EndM.stays (show EndM w7.drew _ _ _ from IX.out.own) hb7)) m7.r (by omega) (by omega)).mono ?_; rintro r_ w9 ⟨rfl, hb8⟩; have x8 := x7.below hb8; have f8 := f7.below hb8))
  have hb : Below w7.heap.size w7 w9 := ((Below.refl _ _).drew.trans (show Below w7.heap.size _ w8 from hb7)).trans (hb8.mono (show w7.heap.size ≤ w8.heap.size from hb7.size))
  have z9 : w7.heap.size ≤ w9.heap.size := hb.size
  clear x7 f7 x8 f8 m7 hb7 hb8
  have F_ : Hid (EndC w9 45 w.heap.size e.nx e.ak (.slice qa e.q.length qc) e.gt (.slice oa e.o.length oc)) := (F.out.below hb)
  have B_ : Hid (Below w.heap.size w w9) := (B.out.trans (hb.mono B.out.size))
  have SW_ : Hid (SlI w9 w2.heap.size w3.heap.size vw ps) := (SW.out.below hb)
  have CX_ : Hid (EndC w9 32 w4.heap.size e.nx e.ak (.slice xa e.q.length xc) e.gt (.slice xb e.o.length xd)) := (CX.out.below hb)
  have IX_ : Hid (EndI w9 w3.heap.size w4.heap.size (.agg #[.int .i64 e.nx, .int .i64 e.ak, .slice xa e.q.length xc, .int .i64 e.gt, .slice xb e.o.length xd]) e) := (IX.out.below hb)
  have SG_ : Hid (SlI w9 w5.heap.size w6.heap.size vg ps) := (SG.out.below hb)
  clear F B SW CX IX SG
  have F := F_
  have B := B_
  have SW := SW_
  have CX := CX_
  have IX := IX_
  have SG := SG_
  clear F_ B_ SW_ CX_ IX_ SG_
  clear hb
  obtain ⟨CX0, CX1, CX2, CX3, CX4⟩ := CX.out.cells
  go_wp2_with fail
  refine (mark_I w9 IX.out (by omega)).mono ?_
  rintro r_ w10 ⟨rfl, hgr, f1, hq1, hq2, hm1, hm2, ix⟩
  have z10 : w9.heap.size ≤ w10.heap.size := hgr.size
  clear IX hm1 hm2 ix hq1 hq2 f1
  clear CX0 CX1 CX2 CX3 CX4 
  have F_ : Hid (EndC w10 45 w.heap.size e.nx e.ak (.slice qa e.q.length qc) e.gt (.slice oa e.o.length oc)) := (F.out.gr hgr (by omega))
  have B_ : Hid (Below w.heap.size w w10) := (GrI.below' B.out hgr (by omega) (by omega))
  have SW_ : Hid (SlI w10 w2.heap.size w3.heap.size vw ps) := (SW.out.gr hgr (by omega))
  have CX_ : Hid (EndC w10 32 w4.heap.size e.nx e.ak (.slice xa e.q.length xc) e.gt (.slice xb e.o.length xd)) := (CX.out.gr hgr (by omega))
  have SG_ : Hid (SlI w10 w5.heap.size w6.heap.size vg ps) := (SG.out.gr hgr (by omega))
  clear F B SW CX SG
  have F := F_
  have B := B_
  have SW := SW_
  have CX := CX_
  have SG := SG_
  clear F_ B_ SW_ CX_ SG_
  clear hgr
  have hk : decide (((1 + e.q.length + e.o.length : Nat) : Int) < 0) = false := by simp; omega
  go_wp2_with fail
  clear hk
  refine (eq_P w10 SG.out SW.out (by omega)).mono ?_
  rintro r_ w11 ⟨rfl, hb⟩
  have z11 : w10.heap.size ≤ w11.heap.size := hb.size
  have F_ : Hid (EndC w11 45 w.heap.size e.nx e.ak (.slice qa e.q.length qc) e.gt (.slice oa e.o.length oc)) := (F.out.below hb)
  have B_ : Hid (Below w.heap.size w w11) := (B.out.trans (hb.mono B.out.size))
  have SW_ : Hid (SlI w11 w2.heap.size w3.heap.size vw ps) := (SW.out.below hb)
  have CX_ : Hid (EndC w11 32 w4.heap.size e.nx e.ak (.slice xa e.q.length xc) e.gt (.slice xb e.o.length xd)) := (CX.out.below hb)
  have SG_ : Hid (SlI w11 w5.heap.size w6.heap.size vg ps) := (SG.out.below hb)
  clear F B SW CX SG
  have F := F_
  have B := B_
  have SW := SW_
  have CX := CX_
  have SG := SG_
  clear F_ B_ SW_ CX_ SG_
  clear hb
  go_wp2_with fail
  refine (mark_P 1 w11 SG.out (by omega) (by omega)).mono ?_
  rintro r_ w12 ⟨rfl, hgr, xs, hq1, hm1, ix⟩
  have z12 : w11.heap.size ≤ w12.heap.size := hgr.size
  have HM1 : Hid (MarkedP xs 1 xs.length) := hm1
  clear SG hm1
  have F_ : Hid (EndC w12 45 w.heap.size e.nx e.ak (.slice qa e.q.length qc) e.gt (.slice oa e.o.length oc)) := (F.out.gr hgr (by omega))
  have B_ : Hid (Below w.heap.size w w12) := (GrI.below' B.out hgr (by omega) (by omega))
  have SW_ : Hid (SlI w12 w2.heap.size w3.heap.size vw ps) := (SW.out.gr hgr (by omega))
  have CX_ : Hid (EndC w12 32 w4.heap.size e.nx e.ak (.slice xa e.q.length xc) e.gt (.slice xb e.o.length xd)) := (CX.out.gr hgr (by omega))
  clear F B SW CX
  have F := F_
  have B := B_
  have SW := SW_
  have CX := CX_
  clear F_ B_ SW_ CX_
  clear hgr
  have SG : Hid (SlI w12 w5.heap.size w6.heap.size vg xs) := ix
  clear ix
  go_wp2_with fail
  refine (held_P 1 w12 SG.out ps.length hq1 (by omega) (by omega) HM1.out).mono ?_
  rintro r_ w13 ⟨rfl, hb⟩
  have z13 : w12.heap.size ≤ w13.heap.size := hb.size
  have F_ : Hid (EndC w13 45 w.heap.size e.nx e.ak (.slice qa e.q.length qc) e.gt (.slice oa e.o.length oc)) := (F.out.below hb)
  have B_ : Hid (Below w.heap.size w w13) := (B.out.trans (hb.mono B.out.size))
  have SW_ : Hid (SlI w13 w2.heap.size w3.heap.size vw ps) := (SW.out.below hb)
  have CX_ : Hid (EndC w13 32 w4.heap.size e.nx e.ak (.slice xa e.q.length xc) e.gt (.slice xb e.o.length xd)) := (CX.out.below hb)
  have SG_ : Hid (SlI w13 w5.heap.size w6.heap.size vg xs) := (SG.out.below hb)
  clear F B SW CX SG
  have F := F_
  have B := B_
  have SW := SW_
  have CX := CX_
  have SG := SG_
  clear F_ B_ SW_ CX_ SG_
  clear hb
  have hk : decide (((1 + ps.length * 3 : Nat) : Int) < 0) = false := by simp; omega
  obtain ⟨F0, F1, F2, F3, F4⟩ := F.out.cells
  go_wp2_with fail
  clear hk
  refine (toEnd_any e.nx e.ak e.gt qa oa qc oc e.q e.o w13 (show Hid (TextsAt _ _ _) from hg.out.tq.stays B.out) (show Hid (TextsAt _ _ _) from hg.out.to.stays B.out) (by omega) (by omega)).mono ?_
  rintro r_ w14 ⟨v_, rfl, m_, hb⟩
  have z14 : w13.heap.size ≤ w14.heap.size := hb.size
  clear F0 F1 F2 F3 F4 
  have F_ : Hid (EndC w14 45 w.heap.size e.nx e.ak (.slice qa e.q.length qc) e.gt (.slice oa e.o.length oc)) := (F.out.below hb)
  have B_ : Hid (Below w.heap.size w w14) := (B.out.trans (hb.mono B.out.size))
  have SW_ : Hid (SlI w14 w2.heap.size w3.heap.size vw ps) := (SW.out.below hb)
  have CX_ : Hid (EndC w14 32 w4.heap.size e.nx e.ak (.slice xa e.q.length xc) e.gt (.slice xb e.o.length xd)) := (CX.out.below hb)
  have SG_ : Hid (SlI w14 w5.heap.size w6.heap.size vg xs) := (SG.out.below hb)
  clear F B SW CX SG
  have F := F_
  have B := B_
  have SW := SW_
  have CX := CX_
  have SG := SG_
  clear F_ B_ SW_ CX_ SG_
  clear hb
  go_wp2_with fail
  refine (sendAgain_any (e := e) w14 (show EndM _ _ _ e from m_) (by omega) (by omega) (by omega)).mono ?_
  rintro r_ w15 ⟨vh, rfl, m_, hb⟩
  have z15 : w14.heap.size ≤ w15.heap.size := hb.size
  have ix : SlI w15 w14.heap.size w15.heap.size vh ps := by rw [HFE.out]; exact SlI.new m_
  have F_ : Hid (EndC w15 45 w.heap.size e.nx e.ak (.slice qa e.q.length qc) e.gt (.slice oa e.o.length oc)) := (F.out.below hb)
  have B_ : Hid (Below w.heap.size w w15) := (B.out.trans (hb.mono B.out.size))
  have SW_ : Hid (SlI w15 w2.heap.size w3.heap.size vw ps) := (SW.out.below hb)
  have CX_ : Hid (EndC w15 32 w4.heap.size e.nx e.ak (.slice xa e.q.length xc) e.gt (.slice xb e.o.length xd)) := (CX.out.below hb)
  have SG_ : Hid (SlI w15 w5.heap.size w6.heap.size vg xs) := (SG.out.below hb)
  clear F B SW CX SG
  have F := F_
  have B := B_
  have SW := SW_
  have CX := CX_
  have SG := SG_
  clear F_ B_ SW_ CX_ SG_
  have SH : Hid (SlI w15 w14.heap.size w15.heap.size vh ps) := ix
  clear ix m_ hb
  go_wp2_with fail
  refine (eq_P w15 SH.out SW.out (by omega)).mono ?_
  rintro r_ w16 ⟨rfl, hb⟩
  have z16 : w15.heap.size ≤ w16.heap.size := hb.size
  have F_ : Hid (EndC w16 45 w.heap.size e.nx e.ak (.slice qa e.q.length qc) e.gt (.slice oa e.o.length oc)) := (F.out.below hb)
  have B_ : Hid (Below w.heap.size w w16) := (B.out.trans (hb.mono B.out.size))
  have SW_ : Hid (SlI w16 w2.heap.size w3.heap.size vw ps) := (SW.out.below hb)
  have CX_ : Hid (EndC w16 32 w4.heap.size e.nx e.ak (.slice xa e.q.length xc) e.gt (.slice xb e.o.length xd)) := (CX.out.below hb)
  have SG_ : Hid (SlI w16 w5.heap.size w6.heap.size vg xs) := (SG.out.below hb)
  have SH_ : Hid (SlI w16 w14.heap.size w15.heap.size vh ps) := (SH.out.below hb)
  clear F B SW CX SG SH
  have F := F_
  have B := B_
  have SW := SW_
  have CX := CX_
  have SG := SG_
  have SH := SH_
  clear F_ B_ SW_ CX_ SG_ SH_
  clear hb
  go_wp2_with fail
  refine (held_P 1 w16 SG.out ps.length hq1 (by omega) (by omega) HM1.out).mono ?_
  rintro r_ w17 ⟨rfl, hb⟩
  have z17 : w16.heap.size ≤ w17.heap.size := hb.size
  have F_ : Hid (EndC w17 45 w.heap.size e.nx e.ak (.slice qa e.q.length qc) e.gt (.slice oa e.o.length oc)) := (F.out.below hb)
  have B_ : Hid (Below w.heap.size w w17) := (B.out.trans (hb.mono B.out.size))
  have SW_ : Hid (SlI w17 w2.heap.size w3.heap.size vw ps) := (SW.out.below hb)
  have CX_ : Hid (EndC w17 32 w4.heap.size e.nx e.ak (.slice xa e.q.length xc) e.gt (.slice xb e.o.length xd)) := (CX.out.below hb)
  have SG_ : Hid (SlI w17 w5.heap.size w6.heap.size vg xs) := (SG.out.below hb)
  have SH_ : Hid (SlI w17 w14.heap.size w15.heap.size vh ps) := (SH.out.below hb)
  clear F B SW CX SG SH
  have F := F_
  have B := B_
  have SW := SW_
  have CX := CX_
  have SG := SG_
  have SH := SH_
  clear F_ B_ SW_ CX_ SG_ SH_
  clear hb
  have hk : decide (((1 + ps.length * 3 : Nat) : Int) < 0) = false := by simp; omega
  go_wp2_with fail
  go_ret
  exact ⟨rfl, B.out⟩
end Go.Proofs.Ytohagaelenhebaa
