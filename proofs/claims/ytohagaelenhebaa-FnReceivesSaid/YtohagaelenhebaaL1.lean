/- The walk over the law on EndOk. -/
import Derived.Test.YtohagaelenhebaaE1
import Derived.Test.YtohagaelenhebaaE2
import Derived.Test.YtohagaelenhebaaE3
import Derived.Deep.RegionHeld3
namespace Go.Proofs.Ytohagaelenhebaa
open Go.RowKit Pl
set_option linter.unusedVariables false

theorem endM_form {w : World} {B : Nat} {v : Value} {e : En} (h : EndM w B v e) : ∃ qa qc oa oc, v = .agg #[.int .i64 e.nx, .int .i64 e.ak, .slice qa e.q.length qc, .int .i64 e.gt, .slice oa e.o.length oc] := by
  obtain ⟨qv, ov, rfl, h1, h2, _⟩ := h
  obtain ⟨qa, qc, rfl⟩ := Sl.form h1
  obtain ⟨oa, oc, rfl⟩ := Sl.form h2
  exact ⟨qa, qc, oa, oc, rfl⟩
theorem flat10 {a b c d e f g h i j : Prop} (x : a ∧ b ∧ c ∧ d ∧ e) (y : f ∧ g ∧ h ∧ i ∧ j) : a ∧ b ∧ c ∧ d ∧ e ∧ f ∧ g ∧ h ∧ i ∧ j :=
  ⟨x.1, x.2.1, x.2.2.1, x.2.2.2.1, x.2.2.2.2, y⟩

/-- a law's end, handed in. -/
structure Given (w : World) (qa oa : Option Addr) (q o : List ByteArray) : Prop where
  tq : TextsAt w qa q
  to : TextsAt w oa o
  lq : q.length ≤ maxLen
  lo : o.length ≤ maxLen
  sq : ∀ t ∈ q, t.size ≤ maxLen
  so : ∀ t ∈ o, t.size ≤ maxLen

set_option maxRecDepth 100000 in
set_option maxHeartbeats 4000000 in
theorem lawEndOk (nx ak gt : Int) (qa oa : Option Addr) (qc oc : Nat) (q o : List ByteArray) (w : World) (hg : Hid (Given w qa oa q o)) :
    Calls Try.prog 6 #[.agg #[.int .i64 nx, .int .i64 ak, .slice qa q.length qc, .int .i64 gt, .slice oa o.length oc]] w fun e w' => e = .returned (.bool true) ∧ Below w.heap.size w w' := by
  go_enter Try.func6, Try.ntmps6
  go_wp2_with fail
  have HB : Below w.heap.size w (w.alloc (Obj.cells #[Value.int IntKind.i64 nx, Value.int IntKind.i64 ak, Value.slice qa q.length qc, Value.int IntKind.i64 gt, Value.slice oa o.length oc] 45)) := (Below.refl _ _).alloc (Nat.le_refl _) _
  have E0 := EndC.new w 45 nx ak gt (.slice qa q.length qc) (.slice oa o.length oc)
  generalize (w.alloc (Obj.cells #[Value.int IntKind.i64 nx, Value.int IntKind.i64 ak, Value.slice qa q.length qc, Value.int IntKind.i64 gt, Value.slice oa o.length oc] 45)) = W0 at *
  refine (szEnd_any nx ak gt qa oa qc oc q o W0 (show Hid (TextsAt _ _ _) from hg.out.tq.stays HB) (show Hid (TextsAt _ _ _) from hg.out.to.stays HB) hg.out.lq hg.out.lo hg.out.sq hg.out.so).mono ?_
  rintro e w1 ⟨hr | ⟨r, hr, hf⟩, hb1⟩
  · subst hr
    have B1 : Hid (Below w.heap.size w w1) := HB.trans (hb1.mono HB.size)
    clear E0 hb1 HB
    go_wp2_with fail
    go_ret
    exact ⟨rfl, B1.out⟩
  subst hr
  have hl := hf.out.1
  have B1 : Hid (Below w.heap.size w w1) := HB.trans (hb1.mono HB.size)
  have hd : decide ((r : Int) < 0) = false := by simp
  have F1 : Hid (EndC w1 45 w.heap.size nx ak (.slice qa q.length qc) gt (.slice oa o.length oc)) := E0.below hb1
  obtain ⟨a0, a1, a2, a3, a4⟩ := F1.out.cells
  clear E0 hb1 HB
  go_wp2_with fail
  refine (toEnd_any nx ak gt qa oa qc oc q o w1 (show Hid (TextsAt _ _ _) from hg.out.tq.stays B1.out) (show Hid (TextsAt _ _ _) from hg.out.to.stays B1.out) (by omega) (by omega)).mono ?_
  rintro e w2 ⟨v, rfl, M2, hb2⟩
  have B2 : Hid (Below w.heap.size w w2) := B1.out.trans (hb2.mono B1.out.size)
  have F2 : Hid (EndC w2 45 w.heap.size nx ak (.slice qa q.length qc) gt (.slice oa o.length oc)) := F1.out.below hb2
  clear a0 a1 a2 a3 a4 F1 hb2 hd
  go_wp2_with fail
  refine (spEndOk_any w2 M2.r (by dsimp only; omega) (by dsimp only; omega)).mono ?_
  rintro e w3 ⟨rfl, hb3⟩
  have B3 : Hid (Below w.heap.size w w3) := B2.out.trans (hb3.mono B2.out.size)
  have F3 : Hid (EndC w3 45 w.heap.size nx ak (.slice qa q.length qc) gt (.slice oa o.length oc)) := F2.out.below hb3
  obtain ⟨a0, a1, a2, a3, a4⟩ := F3.out.cells
  clear F2 hb3 M2 B2 B1
  go_wp2_with fail
  refine (toEnd_any nx ak gt qa oa qc oc q o w3 (show Hid (TextsAt _ _ _) from hg.out.tq.stays B3.out) (show Hid (TextsAt _ _ _) from hg.out.to.stays B3.out) (by omega) (by omega)).mono ?_
  rintro e w4 ⟨x, rfl, M4, hb4⟩
  obtain ⟨xa, xc, ya, yc, rfl⟩ := endM_form M4
  have B4 : Hid (Below w.heap.size w w4) := B3.out.trans (hb4.mono B3.out.size)
  have F4 : EndC w4 45 w.heap.size nx ak (.slice qa q.length qc) gt (.slice oa o.length oc) := F3.out.below hb4
  have hlt : w.heap.size < w4.heap.size := F4.lt
  clear a0 a1 a2 a3 a4 F3 hb4 B3
  dsimp only at *
  go_wp2_with fail
  have HB5 : Below w4.heap.size w4 (w4.alloc (Obj.cells #[Value.int IntKind.i64 nx, Value.int IntKind.i64 ak, Value.slice xa q.length xc, Value.int IntKind.i64 gt, Value.slice ya o.length yc] 32)) := (Below.refl _ _).alloc (Nat.le_refl _) _
  have X5 := EndC.new w4 32 nx ak gt (.slice xa q.length xc) (.slice ya o.length yc)
  have F5 := F4.below HB5
  have M5 := M4.stays HB5
  have B5 : Hid (Below w.heap.size w _) := B4.out.trans (HB5.mono B4.out.size)
  generalize (w4.alloc (Obj.cells #[Value.int IntKind.i64 nx, Value.int IntKind.i64 ak, Value.slice xa q.length xc, Value.int IntKind.i64 gt, Value.slice ya o.length yc] 32)) = W5 at *
  clear F4 M4 HB5 B4
  refine (endOk_any W5 M5.r (by dsimp only; omega) (by dsimp only; omega)).mono ?_
  rintro e w6 ⟨rfl, hb6⟩
  have B6 : Hid (Below w.heap.size w w6) := B5.out.trans (hb6.mono B5.out.size)
  have F6 : Hid (EndC w6 45 w.heap.size nx ak (.slice qa q.length qc) gt (.slice oa o.length oc)) := F5.below hb6
  have X6 : Hid (EndC w6 32 w4.heap.size nx ak (.slice xa q.length xc) gt (.slice ya o.length yc)) := X5.below hb6
  have M6 : Hid _ := M5.stays hb6
  clear X5 F5 M5 hb6 B5
  go_wp2_with fail
  go_region_held3 (fun w' => w'.cell? ⟨w4.heap.size, 0, none⟩ = some (.int .i64 nx) ∧ w'.cell? ⟨w4.heap.size, 1, none⟩ = some (.int .i64 ak) ∧ w'.cell? ⟨w4.heap.size, 2, none⟩ = some (.slice xa q.length xc) ∧ w'.cell? ⟨w4.heap.size, 3, none⟩ = some (.int .i64 gt) ∧ w'.cell? ⟨w4.heap.size, 4, none⟩ = some (.slice ya o.length yc) ∧ w'.cell? ⟨w.heap.size, 0, none⟩ = some (.int .i64 nx) ∧ w'.cell? ⟨w.heap.size, 1, none⟩ = some (.int .i64 ak) ∧ w'.cell? ⟨w.heap.size, 2, none⟩ = some (.slice qa q.length qc) ∧ w'.cell? ⟨w.heap.size, 3, none⟩ = some (.int .i64 gt) ∧ w'.cell? ⟨w.heap.size, 4, none⟩ = some (.slice oa o.length oc)) (first | exact flat10 X8.cells F8.cells | exact flat10 X7.cells F7.cells | exact flat10 X6.out.cells F6.out.cells)
    (first | (go_at_call 26; refine (toEnd_any nx ak gt qa oa qc oc q o _ (show Hid (TextsAt _ _ _) from hg.out.tq.stays B6.out.drew) (show Hid (TextsAt _ _ _) from hg.out.to.stays B6.out.drew) (by omega) (by omega)).mono ?_; rintro e w7 ⟨y, rfl, M7, hb7⟩; have X7 := EndC.below (show EndC w6.drew _ _ _ _ _ _ _ from X6.out) hb7; have F7 := EndC.below (show EndC w6.drew _ _ _ _ _ _ _ from F6.out) hb7) | (go_at_call 27; refine (eqEnd_same (e := ⟨nx, ak, q, gt, o⟩) _ (EndM.r (EndM.stays (show EndM w6.drew _ _ _ from M6.out) hb7)) M7.r (show q.length ≤ 1048577 by omega) (show o.length ≤ 1048577 by omega)).mono ?_; rintro e w8 ⟨rfl, hb8⟩; have X8 := X7.below hb8; have F8 := F7.below hb8))
  have B8 : Hid (Below w.heap.size w w8) := (B6.out.drew.trans (hb7.mono B6.out.size)).trans (hb8.mono (Nat.le_trans B6.out.size hb7.size))
  clear X7 F7 X8 F8 M7 hb7 hb8 F6 X6 M6
  go_wp2_with fail
  go_ret
  exact ⟨rfl, B8.out⟩
end Go.Proofs.Ytohagaelenhebaa
