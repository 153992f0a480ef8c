/- The walk over the specification's SendAgain. -/
import Derived.Test.YtohagaelenhebaaE2
import Derived.Test.YtohagaelenhebaaQ4
import Derived.Deep.RegionHeld3
namespace Go.Proofs.Ytohagaelenhebaa
open Go.RowKit Pl Go.Conc
set_option linter.unusedVariables false

set_option maxRecDepth 100000 in
set_option maxHeartbeats 4000000 in
theorem spSendAgain_any {v : Value} {e : En} (w : World) (h : EndR w v e) (lq : e.q.length ≤ 1048576) (lo : e.o.length ≤ 1048576) :
    Calls Try.prog 35 #[v] w fun r w' => ∃ v', r = .returned v' ∧ SlP w' w.heap.size v' (againL e) ∧ Below w.heap.size w w' := by
  have HR : Hid (EndR w v e) := h
  obtain ⟨qa, qc, oa, oc, rfl, hq, ho⟩ := h
  have HQ : Hid (TextsAt w qa e.q) := hq
  clear hq ho
  go_enter Try.func35, Try.ntmps35
  go_wp2_with fail
  have hb0 : Below w.heap.size w ((w.alloc (.cells #[.int .i64 e.nx, .int .i64 e.ak, .slice qa e.q.length qc, .int .i64 e.gt, .slice oa e.o.length oc] 32)).alloc (.cells #[] 41)) := ((Below.refl _ _).alloc (Nat.le_refl _) _).alloc (by simp) _
  have E0 : EndC ((w.alloc (.cells #[.int .i64 e.nx, .int .i64 e.ak, .slice qa e.q.length qc, .int .i64 e.gt, .slice oa e.o.length oc] 32)).alloc (.cells #[] 41)) 32 w.heap.size e.nx e.ak (.slice qa e.q.length qc) e.gt (.slice oa e.o.length oc) := (EndC.new w 32 e.nx e.ak e.gt _ _).below ((Below.refl _ _).alloc (Nat.le_refl _) _)
  have S0 : SlP ((w.alloc (.cells #[.int .i64 e.nx, .int .i64 e.ak, .slice qa e.q.length qc, .int .i64 e.gt, .slice oa e.o.length oc] 32)).alloc (.cells #[] 41)) (w.heap.size + 1) (.slice (some ⟨w.heap.size + 1, 0, none⟩) 0 0) [] := by
    have := Sl.made (w.alloc (.cells #[.int .i64 e.nx, .int .i64 e.ak, .slice qa e.q.length qc, .int .i64 e.gt, .slice oa e.o.length oc] 32)) 41 3 (w.heap.size + 1) (by simp)
    simpa [SlP, cellsP] using this
  have z0 : ((w.alloc (.cells #[.int .i64 e.nx, .int .i64 e.ak, .slice qa e.q.length qc, .int .i64 e.gt, .slice oa e.o.length oc] 32)).alloc (.cells #[] 41)).heap.size = w.heap.size + 2 := by simp
  generalize ((w.alloc (.cells #[.int .i64 e.nx, .int .i64 e.ak, .slice qa e.q.length qc, .int .i64 e.gt, .slice oa e.o.length oc] 32)).alloc (.cells #[] 41)) = W at *
  refine (spEndOk_any W (EndR.stays HR.out hb0) lq lo).mono ?_
  rintro r w1 ⟨rfl, hb1⟩
  have HB1 : Hid (Below w.heap.size w w1) := hb0.trans (hb1.mono hb0.size)
  have HE1 : Hid (EndC w1 32 w.heap.size e.nx e.ak (.slice qa e.q.length qc) e.gt (.slice oa e.o.length oc)) := E0.below hb1
  have HS1 : Hid (SlP w1 (w.heap.size + 1) (.slice (some ⟨w.heap.size + 1, 0, none⟩) 0 0) []) := Sl.below S0 hb1
  have z1 : w.heap.size + 2 ≤ w1.heap.size := by have := hb1.size; omega
  clear E0 S0 hb0 hb1 HR
  cases hok : okB e with
  | false =>
    go_wp2_with fail
    go_ret
    refine ⟨_, rfl, ?_, HB1.out⟩
    unfold againL
    rw [hok]
    exact Sl.down HS1.out (by omega)
  | true =>
    have hp := okB_true.1 hok
    have ha0 := hp.a0
    have ha1 := hp.a1
    have hn0 := hp.n0
    have hn1 := hp.n1
    have hq0 := hp.q0
    go_wp2_with fail
    have ww : IntKind.i64.wrap (e.nx - e.ak) = (sent e : Int) := by rw [IntKind.wrap_i64]; unfold sent; omega
    have hse : sent e ≤ e.q.length := by unfold sent; omega
    have hs4 : sent e ≤ 4 := by unfold sent; omega
    go_loopw [3, 4] (fun u i wr => ∃ k : Nat, k ≤ sent e ∧ i = .int .i64 k ∧ Hid (SlP wr (w.heap.size + 1) u (parcs e 0 k)) ∧ Hid (EndC wr 32 w.heap.size e.nx e.ak (.slice qa e.q.length qc) e.gt (.slice oa e.o.length oc)) ∧ Hid (Below w.heap.size w wr) ∧ w.heap.size + 2 ≤ wr.heap.size) (fun _ i _ => sent e - (intOf i).toNat)
    case atStart => exact ⟨0, Nat.zero_le _, rfl, HS1.out, HE1.out, HB1.out, z1⟩
    case round =>
      obtain ⟨k, hk, rfl, hS, hE, hB, hz⟩ := hrel
      clear HS1 HE1 HB1
      obtain ⟨c0, c1, c2, c3, c4⟩ := hE.out.cells
      by_cases hlt : k < sent e
      · have hd : decide ((k : Int) < (sent e : Int)) = true := by simp; omega
        have hd2 : decide ((k : Int) < e.nx - e.ak) = true := by simp; unfold sent at hlt; omega
        obtain ⟨g, off, rfl, hgl, hgc⟩ := HQ.out k (by omega)
        have hgc1 : wr.cell? ⟨g, off + k, none⟩ = some (.string (e.q[k]'(by omega))) := (hB.out.cell (p := ⟨g, off + k, none⟩) hgl).trans hgc
        obtain ⟨x, hx⟩ : ∃ x, x = e.q[k]'(by omega) := ⟨_, rfl⟩
        rw [← hx] at hgc1
        have HX : Hid (parc e k = (e.ak + (k : Int) + 1, e.gt, x)) := by
          show parc e k = _
          unfold parc
          rw [hx, List.getD_eq_getElem?_getD, List.getElem?_eq_getElem (show k < e.q.length by omega)]
          rfl
        clear hx hgc
        have hq1 : (0 : Int) ≤ (k : Int) := by omega
        have hq2 : (k : Int) < (e.q.length : Int) := by omega
        have w1' : IntKind.i64.wrap (e.ak + (k : Int)) = e.ak + (k : Int) := by rw [IntKind.wrap_i64]; omega
        have w2' : IntKind.i64.wrap (e.ak + (k : Int) + 1) = e.ak + (k : Int) + 1 := by rw [IntKind.wrap_i64]; omega
        obtain ⟨ua, uc, rfl⟩ := Sl.form hS.out
        have hpl : (parcs e 0 k).length = k := parcs_length _ _ _
        rw [hpl] at hS ⊢
        have keepA : ∀ o : Obj, (wr.drew.alloc o).cell? ⟨w.heap.size, 1, none⟩ = some (.int .i64 e.ak) ∧ (wr.drew.alloc o).cell? ⟨w.heap.size, 2, none⟩ = some (.slice (some ⟨g, off, none⟩) e.q.length qc) ∧ (wr.drew.alloc o).cell? ⟨w.heap.size, 3, none⟩ = some (.int .i64 e.gt) ∧ (wr.drew.alloc o).cell? ⟨g, off + k, none⟩ = some (.string x) := fun o => by
          have hbo : Below wr.heap.size wr (wr.drew.alloc o) := (Below.refl _ _).drew.alloc (Nat.le_refl _) o
          have hE2 := hE.out.below hbo
          exact ⟨hE2.cells.2.1, hE2.cells.2.2.1, hE2.cells.2.2.2.1, (hbo.cell (p := ⟨g, off + k, none⟩) (show g < wr.heap.size by omega)).trans hgc1⟩
        go_wp2_with fail
        have hne : ∀ j, (Value.slice ua k uc).ownBlock = some j → w.heap.size + 1 ≤ j := fun j hj => (Sl.lt hS.out j hj).1
        go_region_held3 (fun w' => w'.cell? ⟨w.heap.size, 1, none⟩ = some (.int .i64 e.ak) ∧ w'.cell? ⟨w.heap.size, 2, none⟩ = some (.slice (some ⟨g, off, none⟩) e.q.length qc) ∧ w'.cell? ⟨w.heap.size, 3, none⟩ = some (.int .i64 e.gt) ∧ w'.cell? ⟨g, off + k, none⟩ = some (.string x))
          (first | exact ⟨E4.cells.2.1, E4.cells.2.2.1, E4.cells.2.2.2.1, t4⟩ | exact ⟨c1, c2, c3, hgc1⟩ | exact keepA _)
          (first | (refine step_pushP (by rfl) _ _ 35 (by rfl) Try.underlying35 Try.infoP (by rfl) (show SlP wr.drew _ _ _ from hS.out) (e.ak + (k : Int) + 1, e.gt, x) (by rfl) (by rfl) (by rw [parcs_length]; omega) (by show w.heap.size + 1 ≤ wr.heap.size; omega) ?_; intro v4 w4 S4 G4 Z4 L4; have E4 := EndC.kept (show EndC wr.drew _ _ _ _ _ _ _ from hE.out) G4 (fun he => by have := hne _ he.symm; omega); have t4 : w4.cell? ⟨g, off + k, none⟩ = some (.string x) := by (rw [← hgc1]; simp only [World.cell?]; rw [G4.block g (show g < wr.heap.size by omega) (fun he => by have := hne _ he.symm; omega)]; rfl)))
        have HS4 : Hid (SlP w4 (w.heap.size + 1) v4 (parcs e 0 (k + 1))) := by
          rw [parcs_succ, Nat.zero_add, HX.out]
          exact S4
        have HE4 : Hid (EndC w4 32 w.heap.size e.nx e.ak (.slice (some ⟨g, off, none⟩) e.q.length qc) e.gt (.slice oa e.o.length oc)) := E4
        have HB4 : Hid (Below w.heap.size w w4) := by
          refine hB.out.drew.trans ⟨G4.os, G4.tape, G4.output, G4.size, fun j hj => G4.block j (show j < wr.heap.size by omega) (fun he => by have := hne _ he.symm; omega)⟩
        have z4 : w.heap.size + 2 ≤ w4.heap.size := by have : wr.heap.size + 1 ≤ w4.heap.size := Z4; omega
        clear S4 G4 Z4 L4 E4 t4 hS hE hB c0 c1 c2 c3 c4 hgc1 hne
        go_wp2_with fail
        go_roundw
        case rel => exact ⟨k + 1, by omega, by go_num, HS4.out, HE4.out, HB4.out, z4⟩
        case measure => simp [intOf]; omega
      · have hd : decide ((k : Int) < (sent e : Int)) = false := by simp; omega
        have hks : k = sent e := by omega
        have hd2 : decide ((k : Int) < e.nx - e.ak) = false := by simp; unfold sent at hks; omega
        have hpl : (parcs e 0 k).length = k := parcs_length _ _ _
        obtain ⟨ua, uc, rfl⟩ := Sl.form hS.out
        by_cases hk0 : k = 0
        · have HG : Hid (againL e = [(0, e.gt, ByteArray.empty)]) := by
            show againL e = _
            unfold againL againP
            rw [hok, if_pos rfl, if_neg (by unfold sent at hks; omega)]
          have HS0 : Hid (SlP wr (w.heap.size + 1) (.slice ua (parcs e 0 k).length uc) []) := by
            have := hS.out
            rw [hk0] at this ⊢
            exact this
          rw [hpl, hk0] at HS0 ⊢
          have hd0 : decide (((0 : Nat) : Int) < (sent e : Int)) = false := by simp; omega
          have hd00 : decide ((0 : Int) < (sent e : Int)) = false := by simp; omega
          have hd01 : decide ((0 : Int) < e.nx - e.ak) = false := by simp; unfold sent at hks; omega
          clear hS hd hd2 hpl
          go_wp2_with (at_builtin; refine Stop.mk ?_)
          refine Stop.go ?_
          refine wpList_pushP rfl _ _ 35 rfl Try.underlying35 Try.infoP (by rfl) HS0.out (0, e.gt, ⟨#[]⟩) rfl (by rfl) (by simp) (by omega) ?_
          intro v4 w4 S4 G4 Z4 L4
          have HS4 : Hid (SlP w4 (w.heap.size + 1) v4 [(0, e.gt, ByteArray.empty)]) := S4
          have HB4 : Hid (Below w.heap.size w w4) := by
            refine hB.out.trans ⟨G4.os, G4.tape, G4.output, G4.size, fun j hj => G4.block j (by omega) (fun he => by have := (Sl.lt HS0.out _ he.symm).1; omega)⟩
          clear S4 G4 Z4 L4
          go_wp2_with fail
          go_ret
          refine ⟨_, rfl, ?_, HB4.out⟩
          rw [HG.out]
          exact Sl.down HS4.out (by omega)
        · have HG : Hid (againL e = parcs e 0 k) := by
            show againL e = _
            unfold againL againP
            rw [hok, if_pos rfl, if_pos (by unfold sent at hks; omega), hks]
          have hkk : ¬ ((k : Int) = 0) := by omega
          rw [hpl] at hS ⊢
          go_wp2_with fail
          go_ret
          refine ⟨_, rfl, ?_, hB.out⟩
          rw [HG.out]
          exact Sl.down hS.out (by omega)
end Go.Proofs.Ytohagaelenhebaa
