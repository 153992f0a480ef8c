/- The walks over the program's offer and its Offer. -/
import Derived.Test.YtohagaelenhebaaP1
import Derived.Deep.RegionLaw
namespace Go.Proofs.Ytohagaelenhebaa
open Go.RowKit Pl
set_option linter.unusedVariables false

/-- the end behind p with a text more. -/
theorem offered {w w4 : World} {B p H : Nat} {e : En} {s : ByteArray} {qv ov v4 : Value} (h1 : EndC w 32 p e.nx e.ak qv e.gt ov) (h2 : SlT w B qv e.q) (h3 : SlT w B ov e.o) (h4 : Dj qv ov) (h5 : B ≤ p) (h6 : qv.ownBlock ≠ some p) (h7 : ov.ownBlock ≠ some p)
    (S4 : SlT w4 B v4 (e.q ++ [s])) (G4 : w.grownBy w4 qv.ownBlock) (hH : w.heap.size ≤ H) (L4 : v4.ownBlock = qv.ownBlock ∨ v4.ownBlock = some (H + 1)) :
    EndP (w4.setCell ⟨p, 2, none⟩ v4) B p (offE e s) ∧ Below B w (w4.setCell ⟨p, 2, none⟩ v4) := by
  have hp := h1.lt
  have n4 : v4.ownBlock ≠ some p := fun he => by
    rcases L4 with hl | hl
    · rw [hl] at he; exact h6 he
    · rw [hl] at he; simp at he; omega
  have d4 : Dj v4 ov := fun k k1 k2 => by
    rcases L4 with hl | hl
    · rw [hl] at k1; exact h4 k k1 k2
    · rw [hl] at k1; have := (Sl.lt h3 k k2).2; simp at k1; omega
  have X4 := EndC.kept h1 G4 (fun he => h6 he.symm)
  have O4 : SlT w4 B ov e.o := Sl.kept h3 G4 (fun k hk he => h4 k he.symm hk)
  have hBw : B ≤ w.heap.size := by omega
  have B4 : Below B w w4 := ⟨G4.os, G4.tape, G4.output, G4.size, fun k hk => G4.block k (by omega) (fun he => by have := (Sl.lt h2 _ he.symm).1; omega)⟩
  exact ⟨⟨v4, ov, X4.set2 v4, slt_other S4 n4, slt_other O4 h7, d4, h5, n4, h7⟩, B4.setCell h5 _⟩

set_option maxRecDepth 100000 in
set_option maxHeartbeats 4000000 in
theorem poffer_any {e : En} {B p : Nat} (s : ByteArray) (w : World) (h : EndP w B p e) (hs : s.size ≤ 1048576) (lq : e.q.length ≤ 1048576) :
    Calls Try.prog 56 #[.pointer (some ⟨p, 0, none⟩), .string s] w fun r w' => (∃ x, r = .returned x) ∧ EndP w' B p (offE e s) ∧ Below B w w' := by
  obtain ⟨qv, ov, h1, h2, h3, h4, h5, h6, h7⟩ := h
  obtain ⟨qa, qc, rfl⟩ := Sl.form h2
  have HP : Hid (EndC w 32 p e.nx e.ak (.slice qa e.q.length qc) e.gt ov ∧ SlT w B (.slice qa e.q.length qc) e.q ∧ SlT w B ov e.o ∧ Dj (.slice qa e.q.length qc) ov ∧ B ≤ p ∧ (Value.slice qa e.q.length qc).ownBlock ≠ some p ∧ ov.ownBlock ≠ some p) := ⟨h1, h2, h3, h4, h5, h6, h7⟩
  have c2 := h1.cells.2.2.1
  have hp := h1.lt
  clear h1 h2 h3 h4 h6 h7
  go_enter Try.func56, Try.ntmps56
  go_wp2_with fail
  go_region_law (first
    | (refine step_pushT (by rfl) _ _ 24 (by rfl) Try.underlying24 Try.info9 (by rfl) S3 s rfl (by rfl) (by omega) (by omega) ?_; intro v4 w4 S4 G4 Z4 L4; obtain ⟨xa, xc, rfl⟩ := Sl.form S4; generalize (e.q ++ [s]).length = N at *; have X4 := EndC.kept X3 G4 (fun he => HP.out.2.2.2.2.2.1 he.symm); have c4 := X4.cells.2.2.1; have f4 := X4.frozen 2)
    | (go_simp; refine (clone_any s _ hs).mono ?_; rintro e1 w3 ⟨rfl, hb3⟩; have X3 := EndC.below (show EndC w.drew _ _ _ _ _ _ _ from HP.out.1) hb3; have c3 := X3.cells.2.2.1; have c3a := fun o => (EndC.below X3 ((Below.refl _ _).alloc (Nat.le_refl _) o)).cells.2.2.1; have S3 : SlT w3 B (.slice qa e.q.length qc) e.q := Sl.below (show SlT w.drew _ _ _ from HP.out.2.1) hb3; have z3 : w.heap.size ≤ w3.heap.size := hb3.size; go_simp))
  all_goals
    have O3 : SlT w3 B ov e.o := Sl.below (show SlT w.drew _ _ _ from HP.out.2.2.1) hb3
    have hfin := offered (e := e) (s := s) X3 S3 O3 HP.out.2.2.2.1 h5 HP.out.2.2.2.2.2.1 HP.out.2.2.2.2.2.2 S4 G4 (Nat.le_refl _) L4
    go_end0
    refine ⟨⟨_, rfl⟩, hfin.1, Below.trans ?_ hfin.2⟩
    exact (Below.refl B w).drew.trans (hb3.mono (show B ≤ w.heap.size by omega))
end Go.Proofs.Ytohagaelenhebaa
