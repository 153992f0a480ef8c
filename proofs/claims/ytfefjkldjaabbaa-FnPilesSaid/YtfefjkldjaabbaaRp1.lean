/- The walks over the program's reader of pieces: what is left of a text, the closure, the reading of a packet, a piece that is right, readPiece. -/
import Derived.Test.YtfefjkldjaabbaaR1
import Derived.Test.YtfefjkldjaabbaaCl
import Derived.Test.YtfefjkldjaabbaaPcs
import Derived.BigQuiet
namespace Go.Proofs.Ytfefjkldjaabbaa
open Go.RowKit Pl
set_option linter.unusedVariables false

theorem pr_step {W w w' : World} {g A : Nat} {s : ByteArray} (h : (w.cell? ⟨g, 0, none⟩ = some (.string s) ∧ w.cell? ⟨g, 1, none⟩ = some (.int .i64 A) ∧ w.frozen? ⟨g, 0, none⟩ = false ∧ w.frozen? ⟨g, 1, none⟩ = false) ∧ Hid (Below W.heap.size W w ∧ PrAt w g s A)) (hb : Below w.heap.size w w') :
    (w'.cell? ⟨g, 0, none⟩ = some (.string s) ∧ w'.cell? ⟨g, 1, none⟩ = some (.int .i64 A) ∧ w'.frozen? ⟨g, 0, none⟩ = false ∧ w'.frozen? ⟨g, 1, none⟩ = false) ∧ Hid (Below W.heap.size W w' ∧ PrAt w' g s A) := by
  obtain ⟨h1, h2⟩ := h
  obtain ⟨h3, h4⟩ := h2.out
  have h5 := h4.stays hb h4.lt
  exact ⟨h5.cells, ⟨h3.trans (hb.mono h3.size), h5⟩⟩

set_option maxRecDepth 100000 in
set_option maxHeartbeats 1000000 in
theorem rest_any (s : ByteArray) (g A : Nat) (w : World) (hp : Hid (PrAt w g s A)) (hs : s.size ≤ 1048576) (hA : A ≤ s.size) :
    Calls Try.prog 55 #[.pointer (some ⟨g, 0, none⟩)] w fun e w' => e = .returned (.string (s.extract A s.size)) ∧ PrAt w' g s s.size ∧ KeepBut g w w' := by
  have HI : (w.drew.cell? ⟨g, 0, none⟩ = some (.string s) ∧ w.drew.cell? ⟨g, 1, none⟩ = some (.int .i64 A) ∧ w.drew.frozen? ⟨g, 0, none⟩ = false ∧ w.drew.frozen? ⟨g, 1, none⟩ = false) ∧ Hid (Below w.heap.size w w.drew ∧ PrAt w.drew g s A) :=
    ⟨hp.out.cells, (Below.refl _ _).drew, hp.out⟩
  have hex : (s.extract A s.size).size ≤ 1048576 := by rw [ByteArray.size_extract]; omega
  have i0 : (0 : Int) ≤ (A : Int) := by omega
  have i1 : (A : Int) ≤ (s.size : Int) := by omega
  go_enter Try.func55, Try.ntmps55
  go_wp2
  go_region_held3 (fun w' => (w'.cell? ⟨g, 0, none⟩ = some (.string s) ∧ w'.cell? ⟨g, 1, none⟩ = some (.int .i64 A) ∧ w'.frozen? ⟨g, 0, none⟩ = false ∧ w'.frozen? ⟨g, 1, none⟩ = false) ∧ Hid (Below w.heap.size w w' ∧ PrAt w' g s A)) (first | exact HI | assumption) (first | (go_at_call 61; refine (clone_any (s.extract A s.size) _ hex).mono ?_; rintro e w3 ⟨rfl, hb3⟩; have hk3 := pr_step (W := w) (by assumption) hb3))
  obtain ⟨⟨c0, c1, f0, f1⟩, hk⟩ := hk3
  clear HI
  go_wp2
  go_ret
  exact ⟨rfl, hk.out.2.set s.size, (keep_of_below hk.out.1).trans ((TurnAt.refl g w3).setCell 1 _).keep⟩
end Go.Proofs.Ytfefjkldjaabbaa
