/- Joined texts: R1. -/
import Derived.Test.YtfefjkldjaabbaaPj3
import Derived.Test.YtfefjkldjaabbaaPj1
import Derived.Defers
import Derived.Recover
import Derived.Deep.RegionHeld3
import Derived.Deep.QuietTactic
/- The walks over the program's reader of packets: a number, one byte; where there is none it panics with a value of its own; the recovering of it. -/
namespace Go.Proofs.Ytfefjkldjaabbaa
open Go.RowKit Pl
set_option linter.unusedVariables false

/-- the block g is a reader of s at the place A. -/
def PrAt (w : World) (g : Nat) (s : ByteArray) (A : Nat) : Prop := w.heap[g]? = some (.cells #[.string s, .int .i64 A] 92 (0, 0))
theorem PrAt.cells {w : World} {g : Nat} {s : ByteArray} {A : Nat} (h : PrAt w g s A) : w.cell? ⟨g, 0, none⟩ = some (.string s) ∧ w.cell? ⟨g, 1, none⟩ = some (.int .i64 A) ∧ w.frozen? ⟨g, 0, none⟩ = false ∧ w.frozen? ⟨g, 1, none⟩ = false :=
  ⟨by rw [cell_of_row w g 0 _ 92 (0, 0) h]; rfl, by rw [cell_of_row w g 1 _ 92 (0, 0) h]; rfl, frozen_of_row w g 0 _ 92 h, frozen_of_row w g 1 _ 92 h⟩
theorem PrAt.stays {w w' : World} {B g : Nat} {s : ByteArray} {A : Nat} (h : PrAt w g s A) (hb : Below B w w') (hg : g < B) : PrAt w' g s A := (hb.block g hg).trans h
theorem PrAt.lt {w : World} {g : Nat} {s : ByteArray} {A : Nat} (h : PrAt w g s A) : g < w.heap.size := (Array.getElem?_eq_some_iff.1 h).1
theorem PrAt.set {w : World} {g : Nat} {s : ByteArray} {A : Nat} (h : PrAt w g s A) (i : Nat) : PrAt (w.setCell ⟨g, 1, none⟩ (.int .i64 i)) g s i := by
  have h1 := heap_setCell_same w g 1 _ 92 (.int .i64 i) h
  unfold PrAt
  rw [h1]; rfl
theorem PrAt.drewN {w : World} {g : Nat} {s : ByteArray} {A : Nat} (h : PrAt w g s A) (n : Nat) : PrAt (w.drewN n) g s A := h

/-- what the reader panics with. -/
def noPk : List PanicEntry := [{ v := .iface 94 (.agg #[]), recovered := false }]

set_option maxRecDepth 100000 in
set_option maxHeartbeats 1000000 in
theorem number_some (s : ByteArray) (g A n i : Nat) (w : World) (hp : Hid (PrAt w g s A)) (hs : s.size ≤ 1048576) (hA : A ≤ s.size) (h : Hid (rv s A = some (n, i))) :
    Calls Try.prog 54 #[.pointer (some ⟨g, 0, none⟩)] w fun e w' => e = .returned (.int .i64 n) ∧ PrAt w' g s i ∧ TurnAt g w w' := by
  obtain ⟨c0, c1, f0, f1⟩ := hp.out.cells
  go_enter Try.func54, Try.ntmps54
  go_wp2
  go_quiet (first | (go_at_call 64; exact Calls.quiet_of_same (implRv_some s A n i _ hs hA h.out)))
  go_wp2
  go_ret
  exact ⟨rfl, (hp.out.drewN _).set i, ((TurnAt.refl g w).drewN _).setCell _ _⟩

set_option maxRecDepth 100000 in
set_option maxHeartbeats 1000000 in
theorem number_none (s : ByteArray) (g A : Nat) (w : World) (hp : Hid (PrAt w g s A)) (hs : s.size ≤ 1048576) (hA : A ≤ s.size) (h : Hid (rv s A = none)) :
    Calls Try.prog 54 #[.pointer (some ⟨g, 0, none⟩)] w fun e w' => e = .panicked noPk ∧ TurnAt g w w' := by
  obtain ⟨c0, c1, f0, f1⟩ := hp.out.cells
  go_enter Try.func54, Try.ntmps54
  go_wp2
  go_quiet (first | (go_at_call 64; exact Calls.quiet_of_same (implRv_none s A _ hs hA h.out)))
  go_wp2
  exact ⟨rfl, rfl, (TurnAt.refl g w).drewN _⟩

theorem PrAt.turn {w w' : World} {g k A : Nat} {s : ByteArray} (h : PrAt w g s A) (hk : TurnAt k w w') (hg : g ≠ k) : PrAt w' g s A := (hk.block g hg).trans h

/-- the recovering, where the reader has panicked. -/
theorem catch_panicking (p : Addr) (b : Bool) (w : World) (hc : w.cell? p = some (.bool b)) (hz : w.frozen? p = false) :
    CallsD Try.prog 63 #[.pointer (some p)] (.panicking noPk) w fun e u' w' =>
      e = .returned (.tuple #[]) ∧ u' = .panicking [{ v := .iface 94 (.agg #[]), recovered := true }] ∧ w' = w.setCell p (.bool false) := by
  unfold noPk
  refine callsD_of_wpS Try.func63 rfl fun c₀ cs hu => ?_
  apply wpS_seq
  apply wpS_region
  simp [wpOpsS, go_sem, recoverD, hu, Try.ntmps63, Exit.thenS]
  refine wpS_cond (t := true) (by simp [Act.eval, Array.replicate]) ?_
  simp only [if_true]
  apply wpS_region
  simp [wpOpsS, go_sem, hc, hz, bodyPostS, results, Try.results63]

theorem catch_idle (p : Addr) (w : World) :
    CallsD Try.prog 63 #[.pointer (some p)] .returning w fun e u' w' => e = .returned (.tuple #[]) ∧ u' = .returning ∧ w' = w := by
  refine callsD_of_wpS Try.func63 rfl fun c₀ cs hu => ?_
  apply wpS_seq
  apply wpS_region
  simp [wpOpsS, go_sem, recoverD, hu, Try.ntmps63, Exit.thenS]
  refine wpS_cond (t := false) (by simp [Act.eval, Array.replicate]) ?_
  simp only [Bool.false_eq_true, if_false]
  refine wpS_of_wp (wp_skip ?_)
  cases c₀
  simp_all [bodyPostS, results, Try.results63]
end Go.Proofs.Ytfefjkldjaabbaa

