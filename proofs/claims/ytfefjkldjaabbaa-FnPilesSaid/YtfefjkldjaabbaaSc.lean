/- The walks over the specification's reader of a text: a number, so many bytes, one byte. -/
import Derived.Test.YtfefjkldjaabbaaSv
import Derived.Test.YtfefjkldjaabbaaK2
namespace Go.Proofs.Ytfefjkldjaabbaa
open Go.RowKit Pl
set_option linter.unusedVariables false

/-- the block g is a cursor over s at the place A; b: it was not of its form. -/
def PcAt (w : World) (g : Nat) (s : ByteArray) (A : Nat) (b : Bool) : Prop := w.heap[g]? = some (.cells #[.string s, .int .i64 A, .bool b] 70 (0, 0))
theorem PcAt.cells {w : World} {g : Nat} {s : ByteArray} {A : Nat} {b : Bool} (h : PcAt w g s A b) : w.cell? ⟨g, 0, none⟩ = some (.string s) ∧ w.cell? ⟨g, 1, none⟩ = some (.int .i64 A) ∧ w.cell? ⟨g, 2, none⟩ = some (.bool b) ∧ w.frozen? ⟨g, 0, none⟩ = false ∧ w.frozen? ⟨g, 1, none⟩ = false ∧ w.frozen? ⟨g, 2, none⟩ = false :=
  ⟨by rw [cell_of_row w g 0 _ 70 (0, 0) h]; rfl, by rw [cell_of_row w g 1 _ 70 (0, 0) h]; rfl, by rw [cell_of_row w g 2 _ 70 (0, 0) h]; rfl, frozen_of_row w g 0 _ 70 h, frozen_of_row w g 1 _ 70 h, frozen_of_row w g 2 _ 70 h⟩
theorem PcAt.stays {w w' : World} {B g : Nat} {s : ByteArray} {A : Nat} {b : Bool} (h : PcAt w g s A b) (hb : Below B w w') (hg : g < B) : PcAt w' g s A b := (hb.block g hg).trans h
theorem PcAt.keep {w w' : World} {k g : Nat} {s : ByteArray} {A : Nat} {b : Bool} (h : PcAt w g s A b) (hk : TurnAt k w w') (hg : g ≠ k) : PcAt w' g s A b := (hk.block g hg).trans h
theorem PcAt.lt {w : World} {g : Nat} {s : ByteArray} {A : Nat} {b : Bool} (h : PcAt w g s A b) : g < w.heap.size := (Array.getElem?_eq_some_iff.1 h).1
theorem PcAt.set1 {w : World} {g : Nat} {s : ByteArray} {A : Nat} {b : Bool} (h : PcAt w g s A b) (i : Nat) : PcAt (w.setCell ⟨g, 1, none⟩ (.int .i64 i)) g s i b := by
  have h1 := heap_setCell_same w g 1 _ 70 (.int .i64 i) h
  unfold PcAt; rw [h1]; rfl
theorem PcAt.set2 {w : World} {g : Nat} {s : ByteArray} {A : Nat} {b : Bool} (h : PcAt w g s A b) (c : Bool) : PcAt (w.setCell ⟨g, 2, none⟩ (.bool c)) g s A c := by
  have h1 := heap_setCell_same w g 2 _ 70 (.bool c) h
  unfold PcAt; rw [h1]; rfl
theorem PcAt.drewN {w : World} {g : Nat} {s : ByteArray} {A : Nat} {b : Bool} (h : PcAt w g s A b) (n : Nat) : PcAt (w.drewN n) g s A b := h

theorem pc_step {W w w' : World} {g A : Nat} {s : ByteArray} {b : Bool} (h : (w.cell? ⟨g, 0, none⟩ = some (.string s) ∧ w.cell? ⟨g, 1, none⟩ = some (.int .i64 A)) ∧ Hid (Below W.heap.size W w ∧ PcAt w g s A b)) (hb : Below w.heap.size w w') :
    (w'.cell? ⟨g, 0, none⟩ = some (.string s) ∧ w'.cell? ⟨g, 1, none⟩ = some (.int .i64 A)) ∧ Hid (Below W.heap.size W w' ∧ PcAt w' g s A b) := by
  obtain ⟨h1, h2⟩ := h
  obtain ⟨h3, h4⟩ := h2.out
  have h5 := h4.stays hb h4.lt
  exact ⟨⟨h5.cells.1, h5.cells.2.1⟩, ⟨h3.trans (hb.mono h3.size), h5⟩⟩

/-- what a number's reading comes to. -/
def VarF (s : ByteArray) (A : Nat) (b : Bool) (n i : Nat) (b' : Bool) : Prop :=
  (b = false ∧ rv s A = some (n, i) ∧ b' = false) ∨ (n = 0 ∧ i = A ∧ b' = true ∧ (b = true ∨ rv s A = none))

set_option maxRecDepth 100000 in
set_option maxHeartbeats 1000000 in
theorem lvar_good (s : ByteArray) (g A n i : Nat) (w : World) (hp : Hid (PcAt w g s A false)) (hs : s.size ≤ 1048576) (hA : A ≤ s.size) (h : Hid (rv s A = some (n, i))) :
    Calls Try.prog 48 #[.pointer (some ⟨g, 0, none⟩)] w fun e w' => e = .returned (.int .i64 n) ∧ PcAt w' g s i false ∧ KeepBut g w w' := by
  have HI : (w.drew.cell? ⟨g, 0, none⟩ = some (.string s) ∧ w.drew.cell? ⟨g, 1, none⟩ = some (.int .i64 A)) ∧ Hid (Below w.heap.size w w.drew ∧ PcAt w.drew g s A false) :=
    ⟨⟨hp.out.cells.1, hp.out.cells.2.1⟩, (Below.refl _ _).drew, hp.out⟩
  go_enter Try.func48, Try.ntmps48
  go_wp2
  go_region_held3 (fun w' => (w'.cell? ⟨g, 0, none⟩ = some (.string s) ∧ w'.cell? ⟨g, 1, none⟩ = some (.int .i64 A)) ∧ Hid (Below w.heap.size w w' ∧ PcAt w' g s A false)) (first | exact HI | assumption) (first | (go_at_call 62; refine (specRv_some s A n i _ hs hA h.out).mono ?_; rintro e w3 ⟨rfl, hb3⟩; have hk3 := pc_step (W := w) (by assumption) hb3))
  have hk := hk3.2
  obtain ⟨c0, c1, c2, f0, f1, f2⟩ := hk.out.2.cells
  clear HI hk3
  go_wp2
  go_ret
  exact ⟨rfl, hk.out.2.set1 i, (keep_of_below hk.out.1).trans ((TurnAt.refl g w3).setCell 1 _).keep⟩

set_option maxRecDepth 100000 in
set_option maxHeartbeats 1000000 in
theorem lvar_none (s : ByteArray) (g A : Nat) (b : Bool) (w : World) (hp : Hid (PcAt w g s A b)) (hs : s.size ≤ 1048576) (hA : A ≤ s.size) (h : Hid (rv s A = none)) :
    Calls Try.prog 48 #[.pointer (some ⟨g, 0, none⟩)] w fun e w' => e = .returned (.int .i64 0) ∧ PcAt w' g s A true ∧ KeepBut g w w' := by
  have HI : (w.drew.cell? ⟨g, 0, none⟩ = some (.string s) ∧ w.drew.cell? ⟨g, 1, none⟩ = some (.int .i64 A)) ∧ Hid (Below w.heap.size w w.drew ∧ PcAt w.drew g s A b) :=
    ⟨⟨hp.out.cells.1, hp.out.cells.2.1⟩, (Below.refl _ _).drew, hp.out⟩
  go_enter Try.func48, Try.ntmps48
  go_wp2
  go_region_held3 (fun w' => (w'.cell? ⟨g, 0, none⟩ = some (.string s) ∧ w'.cell? ⟨g, 1, none⟩ = some (.int .i64 A)) ∧ Hid (Below w.heap.size w w' ∧ PcAt w' g s A b)) (first | exact HI | assumption) (first | (go_at_call 62; refine (specRv_none s A _ hs hA h.out).mono ?_; rintro e w3 ⟨rfl, hb3⟩; have hk3 := pc_step (W := w) (by assumption) hb3))
  have hk := hk3.2
  obtain ⟨c0, c1, c2, f0, f1, f2⟩ := hk.out.2.cells
  clear HI hk3
  cases b
  all_goals
    go_wp2
    go_ret
    exact ⟨rfl, hk.out.2.set2 true, (keep_of_below hk.out.1).trans ((TurnAt.refl g w3).setCell 2 _).keep⟩

set_option maxRecDepth 100000 in
set_option maxHeartbeats 1000000 in
theorem lvar_bad (s : ByteArray) (g A n i : Nat) (w : World) (hp : Hid (PcAt w g s A true)) (hs : s.size ≤ 1048576) (hA : A ≤ s.size) (h : Hid (rv s A = some (n, i))) :
    Calls Try.prog 48 #[.pointer (some ⟨g, 0, none⟩)] w fun e w' => e = .returned (.int .i64 0) ∧ PcAt w' g s A true ∧ KeepBut g w w' := by
  have HI : (w.drew.cell? ⟨g, 0, none⟩ = some (.string s) ∧ w.drew.cell? ⟨g, 1, none⟩ = some (.int .i64 A)) ∧ Hid (Below w.heap.size w w.drew ∧ PcAt w.drew g s A true) :=
    ⟨⟨hp.out.cells.1, hp.out.cells.2.1⟩, (Below.refl _ _).drew, hp.out⟩
  go_enter Try.func48, Try.ntmps48
  go_wp2
  go_region_held3 (fun w' => (w'.cell? ⟨g, 0, none⟩ = some (.string s) ∧ w'.cell? ⟨g, 1, none⟩ = some (.int .i64 A)) ∧ Hid (Below w.heap.size w w' ∧ PcAt w' g s A true)) (first | exact HI | assumption) (first | (go_at_call 62; refine (specRv_some s A n i _ hs hA h.out).mono ?_; rintro e w3 ⟨rfl, hb3⟩; have hk3 := pc_step (W := w) (by assumption) hb3))
  have hk := hk3.2
  obtain ⟨c0, c1, c2, f0, f1, f2⟩ := hk.out.2.cells
  clear HI hk3
  go_wp2
  go_ret
  exact ⟨rfl, hk.out.2.set2 true, (keep_of_below hk.out.1).trans ((TurnAt.refl g w3).setCell 2 _).keep⟩

theorem lvar_any (s : ByteArray) (g A : Nat) (b : Bool) (w : World) (hp : Hid (PcAt w g s A b)) (hs : s.size ≤ 1048576) (hA : A ≤ s.size) :
    Calls Try.prog 48 #[.pointer (some ⟨g, 0, none⟩)] w fun e w' => ∃ (n i : Nat) (b' : Bool), e = .returned (.int .i64 n) ∧ n ≤ 1000000000 ∧ i ≤ s.size ∧ PcAt w' g s i b' ∧ KeepBut g w w' ∧ VarF s A b n i b' := by
  rcases h0 : rv s A with _ | ⟨n, i⟩
  · exact (lvar_none s g A b w hp hs hA h0).mono fun e w' ⟨h1, h2, h3⟩ => ⟨0, A, true, h1, by omega, hA, h2, h3, .inr ⟨rfl, rfl, rfl, .inr h0⟩⟩
  · cases b with
    | true => exact (lvar_bad s g A n i w hp hs hA h0).mono fun e w' ⟨h1, h2, h3⟩ => ⟨0, A, true, h1, by omega, hA, h2, h3, .inr ⟨rfl, rfl, rfl, .inl rfl⟩⟩
    | false =>
      obtain ⟨b1, b2⟩ := rv_le hA h0
      exact (lvar_good s g A n i w hp hs hA h0).mono fun e w' ⟨h1, h2, h3⟩ => ⟨n, i, false, h1, b1, b2, h2, h3, .inl ⟨rfl, h0, rfl⟩⟩

/-- what the taking of k bytes comes to. -/
def TakeF (s : ByteArray) (A k : Nat) (b : Bool) (t : ByteArray) (i : Nat) (b' : Bool) : Prop :=
  (b = false ∧ A + k ≤ s.size ∧ t = s.extract A (A + k) ∧ i = A + k ∧ b' = false) ∨ (t = ByteArray.empty ∧ i = A ∧ b' = true ∧ (b = true ∨ s.size < A + k))

/-- what the taking of one byte comes to. -/
def OneF (s : ByteArray) (A : Nat) (b : Bool) (n i : Nat) (b' : Bool) : Prop :=
  (b = false ∧ oneP s A = some (n, i) ∧ b' = false) ∨ (n = 0 ∧ i = A ∧ b' = true ∧ (b = true ∨ oneP s A = none))

theorem byte_of {s : ByteArray} {A : Nat} (h : A < s.size) : (s.extract A (A + 1)).size = 1 ∧ ∀ h0 : 0 < (s.extract A (A + 1)).size, ((s.extract A (A + 1))[0]'h0).toNat = (s[A]'h).toNat := by
  refine ⟨by rw [ByteArray.size_extract]; omega, fun h0 => ?_⟩
  congr 1
  rw [ByteArray.getElem_extract]
  congr 1

end Go.Proofs.Ytfefjkldjaabbaa
