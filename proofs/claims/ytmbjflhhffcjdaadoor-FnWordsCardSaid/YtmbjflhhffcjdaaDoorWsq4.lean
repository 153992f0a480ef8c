/- Joined texts: CIt CJ1 CT1 CT3 CR1 CI2. -/
import Derived.Test.YtmbjflhhffcjdaaDoorWsq3
import Derived.Below
import Derived.Deep.RegionHeld3
import Derived.Deep.QuietTactic
import Derived.Test.YtmbjflhhffcjdaaDoorWsq1
import Derived.Test.YtmbjflhhffcjdaaDoorWsq2
import Derived.Laws.MakeOwn
import Derived.Defers
import Derived.Recover
/- Items: when one is right, copied, measured, compared. -/
namespace Go.Proofs.YtmbjflhhffcjdaaDoor.Pl
/-- when an item is right. -/
def ItOk (q f l : Int) (t : ByteArray) : Prop := (1 ≤ q ∧ q ≤ 60) ∧ (1 ≤ f ∧ f ≤ 5) ∧ (1 ≤ l ∧ l ≤ 2) ∧ t.size ≤ 60
end Go.Proofs.YtmbjflhhffcjdaaDoor.Pl
namespace Go.Proofs.YtmbjflhhffcjdaaDoor
open Go.RowKit Pl
set_option linter.unusedVariables false

/-- whether an item is right. -/
def itB (q f l : Int) (t : ByteArray) : Bool := decide (1 ≤ q ∧ q ≤ 60) && (decide (1 ≤ f ∧ f ≤ 5) && (decide (1 ≤ l ∧ l ≤ 2) && decide ((t.size : Int) ≤ 60)))
end Go.Proofs.YtmbjflhhffcjdaaDoor


/- Lists of items: what lies where; the walk over the program's ItemsOk. -/
namespace Go.Proofs.YtmbjflhhffcjdaaDoor
open Go.RowKit Pl
set_option linter.unusedVariables false

/-- an item, plain. -/
abbrev It := Int × Int × Int × ByteArray
/-- the items' cells of a slice. -/
def ItemsAt (w : World) (ao : Option Addr) (ts : List It) : Prop :=
  ∀ i (h : i < ts.length), ∃ b off, ao = some ⟨b, off, none⟩ ∧ b < w.heap.size ∧ w.cell? ⟨b, off + i * 4, none⟩ = some (.int .i64 ts[i].1) ∧ w.cell? ⟨b, off + i * 4 + 1, none⟩ = some (.int .i64 ts[i].2.1) ∧ w.cell? ⟨b, off + i * 4 + 2, none⟩ = some (.int .i64 ts[i].2.2.1) ∧ w.cell? ⟨b, off + i * 4 + 3, none⟩ = some (.string ts[i].2.2.2)
theorem ItemsAt.stays {w w' : World} {ao : Option Addr} {ts : List It} (h : ItemsAt w ao ts) (hb : Below w.heap.size w w') : ItemsAt w' ao ts := by
  intro i hi
  obtain ⟨b, off, h1, h2, h3, h4, h5, h6⟩ := h i hi
  exact ⟨b, off, h1, Nat.lt_of_lt_of_le h2 hb.size, (hb.cell (p := ⟨b, off + i * 4, none⟩) h2).trans h3, (hb.cell (p := ⟨b, off + i * 4 + 1, none⟩) h2).trans h4, (hb.cell (p := ⟨b, off + i * 4 + 2, none⟩) h2).trans h5, (hb.cell (p := ⟨b, off + i * 4 + 3, none⟩) h2).trans h6⟩

/-- whether items ascend from behind 'last', each right. -/
def iGo (last : Int) : List It → Bool
  | [] => true
  | x :: xs => if itB x.1 x.2.1 x.2.2.1 x.2.2.2 = false ∨ x.1 ≤ last then false else iGo x.1 xs
/-- the state of a loop over items. -/
def ISt (ts : List It) (k : Nat) (L : Int) : Prop := iGo L (ts.drop k) = iGo 0 ts ∧ 0 ≤ L ∧ (k = 0 → L = 0) ∧ ∀ j (h : j < ts.length), k = j + 1 → L = ts[j].1
end Go.Proofs.YtmbjflhhffcjdaaDoor


/- The walks over both TokenOk. -/
namespace Go.Proofs.YtmbjflhhffcjdaaDoor
open Go.RowKit Pl
set_option linter.unusedVariables false

end Go.Proofs.YtmbjflhhffcjdaaDoor


/- The walks over lists of ints and tokens that a law copies, sizes and compares. -/
namespace Go.Proofs.YtmbjflhhffcjdaaDoor
open Go.RowKit Pl
set_option linter.unusedVariables false

end Go.Proofs.YtmbjflhhffcjdaaDoor


/- The walks over the program's reader of packets: a number, one byte; where there is none it panics with a value of its own; the recovering of it. -/
namespace Go.Proofs.YtmbjflhhffcjdaaDoor
open Go.RowKit Pl
set_option linter.unusedVariables false

/-- the block g is a reader of s at the place A. -/
def PrAt (w : World) (g : Nat) (s : ByteArray) (A : Nat) : Prop := w.heap[g]? = some (.cells #[.string s, .int .i64 A] 105 (0, 0))
theorem PrAt.cells {w : World} {g : Nat} {s : ByteArray} {A : Nat} (h : PrAt w g s A) : w.cell? ⟨g, 0, none⟩ = some (.string s) ∧ w.cell? ⟨g, 1, none⟩ = some (.int .i64 A) ∧ w.frozen? ⟨g, 0, none⟩ = false ∧ w.frozen? ⟨g, 1, none⟩ = false :=
  ⟨by rw [cell_of_row w g 0 _ 105 (0, 0) h]; rfl, by rw [cell_of_row w g 1 _ 105 (0, 0) h]; rfl, frozen_of_row w g 0 _ 105 h, frozen_of_row w g 1 _ 105 h⟩
theorem PrAt.stays {w w' : World} {B g : Nat} {s : ByteArray} {A : Nat} (h : PrAt w g s A) (hb : Below B w w') (hg : g < B) : PrAt w' g s A := (hb.block g hg).trans h
theorem PrAt.lt {w : World} {g : Nat} {s : ByteArray} {A : Nat} (h : PrAt w g s A) : g < w.heap.size := (Array.getElem?_eq_some_iff.1 h).1
theorem PrAt.set {w : World} {g : Nat} {s : ByteArray} {A : Nat} (h : PrAt w g s A) (i : Nat) : PrAt (w.setCell ⟨g, 1, none⟩ (.int .i64 i)) g s i := by
  have h1 := heap_setCell_same w g 1 _ 105 (.int .i64 i) h
  unfold PrAt
  rw [h1]; rfl
theorem PrAt.drewN {w : World} {g : Nat} {s : ByteArray} {A : Nat} (h : PrAt w g s A) (n : Nat) : PrAt (w.drewN n) g s A := h

/-- what the reader panics with. -/
def noPk : List PanicEntry := [{ v := .iface 107 (.agg #[]), recovered := false }]

set_option maxRecDepth 100000 in
set_option maxHeartbeats 1000000 in
theorem number_some (s : ByteArray) (g A n i : Nat) (w : World) (hp : Hid (PrAt w g s A)) (hs : s.size ≤ 1048576) (hA : A ≤ s.size) (h : Hid (rv s A = some (n, i))) :
    Calls Tryd.prog 90 #[.pointer (some ⟨g, 0, none⟩)] w fun e w' => e = .returned (.int .i64 n) ∧ PrAt w' g s i ∧ TurnAt g w w' := by
  obtain ⟨c0, c1, f0, f1⟩ := hp.out.cells
  go_enter Tryd.func90, Tryd.ntmps90
  go_wp2
  go_quiet (first | (go_at_call 111; exact Calls.quiet_of_same (implRv_some s A n i _ hs hA h.out)))
  go_wp2
  go_ret
  exact ⟨rfl, (hp.out.drewN _).set i, ((TurnAt.refl g w).drewN _).setCell _ _⟩

set_option maxRecDepth 100000 in
set_option maxHeartbeats 1000000 in
theorem number_none (s : ByteArray) (g A : Nat) (w : World) (hp : Hid (PrAt w g s A)) (hs : s.size ≤ 1048576) (hA : A ≤ s.size) (h : Hid (rv s A = none)) :
    Calls Tryd.prog 90 #[.pointer (some ⟨g, 0, none⟩)] w fun e w' => e = .panicked noPk ∧ TurnAt g w w' := by
  obtain ⟨c0, c1, f0, f1⟩ := hp.out.cells
  go_enter Tryd.func90, Tryd.ntmps90
  go_wp2
  go_quiet (first | (go_at_call 111; exact Calls.quiet_of_same (implRv_none s A _ hs hA h.out)))
  go_wp2
  exact ⟨rfl, rfl, (TurnAt.refl g w).drewN _⟩

set_option maxRecDepth 100000 in
set_option maxHeartbeats 1000000 in
theorem oneB_some (s : ByteArray) (g A : Nat) (w : World) (hp : Hid (PrAt w g s A)) (hs : s.size ≤ 1048576) (hA : A < s.size) :
    Calls Tryd.prog 43 #[.pointer (some ⟨g, 0, none⟩)] w fun e w' => e = .returned (.int .i64 (s[A]'hA).toNat) ∧ PrAt w' g s (A + 1) ∧ TurnAt g w w' := by
  obtain ⟨c0, c1, f0, f1⟩ := hp.out.cells
  have i0 : (0 : Int) ≤ (A : Int) := by omega
  have i1 : (A : Int) < (s.size : Int) := by omega
  have hd : decide ((s.size : Int) ≤ (A : Int)) = false := by simp; omega
  have hw1 : IntKind.i64.wrap ((A : Int) + 1) = (A : Int) + 1 := by rw [IntKind.wrap_i64]; omega
  have hb : (s[A]'hA).toNat < 256 := UInt8.toNat_lt _
  have hw2 : wrap64 ((s[A]'hA).toNat : Int) = ((s[A]'hA).toNat : Int) := by unfold wrap64; omega
  go_enter Tryd.func43, Tryd.ntmps43
  go_wp2
  go_quiet (fail)
  go_wp2
  go_quiet (fail)
  go_wp2
  go_ret
  exact ⟨rfl, (hp.out.drewN _).set (A + 1), ((TurnAt.refl g w).drewN _).setCell _ _⟩

set_option maxRecDepth 100000 in
set_option maxHeartbeats 1000000 in
theorem oneB_none (s : ByteArray) (g A : Nat) (w : World) (hp : Hid (PrAt w g s A)) (hs : s.size ≤ 1048576) (hA : s.size ≤ A) (hA2 : A ≤ 1048576) :
    Calls Tryd.prog 43 #[.pointer (some ⟨g, 0, none⟩)] w fun e w' => e = .panicked noPk ∧ TurnAt g w w' := by
  obtain ⟨c0, c1, f0, f1⟩ := hp.out.cells
  have hd : decide ((s.size : Int) ≤ (A : Int)) = true := by simp; omega
  go_enter Tryd.func43, Tryd.ntmps43
  go_wp2
  go_quiet (fail)
  go_wp2
  exact ⟨rfl, rfl, (TurnAt.refl g w).drewN _⟩

theorem PrAt.turn {w w' : World} {g k A : Nat} {s : ByteArray} (h : PrAt w g s A) (hk : TurnAt k w w') (hg : g ≠ k) : PrAt w' g s A := (hk.block g hg).trans h

theorem oneB_yes (s : ByteArray) (g A n i : Nat) (w : World) (hp : Hid (PrAt w g s A)) (hs : s.size ≤ 1048576) (h : Hid (oneP s A = some (n, i))) :
    Calls Tryd.prog 43 #[.pointer (some ⟨g, 0, none⟩)] w fun e w' => e = .returned (.int .i64 n) ∧ PrAt w' g s i ∧ TurnAt g w w' := by
  by_cases hA : A < s.size
  · have h' := h.out
    rw [oneP_some hA] at h'
    simp only [Option.some.injEq, Prod.mk.injEq] at h'
    obtain ⟨rfl, rfl⟩ := h'
    exact oneB_some s g A w hp hs hA
  · have h' := h.out
    rw [oneP_none hA] at h'
    cases h'
theorem oneB_no (s : ByteArray) (g A : Nat) (w : World) (hp : Hid (PrAt w g s A)) (hs : s.size ≤ 1048576) (hA : A ≤ s.size) (h : Hid (oneP s A = none)) :
    Calls Tryd.prog 43 #[.pointer (some ⟨g, 0, none⟩)] w fun e w' => e = .panicked noPk ∧ TurnAt g w w' := by
  by_cases hA' : A < s.size
  · have h' := h.out
    rw [oneP_some hA'] at h'
    cases h'
  · exact oneB_none s g A w hp hs (by omega) (by omega)

/-- the recovering, where the reader has panicked. -/
theorem catch_panicking (p : Addr) (b : Bool) (w : World) (hc : w.cell? p = some (.bool b)) (hz : w.frozen? p = false) :
    CallsD Tryd.prog 88 #[.pointer (some p)] (.panicking noPk) w fun e u' w' =>
      e = .returned (.tuple #[]) ∧ u' = .panicking [{ v := .iface 107 (.agg #[]), recovered := true }] ∧ w' = w.setCell p (.bool false) := by
  unfold noPk
  refine callsD_of_wpS Tryd.func88 rfl fun c₀ cs hu => ?_
  apply wpS_seq
  apply wpS_region
  simp [wpOpsS, go_sem, recoverD, hu, Tryd.ntmps88, Exit.thenS]
  refine wpS_cond (t := true) (by simp [Act.eval, Array.replicate]) ?_
  simp only [if_true]
  apply wpS_region
  simp [wpOpsS, go_sem, hc, hz, bodyPostS, results, Tryd.results88]

theorem catch_idle (p : Addr) (w : World) :
    CallsD Tryd.prog 88 #[.pointer (some p)] .returning w fun e u' w' => e = .returned (.tuple #[]) ∧ u' = .returning ∧ w' = w := by
  refine callsD_of_wpS Tryd.func88 rfl fun c₀ cs hu => ?_
  apply wpS_seq
  apply wpS_region
  simp [wpOpsS, go_sem, recoverD, hu, Tryd.ntmps88, Exit.thenS]
  refine wpS_cond (t := false) (by simp [Act.eval, Array.replicate]) ?_
  simp only [Bool.false_eq_true, if_false]
  refine wpS_of_wp (wp_skip ?_)
  cases c₀
  simp_all [bodyPostS, results, Tryd.results88]
end Go.Proofs.YtmbjflhhffcjdaaDoor


/- The walks over ShortText of the program and over a short text of the specification (stage 5's). -/
namespace Go.Proofs.YtmbjflhhffcjdaaDoor
open Go.RowKit Pl
set_option linter.unusedVariables false

set_option maxHeartbeats 400000 in
theorem implShort_in (s : ByteArray) (w : World) (hs : s.size ≤ 20000) :
    Calls Tryd.prog 86 #[.string s] w fun e w' => e = .returned (.tuple #[.string (varS s.size ++ s), .bool true]) ∧ Below w.heap.size w w' := by
  have hv := varS_size s.size (by omega)
  go_enter Tryd.func86, Tryd.ntmps86
  go_wp2_with (first | (go_at_call 110; refine (implVar_yes _ _ (by omega)).mono ?_; rintro e w1 ⟨rfl, hb1⟩))
  go_ret2
  exact ⟨rfl, hb1⟩



set_option maxHeartbeats 400000 in
theorem l05Short_any (s : ByteArray) (w : World) (hs : s.size ≤ 20000) :
    Calls Tryd.prog 61 #[.string s] w fun e w' => e = .returned (.string (varS s.size ++ s)) ∧ Below w.heap.size w w' := by
  have hv := varS_size s.size (by omega)
  go_enter Tryd.func61, Tryd.ntmps61
  go_wp2_with (first | (go_at_call 62; refine (l01Var_any _ _ (by omega)).mono ?_; rintro e w1 ⟨rfl, hb1⟩))
  go_ret
  exact ⟨rfl, hb1⟩
end Go.Proofs.YtmbjflhhffcjdaaDoor


