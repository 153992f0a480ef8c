/- Joined texts: CT1 CT3 CIt CJ1 CI2. -/
import Derived.Test.YtmbjflhhffcjdaaDoorWtq3
import Derived.Test.YtmbjflhhffcjdaaDoorWtq1
import Derived.Test.YtmbjflhhffcjdaaDoorWtq2
import Derived.Deep.RegionHeld3
import Derived.Deep.QuietTactic
import Derived.Laws.MakeOwn
import Derived.Below
/- The walks over both TokenOk. -/
namespace Go.Proofs.YtmbjflhhffcjdaaDoor
open Go.RowKit Pl
set_option linter.unusedVariables false

theorem below_drewK {B : Nat} {a w : World} (h : Below B a w) (n : Nat) : Below B a (w.drewN n) := h.trans ⟨rfl, rfl, rfl, Nat.le_refl _, fun _ _ => rfl⟩

end Go.Proofs.YtmbjflhhffcjdaaDoor


/- The walks over lists of ints and tokens that a law copies, sizes and compares. -/
namespace Go.Proofs.YtmbjflhhffcjdaaDoor
open Go.RowKit Pl
set_option linter.unusedVariables false

end Go.Proofs.YtmbjflhhffcjdaaDoor


/- Items: when one is right, copied, measured, compared. -/
namespace Go.Proofs.YtmbjflhhffcjdaaDoor.Pl
/-- when an item is right. -/
def ItOk (q f l : Int) (t : ByteArray) : Prop := (1 ≤ q ∧ q ≤ 60) ∧ (1 ≤ f ∧ f ≤ 5) ∧ (1 ≤ l ∧ l ≤ 2) ∧ t.size ≤ 60
end Go.Proofs.YtmbjflhhffcjdaaDoor.Pl
namespace Go.Proofs.YtmbjflhhffcjdaaDoor
open Go.RowKit Pl
set_option linter.unusedVariables false

/-- whether an item is right. -/
def itB (q f l : Int) (t : ByteArray) : Bool := decide (1 ≤ q ∧ q ≤ 60) && (decide (1 ≤ f ∧ f ≤ 5) && (decide (1 ≤ l ∧ l ≤ 2) && decide ((t.size : Int) ≤ 60)))
end Go.Proofs.YtmbjflhhffcjdaaDoor


/- Lists of items: what lies where; the walk over the program's ItemsOk. -/
namespace Go.Proofs.YtmbjflhhffcjdaaDoor
open Go.RowKit Pl
set_option linter.unusedVariables false

/-- an item, plain. -/
abbrev It := Int × Int × Int × ByteArray
/-- the items' cells of a slice. -/
def ItemsAt (w : World) (ao : Option Addr) (ts : List It) : Prop :=
  ∀ i (h : i < ts.length), ∃ b off, ao = some ⟨b, off, none⟩ ∧ b < w.heap.size ∧ w.cell? ⟨b, off + i * 4, none⟩ = some (.int .i64 ts[i].1) ∧ w.cell? ⟨b, off + i * 4 + 1, none⟩ = some (.int .i64 ts[i].2.1) ∧ w.cell? ⟨b, off + i * 4 + 2, none⟩ = some (.int .i64 ts[i].2.2.1) ∧ w.cell? ⟨b, off + i * 4 + 3, none⟩ = some (.string ts[i].2.2.2)
theorem ItemsAt.stays {w w' : World} {ao : Option Addr} {ts : List It} (h : ItemsAt w ao ts) (hb : Below w.heap.size w w') : ItemsAt w' ao ts := by
  intro i hi
  obtain ⟨b, off, h1, h2, h3, h4, h5, h6⟩ := h i hi
  exact ⟨b, off, h1, Nat.lt_of_lt_of_le h2 hb.size, (hb.cell (p := ⟨b, off + i * 4, none⟩) h2).trans h3, (hb.cell (p := ⟨b, off + i * 4 + 1, none⟩) h2).trans h4, (hb.cell (p := ⟨b, off + i * 4 + 2, none⟩) h2).trans h5, (hb.cell (p := ⟨b, off + i * 4 + 3, none⟩) h2).trans h6⟩

/-- whether items ascend from behind 'last', each right. -/
def iGo (last : Int) : List It → Bool
  | [] => true
  | x :: xs => if itB x.1 x.2.1 x.2.2.1 x.2.2.2 = false ∨ x.1 ≤ last then false else iGo x.1 xs
/-- the state of a loop over items. -/
def ISt (ts : List It) (k : Nat) (L : Int) : Prop := iGo L (ts.drop k) = iGo 0 ts ∧ 0 ≤ L ∧ (k = 0 → L = 0) ∧ ∀ j (h : j < ts.length), k = j + 1 → L = ts[j].1
end Go.Proofs.YtmbjflhhffcjdaaDoor


/- The walks over ShortText of the program and over a short text of the specification (stage 5's). -/
namespace Go.Proofs.YtmbjflhhffcjdaaDoor
open Go.RowKit Pl
set_option linter.unusedVariables false

set_option maxHeartbeats 400000 in
theorem implShort_in (s : ByteArray) (w : World) (hs : s.size ≤ 20000) :
    Calls Tryd.prog 86 #[.string s] w fun e w' => e = .returned (.tuple #[.string (varS s.size ++ s), .bool true]) ∧ Below w.heap.size w w' := by
  have hv := varS_size s.size (by omega)
  go_enter Tryd.func86, Tryd.ntmps86
  go_wp2_with (first | (go_at_call 110; refine (implVar_yes _ _ (by omega)).mono ?_; rintro e w1 ⟨rfl, hb1⟩))
  go_ret2
  exact ⟨rfl, hb1⟩



set_option maxHeartbeats 400000 in
theorem l05Short_any (s : ByteArray) (w : World) (hs : s.size ≤ 20000) :
    Calls Tryd.prog 61 #[.string s] w fun e w' => e = .returned (.string (varS s.size ++ s)) ∧ Below w.heap.size w w' := by
  have hv := varS_size s.size (by omega)
  go_enter Tryd.func61, Tryd.ntmps61
  go_wp2_with (first | (go_at_call 62; refine (l01Var_any _ _ (by omega)).mono ?_; rintro e w1 ⟨rfl, hb1⟩))
  go_ret
  exact ⟨rfl, hb1⟩
end Go.Proofs.YtmbjflhhffcjdaaDoor


