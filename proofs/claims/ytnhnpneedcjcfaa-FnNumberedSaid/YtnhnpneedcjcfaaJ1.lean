/- Lists of items: what lies where; the walk over the program's ItemsOk. -/
import Derived.Test.YtnhnpneedcjcfaaIt
namespace Go.Proofs.Ytnhnpneedcjcfaa
open Go.RowKit Pl
set_option linter.unusedVariables false

/-- an item, plain. -/
abbrev It := Int × Int × Int × ByteArray
/-- the items' cells of a slice. -/
def ItemsAt (w : World) (ao : Option Addr) (ts : List It) : Prop :=
  ∀ i (h : i < ts.length), ∃ b off, ao = some ⟨b, off, none⟩ ∧ b < w.heap.size ∧ w.cell? ⟨b, off + i * 4, none⟩ = some (.int .i64 ts[i].1) ∧ w.cell? ⟨b, off + i * 4 + 1, none⟩ = some (.int .i64 ts[i].2.1) ∧ w.cell? ⟨b, off + i * 4 + 2, none⟩ = some (.int .i64 ts[i].2.2.1) ∧ w.cell? ⟨b, off + i * 4 + 3, none⟩ = some (.string ts[i].2.2.2)
theorem ItemsAt.stays {w w' : World} {ao : Option Addr} {ts : List It} (h : ItemsAt w ao ts) (hb : Below w.heap.size w w') : ItemsAt w' ao ts := by
  intro i hi
  obtain ⟨b, off, h1, h2, h3, h4, h5, h6⟩ := h i hi
  exact ⟨b, off, h1, Nat.lt_of_lt_of_le h2 hb.size, (hb.cell (p := ⟨b, off + i * 4, none⟩) h2).trans h3, (hb.cell (p := ⟨b, off + i * 4 + 1, none⟩) h2).trans h4, (hb.cell (p := ⟨b, off + i * 4 + 2, none⟩) h2).trans h5, (hb.cell (p := ⟨b, off + i * 4 + 3, none⟩) h2).trans h6⟩

/-- whether items ascend from behind 'last', each right. -/
def iGo (last : Int) : List It → Bool
  | [] => true
  | x :: xs => if itB x.1 x.2.1 x.2.2.1 x.2.2.2 = false ∨ x.1 ≤ last then false else iGo x.1 xs
theorem iGo_step {L : Int} {x : It} {xs : List It} (h1 : itB x.1 x.2.1 x.2.2.1 x.2.2.2 = true) (h2 : L < x.1) : iGo L (x :: xs) = iGo x.1 xs := by
  rw [iGo, if_neg (by rw [h1]; simp; omega)]
theorem iGo_bad {L : Int} {x : It} {xs : List It} (h : itB x.1 x.2.1 x.2.2.1 x.2.2.2 = false ∨ x.1 ≤ L) : iGo L (x :: xs) = false := by
  rw [iGo, if_pos h]
/-- the state of a loop over items. -/
def ISt (ts : List It) (k : Nat) (L : Int) : Prop := iGo L (ts.drop k) = iGo 0 ts ∧ 0 ≤ L ∧ (k = 0 → L = 0) ∧ ∀ j (h : j < ts.length), k = j + 1 → L = ts[j].1
theorem iSt_start (ts : List It) : ISt ts 0 0 := ⟨rfl, by omega, fun _ => rfl, fun j _ h => by omega⟩
theorem iSt_next {ts : List It} {L : Int} {k : Nat} (h : ISt ts k L) (hk : k < ts.length) (h1 : itB ts[k].1 ts[k].2.1 ts[k].2.2.1 ts[k].2.2.2 = true) (h2 : L < ts[k].1) : ISt ts (k + 1) ts[k].1 := by
  obtain ⟨a, b, c, d⟩ := h
  refine ⟨?_, by omega, fun h => by omega, fun j hj e => ?_⟩
  · rw [← a, List.drop_eq_getElem_cons hk, iGo_step h1 h2]
  · obtain rfl : j = k := by omega
    rfl
theorem iSt_bad {ts : List It} {L : Int} {k : Nat} (h : ISt ts k L) (hk : k < ts.length) (h1 : itB ts[k].1 ts[k].2.1 ts[k].2.2.1 ts[k].2.2.2 = false ∨ ts[k].1 ≤ L) : iGo 0 ts = false := by
  rw [← h.1, List.drop_eq_getElem_cons hk, iGo_bad h1]
theorem iSt_end {ts : List It} {L : Int} {k : Nat} (h : ISt ts k L) (hk : ts.length ≤ k) : iGo 0 ts = true := by
  rw [← h.1, List.drop_eq_nil_of_le hk]; rfl

end Go.Proofs.Ytnhnpneedcjcfaa
