/- Where a slice of texts of the call's own lies. -/
import Derived.Test.YtfefjkldjaabbaaXm
namespace Go.Proofs.Ytfefjkldjaabbaa
open Go.RowKit Pl
set_option linter.unusedVariables false

/-- what another slice's writing leaves. -/
theorem OwnS_grown {w w' : World} {B : Nat} {v u : Value} {ss : List ByteArray} (h : OwnS w B v ss) (hg : w.grownBy w' u.ownBlock) (hne : ∀ k k', v.ownBlock = some k → u.ownBlock = some k' → k ≠ k') : OwnS w' B v ss := by
  refine World.ownsRow.kept h hg ?_
  cases e0 : v.ownBlock with
  | none => exact .inl rfl
  | some k0 =>
    refine .inr ?_
    cases e1 : u.ownBlock with
    | none => simp
    | some k1 =>
      have := hne k0 k1 e0 e1
      simpa using this

/-- A slice of the call's own, and where it lies. -/
structure Mine (w : World) (v : Value) (ss : List ByteArray) (lo hi : Nat) : Prop where
  own : OwnS w 0 v ss
  at' : ∀ k, v.ownBlock = some k → lo ≤ k ∧ k < hi
  le : hi ≤ w.heap.size

theorem Mine.mk' {w w' : World} {v : Value} {ss : List ByteArray} (h : OwnS w' w.heap.size v ss) : Mine w' v ss w.heap.size w'.heap.size :=
  ⟨h.down (Nat.zero_le _), fun k hk => h.lt k hk, Nat.le_refl _⟩
theorem Mine.stays {w w' : World} {v : Value} {ss : List ByteArray} {lo hi : Nat} (h : Mine w v ss lo hi) (hb : Below w.heap.size w w') : Mine w' v ss lo hi :=
  ⟨h.own.stays hb (fun k hk => Nat.lt_of_lt_of_le (h.at' k hk).2 h.le), h.at', Nat.le_trans h.le hb.size⟩
theorem Mine.grown {w w' : World} {v u : Value} {ss : List ByteArray} {lo hi lo' hi' : Nat} (h : Mine w v ss lo hi) (hu : ∀ k, u.ownBlock = some k → lo' ≤ k ∧ k < hi') (hg : w.grownBy w' u.ownBlock) (ho : hi ≤ lo' ∨ hi' ≤ lo) : Mine w' v ss lo hi := by
  refine ⟨OwnS_grown h.own hg ?_, h.at', Nat.le_trans h.le hg.size⟩
  intro k k' hk hk'
  have h1 := h.at' k hk
  have h2 := hu k' hk'
  omega

end Go.Proofs.Ytfefjkldjaabbaa
