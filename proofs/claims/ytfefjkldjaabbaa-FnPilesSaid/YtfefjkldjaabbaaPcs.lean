/- Pieces in plain words: what stands in a text that is a piece, when it is right. No program is named here. -/
import Derived.Test.YtfefjkldjaabbaaPk
namespace Go.Proofs.Ytfefjkldjaabbaa.Pl
open Go Go.RowKit
set_option linter.unusedVariables false

/-- three numbers, and what is left behind them. -/
def rawP (s : ByteArray) : Option (Nat × Nat × Nat × ByteArray) :=
  (rv s 0).bind fun x => (rv s x.2).bind fun y => (rv s y.2).bind fun z => some (x.1, y.1, z.1, s.extract z.2 s.size)
theorem rawP_n0 {s : ByteArray} (h : rv s 0 = none) : rawP s = none := by simp [rawP, h]
theorem rawP_n1 {s : ByteArray} {n i : Nat} (h : rv s 0 = some (n, i)) (h1 : rv s i = none) : rawP s = none := by simp [rawP, h, h1]
theorem rawP_n2 {s : ByteArray} {n i p j : Nat} (h : rv s 0 = some (n, i)) (h1 : rv s i = some (p, j)) (h2 : rv s j = none) : rawP s = none := by simp [rawP, h, h1, h2]
theorem rawP_some {s : ByteArray} {n i p j c k : Nat} (h : rv s 0 = some (n, i)) (h1 : rv s i = some (p, j)) (h2 : rv s j = some (c, k)) : rawP s = some (n, p, c, s.extract k s.size) := by simp [rawP, h, h1, h2]

/-- right pieces. -/
def rightB (n p c : Nat) (t : ByteArray) : Bool := decide (n ≤ 100000 ∧ c ≤ 10 ∧ p < c ∧ (t.size = 40 ∨ (p + 1 = c ∧ t.size < 40)))
/-- the piece that a text is. -/
def pcP (s : ByteArray) : Option (Nat × Nat × Nat × ByteArray) := (rawP s).bind fun x => if rightB x.1 x.2.1 x.2.2.1 x.2.2.2 = true then some x else none
theorem pcP_none {s : ByteArray} (h : rawP s = none) : pcP s = none := by simp [pcP, h]
theorem pcP_bad {s : ByteArray} {n p c : Nat} {t : ByteArray} (h : rawP s = some (n, p, c, t)) (h1 : rightB n p c t = false) : pcP s = none := by simp [pcP, h, h1]
theorem pcP_good {s : ByteArray} {n p c : Nat} {t : ByteArray} (h : rawP s = some (n, p, c, t)) (h1 : rightB n p c t = true) : pcP s = some (n, p, c, t) := by simp [pcP, h, h1]
theorem pcP_right {s : ByteArray} {n p c : Nat} {t : ByteArray} (h : pcP s = some (n, p, c, t)) : n ≤ 100000 ∧ c ≤ 10 ∧ p < c ∧ (t.size = 40 ∨ (p + 1 = c ∧ t.size < 40)) := by
  rcases h0 : rawP s with _ | ⟨n', p', c', t'⟩
  · rw [pcP_none h0] at h; cases h
  · cases h1 : rightB n' p' c' t' with
    | false => rw [pcP_bad h0 h1] at h; cases h
    | true =>
      rw [pcP_good h0 h1] at h
      simp only [Option.some.injEq, Prod.mk.injEq] at h
      obtain ⟨rfl, rfl, rfl, rfl⟩ := h
      exact of_decide_eq_true h1
/-- what the reading of a piece answers. -/
def AnsP (s : ByteArray) (n p c : Nat) (t : ByteArray) (r : Bool) : Prop := (pcP s = some (n, p, c, t) ∧ r = true) ∨ (pcP s = none ∧ n = 0 ∧ p = 0 ∧ c = 0 ∧ t = ByteArray.empty ∧ r = false)
end Go.Proofs.Ytfefjkldjaabbaa.Pl
