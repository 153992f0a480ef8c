/- What is numbered, in plain words. -/
import Derived.Test.YtnhnpneedcjcfaaNn
namespace Go.Proofs.Ytnhnpneedcjcfaa
open Go.RowKit Pl
set_option linter.unusedVariables false

theorem numGo_at {f : Int} {lv : List Int} : ∀ (ts : List ByteArray) (q : Int) (k j : Nat) (h : j < (numGo f lv q k ts).length), ∃ h2 : j < ts.length, (numGo f lv q k ts)[j] = (q + (j : Int) + 1, f, lvP lv (k + j), ts[j])
  | [], q, k, j, h => by simp [numGo] at h
  | t :: ts, q, k, j, h => by
    by_cases hs : k < 3 ∧ q < 60 ∧ t.size ≤ 60
    · have e := numGo_step (f := f) (lv := lv) (ts := ts) hs
      cases j with
      | zero =>
        refine ⟨by simp, ?_⟩
        simp [e]
      | succ j =>
        have hj : j < (numGo f lv (q + 1) (k + 1) ts).length := by rw [e] at h; simpa using h
        obtain ⟨h2, h3⟩ := numGo_at ts (q + 1) (k + 1) j hj
        refine ⟨by simp; omega, ?_⟩
        simp only [e, List.getElem_cons_succ, h3]
        rw [show q + 1 + (j : Int) + 1 = q + ((j + 1 : Nat) : Int) + 1 by omega, show k + 1 + j = k + (j + 1) by omega]
    · exfalso
      rw [numGo, if_neg hs] at h
      simp at h
theorem numGo_q {f : Int} {lv : List Int} : ∀ (ts : List ByteArray) (q : Int) (k : Nat), q ≤ 60 → q + ((numGo f lv q k ts).length : Int) ≤ 60
  | [], q, k, h => by simp [numGo]; omega
  | t :: ts, q, k, h => by
    by_cases hs : k < 3 ∧ q < 60 ∧ t.size ≤ 60
    · rw [numGo_step hs]
      have := numGo_q (f := f) (lv := lv) ts (q + 1) (k + 1) (by omega)
      simp only [List.length_cons]
      omega
    · rw [numGo, if_neg hs]; simp; omega
theorem wGo_up : ∀ (ws : List Int) (l q q2 : Int), wGo l q ws = true → q ≤ q2 → wGo l q2 ws = true := by
  intro ws
  induction ws with
  | nil => intro _ _ _ _ _; rfl
  | cons x xs ih =>
    intro l q q2 h hq
    by_cases hx : l < x ∧ x ≤ q
    · rw [wGo_step hx.1 hx.2] at h
      rw [wGo_step hx.1 (by omega)]
      exact ih x q q2 h hq
    · rw [wGo_bad (by omega)] at h; cases h
/-- a right token stays right when it numbers. -/
theorem num_right {c r q a b : Int} {ws : List Int} {f : Int} {lv : List Int} {tx : List ByteArray} (h : tkB c r q a b ws = true) : tkB c r (numQ c r q a b ws f lv tx) (numA c r q a b ws f lv tx) b ws = true := by
  have hlen : 0 ≤ ((numL c r q a b ws f lv tx).length : Int) := by omega
  have hq60 : numQ c r q a b ws f lv tx ≤ 60 := by
    unfold numQ numL
    split
    · exact numGo_q tx q 0 (tkB_q h).2
    · simp; exact (tkB_q h).2
  have hqq : q ≤ numQ c r q a b ws f lv tx := by unfold numQ; omega
  have hA : numA c r q a b ws f lv tx = a ∨ numA c r q a b ws f lv tx = numQ c r q a b ws f lv tx := by
    unfold numA
    split
    · split
      · exact .inr rfl
      · exact .inl rfl
    · exact .inl rfl
  generalize numQ c r q a b ws f lv tx = Q at *
  generalize numA c r q a b ws f lv tx = A at *
  unfold tkB wB at *
  simp only [Bool.and_eq_true, decide_eq_true_eq] at *
  obtain ⟨h1, h2, h3, h4, h5, h6, h7⟩ := h
  exact ⟨h1, h2, ⟨by omega, hq60⟩, ⟨by omega, by omega⟩, h5, h6, wGo_up ws 0 q Q h7 hqq⟩
theorem numL_bad {c r q a b : Int} {ws : List Int} {f : Int} {lv : List Int} {tx : List ByteArray} (h : tkB c r q a b ws = false) : numL c r q a b ws f lv tx = [] := by
  unfold numL numOk
  rw [h]
  rfl
theorem numL_at {c r q a b : Int} {ws : List Int} {f : Int} {lv : List Int} {tx : List ByteArray} {j : Nat} (h : j < (numL c r q a b ws f lv tx).length) : ∃ h2 : j < tx.length, (numL c r q a b ws f lv tx)[j] = (q + (j : Int) + 1, f, lvP lv j, tx[j]) := by
  have e : numL c r q a b ws f lv tx = numGo f lv q 0 tx := by
    unfold numL at *
    split at h
    · rename_i h1; rw [if_pos h1]
    · simp at h
  obtain ⟨h2, h3⟩ := numGo_at (f := f) (lv := lv) tx q 0 j (by rw [← e]; exact h)
  refine ⟨h2, ?_⟩
  simp only [e, h3, Nat.zero_add]
end Go.Proofs.Ytnhnpneedcjcfaa
