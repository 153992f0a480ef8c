/- Plain facts on digits in base 128 and on bytes; no program is named here. -/
import Derived.WalkKit
namespace Go.Proofs.Ytlflcjdpdbdbkaa.Pl
open Go

def varF : Nat → Nat → List Int
  | 0, n => [(n : Int)]
  | f + 1, n => if 127 < n then ((n % 128 + 128 : Nat) : Int) :: varF f (n / 128) else [(n : Int)]

theorem varF_eq : ∀ (f g n : Nat), n ≤ f → n ≤ g → varF f n = varF g n := by
  intro f
  induction f with
  | zero =>
    intro g n hf _
    cases g with
    | zero => rfl
    | succ g => simp only [varF]; rw [if_neg (by omega)]
  | succ f ih =>
    intro g n hf hg
    cases g with
    | zero => simp only [varF]; rw [if_neg (by omega)]
    | succ g =>
      simp only [varF]
      by_cases h : 127 < n
      · rw [if_pos h, if_pos h, ih g (n / 128) (by omega) (by omega)]
      · rw [if_neg h, if_neg h]

def varI (n : Nat) : List Int := varF n n

theorem varI_big {n : Nat} (h : 127 < n) : varI n = ((n % 128 + 128 : Nat) : Int) :: varI (n / 128) := by
  obtain ⟨m, rfl⟩ : ∃ m, n = m + 1 := ⟨n - 1, by omega⟩
  unfold varI
  rw [varF, if_pos h, varF_eq m ((m + 1) / 128) ((m + 1) / 128) (by omega) (Nat.le_refl _)]
theorem varI_small {n : Nat} (h : ¬ 127 < n) : varI n = [(n : Int)] := by
  unfold varI
  cases n with
  | zero => rfl
  | succ m => rw [varF, if_neg h]

theorem varI_length (n : Nat) : (varI n).length ≤ n / 128 + 1 := by
  induction n using Nat.strongRecOn with
  | ind n ih =>
    by_cases h : 127 < n
    · rw [varI_big h]; have := ih (n / 128) (by omega); simp; omega
    · rw [varI_small h]; simp

/-- what VarText of n is, as a string. -/
def varS (n : Nat) : ByteArray := strOfNums (varI n)

/-- the state of the loop that writes the digits: what is written and what is left make the whole. -/
def VarSt (N m : Nat) (xs : List Int) : Prop := xs ++ varI m = varI N ∧ m ≤ N ∧ xs.length + m / 128 ≤ N / 128

theorem varSt_start (N : Nat) : VarSt N N [] := ⟨rfl, Nat.le_refl _, by simp⟩
theorem varSt_step {N m : Nat} {xs : List Int} (h : VarSt N m xs) (hm : 127 < m) : VarSt N (m / 128) (xs ++ [(m : Int) % 128 + 128]) := by
  obtain ⟨h1, h2, h3⟩ := h
  refine ⟨?_, by omega, ?_⟩
  · rw [← h1, varI_big hm]; simp
  · simp; omega
theorem varSt_end {N m : Nat} {xs : List Int} (h : VarSt N m xs) (hm : ¬ 127 < m) : strOfNums (xs ++ [(m : Int)]) = varS N := by
  rw [varS, ← h.1, varI_small hm]

end Go.Proofs.Ytlflcjdpdbdbkaa.Pl
