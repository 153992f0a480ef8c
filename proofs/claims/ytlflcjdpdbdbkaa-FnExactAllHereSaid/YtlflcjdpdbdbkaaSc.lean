/- The walks over the specification's reader of a text: a number, so many bytes, one byte. -/
import Derived.Test.YtlflcjdpdbdbkaaSv
import Derived.Test.YtlflcjdpdbdbkaaK2
namespace Go.Proofs.Ytlflcjdpdbdbkaa
open Go.RowKit Pl
set_option linter.unusedVariables false
/-- what a number's reading comes to. -/
def VarF (s : ByteArray) (A : Nat) (b : Bool) (n i : Nat) (b' : Bool) : Prop :=
  (b = false ∧ rv s A = some (n, i) ∧ b' = false) ∨ (n = 0 ∧ i = A ∧ b' = true ∧ (b = true ∨ rv s A = none))

/-- what the taking of k bytes comes to. -/
def TakeF (s : ByteArray) (A k : Nat) (b : Bool) (t : ByteArray) (i : Nat) (b' : Bool) : Prop :=
  (b = false ∧ A + k ≤ s.size ∧ t = s.extract A (A + k) ∧ i = A + k ∧ b' = false) ∨ (t = ByteArray.empty ∧ i = A ∧ b' = true ∧ (b = true ∨ s.size < A + k))

/-- what the taking of one byte comes to. -/
def OneF (s : ByteArray) (A : Nat) (b : Bool) (n i : Nat) (b' : Bool) : Prop :=
  (b = false ∧ oneP s A = some (n, i) ∧ b' = false) ∨ (n = 0 ∧ i = A ∧ b' = true ∧ (b = true ∨ oneP s A = none))

theorem byte_of {s : ByteArray} {A : Nat} (h : A < s.size) : (s.extract A (A + 1)).size = 1 ∧ ∀ h0 : 0 < (s.extract A (A + 1)).size, ((s.extract A (A + 1))[0]'h0).toNat = (s[A]'h).toNat := by
  refine ⟨by rw [ByteArray.size_extract]; omega, fun h0 => ?_⟩
  congr 1
  rw [ByteArray.getElem_extract]
  congr 1

end Go.Proofs.Ytlflcjdpdbdbkaa
