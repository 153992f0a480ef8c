/- Plain facts on decimal figures, and that the library's numeral is made of them; no program is named here. -/
import Derived.WalkKit
import Derived.Laws.BytesArg
import Derived.Lib.ItoaMem
namespace Go.Proofs.YtiebfakfgmckiaaDoor.Pl
open Go Go.RowKit

/-- the decimal figures of n, none of 0. -/
def decF : Nat → Nat → List Int
  | 0, _ => []
  | f + 1, n => if n = 0 then [] else decF f (n / 10) ++ [48 + ((n % 10 : Nat) : Int)]

theorem decF_eq : ∀ (f g n : Nat), n ≤ f → n ≤ g → decF f n = decF g n := by
  intro f
  induction f with
  | zero =>
    intro g n hf _
    obtain rfl : n = 0 := by omega
    cases g with
    | zero => rfl
    | succ g => simp [decF]
  | succ f ih =>
    intro g n hf hg
    cases g with
    | zero =>
      obtain rfl : n = 0 := by omega
      simp [decF]
    | succ g =>
      simp only [decF]
      by_cases h : n = 0
      · rw [if_pos h, if_pos h]
      · rw [if_neg h, if_neg h, ih g (n / 10) (by omega) (by omega)]

def decR (n : Nat) : List Int := decF n n
theorem decR_zero : decR 0 = [] := rfl
theorem decR_pos {n : Nat} (h : n ≠ 0) : decR n = decR (n / 10) ++ [48 + ((n % 10 : Nat) : Int)] := by
  obtain ⟨m, rfl⟩ : ∃ m, n = m + 1 := ⟨n - 1, by omega⟩
  unfold decR
  rw [decF, if_neg h, decF_eq m ((m + 1) / 10) ((m + 1) / 10) (by omega) (Nat.le_refl _)]

def decL (n : Nat) : List Int := if n = 0 then [48] else decR n
def decS (n : Nat) : ByteArray := strOfNums (decL n)

theorem decR_length (n : Nat) : (decR n).length ≤ n := by
  induction n using Nat.strongRecOn with
  | ind n ih =>
    by_cases h : n = 0
    · subst h; simp [decR_zero]
    · rw [decR_pos h]
      have := ih (n / 10) (by omega)
      simp
      omega

/-- a figure of base 16. -/
def figI (x : Nat) : Int := if x < 10 then 48 + (x : Int) else 87 + (x : Int)


theorem decR_len : ∀ (k n : Nat), n < 10 ^ k → (decR n).length ≤ k := by
  intro k
  induction k with
  | zero =>
    intro n h
    obtain rfl : n = 0 := by simpa using h
    simp [decR_zero]
  | succ k ih =>
    intro n h
    by_cases h0 : n = 0
    · subst h0; simp [decR_zero]
    · rw [decR_pos h0]
      have h1 : n / 10 < 10 ^ k := by
        rw [Nat.pow_succ] at h
        omega
      have := ih (n / 10) h1
      simp
      omega
theorem decR_len20 {n : Nat} (h : n ≤ 9223372036854775808) : (decR n).length ≤ 20 := decR_len 20 n (by omega)

theorem strOfNums_append (xs ys : List Int) : strOfNums xs ++ strOfNums ys = strOfNums (xs ++ ys) := by
  unfold strOfNums
  rw [ByteArray.mk_append_mk, List.map_append]

theorem decDigits_eq (u : Nat) : (decL u).map (fun n => UInt8.ofNat n.toNat) = Lib.decDigits u := by
  induction u using Nat.strongRecOn with
  | ind u ih =>
    rw [Lib.decDigits]
    by_cases h : u < 10
    · rw [dif_pos h]
      by_cases h0 : u = 0
      · subst h0; rfl
      · rw [decL, if_neg h0, decR_pos h0, show u / 10 = 0 from by omega, decR_zero, show u % 10 = u from by omega]
        show [UInt8.ofNat (48 + (u : Int)).toNat] = _
        rw [show (48 + (u : Int)).toNat = 48 + u from by omega]
    · rw [dif_neg h, decL, if_neg (by omega), decR_pos (by omega)]
      have h1 := ih (u / 10) (by omega)
      rw [decL, if_neg (by omega)] at h1
      rw [List.map_append, h1]
      show _ ++ [UInt8.ofNat (48 + ((u % 10 : Nat) : Int)).toNat] = _
      rw [show (48 + ((u % 10 : Nat) : Int)).toNat = 48 + u % 10 from by omega]

theorem itoa_pos (u : Nat) : (⟨(Lib.itoa (u : Int)).toArray⟩ : ByteArray) = strOfNums (decL u) := by
  rw [Lib.itoa_nonneg, ← decDigits_eq]; rfl
theorem itoa_below (u : Nat) (h : 1 ≤ u) : (⟨(Lib.itoa (-(u : Int))).toArray⟩ : ByteArray) = strOfNums (45 :: decR u) := by
  rw [Lib.itoa_neg u h, ← decDigits_eq, decL, if_neg (by omega)]; rfl

end Go.Proofs.YtiebfakfgmckiaaDoor.Pl
