/- Round trips, in plain words: what VarText writes is read back; no program is named here. -/
import Derived.Test.YtlflcjdpdbdbkaaDig
namespace Go.Proofs.Ytlflcjdpdbdbkaa.Pl
open Go Go.RowKit
set_option linter.unusedVariables false

theorem rt_ext {a b : ByteArray} (h : a.data.toList = b.data.toList) : a = b := ByteArray.ext (Array.ext' h)
theorem rt_size (s : ByteArray) : s.size = s.data.toList.length := rfl

/-- the bytes that stand for n in base 128. -/
def varL (n : Nat) : List UInt8 := (varI n).map fun z => UInt8.ofNat z.toNat
theorem varS_list (n : Nat) : (varS n).data.toList = varL n := rfl
theorem varL_big {n : Nat} (h : 127 < n) : varL n = UInt8.ofNat (n % 128 + 128) :: varL (n / 128) := by
  unfold varL
  rw [varI_big h, List.map_cons, Int.toNat_natCast]
theorem varL_small {n : Nat} (h : ¬ 127 < n) : varL n = [UInt8.ofNat n] := by
  unfold varL
  rw [varI_small h, List.map_cons, Int.toNat_natCast, List.map_nil]

theorem u8_nat {n : Nat} (h : n < 256) : (UInt8.ofNat n).toNat = n := by
  rw [UInt8.toNat_ofNat']; omega

theorem rvGo_var : ∀ (n f acc sc i : Nat) (fst : Bool) (rest : List UInt8), (varL n).length ≤ f → (n ≠ 0 ∨ fst = true) → acc + n * sc ≤ 1000000000 →
    rvGo f (varL n ++ rest) fst acc sc i = some (acc + n * sc, i + (varL n).length) := by
  intro n
  induction n using Nat.strongRecOn with
  | ind n ih =>
    intro f acc sc i fst rest hf hn ha
    by_cases h : 127 < n
    · rw [varL_big h] at hf ⊢
      simp only [List.length_cons] at hf
      obtain ⟨g, rfl⟩ : ∃ g, f = g + 1 := ⟨f - 1, by omega⟩
      rw [List.cons_append, rvGo, u8_nat (by omega), if_pos (by omega)]
      have e1 : (n % 128 + 128) % 128 = n % 128 := by omega
      have e2 : acc + n % 128 * sc + n / 128 * (sc * 128) = acc + n * sc := by
        have h1 : n / 128 * (sc * 128) = (128 * (n / 128)) * sc := by rw [Nat.mul_comm sc 128, ← Nat.mul_assoc, Nat.mul_comm (n / 128) 128]
        rw [h1, Nat.add_assoc, ← Nat.add_mul, Nat.mod_add_div]
      rw [e1, ih (n / 128) (by omega) g _ _ _ false rest (by omega) (.inl (by omega)) (by rw [e2]; exact ha), e2]
      simp only [List.length_cons]
      rw [Nat.add_assoc, Nat.add_comm 1]
    · rw [varL_small h] at hf ⊢
      simp only [List.length_cons, List.length_nil] at hf
      obtain ⟨g, rfl⟩ : ∃ g, f = g + 1 := ⟨f - 1, by omega⟩
      have e1 : n % 128 = n := by omega
      rw [List.cons_append, rvGo, u8_nat (by omega), if_neg h, e1, if_neg]
      · rfl
      · rintro (⟨a, b⟩ | b)
        · rcases hn with hn | hn
          · exact hn a
          · rw [hn] at b; cases b
        · omega

theorem varL_len {n : Nat} (h : n ≤ 1000000000) : (varL n).length ≤ 5 := by
  by_cases h1 : 127 < n
  · rw [varL_big h1]
    by_cases h2 : 127 < n / 128
    · rw [varL_big h2]
      by_cases h3 : 127 < n / 128 / 128
      · rw [varL_big h3]
        by_cases h4 : 127 < n / 128 / 128 / 128
        · rw [varL_big h4, varL_small (by omega)]; simp
        · rw [varL_small h4]; simp
      · rw [varL_small h3]; simp
    · rw [varL_small h2]; simp
  · rw [varL_small h1]; simp

/-- what stands behind p is read. -/
theorem rv_var {s : ByteArray} {p q : List UInt8} {n : Nat} (h : n ≤ 1000000000) (hs : s.data.toList = p ++ (varL n ++ q)) : rv s p.length = some (n, p.length + (varL n).length) := by
  unfold rv
  rw [hs, List.drop_left, rvGo_var n 5 0 1 p.length true q (varL_len h) (.inr rfl) (by omega)]
  simp

end Go.Proofs.Ytlflcjdpdbdbkaa.Pl
