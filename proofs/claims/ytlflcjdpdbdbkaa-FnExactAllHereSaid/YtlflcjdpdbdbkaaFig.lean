/- Plain facts on figures and what they stand for; no program is named here. -/
import Derived.Test.YtlflcjdpdbdbkaaStep
namespace Go.Proofs.Ytlflcjdpdbdbkaa.Pl
open Go Go.RowKit

theorem OwnB.form {w : World} {B : Nat} {e : TypeId} {v : Value} {xs : List Int} (h : OwnB w B e v xs) : ∃ ao cap, v = .slice ao xs.length cap := by
  rcases h.2 with ⟨rfl, hn⟩ | ⟨g, cap, cur, rfl, _⟩
  · exact ⟨none, 0, by rw [hn]⟩
  · exact ⟨_, cap, rfl⟩

theorem OwnB.some {w : World} {B : Nat} {e : TypeId} {v : Value} {xs : List Int} (h : OwnB w B e v xs) (h0 : 0 < xs.length) :
    ∃ g cap, v = .slice (some ⟨g, 0, none⟩) xs.length cap ∧ B ≤ g ∧ g < w.heap.size ∧ ∀ j, j < xs.length → w.cell? ⟨g, j, none⟩ = some (.int .u8 (xs.getD j 0)) := by
  rcases h.2 with ⟨rfl, hn⟩ | ⟨g, cap, cur, rfl, hb, hg, _⟩
  · omega
  · refine ⟨g, cap, rfl, hb, (Array.getElem?_eq_some_iff.1 hg).1, fun j hj => ?_⟩
    have := World.ownsRow.cellAt h j (by omega)
    rw [this]
    simp [hj]

/-- is the byte a figure: of base 10, or, with letters, of base 16? -/
def figOk (lt : Bool) (c : Nat) : Bool := (decide (48 ≤ c) && decide (c ≤ 57)) || (lt && (decide (97 ≤ c) && decide (c ≤ 102)))
def figVal (c : Nat) : Int := if c ≤ 57 then (c : Int) - 48 else (c : Int) - 87

/-- the first k bytes are figures. -/
def AllFig (lt : Bool) (s : ByteArray) (k : Nat) : Prop := ∀ j, (h : j < s.size) → j < k → figOk lt (s[j]'h).toNat = true
def vals (s : ByteArray) (k : Nat) : List Int := (s.data.toList.take k).map fun c => figVal c.toNat

theorem allFig_zero (lt : Bool) (s : ByteArray) : AllFig lt s 0 := fun _ _ h => by omega
theorem allFig_step {lt : Bool} {s : ByteArray} {k : Nat} (h : AllFig lt s k) (hk : k < s.size) (hc : figOk lt (s[k]'hk).toNat = true) : AllFig lt s (k + 1) := by
  intro j hj hlt
  by_cases e : j = k
  · subst e; exact hc
  · exact h j hj (by omega)
theorem vals_step (s : ByteArray) (k : Nat) (hk : k < s.size) : vals s (k + 1) = vals s k ++ [figVal (s[k]'hk).toNat] := by
  unfold vals; rw [take_snoc s k hk]; simp
theorem vals_length (s : ByteArray) (k : Nat) (hk : k ≤ s.size) : (vals s k).length = k := by
  have : s.data.size = s.size := rfl
  simp [vals]; omega
theorem vals_all (s : ByteArray) (k : Nat) (hk : ¬ k < s.size) (hk2 : k ≤ s.size) : k = s.size := by omega
theorem vals_at (s : ByteArray) (j : Nat) (hj : j < s.size) : (vals s s.size).getD j 0 = figVal (s[j]'hj).toNat := by
  have : s.data.size = s.size := rfl
  simp [vals, hj]
  rfl
theorem figVal_bd {lt : Bool} {c : Nat} (h : figOk lt c = true) : 0 ≤ figVal c ∧ figVal c ≤ 15 := by
  unfold figOk at h
  simp at h
  unfold figVal
  split <;> omega
theorem figVal_dec {c : Nat} (h : figOk false c = true) : figVal c = (c : Int) - 48 ∧ 48 ≤ c ∧ c ≤ 57 := by
  unfold figOk at h
  simp at h
  unfold figVal
  split <;> omega
theorem fig_digit {lt : Bool} {c : Nat} (h1 : 48 ≤ c) (h2 : c ≤ 57) : figOk lt c = true ∧ figVal c = (c : Int) - 48 := by
  refine ⟨by simp [figOk]; omega, by rw [figVal, if_pos h2]⟩
theorem fig_letter {c : Nat} (h1 : 97 ≤ c) (h2 : c ≤ 102) : figOk true c = true ∧ figVal c = (c : Int) - 87 := by
  refine ⟨by simp [figOk]; omega, by rw [figVal, if_neg (by omega)]⟩

/-- the bytes that pairs of figures stand for. -/
def pairs : List Int → List Int
  | a :: b :: r => (a * 16 + b) :: pairs r
  | _ => []
theorem pairs_snoc : ∀ (n : Nat) (l : List Int) (a b : Int), l.length = 2 * n → pairs (l ++ [a, b]) = pairs l ++ [a * 16 + b] := by
  intro n
  induction n with
  | zero =>
    intro l a b h
    obtain rfl : l = [] := List.eq_nil_of_length_eq_zero (by omega)
    rfl
  | succ n ih =>
    intro l a b h
    match l, h with
    | x :: y :: r, h =>
      simp only [List.length_cons] at h
      simp only [List.cons_append, pairs]
      rw [ih r a b (by omega)]
theorem pairs_length : ∀ (n : Nat) (l : List Int), l.length = 2 * n → (pairs l).length = n := by
  intro n
  induction n with
  | zero =>
    intro l h
    obtain rfl : l = [] := List.eq_nil_of_length_eq_zero (by omega)
    rfl
  | succ n ih =>
    intro l h
    match l, h with
    | x :: y :: r, h =>
      simp only [List.length_cons] at h
      simp only [pairs, List.length_cons]
      rw [ih r (by omega)]
theorem pairs_step (s : ByteArray) (k : Nat) (h : 2 * k + 1 < s.size) :
    pairs (vals s (2 * (k + 1))) = pairs (vals s (2 * k)) ++ [figVal (s[2 * k]'(by omega)).toNat * 16 + figVal (s[2 * k + 1]'h).toNat] := by
  have e : 2 * (k + 1) = 2 * k + 1 + 1 := by omega
  rw [e, vals_step s (2 * k + 1) h, vals_step s (2 * k) (by omega), List.append_assoc]
  exact pairs_snoc k _ _ _ (vals_length s _ (by omega))

end Go.Proofs.Ytlflcjdpdbdbkaa.Pl
