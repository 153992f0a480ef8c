/- Joined texts: CStep CFig CDec. -/
import Derived.Test.YtmbjflhhffcjdaaDoorWsq2
import Derived.Deep.RegionLaw
import Derived.Deep.AppendLies
/- A law for bytes appended inside a statement that leaves its order open; no program is named here. -/
namespace Go.Proofs.YtmbjflhhffcjdaaDoor.Pl
open Go Go.RowKit

theorem OwnB.drew {w : World} {B : Nat} {e : TypeId} {v : Value} {xs : List Int} (h : OwnB w B e v xs) : OwnB w.drew B e v xs := World.ownsRow.drew h

/-- a figure of base 16. -/
def figI (x : Nat) : Int := if x < 10 then 48 + (x : Int) else 87 + (x : Int)

/-- two figures for each byte. -/
def hexI (l : List UInt8) : List Int := l.flatMap fun c => [figI (c.toNat / 16), figI (c.toNat % 16)]

theorem take_snoc (s : ByteArray) (k : Nat) (h : k < s.size) : s.data.toList.take (k + 1) = s.data.toList.take k ++ [s[k]] := by
  rw [List.take_succ_eq_append_getElem (by simpa using h)]; rfl

def hexS (s : ByteArray) : ByteArray := strOfNums (hexI s.data.toList)

end Go.Proofs.YtmbjflhhffcjdaaDoor.Pl


/- Plain facts on figures and what they stand for; no program is named here. -/
namespace Go.Proofs.YtmbjflhhffcjdaaDoor.Pl
open Go Go.RowKit

theorem OwnB.form {w : World} {B : Nat} {e : TypeId} {v : Value} {xs : List Int} (h : OwnB w B e v xs) : ∃ ao cap, v = .slice ao xs.length cap := by
  rcases h.2 with ⟨rfl, hn⟩ | ⟨g, cap, cur, rfl, _⟩
  · exact ⟨none, 0, by rw [hn]⟩
  · exact ⟨_, cap, rfl⟩

theorem OwnB.some {w : World} {B : Nat} {e : TypeId} {v : Value} {xs : List Int} (h : OwnB w B e v xs) (h0 : 0 < xs.length) :
    ∃ g cap, v = .slice (some ⟨g, 0, none⟩) xs.length cap ∧ B ≤ g ∧ g < w.heap.size ∧ ∀ j, j < xs.length → w.cell? ⟨g, j, none⟩ = some (.int .u8 (xs.getD j 0)) := by
  rcases h.2 with ⟨rfl, hn⟩ | ⟨g, cap, cur, rfl, hb, hg, _⟩
  · omega
  · refine ⟨g, cap, rfl, hb, (Array.getElem?_eq_some_iff.1 hg).1, fun j hj => ?_⟩
    have := World.ownsRow.cellAt h j (by omega)
    rw [this]
    simp [hj]

/-- is the byte a figure: of base 10, or, with letters, of base 16? -/
def figOk (lt : Bool) (c : Nat) : Bool := (decide (48 ≤ c) && decide (c ≤ 57)) || (lt && (decide (97 ≤ c) && decide (c ≤ 102)))
def figVal (c : Nat) : Int := if c ≤ 57 then (c : Int) - 48 else (c : Int) - 87

/-- the first k bytes are figures. -/
def AllFig (lt : Bool) (s : ByteArray) (k : Nat) : Prop := ∀ j, (h : j < s.size) → j < k → figOk lt (s[j]'h).toNat = true
def vals (s : ByteArray) (k : Nat) : List Int := (s.data.toList.take k).map fun c => figVal c.toNat

theorem allFig_zero (lt : Bool) (s : ByteArray) : AllFig lt s 0 := fun _ _ h => by omega
theorem allFig_step {lt : Bool} {s : ByteArray} {k : Nat} (h : AllFig lt s k) (hk : k < s.size) (hc : figOk lt (s[k]'hk).toNat = true) : AllFig lt s (k + 1) := by
  intro j hj hlt
  by_cases e : j = k
  · subst e; exact hc
  · exact h j hj (by omega)
theorem vals_step (s : ByteArray) (k : Nat) (hk : k < s.size) : vals s (k + 1) = vals s k ++ [figVal (s[k]'hk).toNat] := by
  unfold vals; rw [take_snoc s k hk]; simp
theorem vals_length (s : ByteArray) (k : Nat) (hk : k ≤ s.size) : (vals s k).length = k := by
  have : s.data.size = s.size := rfl
  simp [vals]; omega
theorem vals_at (s : ByteArray) (j : Nat) (hj : j < s.size) : (vals s s.size).getD j 0 = figVal (s[j]'hj).toNat := by
  have : s.data.size = s.size := rfl
  simp [vals, hj]
  rfl
theorem figVal_dec {c : Nat} (h : figOk false c = true) : figVal c = (c : Int) - 48 ∧ 48 ≤ c ∧ c ≤ 57 := by
  unfold figOk at h
  simp at h
  unfold figVal
  split <;> omega
theorem fig_digit {lt : Bool} {c : Nat} (h1 : 48 ≤ c) (h2 : c ≤ 57) : figOk lt c = true ∧ figVal c = (c : Int) - 48 := by
  refine ⟨by simp [figOk]; omega, by rw [figVal, if_pos h2]⟩
theorem fig_letter {c : Nat} (h1 : 97 ≤ c) (h2 : c ≤ 102) : figOk true c = true ∧ figVal c = (c : Int) - 87 := by
  refine ⟨by simp [figOk]; omega, by rw [figVal, if_neg (by omega)]⟩

/-- the bytes that pairs of figures stand for. -/
def pairs : List Int → List Int
  | a :: b :: r => (a * 16 + b) :: pairs r
  | _ => []
end Go.Proofs.YtmbjflhhffcjdaaDoor.Pl


/- Plain facts on decimal figures; no program is named here. -/
namespace Go.Proofs.YtmbjflhhffcjdaaDoor.Pl
open Go Go.RowKit

/-- the decimal figures of n, none of 0. -/
def decF : Nat → Nat → List Int
  | 0, _ => []
  | f + 1, n => if n = 0 then [] else decF f (n / 10) ++ [48 + ((n % 10 : Nat) : Int)]

def decR (n : Nat) : List Int := decF n n
def decL (n : Nat) : List Int := if n = 0 then [48] else decR n
def decS (n : Nat) : ByteArray := strOfNums (decL n)

/-- what the first k figures of s stand for. -/
def dv (s : ByteArray) (k : Nat) : Nat := (s.data.toList.take k).foldl (fun n c => 10 * n + (c.toNat - 48)) 0
theorem dv_step (s : ByteArray) (k : Nat) (hk : k < s.size) : dv s (k + 1) = 10 * dv s k + ((s[k]'hk).toNat - 48) := by
  unfold dv; rw [take_snoc s k hk]; simp

theorem dv_bd {s : ByteArray} : ∀ k, k ≤ s.size → AllFig false s k → dv s k < 10 ^ k := by
  intro k
  induction k with
  | zero => intro _ _; simp [dv]
  | succ k ih =>
    intro hk h
    have h1 := ih (by omega) (fun j hj hlt => h j hj (by omega))
    have h2 := (figVal_dec (h k (by omega) (by omega))).2
    rw [dv_step s k (by omega), Nat.pow_succ]
    omega
theorem dv_le {s : ByteArray} {k : Nat} (hk : k ≤ s.size) (h : AllFig false s k) (h10 : k ≤ 10) : dv s k ≤ 9999999999 := by
  have h1 := dv_bd k hk h
  have h2 : 10 ^ k ≤ 10 ^ 10 := Nat.pow_le_pow_right (by omega) h10
  omega

def bytesN (s : ByteArray) (k : Nat) : List Int := (s.data.toList.take k).map fun c => (c.toNat : Int)
end Go.Proofs.YtmbjflhhffcjdaaDoor.Pl


