/- Joined texts: CStep CFig CDec. -/
import Derived.Test.YtmbjflhhffcjdaaMbq6
import Derived.Deep.RegionLaw
import Derived.Deep.AppendLies
/- A law for bytes appended inside a statement that leaves its order open; no program is named here. -/
namespace Go.Proofs.Ytmbjflhhffcjdaa.Pl
open Go Go.RowKit

theorem OwnB.drew {w : World} {B : Nat} {e : TypeId} {v : Value} {xs : List Int} (h : OwnB w B e v xs) : OwnB w.drew B e v xs := World.ownsRow.drew h

/-- a figure of base 16. -/
def figI (x : Nat) : Int := if x < 10 then 48 + (x : Int) else 87 + (x : Int)

/-- two figures for each byte. -/
def hexI (l : List UInt8) : List Int := l.flatMap fun c => [figI (c.toNat / 16), figI (c.toNat % 16)]

def hexS (s : ByteArray) : ByteArray := strOfNums (hexI s.data.toList)

end Go.Proofs.Ytmbjflhhffcjdaa.Pl


/- Plain facts on figures and what they stand for; no program is named here. -/
namespace Go.Proofs.Ytmbjflhhffcjdaa.Pl
open Go Go.RowKit

theorem OwnB.form {w : World} {B : Nat} {e : TypeId} {v : Value} {xs : List Int} (h : OwnB w B e v xs) : ∃ ao cap, v = .slice ao xs.length cap := by
  rcases h.2 with ⟨rfl, hn⟩ | ⟨g, cap, cur, rfl, _⟩
  · exact ⟨none, 0, by rw [hn]⟩
  · exact ⟨_, cap, rfl⟩

theorem OwnB.some {w : World} {B : Nat} {e : TypeId} {v : Value} {xs : List Int} (h : OwnB w B e v xs) (h0 : 0 < xs.length) :
    ∃ g cap, v = .slice (some ⟨g, 0, none⟩) xs.length cap ∧ B ≤ g ∧ g < w.heap.size ∧ ∀ j, j < xs.length → w.cell? ⟨g, j, none⟩ = some (.int .u8 (xs.getD j 0)) := by
  rcases h.2 with ⟨rfl, hn⟩ | ⟨g, cap, cur, rfl, hb, hg, _⟩
  · omega
  · refine ⟨g, cap, rfl, hb, (Array.getElem?_eq_some_iff.1 hg).1, fun j hj => ?_⟩
    have := World.ownsRow.cellAt h j (by omega)
    rw [this]
    simp [hj]

/-- is the byte a figure: of base 10, or, with letters, of base 16? -/
def figOk (lt : Bool) (c : Nat) : Bool := (decide (48 ≤ c) && decide (c ≤ 57)) || (lt && (decide (97 ≤ c) && decide (c ≤ 102)))
def figVal (c : Nat) : Int := if c ≤ 57 then (c : Int) - 48 else (c : Int) - 87

/-- the first k bytes are figures. -/
def AllFig (lt : Bool) (s : ByteArray) (k : Nat) : Prop := ∀ j, (h : j < s.size) → j < k → figOk lt (s[j]'h).toNat = true
def vals (s : ByteArray) (k : Nat) : List Int := (s.data.toList.take k).map fun c => figVal c.toNat

/-- the bytes that pairs of figures stand for. -/
def pairs : List Int → List Int
  | a :: b :: r => (a * 16 + b) :: pairs r
  | _ => []
end Go.Proofs.Ytmbjflhhffcjdaa.Pl


/- Plain facts on decimal figures; no program is named here. -/
namespace Go.Proofs.Ytmbjflhhffcjdaa.Pl
open Go Go.RowKit

/-- the decimal figures of n, none of 0. -/
def decF : Nat → Nat → List Int
  | 0, _ => []
  | f + 1, n => if n = 0 then [] else decF f (n / 10) ++ [48 + ((n % 10 : Nat) : Int)]

theorem decF_eq : ∀ (f g n : Nat), n ≤ f → n ≤ g → decF f n = decF g n := by
  intro f
  induction f with
  | zero =>
    intro g n hf _
    obtain rfl : n = 0 := by omega
    cases g with
    | zero => rfl
    | succ g => simp [decF]
  | succ f ih =>
    intro g n hf hg
    cases g with
    | zero =>
      obtain rfl : n = 0 := by omega
      simp [decF]
    | succ g =>
      simp only [decF]
      by_cases h : n = 0
      · rw [if_pos h, if_pos h]
      · rw [if_neg h, if_neg h, ih g (n / 10) (by omega) (by omega)]

def decR (n : Nat) : List Int := decF n n
theorem decR_zero : decR 0 = [] := rfl
theorem decR_pos {n : Nat} (h : n ≠ 0) : decR n = decR (n / 10) ++ [48 + ((n % 10 : Nat) : Int)] := by
  obtain ⟨m, rfl⟩ : ∃ m, n = m + 1 := ⟨n - 1, by omega⟩
  unfold decR
  rw [decF, if_neg h, decF_eq m ((m + 1) / 10) ((m + 1) / 10) (by omega) (Nat.le_refl _)]

def decL (n : Nat) : List Int := if n = 0 then [48] else decR n
def decS (n : Nat) : ByteArray := strOfNums (decL n)

/-- what the first k figures of s stand for. -/
def dv (s : ByteArray) (k : Nat) : Nat := (s.data.toList.take k).foldl (fun n c => 10 * n + (c.toNat - 48)) 0
def bytesN (s : ByteArray) (k : Nat) : List Int := (s.data.toList.take k).map fun c => (c.toNat : Int)
end Go.Proofs.Ytmbjflhhffcjdaa.Pl


