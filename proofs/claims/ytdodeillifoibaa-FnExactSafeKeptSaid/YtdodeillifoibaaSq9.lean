/- Joined texts: CStep CFig CDec. -/
import Derived.Test.YtdodeillifoibaaSq1
import Derived.Deep.RegionLaw
import Derived.Deep.AppendLies
/- A law for bytes appended inside a statement that leaves its order open; no program is named here. -/
namespace Go.Proofs.Ytdodeillifoibaa.Pl
open Go Go.RowKit

theorem OwnB.drew {w : World} {B : Nat} {e : TypeId} {v : Value} {xs : List Int} (h : OwnB w B e v xs) : OwnB w.drew B e v xs := World.ownsRow.drew h

/-- a figure of base 16. -/
def figI (x : Nat) : Int := if x < 10 then 48 + (x : Int) else 87 + (x : Int)

/-- two figures for each byte. -/
def hexI (l : List UInt8) : List Int := l.flatMap fun c => [figI (c.toNat / 16), figI (c.toNat % 16)]

theorem take_snoc (s : ByteArray) (k : Nat) (h : k < s.size) : s.data.toList.take (k + 1) = s.data.toList.take k ++ [s[k]] := by
  rw [List.take_succ_eq_append_getElem (by simpa using h)]; rfl

def hexS (s : ByteArray) : ByteArray := strOfNums (hexI s.data.toList)

end Go.Proofs.Ytdodeillifoibaa.Pl


/- Plain facts on figures and what they stand for; no program is named here. -/
namespace Go.Proofs.Ytdodeillifoibaa.Pl
open Go Go.RowKit

theorem OwnB.form {w : World} {B : Nat} {e : TypeId} {v : Value} {xs : List Int} (h : OwnB w B e v xs) : ∃ ao cap, v = .slice ao xs.length cap := by
  rcases h.2 with ⟨rfl, hn⟩ | ⟨g, cap, cur, rfl, _⟩
  · exact ⟨none, 0, by rw [hn]⟩
  · exact ⟨_, cap, rfl⟩

theorem OwnB.some {w : World} {B : Nat} {e : TypeId} {v : Value} {xs : List Int} (h : OwnB w B e v xs) (h0 : 0 < xs.length) :
    ∃ g cap, v = .slice (some ⟨g, 0, none⟩) xs.length cap ∧ B ≤ g ∧ g < w.heap.size ∧ ∀ j, j < xs.length → w.cell? ⟨g, j, none⟩ = some (.int .u8 (xs.getD j 0)) := by
  rcases h.2 with ⟨rfl, hn⟩ | ⟨g, cap, cur, rfl, hb, hg, _⟩
  · omega
  · refine ⟨g, cap, rfl, hb, (Array.getElem?_eq_some_iff.1 hg).1, fun j hj => ?_⟩
    have := World.ownsRow.cellAt h j (by omega)
    rw [this]
    simp [hj]

/-- is the byte a figure: of base 10, or, with letters, of base 16? -/
def figOk (lt : Bool) (c : Nat) : Bool := (decide (48 ≤ c) && decide (c ≤ 57)) || (lt && (decide (97 ≤ c) && decide (c ≤ 102)))
def figVal (c : Nat) : Int := if c ≤ 57 then (c : Int) - 48 else (c : Int) - 87

/-- the first k bytes are figures. -/
def AllFig (lt : Bool) (s : ByteArray) (k : Nat) : Prop := ∀ j, (h : j < s.size) → j < k → figOk lt (s[j]'h).toNat = true
def vals (s : ByteArray) (k : Nat) : List Int := (s.data.toList.take k).map fun c => figVal c.toNat

/-- the bytes that pairs of figures stand for. -/
def pairs : List Int → List Int
  | a :: b :: r => (a * 16 + b) :: pairs r
  | _ => []
end Go.Proofs.Ytdodeillifoibaa.Pl


/- Plain facts on decimal figures; no program is named here. -/
namespace Go.Proofs.Ytdodeillifoibaa.Pl
open Go Go.RowKit

/-- the decimal figures of n, none of 0. -/
def decF : Nat → Nat → List Int
  | 0, _ => []
  | f + 1, n => if n = 0 then [] else decF f (n / 10) ++ [48 + ((n % 10 : Nat) : Int)]

def decR (n : Nat) : List Int := decF n n
def decL (n : Nat) : List Int := if n = 0 then [48] else decR n
def decS (n : Nat) : ByteArray := strOfNums (decL n)

/-- what the first k figures of s stand for. -/
def dv (s : ByteArray) (k : Nat) : Nat := (s.data.toList.take k).foldl (fun n c => 10 * n + (c.toNat - 48)) 0
def bytesN (s : ByteArray) (k : Nat) : List Int := (s.data.toList.take k).map fun c => (c.toNat : Int)
end Go.Proofs.Ytdodeillifoibaa.Pl


