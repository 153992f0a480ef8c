/- Joined texts: CNm CTk. -/
import Derived.WalkKit
import Derived.Laws.RangeAny
/- Names in plain words: when a text is a name, and that a byte above 127 makes a rune that is neither a letter nor a figure. -/
namespace Go.Proofs.Ytmbjflhhffcjdaa
open Go.RowKit
set_option linter.unusedVariables false

/-- The byte at k is as a name wants it there. -/
def NmAt (s : ByteArray) (k : Nat) (h : k < s.size) : Prop :=
  (97 ≤ (s[k]'h).toNat ∧ (s[k]'h).toNat ≤ 122) ∨ (0 < k ∧ 48 ≤ (s[k]'h).toNat ∧ (s[k]'h).toNat ≤ 57)

/-- The bytes ahead of k are as a name wants them. -/
def NmTo (s : ByteArray) (k : Nat) : Prop := ∀ i (h : i < s.size), i < k → NmAt s i h

/-- A name. -/
def NmOk (s : ByteArray) : Prop := 1 ≤ s.size ∧ s.size ≤ 12 ∧ NmTo s s.size

def nmDec (s : ByteArray) : Decidable (NmOk s) := by
  unfold NmOk NmTo NmAt
  exact inferInstance
def nmB (s : ByteArray) : Bool := @decide (NmOk s) (nmDec s)

end Go.Proofs.Ytmbjflhhffcjdaa


/- Right tokens in plain words. No program is named here. -/
namespace Go.Proofs.Ytmbjflhhffcjdaa.Pl
open Go Go.RowKit
set_option linter.unusedVariables false

/-- whether the wants ascend from behind 'last' up to q. -/
def wGo (last q : Int) : List Int → Bool
  | [] => true
  | x :: xs => if x ≤ last ∨ q < x then false else wGo x q xs
def wB (ws : List Int) (q : Int) : Bool := decide ((ws.length : Int) ≤ 20) && wGo 0 q ws
/-- whether a token is right. -/
def tkB (c r q a b : Int) (ws : List Int) : Bool :=
  decide (1 ≤ c ∧ c ≤ 9) && (decide (1 ≤ r ∧ r ≤ 1000000000) && (decide (0 ≤ q ∧ q ≤ 60) && (decide (0 ≤ a ∧ a ≤ q) && (decide (0 ≤ b ∧ b ≤ 5) && wB ws q))))

/-- the state of a loop over the wants: 'last' is the last one that was met. -/
def WSt (ws : List Int) (q : Int) (k : Nat) (L : Int) : Prop := wGo L q (ws.drop k) = wGo 0 q ws ∧ 0 ≤ L ∧ (k = 0 → L = 0) ∧ ∀ j (h : j < ws.length), k = j + 1 → L = ws[j]
end Go.Proofs.Ytmbjflhhffcjdaa.Pl


