/- Joined texts: CTk. -/
import Derived.WalkKit
/- Right tokens in plain words. No program is named here. -/
namespace Go.Proofs.Ytdodeillifoibaa.Pl
open Go Go.RowKit
set_option linter.unusedVariables false

/-- whether the wants ascend from behind 'last' up to q. -/
def wGo (last q : Int) : List Int → Bool
  | [] => true
  | x :: xs => if x ≤ last ∨ q < x then false else wGo x q xs
def wB (ws : List Int) (q : Int) : Bool := decide ((ws.length : Int) ≤ 20) && wGo 0 q ws
/-- whether a token is right. -/
def tkB (c r q a b : Int) (ws : List Int) : Bool :=
  decide (1 ≤ c ∧ c ≤ 9) && (decide (1 ≤ r ∧ r ≤ 1000000000) && (decide (0 ≤ q ∧ q ≤ 60) && (decide (0 ≤ a ∧ a ≤ q) && (decide (0 ≤ b ∧ b ≤ 5) && wB ws q))))

/-- the state of a loop over the wants: 'last' is the last one that was met. -/
def WSt (ws : List Int) (q : Int) (k : Nat) (L : Int) : Prop := wGo L q (ws.drop k) = wGo 0 q ws ∧ 0 ≤ L ∧ (k = 0 → L = 0) ∧ ∀ j (h : j < ws.length), k = j + 1 → L = ws[j]
end Go.Proofs.Ytdodeillifoibaa.Pl


