/- Joined texts: CTk. -/
import Derived.WalkKit
/- Right tokens in plain words. No program is named here. -/
namespace Go.Proofs.YtoahljkifikbaaaGreat.Pl
open Go Go.RowKit
set_option linter.unusedVariables false

/-- whether the wants ascend from behind 'last' up to q. -/
def wGo (last q : Int) : List Int → Bool
  | [] => true
  | x :: xs => if x ≤ last ∨ q < x then false else wGo x q xs
theorem wGo_step {L q x : Int} {xs : List Int} (h1 : L < x) (h2 : x ≤ q) : wGo L q (x :: xs) = wGo x q xs := by
  rw [wGo, if_neg (by omega)]
theorem wGo_bad {L q x : Int} {xs : List Int} (h : x ≤ L ∨ q < x) : wGo L q (x :: xs) = false := by
  rw [wGo, if_pos h]
def wB (ws : List Int) (q : Int) : Bool := decide ((ws.length : Int) ≤ 20) && wGo 0 q ws
/-- whether a token is right. -/
def tkB (c r q a b : Int) (ws : List Int) : Bool :=
  decide (1 ≤ c ∧ c ≤ 9) && (decide (1 ≤ r ∧ r ≤ 1000000000) && (decide (0 ≤ q ∧ q ≤ 60) && (decide (0 ≤ a ∧ a ≤ q) && (decide (0 ≤ b ∧ b ≤ 5) && wB ws q))))

/-- the state of a loop over the wants: 'last' is the last one that was met. -/
def WSt (ws : List Int) (q : Int) (k : Nat) (L : Int) : Prop := wGo L q (ws.drop k) = wGo 0 q ws ∧ 0 ≤ L ∧ (k = 0 → L = 0) ∧ ∀ j (h : j < ws.length), k = j + 1 → L = ws[j]
theorem wSt_start (ws : List Int) (q : Int) : WSt ws q 0 0 := ⟨rfl, by omega, fun _ => rfl, fun j _ h => by omega⟩
theorem wSt_next {ws : List Int} {q L x : Int} {k : Nat} (h : WSt ws q k L) (hk : k < ws.length) (hx : x = ws[k]) (h1 : L < x) (h2 : x ≤ q) : WSt ws q (k + 1) x := by
  obtain ⟨a, b, c, d⟩ := h
  subst hx
  refine ⟨?_, by omega, fun h => by omega, fun j hj e => ?_⟩
  · rw [← a, List.drop_eq_getElem_cons hk, wGo_step h1 h2]
  · obtain rfl : j = k := by omega
    rfl
theorem wSt_bad {ws : List Int} {q L x : Int} {k : Nat} (h : WSt ws q k L) (hk : k < ws.length) (hx : x = ws[k]) (h1 : x ≤ L ∨ q < x) : wGo 0 q ws = false := by
  rw [← h.1, List.drop_eq_getElem_cons hk, ← hx, wGo_bad h1]
theorem wSt_end {ws : List Int} {q L : Int} {k : Nat} (h : WSt ws q k L) (hk : ws.length ≤ k) : wGo 0 q ws = true := by
  rw [← h.1, List.drop_eq_nil_of_le hk]; rfl
end Go.Proofs.YtoahljkifikbaaaGreat.Pl


