/- Joined texts: CNm CTk. -/
import Derived.WalkKit
import Derived.Laws.RangeAny
/- Names in plain words: when a text is a name, and that a byte above 127 makes a rune that is neither a letter nor a figure. -/
namespace Go.Proofs.YtmbjflhhffcjdaaDoor
open Go.RowKit
set_option linter.unusedVariables false

/-- The byte at k is as a name wants it there. -/
def NmAt (s : ByteArray) (k : Nat) (h : k < s.size) : Prop :=
  (97 ≤ (s[k]'h).toNat ∧ (s[k]'h).toNat ≤ 122) ∨ (0 < k ∧ 48 ≤ (s[k]'h).toNat ∧ (s[k]'h).toNat ≤ 57)

/-- The bytes ahead of k are as a name wants them. -/
def NmTo (s : ByteArray) (k : Nat) : Prop := ∀ i (h : i < s.size), i < k → NmAt s i h

/-- A name. -/
def NmOk (s : ByteArray) : Prop := 1 ≤ s.size ∧ s.size ≤ 12 ∧ NmTo s s.size

def nmDec (s : ByteArray) : Decidable (NmOk s) := by
  unfold NmOk NmTo NmAt
  exact inferInstance
def nmB (s : ByteArray) : Bool := @decide (NmOk s) (nmDec s)

theorem nmB_yes {s : ByteArray} (h : NmOk s) : nmB s = true := by simp [nmB, h]
theorem nmB_no {s : ByteArray} (h : ¬ NmOk s) : nmB s = false := by simp [nmB, h]
theorem nmB_iff {s : ByteArray} : nmB s = true ↔ NmOk s := by simp [nmB]

theorem nmTo_zero (s : ByteArray) : NmTo s 0 := fun i h hi => absurd hi (by omega)
theorem nmTo_step {s : ByteArray} {k : Nat} (h : NmTo s k) (hk : k < s.size) (ha : NmAt s k hk) : NmTo s (k + 1) := by
  intro i hi hik
  by_cases e : i = k
  · subst e; exact ha
  · exact h i hi (by omega)
theorem nmTo_end {s : ByteArray} {k : Nat} (h : NmTo s k) (hk : ¬ k < s.size) (h1 : 1 ≤ s.size) (h2 : s.size ≤ 12) : nmB s = true :=
  nmB_yes ⟨h1, h2, fun i hi _ => h i hi (by omega)⟩
theorem nm_bad {s : ByteArray} {k : Nat} (hk : k < s.size) (h : ¬ NmAt s k hk) : nmB s = false :=
  nmB_no fun H => h (H.2.2 k hk hk)
end Go.Proofs.YtmbjflhhffcjdaaDoor


/- Right tokens in plain words. No program is named here. -/
namespace Go.Proofs.YtmbjflhhffcjdaaDoor.Pl
open Go Go.RowKit
set_option linter.unusedVariables false

/-- whether the wants ascend from behind 'last' up to q. -/
def wGo (last q : Int) : List Int → Bool
  | [] => true
  | x :: xs => if x ≤ last ∨ q < x then false else wGo x q xs
def wB (ws : List Int) (q : Int) : Bool := decide ((ws.length : Int) ≤ 20) && wGo 0 q ws
/-- whether a token is right. -/
def tkB (c r q a b : Int) (ws : List Int) : Bool :=
  decide (1 ≤ c ∧ c ≤ 9) && (decide (1 ≤ r ∧ r ≤ 1000000000) && (decide (0 ≤ q ∧ q ≤ 60) && (decide (0 ≤ a ∧ a ≤ q) && (decide (0 ≤ b ∧ b ≤ 5) && wB ws q))))

/-- the state of a loop over the wants: 'last' is the last one that was met. -/
def WSt (ws : List Int) (q : Int) (k : Nat) (L : Int) : Prop := wGo L q (ws.drop k) = wGo 0 q ws ∧ 0 ≤ L ∧ (k = 0 → L = 0) ∧ ∀ j (h : j < ws.length), k = j + 1 → L = ws[j]
end Go.Proofs.YtmbjflhhffcjdaaDoor.Pl


