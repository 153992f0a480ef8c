/- What FnPiles asks of piles, in plain words. No program is named here. -/
import Derived.Test.YtfefjkldjaabbaaJo
namespace Go.Proofs.Ytfefjkldjaabbaa
open Go.RowKit Pl
set_option linter.unusedVariables false

/-- a pile has no parts, or fewer than it waits for. -/
def OkPi (p : Pi) : Prop := p.ps.length = 0 ∨ (p.ps.length : Int) < p.cnt
theorem okPi_z : OkPi zPi := .inl rfl
theorem okPi_add {p : Pi} (s : ByteArray) (h : OkPi p) : OkPi (addP p s).1 ∧ ((addP p s).2.2 = true → (addP p s).1.ps.length = 0) := by
  rcases h0 : pcP s with _ | ⟨n, q, c, t⟩
  · rw [addP_none h0]; exact ⟨h, fun e => by cases e⟩
  · cases hf : fitsB p n q c with
    | false => rw [addP_no h0 hf]; exact ⟨h, fun e => by cases e⟩
    | true =>
      obtain ⟨hb, _⟩ := base_len h0 hf
      obtain ⟨_, _, hq, _⟩ := pcP_right h0
      by_cases hc : q + 1 = c
      · rw [addP_last h0 hf hc]; exact ⟨okPi_z, fun _ => rfl⟩
      · rw [addP_more h0 hf hc]
        refine ⟨.inr ?_, fun e => by cases e⟩
        show ((baseP p q ++ [t]).length : Int) < (c : Int)
        rw [List.length_append, hb]
        simp only [List.length_cons, List.length_nil]
        omega
theorem okPi_join : ∀ (l : List ByteArray) (p : Pi) (out : List ByteArray), OkPi p → OkPi (joinP p out l).1
  | [], p, out, h => h
  | s :: l, p, out, h => by rw [joinP]; exact okPi_join l _ _ (okPi_add s h).1
theorem okPi_pile (ts : List ByteArray) : OkPi (pileL ts) := okPi_join ts zPi [] okPi_z
/-- as many whole texts as pieces that were the last ones. -/
theorem joined_count {ts : List ByteArray} {k : Nat} (h : k < ts.length) : (joinedL (ts.take (k + 1))).length = (joinedL (ts.take k)).length + (if (addP (pileL (ts.take k)) ts[k]).2.2 = true then 1 else 0) := by
  rw [joined_next h]
  split <;> simp
end Go.Proofs.Ytfefjkldjaabbaa
