/- Pieces are joined to the whole again: in plain words. No program is named here. -/
import Derived.Test.YtfefjkldjaabbaaIp
import Derived.Test.YtfefjkldjaabbaaJo
namespace Go.Proofs.Ytfefjkldjaabbaa
open Go.RowKit Pl
set_option linter.unusedVariables false

theorem app_list (a b : ByteArray) : (a ++ b).data.toList = a.data.toList ++ b.data.toList := by rw [ByteArray.data_append, Array.toList_append]

theorem pcP_of {n i c : Nat} {t : ByteArray} (h1 : n ≤ 100000) (h2 : i ≤ 10) (h3 : c ≤ 10) (hr : rightB n i c t = true) : pcP (varS n ++ varS i ++ varS c ++ t) = some (n, i, c, t) := by
  obtain ⟨s, hs⟩ : ∃ s, s = varS n ++ varS i ++ varS c ++ t := ⟨_, rfl⟩
  have hl : s.data.toList = varL n ++ (varL i ++ (varL c ++ t.data.toList)) := by
    rw [hs, app_list, app_list, app_list, varS_list, varS_list, varS_list]
    simp only [List.append_assoc]
  rw [← hs]
  have e0 : rv s 0 = some (n, (varL n).length) := by
    have := rv_var (s := s) (p := []) (n := n) (by omega) hl
    simpa using this
  have e1 : rv s (varL n).length = some (i, (varL n).length + (varL i).length) := rv_var (s := s) (p := varL n) (n := i) (by omega) hl
  have e2 : rv s ((varL n).length + (varL i).length) = some (c, (varL n).length + (varL i).length + (varL c).length) := by
    have := rv_var (s := s) (p := varL n ++ varL i) (n := c) (q := t.data.toList) (by omega) (by rw [hl, List.append_assoc])
    simpa using this
  have e3 : s.extract ((varL n).length + (varL i).length + (varL c).length) s.size = t := by
    apply rt_ext
    rw [ext_list', rt_size, hl, ← List.append_assoc, ← List.append_assoc, ← List.length_append, ← List.length_append, List.drop_left, List.take_of_length_le]
    simp only [List.length_append]; omega
  have := rawP_some e0 e1 e2
  rw [e3] at this
  exact pcP_good this hr

theorem pcS_piece {num : Nat} {s : ByteArray} {i : Nat} (hn : num ≤ 100000) (hs : s.size ≤ 400) (hi : i < cntN s.size) : pcP (pcS num s i) = some (num, i, cntN s.size, partP s i) := by
  have hc := (cntN_le hs).2
  refine pcP_of hn (by omega) hc (decide_eq_true ⟨hn, hc, hi, ?_⟩)
  rw [part_size]
  unfold lenN
  unfold cntN at hi ⊢
  split at hi
  · right; constructor
    · rw [if_pos (by assumption)]; omega
    · omega
  · rw [if_neg (by assumption)]; omega

theorem parts_cat {s : ByteArray} (k : Nat) (h : 40 * k ≤ s.size + 39 ∨ k ≤ 1) : (catL ((List.range k).map (partP s))).data.toList = s.data.toList.take (40 * k) := by
  induction k with
  | zero => simp [catL_list]
  | succ k ih =>
    rw [List.range_succ, List.map_append, List.map_cons, List.map_nil, catL_snoc, app_list, ih (by omega)]
    unfold partP
    rw [ext_list', show 40 * k + lenN s.size k - 40 * k = lenN s.size k by omega]
    have e : (s.data.toList.drop (40 * k)).take (lenN s.size k) = (s.data.toList.drop (40 * k)).take 40 := by
      unfold lenN
      have h1 : (s.data.toList.drop (40 * k)).take (s.size - 40 * k) = s.data.toList.drop (40 * k) := List.take_of_length_le (by rw [List.length_drop, ← rt_size]; exact Nat.le_refl _)
      rw [← List.take_take, h1]
    rw [e, show 40 * (k + 1) = 40 * k + 40 by omega, List.take_add]
theorem parts_all {s : ByteArray} : catL ((List.range (cntN s.size)).map (partP s)) = s := by
  apply rt_ext
  rw [parts_cat _ (by unfold cntN; split <;> omega), List.take_of_length_le]
  rw [← rt_size]; unfold cntN; split <;> omega

theorem joinP_app : ∀ (a b : List ByteArray) (p : Pi) (out : List ByteArray), joinP p out (a ++ b) = joinP (joinP p out a).1 (joinP p out a).2 b
  | [], b, p, out => rfl
  | x :: a, b, p, out => by rw [List.cons_append, joinP, joinP_app a b]; rfl

/-- the first k pieces of a text, come to any pile: the pile has begun anew. -/
theorem joinP_some {num : Nat} {s : ByteArray} (hn : num ≤ 100000) (hs : s.size ≤ 400) (p : Pi) (out : List ByteArray) : ∀ k, 0 < k → k < cntN s.size → joinP p out ((List.range k).map (pcS num s)) = (⟨num, cntN s.size, (List.range k).map (partP s)⟩, out) := by
  intro k
  induction k with
  | zero => intro h; omega
  | succ k ih =>
    intro _ hk
    rw [pcs_succ, joinP_snoc]
    have hp := pcS_piece (i := k) hn hs (by omega)
    by_cases h0 : k = 0
    · subst h0
      have hf : fitsB p num 0 (cntN s.size) = true := decide_eq_true (.inl rfl)
      show ((addP p (pcS num s 0)).1, if (addP p (pcS num s 0)).2.2 = true then out ++ [(addP p (pcS num s 0)).2.1] else out) = _
      rw [addP_more hp hf (by omega)]
      rfl
    · rw [ih (by omega) (by omega)]
      have hf : fitsB ⟨num, cntN s.size, (List.range k).map (partP s)⟩ num k (cntN s.size) = true := decide_eq_true (.inr ⟨rfl, rfl, by simp⟩)
      rw [addP_more hp hf (by omega)]
      have hb : baseP ⟨num, cntN s.size, (List.range k).map (partP s)⟩ k = (List.range k).map (partP s) := by unfold baseP; rw [if_neg h0]
      rw [hb, List.range_succ, List.map_append]
      rfl
/-- all pieces of a text, come to any pile: the text, and no pile. -/
theorem joinP_all {num : Nat} {s : ByteArray} (hn : num ≤ 100000) (hs : s.size ≤ 400) (p : Pi) (out : List ByteArray) : joinP p out (pcsL num s) = (zPi, out ++ [s]) := by
  obtain ⟨hc0, _⟩ := cntN_le hs
  obtain ⟨k, hk⟩ : ∃ k, cntN s.size = k + 1 := ⟨cntN s.size - 1, by omega⟩
  have hp := pcS_piece (i := k) hn hs (by omega)
  have hall := parts_all (s := s)
  unfold pcsL
  rw [hk, pcs_succ, joinP_snoc]
  rw [hk, List.range_succ, List.map_append] at hall
  rw [hk] at hp
  by_cases h0 : k = 0
  · subst h0
    have hf : fitsB p num 0 (0 + 1) = true := decide_eq_true (.inl rfl)
    show ((addP p (pcS num s 0)).1, if (addP p (pcS num s 0)).2.2 = true then out ++ [(addP p (pcS num s 0)).2.1] else out) = _
    rw [addP_last hp hf rfl]
    show (zPi, out ++ [catL (baseP p 0 ++ [partP s 0])]) = _
    have hb : baseP p 0 = (List.range 0).map (partP s) := rfl
    rw [hb]
    rw [show (List.range 0).map (partP s) ++ [partP s 0] = (List.range 0).map (partP s) ++ List.map (partP s) [0] from rfl, hall]
  · rw [joinP_some hn hs p out k (by omega) (by omega)]
    have hf : fitsB ⟨num, cntN s.size, (List.range k).map (partP s)⟩ num k (k + 1) = true := decide_eq_true (.inr ⟨rfl, by rw [hk], by simp⟩)
    rw [addP_last hp hf rfl]
    have hb : baseP ⟨num, cntN s.size, (List.range k).map (partP s)⟩ k = (List.range k).map (partP s) := by unfold baseP; rw [if_neg h0]
    rw [hb]
    show (zPi, out ++ [catL ((List.range k).map (partP s) ++ [partP s k])]) = _
    rw [show (List.range k).map (partP s) ++ [partP s k] = (List.range k).map (partP s) ++ List.map (partP s) [k] from rfl, hall]
theorem joined_all {num : Nat} {s : ByteArray} (hn : num ≤ 100000) (hs : s.size ≤ 400) : joinedL (pcsL num s) = [s] := by
  unfold joinedL; rw [joinP_all hn hs]; rfl
theorem joined_twice {num : Nat} {s : ByteArray} (hn : num ≤ 100000) (hs : s.size ≤ 400) : joinedL (pcsL num s ++ pcsL num s) = [s, s] := by
  unfold joinedL; rw [joinP_app, joinP_all hn hs, joinP_all hn hs]; rfl
theorem joined_few {num : Nat} {s : ByteArray} (hn : num ≤ 100000) (hs : s.size ≤ 400) (k : Nat) (hk : k < cntN s.size) : joinedL ((pcsL num s).take k) = [] := by
  have e : (pcsL num s).take k = (List.range k).map (pcS num s) := by
    unfold pcsL; rw [← List.map_take, List.take_range]; congr 2; omega
  unfold joinedL
  rw [e]
  rcases Nat.eq_zero_or_pos k with h | h
  · subst h; rfl
  · rw [joinP_some hn hs zPi [] k h hk]
end Go.Proofs.Ytfefjkldjaabbaa
