/- Joined texts: Pi. -/
import Derived.Test.YtfefjkldjaabbaaPj2
import Derived.Shelf.Strings.OnBuilder
/- Piles in plain words: a piece that comes, texts joined. No program is named here. -/
namespace Go.Proofs.Ytfefjkldjaabbaa.Pl
open Go Go.RowKit
set_option linter.unusedVariables false

/-- texts, one behind the other. -/
def catL (ts : List ByteArray) : ByteArray := ⟨((ts.map (·.data.toList)).flatten).toArray⟩
theorem catL_nil : catL [] = ByteArray.empty := rfl
theorem catL_list (ts : List ByteArray) : (catL ts).data.toList = (ts.map (·.data.toList)).flatten := rfl
theorem catL_snoc (ts : List ByteArray) (t : ByteArray) : catL (ts ++ [t]) = catL ts ++ t := by
  apply rt_ext
  rw [catL_list, ByteArray.data_append, Array.toList_append, catL_list]
  simp
theorem catL_take {ts : List ByteArray} {k : Nat} (h : k < ts.length) : catL (ts.take (k + 1)) = catL (ts.take k) ++ ts[k] := by
  rw [List.take_succ_eq_append_getElem h, catL_snoc]
theorem catL_len : ∀ (ts : List ByteArray) (m : Nat), (∀ t ∈ ts, t.size ≤ m) → (catL ts).data.toList.length ≤ ts.length * m
  | [], m, _ => by simp [catL_list]
  | t :: ts, m, h => by
    have := catL_len ts m fun x hx => h x (List.mem_cons_of_mem _ hx)
    have h1 := h t (List.mem_cons_self ..)
    have h2 : t.data.toList.length = t.size := (rt_size t).symm
    rw [catL_list] at this ⊢
    rw [List.map_cons, List.flatten_cons, List.length_append, List.length_cons, Nat.add_mul]
    omega
theorem join_nil : ∀ (ls : List (List UInt8)), Lib.join ls [] = ls.flatten
  | [] => rfl
  | [l] => by rw [Lib.join_one]; simp
  | l :: m :: r => by
    have := join_nil (m :: r)
    simp only [Lib.join] at this ⊢
    simp_all
theorem catL_join (ts : List ByteArray) : (⟨(Lib.join (ts.map (·.data.toList)) (ByteArray.mk #[]).data.toList).toArray⟩ : ByteArray) = catL ts := by
  unfold catL; rw [show (ByteArray.mk #[]).data.toList = [] from rfl, join_nil]

/-- a pile. -/
structure Pi where
  num : Int
  cnt : Int
  ps : List ByteArray
def zPi : Pi := ⟨0, 0, []⟩
/-- a piece is the next one of the pile, or begins it anew. -/
def fitsB (p : Pi) (n q c : Nat) : Bool := decide (q = 0 ∨ ((n : Int) = p.num ∧ (c : Int) = p.cnt ∧ q = p.ps.length))
def baseP (p : Pi) (q : Nat) : List ByteArray := if q = 0 then [] else p.ps
/-- what becomes of a pile when a text comes. -/
def addP (p : Pi) (s : ByteArray) : Pi × ByteArray × Bool :=
  match pcP s with
  | none => (p, ByteArray.empty, false)
  | some (n, q, c, t) =>
    if fitsB p n q c = true then
      (if q + 1 = c then (zPi, catL (baseP p q ++ [t]), true) else (⟨n, c, baseP p q ++ [t]⟩, ByteArray.empty, false))
    else (p, ByteArray.empty, false)
theorem addP_none {p : Pi} {s : ByteArray} (h : pcP s = none) : addP p s = (p, ByteArray.empty, false) := by simp [addP, h]
theorem addP_no {p : Pi} {s t : ByteArray} {n q c : Nat} (h : pcP s = some (n, q, c, t)) (hf : fitsB p n q c = false) : addP p s = (p, ByteArray.empty, false) := by simp [addP, h, hf]
theorem addP_more {p : Pi} {s t : ByteArray} {n q c : Nat} (h : pcP s = some (n, q, c, t)) (hf : fitsB p n q c = true) (hc : q + 1 ≠ c) : addP p s = (⟨n, c, baseP p q ++ [t]⟩, ByteArray.empty, false) := by simp [addP, h, hf, hc]
theorem addP_last {p : Pi} {s t : ByteArray} {n q c : Nat} (h : pcP s = some (n, q, c, t)) (hf : fitsB p n q c = true) (hc : q + 1 = c) : addP p s = (zPi, catL (baseP p q ++ [t]), true) := by simp [addP, h, hf, hc]
theorem base_len {p : Pi} {s t : ByteArray} {n q c : Nat} (h : pcP s = some (n, q, c, t)) (hf : fitsB p n q c = true) : (baseP p q).length = q ∧ q ≤ 9 := by
  obtain ⟨_, h1, h2, _⟩ := pcP_right h
  have h3 := of_decide_eq_true hf
  unfold baseP
  split
  · simp; omega
  · rcases h3 with h3 | ⟨_, _, h3⟩
    · omega
    · exact ⟨h3.symm, by omega⟩
/-- all pieces, in order: the pile, and the whole texts. -/
def joinP : Pi → List ByteArray → List ByteArray → Pi × List ByteArray
  | p, out, [] => (p, out)
  | p, out, s :: r => joinP (addP p s).1 (if (addP p s).2.2 = true then out ++ [(addP p s).2.1] else out) r
theorem joinP_snoc : ∀ (l : List ByteArray) (p : Pi) (out : List ByteArray) (s : ByteArray), joinP p out (l ++ [s]) = ((addP (joinP p out l).1 s).1, if (addP (joinP p out l).1 s).2.2 = true then (joinP p out l).2 ++ [(addP (joinP p out l).1 s).2.1] else (joinP p out l).2)
  | [], p, out, s => rfl
  | x :: l, p, out, s => by
    rw [List.cons_append, joinP, joinP_snoc l]
    rfl
theorem joinP_take {l : List ByteArray} {p : Pi} {out : List ByteArray} {k : Nat} (h : k < l.length) : joinP p out (l.take (k + 1)) = ((addP (joinP p out (l.take k)).1 l[k]).1, if (addP (joinP p out (l.take k)).1 l[k]).2.2 = true then (joinP p out (l.take k)).2 ++ [(addP (joinP p out (l.take k)).1 l[k]).2.1] else (joinP p out (l.take k)).2) := by
  rw [List.take_succ_eq_append_getElem h, joinP_snoc]
/-- piles whose texts are short. -/
def Pi.short (p : Pi) : Prop := p.ps.length ≤ 1048576 ∧ ∀ t ∈ p.ps, t.size ≤ 1048576
theorem zPi_short : zPi.short := ⟨by simp [zPi], fun t h => by cases h⟩
theorem base_short {p : Pi} {q : Nat} (h : p.short) : ∀ t ∈ baseP p q, t.size ≤ 1048576 := by
  unfold baseP
  split
  · intro t ht; cases ht
  · exact h.2
theorem addP_short {p : Pi} {s : ByteArray} (h : p.short) : (addP p s).1.short := by
  rcases h0 : pcP s with _ | ⟨n, q, c, t⟩
  · rw [addP_none h0]; exact h
  · cases hf : fitsB p n q c with
    | false => rw [addP_no h0 hf]; exact h
    | true =>
      obtain ⟨hb, hq⟩ := base_len h0 hf
      obtain ⟨_, _, _, ht⟩ := pcP_right h0
      by_cases hc : q + 1 = c
      · rw [addP_last h0 hf hc]; exact zPi_short
      · rw [addP_more h0 hf hc]
        refine ⟨by show (baseP p q ++ [t]).length ≤ _; rw [List.length_append, hb]; simp; omega, fun x hx => ?_⟩
        rcases List.mem_append.1 hx with hx | hx
        · exact base_short h x hx
        · simp at hx; subst hx; omega
theorem joinP_short : ∀ (l : List ByteArray) (p : Pi) (out : List ByteArray), p.short → (joinP p out l).1.short
  | [], p, out, h => h
  | s :: l, p, out, h => by rw [joinP]; exact joinP_short l _ _ (addP_short h)
theorem joinP_len : ∀ (l : List ByteArray) (p : Pi) (out : List ByteArray), (joinP p out l).2.length ≤ out.length + l.length
  | [], p, out => by simp [joinP]
  | s :: l, p, out => by
    rw [joinP]
    have := joinP_len l (addP p s).1 (if (addP p s).2.2 = true then out ++ [(addP p s).2.1] else out)
    rw [List.length_cons]
    split at this
    · rw [List.length_append] at this; simp at this; split <;> simp_all <;> omega
    · split <;> simp_all <;> omega
end Go.Proofs.Ytfefjkldjaabbaa.Pl

