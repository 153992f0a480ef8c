/- Unions of right lists, in plain words. -/
import Derived.Test.YtjijpcfdkmbgpaaMs
namespace Go.Proofs.Ytjijpcfdkmbgpaa
open Go.RowKit Pl
set_option linter.unusedVariables false

theorem ins1_end {ts : List It} {y : It} (h : ∀ x ∈ ts, x.1 < y.1) : ins1 ts y = ts ++ [y] := by
  have hno : hasP ts y.1 = false := hasP_false.2 fun x hx he => by have := h x hx; omega
  unfold ins1
  rw [if_neg (by rw [hno]; simp), List.filter_eq_self.2 (fun x hx => by simpa using h x hx), List.filter_eq_nil_iff.2 (fun x hx => by have := h x hx; simp; omega)]
theorem putAll_end : ∀ (ys ts : List It), Asc (ts ++ ys) → putAll ts ys = ts ++ ys
  | [], ts, _ => by simp [putAll]
  | y :: ys, ts, h => by
    have h1 : ∀ x ∈ ts, x.1 < y.1 := fun x hx => (List.pairwise_append.1 h).2.2 x hx y (List.mem_cons_self ..)
    show putAll (ins1 ts y) ys = _
    rw [ins1_end h1]
    have h2 : Asc ((ts ++ [y]) ++ ys) := by rw [List.append_assoc]; exact h
    rw [putAll_end ys (ts ++ [y]) h2, List.append_assoc]
    rfl
theorem putAll_nil {a : List It} (h : Asc a) : putAll [] a = a := putAll_end a [] h
theorem union_two {a b : List It} (ha : iGo 0 a = true) (hb : iGo 0 b = true) : unionP [a, b] = putAll a b := by
  show uni1 (uni1 [] a) b = _
  unfold uni1
  rw [if_pos hb, if_pos ha, putAll_nil (iGo_asc a 0 ha).1]
theorem union_one {a : List It} (ha : iGo 0 a = true) : unionP [a] = a := by
  show uni1 [] a = _
  unfold uni1
  rw [if_pos ha, putAll_nil (iGo_asc a 0 ha).1]
theorem asc_ext : ∀ (xs ys : List Int), xs.Pairwise (· < ·) → ys.Pairwise (· < ·) → (∀ n, n ∈ xs ↔ n ∈ ys) → xs = ys
  | [], [], _, _, _ => rfl
  | [], y :: ys, _, _, h => absurd ((h y).2 (List.mem_cons_self ..)) (by simp)
  | x :: xs, [], _, _, h => absurd ((h x).1 (List.mem_cons_self ..)) (by simp)
  | x :: xs, y :: ys, hx, hy, h => by
    obtain ⟨h1, h2⟩ := List.pairwise_cons.1 hx
    obtain ⟨h3, h4⟩ := List.pairwise_cons.1 hy
    have e : x = y := by
      rcases List.mem_cons.1 ((h x).1 (List.mem_cons_self ..)) with e | e
      · exact e
      · rcases List.mem_cons.1 ((h y).2 (List.mem_cons_self ..)) with e' | e'
        · exact e'.symm
        · have a1 := h3 x e
          have a2 := h1 y e'
          omega
    subst e
    rw [asc_ext xs ys h2 h4 fun n => ⟨fun hn => ?_, fun hn => ?_⟩]
    · rcases List.mem_cons.1 ((h n).1 (List.mem_cons_of_mem _ hn)) with e | e
      · subst e; have := h1 n hn; omega
      · exact e
    · rcases List.mem_cons.1 ((h n).2 (List.mem_cons_of_mem _ hn)) with e | e
      · subst e; have := h3 n hn; omega
      · exact e
theorem mem_seq {ts : List It} {n : Int} : n ∈ ts.map (·.1) ↔ hasP ts n = true := by
  rw [hasP_iff, List.mem_map]
theorem seq_asc {ts : List It} (h : Asc ts) : (ts.map (·.1)).Pairwise (· < ·) := by
  rw [List.pairwise_map]
  exact h
theorem seq_same {a b : List It} (ha : iGo 0 a = true) (hb : iGo 0 b = true) : (putAll a b).map (·.1) = (putAll b a).map (·.1) := by
  have aa := (iGo_asc a 0 ha).1
  have ab := (iGo_asc b 0 hb).1
  refine asc_ext _ _ (seq_asc (putAll_asc _ _ aa)) (seq_asc (putAll_asc _ _ ab)) fun n => ?_
  rw [mem_seq, mem_seq, hasP_putAll, hasP_putAll, ← hasP_iff, ← hasP_iff]
  exact Or.comm
theorem asc_inj {ts : List It} (h : Asc ts) {x y : It} (hx : x ∈ ts) (hy : y ∈ ts) (e : x.1 = y.1) : x = y := by
  obtain ⟨i, hi, rfl⟩ := List.mem_iff_getElem.1 hx
  obtain ⟨j, hj, rfl⟩ := List.mem_iff_getElem.1 hy
  rcases Nat.lt_trichotomy i j with h1 | h1 | h1
  · have := h.at h1 hj; omega
  · subst h1; rfl
  · have := h.at h1 hi; omega
theorem atP_mem {ts : List It} (h : Asc ts) {x : It} (hx : x ∈ ts) : atP ts x.1 = some x := by
  cases hh : atP ts x.1 with
  | none =>
    have := hasP_iff.2 ⟨x, hx, rfl⟩
    unfold hasP at this
    rw [hh] at this
    cases this
  | some z =>
    have h1 := List.mem_of_find?_eq_some hh
    have h2 : z.1 = x.1 := by simpa using List.find?_some hh
    rw [asc_inj h h1 hx h2]
theorem mem_ins1 {ts : List It} {x y : It} (hx : x ∈ ts) : x ∈ ins1 ts y := by
  unfold ins1
  split
  · exact hx
  · rename_i h
    by_cases h1 : x.1 < y.1
    · exact List.mem_append_left _ (List.mem_filter.2 ⟨hx, by simpa using h1⟩)
    · by_cases h2 : y.1 < x.1
      · exact List.mem_append_right _ (List.mem_cons_of_mem _ (List.mem_filter.2 ⟨hx, by simpa using h2⟩))
      · exact absurd (hasP_iff.2 ⟨x, hx, by omega⟩) h
theorem mem_putAll : ∀ {ys ts : List It} {x : It}, x ∈ ts → x ∈ putAll ts ys
  | [], ts, x, h => h
  | y :: ys, ts, x, h => mem_putAll (ys := ys) (ts := ins1 ts y) (mem_ins1 h)
end Go.Proofs.Ytjijpcfdkmbgpaa
