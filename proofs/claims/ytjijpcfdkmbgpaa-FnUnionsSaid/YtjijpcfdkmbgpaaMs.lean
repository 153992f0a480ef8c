/- What is missing, in plain words. -/
import Derived.Test.YtjijpcfdkmbgpaaAr
import Derived.Test.YtjijpcfdkmbgpaaA5
namespace Go.Proofs.Ytjijpcfdkmbgpaa
open Go.RowKit Pl
set_option linter.unusedVariables false

theorem hasP_ins {ts : List It} {y : It} {n : Int} : hasP (ins1 ts y) n = true ↔ hasP ts n = true ∨ y.1 = n := by
  unfold ins1
  split
  · rename_i h
    constructor
    · exact .inl
    · rintro (h1 | h1)
      · exact h1
      · rw [← h1]; exact h
  · rw [hasP_iff, hasP_iff]
    constructor
    · rintro ⟨x, hx, he⟩
      rcases List.mem_append.1 hx with h1 | h1
      · exact .inl ⟨x, (List.mem_filter.1 h1).1, he⟩
      · rcases List.mem_cons.1 h1 with rfl | h1
        · exact .inr he
        · exact .inl ⟨x, (List.mem_filter.1 h1).1, he⟩
    · rintro (⟨x, hx, he⟩ | he)
      · by_cases h1 : x.1 < y.1
        · exact ⟨x, List.mem_append_left _ (List.mem_filter.2 ⟨hx, by simpa using h1⟩), he⟩
        · by_cases h2 : y.1 < x.1
          · exact ⟨x, List.mem_append_right _ (List.mem_cons_of_mem _ (List.mem_filter.2 ⟨hx, by simpa using h2⟩)), he⟩
          · exact ⟨y, by simp, by omega⟩
      · exact ⟨y, by simp, he⟩
theorem hasP_putAll : ∀ (ys ts : List It) (n : Int), hasP (putAll ts ys) n = true ↔ hasP ts n = true ∨ ∃ y ∈ ys, y.1 = n
  | [], ts, n => by
    show hasP ts n = true ↔ _
    simp
  | y :: ys, ts, n => by
    show hasP (putAll (ins1 ts y) ys) n = true ↔ _
    rw [hasP_putAll ys (ins1 ts y) n, hasP_ins]
    constructor
    · rintro ((h | h) | ⟨z, hz, he⟩)
      · exact .inl h
      · exact .inr ⟨y, List.mem_cons_self .., h⟩
      · exact .inr ⟨z, List.mem_cons_of_mem _ hz, he⟩
    · rintro (h | ⟨z, hz, he⟩)
      · exact .inl (.inl h)
      · rcases List.mem_cons.1 hz with rfl | hz
        · exact .inl (.inr he)
        · exact .inr ⟨z, hz, he⟩

/-- what a part of the search has found. -/
structure Found (ts : List It) (A n : Nat) (acc : List Int) : Prop where
  asc : acc.Pairwise (· < ·)
  lo : ∀ x ∈ acc, (A : Int) < x ∧ x < (n : Int) ∧ hasP ts x = false
  all : ∀ k : Nat, A < k → k < n → hasP ts (k : Int) = false → (k : Int) ∈ acc
  len : acc.length < n
theorem missGo_found (ts : List It) (A U : Nat) (hU : U ≤ 14) : ∀ (d n : Nat) (acc : List Int), U + 1 - n = d → n ≤ U + 1 → A < n → Found ts A n acc → Found ts A (U + 1) (missGo ts (U : Int) (61 - n) n acc)
  | 0, n, acc, hd, h1, hA, h => by
    have hn : n = U + 1 := by omega
    rw [missGo_end (by omega), ← hn]
    exact h
  | d + 1, n, acc, hd, h1, hA, h => by
    have hl : acc.length < 20 := by have := h.len; omega
    have hnU : (n : Int) ≤ (U : Int) := by omega
    cases hh : hasP ts (n : Int) with
    | true =>
      rw [missGo_has (by omega) hnU hl hh]
      refine missGo_found ts A U hU d (n + 1) acc (by omega) (by omega) (by omega) ⟨h.asc, fun x hx => ?_, fun k hk1 hk2 hk3 => ?_, by have := h.len; omega⟩
      · have := h.lo x hx
        exact ⟨this.1, by omega, this.2.2⟩
      · by_cases e : k = n
        · subst e; rw [hh] at hk3; cases hk3
        · exact h.all k hk1 (by omega) hk3
    | false =>
      rw [missGo_not (by omega) hnU hl hh]
      refine missGo_found ts A U hU d (n + 1) (acc ++ [(n : Int)]) (by omega) (by omega) (by omega) ⟨?_, fun x hx => ?_, fun k hk1 hk2 hk3 => ?_, by have := h.len; simp; omega⟩
      · rw [List.pairwise_append]
        refine ⟨h.asc, List.pairwise_singleton _ _, fun a ha b hb => ?_⟩
        rw [List.mem_singleton.1 hb]
        exact (h.lo a ha).2.1
      · rcases List.mem_append.1 hx with h2 | h2
        · have := h.lo x h2
          exact ⟨this.1, by omega, this.2.2⟩
        · rw [List.mem_singleton.1 h2]
          exact ⟨by omega, by omega, hh⟩
      · by_cases e : k = n
        · subst e; simp
        · exact List.mem_append_left _ (h.all k hk1 (by omega) hk3)
theorem missP_found {ts : List It} {U : Nat} (hU : U ≤ 14) (hr : iGo 0 ts = true) : Found ts (aruP ts) (U + 1) (missP ts (U : Int)) ∨ (U < aruP ts + 1 ∧ missP ts (U : Int) = []) := by
  unfold missP
  rw [if_pos (by omega)]
  by_cases h : aruP ts + 1 ≤ U + 1
  · left
    exact missGo_found ts (aruP ts) U hU _ (aruP ts + 1) [] rfl h (by omega) ⟨List.Pairwise.nil, fun x hx => by (cases hx), fun k hk1 hk2 _ => by omega, by simp⟩
  · right
    exact ⟨by omega, missGo_end (by omega) _⟩
/-- the items that are put where they are missing. -/
def lackI (xs : List Int) : List It := xs.map fun x => (x, 1, 1, ⟨#[]⟩)
theorem lackI_take (xs : List Int) (k : Nat) : (lackI xs).take k = lackI (xs.take k) := by unfold lackI; rw [List.map_take]
theorem lackI_has {ts : List It} {xs : List Int} {n : Int} : hasP (putAll ts (lackI xs)) n = true ↔ hasP ts n = true ∨ n ∈ xs := by
  rw [hasP_putAll]
  refine or_congr Iff.rfl ⟨?_, fun h => ⟨(n, 1, 1, ⟨#[]⟩), List.mem_map.2 ⟨n, h, rfl⟩, rfl⟩⟩
  rintro ⟨y, hy, rfl⟩
  obtain ⟨x, hx, rfl⟩ := List.mem_map.1 hy
  exact hx
/-- all that the law asks. -/
structure Lacks (ts : List It) (U : Nat) (xs : List Int) : Prop where
  asc : xs.Pairwise (· < ·)
  len : xs.length ≤ 20
  rng : ∀ x ∈ xs, 1 ≤ x ∧ x ≤ (U : Int)
  new : ∀ i (h : i < xs.length), hasP (putAll ts (lackI (xs.take i))) xs[i] = false
  ok : ∀ i, iGo 0 (putAll ts (lackI (xs.take i))) = true
  aru : U ≤ aruP (putAll ts (lackI xs))
  none : missP (putAll ts (lackI xs)) (U : Int) = []
theorem lacks {ts : List It} {U : Nat} (hU : U ≤ 14) (hr : iGo 0 ts = true) : Lacks ts U (missP ts (U : Int)) := by
  obtain ⟨h1, h2, h3⟩ := aru_facts hr
  have hlen := missP_le ts (U : Int)
  have key : (missP ts (U : Int)).Pairwise (· < ·) ∧ (∀ x ∈ missP ts (U : Int), 1 ≤ x ∧ x ≤ (U : Int) ∧ hasP ts x = false) ∧ ∀ k : Nat, 1 ≤ k → k ≤ U → hasP ts (k : Int) = true ∨ (k : Int) ∈ missP ts (U : Int) := by
    rcases missP_found hU hr with h | ⟨h, he⟩
    · refine ⟨h.asc, fun x hx => ?_, fun k hk1 hk2 => ?_⟩
      · have := h.lo x hx
        exact ⟨by omega, by omega, this.2.2⟩
      · by_cases hk : k ≤ aruP ts
        · exact .inl (h1 k hk1 hk)
        · cases hh : hasP ts (k : Int) with
          | true => exact .inl rfl
          | false => exact .inr (h.all k (by omega) (by omega) hh)
    · rw [he]
      exact ⟨List.Pairwise.nil, fun x hx => by (cases hx), fun k hk1 hk2 => .inl (h1 k hk1 (by omega))⟩
  generalize missP ts (U : Int) = xs at key hlen
  obtain ⟨k1, k2, k3⟩ := key
  have hok : ∀ ys : List Int, (∀ x ∈ ys, x ∈ xs) → iGo 0 (putAll ts (lackI ys)) = true := fun ys hys => by
    refine putAll_right _ _ hr fun y hy => ?_
    obtain ⟨x, hx, rfl⟩ := List.mem_map.1 hy
    have := k2 x (hys x hx)
    refine itB_yes ?_
    unfold ItOk
    refine ⟨by dsimp only; omega, by dsimp only; omega, by dsimp only; omega, ?_⟩
    show (ByteArray.mk #[]).size ≤ 60
    decide
  have hF := aru_facts (hok xs (fun _ h => h))
  have hA : U ≤ aruP (putAll ts (lackI xs)) := by
    rcases Nat.lt_or_ge (aruP (putAll ts (lackI xs))) U with h | h
    · have h4 : hasP (putAll ts (lackI xs)) ((aruP (putAll ts (lackI xs)) + 1 : Nat) : Int) = true := lackI_has.2 (k3 _ (by omega) (by omega))
      rw [hF.2.1] at h4
      cases h4
    · exact h
  refine ⟨k1, hlen, fun x hx => ⟨(k2 x hx).1, (k2 x hx).2.1⟩, fun i hi => ?_, fun i => hok _ (fun x hx => List.mem_of_mem_take hx), hA, ?_⟩
  · cases hh : hasP (putAll ts (lackI (xs.take i))) xs[i] with
    | false => rfl
    | true =>
      rcases lackI_has.1 hh with h | h
      · rw [(k2 _ (List.getElem_mem hi)).2.2] at h; cases h
      · obtain ⟨j, hj, he⟩ := List.mem_take_iff_getElem.1 h
        have := List.pairwise_iff_getElem.1 k1 j i (by omega) hi (by omega)
        omega
  · unfold missP
    rw [if_pos (by omega)]
    exact missGo_end (by omega) _
end Go.Proofs.Ytjijpcfdkmbgpaa
