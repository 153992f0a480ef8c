/- Who has it at the end, ascending. -/
import Derived.Test.YtlfgglmgajcpoaaSp
namespace Go.Proofs.Ytlfgglmgajcpoaa
open Go.RowKit Pl
set_option linter.unusedVariables false

theorem had_stop {T : List Int} {ls : List (List Int)} {r : Int} {k : Nat} (h : (had T ls r k).length ≤ k) : ∀ d, had T ls r (k + d) = had T ls r k ∧ sentN T ls r (k + d) = sentN T ls r k
  | 0 => ⟨rfl, rfl⟩
  | d + 1 => by
    obtain ⟨h1, h2⟩ := had_stop h d
    have hn : (had T ls r (k + d))[k + d]? = none := by rw [h1]; exact List.getElem?_eq_none (by omega)
    have e1 : had T ls r (k + d + 1) = had T ls r (k + d) := by show had T ls r (k + d) ++ _ = _; rw [hn]; simp
    have e2 : sentN T ls r (k + d + 1) = sentN T ls r (k + d) := by show sentN T ls r (k + d) + _ = _; rw [hn]; rfl
    exact ⟨e1.trans h1, e2.trans h2⟩
theorem had_stopN {T : List Int} {ls : List (List Int)} {r : Int} {k N : Nat} (h : (had T ls r k).length ≤ k) (hk : k ≤ N) : had T ls r N = had T ls r k ∧ sentN T ls r N = sentN T ls r k := by
  have := had_stop h (N - k)
  rwa [show k + (N - k) = N by omega] at this
theorem sentN_le (T : List Int) (ls : List (List Int)) (r : Int) : ∀ k, sentN T ls r k ≤ T.length * k
  | 0 => Nat.zero_le _
  | k + 1 => by
    have ih := sentN_le T ls r k
    have : sentN T ls r (k + 1) ≤ sentN T ls r k + T.length := by
      show sentN T ls r k + _ ≤ _
      cases (had T ls r k)[k]? with
      | none => simp
      | some v => have := chl_len T v; simp; exact this
    rw [Nat.mul_add, Nat.mul_one]
    omega
/-- the sites of H, ascending. -/
def ascOf (N : Nat) (H : List Int) : List Int := ((List.range N).filter fun (u : Nat) => H.contains (u : Int)).map fun (u : Nat) => (u : Int)
theorem asc_unique : ∀ (a b : List Int), a.Pairwise (· < ·) → b.Pairwise (· < ·) → (∀ x, x ∈ a ↔ x ∈ b) → a = b
  | [], [], _, _, _ => rfl
  | [], y :: b, _, _, h => by have := (h y).2 (by simp); simp at this
  | x :: a, [], _, _, h => by have := (h x).1 (by simp); simp at this
  | x :: a, y :: b, ha, hb, h => by
    have h1 := List.pairwise_cons.1 ha
    have h2 := List.pairwise_cons.1 hb
    have hxy : x = y := by
      have hx := (h x).1 (by simp)
      have hy := (h y).2 (by simp)
      rcases List.mem_cons.1 hx with e | e
      · exact e
      · rcases List.mem_cons.1 hy with e' | e'
        · exact e'.symm
        · have := h1.1 y e'
          have := h2.1 x e
          omega
    subst hxy
    congr 1
    refine asc_unique a b h1.2 h2.2 (fun z => ?_)
    have hz := h z
    constructor
    · intro hm
      have := hz.1 (List.mem_cons_of_mem _ hm)
      rcases List.mem_cons.1 this with e | e
      · have := h1.1 z hm; omega
      · exact e
    · intro hm
      have := hz.2 (List.mem_cons_of_mem _ hm)
      rcases List.mem_cons.1 this with e | e
      · have := h2.1 z hm; omega
      · exact e
theorem asc_map_range : ∀ (l : List Nat), l.Pairwise (· < ·) → (l.map fun (u : Nat) => (u : Int)).Pairwise (· < ·) := fun l h => by
  rw [List.pairwise_map]
  exact h.imp (fun h => by omega)
theorem sorted_is {N : Nat} {H : List Int} (hn : H.Nodup) (hs : ∀ x ∈ H, 0 ≤ x ∧ x < N) : H.mergeSort (fun x y => decide (x ≤ y)) = ascOf N H := by
  have hp := List.mergeSort_perm H (fun x y => decide (x ≤ y))
  have hs1 : (H.mergeSort fun x y => decide (x ≤ y)).Pairwise (fun x y => decide (x ≤ y) = true) := List.pairwise_mergeSort (fun a b c h1 h2 => by simp at *; omega) (fun a b => by simp; omega) H
  have hnd : (H.mergeSort fun x y => decide (x ≤ y)).Nodup := hp.nodup_iff.2 hn
  have hlt : (H.mergeSort fun x y => decide (x ≤ y)).Pairwise (· < ·) := by
    refine (List.pairwise_and_iff.2 ⟨hs1, hnd⟩).imp ?_
    rintro a b ⟨h1, h2⟩
    simp at h1
    omega
  refine asc_unique _ _ hlt (asc_map_range _ (List.Pairwise.sublist List.filter_sublist List.pairwise_lt_range)) (fun x => ?_)
  rw [hp.mem_iff]
  unfold ascOf
  simp only [List.mem_map, List.mem_filter, List.mem_range, List.contains_iff_mem]
  constructor
  · intro hx
    have := hs x hx
    exact ⟨x.toNat, ⟨by omega, by rw [show ((x.toNat : Nat) : Int) = x by omega]; exact hx⟩, by omega⟩
  · rintro ⟨u, ⟨_, h2⟩, rfl⟩
    exact h2
/-- Spread. -/
def spreadH (n : Int) (ts : List Rd) (s : Int) (ls : List (List Int)) : List Int := if (trees n ts s).length = 0 then [] else ascOf (trees n ts s).length (had (trees n ts s) ls s (trees n ts s).length)
def spreadN (n : Int) (ts : List Rd) (s : Int) (ls : List (List Int)) : Nat := if (trees n ts s).length = 0 then 0 else sentN (trees n ts s) ls s (trees n ts s).length
/-- the root has none ahead. -/
theorem trees_root {n : Int} {ts : List Rd} {r : Nat} (hok : RoadsP n ts) (hr : (r : Int) ≤ n - 1) : (trees n ts r).getD r (-2) = -1 ∧ r < (trees n ts r).length := by
  have hL := least_dists hok (s := (r : Int)) (by omega) hr
  have hl : r < (dists n ts r).length := by rw [dists_yes hok (by omega) hr, distL_length]; omega
  refine ⟨?_, by rw [trees_length]; exact hl⟩
  unfold trees
  have : (List.map (fun (v : Nat) => ahd (dists n ts r) ts v) (List.range (dists n ts r).length))[r]? = some (ahd (dists n ts r) ts r) := by
    rw [List.getElem?_map, List.getElem?_range hl]
    rfl
  simp only [List.getD, this, Option.getD_some]
  exact ahd_no (fun x hx hh => ((spLead_iff hok hL x r).2 hh).1 rfl)
end Go.Proofs.Ytlfgglmgajcpoaa
