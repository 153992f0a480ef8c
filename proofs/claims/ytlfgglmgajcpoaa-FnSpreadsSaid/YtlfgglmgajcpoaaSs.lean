/- Lists of lists of ints: measured, copied, compared, written over. -/
import Derived.Test.YtlfgglmgajcpoaaDl
import Derived.Test.YtlfgglmgajcpoaaLo
namespace Go.Proofs.Ytlfgglmgajcpoaa
open Go.RowKit Pl
set_option linter.unusedVariables false

/-- of what was there the blocks of S alone may have turned. -/
structure Gr (S : Nat → Prop) (w w' : World) : Prop where
  os : w'.os = w.os
  tape : w'.tape = w.tape
  output : w'.output = w.output
  size : w.heap.size ≤ w'.heap.size
  block : ∀ k, k < w.heap.size → ¬ S k → w'.heap[k]? = w.heap[k]?
theorem Gr.refl (S : Nat → Prop) (w : World) : Gr S w w := ⟨rfl, rfl, rfl, Nat.le_refl _, fun _ _ _ => rfl⟩
theorem Gr.trans {S : Nat → Prop} {a b c : World} (h : Gr S a b) (k : Gr S b c) : Gr S a c :=
  ⟨k.os.trans h.os, k.tape.trans h.tape, k.output.trans h.output, Nat.le_trans h.size k.size, fun i hi hs => (k.block i (Nat.lt_of_lt_of_le hi h.size) hs).trans (h.block i hi hs)⟩
theorem Gr.ofGrown {S : Nat → Prop} {a b : World} {row : Option Nat} (h : a.grownBy b row) (hs : ∀ k, row = some k → S k) : Gr S a b := ⟨h.os, h.tape, h.output, h.size, fun k hk hn => h.block k hk (fun he => hn (hs k he.symm))⟩
theorem Gr.below {S : Nat → Prop} {a b : World} {B : Nat} (h : Gr S a b) (hs : ∀ k, S k → B ≤ k) (hB : B ≤ a.heap.size) : Below B a b := ⟨h.os, h.tape, h.output, h.size, fun k hk => h.block k (by omega) (fun h1 => by have := hs k h1; omega)⟩
theorem Pl.OwnI.keep {w w' : World} {B : Nat} {v : Value} {ss : List Int} (h : OwnI w B v ss) (hk : ∀ k, v.ownBlock = Option.some k → k < w.heap.size → w'.heap[k]? = w.heap[k]?) : OwnI w' B v ss := by
  refine ⟨h.1, ?_⟩
  rcases h.2 with hn | ⟨g, cap, cur, rfl, hbg, hg, rest⟩
  · exact .inl hn
  · exact .inr ⟨g, cap, cur, rfl, hbg, (hk g rfl (Array.getElem?_eq_some_iff.1 hg).1).trans hg, rest⟩
theorem Pl.OwnI.gr {S : Nat → Prop} {w w' : World} {B : Nat} {v : Value} {ss : List Int} (h : OwnI w B v ss) (hg : Gr S w w') (hn : ∀ k, v.ownBlock = Option.some k → ¬ S k) : OwnI w' B v ss :=
  h.keep fun k hk hlt => hg.block k hlt (hn k hk)
theorem Pl.OwnI.drewn {w : World} {B : Nat} {v : Value} {ss : List Int} (h : OwnI w B v ss) (m : Nat) : OwnI (w.drewN m) B v ss := h.keep fun k _ _ => by rw [World.heap_drewN]

/-- a row of n lists of ints of the call's own, whose first k are these; they lie behind the row, below E, and apart. -/
def RowSs (w : World) (g E n : Nat) (ls : List (List Int)) (k : Nat) : Prop :=
  ∃ (arr : Array Value) (vs : Nat → Value), w.heap[g]? = some (.cells arr 27 (0, 0)) ∧ arr.size = n ∧
    (∀ i (h : i < ls.length), i < k → arr[i]? = some (vs i) ∧ OwnI w (g + 1) (vs i) ls[i] ∧ ∀ b, (vs i).ownBlock = some b → b < E) ∧
    ∀ i j b, i < j → j < k → (vs i).ownBlock = some b → (vs j).ownBlock ≠ some b
theorem RowSs.lt {w : World} {g E n k : Nat} {ls : List (List Int)} (h : RowSs w g E n ls k) : g < w.heap.size := by
  obtain ⟨arr, vs, h1, _⟩ := h
  exact (Array.getElem?_eq_some_iff.1 h1).1
theorem RowSs.gr {S : Nat → Prop} {w w' : World} {g E n k : Nat} {ls : List (List Int)} (h : RowSs w g E n ls k) (hg : Gr S w w') (hn : ∀ b, g ≤ b → b < E → ¬ S b) (hE : g < E) : RowSs w' g E n ls k := by
  have hl := h.lt
  obtain ⟨arr, vs, h1, h2, h3, h4⟩ := h
  refine ⟨arr, vs, (hg.block g hl (hn g (Nat.le_refl _) hE)).trans h1, h2, fun i hi hk => ?_, h4⟩
  obtain ⟨x1, x2, x3⟩ := h3 i hi hk
  exact ⟨x1, x2.gr hg (fun b hb => hn b (by have := (x2.lt b hb).1; omega) (x3 b hb)), x3⟩
theorem RowSs.below {w w' : World} {g E n k : Nat} {ls : List (List Int)} (h : RowSs w g E n ls k) (hb : Below w.heap.size w w') : RowSs w' g E n ls k := by
  have hl := h.lt
  obtain ⟨arr, vs, h1, h2, h3, h4⟩ := h
  refine ⟨arr, vs, (hb.block g hl).trans h1, h2, fun i hi hk => ?_, h4⟩
  obtain ⟨x1, x2, x3⟩ := h3 i hi hk
  exact ⟨x1, x2.stays hb (fun b hb => (x2.lt b hb).2), x3⟩
theorem RowSs.drewN {w : World} {g E n k : Nat} {ls : List (List Int)} (h : RowSs w g E n ls k) (m : Nat) : RowSs (w.drewN m) g E n ls k := by
  obtain ⟨arr, vs, h1, h2, h3, h4⟩ := h
  refine ⟨arr, vs, by rw [World.heap_drewN]; exact h1, h2, fun i hi hk => ?_, h4⟩
  obtain ⟨x1, x2, x3⟩ := h3 i hi hk
  exact ⟨x1, x2.drewn m, x3⟩
theorem RowSs.frozen {w : World} {g E n k : Nat} {ls : List (List Int)} (h : RowSs w g E n ls k) (i : Nat) : w.frozen? ⟨g, i, none⟩ = false := by
  obtain ⟨arr, vs, h1, _⟩ := h
  exact frozen_of_row w g i _ 27 h1
theorem RowSs.cell {w : World} {g E n k : Nat} {ls : List (List Int)} (h : RowSs w g E n ls k) (i : Nat) (hi : i < n) : ∃ v, w.cell? ⟨g, i, none⟩ = some v := by
  obtain ⟨arr, vs, h1, h2, _⟩ := h
  refine ⟨arr[i]'(by omega), ?_⟩
  rw [cell_of_row w g i _ 27 (0, 0) h1]
  simp [h2, hi]
theorem RowSs.read {w : World} {g E n k : Nat} {ls : List (List Int)} (h : RowSs w g E n ls k) (i : Nat) (hi : i < ls.length) (hk : i < k) : ∃ v, w.cell? ⟨g, i, none⟩ = some v ∧ OwnI w (g + 1) v ls[i] := by
  obtain ⟨arr, vs, h1, h2, h3, _⟩ := h
  obtain ⟨x1, x2, _⟩ := h3 i hi hk
  exact ⟨vs i, by rw [cell_of_row w g i _ 27 (0, 0) h1]; exact x1, x2⟩
theorem RowSs.set {w : World} {g E E' n k : Nat} {ls : List (List Int)} (h : RowSs w g E n ls k) (hk : k < ls.length) (hn : ls.length = n) {v : Value} (hv : OwnI w (g + 1) v ls[k]) (h0 : ∀ b, v.ownBlock = some b → E ≤ b ∧ b < E') (hE : E ≤ E') :
    RowSs (w.setCell ⟨g, k, none⟩ v) g E' n ls (k + 1) := by
  obtain ⟨arr, vs, h1, h2, h3, h4⟩ := h
  refine ⟨_, fun i => if i = k then v else vs i, heap_setCell_same w g k _ 27 v h1, by simp [h2], fun i hi hik => ?_, fun i j b hij hj hb => ?_⟩
  · by_cases e : i = k
    · subst e
      simp only [↓reduceIte]
      refine ⟨by simp [Array.getElem?_setIfInBounds, h2]; omega, hv.keep (fun b hb hlt => ?_), fun b hb => (h0 b hb).2⟩
      exact Below.heap_setCell w ⟨g, i, none⟩ v b (fun he => by have := (hv.lt b hb).1; simp at he; omega)
    · simp only [if_neg e]
      obtain ⟨x1, x2, x3⟩ := h3 i hi (by omega)
      refine ⟨by rw [Array.getElem?_setIfInBounds_ne (by omega)]; exact x1, x2.keep (fun b hb hlt => ?_), fun b hb => Nat.lt_of_lt_of_le (x3 b hb) hE⟩
      exact Below.heap_setCell w ⟨g, k, none⟩ v b (fun he => by have := (x2.lt b hb).1; simp at he; omega)
  · dsimp only at hb ⊢
    rw [if_neg (show ¬ i = k by omega)] at hb
    by_cases e : j = k
    · rw [if_pos e]
      intro hv2
      have := (h0 b hv2).1
      have := (h3 i (by omega) (by omega)).2.2 b hb
      omega
    · rw [if_neg e]
      exact h4 i j b hij (by omega) hb
theorem RowSs.ls {w : World} {g E n : Nat} {ls : List (List Int)} (h : RowSs w g E n ls n) (hn : ls.length = n) (hm : ∀ l ∈ ls, l.length ≤ 1048576) : LsAt w (some ⟨g, 0, none⟩) ls := by
  have hl := h.lt
  intro i hi
  obtain ⟨v, h1, h2⟩ := h.read i hi (by omega)
  obtain ⟨ao, cap, rfl, h3⟩ := h2.ints
  exact ⟨g, 0, ao, cap, rfl, hl, by rw [Nat.zero_add]; exact h1, h3, by have := hm _ (List.getElem_mem hi); omega⟩
/-- one of them written over. -/
theorem RowSs.turn {w w' : World} {g E n k : Nat} {ls : List (List Int)} {xs : List Int} {v : Value} (h : RowSs w g E n ls n) (hn : ls.length = n) (hk : k < n) (hc : w.cell? ⟨g, k, none⟩ = some v) (hg : w.grownBy w' v.ownBlock) (hv : OwnI w' (g + 1) v xs) : RowSs w' g E n (ls.set k xs) n := by
  have hl := h.lt
  obtain ⟨arr, vs, h1, h2, h3, h4⟩ := h
  have hvk : v = vs k := by
    have x1 := (h3 k (by omega) hk).1
    rw [cell_of_row w g k _ 27 (0, 0) h1, x1] at hc
    simpa using hc.symm
  subst hvk
  have hgn : some g ≠ (vs k).ownBlock := fun he => by have := ((h3 k (by omega) hk).2.1.lt g he.symm).1; omega
  refine ⟨arr, vs, (hg.block g hl hgn).trans h1, h2, fun i hi hik => ?_, h4⟩
  rw [List.length_set] at hi
  obtain ⟨x1, x2, x3⟩ := h3 i hi hik
  refine ⟨x1, ?_, x3⟩
  by_cases e : k = i
  · subst e
    rw [List.getElem_set_self]
    exact hv
  · rw [List.getElem_set_ne e]
    refine ownI_grown x2 hg (fun b hb he => ?_)
    rcases Nat.lt_or_ge i k with hlt | hge
    · exact h4 i k b hlt hk hb he.symm
    · exact h4 k i b (by omega) hik he.symm hb
theorem Try.infoIs : (Try.prog.info? 27).map (fun i => (i.zero, i.size, i.bytes)) = some (some (.slice none 0 0), 1, 24) := by kernel_rfl
end Go.Proofs.Ytlfgglmgajcpoaa
