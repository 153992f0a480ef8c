/- What the aru is, in plain words. -/
import Derived.Test.YtjijpcfdkmbgpaaUn
namespace Go.Proofs.Ytjijpcfdkmbgpaa
open Go.RowKit Pl
set_option linter.unusedVariables false

theorem aruGo_all (ts : List It) : ∀ (f n : Nat), (∀ k : Nat, 1 ≤ k → k ≤ n → hasP ts (k : Int) = true) → (∀ k : Nat, 1 ≤ k → k ≤ aruGo ts f n → hasP ts (k : Int) = true) ∧ (aruGo ts f n = n + f ∨ hasP ts ((aruGo ts f n + 1 : Nat) : Int) = false)
  | 0, n, h => ⟨h, .inl rfl⟩
  | f + 1, n, h => by
    rw [aruGo]
    by_cases hh : hasP ts ((n + 1 : Nat) : Int) = true
    · rw [if_pos hh]
      have h2 : ∀ k : Nat, 1 ≤ k → k ≤ n + 1 → hasP ts (k : Int) = true := fun k h1 h3 => by
        by_cases e : k = n + 1
        · subst e; exact hh
        · exact h k h1 (by omega)
      obtain ⟨a, b⟩ := aruGo_all ts f (n + 1) h2
      refine ⟨a, ?_⟩
      rcases b with b | b
      · left; omega
      · right; exact b
    · rw [if_neg hh]
      refine ⟨h, .inr ?_⟩
      cases hx : hasP ts ((n + 1 : Nat) : Int) with
      | true => exact absurd hx hh
      | false => rfl
theorem asc_head {x : It} {xs : List It} (h : Asc (x :: xs)) : Asc xs ∧ ∀ y ∈ xs, x.1 < y.1 := ⟨(List.pairwise_cons.1 h).2, (List.pairwise_cons.1 h).1⟩
/-- how many there are up to where none is missing. -/
theorem filter_count : ∀ (a : Nat) (L : Int) (ts : List It), Asc ts → (∀ x ∈ ts, L < x.1) → (∀ k : Nat, 1 ≤ k → k ≤ a → hasP ts (L + k) = true) → (ts.filter fun x => decide (x.1 ≤ L + a)).length = a
  | 0, L, ts, ha, h1, _ => by
    rw [List.filter_eq_nil_iff.2 (fun x hx => by have := h1 x hx; simp; omega)]
    rfl
  | a + 1, L, ts, ha, h1, h2 => by
    have h3 := h2 1 (by omega) (by omega)
    obtain ⟨y, hy, hye⟩ := hasP_iff.1 h3
    match ts, ha, h1, h2, hy with
    | x :: xs, ha, h1, h2, hy =>
      obtain ⟨hax, hxl⟩ := asc_head ha
      have hx1 : x.1 = L + 1 := by
        have hxL := h1 x (List.mem_cons_self ..)
        rcases List.mem_cons.1 hy with rfl | hy
        · exact hye
        · have := hxl y hy
          omega
      have ih := filter_count a (L + 1) xs hax (fun y hy => by have := hxl y hy; omega) (fun k hk1 hk2 => by
        have h4 := h2 (k + 1) (by omega) (by omega)
        obtain ⟨z, hz, hze⟩ := hasP_iff.1 h4
        refine hasP_iff.2 ⟨z, ?_, by omega⟩
        rcases List.mem_cons.1 hz with rfl | hz
        · omega
        · exact hz)
      have e : L + ((a + 1 : Nat) : Int) = L + 1 + (a : Int) := by omega
      rw [e, List.filter_cons, if_pos (by simp; omega), List.length_cons, ih]
theorem aru_facts {ts : List It} (h : iGo 0 ts = true) : (∀ k : Nat, 1 ≤ k → k ≤ aruP ts → hasP ts (k : Int) = true) ∧ hasP ts ((aruP ts + 1 : Nat) : Int) = false ∧ (wholeP ts).length = aruP ts := by
  obtain ⟨ha, hb⟩ := iGo_asc ts 0 h
  obtain ⟨h1, h2⟩ := aruGo_all ts ts.length 0 (fun k h1 h2 => by omega)
  have hc := filter_count (aruP ts) 0 ts ha (fun x hx => (hb x hx).1) (fun k hk1 hk2 => by rw [Int.zero_add]; exact h1 k hk1 hk2)
  have hw : (wholeP ts).length = aruP ts := by
    unfold wholeP
    rw [Int.zero_add] at hc
    exact hc
  refine ⟨h1, ?_, hw⟩
  rcases h2 with h2 | h2
  · have hA : aruP ts = ts.length := by unfold aruP; omega
    rw [hA, hasP_false]
    intro x hx he
    have hf : wholeP ts = ts := by
      unfold wholeP
      exact (List.filter_sublist).eq_of_length (by unfold wholeP at hw; omega)
    have hxf : x ∈ wholeP ts := by rw [hf]; exact hx
    have := (List.mem_filter.1 hxf).2
    simp at this
    omega
  · exact h2
theorem hasP_ins1 {ts : List It} {y : It} : hasP (ins1 ts y) y.1 = true := by
  unfold ins1
  split
  · assumption
  · exact hasP_iff.2 ⟨y, by simp, rfl⟩
theorem atP_ins1 {ts : List It} {y : It} (h : hasP ts y.1 = false) : atP (ins1 ts y) y.1 = some y := by
  unfold ins1
  rw [if_neg (by rw [h]; simp)]
  unfold atP
  rw [List.find?_append, List.find?_eq_none.2 (fun x hx => by have := (List.mem_filter.1 hx).2; simp at this ⊢; omega)]
  simp

set_option maxRecDepth 100000 in
set_option maxHeartbeats 1000000 in
theorem same_same (v1 v2 : Value) (ts : List It) (B1 B2 : Nat) (w : World) (h1 : SlI w B1 v1 ts) (h2 : SlI w B2 v2 ts) (hl : ts.length ≤ 1048576) :
    Calls Try.prog 16 #[v1, v2] w fun e w' => e = .returned (.bool true) ∧ Below w.heap.size w w' := by
  obtain ⟨a1, c1, rfl, x1⟩ := h1.items
  obtain ⟨a2, c2, rfl, x2⟩ := h2.items
  have X1 : Hid (ItemsAt w a1 ts) := x1
  have X2 : Hid (ItemsAt w a2 ts) := x2
  clear h1 h2 x1 x2
  go_enter Try.func16, Try.ntmps16
  go_wp2_with fail
  go_loopw [5] (fun i wr => ∃ k : Nat, k ≤ ts.length ∧ i = .int .i64 k ∧ Hid (Below w.heap.size w wr)) (fun i _ => ts.length - (intOf i).toNat)
  case atStart => exact ⟨0, by omega, rfl, Below.refl _ _⟩
  case round =>
    obtain ⟨k, hk, rfl, hb⟩ := hrel
    by_cases hlt : k < ts.length
    · obtain ⟨b1, off1, rfl, hbb1, h0, h1, h2, h3⟩ := X1.out.stays hb.out k hlt
      obtain ⟨b2, off2, rfl, hbb2, g0, g1, g2, g3⟩ := X2.out.stays hb.out k hlt
      have HP : Hid (∃ x : It, x = ts[k]) := ⟨_, rfl⟩
      obtain ⟨⟨q, f, lv, tx⟩, hp⟩ := HP.out
      rw [← hp] at h0 h1 h2 h3 g0 g1 g2 g3
      clear hp HP
      dsimp only at h0 h1 h2 h3 g0 g1 g2 g3
      have i0 : (0 : Int) ≤ (k : Int) := by omega
      have i1 : (k : Int) < (ts.length : Int) := by omega
      go_wp2_with fail
      go_region
      have B1 : Hid (Below w.heap.size w wr.drew) := hb.out.drew
      clear h0 h1 h2 h3 g0 g1 g2 g3
      generalize wr.drew = W1 at *
      go_wp2_with fail
      go_roundw
      case rel => exact ⟨k + 1, by omega, by go_num, B1⟩
      case measure => simp [intOf]; omega
    · go_wp2_with fail
      go_ret
      exact ⟨rfl, hb.out⟩
end Go.Proofs.Ytjijpcfdkmbgpaa
