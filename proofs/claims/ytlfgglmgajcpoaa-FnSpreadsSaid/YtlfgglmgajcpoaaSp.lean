/- What is said spreads: children, lost pairs and who has it, in plain words. -/
import Derived.Test.YtlfgglmgajcpoaaTr
namespace Go.Proofs.Ytlfgglmgajcpoaa
open Go.RowKit Pl
set_option linter.unusedVariables false

/-- the children of v of the first k. -/
def chlTo (T : List Int) (v : Int) (k : Nat) : List Int := ((List.range k).filter fun u => T.getD u (-2) == v).map fun (u : Nat) => (u : Int)
def chl (T : List Int) (v : Int) : List Int := chlTo T v T.length
theorem chlTo_yes {T : List Int} {v : Int} {k : Nat} (h : T.getD k (-2) = v) : chlTo T v (k + 1) = chlTo T v k ++ [(k : Int)] := by
  unfold chlTo
  rw [List.range_succ, List.filter_append, List.map_append, List.filter_cons_of_pos (by rw [h]; simp)]
  rfl
theorem chlTo_no {T : List Int} {v : Int} {k : Nat} (h : T.getD k (-2) ≠ v) : chlTo T v (k + 1) = chlTo T v k := by
  unfold chlTo
  rw [List.range_succ, List.filter_append, List.map_append, List.filter_cons_of_neg (by simpa using h)]
  simp
theorem chl_mem {T : List Int} {v x : Int} : x ∈ chl T v ↔ ∃ u : Nat, u < T.length ∧ T.getD u (-2) = v ∧ x = (u : Int) := by
  unfold chl chlTo
  simp only [List.mem_map, List.mem_filter, List.mem_range, beq_iff_eq]
  constructor
  · rintro ⟨u, ⟨h1, h2⟩, rfl⟩; exact ⟨u, h1, h2, rfl⟩
  · rintro ⟨u, h1, h2, rfl⟩; exact ⟨u, ⟨h1, h2⟩, rfl⟩
theorem nodup_map_cast : ∀ (l : List Nat), l.Nodup → (l.map fun (u : Nat) => (u : Int)).Nodup
  | [], _ => by simp
  | a :: l, h => by
    have h1 := List.nodup_cons.1 h
    rw [List.map_cons, List.nodup_cons]
    refine ⟨fun hm => ?_, nodup_map_cast l h1.2⟩
    obtain ⟨b, hb, he⟩ := List.mem_map.1 hm
    have : b = a := by omega
    subst this
    exact h1.1 hb
theorem nodup_filter' {α : Type} (p : α → Bool) {l : List α} (h : l.Nodup) : (l.filter p).Nodup := h.sublist List.filter_sublist
theorem chl_nodup (T : List Int) (v : Int) : (chl T v).Nodup := nodup_map_cast _ (nodup_filter' _ List.nodup_range)
theorem chl_len (T : List Int) (v : Int) : (chl T v).length ≤ T.length := by
  unfold chl chlTo
  rw [List.length_map]
  have := List.length_filter_le (fun u => T.getD u (-2) == v) (List.range T.length)
  simpa using this
/-- whether the pair is lost. -/
def lostB (ls : List (List Int)) (a b : Int) : Bool := ls.any fun p => p == [a, b]
/-- those that come over. -/
def kept (T : List Int) (ls : List (List Int)) (v : Int) : List Int := (chl T v).filter fun c => !lostB ls v c

/-- who has it, when k of them have told it on; how many times it was sent. -/
def had (T : List Int) (ls : List (List Int)) (r : Int) : Nat → List Int
  | 0 => [r]
  | k + 1 => had T ls r k ++ (match (had T ls r k)[k]? with | some v => kept T ls v | none => [])
def sentN (T : List Int) (ls : List (List Int)) (r : Int) : Nat → Nat
  | 0 => 0
  | k + 1 => sentN T ls r k + (match (had T ls r k)[k]? with | some v => (chl T v).length | none => 0)
theorem had_succ {T : List Int} {ls : List (List Int)} {r : Int} {k : Nat} {v : Int} (h : (had T ls r k)[k]? = some v) : had T ls r (k + 1) = had T ls r k ++ kept T ls v := by
  show had T ls r k ++ _ = _
  rw [h]
theorem sentN_succ {T : List Int} {ls : List (List Int)} {r : Int} {k : Nat} {v : Int} (h : (had T ls r k)[k]? = some v) : sentN T ls r (k + 1) = sentN T ls r k + (chl T v).length := by
  show sentN T ls r k + _ = _
  rw [h]

/-- no two alike; all are sites; each but the root was told by one of the first k. -/
structure HadOk (T : List Int) (r : Nat) (k : Nat) (H : List Int) : Prop where
  nodup : H.Nodup
  site : ∀ x ∈ H, 0 ≤ x ∧ x < T.length
  told : ∀ x ∈ H, x ≠ (r : Int) → ∃ j, j < k ∧ H[j]? = some (T.getD x.toNat (-2))
theorem had_ok {T : List Int} {ls : List (List Int)} {r : Nat} (hr : r < T.length) (h0 : T.getD r (-2) = -1) : ∀ k, HadOk T r k (had T ls r k)
  | 0 => ⟨by simp [had], fun x hx => by simp [had] at hx; subst hx; omega, fun x hx hn => by simp [had] at hx; exact absurd hx hn⟩
  | k + 1 => by
    have ih := had_ok (ls := ls) hr h0 k
    cases hv : (had T ls r k)[k]? with
    | none =>
      have e : had T ls r (k + 1) = had T ls r k := by show had T ls r k ++ _ = _; rw [hv]; simp
      rw [e]
      exact ⟨ih.nodup, ih.site, fun x hx hn => by obtain ⟨j, h1, h2⟩ := ih.told x hx hn; exact ⟨j, by omega, h2⟩⟩
    | some v =>
      rw [had_succ hv]
      have hvm := List.mem_of_getElem? hv
      have hv0 := ih.site v hvm
      have kid : ∀ x ∈ kept T ls v, 0 ≤ x ∧ x < T.length ∧ T.getD x.toNat (-2) = v := fun x hx => by
        obtain ⟨u, h1, h2, rfl⟩ := chl_mem.1 (List.mem_filter.1 hx).1
        exact ⟨by omega, by omega, by simpa using h2⟩
      refine ⟨List.nodup_append.2 ⟨ih.nodup, nodup_filter' _ (chl_nodup T v), fun x hx y hy he => ?_⟩, fun x hx => ?_, fun x hx hn => ?_⟩
      · subst he
        obtain ⟨_, _, hk⟩ := kid x hy
        by_cases e : x = (r : Int)
        · subst e
          rw [Int.toNat_natCast, h0] at hk
          omega
        · obtain ⟨j, hj, hjx⟩ := ih.told x hx e
          rw [hk] at hjx
          have h1 := (List.getElem?_eq_some_iff.1 hjx)
          have h2 := (List.getElem?_eq_some_iff.1 hv)
          have := (List.getElem_inj ih.nodup).1 (h1.2.trans h2.2.symm)
          omega
      · rcases List.mem_append.1 hx with hx | hx
        · exact ih.site x hx
        · exact ⟨(kid x hx).1, (kid x hx).2.1⟩
      · rcases List.mem_append.1 hx with hx | hx
        · obtain ⟨j, h1, h2⟩ := ih.told x hx hn
          exact ⟨j, by omega, by rw [List.getElem?_append_left (List.getElem?_eq_some_iff.1 h2).1]; exact h2⟩
        · exact ⟨k, by omega, by rw [(kid x hx).2.2, List.getElem?_append_left (List.getElem?_eq_some_iff.1 hv).1]; exact hv⟩
theorem nodup_sub_len : ∀ (n : Nat) (H : List Int), H.Nodup → (∀ x ∈ H, 0 ≤ x ∧ x < n) → H.length ≤ n
  | 0, H, _, h => by
    cases H with
    | nil => simp
    | cons x H => have := h x (by simp); omega
  | n + 1, H, hd, h => by
    have := nodup_sub_len n (H.filter fun x => decide (x ≠ (n : Int))) (nodup_filter' _ hd) (fun x hx => by
      have h1 := h x (List.mem_filter.1 hx).1
      have h2 := (List.mem_filter.1 hx).2
      simp at h2
      omega)
    have h3 : H.length ≤ (H.filter fun x => decide (x ≠ (n : Int))).length + 1 := by
      clear this h
      induction H with
      | nil => simp
      | cons x H ih =>
        have h4 := List.nodup_cons.1 hd
        by_cases e : x = (n : Int)
        · have : (H.filter fun x => decide (x ≠ (n : Int))) = H := List.filter_eq_self.2 (fun y hy => by
            simp
            intro he
            subst he
            subst e
            exact h4.1 hy)
          rw [List.filter_cons_of_neg (by simp [e]), this]
          simp
        · rw [List.filter_cons_of_pos (by simp [e])]
          have := ih h4.2
          rw [List.length_cons, List.length_cons]
          omega
    omega
theorem had_len {T : List Int} {ls : List (List Int)} {r : Nat} (hr : r < T.length) (h0 : T.getD r (-2) = -1) (k : Nat) : (had T ls r k).length ≤ T.length := nodup_sub_len _ _ (had_ok hr h0 k).nodup (had_ok hr h0 k).site
end Go.Proofs.Ytlfgglmgajcpoaa
