/- What is said spreads to all that can be reached, once to each; what is lost takes its part of the tree: in plain words. -/
import Derived.Test.YtlfgglmgajcpoaaSq
import Derived.Test.YtlfgglmgajcpoaaSi
namespace Go.Proofs.Ytlfgglmgajcpoaa
open Go.RowKit Pl
set_option linter.unusedVariables false

theorem had_prefix {T : List Int} {ls : List (List Int)} {r : Int} (k : Nat) : ∀ d, had T ls r k <+: had T ls r (k + d)
  | 0 => List.prefix_refl _
  | d + 1 => (had_prefix k d).trans (by show had T ls r (k + d) <+: had T ls r (k + d) ++ _; exact List.prefix_append _ _)
theorem had_prefix' {T : List Int} {ls : List (List Int)} {r : Int} {k m : Nat} (h : k ≤ m) : had T ls r k <+: had T ls r m := by
  have := had_prefix (T := T) (ls := ls) (r := r) k (m - k)
  rwa [show k + (m - k) = m by omega] at this
theorem had_root (T : List Int) (ls : List (List Int)) (r : Int) (k : Nat) : r ∈ had T ls r k := (had_prefix' (Nat.zero_le k)).subset (by simp [had])
/-- who has it has told it on. -/
theorem had_closed {T : List Int} {ls : List (List Int)} {r : Int} {N : Nat} (hl : (had T ls r N).length ≤ N) {v c : Int} (hv : v ∈ had T ls r N) (hc : c ∈ kept T ls v) : c ∈ had T ls r N := by
  obtain ⟨j, hj, hjv⟩ := List.mem_iff_getElem.1 hv
  have hjN : j < N := by omega
  cases he : (had T ls r j)[j]? with
  | none =>
    have hle : (had T ls r j).length ≤ j := by
      rcases Nat.lt_or_ge j (had T ls r j).length with h | h
      · rw [List.getElem?_eq_getElem h] at he; simp at he
      · exact h
    have := (had_stopN hle (show j ≤ N by omega)).1
    rw [this] at hj
    omega
  | some v' =>
    have hp := had_prefix' (T := T) (ls := ls) (r := r) (show j ≤ N by omega)
    have hj' := (List.getElem?_eq_some_iff.1 he)
    have e : v' = v := by
      rw [← hj'.2, ← hjv]
      exact hp.getElem hj'.1
    subst e
    have h2 := had_prefix' (T := T) (ls := ls) (r := r) (show j + 1 ≤ N by omega)
    rw [had_succ he] at h2
    exact h2.subset (List.mem_append_right _ hc)
/-- who has it, but the root, was told it by the one ahead. -/
theorem had_kept {T : List Int} {ls : List (List Int)} {r : Int} : ∀ (k : Nat) (x : Int), x ∈ had T ls r k → x = r ∨ ∃ v, v ∈ had T ls r k ∧ x ∈ kept T ls v
  | 0, x, h => by simp [had] at h; exact .inl h
  | k + 1, x, h => by
    cases he : (had T ls r k)[k]? with
    | none =>
      have e : had T ls r (k + 1) = had T ls r k := by show had T ls r k ++ _ = _; rw [he]; simp
      rw [e] at h ⊢
      exact had_kept k x h
    | some v =>
      rw [had_succ he] at h ⊢
      rcases List.mem_append.1 h with h | h
      · rcases had_kept k x h with h2 | ⟨u, h2, h3⟩
        · exact .inl h2
        · exact .inr ⟨u, List.mem_append_left _ h2, h3⟩
      · exact .inr ⟨v, List.mem_append_left _ (List.mem_of_getElem? he), h⟩
theorem kept_none (T : List Int) (v : Int) : kept T [] v = chl T v := by
  unfold kept
  exact List.filter_eq_self.2 (fun x _ => by simp [lostB])
theorem kept_chl {T : List Int} {ls : List (List Int)} {v x : Int} (h : x ∈ kept T ls v) : x ∈ chl T v := (List.mem_filter.1 h).1
theorem had_sub {T : List Int} {ls : List (List Int)} {r : Int} {N : Nat} (hl : (had T [] r N).length ≤ N) : ∀ (k : Nat) (x : Int), x ∈ had T ls r k → x ∈ had T [] r N
  | 0, x, h => by simp [had] at h; subst h; exact had_root _ _ _ _
  | k + 1, x, h => by
    cases he : (had T ls r k)[k]? with
    | none =>
      have e : had T ls r (k + 1) = had T ls r k := by show had T ls r k ++ _ = _; rw [he]; simp
      rw [e] at h
      exact had_sub hl k x h
    | some v =>
      rw [had_succ he] at h
      rcases List.mem_append.1 h with h | h
      · exact had_sub hl k x h
      · exact had_closed hl (had_sub hl k v (List.mem_of_getElem? he)) (by rw [kept_none]; exact kept_chl h)
/-- nothing lost: sent once to each but the root. -/
theorem sent_is (T : List Int) (r : Int) : ∀ k, sentN T [] r k + 1 = (had T [] r k).length
  | 0 => rfl
  | k + 1 => by
    have ih := sent_is T r k
    cases he : (had T [] r k)[k]? with
    | none =>
      have e1 : had T [] r (k + 1) = had T [] r k := by show had T [] r k ++ _ = _; rw [he]; simp
      have e2 : sentN T [] r (k + 1) = sentN T [] r k := by show sentN T [] r k + _ = _; rw [he]; rfl
      rw [e1, e2, ih]
    | some v =>
      rw [had_succ he, sentN_succ he, List.length_append, kept_none]
      omega
theorem nodup_le : ∀ (l m : List Int), l.Nodup → (∀ x ∈ l, x ∈ m) → l.length ≤ m.length
  | [], m, _, _ => Nat.zero_le _
  | a :: l, m, hn, hs => by
    have h1 := List.nodup_cons.1 hn
    have ha := hs a (by simp)
    have := nodup_le l (m.erase a) h1.2 (fun x hx => (List.mem_erase_of_ne (fun (e : x = a) => h1.1 (e ▸ hx))).2 (hs x (List.mem_cons_of_mem _ hx)))
    rw [List.length_erase_of_mem ha] at this
    have := List.length_pos_of_mem ha
    simp
    omega
/-- to whom it was sent. -/
def sentL (T : List Int) (ls : List (List Int)) (r : Int) : Nat → List Int
  | 0 => []
  | k + 1 => sentL T ls r k ++ (match (had T ls r k)[k]? with | some v => chl T v | none => [])
theorem sentL_length (T : List Int) (ls : List (List Int)) (r : Int) : ∀ k, (sentL T ls r k).length = sentN T ls r k
  | 0 => rfl
  | k + 1 => by
    show (sentL T ls r k ++ _).length = sentN T ls r k + _
    rw [List.length_append, sentL_length T ls r k]
    cases (had T ls r k)[k]? <;> rfl
theorem sentL_ok {T : List Int} {ls : List (List Int)} {r : Nat} (hr : r < T.length) (h0 : T.getD r (-2) = -1) : ∀ k, (sentL T ls r k).Nodup ∧ ∀ x ∈ sentL T ls r k, ∃ v, v ∈ had T ls r k ∧ x ∈ chl T v ∧ ∃ j, j < k ∧ (had T ls r k)[j]? = some v
  | 0 => ⟨List.nodup_nil, fun x hx => by simp [sentL] at hx⟩
  | k + 1 => by
    obtain ⟨h1, h2⟩ := sentL_ok (ls := ls) hr h0 k
    have hok := had_ok (ls := ls) hr h0 k
    cases he : (had T ls r k)[k]? with
    | none =>
      have e1 : had T ls r (k + 1) = had T ls r k := by show had T ls r k ++ _ = _; rw [he]; simp
      have e2 : sentL T ls r (k + 1) = sentL T ls r k := by show sentL T ls r k ++ _ = _; rw [he]; simp
      rw [e1, e2]
      exact ⟨h1, fun x hx => by obtain ⟨v, a, b, j, c, d⟩ := h2 x hx; exact ⟨v, a, b, j, by omega, d⟩⟩
    | some v =>
      have e2 : sentL T ls r (k + 1) = sentL T ls r k ++ chl T v := by show sentL T ls r k ++ _ = _; rw [he]
      rw [had_succ he, e2]
      refine ⟨List.nodup_append.2 ⟨h1, chl_nodup T v, fun x hx y hy exy => ?_⟩, fun x hx => ?_⟩
      · subst exy
        obtain ⟨u, _, hb, j, hj, hju⟩ := h2 x hx
        obtain ⟨m, _, hm2, hm3⟩ := chl_mem.1 hb
        obtain ⟨m', _, hm2', hm3'⟩ := chl_mem.1 hy
        have : m = m' := by omega
        subst this
        have huv : u = v := hm2.symm.trans hm2'
        subst huv
        have x1 := List.getElem?_eq_some_iff.1 hju
        have x2 := List.getElem?_eq_some_iff.1 he
        have := (List.getElem_inj hok.nodup).1 (x1.2.trans x2.2.symm)
        omega
      · rcases List.mem_append.1 hx with hx | hx
        · obtain ⟨u, a, b, j, hj, hju⟩ := h2 x hx
          exact ⟨u, List.mem_append_left _ a, b, j, by omega, by rw [List.getElem?_append_left (List.getElem?_eq_some_iff.1 hju).1]; exact hju⟩
        · exact ⟨v, List.mem_append_left _ (List.mem_of_getElem? he), hx, k, by omega, by rw [List.getElem?_append_left (List.getElem?_eq_some_iff.1 he).1]; exact he⟩
/-- what is lost makes it sent no more often. -/
theorem sent_le {T : List Int} {ls : List (List Int)} {r : Nat} (hr : r < T.length) (h0 : T.getD r (-2) = -1) (k : Nat) : sentN T ls r k ≤ sentN T [] r T.length := by
  have hl := had_len (ls := []) hr h0 T.length
  obtain ⟨h1, h2⟩ := sentL_ok (ls := ls) hr h0 k
  have h3 := nodup_le ((r : Int) :: sentL T ls r k) (had T [] r T.length) (List.nodup_cons.2 ⟨fun hm => ?_, h1⟩) (fun x hx => ?_)
  · rw [List.length_cons, sentL_length, ← sent_is] at h3
    omega
  · obtain ⟨v, hv, hx, _⟩ := h2 _ hm
    obtain ⟨u, _, hu, hu2⟩ := chl_mem.1 hx
    have : u = r := by omega
    subst this
    rw [h0] at hu
    have := (had_ok (ls := ls) hr h0 k).site v hv
    omega
  · rcases List.mem_cons.1 hx with rfl | hx
    · exact had_root _ _ _ _
    · obtain ⟨v, hv, hx, _⟩ := h2 x hx
      exact had_closed hl (had_sub hl k v hv) (by rw [kept_none]; exact hx)
/-- a lost pair at the root takes its child. -/
theorem had_lost {T : List Int} {r : Nat} {c : Int} (hr : r < T.length) (h0 : T.getD r (-2) = -1) (hc : c ∈ chl T r) (k : Nat) : c ∉ had T [[(r : Int), c]] r k ∧ (had T [[(r : Int), c]] r k).length < (had T [] r T.length).length := by
  have hl := had_len (ls := []) hr h0 T.length
  obtain ⟨u, hu1, hu2, hu3⟩ := chl_mem.1 hc
  have hcr : c ≠ (r : Int) := fun e => by
    have : u = r := by omega
    subst this
    rw [h0] at hu2
    omega
  have hno : c ∉ had T [[(r : Int), c]] r k := fun hm => by
    rcases had_kept k c hm with h | ⟨v, hv, hx⟩
    · exact hcr h
    · obtain ⟨u', _, h2, h3⟩ := chl_mem.1 (kept_chl hx)
      have : u = u' := by omega
      subst this
      have hvr : v = (r : Int) := h2.symm.trans hu2
      subst hvr
      have := (List.mem_filter.1 hx).2
      simp [lostB] at this
  refine ⟨hno, ?_⟩
  have := nodup_le (c :: had T [[(r : Int), c]] r k) (had T [] r T.length) (List.nodup_cons.2 ⟨hno, (had_ok hr h0 k).nodup⟩) (fun x hx => by
    rcases List.mem_cons.1 hx with rfl | hx
    · exact had_closed hl (had_root _ _ _ _) (by rw [kept_none]; exact hc)
    · exact had_sub hl k x hx)
  simp at this
  omega
theorem asc_length {N : Nat} {H : List Int} (hn : H.Nodup) (hs : ∀ x ∈ H, 0 ≤ x ∧ x < N) : (ascOf N H).length = H.length := by
  rw [← sorted_is hn hs]
  exact List.length_mergeSort H
theorem trees_get {N : Nat} {ts : List Rd} {r v : Nat} (hv : v < (dists N ts r).length) : (trees N ts r).getD v (-2) = ahd (dists N ts r) ts v := by
  simp only [List.getD, trees, List.getElem?_map]
  rw [List.getElem?_range hv]
  rfl
/-- nothing lost: it comes to all that can be reached. -/
theorem had_all {N : Nat} {ts : List Rd} {r : Nat} (h : RoadsP N ts) (hr : r < N) : ∀ v : Nat, v < N → ((v : Int) ∈ had (trees N ts r) [] r N ↔ 0 ≤ fn (dists N ts r) v) := by
  have FI := fine h hr
  have hL := least_dists h (s := (r : Int)) (by omega) (by omega)
  obtain ⟨h0, hrl⟩ := trees_root (r := r) h (by omega)
  have hTl : (trees N ts r).length = N := by rw [trees_length]; exact FI.dl
  have hl : (had (trees N ts r) [] r N).length ≤ N := by
    have := had_len (ls := []) hrl h0 N
    omega
  intro v hv
  constructor
  · intro hm
    by_cases e : v = r
    · subst e; rw [hL.zero]; exact Int.le_refl _
    · have hok := had_ok (ls := []) hrl h0 N
      obtain ⟨j, _, hj⟩ := hok.told v hm (by omega)
      rw [Int.toNat_natCast, trees_get (by rw [FI.dl]; exact hv)] at hj
      have := hok.site _ (List.mem_of_getElem? hj)
      exact (FI.way v hv e).1 this.1
  · have key : ∀ (m : Nat) (v : Nat), v < N → 0 ≤ fn (dists N ts r) v → (fn (dists N ts r) v).toNat ≤ m → (v : Int) ∈ had (trees N ts r) [] r N := by
      intro m
      induction m with
      | zero =>
        intro v hv h1 h2
        by_cases e : v = r
        · subst e; exact had_root _ _ _ _
        · have h3 := (FI.way v hv e).2 h1
          rcases ahd_cases (dists N ts r) ts v with ⟨u, hu, hle, _⟩ | ⟨h4, _⟩
          · obtain ⟨_, h5, h6, h7⟩ := (spLead_iff h hL u v).2 hle
            omega
          · omega
      | succ m ih =>
        intro v hv h1 h2
        by_cases e : v = r
        · subst e; exact had_root _ _ _ _
        · have h3 := (FI.way v hv e).2 h1
          rcases ahd_cases (dists N ts r) ts v with ⟨u, hu, hle, ha⟩ | ⟨h4, _⟩
          · obtain ⟨_, h5, h6, h7⟩ := (spLead_iff h hL u v).2 hle
            rw [FI.dl] at hu
            have hm := ih u hu h6 (by omega)
            refine had_closed hl hm ?_
            rw [kept_none]
            exact chl_mem.2 ⟨v, by rw [hTl]; exact hv, by rw [trees_get (by rw [FI.dl]; exact hv)]; exact ha, rfl⟩
          · omega
    intro h1
    exact key _ v hv h1 (Nat.le_refl _)
theorem chl_rises (T : List Int) (v : Int) : (chl T v).Pairwise (· < ·) := asc_map_range _ (List.Pairwise.sublist List.filter_sublist List.pairwise_lt_range)
/-- a root without children has it alone. -/
theorem had_alone {T : List Int} {ls : List (List Int)} {r : Nat} {k : Nat} (h : chl T r = []) (hk : 1 ≤ k) : had T ls r k = [(r : Int)] := by
  have h1 : had T ls (r : Int) 1 = [(r : Int)] := by
    have : (had T ls (r : Int) 0)[0]? = some (r : Int) := rfl
    rw [had_succ this]
    unfold kept
    rw [h]
    rfl
  have := (had_stopN (T := T) (ls := ls) (r := (r : Int)) (k := 1) (N := k) (by rw [h1]; simp) hk).1
  rw [this, h1]
end Go.Proofs.Ytlfgglmgajcpoaa
