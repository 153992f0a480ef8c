/- A heap in plain words: what stands at the top is least; it is kept by going up and by going down. -/
namespace Go.Proofs.Ytlfgglmgajcpoaa.Pl
variable {α : Type}

/-- two places changed. -/
def swp (L : List α) (i j : Nat) (x y : α) : List α := (L.set i y).set j x

theorem swp_length (L : List α) (i j : Nat) (x y : α) : (swp L i j x y).length = L.length := by simp [swp]

theorem swp_get (L : List α) (i j k : Nat) (x y : α) (hi : i < L.length) (hj : j < L.length) (hx : L[i]? = some x) (hy : L[j]? = some y) :
    (swp L i j x y)[k]? = if k = j then some x else if k = i then some y else L[k]? := by
  unfold swp
  rw [List.getElem?_set, List.getElem?_set]
  simp only [List.length_set]
  by_cases h1 : k = j
  · subst h1; simp [hj]
  · rw [if_neg (fun h => h1 h.symm), if_neg h1]
    by_cases h2 : k = i
    · subst h2; simp [hi]
    · rw [if_neg (fun h => h2 h.symm), if_neg h2]

theorem swp_mem (L : List α) (i j : Nat) (x y z : α) (hi : i < L.length) (hj : j < L.length) (hx : L[i]? = some x) (hy : L[j]? = some y) : z ∈ swp L i j x y ↔ z ∈ L := by
  rw [List.mem_iff_getElem?, List.mem_iff_getElem?]
  constructor
  · rintro ⟨k, hk⟩
    rw [swp_get L i j k x y hi hj hx hy] at hk
    split at hk
    · exact ⟨i, hx.trans hk⟩
    · split at hk
      · exact ⟨j, hy.trans hk⟩
      · exact ⟨k, hk⟩
  · rintro ⟨k, hk⟩
    by_cases h1 : k = i
    · refine ⟨j, ?_⟩
      rw [swp_get L i j j x y hi hj hx hy, if_pos rfl, ← hx, ← h1, hk]
    · by_cases h2 : k = j
      · refine ⟨i, ?_⟩
        rw [swp_get L i j i x y hi hj hx hy]
        by_cases h3 : i = j
        · omega
        · rw [if_neg h3, if_pos rfl, ← hy, ← h2, hk]
      · refine ⟨k, ?_⟩
        rw [swp_get L i j k x y hi hj hx hy, if_neg h2, if_neg h1, hk]

/-- place k of the first m is no less than the one ahead of it. -/
def UpOk (key : α → Int) (L : List α) (k : Nat) : Prop := ∀ x y, L[(k - 1) / 2]? = some x → L[k]? = some y → key x ≤ key y

/-- the first m are a heap. -/
def HeapTo (key : α → Int) (L : List α) (m : Nat) : Prop := ∀ k, 0 < k → k < m → UpOk key L k

/-- a heap but for the place j, going up. -/
structure UpAt (key : α → Int) (L : List α) (m j : Nat) : Prop where
  rest : ∀ k, 0 < k → k < m → k ≠ j → UpOk key L k
  over : 0 < j → ∀ k, 0 < k → k < m → (k - 1) / 2 = j → ∀ x y, L[(j - 1) / 2]? = some x → L[k]? = some y → key x ≤ key y

theorem UpAt.done {key : α → Int} {L : List α} {m j : Nat} (h : UpAt key L m j) (hj : j = 0 ∨ UpOk key L j) : HeapTo key L m := by
  intro k h0 h1
  by_cases hk : k = j
  · subst hk; rcases hj with hj | hj
    · omega
    · exact hj
  · exact h.rest k h0 h1 hk

theorem UpAt.step {key : α → Int} {L : List α} {m j : Nat} {x y : α} (h : UpAt key L m j) (hm : m ≤ L.length) (j0 : 0 < j) (hj : j < m) (hx : L[(j - 1) / 2]? = some x) (hy : L[j]? = some y) (hlt : key y < key x) :
    UpAt key (swp L ((j - 1) / 2) j x y) m ((j - 1) / 2) := by
  have hg := fun k => swp_get L ((j - 1) / 2) j k x y (by omega) (by omega) hx hy
  constructor
  · intro k h0 h1 h2 a b ha hb
    rw [hg] at ha hb
    by_cases hkj : k = j
    · subst hkj
      rw [if_neg (by omega), if_pos rfl] at ha
      rw [if_pos rfl] at hb
      cases ha; cases hb; omega
    · rw [if_neg hkj, if_neg h2] at hb
      by_cases p1 : (k - 1) / 2 = j
      · rw [if_pos p1] at ha; cases ha
        exact h.over j0 k h0 h1 p1 _ _ hx hb
      · rw [if_neg p1] at ha
        by_cases p2 : (k - 1) / 2 = (j - 1) / 2
        · rw [if_pos p2] at ha; cases ha
          have := h.rest k h0 h1 hkj x b (by rw [p2]; exact hx) hb
          omega
        · rw [if_neg p2] at ha
          exact h.rest k h0 h1 hkj a b ha hb
  · intro i0 k h0 h1 hp a b ha hb
    rw [hg] at ha hb
    rw [if_neg (by omega), if_neg (by omega)] at ha
    have hi := h.rest ((j - 1) / 2) i0 (by omega) (by omega) a x ha hx
    by_cases hkj : k = j
    · subst hkj
      rw [if_pos rfl] at hb; cases hb; exact hi
    · rw [if_neg hkj, if_neg (by omega)] at hb
      have := h.rest k h0 h1 hkj x b (by rw [hp]; exact hx) hb
      omega

/-- a heap but below the place i, going down. -/
structure DownAt (key : α → Int) (L : List α) (m i : Nat) : Prop where
  rest : ∀ k, 0 < k → k < m → (k - 1) / 2 ≠ i → UpOk key L k
  over : 0 < i → ∀ k, 0 < k → k < m → (k - 1) / 2 = i → ∀ x y, L[(i - 1) / 2]? = some x → L[k]? = some y → key x ≤ key y

/-- the lesser of those below i. -/
def Kid (key : α → Int) (L : List α) (m i j : Nat) (y : α) : Prop := 0 < j ∧ j < m ∧ (j - 1) / 2 = i ∧ L[j]? = some y ∧ ∀ k z, 0 < k → k < m → (k - 1) / 2 = i → L[k]? = some z → key y ≤ key z

theorem DownAt.none {key : α → Int} {L : List α} {m i : Nat} (h : DownAt key L m i) (hn : m ≤ 2 * i + 1) : HeapTo key L m := by
  intro k h0 h1
  exact h.rest k h0 h1 (by omega)

theorem DownAt.stop {key : α → Int} {L : List α} {m i j : Nat} {x y : α} (h : DownAt key L m i) (hk : Kid key L m i j y) (hx : L[i]? = some x) (hle : key x ≤ key y) : HeapTo key L m := by
  intro k h0 h1
  by_cases hp : (k - 1) / 2 = i
  · intro a b ha hb
    rw [hp, hx] at ha; cases ha
    have := hk.2.2.2.2 k b h0 h1 hp hb
    omega
  · exact h.rest k h0 h1 hp

theorem DownAt.step {key : α → Int} {L : List α} {m i j : Nat} {x y : α} (h : DownAt key L m i) (hm : m ≤ L.length) (hk : Kid key L m i j y) (hx : L[i]? = some x) (hlt : key y < key x) :
    DownAt key (swp L i j x y) m j := by
  obtain ⟨j0, jm, jp, hy, hall⟩ := hk
  have hg := fun k => swp_get L i j k x y (by omega) (by omega) hx hy
  constructor
  · intro k h0 h1 hp a b ha hb
    rw [hg] at ha hb
    by_cases hki : (k - 1) / 2 = i
    · rw [if_neg hp, if_pos hki] at ha; cases ha
      by_cases hkj : k = j
      · rw [if_pos hkj] at hb; cases hb; omega
      · rw [if_neg hkj, if_neg (by omega)] at hb
        exact hall k b h0 h1 hki hb
    · rw [if_neg hp, if_neg hki] at ha
      have hkj : k ≠ j := fun he => hki (by rw [he]; exact jp)
      rw [if_neg hkj] at hb
      by_cases hk2 : k = i
      · rw [if_pos hk2] at hb; cases hb
        subst hk2
        exact h.over h0 j j0 jm jp a _ ha hy
      · rw [if_neg hk2] at hb
        exact h.rest k h0 h1 hki a b ha hb
  · intro _ k h0 h1 hp a b ha hb
    rw [hg] at ha hb
    rw [if_neg (by omega), if_pos jp] at ha
    rw [if_neg (by omega), if_neg (by omega)] at hb
    cases ha
    exact h.rest k h0 h1 (by omega) y b (by rw [hp]; exact hy) hb

/-- the top of a heap is least. -/
theorem HeapTo.top {key : α → Int} {L : List α} {m : Nat} {x : α} (h : HeapTo key L m) (hx : L[0]? = some x) (hm : m ≤ L.length) : ∀ (k : Nat) (y : α), k < m → L[k]? = some y → key x ≤ key y := by
  intro k
  induction k using Nat.strongRecOn with
  | _ k ih =>
    intro y hk hy
    by_cases h0 : k = 0
    · subst h0; rw [hx] at hy; cases hy; omega
    · have hp : (k - 1) / 2 < L.length := by omega
      have h1 := ih ((k - 1) / 2) (by omega) L[(k - 1) / 2] (by omega) (List.getElem?_eq_getElem hp)
      have h2 := h k (by omega) hk _ _ (List.getElem?_eq_getElem hp) hy
      omega
end Go.Proofs.Ytlfgglmgajcpoaa.Pl
