/- Trees in plain words; that there are least distances at all. -/
import Derived.Test.YtlfgglmgajcpoaaDs
namespace Go.Proofs.Ytlfgglmgajcpoaa
open Go.RowKit Pl
set_option linter.unusedVariables false

theorem min_mem : ∀ (H : List (Int × Int)), H ≠ [] → ∃ t ∈ H, ∀ x ∈ H, t.2 ≤ x.2
  | [], h => absurd rfl h
  | [a], _ => ⟨a, by simp, fun x hx => by simp at hx; subst hx; exact Int.le_refl _⟩
  | a :: b :: H, _ => by
    obtain ⟨t, ht, hm⟩ := min_mem (b :: H) (by simp)
    by_cases h : a.2 ≤ t.2
    · refine ⟨a, by simp, fun x hx => ?_⟩
      rcases List.mem_cons.1 hx with rfl | hx
      · exact Int.le_refl _
      · exact Int.le_trans h (hm x hx)
    · refine ⟨t, List.mem_cons_of_mem _ ht, fun x hx => ?_⟩
      rcases List.mem_cons.1 hx with rfl | hx
      · omega
      · exact hm x hx

def nexts (ts : List Rd) (t : Int × Int) : List (Int × Int) := ts.filterMap fun r => if endI r t.1 ≠ -1 then some (endI r t.1, t.2 + r.c) else none
theorem nexts_mem {ts : List Rd} {n : Int} (hf : Fits n ts) {t x : Int × Int} : x ∈ nexts ts t ↔ ∃ c, Adj ts t.1 x.1 c ∧ x.2 = t.2 + c := by
  rw [← endI_adj hf, nexts, List.mem_filterMap]
  constructor
  · rintro ⟨r, hr, he⟩
    obtain ⟨i, hi, rfl⟩ := List.mem_iff_getElem.1 hr
    by_cases h : endI ts[i] t.1 ≠ -1
    · rw [if_pos h] at he
      exact ⟨i, hi, h, by simpa using he.symm⟩
    · rw [if_neg h] at he; cases he
  · rintro ⟨i, hi, h, rfl⟩
    exact ⟨ts[i], List.getElem_mem hi, by rw [if_pos h]⟩

theorem dj_ends {N : Nat} {ts : List Rd} {s : Int} (hf : Fits N ts) : ∀ (m : Nat) (fl : List Int) (H : List (Int × Int)), fl.length = N → Dj ts N s (fn fl) H → (ts.length + 1) * uc fl + H.length ≤ m → ∃ fl', fl'.length = N ∧ Least ts N s (fn fl') := by
  intro m
  induction m with
  | zero =>
    intro fl H hl hd hm
    have : H = [] := List.eq_nil_of_length_eq_zero (by omega)
    subst this
    exact ⟨fl, hl, hd.done⟩
  | succ m ih =>
    intro fl H hl hd hm
    by_cases hH : H = []
    · subst hH; exact ⟨fl, hl, hd.done⟩
    · obtain ⟨t, ht, hmin⟩ := min_mem H hH
      have OF : Off H t (H.filter fun x => decide (x ≠ t)) := ⟨ht, fun x hx => (List.mem_filter.1 hx).1, fun x hx => by
        by_cases e : x = t
        · exact Or.inl e
        · exact Or.inr (List.mem_filter.2 ⟨hx, by simp [e]⟩), hmin⟩
      have hlt : (H.filter fun x => decide (x ≠ t)).length < H.length := List.length_filter_lt_length_iff_exists.2 ⟨t, ht, by simp⟩
      by_cases hs : fn fl t.1 = -1
      · have st := hd.stop t ht
        obtain ⟨i, hi⟩ : ∃ i : Nat, t.1 = (i : Int) := ⟨t.1.toNat, by omega⟩
        have hiN : i < fl.length := by omega
        have hz : fl[i] = -1 := by rw [← fn_nat hiN, ← hi]; exact hs
        have hu := uc_set hiN hz (x := t.2) (by omega)
        refine ih (fl.set i t.2) ((H.filter fun x => decide (x ≠ t)) ++ nexts ts t) (by rw [List.length_set]; exact hl) ?_ ?_
        · rw [fn_set hiN, ← hi]
          refine hd.take hf OF hs (fun x => ?_)
          rw [List.mem_append, nexts_mem hf]
        · have h1 : (nexts ts t).length ≤ ts.length := List.length_filterMap_le _ _
          rw [List.length_append]
          have h2 : (ts.length + 1) * uc fl = (ts.length + 1) * uc (fl.set i t.2) + (ts.length + 1) := by rw [← hu, Nat.mul_add, Nat.mul_one]
          omega
      · exact ih fl _ hl (hd.skip OF hs) (by omega)

theorem least_dists {n s : Int} {ts : List Rd} (h : RoadsP n ts) (h0 : 0 ≤ s) (h1 : s ≤ n - 1) : Least ts n s (fn (dists n ts s)) := by
  have hn := h.1
  obtain ⟨N, rfl⟩ : ∃ N : Nat, n = (N : Int) := ⟨n.toNat, by omega⟩
  have hd : Dj ts N s (fn (List.replicate N (-1))) [(s, 0)] := by rw [fn_rep]; exact Dj.new ts N s h0 (by omega)
  obtain ⟨fl, hl, hL⟩ := dj_ends h.fits _ _ _ (by simp) hd (Nat.le_refl _)
  rw [dists_yes h h0 h1]
  have := least_is hL h.fits hl
  rw [show ((N : Int)).toNat = N by simp, ← this]
  exact hL

/-- v's way comes by u. -/
def Lead (fl : List Int) (ts : List Rd) (u v : Nat) : Prop := ∃ i, ∃ h : i < ts.length, endI ts[i] (u : Int) = (v : Int) ∧ fn fl (u : Int) + ts[i].c = fn fl (v : Int)
/-- the same, as a test. -/
def leadB (fl : List Int) (ts : List Rd) (u v : Nat) : Bool := ts.any fun r => decide (endI r (u : Int) = (v : Int)) && decide (fn fl (u : Int) + r.c = fn fl (v : Int))
theorem leadB_iff {fl : List Int} {ts : List Rd} {u v : Nat} : leadB fl ts u v = true ↔ Lead fl ts u v := by
  unfold leadB Lead
  simp only [List.any_eq_true, Bool.and_eq_true, decide_eq_true_eq]
  constructor
  · rintro ⟨r, hr, h⟩
    obtain ⟨i, hi, rfl⟩ := List.mem_iff_getElem.1 hr
    exact ⟨i, hi, h⟩
  · rintro ⟨i, hi, h⟩
    exact ⟨ts[i], List.getElem_mem hi, h⟩
theorem leadB_not {fl : List Int} {ts : List Rd} {u v : Nat} : leadB fl ts u v = false ↔ ¬ Lead fl ts u v := by
  rw [← leadB_iff]
  simp
/-- the least site ahead of v. -/
def ahd (fl : List Int) (ts : List Rd) (v : Nat) : Int := ((List.range fl.length).find? fun u => leadB fl ts u v).elim (-1) fun u => (u : Int)
def trees (n : Int) (ts : List Rd) (s : Int) : List Int := (List.range (dists n ts s).length).map fun (v : Nat) => ahd (dists n ts s) ts v
theorem trees_length (n : Int) (ts : List Rd) (s : Int) : (trees n ts s).length = (dists n ts s).length := by simp [trees]

theorem ahd_yes {fl : List Int} {ts : List Rd} {u v : Nat} (hu : u < fl.length) (h : Lead fl ts u v) (hl : ∀ x, x < u → ¬ Lead fl ts x v) : ahd fl ts v = (u : Int) := by
  unfold ahd
  have : (List.range fl.length).find? (fun u => leadB fl ts u v) = some u := by
    rw [List.find?_range_eq_some]
    exact ⟨leadB_iff.2 h, by simpa using hu, fun j hj => by simpa [leadB_not] using hl j hj⟩
  rw [this]
  rfl
theorem ahd_no {fl : List Int} {ts : List Rd} {v : Nat} (h : ∀ x, x < fl.length → ¬ Lead fl ts x v) : ahd fl ts v = -1 := by
  unfold ahd
  have : (List.range fl.length).find? (fun u => leadB fl ts u v) = none := by
    rw [List.find?_eq_none]
    intro x hx
    simpa [leadB_iff] using h x (by simpa using hx)
  rw [this]
  rfl
theorem ahd_cases (fl : List Int) (ts : List Rd) (v : Nat) : (∃ u : Nat, u < fl.length ∧ Lead fl ts u v ∧ ahd fl ts v = (u : Int)) ∨ (ahd fl ts v = -1 ∧ ∀ x, x < fl.length → ¬ Lead fl ts x v) := by
  cases h : (List.range fl.length).find? (fun u => leadB fl ts u v) with
  | none =>
    right
    have h2 := h
    rw [List.find?_eq_none] at h
    refine ⟨?_, fun x hx => by simpa [leadB_iff, leadB_not] using h x (by simpa using hx)⟩
    unfold ahd
    rw [h2]
    rfl
  | some u =>
    left
    have h2 := h
    rw [List.find?_range_eq_some] at h
    refine ⟨u, by simpa using h.2.1, leadB_iff.1 h.1, ?_⟩
    unfold ahd
    rw [h2]
    rfl

/-- roads ascend. -/
theorem RoadsP.asc {n : Int} {ts : List Rd} (h : RoadsP n ts) : ∀ (j i : Nat) (hj : j < ts.length) (hi : i < j), ahP (ts[i]'(by omega)) ts[j] := by
  intro j
  induction j with
  | zero => intro i hj hi; omega
  | succ j ih =>
    intro i hj hi
    have h1 : ahP (ts[j]'(by omega)) ts[j + 1] := (h.2.2.2 (j + 1) hj).2.2 j (by omega) rfl
    by_cases e : i = j
    · subst e; exact h1
    · have h2 := ih i (by omega) (by omega)
      unfold ahP at h1 h2 ⊢
      omega
/-- r links u and v. -/
abbrev Links (r : Rd) (u v : Int) : Prop := r.a = u ∧ r.b = v ∨ r.a = v ∧ r.b = u
theorem RoadsP.one {n : Int} {ts : List Rd} (h : RoadsP n ts) {u v : Int} {i j : Nat} (hi : i < ts.length) (hj : j < ts.length) (h1 : Links ts[i] u v) (h2 : Links ts[j] u v) : i = j := by
  have fi := h.fits ts[i] (List.getElem_mem hi)
  have fj := h.fits ts[j] (List.getElem_mem hj)
  unfold Links at h1 h2
  rcases Nat.lt_trichotomy i j with hl | hl | hl
  · have := h.asc j i hj hl
    unfold ahP at this
    omega
  · exact hl
  · have := h.asc i j hi hl
    unfold ahP at this
    omega
/-- the cost of the first road between two sites. -/
def costI : List Rd → Int → Int → Int
  | [], _, _ => 0
  | r :: rs, u, v => if Links r u v then r.c else costI rs u v
theorem costI_drop {ts : List Rd} {u v : Int} {k : Nat} (hk : k < ts.length) : costI (ts.drop k) u v = if Links ts[k] u v then ts[k].c else costI (ts.drop (k + 1)) u v := by
  rw [List.drop_eq_getElem_cons hk]
  rfl
theorem costI_get : ∀ (ts : List Rd) (u v : Int), costI ts u v ≠ 0 → ∃ i, ∃ h : i < ts.length, Links ts[i] u v ∧ costI ts u v = ts[i].c
  | [], u, v, h => absurd rfl h
  | r :: rs, u, v, h => by
    unfold costI at h ⊢
    by_cases e : Links r u v
    · rw [if_pos e]
      exact ⟨0, by simp, e, rfl⟩
    · rw [if_neg e] at h ⊢
      obtain ⟨i, hi, h1, h2⟩ := costI_get rs u v h
      exact ⟨i + 1, by simpa using hi, h1, h2⟩
theorem costI_is : ∀ (ts : List Rd) (u v : Int) (i : Nat) (h : i < ts.length), Links ts[i] u v → (∀ j (hj : j < ts.length), Links ts[j] u v → j = i) → costI ts u v = ts[i].c
  | [], _, _, _, h, _, _ => by simp at h
  | r :: rs, u, v, i, h, hl, hu => by
    unfold costI
    by_cases e : Links r u v
    · have := hu 0 (by simp) e
      subst this
      rw [if_pos e]
      rfl
    · rw [if_neg e]
      cases i with
      | zero => exact absurd hl e
      | succ i => exact costI_is rs u v i (by simpa using h) hl (fun j hj hj2 => by have := hu (j + 1) (by simpa using hj) hj2; omega)

theorem endI_links {r : Rd} {u v : Int} (hab : r.a < r.b) (hv : v ≠ -1) : endI r u = v ↔ Links r u v := by
  unfold endI Links
  constructor
  · intro h
    by_cases e1 : u = r.a
    · rw [if_pos e1] at h; exact Or.inl ⟨e1.symm, h⟩
    · rw [if_neg e1] at h
      by_cases e2 : u = r.b
      · rw [if_pos e2] at h; exact Or.inr ⟨h, e2.symm⟩
      · rw [if_neg e2] at h; exact absurd h.symm hv
  · rintro (⟨rfl, rfl⟩ | ⟨rfl, rfl⟩)
    · simp
    · rw [if_neg (by omega)]; simp

/-- what the specification asks of a site ahead. -/
def SpLead (fl : List Int) (ts : List Rd) (s : Int) (u v : Nat) : Prop := (v : Int) ≠ s ∧ 0 < costI ts u v ∧ 0 ≤ fn fl u ∧ fn fl u + costI ts u v = fn fl v
theorem spLead_iff {n s : Int} {ts : List Rd} {fl : List Int} (h : RoadsP n ts) (hL : Least ts n s (fn fl)) (u v : Nat) : SpLead fl ts s u v ↔ Lead fl ts u v := by
  constructor
  · rintro ⟨h1, h2, h3, h4⟩
    obtain ⟨i, hi, hl, hc⟩ := costI_get ts u v (by omega)
    have hf := h.fits ts[i] (List.getElem_mem hi)
    exact ⟨i, hi, (endI_links hf.2.1 (by omega)).2 hl, by rw [← hc]; exact h4⟩
  · rintro ⟨i, hi, h1, h2⟩
    have hf := h.fits ts[i] (List.getElem_mem hi)
    have hl := (endI_links hf.2.1 (by omega)).1 h1
    have hc := costI_is ts u v i hi hl (fun j hj hj2 => h.one hj hi hj2 hl)
    have ha : Adj ts (u : Int) (v : Int) ts[i].c := by
      have hm := List.getElem_mem hi
      rcases hl with ⟨e1, e2⟩ | ⟨e1, e2⟩
      · left; rw [← e1, ← e2]; exact hm
      · right; rw [← e1, ← e2]; exact hm
    have hge := hL.ge (u : Int)
    have hu : 0 ≤ fn fl u := by
      by_cases e : 0 ≤ fn fl u
      · exact e
      · have := hL.road v u _ ha.symm (by omega)
        omega
    refine ⟨fun e => ?_, by omega, hu, by rw [hc]; exact h2⟩
    have := hL.zero
    rw [← e] at this
    omega
end Go.Proofs.Ytlfgglmgajcpoaa
