/- Distances in plain words. -/
import Derived.Test.YtlfgglmgajcpoaaGo
import Derived.Test.YtlfgglmgajcpoaaOwI
namespace Go.Proofs.Ytlfgglmgajcpoaa
open Go.RowKit Pl
set_option linter.unusedVariables false

/-- a list of distances, read by site. -/
def fn (fl : List Int) (v : Int) : Int := if 0 ≤ v ∧ v < fl.length then fl.getD v.toNat (-1) else -1
theorem fn_nat {fl : List Int} {i : Nat} (h : i < fl.length) : fn fl (i : Int) = fl[i] := by
  unfold fn
  rw [if_pos (by omega)]
  simp [h]
theorem fn_set {fl : List Int} {i : Nat} (h : i < fl.length) (x : Int) : fn (fl.set i x) = fun v => if v = (i : Int) then x else fn fl v := by
  funext v
  unfold fn
  rw [List.length_set]
  by_cases hv : v = (i : Int)
  · subst hv
    rw [if_pos (by omega), if_pos rfl]
    simp [h]
  · rw [if_neg hv]
    by_cases hr : 0 ≤ v ∧ v < fl.length
    · rw [if_pos hr, if_pos hr]
      have : v.toNat ≠ i := by omega
      simp only [List.getD]
      rw [List.getElem?_set_ne (fun h => this h.symm)]
    · rw [if_neg hr, if_neg hr]
theorem fn_rep (n : Nat) : fn (List.replicate n (-1)) = fun _ => -1 := by
  funext v
  unfold fn
  split
  · simp [List.getElem?_replicate]
    split <;> rfl
  · rfl
theorem fn_ext {a b : List Int} (hl : a.length = b.length) (h : ∀ i : Nat, i < a.length → fn a (i : Int) = fn b (i : Int)) : a = b := by
  apply List.ext_getElem hl
  intro i h1 h2
  have := h i h1
  rwa [fn_nat h1, fn_nat h2] at this

/-- how many sites have no distance yet. -/
def uc (fl : List Int) : Nat := fl.countP (· == -1)
theorem uc_rep (n : Nat) : uc (List.replicate n (-1)) = n := by simp [uc, List.countP_replicate]
theorem uc_set {fl : List Int} {i : Nat} (h : i < fl.length) (hi : fl[i] = -1) {x : Int} (hx : x ≠ -1) : uc (fl.set i x) + 1 = uc fl := by
  unfold uc
  induction fl generalizing i with
  | nil => simp at h
  | cons y fl ih =>
    cases i with
    | zero =>
      simp only [List.getElem_cons_zero] at hi
      subst hi
      rw [List.set_cons_zero, List.countP_cons_of_neg (by simpa using hx), List.countP_cons_of_pos (by simp)]
    | succ i =>
      simp only [List.getElem_cons_succ] at hi
      have := ih (by simpa using h) hi
      rw [List.set_cons_succ, List.countP_cons, List.countP_cons]
      omega
theorem uc_le (fl : List Int) : uc fl ≤ fl.length := List.countP_le_length

/-- what the rounds tell. -/
def distL (N : Nat) (ts : List Rd) (s : Int) : List Int := (List.range N).map fun (v : Nat) => rounds ts N (fun x => if x = s then 0 else -1) (v : Int)
theorem distL_length (N : Nat) (ts : List Rd) (s : Int) : (distL N ts s).length = N := by simp [distL]
theorem least_is {N : Nat} {ts : List Rd} {s : Int} {fl : List Int} (h : Least ts N s (fn fl)) (hf : Fits N ts) (hl : fl.length = N) : fl = distL N ts s := by
  apply List.ext_getElem (by rw [hl, distL_length])
  intro i h1 h2
  rw [← fn_nat h1]
  simp only [distL, List.getElem_map, List.getElem_range]
  exact (rounds_least h hf _).symm
/-- Distances. -/
def dists (n : Int) (ts : List Rd) (s : Int) : List Int := if roadsB n ts = true ∧ 0 ≤ s ∧ s ≤ n - 1 then distL n.toNat ts s else []
theorem dists_yes {n s : Int} {ts : List Rd} (h : RoadsP n ts) (h0 : 0 ≤ s) (h1 : s ≤ n - 1) : dists n ts s = distL n.toNat ts s := by unfold dists; rw [if_pos ⟨roadsB_true h, h0, h1⟩]
theorem dists_no {n s : Int} {ts : List Rd} (h : ¬ (RoadsP n ts ∧ 0 ≤ s ∧ s ≤ n - 1)) : dists n ts s = [] := by unfold dists; rw [if_neg fun hh => h ⟨roadsB_iff.1 hh.1, hh.2⟩]

theorem OwnI.keepT {w w' : World} {B : Nat} {v : Value} {ss : List Int} (h : OwnI w B v ss) (k : KeepT w w') : OwnI w' B v ss := by
  refine ⟨h.1, ?_⟩
  rcases h.2 with hn | ⟨g, cap, cur, rfl, hbg, hg, rest⟩
  · exact .inl hn
  · exact .inr ⟨g, cap, cur, rfl, hbg, (k.block g _ _ hg (by decide) (by decide)).trans hg, rest⟩
theorem OwnI.ofRow {w : World} {B g : Nat} {ss : List Int} (hB : B ≤ g) (hl : ss.length ≤ 1000) (h : w.heap[g]? = some (.cells (ss.map (Value.int .i64)).toArray 3 (0, 0))) : OwnI w B (.slice (some ⟨g, 0, none⟩) ss.length ss.length) ss :=
  ⟨by simp, .inr ⟨g, ss.length, _, rfl, hB, h, Nat.le_refl _, by unfold maxLen; omega, by simp, by simp [List.take_of_length_le]⟩⟩

/-- a measure of the world for the search's loop. -/
def isM1 : Value → Bool
  | .int .i64 z => z == -1
  | _ => false
def mzW (fb c : Nat) (w : World) : Nat :=
  13 * (match w.heap[fb]? with | some (.cells arr _ _) => arr.toList.countP isM1 | _ => 0) + (match w.cell? ⟨c, 0, none⟩ with | some (.slice _ n _) => n | _ => 0)
theorem mzW_is {w : World} {B c fb : Nat} {v : Value} {L : List St} {fl : List Int} (h : HpAt w B c v L) (hf : w.heap[fb]? = some (.cells (fl.map (Value.int .i64)).toArray 3 (0, 0))) : mzW fb c w = 13 * uc fl + L.length := by
  obtain ⟨ao, cap, rfl⟩ := h.form
  unfold mzW
  rw [hf, h.cell]
  simp only
  rw [List.countP_map]
  rfl

structure DjSt (w wr : World) (B c fb : Nat) (ts : List Rd) (N : Nat) (s : Int) (v : Value) (L : List St) (fl : List Int) : Prop where
  at' : HpAt wr B c v L
  heap : HeapTo key L L.length
  far : wr.heap[fb]? = some (.cells (fl.map (Value.int .i64)).toArray 3 (0, 0))
  flen : fl.length = N
  dj : Dj ts N s (fn fl) (pr L)
  cost : ∀ p ∈ pr L, p.2 + 100 * (uc fl : Int) ≤ 100 * (N : Int)
  len : L.length + 12 * uc fl ≤ 12 * N + 1
  below : Below B w wr
  fbB : B ≤ fb

theorem off_of {L L' : List St} {x : St} (hx : x ∈ L) (h1 : ∀ y ∈ L', y ∈ L) (h2 : ∀ y ∈ L, y = x ∨ y ∈ L') (h3 : ∀ y ∈ L, key x ≤ key y) : Off (pr L) x.2 (pr L') := by
  refine ⟨List.mem_map.2 ⟨x, hx, rfl⟩, fun p hp => ?_, fun p hp => ?_, fun p hp => ?_⟩
  · obtain ⟨y, hy, rfl⟩ := List.mem_map.1 hp
    exact List.mem_map.2 ⟨y, h1 y hy, rfl⟩
  · obtain ⟨y, hy, rfl⟩ := List.mem_map.1 hp
    rcases h2 y hy with rfl | h
    · exact Or.inl rfl
    · exact Or.inr (List.mem_map.2 ⟨y, h, rfl⟩)
  · obtain ⟨y, hy, rfl⟩ := List.mem_map.1 hp
    exact h3 y hy

theorem endI_adj {ts : List Rd} {n : Int} (hf : Fits n ts) {s : Int} {p : Int × Int} {x : Int} : (∃ i, ∃ h : i < ts.length, endI ts[i] s ≠ -1 ∧ p = (endI ts[i] s, x + ts[i].c)) ↔ ∃ c, Adj ts s p.1 c ∧ p.2 = x + c := by
  constructor
  · rintro ⟨i, h, h1, rfl⟩
    have hm : ts[i] ∈ ts := List.getElem_mem h
    refine ⟨ts[i].c, ?_, rfl⟩
    unfold endI at h1 ⊢
    by_cases e1 : s = ts[i].a
    · rw [if_pos e1]; subst e1; exact Or.inl hm
    · rw [if_neg e1] at h1 ⊢
      by_cases e2 : s = ts[i].b
      · rw [if_pos e2]; subst e2; exact Or.inr hm
      · rw [if_neg e2] at h1; exact absurd rfl h1
  · rintro ⟨c, ha, he⟩
    have hh := hf.adj ha
    rcases ha with ha | ha
    · obtain ⟨i, h, hi⟩ := List.mem_iff_getElem.1 ha
      refine ⟨i, h, ?_, ?_⟩
      · rw [hi]; unfold endI; simp; omega
      · rw [hi]; unfold endI; simp; rw [← he]
    · obtain ⟨i, h, hi⟩ := List.mem_iff_getElem.1 ha
      have hne : ¬ s = p.1 := hh.2.2.2.2.2.2
      refine ⟨i, h, ?_, ?_⟩
      · rw [hi]; unfold endI; simp [hne]; omega
      · rw [hi]; unfold endI; simp [hne]; rw [← he]
end Go.Proofs.Ytlfgglmgajcpoaa
