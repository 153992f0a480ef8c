/- Two ends that lose nothing bring all over, in plain words. -/
import Derived.Test.YtohagaelenhebaaTp
namespace Go.Proofs.Ytohagaelenhebaa.Pl
open Go Go.RowKit
set_option linter.unusedVariables false

def foldR (e : En) (ps : List Pc) : En := ps.foldl recvE e
theorem foldR_snoc (e : En) (ps : List Pc) (p : Pc) : foldR e (ps ++ [p]) = recvE (foldR e ps) p := by unfold foldR; rw [List.foldl_append]; rfl
theorem foldR_app (e : En) (ps qs : List Pc) : foldR e (ps ++ qs) = foldR (foldR e ps) qs := by unfold foldR; rw [List.foldl_append]
theorem foldR_ok {e : En} : ∀ {ps : List Pc}, OkS e → (∀ p ∈ ps, PcOk p) → OkS (foldR e ps) := by
  intro ps
  induction ps generalizing e with
  | nil => intro h _; exact h
  | cons p ps ih =>
    intro h hp
    show OkS (foldR (recvE e p) ps)
    exact ih (recvE_ok h (hp p (by simp))) (fun q hq => hp q (by simp [hq]))
/-- the teller and the hearer once m are over. -/
def tel (L : List ByteArray) (m : Nat) : En := ⟨m, m, L.drop m, 0, []⟩
def hea (L : List ByteArray) (m : Nat) : En := ⟨0, 0, [], m, L.take m⟩
def stepN (L : List ByteArray) (m : Nat) : Nat := min 4 (L.length - m)
theorem tel_ok {L : List ByteArray} {m : Nat} (hL : L.length ≤ 8) (hs : ∀ t ∈ L, t.size ≤ 60) (hm : m ≤ L.length) : OkS (tel L m) :=
  ⟨⟨by show (0 : Int) ≤ m; omega, by show (m : Int) ≤ 1000; omega, by show (m : Int) ≤ m; omega, by show (m : Int) ≤ m + 4; omega, by show (m : Int) - m ≤ ((L.drop m).length : Int); omega, by show (L.drop m).length ≤ 30; rw [List.length_drop]; omega, by show (0 : Int) ≤ 0; omega, by show (0 : Int) ≤ 1000; omega, by show (([] : List ByteArray).length : Int) = 0; rfl, fun t ht => hs t (List.mem_of_mem_drop ht), fun t ht => by cases ht⟩, by show (m : Int) + ((L.drop m).length : Int) ≤ 1000; rw [List.length_drop]; omega⟩
theorem hea_ok {L : List ByteArray} {m : Nat} (hL : L.length ≤ 8) (hs : ∀ t ∈ L, t.size ≤ 60) (hm : m ≤ L.length) : OkS (hea L m) :=
  ⟨⟨by show (0 : Int) ≤ 0; omega, by show (0 : Int) ≤ 1000; omega, by show (0 : Int) ≤ 0; omega, by show (0 : Int) ≤ 0 + 4; omega, by show (0 : Int) - 0 ≤ (([] : List ByteArray).length : Int); simp, by show ([] : List ByteArray).length ≤ 30; simp, by show (0 : Int) ≤ m; omega, by show (m : Int) ≤ 1000; omega, by show ((L.take m).length : Int) = m; rw [List.length_take]; omega, (fun t ht => by cases ht), fun t ht => hs t (List.mem_of_mem_take ht)⟩, by show (0 : Int) + (([] : List ByteArray).length : Int) ≤ 1000; simp⟩
theorem wide_tel {L : List ByteArray} {m : Nat} : wide (tel L m) = stepN L m := by unfold wide stepN tel; rw [List.length_drop]
theorem sent_tel {L : List ByteArray} {m : Nat} : sent (tel L m) = 0 := by unfold sent tel; simp
theorem newP_tel {L : List ByteArray} {m : Nat} : newP (tel L m) = parcs (tel L m) 0 (stepN L m) := by unfold newP; rw [sent_tel, wide_tel]; rfl
theorem newE_tel {L : List ByteArray} {m : Nat} : newE (tel L m) = ⟨m + (stepN L m : Int), m, L.drop m, 0, []⟩ := by unfold newE; rw [wide_tel]; rfl
/-- a parcel of the teller's, in plain words. -/
theorem parc_tel {L : List ByteArray} {m i : Nat} (h : m + i < L.length) : parc (tel L m) i = (((m + i : Nat) : Int) + 1, (0 : Int), L[m + i]) := by
  unfold parc tel
  simp only
  rw [List.getD_eq_getElem?_getD, List.getElem?_drop, List.getElem?_eq_getElem h]
  simp
/-- the hearer takes the next. -/
theorem hea_take {L : List ByteArray} {m : Nat} (hL : L.length ≤ 8) (h : m < L.length) : recvE (hea L m) ((m : Int) + 1, 0, L[m]) = hea L (m + 1) := by
  unfold recvE
  rw [show ackE (hea L m) 0 = hea L m by unfold ackE hea; simp]
  unfold takeE takeB
  rw [if_pos (by unfold hea; simp; omega)]
  unfold hea
  simp only
  rw [List.take_succ_eq_append_getElem h]
  rfl
/-- .. and no other. -/
theorem hea_leave {L : List ByteArray} {m : Nat} {x : Int} {t : ByteArray} (h : x ≠ (m : Int) + 1) : recvE (hea L m) (x, 0, t) = hea L m := by
  unfold recvE takeE takeB ackE hea
  simp [h]
theorem hea_new {L : List ByteArray} {m : Nat} (hL : L.length ≤ 8) : ∀ k, k ≤ stepN L m → foldR (hea L m) (parcs (tel L m) 0 k) = hea L (m + k) := by
  intro k
  induction k with
  | zero => intro _; rfl
  | succ k ih =>
    intro hk
    unfold stepN at hk
    rw [parcs_succ, foldR_snoc, ih (by unfold stepN; omega), Nat.zero_add, parc_tel (show m + k < L.length by omega)]
    exact hea_take hL (by omega)
theorem hea_old {L : List ByteArray} {m M : Nat} {e : En} (he : e = ⟨e.nx, m, L.drop m, 0, []⟩) : ∀ k, m + k ≤ M → foldR (hea L M) (parcs e 0 k) = hea L M := by
  intro k
  induction k with
  | zero => intro _; rfl
  | succ k ih =>
    intro hk
    rw [parcs_succ, foldR_snoc, ih (by omega), Nat.zero_add]
    have : parc e k = ((m : Int) + (k : Int) + 1, 0, (L.drop m).getD k ByteArray.empty) := by rw [he]; rfl
    rw [this]
    exact hea_leave (by omega)
/-- one round. -/
theorem round_b {L : List ByteArray} {m : Nat} (hL : L.length ≤ 8) (hm : m ≤ L.length) : foldR (hea L m) (newP (tel L m) ++ againP (newE (tel L m))) = hea L (m + stepN L m) := by
  rw [foldR_app, newP_tel, hea_new hL _ (Nat.le_refl _)]
  unfold againP
  rw [newE_tel]
  split
  · refine hea_old rfl _ ?_
    show m + (((m : Int) + (stepN L m : Int)) - (m : Int)).toNat ≤ m + stepN L m
    omega
  · show recvE (hea L (m + stepN L m)) (0, 0, ByteArray.empty) = _
    exact hea_leave (by omega)
theorem again_hea {L : List ByteArray} {m : Nat} : againP (hea L m) = [(0, (m : Int), ByteArray.empty)] := by
  unfold againP hea
  simp
theorem round_a {L : List ByteArray} {m : Nat} (hm : m ≤ L.length) : foldR (newE (tel L m)) (againP (hea L (m + stepN L m))) = tel L (m + stepN L m) := by
  rw [again_hea, newE_tel]
  show recvE _ _ = _
  have hk : ackE ⟨(m : Int) + (stepN L m : Int), m, L.drop m, 0, []⟩ ((m + stepN L m : Nat) : Int) = tel L (m + stepN L m) := by
    unfold ackE tel
    by_cases h : stepN L m = 0
    · simp [h]
    · rw [if_pos (by simp only; omega)]
      simp only
      rw [show (((m + stepN L m : Nat) : Int) - (m : Int)).toNat = stepN L m by omega, List.drop_drop]
      congr 1
  unfold recvE
  rw [hk]
  unfold takeE takeB tel
  simp
theorem step_reach {L : List ByteArray} {m i : Nat} (hL : L.length ≤ 8) (h : m ≤ L.length) (h' : min (4 * i) L.length ≤ m) : m + stepN L m ≤ L.length ∧ min (4 * (i + 1)) L.length ≤ m + stepN L m := by
  unfold stepN
  omega
end Go.Proofs.Ytohagaelenhebaa.Pl
