/- Joined texts: Step Fig Dec. -/
import Derived.Test.YtlflcjdpdbdbkaaDoorBj2
import Derived.Deep.RegionLaw
import Derived.Deep.AppendLies
/- A law for bytes appended inside a statement that leaves its order open; no program is named here. -/
namespace Go.Proofs.YtlflcjdpdbdbkaaDoor.Pl
open Go Go.RowKit

theorem step_pushB {P : Program} {ops : Array Oper} {o : Oper} {a : Act} {W : World} {K : Act → World → Prop} {Q : Exit → Act → World → Prop} {E : Prop}
    (hg : o.guard = none) (s x : Operand) (t e : TypeId) (hop : o.op = Op.call { callee := Callee.builtin Builtin.append, args := #[s, x], argTypes := #[t, t] })
    (ht : P.underlying t = some (.slice e)) (hinfo : (P.info? e).map (fun i => (i.zero, i.size, i.bytes)) = some (some (.int .u8 0), 1, 1))
    (B : Nat) (v : Value) (xs : List Int) (hs : a.eval s = v) (hown : OwnB W B e v xs)
    (bs : List Int) (ad : Addr) (m c : Nat) (hx : a.eval x = .slice (some ad) m c) (hm : bs.length = m)
    (hc : ∀ j u, (bs.map (Value.int .u8))[j]? = some u → W.cell? (ad.add j) = some u)
    (hn : xs.length + m < 70368744177664) (hB : B ≤ W.heap.size)
    (hK : ∀ v' w', OwnB w' B e v' (xs ++ bs) → Below B W w' → K (a.put o.dst v') w') :
    if Region.wanted o (yielded ops a.tmps) = true then Oper.wp P o a W K Q else E := by
  have hw : Region.wanted o (yielded ops a.tmps) = true := by simp [Region.wanted, hg]
  rw [if_pos hw]
  obtain ⟨i0, hi, hz0, hz1, hz2⟩ := info_parts hinfo
  refine wp_append_own W s x t hop B e i0 (.int .u8 0) 1 1 ht hi hz0 hz1 hz2 rfl (by decide) v xs.length (xs.map (Value.int .u8)) hs hown ad m c (bs.map (Value.int .u8)) hx (by simp [hm]) hc (ints_oneCell _ _) (by unfold maxLen; omega) (by omega) hB ?_
  intro v' w' hown' hgr _
  refine hK v' w' ?_ ?_
  · subst hm
    simpa [OwnB] using hown'
  · exact (Below.refl B W).grown hgr hB fun k hk => (World.ownsRow.lt hown k hk).1

theorem OwnB.drew {w : World} {B : Nat} {e : TypeId} {v : Value} {xs : List Int} (h : OwnB w B e v xs) : OwnB w.drew B e v xs := World.ownsRow.drew h

/-- a figure of base 16. -/
def figI (x : Nat) : Int := if x < 10 then 48 + (x : Int) else 87 + (x : Int)

/-- two figures for each byte. -/
def hexI (l : List UInt8) : List Int := l.flatMap fun c => [figI (c.toNat / 16), figI (c.toNat % 16)]

theorem hexI_length (l : List UInt8) : (hexI l).length = 2 * l.length := by
  induction l with
  | nil => rfl
  | cons c l ih => simp [hexI] at ih ⊢; omega

theorem take_snoc (s : ByteArray) (k : Nat) (h : k < s.size) : s.data.toList.take (k + 1) = s.data.toList.take k ++ [s[k]] := by
  rw [List.take_succ_eq_append_getElem (by simpa using h)]; rfl

theorem hexI_snoc (s : ByteArray) (k : Nat) (h : k < s.size) :
    hexI (s.data.toList.take (k + 1)) = hexI (s.data.toList.take k) ++ [figI ((s[k]'h).toNat / 16), figI ((s[k]'h).toNat % 16)] := by
  rw [take_snoc s k h]; simp [hexI]

def hexS (s : ByteArray) : ByteArray := strOfNums (hexI s.data.toList)

end Go.Proofs.YtlflcjdpdbdbkaaDoor.Pl

/- Plain facts on figures and what they stand for; no program is named here. -/
namespace Go.Proofs.YtlflcjdpdbdbkaaDoor.Pl
open Go Go.RowKit

theorem OwnB.form {w : World} {B : Nat} {e : TypeId} {v : Value} {xs : List Int} (h : OwnB w B e v xs) : ∃ ao cap, v = .slice ao xs.length cap := by
  rcases h.2 with ⟨rfl, hn⟩ | ⟨g, cap, cur, rfl, _⟩
  · exact ⟨none, 0, by rw [hn]⟩
  · exact ⟨_, cap, rfl⟩

theorem OwnB.some {w : World} {B : Nat} {e : TypeId} {v : Value} {xs : List Int} (h : OwnB w B e v xs) (h0 : 0 < xs.length) :
    ∃ g cap, v = .slice (some ⟨g, 0, none⟩) xs.length cap ∧ B ≤ g ∧ g < w.heap.size ∧ ∀ j, j < xs.length → w.cell? ⟨g, j, none⟩ = some (.int .u8 (xs.getD j 0)) := by
  rcases h.2 with ⟨rfl, hn⟩ | ⟨g, cap, cur, rfl, hb, hg, _⟩
  · omega
  · refine ⟨g, cap, rfl, hb, (Array.getElem?_eq_some_iff.1 hg).1, fun j hj => ?_⟩
    have := World.ownsRow.cellAt h j (by omega)
    rw [this]
    simp [hj]

/-- is the byte a figure: of base 10, or, with letters, of base 16? -/
def figOk (lt : Bool) (c : Nat) : Bool := (decide (48 ≤ c) && decide (c ≤ 57)) || (lt && (decide (97 ≤ c) && decide (c ≤ 102)))
def figVal (c : Nat) : Int := if c ≤ 57 then (c : Int) - 48 else (c : Int) - 87

/-- the first k bytes are figures. -/
def AllFig (lt : Bool) (s : ByteArray) (k : Nat) : Prop := ∀ j, (h : j < s.size) → j < k → figOk lt (s[j]'h).toNat = true
def vals (s : ByteArray) (k : Nat) : List Int := (s.data.toList.take k).map fun c => figVal c.toNat

theorem allFig_zero (lt : Bool) (s : ByteArray) : AllFig lt s 0 := fun _ _ h => by omega
theorem allFig_step {lt : Bool} {s : ByteArray} {k : Nat} (h : AllFig lt s k) (hk : k < s.size) (hc : figOk lt (s[k]'hk).toNat = true) : AllFig lt s (k + 1) := by
  intro j hj hlt
  by_cases e : j = k
  · subst e; exact hc
  · exact h j hj (by omega)
theorem vals_step (s : ByteArray) (k : Nat) (hk : k < s.size) : vals s (k + 1) = vals s k ++ [figVal (s[k]'hk).toNat] := by
  unfold vals; rw [take_snoc s k hk]; simp
theorem vals_length (s : ByteArray) (k : Nat) (hk : k ≤ s.size) : (vals s k).length = k := by
  have : s.data.size = s.size := rfl
  simp [vals]; omega
theorem vals_all (s : ByteArray) (k : Nat) (hk : ¬ k < s.size) (hk2 : k ≤ s.size) : k = s.size := by omega
theorem vals_at (s : ByteArray) (j : Nat) (hj : j < s.size) : (vals s s.size).getD j 0 = figVal (s[j]'hj).toNat := by
  have : s.data.size = s.size := rfl
  simp [vals, hj]
  rfl
theorem figVal_bd {lt : Bool} {c : Nat} (h : figOk lt c = true) : 0 ≤ figVal c ∧ figVal c ≤ 15 := by
  unfold figOk at h
  simp at h
  unfold figVal
  split <;> omega
theorem figVal_dec {c : Nat} (h : figOk false c = true) : figVal c = (c : Int) - 48 ∧ 48 ≤ c ∧ c ≤ 57 := by
  unfold figOk at h
  simp at h
  unfold figVal
  split <;> omega
theorem fig_digit {lt : Bool} {c : Nat} (h1 : 48 ≤ c) (h2 : c ≤ 57) : figOk lt c = true ∧ figVal c = (c : Int) - 48 := by
  refine ⟨by simp [figOk]; omega, by rw [figVal, if_pos h2]⟩
theorem fig_letter {c : Nat} (h1 : 97 ≤ c) (h2 : c ≤ 102) : figOk true c = true ∧ figVal c = (c : Int) - 87 := by
  refine ⟨by simp [figOk]; omega, by rw [figVal, if_neg (by omega)]⟩

/-- the bytes that pairs of figures stand for. -/
def pairs : List Int → List Int
  | a :: b :: r => (a * 16 + b) :: pairs r
  | _ => []
theorem pairs_snoc : ∀ (n : Nat) (l : List Int) (a b : Int), l.length = 2 * n → pairs (l ++ [a, b]) = pairs l ++ [a * 16 + b] := by
  intro n
  induction n with
  | zero =>
    intro l a b h
    obtain rfl : l = [] := List.eq_nil_of_length_eq_zero (by omega)
    rfl
  | succ n ih =>
    intro l a b h
    match l, h with
    | x :: y :: r, h =>
      simp only [List.length_cons] at h
      simp only [List.cons_append, pairs]
      rw [ih r a b (by omega)]
theorem pairs_length : ∀ (n : Nat) (l : List Int), l.length = 2 * n → (pairs l).length = n := by
  intro n
  induction n with
  | zero =>
    intro l h
    obtain rfl : l = [] := List.eq_nil_of_length_eq_zero (by omega)
    rfl
  | succ n ih =>
    intro l h
    match l, h with
    | x :: y :: r, h =>
      simp only [List.length_cons] at h
      simp only [pairs, List.length_cons]
      rw [ih r (by omega)]
theorem pairs_step (s : ByteArray) (k : Nat) (h : 2 * k + 1 < s.size) :
    pairs (vals s (2 * (k + 1))) = pairs (vals s (2 * k)) ++ [figVal (s[2 * k]'(by omega)).toNat * 16 + figVal (s[2 * k + 1]'h).toNat] := by
  have e : 2 * (k + 1) = 2 * k + 1 + 1 := by omega
  rw [e, vals_step s (2 * k + 1) h, vals_step s (2 * k) (by omega), List.append_assoc]
  exact pairs_snoc k _ _ _ (vals_length s _ (by omega))

end Go.Proofs.YtlflcjdpdbdbkaaDoor.Pl

/- Plain facts on decimal figures; no program is named here. -/
namespace Go.Proofs.YtlflcjdpdbdbkaaDoor.Pl
open Go Go.RowKit

/-- the decimal figures of n, none of 0. -/
def decF : Nat → Nat → List Int
  | 0, _ => []
  | f + 1, n => if n = 0 then [] else decF f (n / 10) ++ [48 + ((n % 10 : Nat) : Int)]

theorem decF_eq : ∀ (f g n : Nat), n ≤ f → n ≤ g → decF f n = decF g n := by
  intro f
  induction f with
  | zero =>
    intro g n hf _
    obtain rfl : n = 0 := by omega
    cases g with
    | zero => rfl
    | succ g => simp [decF]
  | succ f ih =>
    intro g n hf hg
    cases g with
    | zero =>
      obtain rfl : n = 0 := by omega
      simp [decF]
    | succ g =>
      simp only [decF]
      by_cases h : n = 0
      · rw [if_pos h, if_pos h]
      · rw [if_neg h, if_neg h, ih g (n / 10) (by omega) (by omega)]

def decR (n : Nat) : List Int := decF n n
theorem decR_zero : decR 0 = [] := rfl
theorem decR_pos {n : Nat} (h : n ≠ 0) : decR n = decR (n / 10) ++ [48 + ((n % 10 : Nat) : Int)] := by
  obtain ⟨m, rfl⟩ : ∃ m, n = m + 1 := ⟨n - 1, by omega⟩
  unfold decR
  rw [decF, if_neg h, decF_eq m ((m + 1) / 10) ((m + 1) / 10) (by omega) (Nat.le_refl _)]

def decL (n : Nat) : List Int := if n = 0 then [48] else decR n
def decS (n : Nat) : ByteArray := strOfNums (decL n)

theorem decR_length (n : Nat) : (decR n).length ≤ n := by
  induction n using Nat.strongRecOn with
  | ind n ih =>
    by_cases h : n = 0
    · subst h; simp [decR_zero]
    · rw [decR_pos h]
      have := ih (n / 10) (by omega)
      simp
      omega

theorem decR_mem (n : Nat) : ∀ x ∈ decR n, 48 ≤ x ∧ x ≤ 57 := by
  induction n using Nat.strongRecOn with
  | ind n ih =>
    intro x hx
    by_cases h : n = 0
    · subst h; simp [decR_zero] at hx
    · rw [decR_pos h] at hx
      rcases List.mem_append.1 hx with hx | hx
      · exact ih (n / 10) (by omega) x hx
      · simp at hx; omega

theorem decR_head (n : Nat) : ∀ (x : Int) (xs : List Int), decR n = x :: xs → x ≠ 48 := by
  induction n using Nat.strongRecOn with
  | ind n ih =>
    intro x xs hx
    by_cases h : n = 0
    · subst h; simp [decR_zero] at hx
    · rw [decR_pos h] at hx
      by_cases h2 : n / 10 = 0
      · rw [h2, decR_zero] at hx
        simp at hx
        omega
      · cases hd : decR (n / 10) with
        | nil =>
          rw [decR_pos h2] at hd
          simp at hd
        | cons y ys =>
          rw [hd] at hx
          simp at hx
          rw [← hx.1]
          exact ih (n / 10) (by omega) y ys hd

/-- what the first k figures of s stand for. -/
def dv (s : ByteArray) (k : Nat) : Nat := (s.data.toList.take k).foldl (fun n c => 10 * n + (c.toNat - 48)) 0
theorem dv_step (s : ByteArray) (k : Nat) (hk : k < s.size) : dv s (k + 1) = 10 * dv s k + ((s[k]'hk).toNat - 48) := by
  unfold dv; rw [take_snoc s k hk]; simp

theorem dv_bd {s : ByteArray} : ∀ k, k ≤ s.size → AllFig false s k → dv s k < 10 ^ k := by
  intro k
  induction k with
  | zero => intro _ _; simp [dv]
  | succ k ih =>
    intro hk h
    have h1 := ih (by omega) (fun j hj hlt => h j hj (by omega))
    have h2 := (figVal_dec (h k (by omega) (by omega))).2
    rw [dv_step s k (by omega), Nat.pow_succ]
    omega
theorem dv_le {s : ByteArray} {k : Nat} (hk : k ≤ s.size) (h : AllFig false s k) (h10 : k ≤ 10) : dv s k ≤ 9999999999 := by
  have h1 := dv_bd k hk h
  have h2 : 10 ^ k ≤ 10 ^ 10 := Nat.pow_le_pow_right (by omega) h10
  omega

def bytesN (s : ByteArray) (k : Nat) : List Int := (s.data.toList.take k).map fun c => (c.toNat : Int)
theorem bytesN_step (s : ByteArray) (k : Nat) (hk : k < s.size) : bytesN s (k + 1) = bytesN s k ++ [((s[k]'hk).toNat : Int)] := by
  unfold bytesN; rw [take_snoc s k hk]; simp

theorem dec_lead {s : ByteArray} (h0 : 0 < s.size) (hne : (s[0]'h0).toNat ≠ 48) : ∀ k, 0 < k → k ≤ s.size → AllFig false s k → 0 < dv s k ∧ decR (dv s k) = bytesN s k := by
  intro k
  induction k with
  | zero => intro h; omega
  | succ k ih =>
    intro _ hk h
    have hf := (figVal_dec (h k (by omega) (by omega))).2
    by_cases hk0 : k = 0
    · subst hk0
      have e0 : dv s 0 = 0 := rfl
      rw [dv_step s 0 h0, e0, bytesN_step s 0 h0]
      have hp : 10 * 0 + ((s[0]'h0).toNat - 48) ≠ 0 := by omega
      refine ⟨by omega, ?_⟩
      rw [decR_pos hp]
      have e1 : (10 * 0 + ((s[0]'h0).toNat - 48)) / 10 = 0 := by omega
      have e2 : (10 * 0 + ((s[0]'h0).toNat - 48)) % 10 = (s[0]'h0).toNat - 48 := by omega
      rw [e1, e2, decR_zero]
      simp [bytesN]
      omega
    · obtain ⟨i1, i2⟩ := ih (by omega) (by omega) (fun j hj hlt => h j hj (by omega))
      rw [dv_step s k (by omega), bytesN_step s k (by omega)]
      have hp : 10 * dv s k + ((s[k]'(by omega)).toNat - 48) ≠ 0 := by omega
      refine ⟨by omega, ?_⟩
      rw [decR_pos hp]
      have e1 : (10 * dv s k + ((s[k]'(by omega)).toNat - 48)) / 10 = dv s k := by omega
      have e2 : (10 * dv s k + ((s[k]'(by omega)).toNat - 48)) % 10 = (s[k]'(by omega)).toNat - 48 := by omega
      rw [e1, e2, i2]
      have e3 : (48 : Int) + (((s[k]'(by omega)).toNat - 48 : Nat) : Int) = ((s[k]'(by omega)).toNat : Int) := by omega
      rw [e3]

theorem bytesN_all (s : ByteArray) : (bytesN s s.size).map (fun n => UInt8.ofNat n.toNat) = s.data.toList := by
  unfold bytesN
  have e : s.data.toList.length = s.size := rfl
  rw [List.take_of_length_le (by omega), List.map_map]
  conv => rhs; rw [← List.map_id s.data.toList]
  apply List.map_congr_left
  intro c _
  simp

theorem decS_list (n : Nat) : (decS n).toList = (decL n).map fun n => UInt8.ofNat n.toNat := by
  rw [ByteArray.toList_eq]; rfl

/-- a text of figures is the decimal of what it stands for, but for an empty one and one with needless noughts. -/
theorem dec_same {s : ByteArray} (hall : AllFig false s s.size) (h0 : 0 < s.size) (hok : ¬ ((s[0]'h0).toNat = 48 ∧ 1 < s.size)) :
    ((decS (dv s s.size)).toList == s.toList) = true := by
  rw [decS_list, ByteArray.toList_eq, beq_iff_eq, ← bytesN_all s]
  congr 1
  by_cases hz : (s[0]'h0).toNat = 48
  · have h1 : s.size = 1 := by omega
    have e : dv s s.size = 0 := by
      have e0 : dv s 0 = 0 := rfl
      rw [h1, show (1 : Nat) = 0 + 1 from rfl, dv_step s 0 h0, e0, hz]
    rw [e, h1, bytesN_step s 0 h0]
    simp [decL, bytesN]
    omega
  · obtain ⟨i1, i2⟩ := dec_lead h0 hz s.size h0 (Nat.le_refl _) hall
    rw [decL, if_neg (by omega), i2]

theorem dec_other {s : ByteArray} (hbad : s.size = 0 ∨ ∃ h0 : 0 < s.size, (s[0]'h0).toNat = 48 ∧ 1 < s.size) (n : Nat) :
    ((decS n).toList == s.toList) = false := by
  rw [decS_list, ByteArray.toList_eq, beq_eq_false_iff_ne]
  intro heq
  have hlen := congrArg List.length heq
  have e : s.data.toList.length = s.size := rfl
  rw [e, List.length_map] at hlen
  rcases hbad with hs | ⟨h0, hz, h1⟩
  · by_cases hn : n = 0
    · subst hn; simp [decL] at hlen; omega
    · rw [decL, if_neg hn, decR_pos hn] at hlen
      simp at hlen
      omega
  · by_cases hn : n = 0
    · subst hn; simp [decL] at hlen; omega
    · rw [decL, if_neg hn] at heq
      have hd : s.data.toList = s[0] :: s.data.toList.drop 1 := by
        exact List.drop_eq_getElem_cons (l := s.data.toList) (i := 0) (by omega)
      cases hc : decR n with
      | nil =>
        rw [decR_pos hn] at hc
        simp at hc
      | cons x xs =>
        rw [hc, hd] at heq
        simp only [List.map_cons, List.cons.injEq] at heq
        have hx := decR_head n x xs hc
        have hm := decR_mem n x (by rw [hc]; simp)
        have h2 := congrArg UInt8.toNat heq.1
        rw [hz] at h2
        simp at h2
        omega

end Go.Proofs.YtlflcjdpdbdbkaaDoor.Pl

