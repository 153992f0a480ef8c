/- Plain facts on decimal figures; no program is named here. -/
import Derived.Test.YtlflcjdpdbdbkaaFig
namespace Go.Proofs.Ytlflcjdpdbdbkaa.Pl
open Go Go.RowKit

/-- the decimal figures of n, none of 0. -/
def decF : Nat → Nat → List Int
  | 0, _ => []
  | f + 1, n => if n = 0 then [] else decF f (n / 10) ++ [48 + ((n % 10 : Nat) : Int)]

theorem decF_eq : ∀ (f g n : Nat), n ≤ f → n ≤ g → decF f n = decF g n := by
  intro f
  induction f with
  | zero =>
    intro g n hf _
    obtain rfl : n = 0 := by omega
    cases g with
    | zero => rfl
    | succ g => simp [decF]
  | succ f ih =>
    intro g n hf hg
    cases g with
    | zero =>
      obtain rfl : n = 0 := by omega
      simp [decF]
    | succ g =>
      simp only [decF]
      by_cases h : n = 0
      · rw [if_pos h, if_pos h]
      · rw [if_neg h, if_neg h, ih g (n / 10) (by omega) (by omega)]

def decR (n : Nat) : List Int := decF n n
theorem decR_zero : decR 0 = [] := rfl
theorem decR_pos {n : Nat} (h : n ≠ 0) : decR n = decR (n / 10) ++ [48 + ((n % 10 : Nat) : Int)] := by
  obtain ⟨m, rfl⟩ : ∃ m, n = m + 1 := ⟨n - 1, by omega⟩
  unfold decR
  rw [decF, if_neg h, decF_eq m ((m + 1) / 10) ((m + 1) / 10) (by omega) (Nat.le_refl _)]

def decL (n : Nat) : List Int := if n = 0 then [48] else decR n
def decS (n : Nat) : ByteArray := strOfNums (decL n)

theorem decR_length (n : Nat) : (decR n).length ≤ n := by
  induction n using Nat.strongRecOn with
  | ind n ih =>
    by_cases h : n = 0
    · subst h; simp [decR_zero]
    · rw [decR_pos h]
      have := ih (n / 10) (by omega)
      simp
      omega

theorem decR_mem (n : Nat) : ∀ x ∈ decR n, 48 ≤ x ∧ x ≤ 57 := by
  induction n using Nat.strongRecOn with
  | ind n ih =>
    intro x hx
    by_cases h : n = 0
    · subst h; simp [decR_zero] at hx
    · rw [decR_pos h] at hx
      rcases List.mem_append.1 hx with hx | hx
      · exact ih (n / 10) (by omega) x hx
      · simp at hx; omega

theorem decR_head (n : Nat) : ∀ (x : Int) (xs : List Int), decR n = x :: xs → x ≠ 48 := by
  induction n using Nat.strongRecOn with
  | ind n ih =>
    intro x xs hx
    by_cases h : n = 0
    · subst h; simp [decR_zero] at hx
    · rw [decR_pos h] at hx
      by_cases h2 : n / 10 = 0
      · rw [h2, decR_zero] at hx
        simp at hx
        omega
      · cases hd : decR (n / 10) with
        | nil =>
          rw [decR_pos h2] at hd
          simp at hd
        | cons y ys =>
          rw [hd] at hx
          simp at hx
          rw [← hx.1]
          exact ih (n / 10) (by omega) y ys hd

/-- what the first k figures of s stand for. -/
def dv (s : ByteArray) (k : Nat) : Nat := (s.data.toList.take k).foldl (fun n c => 10 * n + (c.toNat - 48)) 0
theorem dv_step (s : ByteArray) (k : Nat) (hk : k < s.size) : dv s (k + 1) = 10 * dv s k + ((s[k]'hk).toNat - 48) := by
  unfold dv; rw [take_snoc s k hk]; simp

theorem dv_bd {s : ByteArray} : ∀ k, k ≤ s.size → AllFig false s k → dv s k < 10 ^ k := by
  intro k
  induction k with
  | zero => intro _ _; simp [dv]
  | succ k ih =>
    intro hk h
    have h1 := ih (by omega) (fun j hj hlt => h j hj (by omega))
    have h2 := (figVal_dec (h k (by omega) (by omega))).2
    rw [dv_step s k (by omega), Nat.pow_succ]
    omega
theorem dv_le {s : ByteArray} {k : Nat} (hk : k ≤ s.size) (h : AllFig false s k) (h10 : k ≤ 10) : dv s k ≤ 9999999999 := by
  have h1 := dv_bd k hk h
  have h2 : 10 ^ k ≤ 10 ^ 10 := Nat.pow_le_pow_right (by omega) h10
  omega

def bytesN (s : ByteArray) (k : Nat) : List Int := (s.data.toList.take k).map fun c => (c.toNat : Int)
theorem bytesN_step (s : ByteArray) (k : Nat) (hk : k < s.size) : bytesN s (k + 1) = bytesN s k ++ [((s[k]'hk).toNat : Int)] := by
  unfold bytesN; rw [take_snoc s k hk]; simp

theorem dec_lead {s : ByteArray} (h0 : 0 < s.size) (hne : (s[0]'h0).toNat ≠ 48) : ∀ k, 0 < k → k ≤ s.size → AllFig false s k → 0 < dv s k ∧ decR (dv s k) = bytesN s k := by
  intro k
  induction k with
  | zero => intro h; omega
  | succ k ih =>
    intro _ hk h
    have hf := (figVal_dec (h k (by omega) (by omega))).2
    by_cases hk0 : k = 0
    · subst hk0
      have e0 : dv s 0 = 0 := rfl
      rw [dv_step s 0 h0, e0, bytesN_step s 0 h0]
      have hp : 10 * 0 + ((s[0]'h0).toNat - 48) ≠ 0 := by omega
      refine ⟨by omega, ?_⟩
      rw [decR_pos hp]
      have e1 : (10 * 0 + ((s[0]'h0).toNat - 48)) / 10 = 0 := by omega
      have e2 : (10 * 0 + ((s[0]'h0).toNat - 48)) % 10 = (s[0]'h0).toNat - 48 := by omega
      rw [e1, e2, decR_zero]
      simp [bytesN]
      omega
    · obtain ⟨i1, i2⟩ := ih (by omega) (by omega) (fun j hj hlt => h j hj (by omega))
      rw [dv_step s k (by omega), bytesN_step s k (by omega)]
      have hp : 10 * dv s k + ((s[k]'(by omega)).toNat - 48) ≠ 0 := by omega
      refine ⟨by omega, ?_⟩
      rw [decR_pos hp]
      have e1 : (10 * dv s k + ((s[k]'(by omega)).toNat - 48)) / 10 = dv s k := by omega
      have e2 : (10 * dv s k + ((s[k]'(by omega)).toNat - 48)) % 10 = (s[k]'(by omega)).toNat - 48 := by omega
      rw [e1, e2, i2]
      have e3 : (48 : Int) + (((s[k]'(by omega)).toNat - 48 : Nat) : Int) = ((s[k]'(by omega)).toNat : Int) := by omega
      rw [e3]

theorem bytesN_all (s : ByteArray) : (bytesN s s.size).map (fun n => UInt8.ofNat n.toNat) = s.data.toList := by
  unfold bytesN
  have e : s.data.toList.length = s.size := rfl
  rw [List.take_of_length_le (by omega), List.map_map]
  conv => rhs; rw [← List.map_id s.data.toList]
  apply List.map_congr_left
  intro c _
  simp

theorem decS_list (n : Nat) : (decS n).toList = (decL n).map fun n => UInt8.ofNat n.toNat := by
  rw [ByteArray.toList_eq]; rfl

/-- a text of figures is the decimal of what it stands for, but for an empty one and one with needless noughts. -/
theorem dec_same {s : ByteArray} (hall : AllFig false s s.size) (h0 : 0 < s.size) (hok : ¬ ((s[0]'h0).toNat = 48 ∧ 1 < s.size)) :
    ((decS (dv s s.size)).toList == s.toList) = true := by
  rw [decS_list, ByteArray.toList_eq, beq_iff_eq, ← bytesN_all s]
  congr 1
  by_cases hz : (s[0]'h0).toNat = 48
  · have h1 : s.size = 1 := by omega
    have e : dv s s.size = 0 := by
      have e0 : dv s 0 = 0 := rfl
      rw [h1, show (1 : Nat) = 0 + 1 from rfl, dv_step s 0 h0, e0, hz]
    rw [e, h1, bytesN_step s 0 h0]
    simp [decL, bytesN]
    omega
  · obtain ⟨i1, i2⟩ := dec_lead h0 hz s.size h0 (Nat.le_refl _) hall
    rw [decL, if_neg (by omega), i2]

theorem dec_other {s : ByteArray} (hbad : s.size = 0 ∨ ∃ h0 : 0 < s.size, (s[0]'h0).toNat = 48 ∧ 1 < s.size) (n : Nat) :
    ((decS n).toList == s.toList) = false := by
  rw [decS_list, ByteArray.toList_eq, beq_eq_false_iff_ne]
  intro heq
  have hlen := congrArg List.length heq
  have e : s.data.toList.length = s.size := rfl
  rw [e, List.length_map] at hlen
  rcases hbad with hs | ⟨h0, hz, h1⟩
  · by_cases hn : n = 0
    · subst hn; simp [decL] at hlen; omega
    · rw [decL, if_neg hn, decR_pos hn] at hlen
      simp at hlen
      omega
  · by_cases hn : n = 0
    · subst hn; simp [decL] at hlen; omega
    · rw [decL, if_neg hn] at heq
      have hd : s.data.toList = s[0] :: s.data.toList.drop 1 := by
        exact List.drop_eq_getElem_cons (l := s.data.toList) (i := 0) (by omega)
      cases hc : decR n with
      | nil =>
        rw [decR_pos hn] at hc
        simp at hc
      | cons x xs =>
        rw [hc, hd] at heq
        simp only [List.map_cons, List.cons.injEq] at heq
        have hx := decR_head n x xs hc
        have hm := decR_mem n x (by rw [hc]; simp)
        have h2 := congrArg UInt8.toNat heq.1
        rw [hz] at h2
        simp at h2
        omega

end Go.Proofs.Ytlflcjdpdbdbkaa.Pl
