/- Plain facts: digits in base 128 that were read are those that would be written, but for a last digit 0; no program is named here. -/
import Derived.Test.YtlflcjdpdbdbkaaRv
namespace Go.Proofs.Ytlflcjdpdbdbkaa.Pl
open Go Go.RowKit

theorem varI_ne (n : Nat) : varI n ≠ [] := by
  by_cases h : 127 < n
  · rw [varI_big h]; simp
  · rw [varI_small h]; simp

theorem varI_mem (n : Nat) : ∀ x ∈ varI n, 0 ≤ x ∧ x < 256 := by
  induction n using Nat.strongRecOn with
  | ind n ih =>
    intro x hx
    by_cases h : 127 < n
    · rw [varI_big h] at hx
      rcases List.mem_cons.1 hx with rfl | hx
      · omega
      · exact ih (n / 128) (by omega) x hx
    · rw [varI_small h] at hx
      simp at hx
      omega

theorem varI_last (n : Nat) : ∀ xs : List Int, varI n = xs ++ [0] → xs = [] := by
  induction n using Nat.strongRecOn with
  | ind n ih =>
    intro xs hx
    by_cases h : 127 < n
    · rw [varI_big h] at hx
      cases xs with
      | nil => rfl
      | cons y ys =>
        simp only [List.cons_append, List.cons.injEq] at hx
        have := ih (n / 128) (by omega) ys hx.2
        subst this
        exfalso
        have h2 := hx.2
        by_cases h3 : 127 < n / 128
        · rw [varI_big h3] at h2
          simp at h2
          exact varI_ne _ h2.2
        · rw [varI_small h3] at h2
          simp at h2
          omega
    · rw [varI_small h] at hx
      cases xs with
      | nil => rfl
      | cons y ys => simp at hx

/-- the bytes of s from A on, k of them, as numbers. -/
def bytesI (s : ByteArray) (A k : Nat) : List Int := ((s.data.toList.drop A).take k).map fun c => (c.toNat : Int)

theorem bytesI_snoc (s : ByteArray) (A k : Nat) (h : A + k < s.size) : bytesI s A (k + 1) = bytesI s A k ++ [((s[A + k]'h).toNat : Int)] := by
  unfold bytesI
  rw [List.take_succ_eq_append_getElem (by simp; have : s.data.size = s.size := rfl; omega)]
  simp
  rfl

/-- what was read is what would be written ahead of whatever follows. -/
def Dig (s : ByteArray) (A k m S : Nat) : Prop := ∀ N : Nat, (0 < N ∨ k = 0) → varI (m + N * S) = bytesI s A k ++ varI N

theorem dig_start (s : ByteArray) (A : Nat) : Dig s A 0 0 1 := by
  intro N _
  simp [bytesI]

theorem dig_step {s : ByteArray} {A k m S : Nat} (h : Dig s A k m S) (hi : A + k < s.size) (hc : 127 < (s[A + k]'hi).toNat) :
    Dig s A (k + 1) (m + (s[A + k]'hi).toNat % 128 * S) (S * 128) := by
  intro N hN
  have hb : (s[A + k]'hi).toNat < 256 := UInt8.toNat_lt _
  have e : m + (s[A + k]'hi).toNat % 128 * S + N * (S * 128) = m + ((s[A + k]'hi).toNat % 128 + N * 128) * S := by
    rw [Nat.add_mul, Nat.add_assoc, Nat.mul_assoc N, Nat.mul_comm 128 S]
  rw [e, h _ (by omega), bytesI_snoc s A k hi, varI_big (by omega)]
  have e2 : ((s[A + k]'hi).toNat % 128 + N * 128) % 128 + 128 = (s[A + k]'hi).toNat := by omega
  have e3 : ((s[A + k]'hi).toNat % 128 + N * 128) / 128 = N := by omega
  rw [e2, e3]
  simp

theorem toBytes_bytesI (s : ByteArray) (A k : Nat) : (bytesI s A k).map (fun n => UInt8.ofNat n.toNat) = (s.data.toList.drop A).take k := by
  unfold bytesI
  rw [List.map_map]
  conv => rhs; rw [← List.map_id ((s.data.toList.drop A).take k)]
  apply List.map_congr_left
  intro c _
  simp

theorem ofBytes (xs : List Int) (h : ∀ x ∈ xs, 0 ≤ x ∧ x < 256) : (xs.map (fun n => UInt8.ofNat n.toNat)).map (fun c => (c.toNat : Int)) = xs := by
  rw [List.map_map]
  conv => rhs; rw [← List.map_id xs]
  apply List.map_congr_left
  intro x hx
  have := h x hx
  simp
  omega

theorem extract_list (s : ByteArray) (A e : Nat) : (s.extract A e).toList = (s.data.toList.drop A).take (e - A) := by
  rw [ByteArray.toList_eq, ByteArray.data_extract]
  simp [List.take_drop, Array.toList_extract]

theorem cmp_test {s : ByteArray} {A k m S c : Nat} (hd : Dig s A k m S) (hi : A + k < s.size) (hcc : (s[A + k]'hi).toNat = c) (hc : ¬ 127 < c)
    {a e : Int} (ha : a.toNat = m + c % 128 * S) (he : e.toNat = A + (k + 1)) :
    (!(varS a.toNat).toList == (s.extract A e.toNat).toList) = true ↔ (c = 0 ∧ 0 < k) := by
  have hmod : c % 128 = c := by omega
  rw [hmod] at ha
  rw [ha, he, extract_list, show A + (k + 1) - A = k + 1 from by omega, ByteArray.toList_eq]
  have hv : (varS (m + c * S)).data.toList = (varI (m + c * S)).map (fun n => UInt8.ofNat n.toNat) := rfl
  rw [hv]
  constructor
  · intro ht
    refine Classical.byContradiction fun hn => ?_
    have h1 := hd c (by omega)
    rw [varI_small hc] at h1
    have h2 := bytesI_snoc s A k hi
    rw [hcc] at h2
    rw [h1, ← h2, toBytes_bytesI] at ht
    simp at ht
  · rintro ⟨rfl, hk⟩
    simp only [Bool.not_eq_true', beq_eq_false_iff_ne, ne_eq]
    intro heq
    rw [← toBytes_bytesI] at heq
    have h3 := congrArg (List.map (fun c : UInt8 => (c.toNat : Int))) heq
    rw [ofBytes _ (varI_mem _), ofBytes _ (by
      intro x hx
      unfold bytesI at hx
      obtain ⟨b, _, rfl⟩ := List.mem_map.1 hx
      have : b.toNat < 256 := UInt8.toNat_lt b
      omega), bytesI_snoc s A k hi, hcc] at h3
    have h4 := varI_last _ _ h3
    have h5 : (bytesI s A k).length = k := by
      unfold bytesI
      have : s.data.size = s.size := rfl
      simp
      omega
    rw [h4] at h5
    simp at h5
    omega

theorem cmp_test_no {s : ByteArray} {A k m S c : Nat} (hd : Dig s A k m S) (hi : A + k < s.size) (hcc : (s[A + k]'hi).toNat = c) (hc : ¬ 127 < c)
    {a e : Int} (ha : a.toNat = m + c % 128 * S) (he : e.toNat = A + (k + 1)) (ht : (!(varS a.toNat).toList == (s.extract A e.toNat).toList) = false) : ¬ (c = 0 ∧ 0 < k) := by
  intro h
  have h2 := (cmp_test hd hi hcc hc ha he).2 h
  rw [ht] at h2
  cases h2

theorem digNext {s : ByteArray} {A k m S : Nat} (h : RvSt s A k m S) (hdg : Dig s A k m S) (hk : k < 5) (hi : A + k < s.size) (hc : 127 < (s[A + k]'hi).toNat) (hm : m < S) (hp : PowS k S)
    {n' sc' i' : Value} (e1 : n' = .int .i64 ((m + (s[A + k]'hi).toNat % 128 * S : Nat) : Int)) (e2 : sc' = .int .i64 ((S * 128 : Nat) : Int)) (e3 : i' = .int .i64 ((A + (k + 1) : Nat) : Int)) :
    ∃ k m S : Nat, A + k ≤ s.size ∧ n' = .int .i64 m ∧ m < S ∧ sc' = .int .i64 S ∧ i' = .int .i64 ((A + k : Nat) : Int) ∧ PowS k S ∧ Hid (RvSt s A k m S) ∧ Hid (Dig s A k m S) := by
  refine ⟨k + 1, m + (s[A + k]'hi).toNat % 128 * S, S * 128, by omega, e1, ?_, e2, e3, ?_, rvSt_step h hk hi hc, dig_step hdg hi hc⟩
  · have h1 : (s[A + k]'hi).toNat % 128 * S ≤ 127 * S := Nat.mul_le_mul_right S (by omega)
    omega
  · unfold PowS at hp ⊢
    omega

end Go.Proofs.Ytlflcjdpdbdbkaa.Pl
