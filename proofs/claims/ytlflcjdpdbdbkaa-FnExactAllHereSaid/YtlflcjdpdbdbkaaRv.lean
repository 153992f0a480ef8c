/- Plain facts on reading digits in base 128 back; no program is named here. -/
import Derived.Test.YtlflcjdpdbdbkaaPlain
namespace Go.Proofs.Ytlflcjdpdbdbkaa.Pl
open Go Go.RowKit

/-- reads digits from the bytes: at most f of them; 'fst': none was read yet; n: what was read; sc: the next digit's weight; i: the place. -/
def rvGo : Nat → List UInt8 → Bool → Nat → Nat → Nat → Option (Nat × Nat)
  | 0, _, _, _, _, _ => none
  | _ + 1, [], _, _, _, _ => none
  | f + 1, c :: cs, fst, n, sc, i =>
    if 127 < c.toNat then rvGo f cs false (n + c.toNat % 128 * sc) (sc * 128) (i + 1)
    else if (c.toNat = 0 ∧ fst = false) ∨ 1000000000 < n + c.toNat % 128 * sc then none
    else some (n + c.toNat % 128 * sc, i + 1)

/-- what ReadVar answers at a place within the text: the number and the place behind it. -/
def rv (s : ByteArray) (A : Nat) : Option (Nat × Nat) := rvGo 5 (s.data.toList.drop A) true 0 1 A

/-- the state of the loop behind k rounds. -/
def RvSt (s : ByteArray) (A k n S : Nat) : Prop := rvGo (5 - k) (s.data.toList.drop (A + k)) (k == 0) n (S) (A + k) = rv s A

theorem rvSt_start (s : ByteArray) (A : Nat) : RvSt s A 0 0 1 := rfl

theorem drop_at (s : ByteArray) (i : Nat) (h : i < s.size) : s.data.toList.drop i = s[i] :: s.data.toList.drop (i + 1) := by
  rw [List.drop_eq_getElem_cons (by simpa using h)]; rfl

theorem rvSt_step {s : ByteArray} {A k n S : Nat} (h : RvSt s A k n S) (hk : k < 5) (hi : A + k < s.size) (hc : 127 < (s[A + k]'hi).toNat) :
    RvSt s A (k + 1) (n + (s[A + k]'hi).toNat % 128 * S) (S * 128) := by
  unfold RvSt at h ⊢
  rw [← h, drop_at s (A + k) hi]
  obtain ⟨f, hf⟩ : ∃ f, 5 - k = f + 1 := ⟨4 - k, by omega⟩
  have hf' : 5 - (k + 1) = f := by omega
  rw [hf, hf', rvGo, if_pos hc]
  simp [Nat.add_assoc]

theorem rvSt_out {s : ByteArray} {A k n S : Nat} (h : RvSt s A k n S) (hk : 5 ≤ k ∨ s.size ≤ A + k) : rv s A = none := by
  unfold RvSt at h
  rw [← h]
  rcases hk with hk | hk
  · have : 5 - k = 0 := by omega
    rw [this, rvGo]
  · rw [List.drop_eq_nil_of_le (by simpa using hk)]
    cases 5 - k <;> rfl

theorem rvSt_bad {s : ByteArray} {A k n S : Nat} (h : RvSt s A k n S) (hk : k < 5) (hi : A + k < s.size) (hc : ¬ 127 < (s[A + k]'hi).toNat)
    (hb : ((s[A + k]'hi).toNat = 0 ∧ 0 < k) ∨ 1000000000 < n + (s[A + k]'hi).toNat % 128 * S) : rv s A = none := by
  unfold RvSt at h
  rw [← h, drop_at s (A + k) hi]
  obtain ⟨f, hf⟩ : ∃ f, 5 - k = f + 1 := ⟨4 - k, by omega⟩
  rw [hf, rvGo, if_neg hc, if_pos]
  rcases hb with ⟨h1, h2⟩ | h2
  · exact .inl ⟨h1, by simp; omega⟩
  · exact .inr h2

theorem rvSt_good {s : ByteArray} {A k n S : Nat} (h : RvSt s A k n S) (hk : k < 5) (hi : A + k < s.size) (hc : ¬ 127 < (s[A + k]'hi).toNat)
    (h1 : ¬ ((s[A + k]'hi).toNat = 0 ∧ 0 < k)) (h2 : ¬ 1000000000 < n + (s[A + k]'hi).toNat % 128 * S) :
    rv s A = some (n + (s[A + k]'hi).toNat % 128 * S, A + k + 1) := by
  unfold RvSt at h
  rw [← h, drop_at s (A + k) hi]
  obtain ⟨f, hf⟩ : ∃ f, 5 - k = f + 1 := ⟨4 - k, by omega⟩
  rw [hf, rvGo, if_neg hc, if_neg]
  rintro (⟨a, b⟩ | b)
  · exact h1 ⟨a, by simp at b; omega⟩
  · exact h2 b

/-- the weight S of digit k. -/
def PowS (k S : Nat) : Prop := (k = 0 ∧ S = 1) ∨ (k = 1 ∧ S = 128) ∨ (k = 2 ∧ S = 16384) ∨ (k = 3 ∧ S = 2097152) ∨ (k = 4 ∧ S = 268435456) ∨ (k = 5 ∧ S = 34359738368)

theorem rvNext {s : ByteArray} {A k m S : Nat} (h : RvSt s A k m S) (hk : k < 5) (hi : A + k < s.size) (hc : 127 < (s[A + k]'hi).toNat) (hm : m < S) (hp : PowS k S)
    {n' sc' i' : Value} (e1 : n' = .int .i64 ((m + (s[A + k]'hi).toNat % 128 * S : Nat) : Int)) (e2 : sc' = .int .i64 ((S * 128 : Nat) : Int)) (e3 : i' = .int .i64 ((A + (k + 1) : Nat) : Int)) :
    ∃ k m S : Nat, A + k ≤ s.size ∧ n' = .int .i64 m ∧ m < S ∧ sc' = .int .i64 S ∧ i' = .int .i64 ((A + k : Nat) : Int) ∧ PowS k S ∧ Hid (RvSt s A k m S) := by
  refine ⟨k + 1, m + (s[A + k]'hi).toNat % 128 * S, S * 128, by omega, e1, ?_, e2, e3, ?_, rvSt_step h hk hi hc⟩
  · have h1 : (s[A + k]'hi).toNat % 128 * S ≤ 127 * S := Nat.mul_le_mul_right S (by omega)
    omega
  · unfold PowS at hp ⊢
    omega

/-- the answer of ReadVar as the call's results. -/
def rvT : Option (Nat × Nat) → Value
  | some (n, i) => .tuple #[.int .i64 n, .int .i64 i, .bool true]
  | none => .tuple #[.int .i64 0, .int .i64 0, .bool false]

theorem rvT_bad {s : ByteArray} {A : Nat} (h : rv s A = none) : Ending.returned (.tuple #[.int .i64 0, .int .i64 0, .bool false]) = .returned (rvT (rv s A)) := by rw [h]; rfl
theorem rvT_good {s : ByteArray} {A n i : Nat} {a b : Int} (h : rv s A = some (n, i)) (ha : a = n) (hb : b = i) : Ending.returned (.tuple #[.int .i64 a, .int .i64 b, .bool true]) = .returned (rvT (rv s A)) := by rw [h, ha, hb]; rfl

end Go.Proofs.Ytlflcjdpdbdbkaa.Pl
