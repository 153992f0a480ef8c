/- Joined texts: CTk CNm CPlain CRv CDig CRt CPk. -/
import Derived.WalkKit
import Derived.Laws.RangeAny
/- Right tokens in plain words. No program is named here. -/
namespace Go.Proofs.YtmbjflhhffcjdaaDoor.Pl
open Go Go.RowKit
set_option linter.unusedVariables false

/-- whether the wants ascend from behind 'last' up to q. -/
def wGo (last q : Int) : List Int → Bool
  | [] => true
  | x :: xs => if x ≤ last ∨ q < x then false else wGo x q xs
def wB (ws : List Int) (q : Int) : Bool := decide ((ws.length : Int) ≤ 20) && wGo 0 q ws
/-- whether a token is right. -/
def tkB (c r q a b : Int) (ws : List Int) : Bool :=
  decide (1 ≤ c ∧ c ≤ 9) && (decide (1 ≤ r ∧ r ≤ 1000000000) && (decide (0 ≤ q ∧ q ≤ 60) && (decide (0 ≤ a ∧ a ≤ q) && (decide (0 ≤ b ∧ b ≤ 5) && wB ws q))))

/-- the state of a loop over the wants: 'last' is the last one that was met. -/
def WSt (ws : List Int) (q : Int) (k : Nat) (L : Int) : Prop := wGo L q (ws.drop k) = wGo 0 q ws ∧ 0 ≤ L ∧ (k = 0 → L = 0) ∧ ∀ j (h : j < ws.length), k = j + 1 → L = ws[j]
end Go.Proofs.YtmbjflhhffcjdaaDoor.Pl


/- Names in plain words: when a text is a name, and that a byte above 127 makes a rune that is neither a letter nor a figure. -/
namespace Go.Proofs.YtmbjflhhffcjdaaDoor
open Go.RowKit
set_option linter.unusedVariables false

/-- The byte at k is as a name wants it there. -/
def NmAt (s : ByteArray) (k : Nat) (h : k < s.size) : Prop :=
  (97 ≤ (s[k]'h).toNat ∧ (s[k]'h).toNat ≤ 122) ∨ (0 < k ∧ 48 ≤ (s[k]'h).toNat ∧ (s[k]'h).toNat ≤ 57)

/-- The bytes ahead of k are as a name wants them. -/
def NmTo (s : ByteArray) (k : Nat) : Prop := ∀ i (h : i < s.size), i < k → NmAt s i h

/-- A name. -/
def NmOk (s : ByteArray) : Prop := 1 ≤ s.size ∧ s.size ≤ 12 ∧ NmTo s s.size

def nmDec (s : ByteArray) : Decidable (NmOk s) := by
  unfold NmOk NmTo NmAt
  exact inferInstance
def nmB (s : ByteArray) : Bool := @decide (NmOk s) (nmDec s)

theorem nmB_yes {s : ByteArray} (h : NmOk s) : nmB s = true := by simp [nmB, h]
theorem nmB_no {s : ByteArray} (h : ¬ NmOk s) : nmB s = false := by simp [nmB, h]
theorem nmB_iff {s : ByteArray} : nmB s = true ↔ NmOk s := by simp [nmB]

theorem nmTo_zero (s : ByteArray) : NmTo s 0 := fun i h hi => absurd hi (by omega)
theorem nmTo_step {s : ByteArray} {k : Nat} (h : NmTo s k) (hk : k < s.size) (ha : NmAt s k hk) : NmTo s (k + 1) := by
  intro i hi hik
  by_cases e : i = k
  · subst e; exact ha
  · exact h i hi (by omega)
theorem nmTo_end {s : ByteArray} {k : Nat} (h : NmTo s k) (hk : ¬ k < s.size) (h1 : 1 ≤ s.size) (h2 : s.size ≤ 12) : nmB s = true :=
  nmB_yes ⟨h1, h2, fun i hi _ => h i hi (by omega)⟩
theorem nm_bad {s : ByteArray} {k : Nat} (hk : k < s.size) (h : ¬ NmAt s k hk) : nmB s = false :=
  nmB_no fun H => h (H.2.2 k hk hk)
end Go.Proofs.YtmbjflhhffcjdaaDoor


/- Plain facts on digits in base 128 and on bytes; no program is named here. -/
namespace Go.Proofs.YtmbjflhhffcjdaaDoor.Pl
open Go

def varF : Nat → Nat → List Int
  | 0, n => [(n : Int)]
  | f + 1, n => if 127 < n then ((n % 128 + 128 : Nat) : Int) :: varF f (n / 128) else [(n : Int)]

theorem varF_eq : ∀ (f g n : Nat), n ≤ f → n ≤ g → varF f n = varF g n := by
  intro f
  induction f with
  | zero =>
    intro g n hf _
    cases g with
    | zero => rfl
    | succ g => simp only [varF]; rw [if_neg (by omega)]
  | succ f ih =>
    intro g n hf hg
    cases g with
    | zero => simp only [varF]; rw [if_neg (by omega)]
    | succ g =>
      simp only [varF]
      by_cases h : 127 < n
      · rw [if_pos h, if_pos h, ih g (n / 128) (by omega) (by omega)]
      · rw [if_neg h, if_neg h]

def varI (n : Nat) : List Int := varF n n

theorem varI_big {n : Nat} (h : 127 < n) : varI n = ((n % 128 + 128 : Nat) : Int) :: varI (n / 128) := by
  obtain ⟨m, rfl⟩ : ∃ m, n = m + 1 := ⟨n - 1, by omega⟩
  unfold varI
  rw [varF, if_pos h, varF_eq m ((m + 1) / 128) ((m + 1) / 128) (by omega) (Nat.le_refl _)]
theorem varI_small {n : Nat} (h : ¬ 127 < n) : varI n = [(n : Int)] := by
  unfold varI
  cases n with
  | zero => rfl
  | succ m => rw [varF, if_neg h]

theorem varI_length (n : Nat) : (varI n).length ≤ n / 128 + 1 := by
  induction n using Nat.strongRecOn with
  | ind n ih =>
    by_cases h : 127 < n
    · rw [varI_big h]; have := ih (n / 128) (by omega); simp; omega
    · rw [varI_small h]; simp

/-- what VarText of n is, as a string. -/
def varS (n : Nat) : ByteArray := strOfNums (varI n)

/-- the state of the loop that writes the digits: what is written and what is left make the whole. -/
def VarSt (N m : Nat) (xs : List Int) : Prop := xs ++ varI m = varI N ∧ m ≤ N ∧ xs.length + m / 128 ≤ N / 128

theorem varSt_start (N : Nat) : VarSt N N [] := ⟨rfl, Nat.le_refl _, by simp⟩
theorem varSt_step {N m : Nat} {xs : List Int} (h : VarSt N m xs) (hm : 127 < m) : VarSt N (m / 128) (xs ++ [(m : Int) % 128 + 128]) := by
  obtain ⟨h1, h2, h3⟩ := h
  refine ⟨?_, by omega, ?_⟩
  · rw [← h1, varI_big hm]; simp
  · simp; omega
theorem varSt_end {N m : Nat} {xs : List Int} (h : VarSt N m xs) (hm : ¬ 127 < m) : strOfNums (xs ++ [(m : Int)]) = varS N := by
  rw [varS, ← h.1, varI_small hm]

end Go.Proofs.YtmbjflhhffcjdaaDoor.Pl


/- Plain facts on reading digits in base 128 back; no program is named here. -/
namespace Go.Proofs.YtmbjflhhffcjdaaDoor.Pl
open Go Go.RowKit

/-- reads digits from the bytes: at most f of them; 'fst': none was read yet; n: what was read; sc: the next digit's weight; i: the place. -/
def rvGo : Nat → List UInt8 → Bool → Nat → Nat → Nat → Option (Nat × Nat)
  | 0, _, _, _, _, _ => none
  | _ + 1, [], _, _, _, _ => none
  | f + 1, c :: cs, fst, n, sc, i =>
    if 127 < c.toNat then rvGo f cs false (n + c.toNat % 128 * sc) (sc * 128) (i + 1)
    else if (c.toNat = 0 ∧ fst = false) ∨ 1000000000 < n + c.toNat % 128 * sc then none
    else some (n + c.toNat % 128 * sc, i + 1)

/-- what ReadVar answers at a place within the text: the number and the place behind it. -/
def rv (s : ByteArray) (A : Nat) : Option (Nat × Nat) := rvGo 5 (s.data.toList.drop A) true 0 1 A

/-- the state of the loop behind k rounds. -/
def RvSt (s : ByteArray) (A k n S : Nat) : Prop := rvGo (5 - k) (s.data.toList.drop (A + k)) (k == 0) n (S) (A + k) = rv s A

theorem rvSt_start (s : ByteArray) (A : Nat) : RvSt s A 0 0 1 := rfl

theorem drop_at (s : ByteArray) (i : Nat) (h : i < s.size) : s.data.toList.drop i = s[i] :: s.data.toList.drop (i + 1) := by
  rw [List.drop_eq_getElem_cons (by simpa using h)]; rfl

theorem rvSt_step {s : ByteArray} {A k n S : Nat} (h : RvSt s A k n S) (hk : k < 5) (hi : A + k < s.size) (hc : 127 < (s[A + k]'hi).toNat) :
    RvSt s A (k + 1) (n + (s[A + k]'hi).toNat % 128 * S) (S * 128) := by
  unfold RvSt at h ⊢
  rw [← h, drop_at s (A + k) hi]
  obtain ⟨f, hf⟩ : ∃ f, 5 - k = f + 1 := ⟨4 - k, by omega⟩
  have hf' : 5 - (k + 1) = f := by omega
  rw [hf, hf', rvGo, if_pos hc]
  simp [Nat.add_assoc]

theorem rvSt_out {s : ByteArray} {A k n S : Nat} (h : RvSt s A k n S) (hk : 5 ≤ k ∨ s.size ≤ A + k) : rv s A = none := by
  unfold RvSt at h
  rw [← h]
  rcases hk with hk | hk
  · have : 5 - k = 0 := by omega
    rw [this, rvGo]
  · rw [List.drop_eq_nil_of_le (by simpa using hk)]
    cases 5 - k <;> rfl

theorem rvSt_bad {s : ByteArray} {A k n S : Nat} (h : RvSt s A k n S) (hk : k < 5) (hi : A + k < s.size) (hc : ¬ 127 < (s[A + k]'hi).toNat)
    (hb : ((s[A + k]'hi).toNat = 0 ∧ 0 < k) ∨ 1000000000 < n + (s[A + k]'hi).toNat % 128 * S) : rv s A = none := by
  unfold RvSt at h
  rw [← h, drop_at s (A + k) hi]
  obtain ⟨f, hf⟩ : ∃ f, 5 - k = f + 1 := ⟨4 - k, by omega⟩
  rw [hf, rvGo, if_neg hc, if_pos]
  rcases hb with ⟨h1, h2⟩ | h2
  · exact .inl ⟨h1, by simp; omega⟩
  · exact .inr h2

theorem rvSt_good {s : ByteArray} {A k n S : Nat} (h : RvSt s A k n S) (hk : k < 5) (hi : A + k < s.size) (hc : ¬ 127 < (s[A + k]'hi).toNat)
    (h1 : ¬ ((s[A + k]'hi).toNat = 0 ∧ 0 < k)) (h2 : ¬ 1000000000 < n + (s[A + k]'hi).toNat % 128 * S) :
    rv s A = some (n + (s[A + k]'hi).toNat % 128 * S, A + k + 1) := by
  unfold RvSt at h
  rw [← h, drop_at s (A + k) hi]
  obtain ⟨f, hf⟩ : ∃ f, 5 - k = f + 1 := ⟨4 - k, by omega⟩
  rw [hf, rvGo, if_neg hc, if_neg]
  rintro (⟨a, b⟩ | b)
  · exact h1 ⟨a, by simp at b; omega⟩
  · exact h2 b

/-- the weight S of digit k. -/
def PowS (k S : Nat) : Prop := (k = 0 ∧ S = 1) ∨ (k = 1 ∧ S = 128) ∨ (k = 2 ∧ S = 16384) ∨ (k = 3 ∧ S = 2097152) ∨ (k = 4 ∧ S = 268435456) ∨ (k = 5 ∧ S = 34359738368)

theorem rvNext {s : ByteArray} {A k m S : Nat} (h : RvSt s A k m S) (hk : k < 5) (hi : A + k < s.size) (hc : 127 < (s[A + k]'hi).toNat) (hm : m < S) (hp : PowS k S)
    {n' sc' i' : Value} (e1 : n' = .int .i64 ((m + (s[A + k]'hi).toNat % 128 * S : Nat) : Int)) (e2 : sc' = .int .i64 ((S * 128 : Nat) : Int)) (e3 : i' = .int .i64 ((A + (k + 1) : Nat) : Int)) :
    ∃ k m S : Nat, A + k ≤ s.size ∧ n' = .int .i64 m ∧ m < S ∧ sc' = .int .i64 S ∧ i' = .int .i64 ((A + k : Nat) : Int) ∧ PowS k S ∧ Hid (RvSt s A k m S) := by
  refine ⟨k + 1, m + (s[A + k]'hi).toNat % 128 * S, S * 128, by omega, e1, ?_, e2, e3, ?_, rvSt_step h hk hi hc⟩
  · have h1 : (s[A + k]'hi).toNat % 128 * S ≤ 127 * S := Nat.mul_le_mul_right S (by omega)
    omega
  · unfold PowS at hp ⊢
    omega

/-- the answer of ReadVar as the call's results. -/
def rvT : Option (Nat × Nat) → Value
  | some (n, i) => .tuple #[.int .i64 n, .int .i64 i, .bool true]
  | none => .tuple #[.int .i64 0, .int .i64 0, .bool false]

theorem rvT_bad {s : ByteArray} {A : Nat} (h : rv s A = none) : Ending.returned (.tuple #[.int .i64 0, .int .i64 0, .bool false]) = .returned (rvT (rv s A)) := by rw [h]; rfl
theorem rvT_good {s : ByteArray} {A n i : Nat} {a b : Int} (h : rv s A = some (n, i)) (ha : a = n) (hb : b = i) : Ending.returned (.tuple #[.int .i64 a, .int .i64 b, .bool true]) = .returned (rvT (rv s A)) := by rw [h, ha, hb]; rfl

end Go.Proofs.YtmbjflhhffcjdaaDoor.Pl


/- Plain facts: digits in base 128 that were read are those that would be written, but for a last digit 0; no program is named here. -/
namespace Go.Proofs.YtmbjflhhffcjdaaDoor.Pl
open Go Go.RowKit

theorem varI_ne (n : Nat) : varI n ≠ [] := by
  by_cases h : 127 < n
  · rw [varI_big h]; simp
  · rw [varI_small h]; simp

theorem varI_mem (n : Nat) : ∀ x ∈ varI n, 0 ≤ x ∧ x < 256 := by
  induction n using Nat.strongRecOn with
  | ind n ih =>
    intro x hx
    by_cases h : 127 < n
    · rw [varI_big h] at hx
      rcases List.mem_cons.1 hx with rfl | hx
      · omega
      · exact ih (n / 128) (by omega) x hx
    · rw [varI_small h] at hx
      simp at hx
      omega

theorem varI_last (n : Nat) : ∀ xs : List Int, varI n = xs ++ [0] → xs = [] := by
  induction n using Nat.strongRecOn with
  | ind n ih =>
    intro xs hx
    by_cases h : 127 < n
    · rw [varI_big h] at hx
      cases xs with
      | nil => rfl
      | cons y ys =>
        simp only [List.cons_append, List.cons.injEq] at hx
        have := ih (n / 128) (by omega) ys hx.2
        subst this
        exfalso
        have h2 := hx.2
        by_cases h3 : 127 < n / 128
        · rw [varI_big h3] at h2
          simp at h2
          exact varI_ne _ h2.2
        · rw [varI_small h3] at h2
          simp at h2
          omega
    · rw [varI_small h] at hx
      cases xs with
      | nil => rfl
      | cons y ys => simp at hx

/-- the bytes of s from A on, k of them, as numbers. -/
def bytesI (s : ByteArray) (A k : Nat) : List Int := ((s.data.toList.drop A).take k).map fun c => (c.toNat : Int)

theorem bytesI_snoc (s : ByteArray) (A k : Nat) (h : A + k < s.size) : bytesI s A (k + 1) = bytesI s A k ++ [((s[A + k]'h).toNat : Int)] := by
  unfold bytesI
  rw [List.take_succ_eq_append_getElem (by simp; have : s.data.size = s.size := rfl; omega)]
  simp
  rfl

/-- what was read is what would be written ahead of whatever follows. -/
def Dig (s : ByteArray) (A k m S : Nat) : Prop := ∀ N : Nat, (0 < N ∨ k = 0) → varI (m + N * S) = bytesI s A k ++ varI N

theorem dig_start (s : ByteArray) (A : Nat) : Dig s A 0 0 1 := by
  intro N _
  simp [bytesI]

theorem dig_step {s : ByteArray} {A k m S : Nat} (h : Dig s A k m S) (hi : A + k < s.size) (hc : 127 < (s[A + k]'hi).toNat) :
    Dig s A (k + 1) (m + (s[A + k]'hi).toNat % 128 * S) (S * 128) := by
  intro N hN
  have hb : (s[A + k]'hi).toNat < 256 := UInt8.toNat_lt _
  have e : m + (s[A + k]'hi).toNat % 128 * S + N * (S * 128) = m + ((s[A + k]'hi).toNat % 128 + N * 128) * S := by
    rw [Nat.add_mul, Nat.add_assoc, Nat.mul_assoc N, Nat.mul_comm 128 S]
  rw [e, h _ (by omega), bytesI_snoc s A k hi, varI_big (by omega)]
  have e2 : ((s[A + k]'hi).toNat % 128 + N * 128) % 128 + 128 = (s[A + k]'hi).toNat := by omega
  have e3 : ((s[A + k]'hi).toNat % 128 + N * 128) / 128 = N := by omega
  rw [e2, e3]
  simp

theorem toBytes_bytesI (s : ByteArray) (A k : Nat) : (bytesI s A k).map (fun n => UInt8.ofNat n.toNat) = (s.data.toList.drop A).take k := by
  unfold bytesI
  rw [List.map_map]
  conv => rhs; rw [← List.map_id ((s.data.toList.drop A).take k)]
  apply List.map_congr_left
  intro c _
  simp

theorem ofBytes (xs : List Int) (h : ∀ x ∈ xs, 0 ≤ x ∧ x < 256) : (xs.map (fun n => UInt8.ofNat n.toNat)).map (fun c => (c.toNat : Int)) = xs := by
  rw [List.map_map]
  conv => rhs; rw [← List.map_id xs]
  apply List.map_congr_left
  intro x hx
  have := h x hx
  simp
  omega

theorem extract_list (s : ByteArray) (A e : Nat) : (s.extract A e).toList = (s.data.toList.drop A).take (e - A) := by
  rw [ByteArray.toList_eq, ByteArray.data_extract]
  simp [List.take_drop, Array.toList_extract]

theorem cmp_test {s : ByteArray} {A k m S c : Nat} (hd : Dig s A k m S) (hi : A + k < s.size) (hcc : (s[A + k]'hi).toNat = c) (hc : ¬ 127 < c)
    {a e : Int} (ha : a.toNat = m + c % 128 * S) (he : e.toNat = A + (k + 1)) :
    (!(varS a.toNat).toList == (s.extract A e.toNat).toList) = true ↔ (c = 0 ∧ 0 < k) := by
  have hmod : c % 128 = c := by omega
  rw [hmod] at ha
  rw [ha, he, extract_list, show A + (k + 1) - A = k + 1 from by omega, ByteArray.toList_eq]
  have hv : (varS (m + c * S)).data.toList = (varI (m + c * S)).map (fun n => UInt8.ofNat n.toNat) := rfl
  rw [hv]
  constructor
  · intro ht
    refine Classical.byContradiction fun hn => ?_
    have h1 := hd c (by omega)
    rw [varI_small hc] at h1
    have h2 := bytesI_snoc s A k hi
    rw [hcc] at h2
    rw [h1, ← h2, toBytes_bytesI] at ht
    simp at ht
  · rintro ⟨rfl, hk⟩
    simp only [Bool.not_eq_true', beq_eq_false_iff_ne, ne_eq]
    intro heq
    rw [← toBytes_bytesI] at heq
    have h3 := congrArg (List.map (fun c : UInt8 => (c.toNat : Int))) heq
    rw [ofBytes _ (varI_mem _), ofBytes _ (by
      intro x hx
      unfold bytesI at hx
      obtain ⟨b, _, rfl⟩ := List.mem_map.1 hx
      have : b.toNat < 256 := UInt8.toNat_lt b
      omega), bytesI_snoc s A k hi, hcc] at h3
    have h4 := varI_last _ _ h3
    have h5 : (bytesI s A k).length = k := by
      unfold bytesI
      have : s.data.size = s.size := rfl
      simp
      omega
    rw [h4] at h5
    simp at h5
    omega

theorem cmp_test_no {s : ByteArray} {A k m S c : Nat} (hd : Dig s A k m S) (hi : A + k < s.size) (hcc : (s[A + k]'hi).toNat = c) (hc : ¬ 127 < c)
    {a e : Int} (ha : a.toNat = m + c % 128 * S) (he : e.toNat = A + (k + 1)) (ht : (!(varS a.toNat).toList == (s.extract A e.toNat).toList) = false) : ¬ (c = 0 ∧ 0 < k) := by
  intro h
  have h2 := (cmp_test hd hi hcc hc ha he).2 h
  rw [ht] at h2
  cases h2

theorem digNext {s : ByteArray} {A k m S : Nat} (h : RvSt s A k m S) (hdg : Dig s A k m S) (hk : k < 5) (hi : A + k < s.size) (hc : 127 < (s[A + k]'hi).toNat) (hm : m < S) (hp : PowS k S)
    {n' sc' i' : Value} (e1 : n' = .int .i64 ((m + (s[A + k]'hi).toNat % 128 * S : Nat) : Int)) (e2 : sc' = .int .i64 ((S * 128 : Nat) : Int)) (e3 : i' = .int .i64 ((A + (k + 1) : Nat) : Int)) :
    ∃ k m S : Nat, A + k ≤ s.size ∧ n' = .int .i64 m ∧ m < S ∧ sc' = .int .i64 S ∧ i' = .int .i64 ((A + k : Nat) : Int) ∧ PowS k S ∧ Hid (RvSt s A k m S) ∧ Hid (Dig s A k m S) := by
  refine ⟨k + 1, m + (s[A + k]'hi).toNat % 128 * S, S * 128, by omega, e1, ?_, e2, e3, ?_, rvSt_step h hk hi hc, dig_step hdg hi hc⟩
  · have h1 : (s[A + k]'hi).toNat % 128 * S ≤ 127 * S := Nat.mul_le_mul_right S (by omega)
    omega
  · unfold PowS at hp ⊢
    omega

end Go.Proofs.YtmbjflhhffcjdaaDoor.Pl


/- Round trips, in plain words: what VarText writes is read back; no program is named here. -/
namespace Go.Proofs.YtmbjflhhffcjdaaDoor.Pl
open Go Go.RowKit
set_option linter.unusedVariables false

theorem rt_ext {a b : ByteArray} (h : a.data.toList = b.data.toList) : a = b := ByteArray.ext (Array.ext' h)
theorem rt_size (s : ByteArray) : s.size = s.data.toList.length := rfl

/-- the bytes that stand for n in base 128. -/
def varL (n : Nat) : List UInt8 := (varI n).map fun z => UInt8.ofNat z.toNat
theorem varS_list (n : Nat) : (varS n).data.toList = varL n := rfl
theorem varL_big {n : Nat} (h : 127 < n) : varL n = UInt8.ofNat (n % 128 + 128) :: varL (n / 128) := by
  unfold varL
  rw [varI_big h, List.map_cons, Int.toNat_natCast]
theorem varL_small {n : Nat} (h : ¬ 127 < n) : varL n = [UInt8.ofNat n] := by
  unfold varL
  rw [varI_small h, List.map_cons, Int.toNat_natCast, List.map_nil]

theorem u8_nat {n : Nat} (h : n < 256) : (UInt8.ofNat n).toNat = n := by
  rw [UInt8.toNat_ofNat']; omega

theorem rvGo_var : ∀ (n f acc sc i : Nat) (fst : Bool) (rest : List UInt8), (varL n).length ≤ f → (n ≠ 0 ∨ fst = true) → acc + n * sc ≤ 1000000000 →
    rvGo f (varL n ++ rest) fst acc sc i = some (acc + n * sc, i + (varL n).length) := by
  intro n
  induction n using Nat.strongRecOn with
  | ind n ih =>
    intro f acc sc i fst rest hf hn ha
    by_cases h : 127 < n
    · rw [varL_big h] at hf ⊢
      simp only [List.length_cons] at hf
      obtain ⟨g, rfl⟩ : ∃ g, f = g + 1 := ⟨f - 1, by omega⟩
      rw [List.cons_append, rvGo, u8_nat (by omega), if_pos (by omega)]
      have e1 : (n % 128 + 128) % 128 = n % 128 := by omega
      have e2 : acc + n % 128 * sc + n / 128 * (sc * 128) = acc + n * sc := by
        have h1 : n / 128 * (sc * 128) = (128 * (n / 128)) * sc := by rw [Nat.mul_comm sc 128, ← Nat.mul_assoc, Nat.mul_comm (n / 128) 128]
        rw [h1, Nat.add_assoc, ← Nat.add_mul, Nat.mod_add_div]
      rw [e1, ih (n / 128) (by omega) g _ _ _ false rest (by omega) (.inl (by omega)) (by rw [e2]; exact ha), e2]
      simp only [List.length_cons]
      rw [Nat.add_assoc, Nat.add_comm 1]
    · rw [varL_small h] at hf ⊢
      simp only [List.length_cons, List.length_nil] at hf
      obtain ⟨g, rfl⟩ : ∃ g, f = g + 1 := ⟨f - 1, by omega⟩
      have e1 : n % 128 = n := by omega
      rw [List.cons_append, rvGo, u8_nat (by omega), if_neg h, e1, if_neg]
      · rfl
      · rintro (⟨a, b⟩ | b)
        · rcases hn with hn | hn
          · exact hn a
          · rw [hn] at b; cases b
        · omega

theorem varL_len {n : Nat} (h : n ≤ 1000000000) : (varL n).length ≤ 5 := by
  by_cases h1 : 127 < n
  · rw [varL_big h1]
    by_cases h2 : 127 < n / 128
    · rw [varL_big h2]
      by_cases h3 : 127 < n / 128 / 128
      · rw [varL_big h3]
        by_cases h4 : 127 < n / 128 / 128 / 128
        · rw [varL_big h4, varL_small (by omega)]; simp
        · rw [varL_small h4]; simp
      · rw [varL_small h3]; simp
    · rw [varL_small h2]; simp
  · rw [varL_small h1]; simp

/-- what stands behind p is read. -/
theorem rv_var {s : ByteArray} {p q : List UInt8} {n : Nat} (h : n ≤ 1000000000) (hs : s.data.toList = p ++ (varL n ++ q)) : rv s p.length = some (n, p.length + (varL n).length) := by
  unfold rv
  rw [hs, List.drop_left, rvGo_var n 5 0 1 p.length true q (varL_len h) (.inr rfl) (by omega)]
  simp

end Go.Proofs.YtmbjflhhffcjdaaDoor.Pl


/- Packets in plain words: what a reader finds at a place (stage 5's, without items). -/
namespace Go.Proofs.YtmbjflhhffcjdaaDoor.Pl
open Go Go.RowKit
set_option linter.unusedVariables false

theorem rvGo_inv : ∀ (f : Nat) (l : List UInt8) (fst : Bool) (n sc i m j : Nat), rvGo f l fst n sc i = some (m, j) →
    ∃ (d : Nat) (q : List UInt8), l = varL d ++ q ∧ m = n + d * sc ∧ j = i + (varL d).length ∧ (d ≠ 0 ∨ fst = true) ∧ m ≤ 1000000000 := by
  intro f
  induction f with
  | zero => intro l fst n sc i m j h; simp [rvGo] at h
  | succ f ih =>
    intro l fst n sc i m j h
    cases l with
    | nil => simp [rvGo] at h
    | cons c cs =>
      rw [rvGo] at h
      have hc : c.toNat < 256 := UInt8.toNat_lt c
      by_cases h1 : 127 < c.toNat
      · rw [if_pos h1] at h
        obtain ⟨d, q, rfl, hm, hj, hd, hle⟩ := ih _ _ _ _ _ _ _ h
        have hd0 : d ≠ 0 := by
          rcases hd with hd | hd
          · exact hd
          · cases hd
        have hb : 127 < c.toNat % 128 + 128 * d := by omega
        have e1 : (c.toNat % 128 + 128 * d) % 128 = c.toNat % 128 := by omega
        have e2 : (c.toNat % 128 + 128 * d) / 128 = d := by omega
        refine ⟨c.toNat % 128 + 128 * d, q, ?_, ?_, ?_, .inl (by omega), hle⟩
        · rw [varL_big hb, e1, e2, show c.toNat % 128 + 128 = c.toNat by omega, UInt8.ofNat_toNat]; rfl
        · rw [hm, Nat.add_mul, Nat.mul_comm sc 128, ← Nat.mul_assoc, Nat.mul_comm d 128, Nat.add_assoc]
        · rw [hj, varL_big hb, e2, List.length_cons]; omega
      · rw [if_neg h1] at h
        by_cases h2 : (c.toNat = 0 ∧ fst = false) ∨ 1000000000 < n + c.toNat % 128 * sc
        · rw [if_pos h2] at h
          cases h
        · rw [if_neg h2] at h
          simp only [Option.some.injEq, Prod.mk.injEq] at h
          obtain ⟨rfl, rfl⟩ := h
          refine ⟨c.toNat, cs, ?_, ?_, ?_, ?_, Nat.le_of_not_lt fun h3 => h2 (.inr h3)⟩
          · rw [varL_small h1, UInt8.ofNat_toNat]; rfl
          · rw [Nat.mod_eq_of_lt (by omega)]
          · rw [varL_small h1]; rfl
          · by_cases h3 : c.toNat = 0
            · right
              cases fst with
              | true => rfl
              | false => exact absurd (.inl ⟨h3, rfl⟩) h2
            · exact .inl h3

/-- up to the place A the text is p. -/
def Upto (s : ByteArray) (A : Nat) (p : List UInt8) : Prop := ∃ q, s.data.toList = p ++ q ∧ p.length = A

theorem upto_start (s : ByteArray) : Upto s 0 [] := ⟨_, rfl, rfl⟩
theorem Upto.le {s : ByteArray} {A : Nat} {p : List UInt8} (h : Upto s A p) : A ≤ s.size := by
  obtain ⟨q, h1, h2⟩ := h
  rw [rt_size, h1, List.length_append]; omega
theorem Upto.whole {s : ByteArray} {p : List UInt8} (h : Upto s s.size p) : s.data.toList = p := by
  obtain ⟨q, h1, h2⟩ := h
  have h3 : p.length = p.length + q.length := by
    rw [← List.length_append, ← h1, h2, rt_size]
  have h4 : q = [] := List.eq_nil_of_length_eq_zero (by omega)
  rw [h1, h4, List.append_nil]
theorem Upto.rv {s : ByteArray} {A n i : Nat} {p : List UInt8} (h : Upto s A p) (hr : rv s A = some (n, i)) : Upto s i (p ++ varL n) ∧ n ≤ 1000000000 := by
  obtain ⟨q, h1, h2⟩ := h
  unfold Pl.rv at hr
  rw [h1, ← h2, List.drop_left] at hr
  obtain ⟨d, q', h3, h4, h5, _, h6⟩ := rvGo_inv _ _ _ _ _ _ _ _ hr
  have e : d = n := by omega
  subst e
  exact ⟨⟨q', by rw [h1, h3, List.append_assoc], by rw [h5, List.length_append]⟩, h6⟩

theorem rv_le {s : ByteArray} {A n i : Nat} (hA : A ≤ s.size) (h : rv s A = some (n, i)) : n ≤ 1000000000 ∧ i ≤ s.size := by
  have hu : Upto s A (s.data.toList.take A) := ⟨s.data.toList.drop A, (List.take_append_drop _ _).symm, by rw [List.length_take, ← rt_size]; omega⟩
  obtain ⟨h1, h2⟩ := hu.rv h
  exact ⟨h2, h1.le⟩

/-- one byte at the place A. -/
def oneP (s : ByteArray) (A : Nat) : Option (Nat × Nat) := if h : A < s.size then some ((s[A]'h).toNat, A + 1) else none
theorem oneP_some {s : ByteArray} {A : Nat} (h : A < s.size) : oneP s A = some ((s[A]'h).toNat, A + 1) := dif_pos h
theorem oneP_none {s : ByteArray} {A : Nat} (h : ¬ A < s.size) : oneP s A = none := dif_neg h
theorem Upto.one {s : ByteArray} {A n i : Nat} {p : List UInt8} (h : Upto s A p) (hr : oneP s A = some (n, i)) : Upto s i (p ++ [UInt8.ofNat n]) ∧ n < 256 := by
  by_cases hA : A < s.size
  · rw [oneP_some hA] at hr
    simp only [Option.some.injEq, Prod.mk.injEq] at hr
    obtain ⟨rfl, rfl⟩ := hr
    obtain ⟨q, h1, h2⟩ := h
    subst h2
    have h3 := drop_at s p.length hA
    rw [h1, List.drop_left] at h3
    refine ⟨⟨(p ++ q).drop (p.length + 1), ?_, by rw [List.length_append]; rfl⟩, UInt8.toNat_lt _⟩
    rw [h1, UInt8.ofNat_toNat, List.append_assoc]
    exact congrArg (p ++ ·) h3
  · rw [oneP_none hA] at hr
    cases hr
theorem oneP_of {s : ByteArray} {p q : List UInt8} {n : Nat} (h : n < 256) (hs : s.data.toList = p ++ (UInt8.ofNat n :: q)) : oneP s p.length = some (n, p.length + 1) := by
  have hA : p.length < s.size := by rw [rt_size, hs, List.length_append, List.length_cons]; omega
  have h3 := drop_at s p.length hA
  rw [hs, List.drop_left] at h3
  simp only [List.cons.injEq] at h3
  rw [oneP_some hA, ← h3.1, u8_nat h]

/-- a short text at the place A. -/
def shP (s : ByteArray) (A : Nat) : Option (ByteArray × Nat) := (rv s A).bind fun x => if x.1 ≤ 20000 ∧ x.2 + x.1 ≤ s.size then some (s.extract x.2 (x.2 + x.1), x.2 + x.1) else none
theorem ext_list' (s : ByteArray) (A e : Nat) : (s.extract A e).data.toList = (s.data.toList.drop A).take (e - A) := by
  rw [ByteArray.data_extract, Array.toList_extract, List.extract_eq_take_drop]
theorem shP_some {s : ByteArray} {A n i : Nat} (h : rv s A = some (n, i)) (h1 : n ≤ 20000) (h2 : i + n ≤ s.size) : shP s A = some (s.extract i (i + n), i + n) := by
  unfold shP; rw [h, Option.bind_some, if_pos ⟨h1, h2⟩]
theorem shP_none {s : ByteArray} {A : Nat} (h : rv s A = none) : shP s A = none := by unfold shP; rw [h]; rfl
theorem shP_bad {s : ByteArray} {A n i : Nat} (h : rv s A = some (n, i)) (h1 : 20000 < n ∨ s.size < i + n) : shP s A = none := by
  unfold shP; rw [h, Option.bind_some, if_neg (by show ¬ (n ≤ 20000 ∧ i + n ≤ s.size); omega)]
theorem Upto.sh {s t : ByteArray} {A i : Nat} {p : List UInt8} (h : Upto s A p) (hr : shP s A = some (t, i)) : Upto s i (p ++ (varL t.size ++ t.data.toList)) ∧ t.size ≤ 20000 := by
  rcases h0 : Pl.rv s A with _ | ⟨n, k⟩
  · rw [shP_none h0] at hr; cases hr
  · by_cases hb : n ≤ 20000 ∧ k + n ≤ s.size
    · rw [shP_some h0 hb.1 hb.2] at hr
      simp only [Option.some.injEq, Prod.mk.injEq] at hr
      obtain ⟨rfl, rfl⟩ := hr
      obtain ⟨⟨q, h1, h2⟩, _⟩ := h.rv h0
      have es : (s.extract k (k + n)).size = n := by rw [ByteArray.size_extract]; omega
      rw [es]
      have el : (s.extract k (k + n)).data.toList = q.take n := by
        rw [ext_list', h1, ← h2, List.drop_left]
        congr 1
        omega
      have hq : n ≤ q.length := by
        have : s.size = (p ++ varL n).length + q.length := by rw [rt_size, h1, List.length_append]
        omega
      rw [el]
      refine ⟨⟨q.drop n, ?_, ?_⟩, by omega⟩
      · rw [← List.append_assoc, List.append_assoc (p ++ varL n), List.take_append_drop, h1]
      · rw [← List.append_assoc, List.length_append, h2, List.length_take]; omega
    · rw [shP_bad h0 (by omega)] at hr; cases hr
theorem shP_of {s t : ByteArray} {p q : List UInt8} (h : t.size ≤ 20000) (hs : s.data.toList = p ++ (varL t.size ++ (t.data.toList ++ q))) :
    rv s p.length = some (t.size, p.length + (varL t.size).length) ∧ s.extract (p.length + (varL t.size).length) (p.length + (varL t.size).length + t.size) = t ∧ p.length + (varL t.size).length + t.size ≤ s.size := by
  have h1 := rv_var (n := t.size) (by omega) hs
  refine ⟨h1, ?_, ?_⟩
  · apply rt_ext
    rw [ext_list', hs, ← List.append_assoc, ← List.length_append, List.drop_left]
    rw [show (p ++ varL t.size).length + t.size - (p ++ varL t.size).length = t.data.toList.length by rw [← rt_size]; omega, List.take_left]
  · rw [rt_size s, hs]
    simp only [List.length_append]
    rw [← rt_size t]
    omega

def byteS (n : Nat) : ByteArray := strOfNums [(n : Int)]
theorem byteS_list (n : Nat) : (byteS n).data.toList = [UInt8.ofNat n] := by
  show [UInt8.ofNat ((n : Int)).toNat] = _
  rw [Int.toNat_natCast]
theorem app_list (a b : ByteArray) : (a ++ b).data.toList = a.data.toList ++ b.data.toList := by
  rw [ByteArray.data_append, Array.toList_append]
end Go.Proofs.YtmbjflhhffcjdaaDoor.Pl


