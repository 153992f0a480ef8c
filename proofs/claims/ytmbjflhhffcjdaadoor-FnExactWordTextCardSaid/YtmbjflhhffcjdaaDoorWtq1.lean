/- Joined texts: CNm CTk CPlain CRv CDig CRt CPk. -/
import Derived.WalkKit
import Derived.Laws.RangeAny
/- Names in plain words: when a text is a name, and that a byte above 127 makes a rune that is neither a letter nor a figure. -/
namespace Go.Proofs.YtmbjflhhffcjdaaDoor
open Go.RowKit
set_option linter.unusedVariables false

/-- The byte at k is as a name wants it there. -/
def NmAt (s : ByteArray) (k : Nat) (h : k < s.size) : Prop :=
  (97 ≤ (s[k]'h).toNat ∧ (s[k]'h).toNat ≤ 122) ∨ (0 < k ∧ 48 ≤ (s[k]'h).toNat ∧ (s[k]'h).toNat ≤ 57)

/-- The bytes ahead of k are as a name wants them. -/
def NmTo (s : ByteArray) (k : Nat) : Prop := ∀ i (h : i < s.size), i < k → NmAt s i h

/-- A name. -/
def NmOk (s : ByteArray) : Prop := 1 ≤ s.size ∧ s.size ≤ 12 ∧ NmTo s s.size

def nmDec (s : ByteArray) : Decidable (NmOk s) := by
  unfold NmOk NmTo NmAt
  exact inferInstance
def nmB (s : ByteArray) : Bool := @decide (NmOk s) (nmDec s)

theorem nmB_yes {s : ByteArray} (h : NmOk s) : nmB s = true := by simp [nmB, h]
theorem nmB_no {s : ByteArray} (h : ¬ NmOk s) : nmB s = false := by simp [nmB, h]
theorem nmB_iff {s : ByteArray} : nmB s = true ↔ NmOk s := by simp [nmB]

theorem nmTo_zero (s : ByteArray) : NmTo s 0 := fun i h hi => absurd hi (by omega)
theorem nmTo_step {s : ByteArray} {k : Nat} (h : NmTo s k) (hk : k < s.size) (ha : NmAt s k hk) : NmTo s (k + 1) := by
  intro i hi hik
  by_cases e : i = k
  · subst e; exact ha
  · exact h i hi (by omega)
theorem nmTo_end {s : ByteArray} {k : Nat} (h : NmTo s k) (hk : ¬ k < s.size) (h1 : 1 ≤ s.size) (h2 : s.size ≤ 12) : nmB s = true :=
  nmB_yes ⟨h1, h2, fun i hi _ => h i hi (by omega)⟩
theorem nm_bad {s : ByteArray} {k : Nat} (hk : k < s.size) (h : ¬ NmAt s k hk) : nmB s = false :=
  nmB_no fun H => h (H.2.2 k hk hk)
end Go.Proofs.YtmbjflhhffcjdaaDoor


/- Right tokens in plain words. No program is named here. -/
namespace Go.Proofs.YtmbjflhhffcjdaaDoor.Pl
open Go Go.RowKit
set_option linter.unusedVariables false

/-- whether the wants ascend from behind 'last' up to q. -/
def wGo (last q : Int) : List Int → Bool
  | [] => true
  | x :: xs => if x ≤ last ∨ q < x then false else wGo x q xs
def wB (ws : List Int) (q : Int) : Bool := decide ((ws.length : Int) ≤ 20) && wGo 0 q ws
/-- whether a token is right. -/
def tkB (c r q a b : Int) (ws : List Int) : Bool :=
  decide (1 ≤ c ∧ c ≤ 9) && (decide (1 ≤ r ∧ r ≤ 1000000000) && (decide (0 ≤ q ∧ q ≤ 60) && (decide (0 ≤ a ∧ a ≤ q) && (decide (0 ≤ b ∧ b ≤ 5) && wB ws q))))

/-- the state of a loop over the wants: 'last' is the last one that was met. -/
def WSt (ws : List Int) (q : Int) (k : Nat) (L : Int) : Prop := wGo L q (ws.drop k) = wGo 0 q ws ∧ 0 ≤ L ∧ (k = 0 → L = 0) ∧ ∀ j (h : j < ws.length), k = j + 1 → L = ws[j]
end Go.Proofs.YtmbjflhhffcjdaaDoor.Pl


/- Plain facts on digits in base 128 and on bytes; no program is named here. -/
namespace Go.Proofs.YtmbjflhhffcjdaaDoor.Pl
open Go

def varF : Nat → Nat → List Int
  | 0, n => [(n : Int)]
  | f + 1, n => if 127 < n then ((n % 128 + 128 : Nat) : Int) :: varF f (n / 128) else [(n : Int)]

theorem varF_eq : ∀ (f g n : Nat), n ≤ f → n ≤ g → varF f n = varF g n := by
  intro f
  induction f with
  | zero =>
    intro g n hf _
    cases g with
    | zero => rfl
    | succ g => simp only [varF]; rw [if_neg (by omega)]
  | succ f ih =>
    intro g n hf hg
    cases g with
    | zero => simp only [varF]; rw [if_neg (by omega)]
    | succ g =>
      simp only [varF]
      by_cases h : 127 < n
      · rw [if_pos h, if_pos h, ih g (n / 128) (by omega) (by omega)]
      · rw [if_neg h, if_neg h]

def varI (n : Nat) : List Int := varF n n

theorem varI_big {n : Nat} (h : 127 < n) : varI n = ((n % 128 + 128 : Nat) : Int) :: varI (n / 128) := by
  obtain ⟨m, rfl⟩ : ∃ m, n = m + 1 := ⟨n - 1, by omega⟩
  unfold varI
  rw [varF, if_pos h, varF_eq m ((m + 1) / 128) ((m + 1) / 128) (by omega) (Nat.le_refl _)]
theorem varI_small {n : Nat} (h : ¬ 127 < n) : varI n = [(n : Int)] := by
  unfold varI
  cases n with
  | zero => rfl
  | succ m => rw [varF, if_neg h]

theorem varI_length (n : Nat) : (varI n).length ≤ n / 128 + 1 := by
  induction n using Nat.strongRecOn with
  | ind n ih =>
    by_cases h : 127 < n
    · rw [varI_big h]; have := ih (n / 128) (by omega); simp; omega
    · rw [varI_small h]; simp

/-- what VarText of n is, as a string. -/
def varS (n : Nat) : ByteArray := strOfNums (varI n)

/-- the state of the loop that writes the digits: what is written and what is left make the whole. -/
def VarSt (N m : Nat) (xs : List Int) : Prop := xs ++ varI m = varI N ∧ m ≤ N ∧ xs.length + m / 128 ≤ N / 128

theorem varSt_start (N : Nat) : VarSt N N [] := ⟨rfl, Nat.le_refl _, by simp⟩
theorem varSt_step {N m : Nat} {xs : List Int} (h : VarSt N m xs) (hm : 127 < m) : VarSt N (m / 128) (xs ++ [(m : Int) % 128 + 128]) := by
  obtain ⟨h1, h2, h3⟩ := h
  refine ⟨?_, by omega, ?_⟩
  · rw [← h1, varI_big hm]; simp
  · simp; omega
theorem varSt_end {N m : Nat} {xs : List Int} (h : VarSt N m xs) (hm : ¬ 127 < m) : strOfNums (xs ++ [(m : Int)]) = varS N := by
  rw [varS, ← h.1, varI_small hm]

end Go.Proofs.YtmbjflhhffcjdaaDoor.Pl


/- Plain facts on reading digits in base 128 back; no program is named here. -/
namespace Go.Proofs.YtmbjflhhffcjdaaDoor.Pl
open Go Go.RowKit

/-- reads digits from the bytes: at most f of them; 'fst': none was read yet; n: what was read; sc: the next digit's weight; i: the place. -/
def rvGo : Nat → List UInt8 → Bool → Nat → Nat → Nat → Option (Nat × Nat)
  | 0, _, _, _, _, _ => none
  | _ + 1, [], _, _, _, _ => none
  | f + 1, c :: cs, fst, n, sc, i =>
    if 127 < c.toNat then rvGo f cs false (n + c.toNat % 128 * sc) (sc * 128) (i + 1)
    else if (c.toNat = 0 ∧ fst = false) ∨ 1000000000 < n + c.toNat % 128 * sc then none
    else some (n + c.toNat % 128 * sc, i + 1)

/-- what ReadVar answers at a place within the text: the number and the place behind it. -/
def rv (s : ByteArray) (A : Nat) : Option (Nat × Nat) := rvGo 5 (s.data.toList.drop A) true 0 1 A

/-- the state of the loop behind k rounds. -/
def RvSt (s : ByteArray) (A k n S : Nat) : Prop := rvGo (5 - k) (s.data.toList.drop (A + k)) (k == 0) n (S) (A + k) = rv s A

/-- the weight S of digit k. -/
def PowS (k S : Nat) : Prop := (k = 0 ∧ S = 1) ∨ (k = 1 ∧ S = 128) ∨ (k = 2 ∧ S = 16384) ∨ (k = 3 ∧ S = 2097152) ∨ (k = 4 ∧ S = 268435456) ∨ (k = 5 ∧ S = 34359738368)

/-- the answer of ReadVar as the call's results. -/
def rvT : Option (Nat × Nat) → Value
  | some (n, i) => .tuple #[.int .i64 n, .int .i64 i, .bool true]
  | none => .tuple #[.int .i64 0, .int .i64 0, .bool false]

end Go.Proofs.YtmbjflhhffcjdaaDoor.Pl


/- Plain facts: digits in base 128 that were read are those that would be written, but for a last digit 0; no program is named here. -/
namespace Go.Proofs.YtmbjflhhffcjdaaDoor.Pl
open Go Go.RowKit

/-- the bytes of s from A on, k of them, as numbers. -/
def bytesI (s : ByteArray) (A k : Nat) : List Int := ((s.data.toList.drop A).take k).map fun c => (c.toNat : Int)

/-- what was read is what would be written ahead of whatever follows. -/
def Dig (s : ByteArray) (A k m S : Nat) : Prop := ∀ N : Nat, (0 < N ∨ k = 0) → varI (m + N * S) = bytesI s A k ++ varI N

theorem extract_list (s : ByteArray) (A e : Nat) : (s.extract A e).toList = (s.data.toList.drop A).take (e - A) := by
  rw [ByteArray.toList_eq, ByteArray.data_extract]
  simp [List.take_drop, Array.toList_extract]

end Go.Proofs.YtmbjflhhffcjdaaDoor.Pl


/- Round trips, in plain words: what VarText writes is read back; no program is named here. -/
namespace Go.Proofs.YtmbjflhhffcjdaaDoor.Pl
open Go Go.RowKit
set_option linter.unusedVariables false

theorem rt_ext {a b : ByteArray} (h : a.data.toList = b.data.toList) : a = b := ByteArray.ext (Array.ext' h)
theorem rt_size (s : ByteArray) : s.size = s.data.toList.length := rfl

/-- the bytes that stand for n in base 128. -/
def varL (n : Nat) : List UInt8 := (varI n).map fun z => UInt8.ofNat z.toNat
theorem varS_list (n : Nat) : (varS n).data.toList = varL n := rfl
theorem varL_big {n : Nat} (h : 127 < n) : varL n = UInt8.ofNat (n % 128 + 128) :: varL (n / 128) := by
  unfold varL
  rw [varI_big h, List.map_cons, Int.toNat_natCast]
theorem varL_small {n : Nat} (h : ¬ 127 < n) : varL n = [UInt8.ofNat n] := by
  unfold varL
  rw [varI_small h, List.map_cons, Int.toNat_natCast, List.map_nil]

theorem varL_len {n : Nat} (h : n ≤ 1000000000) : (varL n).length ≤ 5 := by
  by_cases h1 : 127 < n
  · rw [varL_big h1]
    by_cases h2 : 127 < n / 128
    · rw [varL_big h2]
      by_cases h3 : 127 < n / 128 / 128
      · rw [varL_big h3]
        by_cases h4 : 127 < n / 128 / 128 / 128
        · rw [varL_big h4, varL_small (by omega)]; simp
        · rw [varL_small h4]; simp
      · rw [varL_small h3]; simp
    · rw [varL_small h2]; simp
  · rw [varL_small h1]; simp

end Go.Proofs.YtmbjflhhffcjdaaDoor.Pl


/- Packets in plain words: what a reader finds at a place (stage 5's, without items). -/
namespace Go.Proofs.YtmbjflhhffcjdaaDoor.Pl
open Go Go.RowKit
set_option linter.unusedVariables false

/-- up to the place A the text is p. -/
def Upto (s : ByteArray) (A : Nat) (p : List UInt8) : Prop := ∃ q, s.data.toList = p ++ q ∧ p.length = A

theorem Upto.whole {s : ByteArray} {p : List UInt8} (h : Upto s s.size p) : s.data.toList = p := by
  obtain ⟨q, h1, h2⟩ := h
  have h3 : p.length = p.length + q.length := by
    rw [← List.length_append, ← h1, h2, rt_size]
  have h4 : q = [] := List.eq_nil_of_length_eq_zero (by omega)
  rw [h1, h4, List.append_nil]
/-- one byte at the place A. -/
def oneP (s : ByteArray) (A : Nat) : Option (Nat × Nat) := if h : A < s.size then some ((s[A]'h).toNat, A + 1) else none
/-- a short text at the place A. -/
def shP (s : ByteArray) (A : Nat) : Option (ByteArray × Nat) := (rv s A).bind fun x => if x.1 ≤ 20000 ∧ x.2 + x.1 ≤ s.size then some (s.extract x.2 (x.2 + x.1), x.2 + x.1) else none
def byteS (n : Nat) : ByteArray := strOfNums [(n : Int)]
theorem byteS_list (n : Nat) : (byteS n).data.toList = [UInt8.ofNat n] := by
  show [UInt8.ofNat ((n : Int)).toNat] = _
  rw [Int.toNat_natCast]
theorem app_list (a b : ByteArray) : (a ++ b).data.toList = a.data.toList ++ b.data.toList := by
  rw [ByteArray.data_append, Array.toList_append]
end Go.Proofs.YtmbjflhhffcjdaaDoor.Pl


