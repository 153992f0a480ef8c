/- Joined texts: Sum. -/
import Derived.Laws.BitsAllLaws
/- Check sums of 32 bits as numbers: the halving, four of them at once by a table, a byte taken in; that each step loses nothing. No program is named here. -/
namespace Go.Proofs.YtlflcjdpdbdbkaaDoor.Pl
open Go

def poly : Nat := 3558460437
/-- half of a number, turned by the constant when it was odd. -/
def half (x : Nat) : Nat := if x % 2 = 1 then x / 2 ^^^ poly else x / 2
def halves : Nat → Nat → Nat
  | 0, x => x
  | k + 1, x => halves k (half x)
/-- a sum with one byte more. -/
def stepS (s b : Nat) : Nat := halves 8 (s ^^^ b)
/-- a sum with more bytes. -/
def sumL (s : Nat) (l : List UInt8) : Nat := l.foldl (fun s c => stepS s c.toNat) s

theorem half_lt {x : Nat} (h : x < 4294967296) : half x < 4294967296 := by
  unfold half
  split
  · have : x / 2 ^^^ poly < 2 ^ 32 := Nat.xor_lt_two_pow (by omega) (by decide)
    omega
  · omega

theorem halves_lt : ∀ (k : Nat) {x : Nat}, x < 4294967296 → halves k x < 4294967296
  | 0, _, h => h
  | k + 1, _, h => halves_lt k (half_lt h)

theorem halves_succ : ∀ (k x : Nat), halves (k + 1) x = half (halves k x)
  | 0, _ => rfl
  | k + 1, x => by rw [halves, halves_succ k (half x)]; rfl

theorem halves_add : ∀ (j k x : Nat), halves (j + k) x = halves k (halves j x)
  | 0, k, x => by rw [Nat.zero_add]; rfl
  | j + 1, k, x => by rw [Nat.add_right_comm, halves, halves_add j k (half x)]; rfl

theorem xor_lt32 {x b : Nat} (h : x < 4294967296) (hb : b < 4294967296) : x ^^^ b < 4294967296 := by
  have : x ^^^ b < 2 ^ 32 := Nat.xor_lt_two_pow (by omega) (by omega)
  omega

theorem stepS_lt {s b : Nat} (h : s < 4294967296) (hb : b < 256) : stepS s b < 4294967296 := halves_lt 8 (xor_lt32 h (by omega))

theorem sumL_lt : ∀ (l : List UInt8) {s : Nat}, s < 4294967296 → sumL s l < 4294967296
  | [], _, h => h
  | c :: l, _, h => sumL_lt l (stepS_lt h c.toNat_lt)

theorem sumL_append (s : Nat) (l m : List UInt8) : sumL s (l ++ m) = sumL (sumL s l) m := by simp [sumL]

/-! the halving takes an exclusive-or apart. -/
theorem half_eq (x : Nat) : half x = x / 2 ^^^ (if x.testBit 0 then poly else 0) := by
  unfold half
  rw [Nat.testBit_zero]
  by_cases h : x % 2 = 1 <;> simp [h]

theorem half_xor (x y : Nat) : half (x ^^^ y) = half x ^^^ half y := by
  rw [half_eq, half_eq, half_eq, Nat.testBit_xor]
  have hd : (x ^^^ y) / 2 = x / 2 ^^^ y / 2 := by
    have := Nat.shiftRight_xor_distrib (a := x) (b := y) (i := 1)
    simpa [Nat.shiftRight_eq_div_pow] using this
  rw [hd]
  cases hx : x.testBit 0 <;> cases hy : y.testBit 0 <;> simp
  · rw [Nat.xor_assoc]
  · rw [Nat.xor_assoc, Nat.xor_assoc, Nat.xor_comm (y / 2)]
  · rw [Nat.xor_assoc, Nat.xor_comm poly, Nat.xor_assoc, Nat.xor_self, Nat.xor_zero]

theorem halves_xor : ∀ (k x y : Nat), halves k (x ^^^ y) = halves k x ^^^ halves k y
  | 0, _, _ => rfl
  | k + 1, x, y => by rw [halves, half_xor, halves_xor k]; rfl

def tab4 : List Nat := [0, 1166650509, 2333301018, 3466261911, 3189058079, 4221339282, 889615109, 1888477064, 3558460437, 2442158232, 1594529039, 444807554, 1779230218, 797264519, 3776954128, 2761298845]

theorem half_dbl (k : Nat) : half (2 * k) = k := by
  unfold half
  rw [if_neg (by omega)]; omega

theorem halves4_16 (k : Nat) : halves 4 (16 * k) = k := by
  have e : 16 * k = 2 * (2 * (2 * (2 * k))) := by omega
  rw [e]
  simp only [halves, half_dbl]

theorem low16 : ∀ j, j < 16 → halves 4 j = tab4.getD j 0 := by decide

theorem split16 (x : Nat) : x = (16 * (x / 16)) ^^^ (x % 16) := by
  have h : x = 2 ^ 4 * (x / 16) + x % 16 := by omega
  have h2 := Nat.two_pow_add_eq_or_of_lt (i := 4) (b := x % 16) (by omega) (x / 16)
  have h3 : (2 ^ 4 * (x / 16)) ^^^ (x % 16) = 2 ^ 4 * (x / 16) ||| x % 16 := by
    apply Nat.eq_of_testBit_eq
    intro i
    rw [Nat.testBit_xor, Nat.testBit_or]
    by_cases hi : i < 4
    · have : (2 ^ 4 * (x / 16)).testBit i = false := by
        rw [Nat.testBit_two_pow_mul]; simp; omega
      rw [this]; simp
    · have : (x % 16).testBit i = false := by
        apply Nat.testBit_lt_two_pow
        have : 2 ^ 4 ≤ 2 ^ i := Nat.pow_le_pow_right (by decide) (by omega)
        omega
      rw [this]; simp
  show x = (2 ^ 4 * (x / 16)) ^^^ (x % 16)
  rw [h3, ← h2]; exact h

theorem halves4 (x : Nat) : halves 4 x = x / 16 ^^^ tab4.getD (x % 16) 0 := by
  have h := congrArg (halves 4) (split16 x)
  rw [halves_xor, halves4_16, low16 _ (Nat.mod_lt _ (by decide))] at h
  exact h

/-! nothing is lost. -/
theorem half_inj {x y : Nat} (hx : x < 4294967296) (hy : y < 4294967296) (h : half x = half y) : x = y := by
  have top : ∀ z, z < 4294967296 → (half z).testBit 31 = decide (z % 2 = 1) := by
    intro z hz
    have h31 : (z / 2).testBit 31 = false := Nat.testBit_lt_two_pow (by omega)
    unfold half
    by_cases hz2 : z % 2 = 1
    · rw [if_pos hz2, Nat.testBit_xor, h31]; simp [hz2]; decide
    · rw [if_neg hz2, h31]; simp [hz2]
  have hp := congrArg (fun z => z.testBit 31) h
  simp only [top x hx, top y hy] at hp
  have hp2 : x % 2 = 1 ↔ y % 2 = 1 := by simpa using hp
  unfold half at h
  by_cases h1 : x % 2 = 1
  · have h2 := hp2.1 h1
    rw [if_pos h1, if_pos h2] at h
    have h3 : x / 2 = y / 2 := by
      have := congrArg (· ^^^ poly) h
      simpa [Nat.xor_assoc] using this
    omega
  · have h2 : ¬ y % 2 = 1 := fun q => h1 (hp2.2 q)
    rw [if_neg h1, if_neg h2] at h
    omega

theorem halves_inj : ∀ (k : Nat) {x y : Nat}, x < 4294967296 → y < 4294967296 → halves k x = halves k y → x = y
  | 0, _, _, _, _, h => h
  | k + 1, _, _, hx, hy, h => half_inj hx hy (halves_inj k (half_lt hx) (half_lt hy) h)

theorem xor_inj_left {a b c : Nat} (h : a ^^^ c = b ^^^ c) : a = b := by
  have := congrArg (· ^^^ c) h
  simpa [Nat.xor_assoc] using this
theorem xor_inj_right {a b c : Nat} (h : c ^^^ a = c ^^^ b) : a = b := by
  rw [Nat.xor_comm c a, Nat.xor_comm c b] at h
  exact xor_inj_left h

theorem stepS_inj_sum {s r b : Nat} (hs : s < 4294967296) (hr : r < 4294967296) (hb : b < 256) (h : stepS s b = stepS r b) : s = r :=
  xor_inj_left (halves_inj 8 (xor_lt32 hs (by omega)) (xor_lt32 hr (by omega)) h)
theorem stepS_inj_byte {s b c : Nat} (hs : s < 4294967296) (hb : b < 256) (hc : c < 256) (h : stepS s b = stepS s c) : b = c :=
  xor_inj_right (halves_inj 8 (xor_lt32 hs (by omega)) (xor_lt32 hs (by omega)) h)

theorem sumL_inj : ∀ (l : List UInt8) {s r : Nat}, s < 4294967296 → r < 4294967296 → sumL s l = sumL r l → s = r
  | [], _, _, _, _, h => h
  | c :: l, _, _, hs, hr, h => stepS_inj_sum hs hr c.toNat_lt (sumL_inj l (stepS_lt hs c.toNat_lt) (stepS_lt hr c.toNat_lt) h)

/-- one byte turned: another sum. -/
theorem sumL_turned {s : Nat} (hs : s < 4294967296) (l m : List UInt8) (b c : UInt8) (h : sumL s (l ++ b :: m) = sumL s (l ++ c :: m)) : b = c := by
  rw [sumL_append, sumL_append] at h
  have h1 : sumL (stepS (sumL s l) b.toNat) m = sumL (stepS (sumL s l) c.toNat) m := h
  have hl := sumL_lt l hs
  have h2 := sumL_inj m (stepS_lt hl b.toNat_lt) (stepS_lt hl c.toNat_lt) h1
  exact UInt8.toNat_inj.1 (stepS_inj_byte hl b.toNat_lt c.toNat_lt h2)

/-! four bytes, the highest first. -/
def four (x : Nat) : List UInt8 := [UInt8.ofNat (x / 16777216), UInt8.ofNat (x / 65536), UInt8.ofNat (x / 256), UInt8.ofNat x]
def fourI (x : Nat) : List Int := [((x / 16777216 % 256 : Nat) : Int), ((x / 65536 % 256 : Nat) : Int), ((x / 256 % 256 : Nat) : Int), ((x % 256 : Nat) : Int)]

theorem ofNat_eq {a b : Nat} (h : UInt8.ofNat a = UInt8.ofNat b) : a % 256 = b % 256 := by
  have := congrArg UInt8.toNat h
  simpa [UInt8.toNat_ofNat'] using this

theorem four_inj {x y : Nat} (hx : x < 4294967296) (hy : y < 4294967296) (h : four x = four y) : x = y := by
  unfold four at h
  simp only [List.cons.injEq, and_true] at h
  obtain ⟨h1, h2, h3, h4⟩ := h
  have h1 := ofNat_eq h1
  have h2 := ofNat_eq h2
  have h3 := ofNat_eq h3
  have h4 := ofNat_eq h4
  omega

end Go.Proofs.YtlflcjdpdbdbkaaDoor.Pl

