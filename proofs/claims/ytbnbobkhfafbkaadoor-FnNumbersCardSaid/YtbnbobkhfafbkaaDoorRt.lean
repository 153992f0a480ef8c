/- Round trips, in plain words: what VarText, Decimal and Hex write is read back; no program is named here. -/
import Derived.Test.YtbnbobkhfafbkaaDoorDig
import Derived.Test.YtbnbobkhfafbkaaDoorDec
namespace Go.Proofs.YtbnbobkhfafbkaaDoor.Pl
open Go Go.RowKit
set_option linter.unusedVariables false

theorem rt_ext {a b : ByteArray} (h : a.data.toList = b.data.toList) : a = b := ByteArray.ext (Array.ext' h)
theorem rt_size (s : ByteArray) : s.size = s.data.toList.length := rfl

/-- the bytes that stand for n in base 128. -/
def varL (n : Nat) : List UInt8 := (varI n).map fun z => UInt8.ofNat z.toNat
theorem varS_list (n : Nat) : (varS n).data.toList = varL n := rfl
theorem varL_big {n : Nat} (h : 127 < n) : varL n = UInt8.ofNat (n % 128 + 128) :: varL (n / 128) := by
  unfold varL
  rw [varI_big h, List.map_cons, Int.toNat_natCast]
theorem varL_small {n : Nat} (h : ¬ 127 < n) : varL n = [UInt8.ofNat n] := by
  unfold varL
  rw [varI_small h, List.map_cons, Int.toNat_natCast, List.map_nil]

theorem u8_nat {n : Nat} (h : n < 256) : (UInt8.ofNat n).toNat = n := by
  rw [UInt8.toNat_ofNat']; omega

theorem rvGo_var : ∀ (n f acc sc i : Nat) (fst : Bool) (rest : List UInt8), (varL n).length ≤ f → (n ≠ 0 ∨ fst = true) → acc + n * sc ≤ 1000000000 →
    rvGo f (varL n ++ rest) fst acc sc i = some (acc + n * sc, i + (varL n).length) := by
  intro n
  induction n using Nat.strongRecOn with
  | ind n ih =>
    intro f acc sc i fst rest hf hn ha
    by_cases h : 127 < n
    · rw [varL_big h] at hf ⊢
      simp only [List.length_cons] at hf
      obtain ⟨g, rfl⟩ : ∃ g, f = g + 1 := ⟨f - 1, by omega⟩
      rw [List.cons_append, rvGo, u8_nat (by omega), if_pos (by omega)]
      have e1 : (n % 128 + 128) % 128 = n % 128 := by omega
      have e2 : acc + n % 128 * sc + n / 128 * (sc * 128) = acc + n * sc := by
        have h1 : n / 128 * (sc * 128) = (128 * (n / 128)) * sc := by rw [Nat.mul_comm sc 128, ← Nat.mul_assoc, Nat.mul_comm (n / 128) 128]
        rw [h1, Nat.add_assoc, ← Nat.add_mul, Nat.mod_add_div]
      rw [e1, ih (n / 128) (by omega) g _ _ _ false rest (by omega) (.inl (by omega)) (by rw [e2]; exact ha), e2]
      simp only [List.length_cons]
      rw [Nat.add_assoc, Nat.add_comm 1]
    · rw [varL_small h] at hf ⊢
      simp only [List.length_cons, List.length_nil] at hf
      obtain ⟨g, rfl⟩ : ∃ g, f = g + 1 := ⟨f - 1, by omega⟩
      have e1 : n % 128 = n := by omega
      rw [List.cons_append, rvGo, u8_nat (by omega), if_neg h, e1, if_neg]
      · rfl
      · rintro (⟨a, b⟩ | b)
        · rcases hn with hn | hn
          · exact hn a
          · rw [hn] at b; cases b
        · omega

theorem varL_len {n : Nat} (h : n ≤ 1000000000) : (varL n).length ≤ 5 := by
  by_cases h1 : 127 < n
  · rw [varL_big h1]
    by_cases h2 : 127 < n / 128
    · rw [varL_big h2]
      by_cases h3 : 127 < n / 128 / 128
      · rw [varL_big h3]
        by_cases h4 : 127 < n / 128 / 128 / 128
        · rw [varL_big h4, varL_small (by omega)]; simp
        · rw [varL_small h4]; simp
      · rw [varL_small h3]; simp
    · rw [varL_small h2]; simp
  · rw [varL_small h1]; simp

/-- what stands behind p is read. -/
theorem rv_var {s : ByteArray} {p q : List UInt8} {n : Nat} (h : n ≤ 1000000000) (hs : s.data.toList = p ++ (varL n ++ q)) : rv s p.length = some (n, p.length + (varL n).length) := by
  unfold rv
  rw [hs, List.drop_left, rvGo_var n 5 0 1 p.length true q (varL_len h) (.inr rfl) (by omega)]
  simp

/-- the figures of n. -/
theorem dec_fold (n : Nat) : ((decR n).map fun z => UInt8.ofNat z.toNat).foldl (fun n c => 10 * n + (c.toNat - 48)) 0 = n := by
  induction n using Nat.strongRecOn with
  | ind n ih =>
    by_cases h : n = 0
    · subst h; rfl
    · rw [decR_pos h, List.map_append, List.foldl_append, ih (n / 10) (by omega)]
      simp only [List.map_cons, List.map_nil, List.foldl_cons, List.foldl_nil]
      rw [show ((48 : Int) + ((n % 10 : Nat) : Int)).toNat = 48 + n % 10 from by omega, u8_nat (by omega)]
      omega

theorem decS_list' (n : Nat) : (decS n).data.toList = (decL n).map fun z => UInt8.ofNat z.toNat := rfl

theorem dv_dec (n : Nat) : dv (decS n) (decS n).size = n := by
  unfold dv
  rw [rt_size, List.take_length, decS_list', decL]
  split
  · rename_i h; subst h; rfl
  · exact dec_fold n

theorem allFig_dec (n : Nat) : AllFig false (decS n) (decS n).size := by
  intro j hj _
  have hm : ((decS n)[j]'hj) ∈ (decS n).data.toList := List.getElem_mem (show j < (decS n).data.toList.length from hj)
  rw [decS_list', List.mem_map] at hm
  obtain ⟨z, hz, e⟩ := hm
  have hz2 : 48 ≤ z ∧ z ≤ 57 := by
    unfold decL at hz
    split at hz
    · simp at hz; omega
    · exact decR_mem n z hz
  rw [← e, u8_nat (by omega)]
  exact (fig_digit (by omega) (by omega)).1

theorem dec_head (n : Nat) (h0 : 0 < (decS n).size) : ¬ (((decS n)[0]'h0).toNat = 48 ∧ 1 < (decS n).size) := by
  rintro ⟨h1, h2⟩
  by_cases hn : n = 0
  · subst hn
    exact absurd h2 (by decide)
  · cases e : decR n with
    | nil =>
      rw [decR_pos hn] at e
      simp at e
    | cons x xs =>
      have hne := decR_head n x xs e
      have hx := decR_mem n x (by rw [e]; exact List.mem_cons_self)
      have e2 : (decS n).data.toList = UInt8.ofNat x.toNat :: xs.map fun z => UInt8.ofNat z.toNat := by
        rw [decS_list', decL, if_neg hn, e]; rfl
      have e3 : ((decS n)[0]'h0) = UInt8.ofNat x.toNat := by
        have : ((decS n)[0]'h0) = (decS n).data.toList[0]'h0 := rfl
        rw [this]
        simp only [e2]
        rfl
      rw [e3, u8_nat (by omega)] at h1
      omega

theorem dec_len10 : ∀ (k n : Nat), n < 10 ^ k → (decR n).length ≤ k := by
  intro k
  induction k with
  | zero =>
    intro n h
    obtain rfl : n = 0 := by simpa using h
    simp [decR_zero]
  | succ k ih =>
    intro n h
    by_cases h0 : n = 0
    · subst h0; simp [decR_zero]
    · rw [decR_pos h0]
      have h1 : n / 10 < 10 ^ k := by
        rw [Nat.pow_succ] at h
        omega
      have := ih (n / 10) h1
      simp
      omega

theorem decS_size (n : Nat) (h : n ≤ 1000000000) : 0 < (decS n).size ∧ (decS n).size ≤ 10 := by
  rw [decS, strOfNums_size, decL]
  split
  · simp
  · rename_i hn
    refine ⟨?_, dec_len10 10 n (by omega)⟩
    rw [decR_pos hn]
    simp

theorem figVal_fig (x : Nat) (h : x < 16) : figVal (figI x).toNat = x ∧ figOk true (figI x).toNat = true ∧ (figI x).toNat < 256 := by
  unfold figI figVal figOk
  split
  · have : (48 + (x : Int)).toNat = 48 + x := by omega
    rw [this]
    refine ⟨by rw [if_pos (by omega)]; omega, by simp; omega, by omega⟩
  · have : (87 + (x : Int)).toNat = 87 + x := by omega
    rw [this]
    refine ⟨by rw [if_neg (by omega)]; omega, by simp; omega, by omega⟩

theorem hex_pairs : ∀ l : List UInt8, pairs (((hexI l).map fun z => UInt8.ofNat z.toNat).map fun c => figVal c.toNat) = l.map fun c => (c.toNat : Int)
  | [] => rfl
  | c :: l => by
    have hc : c.toNat < 256 := UInt8.toNat_lt c
    have h1 := figVal_fig (c.toNat / 16) (by omega)
    have h2 := figVal_fig (c.toNat % 16) (by omega)
    have ih := hex_pairs l
    unfold hexI at ih ⊢
    simp only [List.flatMap_cons, List.cons_append, List.nil_append, List.map_cons, pairs]
    rw [u8_nat h1.2.2, u8_nat h2.2.2, h1.1, h2.1, ih]
    congr 1
    omega

theorem hexS_list (t : ByteArray) : (hexS t).data.toList = (hexI t.data.toList).map fun z => UInt8.ofNat z.toNat := rfl

theorem unhex_hex (t : ByteArray) : strOfNums (pairs (vals (hexS t) (hexS t).size)) = t := by
  apply rt_ext
  unfold vals
  rw [rt_size (hexS t), List.take_length, hexS_list, hex_pairs, strOfNums_data, List.map_map]
  conv => rhs; rw [← List.map_id t.data.toList]
  apply List.map_congr_left
  intro c _
  simp

theorem hexS_size (t : ByteArray) : (hexS t).size = 2 * t.size := by
  rw [hexS, strOfNums_size, hexI_length]; rfl

theorem allFig_hex (t : ByteArray) : AllFig true (hexS t) (hexS t).size := by
  intro j hj _
  have hm : ((hexS t)[j]'hj) ∈ (hexS t).data.toList := List.getElem_mem (show j < (hexS t).data.toList.length from hj)
  rw [hexS_list, List.mem_map] at hm
  obtain ⟨z, hz, e⟩ := hm
  unfold hexI at hz
  obtain ⟨c, _, hz⟩ := List.mem_flatMap.1 hz
  have hc : c.toNat < 256 := UInt8.toNat_lt c
  simp only [List.mem_cons, List.not_mem_nil, or_false] at hz
  rw [← e]
  rcases hz with rfl | rfl
  · have h1 := figVal_fig (c.toNat / 16) (by omega)
    rw [u8_nat h1.2.2]; exact h1.2.1
  · have h1 := figVal_fig (c.toNat % 16) (by omega)
    rw [u8_nat h1.2.2]; exact h1.2.1
end Go.Proofs.YtbnbobkhfafbkaaDoor.Pl
