/- The law on numbers and texts that come back, walked. -/
import Derived.Test.YtbnbobkhfafbkaaDoorD2
import Derived.Test.YtbnbobkhfafbkaaDoorV6
import Derived.Test.YtbnbobkhfafbkaaDoorV2
import Derived.Test.YtbnbobkhfafbkaaDoorV3
namespace Go.Proofs.YtbnbobkhfafbkaaDoor
open Go.RowKit Pl
set_option linter.unusedVariables false

/-- the library's table stands. -/
def TabAt (w : World) : Prop := Lib.TabIs Tryd.prog w "internal/strconv.uint64pow10" .u64 Lib.pow10Tab

theorem num_pack (a : Int) (h0 : 0 ≤ a) (h1 : a ≤ 1000000000) : ∃ S N : ByteArray, S.size ≤ 5 ∧
    (∀ w, Calls Tryd.prog 6 #[.int .i64 a] w fun e w' => e = .returned (.tuple #[.string S, .bool true]) ∧ Below w.heap.size w w') ∧
    (∀ w, Calls Tryd.prog 7 #[.string (⟨#[120]⟩ ++ S ++ ⟨#[121]⟩), .int .i64 1] w fun e w' => e = .returned (.tuple #[.int .i64 a, .int .i64 ((S.size : Int) + 1), .bool true]) ∧ w' = w) ∧
    (∀ w, Hid (TabAt w) → Calls Tryd.prog 9 #[.int .i64 a] w fun e w' => e = .returned (.string N) ∧ Below w.heap.size w w') ∧
    (∀ w, Calls Tryd.prog 8 #[.string N] w fun e w' => e = .returned (.tuple #[.int .i64 a, .bool true]) ∧ Below w.heap.size w w') := by
  obtain ⟨n, rfl⟩ : ∃ n : Nat, a = n := ⟨a.toNat, by omega⟩
  have hn : n ≤ 1000000000 := by omega
  have hs : (varS n).size = (varL n).length := rfl
  have hl := varL_len hn
  refine ⟨varS n, decS n, by omega, fun w => implVar_yes n w hn, fun w => ?_, fun w h => implDec n w hn h, fun w => implRd_dec n w hn⟩
  have hlist : ((⟨#[120]⟩ : ByteArray) ++ varS n ++ ⟨#[121]⟩).data.toList = [120] ++ (varL n ++ [121]) := by
    rw [ByteArray.data_append, ByteArray.data_append, Array.toList_append, Array.toList_append, varS_list]
    simp
  have hr := rv_var hn hlist
  have hsz : ((⟨#[120]⟩ : ByteArray) ++ varS n ++ ⟨#[121]⟩).size ≤ 7 := by
    rw [rt_size, hlist]
    simp
    omega
  have h := implRv_some _ 1 n (1 + (varL n).length) w (by omega) (by rw [rt_size, hlist]; simp) hr
  have e : (((1 + (varL n).length : Nat) : Int)) = ((varS n).size : Int) + 1 := by rw [hs]; omega
  rw [e] at h
  exact h

theorem text_pack (t : ByteArray) (ht : t.size ≤ 300) : ∃ A X : ByteArray, A.size ≤ 305 ∧
    (∀ w, Calls Tryd.prog 11 #[.string t] w fun e w' => e = .returned (.tuple #[.string A, .bool true]) ∧ Below w.heap.size w w') ∧
    (∀ w, Calls Tryd.prog 12 #[.string A, .int .i64 0] w fun e w' => e = .returned (.tuple #[.string t, .int .i64 A.size, .bool true]) ∧ Below w.heap.size w w') ∧
    (∀ w, Calls Tryd.prog 13 #[.string t] w fun e w' => e = .returned (.tuple #[.string X, .bool true]) ∧ Below w.heap.size w w') ∧
    (∀ w, Calls Tryd.prog 14 #[.string X] w fun e w' => e = .returned (.tuple #[.string t, .bool true]) ∧ Below w.heap.size w w') := by
  have hl := varL_len (n := t.size) (by omega)
  have hlist : (varS t.size ++ t).data.toList = [] ++ (varL t.size ++ t.data.toList) := by
    rw [ByteArray.data_append, Array.toList_append, varS_list]; rfl
  have hsz : (varS t.size ++ t).size = (varL t.size).length + t.size := by
    rw [rt_size, hlist, List.nil_append, List.length_append]; rfl
  have hr := rv_var (n := t.size) (by omega) hlist
  rw [List.length_nil, Nat.zero_add] at hr
  refine ⟨varS t.size ++ t, hexS t, by omega, fun w => implShort_in t w (by omega), fun w => ?_, fun w => implHex_in t w (by omega), fun w => ?_⟩
  · have h := implRs_good _ 0 t.size (varL t.size).length w (by omega) (Nat.zero_le _) hr (by omega) (by omega)
    have e1 : (varS t.size ++ t).extract (varL t.size).length ((varL t.size).length + t.size) = t := by
      apply rt_ext
      rw [ByteArray.data_extract]
      rw [Array.toList_extract]
      rw [hlist, List.nil_append]
      simp [List.extract]
      rw [List.take_of_length_le]
      exact Nat.le_refl _
    have e2 : (((varL t.size).length : Nat) : Int) + (t.size : Int) = ((varS t.size ++ t).size : Int) := by rw [hsz]; omega
    rw [e1, e2] at h
    exact h
  · have h := implUnhex_yes (hexS t) t.size w (by rw [hexS_size]; omega) (hexS_size t) (allFig_hex t)
    rw [unhex_hex] at h
    exact h

theorem code_up {w : World} {B B' : Nat} {ao : Option Addr} {n : Nat} (h : CodeAt w B ao n) (hB : B ≤ B') : CodeAt w B' ao n := by
  intro i hi
  obtain ⟨b, off, z, h1, h2, h3⟩ := h i hi
  exact ⟨b, off, z, h1, Nat.lt_of_lt_of_le h2 hB, h3⟩

set_option maxRecDepth 100000 in
set_option maxHeartbeats 4000000 in
theorem lawNumbers (W : World) (n cap : Nat) (ao : Option Addr) (hk : Hid (CodeAt W W.heap.size ao n)) (htab : Hid (∀ w', Below W.heap.size W w' → TabAt w')) :
    Calls Tryd.prog 3 #[.slice ao n cap] W fun e w' => e = .returned (.bool true) ∧ Below W.heap.size W w' := by
  by_cases hn : n ≤ 1048576
  · have hbig : decide (1048576 < (n : Int)) = false := by simp; omega
    go_enter Tryd.func3, Tryd.ntmps3
    go_wp2_with (first | (go_at_call 4; refine (big_any _ n cap ao false hbig).mono ?_; rintro e w1 ⟨rfl, rfl⟩) | (go_at_call 5; refine (drawVar _ n cap ao hn hk).mono ?_; rintro e w2 ⟨⟨z, rfl⟩, hb2⟩; rcases (show z < 0 ∨ (¬ z < 0 ∧ 1000000000 < z) ∨ (¬ z < 0 ∧ ¬ 1000000000 < z) by omega) with hz | ⟨hz, hz2⟩ | ⟨hz, hz2⟩))
    · obtain ⟨S, N, hS, C6, C7, C9, C8⟩ := num_pack 12345 (by omega) (by omega)
      have H2 : Hid (Below w1.heap.size w1 w2) := hb2
      clear hz hb2
      go_wp2_with (first | (go_at_call 6; refine (C6 _).mono ?_; rintro e w3 ⟨rfl, hb3⟩; have H3 : Hid (Below w1.heap.size w1 w3) := H2.out.trans (hb3.mono H2.out.size); clear hb3) | (go_at_call 7; refine (C7 _).mono ?_; rintro e w4 ⟨rfl, rfl⟩) | (go_at_call 9; refine (C9 _ (htab.out _ H3.out)).mono ?_; rintro e w5 ⟨rfl, hb5⟩; have H5 : Hid (Below w1.heap.size w1 w5) := H3.out.trans (hb5.mono H3.out.size); clear hb5) | (go_at_call 8; refine (C8 _).mono ?_; rintro e w6 ⟨rfl, hb6⟩; have H6 : Hid (Below w1.heap.size w1 w6) := H5.out.trans (hb6.mono H5.out.size); have HK : Hid (CodeAt w6 w6.heap.size ao n) := code_up (hk.out.stays H6.out (Nat.le_refl _)) H6.out.size; clear hb6) | (go_at_call 10; refine (drawHex _ n cap ao hn HK).mono ?_; rintro e w7 ⟨⟨t, rfl⟩, hb7⟩; have H7 : Hid (Below w1.heap.size w1 w7) := H6.out.trans (hb7.mono H6.out.size); clear hb7; rcases (show 300 < t.size ∨ ¬ 300 < t.size by omega) with ht | ht))
      · obtain ⟨A, X, hA, D1, D2, D3, D4⟩ := text_pack ⟨#[97, 98, 99]⟩ (by decide)
        have hwS : IntKind.i64.wrap ((S.size : Int) + 1) = (S.size : Int) + 1 := by rw [IntKind.wrap_i64]; omega
        go_wp2_with (first | (go_at_call 11; refine (D1 _).mono ?_; rintro e w8 ⟨rfl, hb8⟩; have H8 : Hid (Below w1.heap.size w1 w8) := H7.out.trans (hb8.mono H7.out.size); clear hb8) | (go_at_call 12; refine (D2 _).mono ?_; rintro e w9 ⟨rfl, hb9⟩; have H9 : Hid (Below w1.heap.size w1 w9) := H8.out.trans (hb9.mono H8.out.size); clear hb9) | (go_at_call 13; refine (D3 _).mono ?_; rintro e w10 ⟨rfl, hb10⟩; have H10 : Hid (Below w1.heap.size w1 w10) := H9.out.trans (hb10.mono H9.out.size); clear hb10) | (go_at_call 14; refine (D4 _).mono ?_; rintro e w11 ⟨rfl, hb11⟩; have H11 : Hid (Below w1.heap.size w1 w11) := H10.out.trans (hb11.mono H10.out.size); clear hb11))
        go_ret
        exact ⟨by simp, H11.out⟩
      · obtain ⟨A, X, hA, D1, D2, D3, D4⟩ := text_pack t (by omega)
        have hwS : IntKind.i64.wrap ((S.size : Int) + 1) = (S.size : Int) + 1 := by rw [IntKind.wrap_i64]; omega
        go_wp2_with (first | (go_at_call 11; refine (D1 _).mono ?_; rintro e w8 ⟨rfl, hb8⟩; have H8 : Hid (Below w1.heap.size w1 w8) := H7.out.trans (hb8.mono H7.out.size); clear hb8) | (go_at_call 12; refine (D2 _).mono ?_; rintro e w9 ⟨rfl, hb9⟩; have H9 : Hid (Below w1.heap.size w1 w9) := H8.out.trans (hb9.mono H8.out.size); clear hb9) | (go_at_call 13; refine (D3 _).mono ?_; rintro e w10 ⟨rfl, hb10⟩; have H10 : Hid (Below w1.heap.size w1 w10) := H9.out.trans (hb10.mono H9.out.size); clear hb10) | (go_at_call 14; refine (D4 _).mono ?_; rintro e w11 ⟨rfl, hb11⟩; have H11 : Hid (Below w1.heap.size w1 w11) := H10.out.trans (hb11.mono H10.out.size); clear hb11))
        go_ret
        exact ⟨by simp, H11.out⟩
    · obtain ⟨S, N, hS, C6, C7, C9, C8⟩ := num_pack 12345 (by omega) (by omega)
      have H2 : Hid (Below w1.heap.size w1 w2) := hb2
      clear hz hz2 hb2
      go_wp2_with (first | (go_at_call 6; refine (C6 _).mono ?_; rintro e w3 ⟨rfl, hb3⟩; have H3 : Hid (Below w1.heap.size w1 w3) := H2.out.trans (hb3.mono H2.out.size); clear hb3) | (go_at_call 7; refine (C7 _).mono ?_; rintro e w4 ⟨rfl, rfl⟩) | (go_at_call 9; refine (C9 _ (htab.out _ H3.out)).mono ?_; rintro e w5 ⟨rfl, hb5⟩; have H5 : Hid (Below w1.heap.size w1 w5) := H3.out.trans (hb5.mono H3.out.size); clear hb5) | (go_at_call 8; refine (C8 _).mono ?_; rintro e w6 ⟨rfl, hb6⟩; have H6 : Hid (Below w1.heap.size w1 w6) := H5.out.trans (hb6.mono H5.out.size); have HK : Hid (CodeAt w6 w6.heap.size ao n) := code_up (hk.out.stays H6.out (Nat.le_refl _)) H6.out.size; clear hb6) | (go_at_call 10; refine (drawHex _ n cap ao hn HK).mono ?_; rintro e w7 ⟨⟨t, rfl⟩, hb7⟩; have H7 : Hid (Below w1.heap.size w1 w7) := H6.out.trans (hb7.mono H6.out.size); clear hb7; rcases (show 300 < t.size ∨ ¬ 300 < t.size by omega) with ht | ht))
      · obtain ⟨A, X, hA, D1, D2, D3, D4⟩ := text_pack ⟨#[97, 98, 99]⟩ (by decide)
        have hwS : IntKind.i64.wrap ((S.size : Int) + 1) = (S.size : Int) + 1 := by rw [IntKind.wrap_i64]; omega
        go_wp2_with (first | (go_at_call 11; refine (D1 _).mono ?_; rintro e w8 ⟨rfl, hb8⟩; have H8 : Hid (Below w1.heap.size w1 w8) := H7.out.trans (hb8.mono H7.out.size); clear hb8) | (go_at_call 12; refine (D2 _).mono ?_; rintro e w9 ⟨rfl, hb9⟩; have H9 : Hid (Below w1.heap.size w1 w9) := H8.out.trans (hb9.mono H8.out.size); clear hb9) | (go_at_call 13; refine (D3 _).mono ?_; rintro e w10 ⟨rfl, hb10⟩; have H10 : Hid (Below w1.heap.size w1 w10) := H9.out.trans (hb10.mono H9.out.size); clear hb10) | (go_at_call 14; refine (D4 _).mono ?_; rintro e w11 ⟨rfl, hb11⟩; have H11 : Hid (Below w1.heap.size w1 w11) := H10.out.trans (hb11.mono H10.out.size); clear hb11))
        go_ret
        exact ⟨by simp, H11.out⟩
      · obtain ⟨A, X, hA, D1, D2, D3, D4⟩ := text_pack t (by omega)
        have hwS : IntKind.i64.wrap ((S.size : Int) + 1) = (S.size : Int) + 1 := by rw [IntKind.wrap_i64]; omega
        go_wp2_with (first | (go_at_call 11; refine (D1 _).mono ?_; rintro e w8 ⟨rfl, hb8⟩; have H8 : Hid (Below w1.heap.size w1 w8) := H7.out.trans (hb8.mono H7.out.size); clear hb8) | (go_at_call 12; refine (D2 _).mono ?_; rintro e w9 ⟨rfl, hb9⟩; have H9 : Hid (Below w1.heap.size w1 w9) := H8.out.trans (hb9.mono H8.out.size); clear hb9) | (go_at_call 13; refine (D3 _).mono ?_; rintro e w10 ⟨rfl, hb10⟩; have H10 : Hid (Below w1.heap.size w1 w10) := H9.out.trans (hb10.mono H9.out.size); clear hb10) | (go_at_call 14; refine (D4 _).mono ?_; rintro e w11 ⟨rfl, hb11⟩; have H11 : Hid (Below w1.heap.size w1 w11) := H10.out.trans (hb11.mono H10.out.size); clear hb11))
        go_ret
        exact ⟨by simp, H11.out⟩
    · obtain ⟨S, N, hS, C6, C7, C9, C8⟩ := num_pack z (by omega) (by omega)
      have H2 : Hid (Below w1.heap.size w1 w2) := hb2
      clear hbig hb2
      go_wp2_with (first | (go_at_call 6; refine (C6 _).mono ?_; rintro e w3 ⟨rfl, hb3⟩; have H3 : Hid (Below w1.heap.size w1 w3) := H2.out.trans (hb3.mono H2.out.size); clear hb3) | (go_at_call 7; refine (C7 _).mono ?_; rintro e w4 ⟨rfl, rfl⟩) | (go_at_call 9; refine (C9 _ (htab.out _ H3.out)).mono ?_; rintro e w5 ⟨rfl, hb5⟩; have H5 : Hid (Below w1.heap.size w1 w5) := H3.out.trans (hb5.mono H3.out.size); clear hb5) | (go_at_call 8; refine (C8 _).mono ?_; rintro e w6 ⟨rfl, hb6⟩; have H6 : Hid (Below w1.heap.size w1 w6) := H5.out.trans (hb6.mono H5.out.size); have HK : Hid (CodeAt w6 w6.heap.size ao n) := code_up (hk.out.stays H6.out (Nat.le_refl _)) H6.out.size; clear hb6) | (go_at_call 10; refine (drawHex _ n cap ao hn HK).mono ?_; rintro e w7 ⟨⟨t, rfl⟩, hb7⟩; have H7 : Hid (Below w1.heap.size w1 w7) := H6.out.trans (hb7.mono H6.out.size); clear hb7; rcases (show 300 < t.size ∨ ¬ 300 < t.size by omega) with ht | ht))
      · obtain ⟨A, X, hA, D1, D2, D3, D4⟩ := text_pack ⟨#[97, 98, 99]⟩ (by decide)
        have hwS : IntKind.i64.wrap ((S.size : Int) + 1) = (S.size : Int) + 1 := by rw [IntKind.wrap_i64]; omega
        go_wp2_with (first | (go_at_call 11; refine (D1 _).mono ?_; rintro e w8 ⟨rfl, hb8⟩; have H8 : Hid (Below w1.heap.size w1 w8) := H7.out.trans (hb8.mono H7.out.size); clear hb8) | (go_at_call 12; refine (D2 _).mono ?_; rintro e w9 ⟨rfl, hb9⟩; have H9 : Hid (Below w1.heap.size w1 w9) := H8.out.trans (hb9.mono H8.out.size); clear hb9) | (go_at_call 13; refine (D3 _).mono ?_; rintro e w10 ⟨rfl, hb10⟩; have H10 : Hid (Below w1.heap.size w1 w10) := H9.out.trans (hb10.mono H9.out.size); clear hb10) | (go_at_call 14; refine (D4 _).mono ?_; rintro e w11 ⟨rfl, hb11⟩; have H11 : Hid (Below w1.heap.size w1 w11) := H10.out.trans (hb11.mono H10.out.size); clear hb11))
        go_ret
        exact ⟨by simp, H11.out⟩
      · obtain ⟨A, X, hA, D1, D2, D3, D4⟩ := text_pack t (by omega)
        have hwS : IntKind.i64.wrap ((S.size : Int) + 1) = (S.size : Int) + 1 := by rw [IntKind.wrap_i64]; omega
        go_wp2_with (first | (go_at_call 11; refine (D1 _).mono ?_; rintro e w8 ⟨rfl, hb8⟩; have H8 : Hid (Below w1.heap.size w1 w8) := H7.out.trans (hb8.mono H7.out.size); clear hb8) | (go_at_call 12; refine (D2 _).mono ?_; rintro e w9 ⟨rfl, hb9⟩; have H9 : Hid (Below w1.heap.size w1 w9) := H8.out.trans (hb9.mono H8.out.size); clear hb9) | (go_at_call 13; refine (D3 _).mono ?_; rintro e w10 ⟨rfl, hb10⟩; have H10 : Hid (Below w1.heap.size w1 w10) := H9.out.trans (hb10.mono H9.out.size); clear hb10) | (go_at_call 14; refine (D4 _).mono ?_; rintro e w11 ⟨rfl, hb11⟩; have H11 : Hid (Below w1.heap.size w1 w11) := H10.out.trans (hb11.mono H10.out.size); clear hb11))
        go_ret
        exact ⟨by simp, H11.out⟩
  · have hbig : decide (1048576 < (n : Int)) = true := by simp; omega
    go_enter Tryd.func3, Tryd.ntmps3
    go_wp2_with (first | (go_at_call 4; refine (big_any _ n cap ao true hbig).mono ?_; rintro e w1 ⟨rfl, rfl⟩))
    go_ret
    exact ⟨rfl, Below.refl _ _⟩
end Go.Proofs.YtbnbobkhfafbkaaDoor
