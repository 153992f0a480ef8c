/- The walks over container/heap's up and down. -/
import Derived.Test.YtlfgglmgajcpoaaIm
namespace Go.Proofs.Ytlfgglmgajcpoaa
open Go.RowKit Pl
set_option linter.unusedVariables false

def key (x : St) : Int := x.2.2
/-- what a walk over a heap leaves. -/
structure HpTo (w w' : World) (B c : Nat) (v : Value) (L L' : List St) : Prop where
  at' : HpAt w' B c v L'
  len : L'.length = L.length
  mem : ∀ x, x ∈ L' ↔ x ∈ L
  keep : KeepT w w'
  below : Below B w w'
theorem HpTo.refl {w : World} {B c : Nat} {v : Value} {L : List St} (h : HpAt w B c v L) : HpTo w w B c v L L := ⟨h, rfl, fun _ => Iff.rfl, KeepT.refl _, Below.refl _ _⟩
theorem HpTo.swap {w w1 w2 : World} {B c : Nat} {v : Value} {L L' : List St} {i j : Nat} {x y : St} (h : HpTo w w1 B c v L L') (hx : L'[i]? = some x) (hy : L'[j]? = some y)
    (ha : HpAt w2 B c v (swp L' i j x y)) (hk : KeepT w1 w2) (hb : Below B w1 w2) : HpTo w w2 B c v L (swp L' i j x y) :=
  ⟨ha, by rw [swp_length]; exact h.len, fun z => (swp_mem L' i j x y z (List.getElem?_eq_some_iff.1 hx).1 (List.getElem?_eq_some_iff.1 hy).1 hx hy).trans (h.mem z), h.keep.trans hk, h.below.trans hb⟩
theorem HpTo.drewN {w w1 : World} {B c : Nat} {v : Value} {L L' : List St} (h : HpTo w w1 B c v L L') (n : Nat) : HpTo w (w1.drewN n) B c v L L' :=
  ⟨h.at'.drewN n, h.len, h.mem, h.keep.drewN n, ⟨h.below.os, h.below.tape, h.below.output, h.below.size, h.below.block⟩⟩
theorem less_is {w : World} {B c : Nat} {v : Value} {L : List St} (h : HpAt w B c v L) (i j : Nat) (x y : St) (hx : L[i]? = some x) (hy : L[j]? = some y) {r : Bool} (hr : decide (x.2.2 < y.2.2) = r) :
    Calls Try.prog 102 #[v, .int .i64 i, .int .i64 j] w fun e w' => e = .returned (.bool r) ∧ ∃ m, w' = w.drewN m := by rw [← hr]; exact less_any h i j x y hx hy

set_option maxRecDepth 100000 in
set_option maxHeartbeats 2000000 in
theorem up_any {w : World} {B c : Nat} {v : Value} {L : List St} {j : Nat} (h : HpAt w B c v L) (hl : L.length ≤ 1000) (hj : j < L.length) (hu : Hid (UpAt key L L.length j)) :
    Calls Try.prog 66 #[.iface 62 (.pointer (some ⟨c, 0, none⟩)), .int .i64 j] w fun e w' => (∃ u, e = .returned u) ∧ ∃ L', HpTo w w' B c v L L' ∧ HeapTo key L' L.length := by
  go_enter Try.func66, Try.ntmps66
  go_wp2_with fail
  go_loopw [1] (fun i wr => ∃ (k : Nat) (L' : List St), i = .int .i64 k ∧ k < L.length ∧ Hid (HpTo w wr B c v L L') ∧ Hid (UpAt key L' L.length k)) (fun i _ => (intOf i).toNat)
  case atStart => exact ⟨j, L, rfl, hj, HpTo.refl h, hu.out⟩
  case round =>
    obtain ⟨k, L', rfl, hk, hP, hU⟩ := hrel
    clear hu hj
    by_cases k0 : k = 0
    · subst k0
      have hw1 : IntKind.i64.wrap ((0 : Int) - 1) = -1 := by decide
      have hw2 : Int.tdiv (-1) 2 = 0 := by decide
      go_wp2_with fail
      go_end0
      exact ⟨⟨_, rfl⟩, L', hP.out, hU.out.done (Or.inl rfl)⟩
    · obtain ⟨i, hi⟩ : ∃ i, i = (k - 1) / 2 := ⟨_, rfl⟩
      have hw1 : IntKind.i64.wrap ((k : Int) - 1) = ((k - 1 : Nat) : Int) := by rw [IntKind.wrap_i64]; omega
      have hw2 : ((k - 1 : Nat) : Int) / 2 = (i : Int) := by omega
      have hik : i < k := by omega
      have hne : ((i : Int) == (k : Int)) = false := by simp; omega
      have hne2 : ¬ (i : Int) = (k : Int) := by omega
      have c0 := hP.out.at'.cell
      have hll := hP.out.len
      obtain ⟨x, hx⟩ : ∃ x, L'[i]? = some x := ⟨_, List.getElem?_eq_getElem (by omega)⟩
      obtain ⟨y, hy⟩ : ∃ y, L'[k]? = some y := ⟨_, List.getElem?_eq_getElem (by omega)⟩
      have HX : Hid (L'[i]? = some x) := hx
      have HY : Hid (L'[k]? = some y) := hy
      have HL : Hid (L'.length = L.length) := hll
      have HI : Hid (i = (k - 1) / 2) := hi
      have m1 := mLess c0
      clear hx hy hll hi
      go_wp2_with fail
      by_cases hlt : y.2.2 < x.2.2
      · refine (less_is hP.out.at' k i y x HY.out HX.out (decide_eq_true hlt)).mono ?_
        rintro e w1 ⟨rfl, m, rfl⟩
        have hP1 : Hid (HpTo w (wr.drewN m) B c v L L') := hP.out.drewN m
        have c1 := hP1.out.at'.cell
        have m2 := mSwap c1
        clear c0 m1
        go_wp2_with fail
        refine (swap_any hP1.out.at' i k x y HX.out HY.out).mono ?_
        rintro e w2 ⟨⟨u, rfl⟩, ha, hk2, hb2⟩
        have hP2 : Hid (HpTo w w2 B c v L (swp L' i k x y)) := hP1.out.swap HX.out HY.out ha hk2 hb2
        have hU2 : Hid (UpAt key (swp L' i k x y) L.length i) := by
          have e := HI.out
          have hx := HX.out
          subst e
          exact hU.out.step (by have := HL.out; omega) (by omega) hk hx HY.out hlt
        clear m2 c1
        go_wp2_with fail
        go_roundw
        case rel => exact ⟨i, _, rfl, by omega, hP2.out, hU2.out⟩
        case measure => simp [intOf]; omega
      · refine (less_is hP.out.at' k i y x HY.out HX.out (decide_eq_false hlt)).mono ?_
        rintro e w1 ⟨rfl, m, rfl⟩
        clear c0 m1
        go_wp2_with fail
        go_end0
        refine ⟨⟨_, rfl⟩, L', hP.out.drewN m, hU.out.done (Or.inr ?_)⟩
        have e := HI.out
        have hx := HX.out
        have hy := HY.out
        subst e
        intro a b ha hb
        rw [hx] at ha
        rw [hy] at hb
        cases ha
        cases hb
        show x.2.2 ≤ y.2.2
        omega

set_option maxRecDepth 100000 in
set_option maxHeartbeats 4000000 in
theorem down_any {w : World} {B c : Nat} {v : Value} {L : List St} {n : Nat} (h : HpAt w B c v L) (hl : L.length ≤ 1000) (hn : n ≤ L.length) (h0 : 0 < L.length) (hu : Hid (DownAt key L n 0)) :
    Calls Try.prog 58 #[.iface 62 (.pointer (some ⟨c, 0, none⟩)), .int .i64 0, .int .i64 n] w fun e w' => (∃ u, e = .returned u) ∧ ∃ L', HpTo w w' B c v L L' ∧ HeapTo key L' n ∧ ∀ k, n ≤ k → L'[k]? = L[k]? := by
  go_enter Try.func58, Try.ntmps58
  go_wp2_with fail
  go_loopw [7] (fun i wr => ∃ (k : Nat) (L' : List St), i = .int .i64 k ∧ k < L.length ∧ Hid (HpTo w wr B c v L L') ∧ Hid (DownAt key L' n k) ∧ Hid (∀ k, n ≤ k → L'[k]? = L[k]?)) (fun i _ => 1000 - (intOf i).toNat)
  case atStart => exact ⟨0, L, rfl, h0, HpTo.refl h, hu.out, fun _ _ => rfl⟩
  case round =>
    obtain ⟨k, L', rfl, hk, hP, hU, hR⟩ := hrel
    clear hu h0
    have hw1 : IntKind.i64.wrap (2 * (k : Int)) = ((2 * k : Nat) : Int) := by rw [IntKind.wrap_i64]; omega
    have hw2 : IntKind.i64.wrap (((2 * k : Nat) : Int) + 1) = ((2 * k + 1 : Nat) : Int) := by rw [IntKind.wrap_i64]; omega
    by_cases hn1 : n ≤ 2 * k + 1
    · have hd : ((n : Int) ≤ ((2 * k + 1 : Nat) : Int)) := by omega
      obtain ⟨j, hj⟩ : ∃ j, j = 2 * k + 1 := ⟨_, rfl⟩
      rw [← hj] at hw2 hd
      obtain ⟨jj, hjj⟩ : ∃ j, j = 2 * k := ⟨_, rfl⟩
      rw [← hjj] at hw1 hw2
      clear hj hjj
      go_wp2_with fail
      go_ret
      exact ⟨⟨_, rfl⟩, L', hP.out, hU.out.none hn1, hR.out⟩
    · obtain ⟨j, hj⟩ : ∃ j, j = 2 * k + 1 := ⟨_, rfl⟩
      have hjn : j < n := by omega
      have hjk : k < j := by omega
      have hd : ¬ ((n : Int) ≤ (j : Int)) := by omega
      have hd0 : ¬ ((j : Int) < 0) := by omega
      rw [← hj] at hw2
      obtain ⟨jj, hjj⟩ : ∃ j, j = 2 * k := ⟨_, rfl⟩
      rw [← hjj] at hw1 hw2
      have hw3 : IntKind.i64.wrap ((j : Int) + 1) = ((j + 1 : Nat) : Int) := by rw [IntKind.wrap_i64]; omega
      have HJ : Hid (j = 2 * k + 1) := hj
      have c0 := hP.out.at'.cell
      have hll := hP.out.len
      obtain ⟨z, hz⟩ : ∃ x, L'[k]? = some x := ⟨_, List.getElem?_eq_getElem (by omega)⟩
      obtain ⟨y, hy⟩ : ∃ y, L'[j]? = some y := ⟨_, List.getElem?_eq_getElem (by omega)⟩
      have HZ : Hid (L'[k]? = some z) := hz
      have HY : Hid (L'[j]? = some y) := hy
      have HL : Hid (L'.length = L.length) := hll
      have ml := mLess c0
      clear hz hy hll hj hjj
      by_cases hn2 : j + 1 < n
      · have hd2 : ((j + 1 : Nat) : Int) < (n : Int) := by omega
        obtain ⟨x, hx⟩ : ∃ x, L'[j + 1]? = some x := ⟨_, List.getElem?_eq_getElem (by have := HL.out; omega)⟩
        have HX : Hid (L'[j + 1]? = some x) := hx
        clear hx
        obtain ⟨i, hi⟩ : ∃ i, i = j + 1 := ⟨_, rfl⟩
        rw [← hi] at hw3 hd2 HX
        have HI : Hid (i = j + 1) := hi
        have hik : k < i := by omega
        clear hi
        go_wp2_with fail
        by_cases hl2 : x.2.2 < y.2.2
        · refine (less_is hP.out.at' i j x y HX.out HY.out (decide_eq_true hl2)).mono ?_
          rintro e w1 ⟨rfl, m1, rfl⟩
          have hP1 : Hid (HpTo w (wr.drewN m1) B c v L L') := hP.out.drewN m1
          have c1 := hP1.out.at'.cell
          have KD : Hid (Kid key L' n k i x) := ⟨by omega, by have := HI.out; omega, by have := HI.out; have := HJ.out; omega, HX.out, fun t a t0 tn tp ta => by
            have h1 := HI.out
            have h2 := HJ.out
            have : t = i ∨ t = j := by omega
            rcases this with rfl | rfl
            · rw [HX.out] at ta; cases ta; exact Int.le_refl _
            · rw [HY.out] at ta; cases ta; show x.2.2 ≤ y.2.2; omega⟩
          clear c0 ml hP
          generalize wr.drewN m1 = W1 at *
          have c0 := c1
          have ml := mLess c0
          clear c1
          go_wp2_with fail
          by_cases hlt : x.2.2 < z.2.2
          · refine (less_is hP1.out.at' i k x z HX.out HZ.out (decide_eq_true hlt)).mono ?_
            rintro e w5 ⟨rfl, m5, rfl⟩
            have hP5 : Hid (HpTo w (W1.drewN m5) B c v L L') := hP1.out.drewN m5
            have c5 := hP5.out.at'.cell
            have ms := mSwap c5
            clear c0 ml
            go_wp2_with fail
            refine (swap_any hP5.out.at' k i z x HZ.out HX.out).mono ?_
            rintro e w6 ⟨⟨u, rfl⟩, ha, hk2, hb2⟩
            have hP6 : Hid (HpTo w w6 B c v L (swp L' k i z x)) := hP5.out.swap HZ.out HX.out ha hk2 hb2
            have hU6 : Hid (DownAt key (swp L' k i z x) n i) := hU.out.step (by have := HL.out; omega) KD.out HZ.out hlt
            have hR6 : Hid (∀ t, n ≤ t → (swp L' k i z x)[t]? = L[t]?) := fun t ht => by
              have hjn := KD.out.2.1
              rw [swp_get L' k i t z x (by have := HL.out; omega) (by have := HL.out; omega) HZ.out HX.out, if_neg (by omega), if_neg (by omega)]
              exact hR.out t ht
            have hjl : i < L.length := by have := KD.out.2.1; omega
            clear ms c5
            go_wp2_with fail
            go_roundw
            case rel => exact ⟨i, _, rfl, hjl, hP6.out, hU6.out, hR6.out⟩
            case measure => simp [intOf]; omega
          · refine (less_is hP1.out.at' i k x z HX.out HZ.out (decide_eq_false hlt)).mono ?_
            rintro e w5 ⟨rfl, m5, rfl⟩
            clear c0 ml
            go_wp2_with fail
            go_ret
            exact ⟨⟨_, rfl⟩, L', hP1.out.drewN m5, hU.out.stop KD.out HZ.out (by show z.2.2 ≤ x.2.2; omega), hR.out⟩
        · refine (less_is hP.out.at' i j x y HX.out HY.out (decide_eq_false hl2)).mono ?_
          rintro e w1 ⟨rfl, m1, rfl⟩
          have hP1 : Hid (HpTo w (wr.drewN m1) B c v L L') := hP.out.drewN m1
          have c1 := hP1.out.at'.cell
          have KD : Hid (Kid key L' n k j y) := ⟨by omega, by omega, by have := HJ.out; omega, HY.out, fun t a t0 tn tp ta => by
            have h1 := HI.out
            have h2 := HJ.out
            have : t = i ∨ t = j := by omega
            rcases this with rfl | rfl
            · rw [HX.out] at ta; cases ta; show y.2.2 ≤ x.2.2; omega
            · rw [HY.out] at ta; cases ta; exact Int.le_refl _⟩
          clear c0 ml hP
          generalize wr.drewN m1 = W1 at *
          have c0 := c1
          have ml := mLess c0
          clear c1
          go_wp2_with fail
          by_cases hlt : y.2.2 < z.2.2
          · refine (less_is hP1.out.at' j k y z HY.out HZ.out (decide_eq_true hlt)).mono ?_
            rintro e w5 ⟨rfl, m5, rfl⟩
            have hP5 : Hid (HpTo w (W1.drewN m5) B c v L L') := hP1.out.drewN m5
            have c5 := hP5.out.at'.cell
            have ms := mSwap c5
            clear c0 ml
            go_wp2_with fail
            refine (swap_any hP5.out.at' k j z y HZ.out HY.out).mono ?_
            rintro e w6 ⟨⟨u, rfl⟩, ha, hk2, hb2⟩
            have hP6 : Hid (HpTo w w6 B c v L (swp L' k j z y)) := hP5.out.swap HZ.out HY.out ha hk2 hb2
            have hU6 : Hid (DownAt key (swp L' k j z y) n j) := hU.out.step (by have := HL.out; omega) KD.out HZ.out hlt
            have hR6 : Hid (∀ t, n ≤ t → (swp L' k j z y)[t]? = L[t]?) := fun t ht => by
              have hjn := KD.out.2.1
              rw [swp_get L' k j t z y (by have := HL.out; omega) (by have := HL.out; omega) HZ.out HY.out, if_neg (by omega), if_neg (by omega)]
              exact hR.out t ht
            have hjl : j < L.length := by have := KD.out.2.1; omega
            clear ms c5
            go_wp2_with fail
            go_roundw
            case rel => exact ⟨j, _, rfl, hjl, hP6.out, hU6.out, hR6.out⟩
            case measure => simp [intOf]; omega
          · refine (less_is hP1.out.at' j k y z HY.out HZ.out (decide_eq_false hlt)).mono ?_
            rintro e w5 ⟨rfl, m5, rfl⟩
            clear c0 ml
            go_wp2_with fail
            go_ret
            exact ⟨⟨_, rfl⟩, L', hP1.out.drewN m5, hU.out.stop KD.out HZ.out (by show z.2.2 ≤ y.2.2; omega), hR.out⟩
      · have hd2 : ¬ (((j + 1 : Nat) : Int) < (n : Int)) := by omega
        have KD : Hid (Kid key L' n k j y) := ⟨by omega, by omega, by have := HJ.out; omega, HY.out, fun t a t0 tn tp ta => by
          have h2 := HJ.out
          have : t = j := by omega
          subst this
          rw [HY.out] at ta; cases ta; exact Int.le_refl _⟩
        obtain ⟨i, hi⟩ : ∃ i, i = j + 1 := ⟨_, rfl⟩
        rw [← hi] at hw3 hd2
        clear hi
        go_wp2_with fail
        by_cases hlt : y.2.2 < z.2.2
        · refine (less_is hP.out.at' j k y z HY.out HZ.out (decide_eq_true hlt)).mono ?_
          rintro e w5 ⟨rfl, m5, rfl⟩
          have hP5 : Hid (HpTo w (wr.drewN m5) B c v L L') := hP.out.drewN m5
          have c5 := hP5.out.at'.cell
          have ms := mSwap c5
          clear c0 ml
          go_wp2_with fail
          refine (swap_any hP5.out.at' k j z y HZ.out HY.out).mono ?_
          rintro e w6 ⟨⟨u, rfl⟩, ha, hk2, hb2⟩
          have hP6 : Hid (HpTo w w6 B c v L (swp L' k j z y)) := hP5.out.swap HZ.out HY.out ha hk2 hb2
          have hU6 : Hid (DownAt key (swp L' k j z y) n j) := hU.out.step (by have := HL.out; omega) KD.out HZ.out hlt
          have hR6 : Hid (∀ t, n ≤ t → (swp L' k j z y)[t]? = L[t]?) := fun t ht => by
            have hjn := KD.out.2.1
            rw [swp_get L' k j t z y (by have := HL.out; omega) (by have := HL.out; omega) HZ.out HY.out, if_neg (by omega), if_neg (by omega)]
            exact hR.out t ht
          have hjl : j < L.length := by have := KD.out.2.1; omega
          clear ms c5
          go_wp2_with fail
          go_roundw
          case rel => exact ⟨j, _, rfl, hjl, hP6.out, hU6.out, hR6.out⟩
          case measure => simp [intOf]; omega
        · refine (less_is hP.out.at' j k y z HY.out HZ.out (decide_eq_false hlt)).mono ?_
          rintro e w5 ⟨rfl, m5, rfl⟩
          clear c0 ml
          go_wp2_with fail
          go_ret
          exact ⟨⟨_, rfl⟩, L', hP.out.drewN m5, hU.out.stop KD.out HZ.out (by show z.2.2 ≤ y.2.2; omega), hR.out⟩
end Go.Proofs.Ytlfgglmgajcpoaa
