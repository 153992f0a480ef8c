/- The walk over the law on what spreads. -/
import Derived.Test.YtlfgglmgajcpoaaSw
import Derived.Test.YtlfgglmgajcpoaaSb
namespace Go.Proofs.Ytlfgglmgajcpoaa
open Go.RowKit Pl
set_option linter.unusedVariables false

theorem contains_iff {N : Nat} {H : List Int} {v : Nat} (hv : v < N) : (ascOf N H).contains (v : Int) = H.contains (v : Int) := by
  have e : ((v : Int) ∈ ascOf N H) ↔ (v : Int) ∈ H := by
    unfold ascOf
    simp only [List.mem_map, List.mem_filter, List.mem_range, List.contains_iff_mem]
    constructor
    · rintro ⟨u, ⟨_, h2⟩, h3⟩
      have : u = v := by omega
      subst this
      exact h2
    · intro h
      exact ⟨v, ⟨hv, h⟩, rfl⟩
  cases h1 : H.contains (v : Int) with
  | true => exact List.contains_iff_mem.2 (e.2 (List.contains_iff_mem.1 h1))
  | false =>
    cases h2 : (ascOf N H).contains (v : Int) with
    | false => rfl
    | true =>
      have := List.contains_iff_mem.2 (e.1 (List.contains_iff_mem.1 h2))
      rw [h1] at this
      exact this.symm

theorem spreadN_small (n : Int) (ts : List Rd) (s : Int) (ls : List (List Int)) : spreadN n ts s ls ≤ 36 := by
  unfold spreadN
  split
  · omega
  · have h1 := sentN_le (trees n ts s) ls s (trees n ts s).length
    have h2 := trees_le n ts s
    exact Nat.le_trans h1 (Nat.mul_le_mul h2 h2)
/-- what the law asks of drawn sites, in plain words. -/
structure Wide (N : Nat) (ts : List Rd) (r Z : Nat) (L K : List Int) : Prop where
  list : spreadH N ts r [] = L
  sent : spreadN N ts r [] = Z
  len : L.length = Z + 1
  at' : ∀ v : Nat, v < N → L.contains (v : Int) = decide (0 ≤ fn (dists N ts r) v)
  cnt : ∀ m : Nat, m < N → (ascOf (m + 1) L).length = if 0 ≤ fn (dists N ts r) m then (ascOf m L).length + 1 else (ascOf m L).length
  all : (ascOf N L).length = Z + 1
  kids : chl (trees N ts r) r = K
  alone : K = [] → Z = 0
  lost : ∀ c, c ∈ K → (spreadH N ts r [[(r : Int), c]]).contains c = false ∧ spreadN N ts r [[(r : Int), c]] ≤ Z ∧ (spreadH N ts r [[(r : Int), c]]).length < Z + 1
theorem asc_asc {N m : Nat} {H : List Int} (hm : m ≤ N) : ascOf m (ascOf N H) = ascOf m H := by
  unfold ascOf
  congr 1
  apply List.filter_congr
  intro u hu
  have := List.mem_range.1 hu
  exact contains_iff (N := N) (H := H) (v := u) (by omega)
theorem wide {N : Nat} {ts : List Rd} {r : Nat} (h : RoadsP N ts) (hr : r < N) : ∃ Z L K, Wide N ts r Z L K := by
  have FI := fine h hr
  obtain ⟨h0, hrl⟩ := trees_root (r := r) h (by omega)
  have hTl : (trees N ts r).length = N := by rw [trees_length]; exact FI.dl
  have hne : ¬ (trees N ts r).length = 0 := by omega
  have sh : ∀ ls, spreadH N ts r ls = ascOf N (had (trees N ts r) ls r N) := fun ls => by unfold spreadH; rw [if_neg hne, hTl]
  have sn : ∀ ls, spreadN N ts r ls = sentN (trees N ts r) ls r N := fun ls => by unfold spreadN; rw [if_neg hne, hTl]
  have ok := fun ls => had_ok (ls := ls) hrl h0 N
  have al : ∀ ls, (ascOf N (had (trees N ts r) ls r N)).length = (had (trees N ts r) ls r N).length := fun ls => asc_length (ok ls).nodup (by have := (ok ls).site; rwa [hTl] at this)
  have si := sent_is (trees N ts r) r N
  have ha := had_all h hr
  have hcon : ∀ v : Nat, v < N → (had (trees N ts r) [] r N).contains (v : Int) = decide (0 ≤ fn (dists N ts r) v) := fun v hv => by
    by_cases e : 0 ≤ fn (dists N ts r) v
    · rw [decide_eq_true e]; exact List.contains_iff_mem.2 ((ha v hv).2 e)
    · rw [decide_eq_false e]
      cases hc : (had (trees N ts r) [] r N).contains (v : Int) with
      | false => rfl
      | true => exact absurd ((ha v hv).1 (List.contains_iff_mem.1 hc)) e
  refine ⟨_, _, _, ⟨sh [], sn [], by rw [al]; omega, fun v hv => ?_, fun m hm => ?_, ?_, rfl, fun hk => ?_, fun c hc => ?_⟩⟩
  · rw [contains_iff hv]; exact hcon v hv
  · rw [asc_asc (by omega), asc_asc (by omega)]
    by_cases e : 0 ≤ fn (dists N ts r) m
    · rw [if_pos e, ascOf_yes (by rw [hcon m hm]; exact decide_eq_true e)]
      simp
    · rw [if_neg e, ascOf_no (by rw [hcon m hm]; exact decide_eq_false e)]
  · rw [asc_asc (Nat.le_refl _), al]; omega
  · have := had_alone (ls := []) (k := N) hk (by omega)
    rw [this] at si
    simp at si
    omega
  · obtain ⟨x1, x2⟩ := had_lost hrl h0 hc N
    rw [hTl] at x2
    refine ⟨?_, ?_, ?_⟩
    · rw [sh]
      obtain ⟨u, hu, _, hu2⟩ := chl_mem.1 hc
      subst hu2
      rw [contains_iff (by rw [hTl] at hu; exact hu)]
      cases hcc : (had (trees N ts r) [[(r : Int), (u : Int)]] r N).contains (u : Int) with
      | false => rfl
      | true => exact absurd (List.contains_iff_mem.1 hcc) x1
    · rw [sn]
      have := sent_le (ls := [[(r : Int), c]]) hrl h0 N
      rwa [hTl] at this
    · rw [sh, al]
      omega

set_option maxRecDepth 100000 in
set_option maxHeartbeats 8000000 in
theorem lawSpreads (w : World) (n cap : Nat) (ao : Option Addr) (hk : Hid (CodeAt w w.heap.size ao n)) :
    Calls Try.prog 4 #[.slice ao n cap] w fun e w' => e = .returned (.bool true) ∧ Below w.heap.size w w' := by
  by_cases hn : 1048576 < n
  · have hd : decide (1048576 < (n : Int)) = true := decide_eq_true (by omega)
    go_enter Try.func4, Try.ntmps4
    go_wp2_with fail
    refine (big_any w n cap ao true hd).mono ?_
    rintro e w1 ⟨rfl, hw⟩
    obtain rfl := hw.symm
    go_wp2_with fail
    go_ret
    exact ⟨rfl, Below.refl _ _⟩
  have hd : decide (1048576 < (n : Int)) = false := decide_eq_false (by omega)
  go_enter Try.func4, Try.ntmps4
  go_wp2_with fail
  refine (big_any w n cap ao false hd).mono ?_
  rintro e w1 ⟨rfl, hw⟩
  obtain rfl := hw.symm
  clear hw hd
  go_wp2_with fail
  refine (drawRoads_any w n cap ao (by omega) hk).mono ?_
  rintro e w1 ⟨⟨N, v, ts, rfl, hN2, hN6, hok, hsl⟩, b1⟩
  obtain ⟨ra, rc, rfl, hra⟩ := hsl.roads
  have HX : Hid (RoadsAt w1 ra ts) := hra
  have HOK : Hid (RoadsP N ts) := hok
  have hl12 : ts.length ≤ 12 := hok.2.2.1
  have HB1 : Hid (Below w.heap.size w w1) := b1
  have hk1 : Hid (CodeAt w1 w1.heap.size ao n) := by
    have := hk.out.stays b1 (Nat.le_refl _)
    intro i hi
    obtain ⟨b, off, z, h1, h2, h3⟩ := this i hi
    exact ⟨b, off, z, h1, Nat.lt_of_lt_of_le h2 b1.size, h3⟩
  clear hsl hra hok b1 hk
  go_wp2_with fail
  refine (drawPlaces w1 n cap ao (by omega) hk1).mono ?_
  rintro e w2 ⟨⟨v2, xs, rfl, hxl, hsm, hown⟩, b2⟩
  obtain ⟨gp, capp, rfl, hgp, hgp2, hcell, _⟩ := hown.out.some (by omega)
  have q0 := hcell 0 (by omega)
  have hp := hsm.out _ (List.getElem_mem (show 0 < xs.length by omega))
  generalize xs[0]'(by omega) = p0 at q0 hp
  obtain ⟨p, hpp⟩ : ∃ p : Nat, p0 = (p : Int) := ⟨p0.toNat, by omega⟩
  subst hpp
  obtain ⟨r, hrr⟩ : ∃ r, r = p % N := ⟨_, rfl⟩
  have hrN : r < N := by rw [hrr]; exact Nat.mod_lt _ (by omega)
  have hrem : Int.tmod (p : Int) (N : Int) = (r : Int) := by rw [hrr]; rfl
  have HB2 : Hid (Below w1.heap.size w1 w2) := b2
  have X2 : Hid (RoadsAt w2 ra ts) := HX.out.stays b2
  have hxl2 : (xs.length : Int) = 12 := by omega
  have nN : ¬ (N : Int) = 0 := by omega
  have nN2 : ((N : Int) == 0) = false := by simp; omega
  have hp2 : p < 10000 := by omega
  obtain ⟨Z, L, K, WD⟩ := wide HOK.out hrN
  have HW : Hid (Wide N ts r Z L K) := WD
  obtain ⟨D, hD⟩ : ∃ D, D = dists N ts r := ⟨_, rfl⟩
  obtain ⟨T, hT⟩ : ∃ T, T = trees N ts r := ⟨_, rfl⟩
  have HD : Hid (D = dists N ts r) := hD
  have HT : Hid (T = trees N ts r) := hT
  have FI := fine HOK.out hrN
  have HDL : Hid (D.length = N) := by show D.length = N; rw [hD]; exact FI.dl
  have HTL : Hid (T.length = N) := by show T.length = N; rw [hT, trees_length]; exact FI.dl
  clear hcell hown hsm hrr b2 hk1 WD FI hD hT
  go_wp2_with fail
  refine (spDist_any N r ra rc ts w2 X2 (by omega)).mono ?_
  rintro e w3 ⟨⟨v3, rfl, O3⟩, b3⟩
  rw [← HD.out] at O3
  obtain ⟨g3, c3, rfl⟩ := OwnI.slice O3 HDL.out (by omega)
  have O3 : Hid (OwnI w3 w2.heap.size (.slice (some ⟨g3, 0, none⟩) N c3) D) := O3
  have HB3 : Hid (Below w1.heap.size w1 w3) := HB2.out.trans (b3.mono HB2.out.size)
  have hA : Below w3.heap.size w3 (w3.alloc (.cells #[] 27)) := (Below.refl _ _).alloc (Nat.le_refl _) _
  have X4 : Hid (RoadsAt (w3.alloc (.cells #[] 27)) ra ts) := (X2.out.stays b3).stays hA
  have M4 : Hid (LsAt (w3.alloc (.cells #[] 27)) (some ⟨w3.heap.size, 0, none⟩) []) := fun i hi => absurd hi (by simp)
  have HB4 : Hid (Below w1.heap.size w1 (w3.alloc (.cells #[] 27))) := HB3.out.trans (hA.mono HB3.out.size)
  have O4 : Hid (OwnI (w3.alloc (.cells #[] 27)) w2.heap.size (.slice (some ⟨g3, 0, none⟩) N c3) D) := O3.out.alloc _
  clear b3 X2 HB2 hA q0 hrem nN nN2 O3 HB3 hp2 hp
  go_wp2_with fail
  generalize w3.alloc (.cells #[] 27) = W4 at *
  refine (spread_any N r ra (some ⟨w3.heap.size, 0, none⟩) rc 0 ts [] W4 X4 (by omega) M4 (by simp)).mono ?_
  rintro e w5 ⟨⟨v5, rfl, O5⟩, b5, _⟩
  rw [HW.out.list] at O5
  rw [HW.out.sent]
  obtain ⟨g5, c5, rfl⟩ := OwnI.slice O5 HW.out.len (by omega)
  have P5 : Hid (OwnI w5 W4.heap.size (.slice (some ⟨g5, 0, none⟩) (Z + 1) c5) L) := O5
  have O5 : Hid (OwnI w5 w2.heap.size (.slice (some ⟨g3, 0, none⟩) N c3) D) := O4.out.stays b5 (fun k hk => (O4.out.lt k hk).2)
  have HB5 : Hid (Below w1.heap.size w1 w5) := HB4.out.trans (b5.mono HB4.out.size)
  have hZ6 : Z ≤ 36 := by
    have h1 := spreadN_small N ts r []
    rw [HW.out.sent] at h1
    exact h1
  clear b5 X4 M4 HB4 O4
  go_wp2_with fail
  go_loopw [10, 11] (fun rc i wr => ∃ (m : Nat), m ≤ N ∧ i = .int .i64 m ∧ rc = .int .i64 ((ascOf m L).length : Int) ∧ Hid (∃ q, wr = w5.drewN q)) (fun _ i _ => N - (intOf i).toNat)
  case atStart => exact ⟨0, Nat.zero_le _, rfl, rfl, ⟨0, rfl⟩⟩
  case round =>
    obtain ⟨m, hm, rfl, rfl, hq⟩ := hrel
    have hal : (ascOf m L).length ≤ m := ascOf_len m L
    by_cases hml : m < N
    · obtain ⟨z, hz⟩ : ∃ z, fn D (m : Int) = z := ⟨_, rfl⟩
      obtain ⟨q, hq1⟩ := hq.out
      have PW : Hid (OwnI wr W4.heap.size (.slice (some ⟨g5, 0, none⟩) (Z + 1) c5) L) := by show OwnI _ _ _ _; rw [hq1]; exact P5.out.drewn q
      have OW : OwnI wr w2.heap.size (.slice (some ⟨g3, 0, none⟩) N c3) D := by rw [hq1]; exact O5.out.drewn q
      have ca := (own_cell OW HDL.out m z (by rw [← hz, fn_nat (by rw [HDL.out]; omega)]; exact List.getElem?_eq_getElem _)).1
      have HIN := HW.out.at' m hml
      have HC := HW.out.cnt m hml
      rw [← HD.out, hz] at HIN HC
      have m0 : (0 : Int) ≤ (m : Int) := by omega
      have m1 : (m : Int) < (N : Int) := by omega
      have HLL : Hid (L.length ≤ 1000) := by show L.length ≤ 1000; rw [HW.out.len]; omega
      clear hz OW hq1
      by_cases e : 0 ≤ z
      · rw [if_pos e] at HC
        rw [decide_eq_true e] at HIN
        have HIN : Hid (L.contains (m : Int) = true) := HIN
        have HC : Hid ((ascOf (m + 1) L).length = (ascOf m L).length + 1) := HC
        generalize (ascOf m L).length = A at *
        go_wp2_with fail
        go_quiet (first | (go_at_call 19; exact Calls.quiet_of_same (lin_any _ L (m : Int) W4.heap.size _ (PW.out.drewn _) HLL.out true HIN)))
        go_wp2_with fail
        go_roundw
        case rel => exact ⟨m + 1, by omega, by go_num, (by rw [HC.out]; first | rfl | (congr 1)), (by obtain ⟨q, rfl⟩ := hq.out; exact ⟨q + nq, World.drewN_drewN ..⟩)⟩
        case measure => simp [intOf]; omega
      · rw [if_neg e] at HC
        rw [decide_eq_false e] at HIN
        have HIN : Hid (L.contains (m : Int) = false) := HIN
        have HC : Hid ((ascOf (m + 1) L).length = (ascOf m L).length) := HC
        generalize (ascOf m L).length = A at *
        go_wp2_with fail
        go_quiet (first | (go_at_call 19; exact Calls.quiet_of_same (lin_any _ L (m : Int) W4.heap.size _ (PW.out.drewn _) HLL.out false HIN)))
        go_wp2_with fail
        go_roundw
        case rel => exact ⟨m + 1, by omega, by go_num, (by rw [HC.out]), (by obtain ⟨q, rfl⟩ := hq.out; exact ⟨q + nq, World.drewN_drewN ..⟩)⟩
        case measure => simp [intOf]; omega
    · obtain rfl : m = N := by omega
      rw [HW.out.all]
      obtain ⟨q, hq1⟩ := hq.out
      have b6 : Below w5.heap.size w5 wr := by rw [hq1]; exact below_drewN (Below.refl _ _) _
      have HB6 : Hid (Below w1.heap.size w1 wr) := HB5.out.trans (b6.mono HB5.out.size)
      have P6 : Hid (OwnI wr W4.heap.size (.slice (some ⟨g5, 0, none⟩) (Z + 1) c5) L) := P5.out.stays b6 (fun k hk => (P5.out.lt k hk).2)
      have X6 : Hid (RoadsAt wr ra ts) := HX.out.stays HB6.out
      have m1 : ¬ (m : Int) < (m : Int) := by omega
      clear hal b6 hq1 hq P5 O5 HB5
      go_wp2_with fail
      refine (tree_any m r ra rc ts wr X6 (by omega)).mono ?_
      rw [← HT.out]
      rintro e w7 ⟨⟨v7, rfl, O7⟩, b7, _⟩
      obtain ⟨g7, c7, rfl⟩ := OwnI.slice O7 HTL.out (by omega)
      have O7 : Hid (OwnI w7 wr.heap.size (.slice (some ⟨g7, 0, none⟩) m c7) T) := O7
      have P7 : Hid (OwnI w7 W4.heap.size (.slice (some ⟨g5, 0, none⟩) (Z + 1) c5) L) := P6.out.stays b7 (fun k hk => (P6.out.lt k hk).2)
      have HB7 : Hid (Below w1.heap.size w1 w7) := HB6.out.trans (b7.mono HB6.out.size)
      clear b7 P6 X6 HB6
      go_wp2_with fail
      refine (children_any r m g7 c7 _ T w7 O7 HTL.out hN6 (by omega)).mono ?_
      rintro e w8 ⟨⟨v8, rfl, O8⟩, b8⟩
      rw [HT.out, HW.out.kids] at O8
      obtain ⟨ka, kc, rfl⟩ := O8.form
      have O8 : Hid (OwnI w8 w7.heap.size (.slice ka K.length kc) K) := O8
      have P8 : Hid (OwnI w8 W4.heap.size (.slice (some ⟨g5, 0, none⟩) (Z + 1) c5) L) := P7.out.stays b8 (fun k hk => (P7.out.lt k hk).2)
      have HB8 : Hid (Below w1.heap.size w1 w8) := HB7.out.trans (b8.mono HB7.out.size)
      have HKR : Hid (K.Pairwise (· < ·)) := by show K.Pairwise _; rw [← HW.out.kids]; exact chl_rises _ _
      have hKl : K.length ≤ 6 := by have := chl_len (trees m ts r) (r : Int); rw [HW.out.kids, ← HT.out, HTL.out] at this; omega
      have hws : IntKind.i64.wrap (((Z + 1 : Nat) : Int) - 1) = (Z : Int) := by rw [IntKind.wrap_i64]; omega
      clear b8 P7 O7 HB7
      go_wp2_with fail
      refine (rises_any _ K _ w8 O8 (by omega) HKR).mono ?_
      rintro e w9 ⟨rfl, q9, hw9⟩
      have b9 : Below w8.heap.size w8 w9 := by rw [hw9]; exact below_drewN (Below.refl _ _) _
      have O9 : Hid (OwnI w9 w7.heap.size (.slice ka K.length kc) K) := O8.out.stays b9 (fun k hk => (O8.out.lt k hk).2)
      have P9 : Hid (OwnI w9 W4.heap.size (.slice (some ⟨g5, 0, none⟩) (Z + 1) c5) L) := P8.out.stays b9 (fun k hk => (P8.out.lt k hk).2)
      have HB9 : Hid (Below w1.heap.size w1 w9) := HB8.out.trans (b9.mono HB8.out.size)
      clear b9 hw9 O8 P8 HB8 hws
      by_cases hK0 : K.length = 0
      · have HZ0 : Hid (Z = 0) := HW.out.alone (List.eq_nil_of_length_eq_zero hK0)
        have d0 : ((K.length : Int) == 0) = true := by simp [hK0]
        go_wp2_with fail
        go_ret
        have := HZ0.out
        subst this
        exact ⟨rfl, HB1.out.trans (HB9.out.mono HB1.out.size)⟩
      · obtain ⟨kg, kcap, hkv, _, hkg, hkc, _⟩ := O9.out.some (by omega)
        simp at hkv
        obtain ⟨rfl, rfl⟩ := hkv
        have qk := hkc 0 (by omega)
        have hcm : K[0]'(by omega) ∈ K := List.getElem_mem _
        generalize K[0]'(by omega) = c at qk hcm
        obtain ⟨l1, l2, l3⟩ := HW.out.lost c hcm
        have HL1 : Hid ((spreadH m ts r [[(r : Int), c]]).contains c = false) := l1
        obtain ⟨Z2, hZ2⟩ : ∃ Z2, Z2 = spreadN m ts r [[(r : Int), c]] := ⟨_, rfl⟩
        obtain ⟨L2, hL2⟩ : ∃ L2, L2 = spreadH m ts r [[(r : Int), c]] := ⟨_, rfl⟩
        have HZ2 : Hid (Z2 = spreadN m ts r [[(r : Int), c]]) := hZ2
        have HL2 : Hid (L2 = spreadH m ts r [[(r : Int), c]]) := hL2
        rw [← hL2] at HL1 l3
        rw [← hZ2] at l2
        have HL6 : Hid (L2.length ≤ 1000) := by show L2.length ≤ 1000; omega
        have d0 : ((K.length : Int) == 0) = false := beq_false_of_ne (by omega)
        have d1 : ¬ (K.length : Int) = 0 := by omega
        have hA : Below w9.heap.size w9 (w9.alloc (.cells #[.int .i64 (r : Int), .int .i64 c] 3)) := (Below.refl _ _).alloc (Nat.le_refl _) _
        have hA2 : Below w9.heap.size w9 ((w9.alloc (.cells #[.int .i64 (r : Int), .int .i64 c] 3)).alloc (.cells #[.slice (some ⟨w9.heap.size, 0, none⟩) 2 2] 27)) := hA.alloc (by simp) _
        have XA : Hid (RoadsAt ((w9.alloc (.cells #[.int .i64 (r : Int), .int .i64 c] 3)).alloc (.cells #[.slice (some ⟨w9.heap.size, 0, none⟩) 2 2] 27)) ra ts) := (HX.out.stays HB9.out).stays hA2
        have MA : Hid (LsAt ((w9.alloc (.cells #[.int .i64 (r : Int), .int .i64 c] 3)).alloc (.cells #[.slice (some ⟨w9.heap.size, 0, none⟩) 2 2] 27)) (some ⟨w9.heap.size + 1, 0, none⟩) [[(r : Int), c]]) := by
          have h1 := OwnI.lit w9 w9.heap.size [(r : Int), c] (Nat.le_refl _) (by simp)
          obtain ⟨ia, ic, hv, hia⟩ := h1.ints
          simp at hv
          obtain ⟨rfl, rfl⟩ := hv
          have hia2 := IntsAt.stays hia ((Below.refl _ _).alloc (Nat.le_refl _) (.cells #[.slice (some ⟨w9.heap.size, 0, none⟩) 2 2] 27))
          intro i hi
          have : i = 0 := by simp at hi; omega
          subst this
          refine ⟨w9.heap.size + 1, 0, some ⟨w9.heap.size, 0, none⟩, 2, rfl, by simp, ?_, hia2, by simp⟩
          have h2 := heap_alloc_new (w9.alloc (.cells #[.int .i64 (r : Int), .int .i64 c] 3)) (.cells #[.slice (some ⟨w9.heap.size, 0, none⟩) 2 2] 27)
          have e : (w9.alloc (.cells #[.int .i64 (r : Int), .int .i64 c] 3)).heap.size = w9.heap.size + 1 := by simp
          rw [e] at h2
          rw [cell_of_row _ _ _ _ 27 (0, 0) h2]
          rfl
        have HBA : Hid (Below w1.heap.size w1 ((w9.alloc (.cells #[.int .i64 (r : Int), .int .i64 c] 3)).alloc (.cells #[.slice (some ⟨w9.heap.size, 0, none⟩) 2 2] 27))) := HB9.out.trans (hA2.mono HB9.out.size)
        have qA : ((w9.alloc (.cells #[.int .i64 (r : Int), .int .i64 c] 3)).alloc (.cells #[.slice (some ⟨w9.heap.size, 0, none⟩) 2 2] 27)).cell? ⟨kg, 0, none⟩ = some (.int .i64 c) := (hA2.cell (p := ⟨kg, 0, none⟩) hkg).trans qk
        have HGA : Hid (kg < ((w9.alloc (.cells #[.int .i64 (r : Int), .int .i64 c] 3)).alloc (.cells #[.slice (some ⟨w9.heap.size, 0, none⟩) 2 2] 27)).heap.size) := Nat.lt_of_lt_of_le hkg hA2.size
        have HQA : Hid (((w9.alloc (.cells #[.int .i64 (r : Int), .int .i64 c] 3)).alloc (.cells #[.slice (some ⟨w9.heap.size, 0, none⟩) 2 2] 27)).cell? ⟨kg, 0, none⟩ = some (.int .i64 c)) := qA
        have i0 : (0 : Int) < (K.length : Int) := by omega
        clear hkc hcm hA hA2 qA O9 P9 HB9 hZ2 hL2 l1
        go_wp2_with fail
        clear qk hkg
        generalize (w9.alloc (.cells #[.int .i64 (r : Int), .int .i64 c] 3)).alloc (.cells #[.slice (some ⟨w9.heap.size, 0, none⟩) 2 2] 27) = WA at *
        refine (spread_any m r ra (some ⟨w9.heap.size + 1, 0, none⟩) rc 1 ts [[(r : Int), c]] WA XA (by omega) MA (by simp)).mono ?_
        rintro e wb ⟨⟨vb, rfl, Ob⟩, bb, _⟩
        rw [← HL2.out] at Ob
        rw [← HZ2.out]
        obtain ⟨ba, bc, rfl⟩ := Ob.form
        have Ob : Hid (OwnI wb WA.heap.size (.slice ba L2.length bc) L2) := Ob
        have HBb : Hid (Below w1.heap.size w1 wb) := HBA.out.trans (bb.mono HBA.out.size)
        have qb : wb.cell? ⟨kg, 0, none⟩ = some (.int .i64 c) := (bb.cell (p := ⟨kg, 0, none⟩) HGA.out).trans HQA.out
        clear bb HBA HGA HQA XA MA
        go_wp2_with fail
        refine (lin_any _ L2 c _ wb Ob HL6.out false HL1).mono ?_
        rintro e wc ⟨rfl, hwc⟩
        subst hwc
        have e1 : (Z2 : Int) ≤ (Z : Int) := by omega
        have e2 : (L2.length : Int) < ((Z + 1 : Nat) : Int) := by omega
        have e3 : (L2.length : Int) < (Z : Int) + 1 := by omega
        go_wp2_with fail
        go_ret
        exact ⟨rfl, HB1.out.trans (HBb.out.mono HB1.out.size)⟩
end Go.Proofs.Ytlfgglmgajcpoaa
