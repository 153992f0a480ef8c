/- The walk over the program's Spread. -/
import Derived.Test.YtlfgglmgajcpoaaSq
import Derived.Test.YtlfgglmgajcpoaaCk
import Derived.Test.YtlfgglmgajcpoaaLo
import Derived.Test.YtlfgglmgajcpoaaPg
import Derived.Test.YtlfgglmgajcpoaaTb
namespace Go.Proofs.Ytlfgglmgajcpoaa
open Go.RowKit Pl
set_option linter.unusedVariables false

/-- who has it in the midst of a telling. -/
def mid (T : List Int) (ls : List (List Int)) (H : List Int) (v : Int) (j : Nat) : List Int := H ++ ((chl T v).take j).filter fun c => !lostB ls v c
theorem mid_zero (T : List Int) (ls : List (List Int)) (H : List Int) (v : Int) : mid T ls H v 0 = H := by simp [mid]
theorem mid_yes {T : List Int} {ls : List (List Int)} {H : List Int} {v c : Int} {j : Nat} (h : (chl T v)[j]? = some c) (hl : lostB ls v c = false) : mid T ls H v (j + 1) = mid T ls H v j ++ [c] := by
  obtain ⟨hj, hc⟩ := List.getElem?_eq_some_iff.1 h
  unfold mid
  rw [List.take_succ_eq_append_getElem hj, List.filter_append, hc, List.filter_cons_of_pos (by simp [hl]), List.append_assoc]
  rfl
theorem mid_no {T : List Int} {ls : List (List Int)} {H : List Int} {v c : Int} {j : Nat} (h : (chl T v)[j]? = some c) (hl : lostB ls v c = true) : mid T ls H v (j + 1) = mid T ls H v j := by
  obtain ⟨hj, hc⟩ := List.getElem?_eq_some_iff.1 h
  unfold mid
  rw [List.take_succ_eq_append_getElem hj, List.filter_append, hc, List.filter_cons_of_neg (by simp [hl])]
  simp
theorem mid_end {T : List Int} {ls : List (List Int)} {r v : Int} {k : Nat} (h : (had T ls r k)[k]? = some v) : mid T ls (had T ls r k) v (chl T v).length = had T ls r (k + 1) := by
  rw [had_succ h]
  unfold mid kept
  rw [List.take_of_length_le (Nat.le_refl _)]
theorem mid_get {T : List Int} {ls : List (List Int)} {H : List Int} {v : Int} {j k : Nat} (h : H[k]? = some v) : (mid T ls H v j)[k]? = some v := by
  unfold mid
  rw [List.getElem?_append_left (List.getElem?_eq_some_iff.1 h).1]
  exact h
theorem mid_le (T : List Int) (ls : List (List Int)) (H : List Int) (v : Int) (j : Nat) : (mid T ls H v j).length ≤ H.length + T.length := by
  unfold mid
  rw [List.length_append]
  have h1 := List.length_filter_le (fun c => !lostB ls v c) ((chl T v).take j)
  have h2 := chl_len T v
  rw [List.length_take] at h1
  omega

set_option maxRecDepth 100000 in
set_option maxHeartbeats 8000000 in
theorem spread_any (n s : Int) (ao lo : Option Addr) (cap lc : Nat) (ts : List Rd) (ls : List (List Int)) (w : World) (hx : Hid (RoadsAt w ao ts)) (hl : ts.length ≤ 1048576) (hy : Hid (LsAt w lo ls)) (hl2 : ls.length ≤ 1048576) :
    Calls Try.prog 18 #[.int .i64 n, .slice ao ts.length cap, .int .i64 s, .slice lo ls.length lc] w fun e w' => (∃ v, e = .returned (.tuple #[v, .int .i64 (spreadN n ts s ls : Nat)]) ∧ OwnI w' w.heap.size v (spreadH n ts s ls)) ∧ Below w.heap.size w w' ∧ True := by
  go_enter Try.func18, Try.ntmps18
  go_wp2_with fail
  refine (tree_any n s ao cap ts w hx hl).mono ?_
  rintro e w1 ⟨⟨v1, rfl, O1⟩, b1, _⟩
  obtain ⟨T, hT⟩ : ∃ T, T = trees n ts s := ⟨_, rfl⟩
  rw [← hT] at O1
  obtain ⟨ta, tc, rfl⟩ := O1.form
  obtain ⟨N, hN⟩ : ∃ N, N = T.length := ⟨_, rfl⟩
  have hN6 : N ≤ 6 := by have := trees_le n ts s; rw [← hT] at this; omega
  have HT : Hid (T = trees n ts s) := hT
  have HN : Hid (N = T.length) := hN
  have HO1 : Hid (OwnI w1 w.heap.size (.slice ta N tc) T) := by rw [hN]; exact O1
  have HB1 : Hid (Below w.heap.size w w1) := b1
  rw [← hN]
  clear O1 b1
  by_cases hN0 : N = 0
  · have HR : Hid (spreadH n ts s ls = [] ∧ spreadN n ts s ls = 0) := by
      unfold spreadH spreadN
      rw [← hT, ← hN, if_pos hN0, if_pos hN0]
      exact ⟨rfl, rfl⟩
    have d0 : ((N : Int) == 0) = true := by simp [hN0]
    clear hN hT hN0
    go_wp2_with fail
    go_ret2
    have b2 : Below w1.heap.size w1 (w1.alloc (.cells #[] 3)) := (Below.refl _ _).alloc (Nat.le_refl _) _
    refine ⟨⟨_, by rw [HR.out.2]; rfl, by rw [HR.out.1]; exact OwnI.made w1 _ HB1.out.size⟩, HB1.out.trans (b2.mono HB1.out.size), trivial⟩
  have d0 : ((N : Int) == 0) = false := by simp [hN0]
  have d0' : ¬ (N : Int) = 0 := by omega
  obtain ⟨hok, hs0, hs1⟩ := dists_some (n := n) (s := s) (ts := ts) (by rw [← trees_length, ← hT]; omega)
  obtain ⟨r, hr⟩ : ∃ r : Nat, s = (r : Int) := ⟨s.toNat, by omega⟩
  have HRT := trees_root (r := r) hok (by omega)
  rw [← hr, ← hT] at HRT
  have HR0 : Hid (T.getD r (-2) = -1) := HRT.1
  have hrN : r < N := by rw [hN]; exact HRT.2
  have HS : Hid (s = (r : Int)) := hr
  have HF : Hid (spreadH n ts s ls = ascOf N (had T ls r N) ∧ spreadN n ts s ls = sentN T ls r N) := by
    unfold spreadH spreadN
    rw [← hT, ← hN, if_neg hN0, if_neg hN0, hr]
    exact ⟨rfl, rfl⟩
  clear hr HRT hN hT hok hs0 hs1 hN0
  have HX1 : Hid (LsAt w1 lo ls) := hy.out.stays HB1.out
  have O2 : Hid (OwnI (w1.alloc (.cells #[.int .i64 s] 3)) w1.heap.size (.slice (some ⟨w1.heap.size, 0, none⟩) 1 1) (had T ls r 0)) := by
    have := OwnI.lit w1 w1.heap.size [s] (Nat.le_refl _) (by simp)
    show OwnI _ _ _ [(r : Int)]
    rw [← HS.out]
    exact this
  have B2 : Hid (Below w1.heap.size w1 (w1.alloc (.cells #[.int .i64 s] 3))) := (Below.refl _ _).alloc (Nat.le_refl _) _
  go_wp2_with fail
  generalize w1.alloc (.cells #[.int .i64 s] 3) = W2 at *
  go_loopw [11, 12, 13] (fun v sn i wr => ∃ (k : Nat), k ≤ (had T ls r k).length ∧ i = .int .i64 k ∧ sn = .int .i64 (sentN T ls r k : Nat) ∧ Hid (OwnI wr w1.heap.size v (had T ls r k)) ∧ Hid (Below w1.heap.size w1 wr)) (fun _ _ i _ => 7 - (intOf i).toNat)
  case atStart => exact ⟨0, Nat.zero_le _, rfl, rfl, O2, B2⟩
  case round =>
    obtain ⟨k, hk, rfl, rfl, hO, hb⟩ := hrel
    clear O2 B2
    have HOKK := had_ok (ls := ls) (r := r) (T := T) (by rw [← HN.out]; exact hrN) HR0.out k
    have hlen := had_len (ls := ls) (r := r) (T := T) (by rw [← HN.out]; exact hrN) HR0.out k
    rw [← HN.out] at hlen
    have hsn := sentN_le T ls r k
    rw [← HN.out] at hsn
    have hsn2 : sentN T ls r k ≤ 100 := Nat.le_trans hsn (Nat.le_trans (Nat.mul_le_mul hN6 (show k ≤ 6 by omega)) (by omega))
    have hk6 : k ≤ 6 := by omega
    obtain ⟨H, hH⟩ : ∃ H, H = had T ls r k := ⟨_, rfl⟩
    obtain ⟨S, hS⟩ : ∃ S, S = sentN T ls r k := ⟨_, rfl⟩
    have HH : Hid (H = had T ls r k) := hH
    have HSS : Hid (S = sentN T ls r k) := hS
    have HOK2 : Hid (HadOk T r k H) := by rw [hH]; exact HOKK
    rw [← hH] at hO hk hlen
    rw [← hS] at hsn2 ⊢
    clear hH hS hsn HOKK
    obtain ⟨va, vc, rfl⟩ := hO.out.form
    by_cases hlt : k < H.length
    · obtain ⟨g, gc, hv, hgB, hgl, hcell, _⟩ := hO.out.some (by omega)
      simp at hv
      obtain ⟨rfl, rfl⟩ := hv
      obtain ⟨x, hx0⟩ : ∃ x, H[k]? = some x := ⟨_, List.getElem?_eq_getElem hlt⟩
      have hxk : H[k] = x := by rw [List.getElem?_eq_getElem hlt] at hx0; simpa using hx0
      have q0 := hcell k hlt
      rw [hxk] at q0
      have HXK : Hid (H[k]? = some x) := hx0
      have hxs := HOK2.out.site x (List.mem_of_getElem? hx0)
      rw [← HN.out] at hxs
      have OT : OwnI wr w.heap.size (.slice ta N tc) T := HO1.out.stays hb.out (fun k hk => (HO1.out.lt k hk).2)
      obtain ⟨tg, tgc, htv, _⟩ := OT.some (by rw [← HN.out]; omega)
      rw [← HN.out] at htv
      simp at htv
      obtain ⟨rfl, rfl⟩ := htv
      have HOT : Hid (OwnI wr w.heap.size (.slice (some ⟨tg, 0, none⟩) N tc) T) := OT
      have i0 : (0 : Int) ≤ (k : Int) := by omega
      have i1 : (k : Int) < (H.length : Int) := by omega
      have i2 : ¬ (H.length : Int) ≤ (k : Int) := by omega
      clear hcell hx0 hxk OT
      go_wp2_with fail
      refine (children_any x N tg tc w.heap.size T wr HOT HN.out.symm hN6 (by omega)).mono ?_
      rintro e w3 ⟨⟨u, rfl, OC⟩, b3⟩
      obtain ⟨C, hC⟩ : ∃ C, C = chl T x := ⟨_, rfl⟩
      rw [← hC] at OC
      have HC : Hid (C = chl T x) := hC
      have hCl : C.length ≤ 6 := by have := chl_len T x; rw [← hC, ← HN.out] at this; omega
      obtain ⟨ua, uc, rfl⟩ := OC.form
      have HOC : Hid (OwnI w3 wr.heap.size (.slice ua C.length uc) C) := OC
      have HO3 : Hid (OwnI w3 w1.heap.size (.slice (some ⟨g, 0, none⟩) H.length vc) (mid T ls H x 0)) := by rw [mid_zero]; exact hO.out.stays b3 (fun k hk => (hO.out.lt k hk).2)
      have HB3 : Hid (Below w1.heap.size w1 w3) := hb.out.trans (b3.mono hb.out.size)
      have HDJ : Hid (∀ i, (Value.slice (some ⟨g, 0, none⟩) H.length vc).ownBlock = some i → (Value.slice ua C.length uc).ownBlock ≠ some i) := fun i h1 h2 => by have := (hO.out.lt i h1).2; have := (OC.lt i h2).1; omega
      clear hC OC q0 hO HOT
      generalize wr = WO at *
      go_wp2_with fail
      clear b3
      go_loopw [11, 12, 39] (fun v sn i wr => ∃ (j : Nat), j ≤ C.length ∧ i = .int .i64 j ∧ sn = .int .i64 ((S + j : Nat) : Int) ∧ Hid (OwnI wr w1.heap.size v (mid T ls H x j)) ∧ Hid (OwnI wr WO.heap.size (.slice ua C.length uc) C) ∧ Hid (∀ i, v.ownBlock = some i → (Value.slice ua C.length uc).ownBlock ≠ some i) ∧ Hid (Below w1.heap.size w1 wr)) (fun _ _ i _ => C.length - (intOf i).toNat)
      case atStart => exact ⟨0, Nat.zero_le _, rfl, rfl, HO3, HOC, HDJ, HB3⟩
      case round =>
        obtain ⟨j, hj, rfl, rfl, hM, hU, hD, hb2⟩ := hrel
        clear HO3 HOC HDJ HB3
        by_cases hjl : j < C.length
        · obtain ⟨c, hc⟩ : ∃ c, C[j]? = some c := ⟨_, List.getElem?_eq_getElem hjl⟩
          have hcj : C[j] = c := by rw [List.getElem?_eq_getElem hjl] at hc; simpa using hc
          obtain ⟨cg, cc, hcv, _, hcg, hcell, _⟩ := hU.out.some (by omega)
          simp at hcv
          obtain ⟨rfl, rfl⟩ := hcv
          have q1 := hcell j hjl
          rw [hcj] at q1
          have HCJ : Hid ((chl T x)[j]? = some c) := by rw [← HC.out]; exact hc
          have hmg := mid_get (T := T) (ls := ls) (v := x) (j := j) HXK.out
          have hml := mid_le T ls H x j
          rw [← HN.out] at hml
          have hmk := (List.getElem?_eq_some_iff.1 hmg).1
          obtain ⟨mg, mc, hmv, hmB, hmw, hmc, _⟩ := hM.out.some (by omega)
          subst hmv
          have q2 := hmc k hmk
          rw [(List.getElem?_eq_some_iff.1 hmg).2] at q2
          obtain ⟨M, hMM⟩ : ∃ M, M = mid T ls H x j := ⟨_, rfl⟩
          have HMM : Hid (M = mid T ls H x j) := hMM
          rw [← hMM] at hM hml hmk ⊢
          clear hMM hmc hmg hcell hc hcj
          have k1 : (k : Int) < (M.length : Int) := by omega
          have j0 : (0 : Int) ≤ (j : Int) := by omega
          have j1 : (j : Int) < (C.length : Int) := by omega
          have XL : Hid (LsAt wr lo ls) := HX1.out.stays hb2.out
          have hws : IntKind.i64.wrap (((S + j : Nat) : Int) + 1) = ((S + (j + 1) : Nat) : Int) := by rw [IntKind.wrap_i64]; omega
          go_wp2_with fail
          refine (isLost_any lo lc ls x c wr XL hl2).mono ?_
          rintro e w4 ⟨rfl, b4⟩
          have hM4 : Hid (OwnI w4 w1.heap.size (.slice (some ⟨mg, 0, none⟩) M.length mc) M) := hM.out.stays b4 (fun k hk => (hM.out.lt k hk).2)
          have hU4 : Hid (OwnI w4 WO.heap.size (.slice (some ⟨cg, 0, none⟩) C.length uc) C) := hU.out.stays b4 (fun k hk => (hU.out.lt k hk).2)
          have hB4 : Hid (Below w1.heap.size w1 w4) := hb2.out.trans (b4.mono hb2.out.size)
          clear q1 q2 b4 hM hU hb2 XL
          cases hLB : lostB ls x c with
          | true =>
            have HMN : Hid (mid T ls H x (j + 1) = M) := by rw [HMM.out]; exact mid_no HCJ.out hLB
            clear hLB
            go_wp2_with fail
            go_roundw
            case rel => exact ⟨j + 1, by omega, by go_num, (by first | rfl | (congr 1)), (by show OwnI _ _ _ _; rw [HMN.out]; exact hM4.out), hU4, hD, hB4⟩
            case measure => simp [intOf]; omega
          | false =>
            have HMN : Hid (mid T ls H x (j + 1) = M ++ [c]) := by rw [HMM.out]; exact mid_yes HCJ.out hLB
            have hs4 : w1.heap.size ≤ w4.heap.size := hB4.out.size
            have hcl4 : cg < w4.heap.size := (hU4.out.lt cg rfl).2
            clear hLB
            go_wp2_with (at_builtin; refine wpList_pushIg rfl _ _ 27 rfl Try.underlying27 Try.info3i w1.heap.size _ M rfl hM4.out c rfl (by omega) hs4 ?_; intro v6 w6 hown6 hg6 hbk6)
            go_roundw
            case rel =>
              refine ⟨j + 1, by omega, by go_num, (by first | rfl | (congr 1)), (by show OwnI _ _ _ _; rw [HMN.out]; exact hown6), ownI_grown hU4.out hg6 (fun i hi he => hD.out i he.symm hi), (fun i h1 h2 => ?_), ?_⟩
              · rcases hbk6 with hbk | hbk
                · rw [hbk] at h1; exact hD.out i h1 h2
                · rw [hbk] at h1
                  simp [Value.ownBlock] at h1 h2
                  omega
              · exact hB4.out.grown hg6 hs4 (fun i hi => (hM4.out.lt i hi).1)
            case measure => simp [intOf]; omega
        · obtain rfl : j = C.length := by omega
          have HME : Hid (mid T ls H x C.length = had T ls r (k + 1)) := by
            rw [HC.out, HH.out]
            exact mid_end (by rw [← HH.out]; exact HXK.out)
          have HSE : Hid (((S + C.length : Nat) : Int) = (sentN T ls r (k + 1) : Nat)) := by
            show ((S + C.length : Nat) : Int) = _
            rw [sentN_succ (by rw [← HH.out]; exact HXK.out), HSS.out, HC.out]
          have hkl : k + 1 ≤ (had T ls r (k + 1)).length := by
            rw [← HME.out]
            unfold mid
            rw [List.length_append]
            omega
          go_wp2_with fail
          go_roundw
          case rel => exact ⟨k + 1, hkl, by go_num, by rw [HSE.out], (by show OwnI _ _ _ _; rw [← HME.out]; exact hM.out), hb2⟩
          case measure => simp [intOf]; omega
    · have hkE : (had T ls r k).length ≤ k := by rw [← HH.out]; omega
      have hst := had_stopN (N := N) hkE (by omega)
      have HE : Hid (had T ls r N = H ∧ sentN T ls r N = S) := ⟨hst.1.trans HH.out.symm, hst.2.trans HSS.out.symm⟩
      have HAS : Hid (H.mergeSort (fun x y => decide (x ≤ y)) = ascOf N H) := sorted_is HOK2.out.nodup (by rw [HN.out]; exact HOK2.out.site)
      have hH1 : 0 < H.length := by
        rw [HH.out]
        have : ∀ m, 0 < (had T ls r m).length := fun m => by
          induction m with
          | zero => simp [had]
          | succ m ih => show 0 < (had T ls r m ++ _).length; rw [List.length_append]; omega
        exact this k
      obtain ⟨g, gc, hv, hgB, _, _, _⟩ := hO.out.some hH1
      simp at hv
      obtain ⟨rfl, rfl⟩ := hv
      have i2 : ¬ (k : Int) < (H.length : Int) := by omega
      clear hst hkE
      go_wp2_with fail
      refine (sortOwn w1.heap.size g H.length vc H wr hO.out rfl (by omega)).mono ?_
      rintro e w5 ⟨⟨u5, rfl⟩, O5, G5⟩
      go_wp2_with fail
      go_ret2
      refine ⟨⟨_, by rw [HF.out.2, HE.out.2]; rfl, ?_⟩, HB1.out.trans ((hb.out.grown G5 hb.out.size (fun i hi => by simp at hi; omega)).mono HB1.out.size), trivial⟩
      rw [HF.out.1, HE.out.1, ← HAS.out]
      exact O5.down HB1.out.size
end Go.Proofs.Ytlfgglmgajcpoaa
