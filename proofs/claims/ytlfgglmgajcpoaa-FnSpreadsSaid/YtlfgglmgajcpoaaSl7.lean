/- The walk over the law on sites. -/
import Derived.Test.YtlfgglmgajcpoaaSi
namespace Go.Proofs.Ytlfgglmgajcpoaa
open Go.RowKit Pl
set_option linter.unusedVariables false

theorem OwnI.slice {w : World} {B N : Nat} {v : Value} {ss : List Int} (h : OwnI w B v ss) (hl : ss.length = N) (h0 : 0 < N) : ∃ g cap, v = .slice (some ⟨g, 0, none⟩) N cap := by
  obtain ⟨g, cap, hv, _⟩ := h.some (by omega)
  exact ⟨g, cap, by rw [← hl]; exact hv⟩

set_option maxRecDepth 100000 in
set_option maxHeartbeats 8000000 in
theorem lawSites (w : World) (n cap : Nat) (ao : Option Addr) (hk : Hid (CodeAt w w.heap.size ao n)) :
    Calls Try.prog 3 #[.slice ao n cap] w fun e w' => e = .returned (.bool true) ∧ Below w.heap.size w w' := by
  by_cases hn : 1048576 < n
  · have hd : decide (1048576 < (n : Int)) = true := decide_eq_true (by omega)
    go_enter Try.func3, Try.ntmps3
    go_wp2_with fail
    refine (big_any w n cap ao true hd).mono ?_
    rintro e w1 ⟨rfl, hw⟩
    obtain rfl := hw.symm
    go_wp2_with fail
    go_ret
    exact ⟨rfl, Below.refl _ _⟩
  have hd : decide (1048576 < (n : Int)) = false := decide_eq_false (by omega)
  go_enter Try.func3, Try.ntmps3
  go_wp2_with fail
  refine (big_any w n cap ao false hd).mono ?_
  rintro e w1 ⟨rfl, hw⟩
  obtain rfl := hw.symm
  clear hw hd
  go_wp2_with fail
  refine (drawRoads_any w n cap ao (by omega) hk).mono ?_
  rintro e w1 ⟨⟨N, v, ts, rfl, hN2, hN6, hok, hsl⟩, b1⟩
  obtain ⟨ra, rc, rfl, hra⟩ := hsl.roads
  have HX : Hid (RoadsAt w1 ra ts) := hra
  have HOK : Hid (RoadsP N ts) := hok
  have hl12 : ts.length ≤ 12 := hok.2.2.1
  have HB1 : Hid (Below w.heap.size w w1) := b1
  have HF6 : Hid (Fits N ts) := hok.fits
  clear hsl hra hok b1 hk hn
  go_wp2_with fail
  go_loopw [5] (fun i wr => ∃ (r : Nat), r ≤ N ∧ i = .int .i64 r ∧ Hid (Below w1.heap.size w1 wr)) (fun i _ => N - (intOf i).toNat)
  case atStart => exact ⟨0, by omega, rfl, Below.refl _ _⟩
  case round =>
    obtain ⟨r, hr, rfl, hb⟩ := hrel
    by_cases hlt : r < N
    · have FI := fine HOK.out hlt
      have HFI : Hid (Fine N ts r) := FI
      obtain ⟨D, hD⟩ : ∃ D, D = dists N ts r := ⟨_, rfl⟩
      obtain ⟨T, hT⟩ : ∃ T, T = trees N ts r := ⟨_, rfl⟩
      have HD : Hid (D = dists N ts r) := hD
      have HT : Hid (T = trees N ts r) := hT
      have hDl : D.length = N := by rw [hD]; exact FI.dl
      have hTl : T.length = N := by rw [hT, trees_length]; exact FI.dl
      have HDL : Hid (D.length = N) := hDl
      have HTL : Hid (T.length = N) := hTl
      have X2 : Hid (RoadsAt wr ra ts) := HX.out.stays hb.out
      clear hDl hTl FI
      go_wp2_with fail
      refine (dist_any N r ra rc ts wr X2 (by omega)).mono ?_
      rw [← hD]
      rintro e w2 ⟨⟨v2, rfl, O2⟩, b2, _⟩
      obtain ⟨g2, c2, rfl⟩ := OwnI.slice O2 HDL.out (by omega)
      have O2 : Hid (OwnI w2 wr.heap.size (.slice (some ⟨g2, 0, none⟩) N c2) D) := O2
      have X3 : Hid (RoadsAt w2 ra ts) := X2.out.stays b2
      clear X2
      go_wp2_with fail
      refine (tree_any N r ra rc ts w2 X3 (by omega)).mono ?_
      rw [← hT]
      rintro e w3 ⟨⟨v3, rfl, O3⟩, b3, _⟩
      obtain ⟨g3, c3, rfl⟩ := OwnI.slice O3 HTL.out (by omega)
      have P3 : Hid (OwnI w3 w2.heap.size (.slice (some ⟨g3, 0, none⟩) N c3) T) := O3
      have O3 : Hid (OwnI w3 wr.heap.size (.slice (some ⟨g2, 0, none⟩) N c2) D) := O2.out.stays b3 (fun k hk => (O2.out.lt k hk).2)
      have X4 : Hid (RoadsAt w3 ra ts) := X3.out.stays b3
      have B3 : Hid (Below w1.heap.size w1 w3) := (hb.out.trans (b2.mono hb.out.size)).trans (b3.mono (by have := hb.out.size; have := b2.size; omega))
      clear b2 b3 O2 X3 hb
      have q0 : w3.cell? ⟨g2, r, none⟩ = some (.int .i64 0) := (own_cell O3.out HDL.out r 0 (by
        have := HFI.out.d0
        rw [← HD.out, fn_nat (by rw [HDL.out]; exact hlt)] at this
        rw [← this]
        exact List.getElem?_eq_getElem _)).1
      have q1 : w3.cell? ⟨g3, r, none⟩ = some (.int .i64 (-1)) := (own_cell P3.out HTL.out r (-1) (by
        have := HFI.out.t0
        rw [HT.out]
        simp only [trees, List.getElem?_map]
        rw [List.getElem?_range (by rw [HFI.out.dl]; exact hlt)]
        simp only [Option.map_some]
        rw [this])).1
      have i0 : (0 : Int) ≤ (r : Int) := by omega
      have i1 : (r : Int) < (N : Int) := by omega
      go_wp2_with fail
      refine (spTree_any N r ra rc ts w3 X4 (by omega)).mono ?_
      rw [← hT]
      rintro e w4 ⟨⟨v4, rfl, O4⟩, b4⟩
      have O5 : Hid (OwnI w4 wr.heap.size (.slice (some ⟨g2, 0, none⟩) N c2) D) := O3.out.stays b4 (fun k hk => (O3.out.lt k hk).2)
      have P5 : Hid (OwnI w4 w2.heap.size (.slice (some ⟨g3, 0, none⟩) N c3) T) := P3.out.stays b4 (fun k hk => (P3.out.lt k hk).2)
      have Q5 : Hid (OwnI w4 w3.heap.size v4 T) := O4
      have B5 : Hid (Below w1.heap.size w1 w4) := B3.out.trans (b4.mono B3.out.size)
      clear O3 P3 b4 B3 X4 O4 q0 q1
      go_wp2_with fail
      refine (sameI_same _ _ T _ _ w4 P5.out Q5.out (by rw [HTL.out]; omega)).mono ?_
      rintro e w5 ⟨rfl, b5⟩
      have O6 : Hid (OwnI w5 wr.heap.size (.slice (some ⟨g2, 0, none⟩) N c2) D) := O5.out.stays b5 (fun k hk => (O5.out.lt k hk).2)
      have P6 : Hid (OwnI w5 w2.heap.size (.slice (some ⟨g3, 0, none⟩) N c3) T) := P5.out.stays b5 (fun k hk => (P5.out.lt k hk).2)
      have B6 : Hid (Below w1.heap.size w1 w5) := B5.out.trans (b5.mono B5.out.size)
      have X6 : Hid (RoadsAt w5 ra ts) := HX.out.stays B6.out
      clear O5 P5 Q5 b5 B5 hD hT
      go_wp2_with fail
      generalize wr = WO at *
      go_loopw [8] (fun i wr => ∃ (k : Nat), k ≤ ts.length ∧ i = .int .i64 k ∧ Hid (Below w5.heap.size w5 wr)) (fun i _ => ts.length - (intOf i).toNat)
      case atStart => exact ⟨0, by omega, rfl, Below.refl _ _⟩
      case round =>
        obtain ⟨k, hk, rfl, hb⟩ := hrel
        by_cases hkl : k < ts.length
        · obtain ⟨b, off, rfl, hbb, h0, h1, h2⟩ := X6.out.stays hb.out k hkl
          have HP : Hid (∃ x : Rd, x = ts[k]) := ⟨_, rfl⟩
          obtain ⟨⟨q, f, t⟩, hp⟩ := HP.out
          rw [← hp] at h0 h1 h2
          have hft := HF6.out ts[k] (List.getElem_mem hkl)
          have hrd := HFI.out.road k hkl
          have hby := HFI.out.by' k hkl
          rw [← hp] at hft hrd hby
          clear hp HP
          dsimp only at h0 h1 h2 hft hrd hby
          obtain ⟨a, ha⟩ : ∃ a : Nat, q = (a : Int) := ⟨q.toNat, by omega⟩
          obtain ⟨c, hc⟩ : ∃ c : Nat, f = (c : Int) := ⟨f.toNat, by omega⟩
          subst ha
          subst hc
          rw [← HD.out] at hrd hby
          rw [Int.toNat_natCast] at hby
          have I0 : Hid (BoxRd (wr.alloc (.cells #[.int .i64 (a : Int), .int .i64 (c : Int), .int .i64 t] 31)) wr.heap.size ⟨(a : Int), (c : Int), t⟩) := heap_alloc_new wr _
          have bA : Below wr.heap.size wr (wr.alloc (.cells #[.int .i64 (a : Int), .int .i64 (c : Int), .int .i64 t] 31)) := (Below.refl _ _).alloc (Nat.le_refl _) _
          have B3 : Hid (Below w5.heap.size w5 (wr.alloc (.cells #[.int .i64 (a : Int), .int .i64 (c : Int), .int .i64 t] 31))) := hb.out.trans (bA.mono hb.out.size)
          have j0 : (0 : Int) ≤ (k : Int) := by omega
          have j1 : (k : Int) < (ts.length : Int) := by omega
          have a0 : (0 : Int) ≤ (a : Int) := by omega
          have a1 : (a : Int) < (N : Int) := by omega
          have b0 : (0 : Int) ≤ (c : Int) := by omega
          have b1 : (c : Int) < (N : Int) := by omega
          obtain ⟨rb, hrb⟩ : ∃ rb, rb = wr.heap.size := ⟨_, rfl⟩
          go_wp2_with fail
          rw [← hrb] at I0 ⊢
          clear h0 h1 h2 hrb hbb bA hb
          generalize wr.alloc (.cells #[.int .i64 (a : Int), .int .i64 (c : Int), .int .i64 t] 31) = W0 at *
          have O0 : OwnI W0 WO.heap.size (.slice (some ⟨g2, 0, none⟩) N c2) D := O6.out.stays B3.out (fun k hk => (O6.out.lt k hk).2)
          have P0 : OwnI W0 w2.heap.size (.slice (some ⟨g3, 0, none⟩) N c3) T := P6.out.stays B3.out (fun k hk => (P6.out.lt k hk).2)
          obtain ⟨za, hza⟩ : ∃ z, fn D (a : Int) = z := ⟨_, rfl⟩
          obtain ⟨zb, hzb⟩ : ∃ z, fn D (c : Int) = z := ⟨_, rfl⟩
          obtain ⟨tb, htb⟩ : ∃ z, ahd D ts c = z := ⟨_, rfl⟩
          have ca := (own_cell O0 HDL.out a za (by rw [← hza, fn_nat (by rw [HDL.out]; omega)]; exact List.getElem?_eq_getElem _)).1
          have cb := (own_cell O0 HDL.out c zb (by rw [← hzb, fn_nat (by rw [HDL.out]; omega)]; exact List.getElem?_eq_getElem _)).1
          have ct := (own_cell P0 HTL.out c tb (by
            rw [HT.out]
            simp only [trees, List.getElem?_map]
            rw [List.getElem?_range (by rw [HFI.out.dl]; omega)]
            simp only [Option.map_some]
            rw [← HD.out, htb])).1
          have bu := dists_bd (n := (N : Int)) (s := (r : Int)) (ts := ts) a
          have bv := dists_bd (n := (N : Int)) (s := (r : Int)) (ts := ts) c
          rw [← HD.out] at bu bv
          rw [hza] at bu hrd
          rw [hzb] at bv hrd
          have HBY : Hid (ahd D ts c = (a : Int) → fn D (c : Int) = fn D (a : Int) + t) := hby
          have HZA : Hid (fn D (a : Int) = za) := hza
          have HZB : Hid (fn D (c : Int) = zb) := hzb
          have HTB : Hid (ahd D ts c = tb) := htb
          obtain ⟨d0, d1, d2⟩ := I0.out.cells
          dsimp only at d0 d1 d2
          have hw1 : IntKind.i64.wrap (za + t) = za + t := by rw [IntKind.wrap_i64]; omega
          have hw2 : IntKind.i64.wrap (zb + t) = zb + t := by rw [IntKind.wrap_i64]; omega
          clear hza hzb htb hby O0 P0
          rcases hrd with ⟨n1, n2⟩ | ⟨n1, n2, n3, n4⟩
          · have m1 : ¬ 0 ≤ za := by omega
            go_quiet (fail)
            go_wp2_with fail
            by_cases e5 : tb = (a : Int)
            · have d5 : (tb == (a : Int)) = true := by simp [e5]
              have d6 : (zb != za + t) = false := by
                have := HBY.out (by rw [HTB.out]; exact e5)
                rw [HZA.out, HZB.out] at this
                simp [this]
              clear e5
              go_quiet (fail)
              go_wp2_with fail
              go_roundw
              case rel => exact ⟨k + 1, by omega, by go_num, (show Below _ _ _ from below_drewN B3.out _)⟩
              case measure => simp [intOf]; omega
            · have d5 : (tb == (a : Int)) = false := by simp [e5]
              go_quiet (fail)
              go_wp2_with fail
              go_roundw
              case rel => exact ⟨k + 1, by omega, by go_num, (show Below _ _ _ from below_drewN B3.out _)⟩
              case measure => simp [intOf]; omega
          · have m1 : ¬ za < 0 := by omega
            have m2 : ¬ zb < 0 := by omega
            have m3 : ¬ za + t < zb := by omega
            have m4 : ¬ zb + t < za := by omega
            go_quiet (fail)
            go_wp2_with fail
            by_cases e5 : tb = (a : Int)
            · have d5 : (tb == (a : Int)) = true := by simp [e5]
              have d6 : (zb != za + t) = false := by
                have := HBY.out (by rw [HTB.out]; exact e5)
                rw [HZA.out, HZB.out] at this
                simp [this]
              clear e5
              go_quiet (fail)
              go_wp2_with fail
              go_roundw
              case rel => exact ⟨k + 1, by omega, by go_num, (show Below _ _ _ from below_drewN B3.out _)⟩
              case measure => simp [intOf]; omega
            · have d5 : (tb == (a : Int)) = false := by simp [e5]
              go_quiet (fail)
              go_wp2_with fail
              go_roundw
              case rel => exact ⟨k + 1, by omega, by go_num, (show Below _ _ _ from below_drewN B3.out _)⟩
              case measure => simp [intOf]; omega
        · have hbx := hb
          clear hb
          go_wp2_with fail
          have B7 : Hid (Below w1.heap.size w1 wr) := B6.out.trans (hbx.out.mono B6.out.size)
          have O7 : Hid (OwnI wr WO.heap.size (.slice (some ⟨g2, 0, none⟩) N c2) D) := O6.out.stays hbx.out (fun k hk => (O6.out.lt k hk).2)
          have P7 : Hid (OwnI wr w2.heap.size (.slice (some ⟨g3, 0, none⟩) N c3) T) := P6.out.stays hbx.out (fun k hk => (P6.out.lt k hk).2)
          clear O6 P6 B6 X6 hbx
          generalize wr = W7 at *
          go_loopw [10] (fun i wr => ∃ (v : Nat), v ≤ N ∧ i = .int .i64 v ∧ Hid (Below W7.heap.size W7 wr)) (fun i _ => N - (intOf i).toNat)
          case atStart => exact ⟨0, by omega, rfl, Below.refl _ _⟩
          case round =>
            obtain ⟨v, hv, rfl, hb⟩ := hrel
            by_cases hvN : v < N
            · have O0 : OwnI wr WO.heap.size (.slice (some ⟨g2, 0, none⟩) N c2) D := O7.out.stays hb.out (fun k hk => (O7.out.lt k hk).2)
              have P0 : OwnI wr w2.heap.size (.slice (some ⟨g3, 0, none⟩) N c3) T := P7.out.stays hb.out (fun k hk => (P7.out.lt k hk).2)
              obtain ⟨za, hza⟩ : ∃ z, fn D (v : Int) = z := ⟨_, rfl⟩
              obtain ⟨tb, htb⟩ : ∃ z, ahd D ts v = z := ⟨_, rfl⟩
              have ca := (own_cell O0 HDL.out v za (by rw [← hza, fn_nat (by rw [HDL.out]; omega)]; exact List.getElem?_eq_getElem _)).1
              have ct := (own_cell P0 HTL.out v tb (by
                rw [HT.out]
                simp only [trees, List.getElem?_map]
                rw [List.getElem?_range (by rw [HFI.out.dl]; omega)]
                simp only [Option.map_some]
                rw [← HD.out, htb])).1
              have hway := HFI.out.way v hvN
              rw [← HD.out, hza, htb] at hway
              have v0 : (0 : Int) ≤ (v : Int) := by omega
              have v1 : (v : Int) < (N : Int) := by omega
              clear hza htb O0 P0
              by_cases e1 : v = r
              · have d1 : ((v : Int) != (r : Int)) = false := by simp [e1]
                clear e1 hway
                go_wp2_with fail
                go_quiet (fail)
                go_wp2_with fail
                go_roundw
                case rel => exact ⟨v + 1, by omega, by go_num, (show Below _ _ _ from below_drewN hb.out _)⟩
                case measure => simp [intOf]; omega
              · have d1 : ((v : Int) != (r : Int)) = true := by simp; omega
                have hway := hway e1
                by_cases e2 : 0 ≤ tb
                · have e3 := hway.1 e2
                  clear hway
                  go_wp2_with fail
                  go_quiet (fail)
                  go_wp2_with fail
                  go_roundw
                  case rel => exact ⟨v + 1, by omega, by go_num, (show Below _ _ _ from below_drewN hb.out _)⟩
                  case measure => simp [intOf]; omega
                · have e3 : ¬ 0 ≤ za := fun h => e2 (hway.2 h)
                  clear hway
                  go_wp2_with fail
                  go_quiet (fail)
                  go_wp2_with fail
                  go_roundw
                  case rel => exact ⟨v + 1, by omega, by go_num, (show Below _ _ _ from below_drewN hb.out _)⟩
                  case measure => simp [intOf]; omega
            · have B8 : Hid (Below w1.heap.size w1 wr) := B7.out.trans (hb.out.mono B7.out.size)
              go_wp2_with fail
              go_roundw
              case rel => exact ⟨r + 1, by omega, by go_num, B8⟩
              case measure => simp [intOf]; omega
    · have HB : Hid (roadsB (N : Int) ts = true) := roadsB_true HOK.out
      have X8 : Hid (RoadsAt wr ra ts) := HX.out.stays hb.out
      go_wp2_with fail
      refine (roadsOk_any (N : Int) ra rc ts wr X8 (by omega)).mono ?_
      rintro e w9 ⟨rfl, b9⟩
      go_wp2_with fail
      go_ret
      exact ⟨by rw [HB.out]; rfl, HB1.out.trans ((hb.out.trans (b9.mono hb.out.size)).mono HB1.out.size)⟩
end Go.Proofs.Ytlfgglmgajcpoaa
