/- The law on drawn rings, walked. -/
import Derived.Test.YtnhnpneedcjcfaaRl
import Derived.BigQuiet
namespace Go.Proofs.Ytnhnpneedcjcfaa
open Go.RowKit Pl
set_option linter.unusedVariables false

set_option maxRecDepth 100000 in
set_option maxHeartbeats 1000000 in
theorem sameI_same (v1 v2 : Value) (ss : List Int) (B1 B2 : Nat) (w : World) (h1 : OwnI w B1 v1 ss) (h2 : OwnI w B2 v2 ss) (hl : ss.length ≤ 1048576) :
    Calls Try.prog 17 #[v1, v2] w fun e w' => e = .returned (.bool true) ∧ Below w.heap.size w w' := by
  by_cases h0 : ss.length = 0
  · obtain ⟨ao1, cap1, rfl⟩ := h1.form
    obtain ⟨ao2, cap2, rfl⟩ := h2.form
    rw [h0]
    clear h1 h2
    go_enter Try.func17, Try.ntmps17
    go_wp2
    refine wp_loop_rounds 1 ?_
    rw [rounds_succ]
    go_wp2
    go_ret
    exact ⟨rfl, Below.refl _ _⟩
  · obtain ⟨g1, cap1, rfl, _, hg1, hc1, _⟩ := h1.some (by omega)
    obtain ⟨g2, cap2, rfl, _, hg2, hc2, _⟩ := h2.some (by omega)
    clear h1 h2
    go_enter Try.func17, Try.ntmps17
    go_wp2
    go_loopw [5] (fun i wr => ∃ k : Nat, k ≤ ss.length ∧ i = .int .i64 k ∧ Below w.heap.size w wr) (fun i _ => ss.length - (intOf i).toNat)
    case atStart => exact ⟨0, by omega, rfl, Below.refl _ _⟩
    case round =>
      obtain ⟨k, hk, rfl, hb⟩ := hrel
      by_cases hlt : k < ss.length
      · have hce1 : wr.cell? ⟨g1, k, none⟩ = some (.int .i64 ss[k]) := (hb.cell (p := ⟨g1, k, none⟩) hg1).trans (hc1 k hlt)
        have hce2 : wr.cell? ⟨g2, k, none⟩ = some (.int .i64 ss[k]) := (hb.cell (p := ⟨g2, k, none⟩) hg2).trans (hc2 k hlt)
        have hq1 : (0 : Int) ≤ (k : Int) := by omega
        have hq2 : (k : Int) < (ss.length : Int) := by omega
        clear hc1 hc2
        go_wp2
        go_quiet (fail)
        go_wp2
        go_roundw
        case rel => exact ⟨k + 1, by omega, by go_num, below_drewK hb _⟩
        case measure => simp [intOf]; omega
      · go_wp2
        go_ret
        exact ⟨rfl, hb⟩

theorem take_push {ms : List Int} {k : Nat} (hk : k < ms.length) : ms.take (k + 1) = ms.take k ++ [ms[k]] := List.take_succ_eq_append_getElem hk

set_option maxRecDepth 100000 in
set_option maxHeartbeats 8000000 in
theorem lawRings (w : World) (n cap : Nat) (ao : Option Addr) (hk : Hid (CodeAt w w.heap.size ao n)) :
    Calls Try.prog 3 #[.slice ao n cap] w fun e w' => e = .returned (.bool true) ∧ Below w.heap.size w w' := by
  by_cases hbig : 1048576 < n
  · go_enter Try.func3, Try.ntmps3
    go_wp2_with fail
    refine (big_any w n cap ao true (by simp; omega)).mono ?_
    rintro e w1 ⟨rfl, hw⟩
    obtain rfl := hw.symm
    go_wp2_with fail
    go_ret
    exact ⟨rfl, Below.refl _ _⟩
  have hn : n ≤ 1048576 := by omega
  go_enter Try.func3, Try.ntmps3
  go_wp2_with fail
  refine (big_any w n cap ao false (by simp; omega)).mono ?_
  rintro e w1 ⟨rfl, hw⟩
  obtain rfl := hw.symm
  clear hw hbig
  go_wp2_with fail
  refine (drawRing_any w n cap ao hn hk).mono ?_
  rintro e w1 ⟨i, ms, v, HRG, hv, rfl, B1⟩
  obtain ⟨av, cv, hvf⟩ := hv.out.form
  subst hvf
  obtain ⟨hm0, hm5, hi19, _⟩ := ring_len HRG.out
  have T1 : Hid (RgAt (w1.alloc (.cells #[.int .i64 i, .slice av ms.length cv] 26)) w1.heap.size i (.slice av ms.length cv)) := heap_alloc_new w1 _
  have V1 : Hid (OwnI (w1.alloc (.cells #[.int .i64 i, .slice av ms.length cv] 26)) w.heap.size (.slice av ms.length cv) ms) := hv.out.alloc _
  have BW : Hid (Below w.heap.size w (w1.alloc (.cells #[.int .i64 i, .slice av ms.length cv] 26))) := B1.alloc B1.size _
  obtain ⟨av', cv', ev, xv⟩ := V1.out.ints
  have eav : av' = av := by simp only [Value.slice.injEq] at ev; exact ev.1.symm
  subst eav
  have X1 : Hid (IntsAt (w1.alloc (.cells #[.int .i64 i, .slice av' ms.length cv] 26)) av' ms) := xv
  have HW1 : Hid ((w1.alloc (.cells #[.int .i64 i, .slice av' ms.length cv] 26)).heap.size = w1.heap.size + 1) := by show _ = _; simp
  clear hv B1 hk ev xv
  obtain ⟨t0, t1⟩ := T1.out.cells
  obtain ⟨bm, om, ham, hbm, hcm⟩ := X1.out 0 hm0
  obtain ⟨m0, hm0e⟩ : ∃ m, m = ms[0]'hm0 := ⟨_, rfl⟩
  rw [← hm0e] at hcm
  have HM0 : Hid (m0 = ms[0]'hm0) := hm0e
  have h0i : (0 : Int) < (ms.length : Int) := by omega
  clear hm0e
  subst ham
  have hcm' : (w1.alloc (.cells #[.int .i64 i, .slice (some ⟨bm, om, none⟩) ms.length cv] 26)).cell? ⟨bm, om, none⟩ = some (.int .i64 m0) := hcm
  go_wp2_with fail
  generalize w1.alloc (.cells #[.int .i64 i, .slice (some ⟨bm, om, none⟩) ms.length cv] 26) = W1 at *
  generalize w1.heap.size = gR at *
  have O0 : Hid (OwnI (W1.alloc (.cells #[] 3)) W1.heap.size (.slice (some ⟨gR + 1, 0, none⟩) 0 0) (ms.take 0)) := by
    have h := OwnI.made W1 W1.heap.size (Nat.le_refl _)
    rw [show (⟨W1.heap.size, 0, none⟩ : Addr) = ⟨gR + 1, 0, none⟩ by rw [HW1.out]] at h
    exact h
  have B0 : Hid (Below W1.heap.size W1 (W1.alloc (.cells #[] 3))) := (Below.refl _ _).alloc (Nat.le_refl _) _
  have HD0 : Hid (m0 = ms[0 % ms.length]'(Nat.mod_lt _ (by omega))) := by show _ = _; rw [HM0.out]; congr 1
  go_loopw [4, 5, 6] (fun dd ll ix wr => ∃ (k : Nat) (z : Int), k ≤ ms.length ∧ ix = .int .i64 k ∧ dd = .int .i64 z ∧ Hid (z = ms[k % ms.length]'(Nat.mod_lt _ (by omega))) ∧ Hid (OwnI wr W1.heap.size ll (ms.take k)) ∧ Hid (Below W1.heap.size W1 wr)) (fun _ _ ix _ => ms.length - (intOf ix).toNat)
  case atStart => exact ⟨0, m0, by omega, rfl, rfl, HD0, O0, B0⟩
  case round =>
    clear O0 B0 HD0 t0 t1
    obtain ⟨k, z, hk, rfl, rfl, HZ, O, B⟩ := hrel
    obtain ⟨ul, hul⟩ : ∃ ul, ul = u5 := ⟨_, rfl⟩
    subst hul
    have T2 : Hid (RgAt wr gR i (.slice (some ⟨bm, om, none⟩) ms.length cv)) := T1.out.stays B.out T1.out.lt
    obtain ⟨t0, t1⟩ := T2.out.cells
    by_cases hlt : k < ms.length
    · have hz : z = ms[k] := by rw [HZ.out]; congr 1; exact Nat.mod_eq_of_lt hlt
      have i1 : (k : Int) < (ms.length : Int) := by omega
      have hB : W1.heap.size ≤ wr.heap.size := B.out.size
      have htl : (ms.take k).length < 4000000 := by rw [List.length_take]; omega
      have HS : Hid (ms.take (k + 1) = ms.take k ++ [z]) := by rw [hz]; exact take_push hlt
      have HX : Hid (nextP i ms z = ms[(k + 1) % ms.length]'(Nat.mod_lt _ (by omega))) := by show _ = _; rw [hz]; exact ring_next HRG.out hlt
      have OU := O.out
      have HZ2 : Hid (z = ms[k]) := hz
      clear hz
      have KEEP : Hid (∀ w', Below W1.heap.size W1 w' → RgAt w' gR i (.slice (some ⟨bm, om, none⟩) ms.length cv) ∧ IntsAt w' (some ⟨bm, om, none⟩) ms) := fun w' hb => ⟨T1.out.stays hb T1.out.lt, X1.out.stays hb⟩
      go_wp2_with (first | (at_builtin; refine wpList_pushI rfl _ _ 24 rfl Try.underlying24 Try.info3' W1.heap.size _ (ms.take k) rfl OU z rfl htl hB ?_; intro v7 w7 hown7 hb7; have O7 : Hid (OwnI w7 W1.heap.size v7 (ms.take (k + 1))) := (by rw [HS.out]; exact hown7); have B7 : Hid (Below W1.heap.size W1 w7) := B.out.trans hb7; obtain ⟨T7, X7⟩ := KEEP.out w7 B7.out; obtain ⟨s0, s1⟩ := T7.cells; have X7 : Hid (IntsAt w7 (some ⟨bm, om, none⟩) ms) := X7; clear hown7 hb7 T7))
      refine (nextOf_any i z (some ⟨bm, om, none⟩) cv ms _ X7 (by omega)).mono ?_
      rintro e w8 ⟨rfl, hb8⟩
      have O8 : Hid (OwnI w8 W1.heap.size v7 (ms.take (k + 1))) := own_laterR O7.out hb8
      have B8 : Hid (Below W1.heap.size W1 w8) := bl_next B7.out hb8
      clear hb8 O7 B7 s0 s1 X7 OU
      go_wp2_with fail
      go_roundw
      case rel => exact ⟨k + 1, _, by omega, by go_num, rfl, HX, O8, B8⟩
      case measure => simp [intOf]; omega
    · obtain rfl : k = ms.length := by omega
      have hz : z = m0 := by
        rw [HZ.out, HM0.out]
        congr 1
        exact Nat.mod_self _
      subst hz
      have OF : Hid (OwnI wr W1.heap.size ul ms) := by have := O.out; rwa [List.take_length] at this
      have X2 : Hid (IntsAt wr (some ⟨bm, om, none⟩) ms) := X1.out.stays B.out
      clear O HZ
      go_wp2_with fail
      refine (first_any i (some ⟨bm, om, none⟩) cv ms _ X2 (by omega)).mono ?_
      rintro e w3 ⟨rfl, hb3⟩
      rw [if_pos HRG.out, if_pos HRG.out]
      have G3 : Hid (TokAt (w3.alloc (.cells #[.int .i64 i, .int .i64 1, .int .i64 0, .int .i64 0, .int .i64 0, .slice none 0 0] 30)) w3.heap.size i 1 0 0 0 (.slice none 0 0)) := heap_alloc_new w3 _
      have b3 : Below wr.heap.size wr (w3.alloc (.cells #[.int .i64 i, .int .i64 1, .int .i64 0, .int .i64 0, .int .i64 0, .slice none 0 0] 30)) := hb3.alloc hb3.size _
      have B3 : Hid (Below W1.heap.size W1 (w3.alloc (.cells #[.int .i64 i, .int .i64 1, .int .i64 0, .int .i64 0, .int .i64 0, .slice none 0 0] 30))) := bl_next B.out b3
      have O3 : Hid (OwnI (w3.alloc (.cells #[.int .i64 i, .int .i64 1, .int .i64 0, .int .i64 0, .int .i64 0, .slice none 0 0] 30)) W1.heap.size ul ms) := own_laterR OF.out b3
      have T3 : Hid (RgAt (w3.alloc (.cells #[.int .i64 i, .int .i64 1, .int .i64 0, .int .i64 0, .int .i64 0, .slice none 0 0] 30)) gR i (.slice (some ⟨bm, om, none⟩) ms.length cv)) := T1.out.stays B3.out T1.out.lt
      have X3 : Hid (IntsAt (w3.alloc (.cells #[.int .i64 i, .int .i64 1, .int .i64 0, .int .i64 0, .int .i64 0, .slice none 0 0] 30)) (some ⟨bm, om, none⟩) ms) := X1.out.stays B3.out
      clear hb3 b3 OF X2 t0 t1 T2 B
      obtain ⟨t0, t1⟩ := T3.out.cells
      go_wp2_with fail
      generalize w3.alloc (.cells #[.int .i64 i, .int .i64 1, .int .i64 0, .int .i64 0, .int .i64 0, .slice none 0 0] 30) = W3 at *
      generalize w3.heap.size = gT at *
      refine (ringOk_any i (some ⟨bm, om, none⟩) cv ms _ X3 (by omega)).mono ?_
      rintro e w4 ⟨rfl, hb4⟩
      rw [HRG.out]
      have B4 : Hid (Below W1.heap.size W1 w4) := bl_next B3.out hb4
      have O4 : Hid (OwnI w4 W1.heap.size ul ms) := own_laterR O3.out hb4
      have G4 : Hid (TokAt w4 gT i 1 0 0 0 (.slice none 0 0)) := G3.out.stays hb4 G3.out.lt
      have V4 : Hid (OwnI w4 w.heap.size (.slice (some ⟨bm, om, none⟩) ms.length cv) ms) := own_laterR V1.out B4.out
      have T4 : Hid (RgAt w4 gR i (.slice (some ⟨bm, om, none⟩) ms.length cv)) := T1.out.stays B4.out T1.out.lt
      clear hb4 B3 O3 G3 T3 X3 t0 t1
      obtain ⟨t0, t1⟩ := T4.out.cells
      go_wp2_with fail
      refine (sameI_same _ _ ms _ _ w4 O4.out V4.out (by omega)).mono ?_
      rintro e w5 ⟨rfl, hb5⟩
      have B5 : Hid (Below W1.heap.size W1 w5) := bl_next B4.out hb5
      have G5 : Hid (TokAt w5 gT i 1 0 0 0 (.slice none 0 0)) := G4.out.stays hb5 G4.out.lt
      have T5 : Hid (RgAt w5 gR i (.slice (some ⟨bm, om, none⟩) ms.length cv)) := T1.out.stays B5.out T1.out.lt
      have X5 : Hid (IntsAt w5 (some ⟨bm, om, none⟩) ms) := X1.out.stays B5.out
      obtain ⟨bm', om', e5, _, h5⟩ := X5.out 0 hm0
      simp only [Option.some.injEq, Addr.mk.injEq, and_true] at e5
      obtain ⟨rfl, rfl⟩ := e5
      rw [← HM0.out] at h5
      have h5' : w5.cell? ⟨bm, om, none⟩ = some (.int .i64 z) := h5
      clear hb5 B4 O4 G4 V4 T4 t0 t1 h5
      obtain ⟨t0, t1⟩ := T5.out.cells
      go_wp2_with fail
      refine (nextOf_any i 9 (some ⟨bm, om, none⟩) cv ms _ X5 (by omega)).mono ?_
      rintro e w6 ⟨rfl, hb6⟩
      rw [ring_nine HRG.out]
      have B6 : Hid (Below W1.heap.size W1 w6) := bl_next B5.out hb6
      have G6 : Hid (TokAt w6 gT i 1 0 0 0 (.slice none 0 0)) := G5.out.stays hb6 G5.out.lt
      have T6 : Hid (RgAt w6 gR i (.slice (some ⟨bm, om, none⟩) ms.length cv)) := T1.out.stays B6.out T1.out.lt
      clear hb6 B5 G5 T5 X5 t0 t1 h5'
      obtain ⟨t0, t1⟩ := T6.out.cells
      obtain ⟨g0, g1, g2, g3, g4, g5⟩ := G6.out.cells
      have N6 : Hid (IntsAt w6 none ([] : List Int)) := fun j hj => absurd hj (by simp)
      go_wp2_with fail
      refine (tokenOk_any i 1 0 0 0 none 0 [] _ N6 (by simp)).mono ?_
      rintro e w7 ⟨rfl, hb7⟩
      rw [first_tok HRG.out]
      have BF : Below w.heap.size w w7 := bl_next BW.out (bl_next B6.out hb7)
      clear hb7
      go_wp2_with fail
      go_ret
      exact ⟨rfl, BF⟩
end Go.Proofs.Ytnhnpneedcjcfaa
