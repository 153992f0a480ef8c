/- The law on what is numbered. -/
import Derived.Test.YtnhnpneedcjcfaaDn
import Derived.Test.YtnhnpneedcjcfaaNf
import Derived.BigQuiet
namespace Go.Proofs.Ytnhnpneedcjcfaa
open Go.RowKit Pl
set_option linter.unusedVariables false

set_option maxRecDepth 100000 in
set_option maxHeartbeats 8000000 in
theorem lawNumbered (w : World) (n cap : Nat) (ao : Option Addr) (hk : Hid (CodeAt w w.heap.size ao n)) :
    Calls Try.prog 4 #[.slice ao n cap] w fun e w' => e = .returned (.bool true) ∧ Below w.heap.size w w' := by
  by_cases hbig : 1048576 < n
  · go_enter Try.func4, Try.ntmps4
    go_wp2_with fail
    refine (big_any w n cap ao true (by simp; omega)).mono ?_
    rintro e w1 ⟨rfl, hw⟩
    obtain rfl := hw.symm
    go_wp2_with fail
    go_ret
    exact ⟨rfl, Below.refl _ _⟩
  have hn : n ≤ 1048576 := by omega
  go_enter Try.func4, Try.ntmps4
  go_wp2_with fail
  refine (big_any w n cap ao false (by simp; omega)).mono ?_
  rintro e w1 ⟨rfl, hw⟩
  obtain rfl := hw.symm
  clear hw hbig
  go_wp2_with fail
  refine (drawNumber_any w n cap ao hn hk).mono ?_
  rintro e w1 ⟨c, r, q, a, b, ws, v, f, lv, vl, tx, vt, hwl, hll, htl, hv, hvl, hvt, rfl, B1⟩
  obtain ⟨av, cv, hvf⟩ := hv.form
  obtain ⟨al, cl, hlf⟩ := hvl.form
  obtain ⟨at_, ct, htf⟩ := hvt.form
  subst hvf
  subst hlf
  subst htf
  have htl7 : tx.length ≤ 7 := htl.1
  have T1 : Hid (TokAt (w1.alloc (.cells #[.int .i64 c, .int .i64 r, .int .i64 q, .int .i64 a, .int .i64 b, .slice av ws.length cv] 30)) w1.heap.size c r q a b (.slice av ws.length cv)) := heap_alloc_new w1 _
  have V1 : Hid (OwnI (w1.alloc (.cells #[.int .i64 c, .int .i64 r, .int .i64 q, .int .i64 a, .int .i64 b, .slice av ws.length cv] 30)) w.heap.size (.slice av ws.length cv) ws) := hv.alloc _
  have BW1 : Hid (Below w.heap.size w (w1.alloc (.cells #[.int .i64 c, .int .i64 r, .int .i64 q, .int .i64 a, .int .i64 b, .slice av ws.length cv] 30))) := B1.alloc B1.size _
  have YL : Hid (IntsAt (w1.alloc (.cells #[.int .i64 c, .int .i64 r, .int .i64 q, .int .i64 a, .int .i64 b, .slice av ws.length cv] 30)) al lv) := by
    obtain ⟨a', c', e', x'⟩ := (hvl.alloc (.cells #[.int .i64 c, .int .i64 r, .int .i64 q, .int .i64 a, .int .i64 b, .slice av ws.length cv] 30)).ints
    have e2 : a' = al := by simp only [Value.slice.injEq] at e'; exact e'.1.symm
    subst e2
    exact x'
  have YT : Hid (TextsAt (w1.alloc (.cells #[.int .i64 c, .int .i64 r, .int .i64 q, .int .i64 a, .int .i64 b, .slice av ws.length cv] 30)) at_ tx) := by
    obtain ⟨a', c', e', x'⟩ := (hvt.alloc (.cells #[.int .i64 c, .int .i64 r, .int .i64 q, .int .i64 a, .int .i64 b, .slice av ws.length cv] 30)).texts
    have e2 : a' = at_ := by simp only [Value.slice.injEq] at e'; exact e'.1.symm
    subst e2
    exact x'
  clear hv hvl hvt B1 hk htl
  obtain ⟨t0, t1, t2, t3, t4, t5⟩ := T1.out.cells
  obtain ⟨R, hR⟩ : ∃ R : List It, R = numL c r q a b ws f lv tx := ⟨_, rfl⟩
  obtain ⟨Q, hQ⟩ : ∃ Q : Int, Q = numQ c r q a b ws f lv tx := ⟨_, rfl⟩
  obtain ⟨A, hA⟩ : ∃ A : Int, A = numA c r q a b ws f lv tx := ⟨_, rfl⟩
  have hR3 : R.length ≤ 3 := by rw [hR]; exact numL_len c r q a b ws f lv tx
  have HR : Hid (R = numL c r q a b ws f lv tx) := hR
  have HQ : Hid (Q = q + (R.length : Int)) := by rw [hQ, hR]; rfl
  have HRT : Hid (tkB c r q a b ws = true → tkB c r Q A b ws = true) := by rw [hQ, hA]; exact num_right
  have SPC : Hid (∀ (W : World), Hid (OwnI W w.heap.size (.slice av ws.length cv) ws) → Hid (IntsAt W al lv) → Hid (TextsAt W at_ tx) → Calls Try.prog 21 #[.agg #[.int .i64 c, .int .i64 r, .int .i64 q, .int .i64 a, .int .i64 b, .slice av ws.length cv], .int .i64 f, .slice al lv.length cl, .slice at_ tx.length ct] W fun e w' => ∃ v vi, e = .returned (.tuple #[.agg #[.int .i64 c, .int .i64 r, .int .i64 Q, .int .i64 A, .int .i64 b, v], vi]) ∧ OwnI w' W.heap.size v ws ∧ SlI w' W.heap.size vi R ∧ Below W.heap.size W w') := fun W h h2 h3 => by rw [hR, hQ, hA]; exact spNumber_any c r q a b f _ ws w.heap.size al cl lv at_ ct tx W h (by omega) h2 (by omega) h3 (by omega)
  have IMP : Hid (∀ (W : World), Hid (OwnI W w.heap.size (.slice av ws.length cv) ws) → Hid (IntsAt W al lv) → Hid (TextsAt W at_ tx) → Calls Try.prog 20 #[.agg #[.int .i64 c, .int .i64 r, .int .i64 q, .int .i64 a, .int .i64 b, .slice av ws.length cv], .int .i64 f, .slice al lv.length cl, .slice at_ tx.length ct] W fun e w' => ∃ v vi, e = .returned (.tuple #[.agg #[.int .i64 c, .int .i64 r, .int .i64 Q, .int .i64 A, .int .i64 b, v], vi]) ∧ OwnI w' W.heap.size v ws ∧ SlI w' W.heap.size vi R ∧ Below W.heap.size W w') := fun W h h2 h3 => by rw [hR, hQ, hA]; exact number_any c r q a b f _ ws w.heap.size al cl lv at_ ct tx W h (by omega) h2 (by omega) h3 (by omega)
  clear hR hQ hA
  go_wp2_with fail
  generalize (w1.alloc (.cells #[.int .i64 c, .int .i64 r, .int .i64 q, .int .i64 a, .int .i64 b, .slice av ws.length cv] 30)) = W1 at *
  generalize w1.heap.size = gT at *
  refine (IMP.out W1 V1 YL YT).mono ?_
  rintro e w2 ⟨vG, viG, rfl, hvG, hiG, hb2⟩
  obtain ⟨aG, cG, hfG⟩ := hvG.form
  subst hfG
  have b2 : Below W1.heap.size W1 (w2.alloc (.cells #[.int .i64 c, .int .i64 r, .int .i64 Q, .int .i64 A, .int .i64 b, .slice aG ws.length cG] 30)) := hb2.alloc hb2.size _
  have GB : Hid (TokAt (w2.alloc (.cells #[.int .i64 c, .int .i64 r, .int .i64 Q, .int .i64 A, .int .i64 b, .slice aG ws.length cG] 30)) w2.heap.size c r Q A b (.slice aG ws.length cG)) := heap_alloc_new w2 _
  have GV : Hid (OwnI (w2.alloc (.cells #[.int .i64 c, .int .i64 r, .int .i64 Q, .int .i64 A, .int .i64 b, .slice aG ws.length cG] 30)) W1.heap.size (.slice aG ws.length cG) ws) := hvG.alloc _
  have GI : Hid (SlI (w2.alloc (.cells #[.int .i64 c, .int .i64 r, .int .i64 Q, .int .i64 A, .int .i64 b, .slice aG ws.length cG] 30)) W1.heap.size viG R) := hiG.below ((Below.refl _ _).alloc (Nat.le_refl _) _)
  replace T1 : Hid (TokAt (w2.alloc (.cells #[.int .i64 c, .int .i64 r, .int .i64 Q, .int .i64 A, .int .i64 b, .slice aG ws.length cG] 30)) gT c r q a b (.slice av ws.length cv)) := T1.out.stays b2 T1.out.lt
  replace V1 : Hid (OwnI (w2.alloc (.cells #[.int .i64 c, .int .i64 r, .int .i64 Q, .int .i64 A, .int .i64 b, .slice aG ws.length cG] 30)) w.heap.size (.slice av ws.length cv) ws) := own_laterZ V1.out b2
  replace YL : Hid (IntsAt (w2.alloc (.cells #[.int .i64 c, .int .i64 r, .int .i64 Q, .int .i64 A, .int .i64 b, .slice aG ws.length cG] 30)) al lv) := YL.out.stays b2
  replace YT : Hid (TextsAt (w2.alloc (.cells #[.int .i64 c, .int .i64 r, .int .i64 Q, .int .i64 A, .int .i64 b, .slice aG ws.length cG] 30)) at_ tx) := YT.out.stays b2
  replace BW1 : Hid (Below w.heap.size w (w2.alloc (.cells #[.int .i64 c, .int .i64 r, .int .i64 Q, .int .i64 A, .int .i64 b, .slice aG ws.length cG] 30))) := bl_next BW1.out b2
  clear hb2 hvG hiG b2 t0 t1 t2 t3 t4 t5 IMP
  obtain ⟨t0, t1, t2, t3, t4, t5⟩ := T1.out.cells
  go_wp2_with fail
  generalize (w2.alloc (.cells #[.int .i64 c, .int .i64 r, .int .i64 Q, .int .i64 A, .int .i64 b, .slice aG ws.length cG] 30)) = W2 at *
  generalize w2.heap.size = gG at *
  refine (SPC.out W2 V1 YL YT).mono ?_
  rintro e w3 ⟨vS, viS, rfl, hvS, hiS, hb3⟩
  obtain ⟨aS, cS, hfS⟩ := hvS.form
  subst hfS
  have b3 : Below W2.heap.size W2 (w3.alloc (.cells #[.int .i64 c, .int .i64 r, .int .i64 Q, .int .i64 A, .int .i64 b, .slice aS ws.length cS] 30)) := hb3.alloc hb3.size _
  have SI : Hid (SlI (w3.alloc (.cells #[.int .i64 c, .int .i64 r, .int .i64 Q, .int .i64 A, .int .i64 b, .slice aS ws.length cS] 30)) W2.heap.size viS R) := hiS.below ((Below.refl _ _).alloc (Nat.le_refl _) _)
  replace GB : Hid (TokAt (w3.alloc (.cells #[.int .i64 c, .int .i64 r, .int .i64 Q, .int .i64 A, .int .i64 b, .slice aS ws.length cS] 30)) gG c r Q A b (.slice aG ws.length cG)) := GB.out.stays b3 GB.out.lt
  replace GV : Hid (OwnI (w3.alloc (.cells #[.int .i64 c, .int .i64 r, .int .i64 Q, .int .i64 A, .int .i64 b, .slice aS ws.length cS] 30)) W1.heap.size (.slice aG ws.length cG) ws) := own_laterZ GV.out b3
  replace GI : Hid (SlI (w3.alloc (.cells #[.int .i64 c, .int .i64 r, .int .i64 Q, .int .i64 A, .int .i64 b, .slice aS ws.length cS] 30)) W1.heap.size viG R) := GI.out.below b3
  replace T1 : Hid (TokAt (w3.alloc (.cells #[.int .i64 c, .int .i64 r, .int .i64 Q, .int .i64 A, .int .i64 b, .slice aS ws.length cS] 30)) gT c r q a b (.slice av ws.length cv)) := T1.out.stays b3 T1.out.lt
  replace V1 : Hid (OwnI (w3.alloc (.cells #[.int .i64 c, .int .i64 r, .int .i64 Q, .int .i64 A, .int .i64 b, .slice aS ws.length cS] 30)) w.heap.size (.slice av ws.length cv) ws) := own_laterZ V1.out b3
  replace YL : Hid (IntsAt (w3.alloc (.cells #[.int .i64 c, .int .i64 r, .int .i64 Q, .int .i64 A, .int .i64 b, .slice aS ws.length cS] 30)) al lv) := YL.out.stays b3
  replace YT : Hid (TextsAt (w3.alloc (.cells #[.int .i64 c, .int .i64 r, .int .i64 Q, .int .i64 A, .int .i64 b, .slice aS ws.length cS] 30)) at_ tx) := YT.out.stays b3
  replace BW1 : Hid (Below w.heap.size w (w3.alloc (.cells #[.int .i64 c, .int .i64 r, .int .i64 Q, .int .i64 A, .int .i64 b, .slice aS ws.length cS] 30))) := bl_next BW1.out b3
  clear hb3 hvS hiS b3 t0 t1 t2 t3 t4 t5 SPC
  go_wp2_with fail
  generalize (w3.alloc (.cells #[.int .i64 c, .int .i64 r, .int .i64 Q, .int .i64 A, .int .i64 b, .slice aS ws.length cS] 30)) = W3 at *
  refine (same_same viG viS R _ _ W3 GI.out SI.out (by omega)).mono ?_
  rintro e W4 ⟨rfl, b4⟩
  replace GB : Hid (TokAt W4 gG c r Q A b (.slice aG ws.length cG)) := GB.out.stays b4 GB.out.lt
  replace GV : Hid (OwnI W4 W1.heap.size (.slice aG ws.length cG) ws) := own_laterZ GV.out b4
  replace GI : Hid (SlI W4 W1.heap.size viG R) := GI.out.below b4
  replace T1 : Hid (TokAt W4 gT c r q a b (.slice av ws.length cv)) := T1.out.stays b4 T1.out.lt
  replace V1 : Hid (OwnI W4 w.heap.size (.slice av ws.length cv) ws) := own_laterZ V1.out b4
  replace YL : Hid (IntsAt W4 al lv) := YL.out.stays b4
  replace YT : Hid (TextsAt W4 at_ tx) := YT.out.stays b4
  replace BW1 : Hid (Below w.heap.size w W4) := bl_next BW1.out b4
  clear b4 SI
  obtain ⟨t0, t1, t2, t3, t4, t5⟩ := T1.out.cells
  have XV : Hid (IntsAt W4 av ws) := by
    obtain ⟨a', c', e', x'⟩ := V1.out.ints
    have e2 : a' = av := by simp only [Value.slice.injEq] at e'; exact e'.1.symm
    subst e2
    exact x'
  obtain ⟨ai, ci, hfi, xi⟩ := GI.out.items
  have XI : Hid (ItemsAt W4 ai R) := xi
  subst hfi
  clear xi GI
  go_wp2_with fail
  refine (spTokenOk_any c r q a b av cv ws _ XV (by omega)).mono ?_
  rintro e W5 ⟨rfl, b5⟩
  replace GB : Hid (TokAt W5 gG c r Q A b (.slice aG ws.length cG)) := GB.out.stays b5 GB.out.lt
  replace GV : Hid (OwnI W5 W1.heap.size (.slice aG ws.length cG) ws) := own_laterZ GV.out b5
  replace T1 : Hid (TokAt W5 gT c r q a b (.slice av ws.length cv)) := T1.out.stays b5 T1.out.lt
  replace YL : Hid (IntsAt W5 al lv) := YL.out.stays b5
  replace YT : Hid (TextsAt W5 at_ tx) := YT.out.stays b5
  replace XI : Hid (ItemsAt W5 ai R) := XI.out.stays b5
  replace BW1 : Hid (Below w.heap.size w W5) := bl_next BW1.out b5
  clear b5 V1 XV t0 t1 t2 t3 t4 t5
  generalize W5 = W4 at *
  cases ht : tkB c r q a b ws with
  | false =>
    have e0 : R = [] := by rw [HR.out]; exact numL_bad ht
    subst e0
    clear ht HR HQ HRT
    go_wp2_with fail
    go_ret
    exact ⟨rfl, BW1.out⟩
  | true =>
    have HT4 : Hid (tkB c r q a b ws = true) := ht
    have hq60 := tkB_q ht
    clear ht
    have HE : Hid (Below W4.heap.size W4 W4) := Below.refl _ _
    go_wp2_with fail
    go_loopw [11] (fun ix wr => ∃ (k : Nat), k ≤ R.length ∧ ix = .int .i64 k ∧ Hid (Below W4.heap.size W4 wr)) (fun ix _ => R.length - (intOf ix).toNat)
    case atStart => exact ⟨0, by omega, rfl, HE⟩
    case round =>
      clear HE
      obtain ⟨k, hk, rfl, BW⟩ := hrel
      have T2 : Hid (TokAt wr gT c r q a b (.slice av ws.length cv)) := T1.out.stays BW.out T1.out.lt
      obtain ⟨t0, t1, t2, t3, t4, t5⟩ := T2.out.cells
      clear t0 t1 t3 t4 t5
      by_cases hlt : k < R.length
      · obtain ⟨hkt, hat⟩ := numL_at (c := c) (r := r) (q := q) (a := a) (b := b) (ws := ws) (f := f) (lv := lv) (tx := tx) (j := k) (by rw [← HR.out]; exact hlt)
        have hRk : R[k] = (q + (k : Int) + 1, f, lvP lv k, tx[k]) := by
          have h2 := HR.out
          subst h2
          exact hat
        obtain ⟨bi, oi, hai, hbi, h0, h1, h2, h3⟩ := XI.out.stays BW.out k hlt
        rw [hRk] at h0 h1 h2 h3
        dsimp only at h0 h1 h2 h3
        obtain ⟨bt, ot, hatt, hbt, hct⟩ := YT.out.stays BW.out k hkt
        obtain ⟨t, htk⟩ : ∃ t, t = tx[k] := ⟨_, rfl⟩
        rw [← htk] at h3 hct
        have i0 : (0 : Int) ≤ (k : Int) := by omega
        have i1 : (k : Int) < (R.length : Int) := by omega
        have i2 : (k : Int) < (tx.length : Int) := by omega
        obtain ⟨sq, hsq⟩ : ∃ sq, sq = q + (k : Int) + 1 := ⟨_, rfl⟩
        rw [← hsq] at h0
        have hw : IntKind.i64.wrap (IntKind.i64.wrap (q + (k : Int)) + 1) = sq := by rw [hsq, IntKind.wrap_i64, IntKind.wrap_i64]; omega
        have hw0 : IntKind.i64.wrap (q + (k : Int)) + 1 = sq := by rw [hsq, IntKind.wrap_i64]; omega
        have hw1 : IntKind.i64.wrap sq = sq := by rw [hsq, IntKind.wrap_i64]; omega
        clear hsq htk hat hRk
        subst hai
        subst hatt
        by_cases e1 : k < lv.length
        · obtain ⟨bl, ol, hal, hbl, hcl⟩ := YL.out.stays BW.out k e1
          obtain ⟨x, hx⟩ : ∃ x, x = lv[k] := ⟨_, rfl⟩
          rw [← hx] at hcl
          have i3 : (k : Int) < (lv.length : Int) := by omega
          have HV : Hid (lv[k]? = some x) := by show _ = _; rw [hx]; exact List.getElem?_eq_getElem e1
          clear hx
          subst hal
          by_cases e2 : x = 2
          · subst e2
            rw [show lvP lv k = 2 by unfold lvP; rw [if_pos HV.out]] at h2
            go_wp2_with fail
            go_quiet (fail)
            go_wp2_with fail
            go_roundw
            case rel => exact ⟨k + 1, by omega, by go_num, (show Below W4.heap.size W4 (wr.drewN nq) from below_drewK BW.out nq)⟩
            case measure => simp [intOf]; omega
          · rw [show lvP lv k = 1 by unfold lvP; rw [if_neg (by rw [HV.out]; simpa using e2)]] at h2
            have e3 : (x == 2) = false := by simpa using e2
            go_wp2_with fail
            go_quiet (fail)
            go_wp2_with fail
            go_roundw
            case rel => exact ⟨k + 1, by omega, by go_num, (show Below W4.heap.size W4 (wr.drewN nq) from below_drewK BW.out nq)⟩
            case measure => simp [intOf]; omega
        · rw [show lvP lv k = 1 by unfold lvP; rw [if_neg (by rw [List.getElem?_eq_none (by omega)]; simp)]] at h2
          have i3 : decide ((k : Int) < (lv.length : Int)) = false := by simp; omega
          go_wp2_with fail
          go_quiet (fail)
          go_wp2_with fail
          go_roundw
          case rel => exact ⟨k + 1, by omega, by go_num, (show Below W4.heap.size W4 (wr.drewN nq) from below_drewK BW.out nq)⟩
          case measure => simp [intOf]; omega
      · have i1 : ¬ (k : Int) < (R.length : Int) := by omega
        replace GB : Hid (TokAt wr gG c r Q A b (.slice aG ws.length cG)) := GB.out.stays BW.out GB.out.lt
        have XG : Hid (IntsAt wr aG ws) := by
          obtain ⟨a', c', e', x'⟩ := (own_laterZ GV.out BW.out).ints
          have e2 : a' = aG := by simp only [Value.slice.injEq] at e'; exact e'.1.symm
          subst e2
          exact x'
        have BWr : Hid (Below w.heap.size w wr) := bl_next BW1.out BW.out
        obtain ⟨g0, g1, g2, g3, g4, g5⟩ := GB.out.cells
        clear GV
        go_wp2_with fail
        refine (tokenOk_any c r Q A b aG cG ws _ XG (by omega)).mono ?_
        rintro e w6 ⟨rfl, b6⟩
        rw [HRT.out HT4.out]
        have T6 : Hid (TokAt w6 gT c r q a b (.slice av ws.length cv)) := T2.out.stays b6 T2.out.lt
        have G6 : Hid (TokAt w6 gG c r Q A b (.slice aG ws.length cG)) := GB.out.stays b6 GB.out.lt
        have BF : Hid (Below w.heap.size w w6) := bl_next BWr.out b6
        clear b6 g0 g1 g2 g3 g4 g5 t2 T2 GB XG
        have s2 := T6.out.cells.2.2.1
        have g2 := G6.out.cells.2.2.1
        have hw : IntKind.i64.wrap (q + (R.length : Int)) = Q := by rw [HQ.out, IntKind.wrap_i64]; omega
        have h3 : (R.length : Int) ≤ 3 := by omega
        go_wp2_with fail
        go_ret
        exact ⟨by first | rfl | simp [hw], BF.out⟩
end Go.Proofs.Ytnhnpneedcjcfaa
