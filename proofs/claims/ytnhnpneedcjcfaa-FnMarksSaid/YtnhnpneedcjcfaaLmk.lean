/- The law on marks. -/
import Derived.Test.YtnhnpneedcjcfaaDm
import Derived.Test.YtnhnpneedcjcfaaMq
import Derived.Test.YtnhnpneedcjcfaaLb
namespace Go.Proofs.Ytnhnpneedcjcfaa
open Go.RowKit Pl
set_option linter.unusedVariables false

theorem mark_facts {c r q a b d u : Int} {ws : List Int} (h : markOk c r q a b ws d u = true) :
    tkB c r q (aruM q a b d u) (byM q a b d u) ws = true ∧ aruM q a b d u ≤ u ∧ (aruM q a b d u ≤ a ∨ b = d) ∧ (byM q a b d u = b ∨ byM q a b d u = d ∨ (byM q a b d u = 0 ∧ b = d)) := by
  unfold markOk tkB at h
  simp only [Bool.and_eq_true, decide_eq_true_eq] at h
  obtain ⟨⟨h1, h2, h3, h4, h5, h6⟩, h7, h8⟩ := h
  unfold tkB
  simp only [Bool.and_eq_true, decide_eq_true_eq]
  unfold aruM byM
  by_cases e1 : u < a
  · rw [if_pos e1, if_pos e1]
    exact ⟨⟨h1, h2, h3, ⟨h8, by omega⟩, by omega, h6⟩, by omega, by omega, by omega⟩
  · rw [if_neg e1, if_neg e1]
    by_cases e2 : b = d
    · rw [if_pos e2, if_pos e2]
      by_cases e3 : min u q = q
      · rw [if_pos e3]
        exact ⟨⟨h1, h2, h3, by omega, by omega, h6⟩, by omega, by omega, by omega⟩
      · rw [if_neg e3]
        exact ⟨⟨h1, h2, h3, by omega, by omega, h6⟩, by omega, by omega, by omega⟩
    · rw [if_neg e2, if_neg e2]
      exact ⟨⟨h1, h2, h3, by omega, by omega, h6⟩, by omega, by omega, by omega⟩

set_option maxRecDepth 100000 in
set_option maxHeartbeats 8000000 in
theorem lawMarks (w : World) (n cap : Nat) (ao : Option Addr) (hk : Hid (CodeAt w w.heap.size ao n)) :
    Calls Try.prog 5 #[.slice ao n cap] w fun e w' => e = .returned (.bool true) ∧ Below w.heap.size w w' := by
  by_cases hbig : 1048576 < n
  · go_enter Try.func5, Try.ntmps5
    go_wp2_with fail
    refine (big_any w n cap ao true (by simp; omega)).mono ?_
    rintro e w1 ⟨rfl, hw⟩
    obtain rfl := hw.symm
    go_wp2_with fail
    go_ret
    exact ⟨rfl, Below.refl _ _⟩
  have hn : n ≤ 1048576 := by omega
  go_enter Try.func5, Try.ntmps5
  go_wp2_with fail
  refine (big_any w n cap ao false (by simp; omega)).mono ?_
  rintro e w1 ⟨rfl, hw⟩
  obtain rfl := hw.symm
  clear hw hbig
  go_wp2_with fail
  refine (drawMark_any w n cap ao hn hk).mono ?_
  rintro e w1 ⟨⟨c, r, q, a, b, ws, v, d, u, hwl, hv, rfl⟩, B1⟩
  obtain ⟨av, cv, hvf⟩ := hv.form
  subst hvf
  have T1 : Hid (TokAt (w1.alloc (.cells #[.int .i64 c, .int .i64 r, .int .i64 q, .int .i64 a, .int .i64 b, .slice av ws.length cv] 30)) w1.heap.size c r q a b (.slice av ws.length cv)) := heap_alloc_new w1 _
  have V1 : Hid (OwnI (w1.alloc (.cells #[.int .i64 c, .int .i64 r, .int .i64 q, .int .i64 a, .int .i64 b, .slice av ws.length cv] 30)) w.heap.size (.slice av ws.length cv) ws) := hv.alloc _
  have BW : Below w.heap.size w (w1.alloc (.cells #[.int .i64 c, .int .i64 r, .int .i64 q, .int .i64 a, .int .i64 b, .slice av ws.length cv] 30)) := B1.alloc B1.size _
  clear hv B1 hk
  obtain ⟨t0, t1, t2, t3, t4, t5⟩ := T1.out.cells
  go_wp2_with fail
  generalize w1.alloc (.cells #[.int .i64 c, .int .i64 r, .int .i64 q, .int .i64 a, .int .i64 b, .slice av ws.length cv] 30) = W1 at *
  generalize w1.heap.size = gT at *
  obtain ⟨A, hA⟩ : ∃ A : Int, A = markA c r q a b ws d u := ⟨_, rfl⟩
  obtain ⟨D, hD⟩ : ∃ D : Int, D = markD c r q a b ws d u := ⟨_, rfl⟩
  have HA : Hid (A = markA c r q a b ws d u) := hA
  have HD : Hid (D = markD c r q a b ws d u) := hD
  have IMP := mark_any c r q a b d u (.slice av ws.length cv) ws w.heap.size W1 V1 (by omega)
  rw [← hA, ← hD] at IMP
  refine IMP.mono ?_
  clear IMP hA hD
  rintro e w2 ⟨vG, rfl, hvG, hb2⟩
  obtain ⟨aG, cG, hfG⟩ := hvG.form
  subst hfG
  have GB : Hid (TokAt (w2.alloc (.cells #[.int .i64 c, .int .i64 r, .int .i64 q, .int .i64 A, .int .i64 D, .slice aG ws.length cG] 30)) w2.heap.size c r q A D (.slice aG ws.length cG)) := heap_alloc_new w2 _
  have GV : Hid (OwnI (w2.alloc (.cells #[.int .i64 c, .int .i64 r, .int .i64 q, .int .i64 A, .int .i64 D, .slice aG ws.length cG] 30)) W1.heap.size (.slice aG ws.length cG) ws) := hvG.alloc _
  have b2 : Below W1.heap.size W1 (w2.alloc (.cells #[.int .i64 c, .int .i64 r, .int .i64 q, .int .i64 A, .int .i64 D, .slice aG ws.length cG] 30)) := hb2.alloc hb2.size _
  replace T1 : Hid (TokAt (w2.alloc (.cells #[.int .i64 c, .int .i64 r, .int .i64 q, .int .i64 A, .int .i64 D, .slice aG ws.length cG] 30)) gT c r q a b (.slice av ws.length cv)) := T1.out.stays b2 T1.out.lt
  replace V1 : Hid (OwnI (w2.alloc (.cells #[.int .i64 c, .int .i64 r, .int .i64 q, .int .i64 A, .int .i64 D, .slice aG ws.length cG] 30)) w.heap.size (.slice av ws.length cv) ws) := own_later' V1.out b2
  replace BW := bl_next BW b2
  clear hb2 hvG b2 t0 t1 t2 t3 t4 t5
  obtain ⟨t0, t1, t2, t3, t4, t5⟩ := T1.out.cells
  go_wp2_with fail
  generalize w2.alloc (.cells #[.int .i64 c, .int .i64 r, .int .i64 q, .int .i64 A, .int .i64 D, .slice aG ws.length cG] 30) = W2 at *
  generalize w2.heap.size = gG at *
  have SPC := spMark_any c r q a b d u (.slice av ws.length cv) ws w.heap.size W2 V1 (by omega)
  rw [← HA.out, ← HD.out] at SPC
  refine SPC.mono ?_
  clear SPC
  rintro e w3 ⟨vS, rfl, hvS, hb3⟩
  obtain ⟨aS, cS, hfS⟩ := hvS.form
  subst hfS
  have SB : Hid (TokAt (w3.alloc (.cells #[.int .i64 c, .int .i64 r, .int .i64 q, .int .i64 A, .int .i64 D, .slice aS ws.length cS] 30)) w3.heap.size c r q A D (.slice aS ws.length cS)) := heap_alloc_new w3 _
  have b3 : Below W2.heap.size W2 (w3.alloc (.cells #[.int .i64 c, .int .i64 r, .int .i64 q, .int .i64 A, .int .i64 D, .slice aS ws.length cS] 30)) := hb3.alloc hb3.size _
  replace T1 : Hid (TokAt (w3.alloc (.cells #[.int .i64 c, .int .i64 r, .int .i64 q, .int .i64 A, .int .i64 D, .slice aS ws.length cS] 30)) gT c r q a b (.slice av ws.length cv)) := T1.out.stays b3 T1.out.lt
  replace V1 : Hid (OwnI (w3.alloc (.cells #[.int .i64 c, .int .i64 r, .int .i64 q, .int .i64 A, .int .i64 D, .slice aS ws.length cS] 30)) w.heap.size (.slice av ws.length cv) ws) := own_later' V1.out b3
  replace GB : Hid (TokAt (w3.alloc (.cells #[.int .i64 c, .int .i64 r, .int .i64 q, .int .i64 A, .int .i64 D, .slice aS ws.length cS] 30)) gG c r q A D (.slice aG ws.length cG)) := GB.out.stays b3 GB.out.lt
  replace GV : Hid (OwnI (w3.alloc (.cells #[.int .i64 c, .int .i64 r, .int .i64 q, .int .i64 A, .int .i64 D, .slice aS ws.length cS] 30)) W1.heap.size (.slice aG ws.length cG) ws) := own_later' GV.out b3
  replace BW := bl_next BW b3
  clear hb3 hvS b3 t0 t1 t2 t3 t4 t5
  obtain ⟨t0, t1, t2, t3, t4, t5⟩ := T1.out.cells
  obtain ⟨g0, g1, g2, g3, g4, g5⟩ := GB.out.cells
  obtain ⟨s0, s1, s2, s3, s4, s5⟩ := SB.out.cells
  clear s0 s1 s2 s5
  obtain ⟨av', cv', ev, xv⟩ := V1.out.ints
  have XV : Hid (IntsAt (w3.alloc (.cells #[.int .i64 c, .int .i64 r, .int .i64 q, .int .i64 A, .int .i64 D, .slice aS ws.length cS] 30)) av ws) := by
    simp only [Value.slice.injEq] at ev
    rw [ev.1]
    exact xv
  obtain ⟨aG', cG', eG, xG⟩ := GV.out.ints
  have XG : Hid (IntsAt (w3.alloc (.cells #[.int .i64 c, .int .i64 r, .int .i64 q, .int .i64 A, .int .i64 D, .slice aS ws.length cS] 30)) aG ws) := by
    simp only [Value.slice.injEq] at eG
    rw [eG.1]
    exact xG
  clear ev xv eG xG
  go_wp2_with fail
  generalize w3.alloc (.cells #[.int .i64 c, .int .i64 r, .int .i64 q, .int .i64 A, .int .i64 D, .slice aS ws.length cS] 30) = W3 at *
  refine (spTokenOk_any c r q a b av cv ws _ XV (by omega)).mono ?_
  rintro e w4 ⟨rfl, hb4⟩
  replace T1 : Hid (TokAt w4 gT c r q a b (.slice av ws.length cv)) := T1.out.stays hb4 T1.out.lt
  replace GB : Hid (TokAt w4 gG c r q A D (.slice aG ws.length cG)) := GB.out.stays hb4 GB.out.lt
  replace XG : Hid (IntsAt w4 aG ws) := XG.out.stays hb4
  have HW : Hid (Below w.heap.size w w4) := bl_next BW hb4
  clear hb4 t0 t1 t2 t3 t4 t5 g0 g1 g2 g3 g4 g5 V1 GV SB s3 s4 XV BW
  obtain ⟨t0, t1, t2, t3, t4, t5⟩ := T1.out.cells
  obtain ⟨g0, g1, g2, g3, g4, g5⟩ := GB.out.cells
  cases hm : markOk c r q a b ws d u with
  | false =>
    have eA : A = a := by rw [HA.out]; simp [markA, hm]
    have eD : D = b := by rw [HD.out]; simp [markD, hm]
    clear HA HD
    subst eA
    subst eD
    cases ht : tkB c r q A D ws with
    | false =>
      clear ht hm
      go_wp2_with fail
      go_ret
      exact ⟨by simp, HW.out⟩
    | true =>
      by_cases h1 : d < 1
      · clear hm
        go_wp2_with fail
        go_ret
        exact ⟨by simp, HW.out⟩
      · by_cases h2 : 5 < d
        · clear hm
          go_wp2_with fail
          go_ret
          exact ⟨by simp, HW.out⟩
        · have h3 : u < 0 := by
            unfold markOk at hm
            rw [ht] at hm
            simp at hm
            omega
          clear hm
          go_wp2_with fail
          go_ret
          exact ⟨by simp, HW.out⟩
  | true =>
    have eA : A = aruM q a b d u := by rw [HA.out]; simp [markA, hm]
    have eD : D = byM q a b d u := by rw [HD.out]; simp [markD, hm]
    obtain ⟨f1, f2, f3, f4⟩ := mark_facts hm
    rw [← eA, ← eD] at f1
    rw [← eA] at f2 f3
    rw [← eD] at f4
    have ht : tkB c r q a b ws = true := by unfold markOk at hm; simp at hm; exact hm.1
    have h1 : ¬ d < 1 := by unfold markOk at hm; simp at hm; omega
    have h2 : ¬ 5 < d := by unfold markOk at hm; simp at hm; omega
    have h3 : ¬ u < 0 := by unfold markOk at hm; simp at hm; omega
    rw [ht]
    have F1 : Hid (tkB c r q A D ws = true) := f1
    have F3 : Hid (A ≤ a ∨ b = d) := f3
    have F4 : Hid (D = b ∨ D = d ∨ (D = 0 ∧ b = d)) := f4
    clear HA HD eA eD hm f1 f3 f4 ht
    go_wp2_with fail
    refine (tokenOk_any c r q A D aG cG ws _ XG (by omega)).mono ?_
    rintro e w5 ⟨rfl, hb5⟩
    rw [F1.out]
    replace T1 : Hid (TokAt w5 gT c r q a b (.slice av ws.length cv)) := T1.out.stays hb5 T1.out.lt
    replace GB : Hid (TokAt w5 gG c r q A D (.slice aG ws.length cG)) := GB.out.stays hb5 GB.out.lt
    have HW5 : Hid (Below w.heap.size w w5) := bl_next HW.out hb5
    clear hb5 t0 t1 t2 t3 t4 t5 g0 g1 g2 g3 g4 g5 XG F1
    obtain ⟨t0, t1, t2, t3, t4, t5⟩ := T1.out.cells
    obtain ⟨g0, g1, g2, g3, g4, g5⟩ := GB.out.cells
    clear t0 t1 t2 t5 g0 g1 g2 g5 h1 h2 h3
    by_cases e1 : A ≤ a
    · by_cases e2 : D = b
      · have d2 : (D == b) = true := by simpa using e2
        clear e2
        go_wp2_with fail
        go_ret
        exact ⟨rfl, HW5.out⟩
      · have d2 : (D == b) = false := by simpa using e2
        by_cases e3 : D = d
        · have d3 : (D == d) = true := by simpa using e3
          clear e2 e3
          go_wp2_with fail
          go_ret
          exact ⟨rfl, HW5.out⟩
        · have d3 : (D == d) = false := by simpa using e3
          have d4 : (D == 0) = true := by have := F4.out; simp; omega
          have d5 : (b == d) = true := by have := F4.out; simp; omega
          clear e2 e3
          go_wp2_with fail
          go_ret
          exact ⟨rfl, HW5.out⟩
    · have d1 : (b == d) = true := by have := F3.out; simp; omega
      by_cases e2 : D = b
      · have d2 : (D == b) = true := by simpa using e2
        clear e2
        go_wp2_with fail
        go_ret
        exact ⟨rfl, HW5.out⟩
      · have d2 : (D == b) = false := by simpa using e2
        by_cases e3 : D = d
        · have d3 : (D == d) = true := by simpa using e3
          clear e2 e3
          go_wp2_with fail
          go_ret
          exact ⟨rfl, HW5.out⟩
        · have d3 : (D == d) = false := by simpa using e3
          have d4 : (D == 0) = true := by have := F4.out; simp; omega
          clear e2 e3
          go_wp2_with fail
          go_ret
          exact ⟨rfl, HW5.out⟩
end Go.Proofs.Ytnhnpneedcjcfaa
