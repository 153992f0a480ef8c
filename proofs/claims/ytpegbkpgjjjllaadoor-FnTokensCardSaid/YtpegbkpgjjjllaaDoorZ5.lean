/- The law on tokens. -/
import Derived.Test.YtpegbkpgjjjllaaDoorZ4
namespace Go.Proofs.YtpegbkpgjjjllaaDoor
open Go.RowKit Pl
set_option linter.unusedVariables false

/-- what is answered for y: its bytes are the text. -/
theorem againT_two {t : ByteArray} {c r q a b : Nat} {ns : List Nat} {k : Bool} (h : AnsT t c r q a b ns k) (hl : ns.length ≤ 1048576) : ∃ (T : ByteArray) (k2 : Bool), (k = true → T = t) ∧
    ∀ (w : World) (ao : Option Addr) (cap : Nat), Hid (IntsAt w ao (ns.map fun n : Nat => (n : Int))) → Hid (Tab w) → Calls Tryd.prog 8 #[.agg #[.int .i64 c, .int .i64 r, .int .i64 q, .int .i64 a, .int .i64 b, .slice ao ns.length cap]] w fun e w' => e = .returned (.tuple #[.string T, .bool k2]) ∧ Below w.heap.size w w' := by
  obtain ⟨T, k2, _, hk2, hc, himpl, _⟩ := tokenText_two c r q a b (ns.map fun n : Nat => (n : Int)) (by simp; omega)
  simp only [List.length_map] at himpl
  refine ⟨T, k2, fun e => ?_, himpl⟩
  subst e
  rcases h with ⟨_, h1, h2⟩ | ⟨h, _⟩
  · rcases hc with ⟨_, C, R, Q, A, B, ns', e1, e2, e3, e4, e5, e6, e7, e8⟩ | ⟨h3, _⟩
    · obtain rfl : c = C := by omega
      obtain rfl : r = R := by omega
      obtain rfl : q = Q := by omega
      obtain rfl : a = A := by omega
      obtain rfl : b = B := by omega
      obtain rfl : ns = ns' := map_nat_inj e6
      rw [e8, h2]
    · unfold TkOk at h1
      rw [h1, h3] at hk2
      cases hk2
  · cases h

set_option maxRecDepth 100000 in
set_option maxHeartbeats 4000000 in
theorem lawTokens (w : World) (n cap : Nat) (ao : Option Addr) (hk : Hid (CodeAt w w.heap.size ao n)) (htab : Hid (Tab w)) :
    Calls Tryd.prog 3 #[.slice ao n cap] w fun e w' => e = .returned (.bool true) ∧ Below w.heap.size w w' := by
  by_cases hl : 1048576 < n
  · go_enter Tryd.func3, Tryd.ntmps3
    go_wp2_with fail
    refine (big_any w n cap ao true (by simp; omega)).mono ?_
    rintro e w1 ⟨rfl, rfl⟩
    go_wp2_with fail
    go_ret
    exact ⟨rfl, Below.refl _ _⟩
  have hn : n ≤ 1048576 := by omega
  clear hl
  go_enter Tryd.func3, Tryd.ntmps3
  go_wp2_with fail
  refine (big_any w n cap ao false (by simp; omega)).mono ?_
  rintro e w1 ⟨rfl, rfl⟩
  go_wp2_with fail
  refine (drawToken_any w1 n cap ao hn hk).mono ?_
  rintro e w2 ⟨⟨c, r, q, a, b, ws, v, hwl, hv2, rfl⟩, hb2⟩
  obtain ⟨aom, capm, hvf⟩ := hv2.form
  subst hvf
  have T2 : Hid (TokAt (w2.alloc (.cells #[.int .i64 c, .int .i64 r, .int .i64 q, .int .i64 a, .int .i64 b, (.slice aom ws.length capm)] 26)) w2.heap.size c r q a b (.slice aom ws.length capm)) := heap_alloc_new w2 _
  have V2 : Hid (MineI (w2.alloc (.cells #[.int .i64 c, .int .i64 r, .int .i64 q, .int .i64 a, .int .i64 b, (.slice aom ws.length capm)] 26)) (.slice aom ws.length capm) ws w1.heap.size w2.heap.size) := (MineI.mk' hv2).stays ((Below.refl _ _).alloc (Nat.le_refl _) _)
  have B2 : Hid (Below w1.heap.size w1 (w2.alloc (.cells #[.int .i64 c, .int .i64 r, .int .i64 q, .int .i64 a, .int .i64 b, (.slice aom ws.length capm)] 26))) := hb2.alloc hb2.size _
  obtain ⟨m0, m1, m2, m3, m4, m5⟩ := T2.out.cells
  clear hb2 hv2
  go_wp2_with fail
  generalize (w2.alloc (.cells #[.int .i64 c, .int .i64 r, .int .i64 q, .int .i64 a, .int .i64 b, (.slice aom ws.length capm)] 26)) = W2 at *
  generalize w2.heap.size = gm at *
  obtain ⟨T, k, hT, hkB, hcase, himpl, _⟩ := tokenText_two c r q a b ws (by omega)
  have HIMPL : Hid _ := himpl
  have HKB : Hid (tkB c r q a b ws = k) := hkB
  have HC : Hid _ := hcase
  have X2 : Hid (IntsAt W2 aom ws) := by
    obtain ⟨ao', cap', e, hx⟩ := V2.out.own.ints
    simp only [Value.slice.injEq] at e
    rw [e.1]
    exact hx
  have Tb2 : Hid (Tab W2) := htab.out.below B2.out
  clear himpl hkB hcase m0 m1 m2 m3 m4 m5
  refine (HIMPL.out _ aom capm X2 Tb2).mono ?_
  rintro e w3 ⟨rfl, hb3⟩
  have T3 : Hid (TokAt w3 gm c r q a b (.slice aom ws.length capm)) := T2.out.stays hb3 T2.out.lt
  have V3 : Hid (MineI w3 (.slice aom ws.length capm) ws w1.heap.size gm) := V2.out.stays hb3
  have B3 : Hid (Below w1.heap.size w1 w3) := B2.out.trans (hb3.mono B2.out.size)
  have Tb3 : Hid (Tab w3) := htab.out.below B3.out
  clear hb3 T2 V2 B2 HIMPL X2 Tb2
  go_wp2_with fail
  refine (readToken_any T _ (by omega) Tb3).mono ?_
  rintro e w4 ⟨c', r', q', a', b', ns, k', vx, rfl, ha4, hl4, hv4, hb4⟩
  have A4 : Hid (AnsT T c' r' q' a' b' ns k') := ha4
  obtain ⟨aox, capx, hvf⟩ := hv4.form
  rw [List.length_map] at hvf
  subst hvf
  have E4 := hb4.trans ((Below.refl _ _).alloc hb4.size (.cells #[.int .i64 c', .int .i64 r', .int .i64 q', .int .i64 a', .int .i64 b', (.slice aox ns.length capx)] 26))
  have X4 : Hid (TokAt (w4.alloc (.cells #[.int .i64 c', .int .i64 r', .int .i64 q', .int .i64 a', .int .i64 b', (.slice aox ns.length capx)] 26)) w4.heap.size c' r' q' a' b' (.slice aox ns.length capx)) := heap_alloc_new w4 _
  have O4 : Hid (OwnI (w4.alloc (.cells #[.int .i64 c', .int .i64 r', .int .i64 q', .int .i64 a', .int .i64 b', (.slice aox ns.length capx)] 26)) w3.heap.size (.slice aox ns.length capx) (ns.map fun n : Nat => (n : Int))) := hv4.alloc _
  have T4 : Hid (TokAt (w4.alloc (.cells #[.int .i64 c', .int .i64 r', .int .i64 q', .int .i64 a', .int .i64 b', (.slice aox ns.length capx)] 26)) gm c r q a b (.slice aom ws.length capm)) := T3.out.stays E4 T3.out.lt
  have V4 : Hid (MineI (w4.alloc (.cells #[.int .i64 c', .int .i64 r', .int .i64 q', .int .i64 a', .int .i64 b', (.slice aox ns.length capx)] 26)) (.slice aom ws.length capm) ws w1.heap.size gm) := V3.out.stays E4
  have B4 : Hid (Below w1.heap.size w1 (w4.alloc (.cells #[.int .i64 c', .int .i64 r', .int .i64 q', .int .i64 a', .int .i64 b', (.slice aox ns.length capx)] 26))) := B3.out.trans (E4.mono B3.out.size)
  obtain ⟨m0, m1, m2, m3, m4, m5⟩ := T4.out.cells
  clear hb4 ha4 hv4 E4 T3 V3 B3 Tb3
  go_wp2_with fail
  generalize (w4.alloc (.cells #[.int .i64 c', .int .i64 r', .int .i64 q', .int .i64 a', .int .i64 b', (.slice aox ns.length capx)] 26)) = W4 at *
  generalize w4.heap.size = gx at *
  have IX : ∀ w' : World, MineI w' (.slice aom ws.length capm) ws w1.heap.size gm → Hid (IntsAt w' aom ws) := fun w' h => by
    obtain ⟨ao', cap', e, hx⟩ := h.own.ints
    simp only [Value.slice.injEq] at e
    rw [e.1]
    exact hx
  have HIX : Hid _ := IX
  clear IX
  refine (spTokenOk_is _ (HIX.out _ V4.out) (by omega) HKB.out).mono ?_
  rintro e w5 ⟨rfl, hb5⟩
  have T5 : Hid (TokAt w5 gm c r q a b (.slice aom ws.length capm)) := T4.out.stays hb5 T4.out.lt
  have X5 : Hid (TokAt w5 gx c' r' q' a' b' (.slice aox ns.length capx)) := X4.out.stays hb5 X4.out.lt
  have V5 : Hid (MineI w5 (.slice aom ws.length capm) ws w1.heap.size gm) := V4.out.stays hb5
  have O5 : Hid (OwnI w5 w3.heap.size (.slice aox ns.length capx) (ns.map fun n : Nat => (n : Int))) := own_later O4.out hb5
  have B5 : Hid (Below w1.heap.size w1 w5) := B4.out.trans (hb5.mono B4.out.size)
  clear hb5 m0 m1 m2 m3 m4 m5 T4 X4 V4 O4 B4
  obtain ⟨m0, m1, m2, m3, m4, m5⟩ := T5.out.cells
  cases k with
  | true =>
    go_wp2_with fail
    refine (tokenOk_is _ (HIX.out _ V5.out) (by omega) HKB.out).mono ?_
    rintro e w6 ⟨rfl, hb6⟩
    have T6 : Hid (TokAt w6 gm c r q a b (.slice aom ws.length capm)) := T5.out.stays hb6 T5.out.lt
    have X6 : Hid (TokAt w6 gx c' r' q' a' b' (.slice aox ns.length capx)) := X5.out.stays hb6 X5.out.lt
    have V6 : Hid (MineI w6 (.slice aom ws.length capm) ws w1.heap.size gm) := V5.out.stays hb6
    have O6 : Hid (OwnI w6 w3.heap.size (.slice aox ns.length capx) (ns.map fun n : Nat => (n : Int))) := own_later O5.out hb6
    have B6 : Hid (Below w1.heap.size w1 w6) := B5.out.trans (hb6.mono B5.out.size)
    clear hb6 m0 m1 m2 m3 m4 m5 T5 X5 V5 O5 B5
    have hsame : k' = true ∧ (c' : Int) = c ∧ (r' : Int) = r ∧ (q' : Int) = q ∧ (a' : Int) = a ∧ (b' : Int) = b ∧ (ns.map fun n : Nat => (n : Int)) = ws := by
      rcases HC.out with ⟨_, C, R, Q, A, B, ns', rfl, rfl, rfl, rfl, rfl, e6, ho, rfl⟩ | ⟨h, _⟩
      · obtain ⟨rfl, rfl, rfl, rfl, rfl, rfl, rfl⟩ := A4.out.same (.inl ⟨rfl, ho, rfl⟩)
        exact ⟨rfl, rfl, rfl, rfl, rfl, rfl, e6.symm⟩
      · cases h
    obtain ⟨rfl, e1, e2, e3, e4, e5, e6⟩ := hsame
    have elen : ns.length = ws.length := by rw [← e6]; simp
    rw [e1, e2, e3, e4, e5, elen] at X6
    rw [e6, elen] at O6
    obtain ⟨m0, m1, m2, m3, m4, m5⟩ := T6.out.cells
    obtain ⟨x0, x1, x2, x3, x4, x5⟩ := X6.out.cells
    clear e1 e2 e3 e4 e5 e6 elen A4 HC HKB HIX
    go_wp2_with fail
    refine (sameI_same (.slice aox ws.length capx) (.slice aom ws.length capm) ws w3.heap.size w1.heap.size w6 O6.out V6.out.own (by omega)).mono ?_
    rintro e w7 ⟨rfl, hb7⟩
    have B7 : Hid (Below w1.heap.size w1 w7) := B6.out.trans (hb7.mono B6.out.size)
    clear hb7 m0 m1 m2 m3 m4 m5 x0 x1 x2 x3 x4 x5 T6 X6 V6 O6 B6
    go_wp2_with fail
    have K7 : Hid (CodeAt w7 w7.heap.size ao n) := code_up (hk.out.stays B7.out (Nat.le_refl _)) B7.out.size
    refine (drawRToken_any w7 n cap ao hn K7).mono ?_
    rintro e w8 ⟨⟨u, hu, rfl⟩, hb8⟩
    have B8 : Hid (Below w1.heap.size w1 w8) := B7.out.trans (hb8.mono B7.out.size)
    have Tb8 : Hid (Tab w8) := htab.out.below B8.out
    clear hb8 K7 B7
    go_wp2_with fail
    refine (readToken_any u _ (by omega) Tb8).mono ?_
    rintro e w9 ⟨cy, ry, qy, ay, by', ny, ky, vy, rfl, ha9, hl9, hv9, hb9⟩
    have A9 : Hid (AnsT u cy ry qy ay by' ny ky) := ha9
    obtain ⟨aoy, capy, hvf⟩ := hv9.form
    rw [List.length_map] at hvf
    subst hvf
    have Y9 : Hid (TokAt (w9.alloc (.cells #[.int .i64 cy, .int .i64 ry, .int .i64 qy, .int .i64 ay, .int .i64 by', (.slice aoy ny.length capy)] 26)) w9.heap.size cy ry qy ay by' (.slice aoy ny.length capy)) := heap_alloc_new w9 _
    have O9 : Hid (OwnI (w9.alloc (.cells #[.int .i64 cy, .int .i64 ry, .int .i64 qy, .int .i64 ay, .int .i64 by', (.slice aoy ny.length capy)] 26)) w8.heap.size (.slice aoy ny.length capy) (ny.map fun n : Nat => (n : Int))) := hv9.alloc _
    have B9 : Hid (Below w1.heap.size w1 (w9.alloc (.cells #[.int .i64 cy, .int .i64 ry, .int .i64 qy, .int .i64 ay, .int .i64 by', (.slice aoy ny.length capy)] 26))) := B8.out.trans ((hb9.trans ((Below.refl _ _).alloc hb9.size _)).mono B8.out.size)
    clear hb9 ha9 hv9 B8 Tb8
    go_wp2_with fail
    generalize (w9.alloc (.cells #[.int .i64 cy, .int .i64 ry, .int .i64 qy, .int .i64 ay, .int .i64 by', (.slice aoy ny.length capy)] 26)) = W9 at *
    generalize w9.heap.size = gy at *
    refine (spReadToken_any u _ (by omega)).mono ?_
    rintro e w10 ⟨cs, rs, qs, as', bs, ns', ks, vs, rfl, ha10, hl10, hv10, hb10⟩
    obtain ⟨rfl, rfl, rfl, rfl, rfl, rfl, rfl⟩ := A9.out.same ha10
    obtain ⟨aos, caps, hvf⟩ := hv10.form
    rw [List.length_map] at hvf
    subst hvf
    have E10 := hb10.trans ((Below.refl _ _).alloc hb10.size (.cells #[.int .i64 cy, .int .i64 ry, .int .i64 qy, .int .i64 ay, .int .i64 by', (.slice aos ny.length caps)] 26))
    have Y10 : Hid (TokAt (w10.alloc (.cells #[.int .i64 cy, .int .i64 ry, .int .i64 qy, .int .i64 ay, .int .i64 by', (.slice aos ny.length caps)] 26)) gy cy ry qy ay by' (.slice aoy ny.length capy)) := Y9.out.stays E10 Y9.out.lt
    have O10 : Hid (OwnI (w10.alloc (.cells #[.int .i64 cy, .int .i64 ry, .int .i64 qy, .int .i64 ay, .int .i64 by', (.slice aos ny.length caps)] 26)) w8.heap.size (.slice aoy ny.length capy) (ny.map fun n : Nat => (n : Int))) := own_later O9.out E10
    have B10 : Hid (Below w1.heap.size w1 (w10.alloc (.cells #[.int .i64 cy, .int .i64 ry, .int .i64 qy, .int .i64 ay, .int .i64 by', (.slice aos ny.length caps)] 26))) := B9.out.trans (E10.mono B9.out.size)
    obtain ⟨y0, y1, y2, y3, y4, y5⟩ := Y10.out.cells
    clear hb10 ha10 hv10 E10 Y9 O9 B9
    go_wp2_with fail
    generalize (w10.alloc (.cells #[.int .i64 cy, .int .i64 ry, .int .i64 qy, .int .i64 ay, .int .i64 by', (.slice aos ny.length caps)] 26)) = W10 at *
    obtain ⟨T9, k9, hT9, himpl9⟩ := againT_two A9.out hl9
    have HI9 : Hid _ := himpl9
    have HT9 : Hid (ky = true → T9 = u) := hT9
    have X10 : Hid (IntsAt W10 aoy (ny.map fun n : Nat => (n : Int))) := by
      obtain ⟨ao', cap', e, hx⟩ := O10.out.ints
      simp only [Value.slice.injEq] at e
      rw [e.1]
      exact hx
    have Tb10 : Hid (Tab W10) := htab.out.below B10.out
    clear himpl9 hT9 A9
    refine (HI9.out _ aoy capy X10 Tb10).mono ?_
    rintro e w11 ⟨rfl, hb11⟩
    have B11 : Hid (Below w1.heap.size w1 w11) := B10.out.trans (hb11.mono B10.out.size)
    clear hb11 Y10 O10 B10 HI9 X10 Tb10 y0 y1 y2 y3 y4 y5
    cases ky with
    | true =>
      obtain rfl := HT9.out rfl
      go_wp2_with fail
      go_ret
      exact ⟨rfl, B11.out⟩
    | false =>
      go_wp2_with fail
      go_ret
      exact ⟨rfl, B11.out⟩
  | false =>
    go_wp2_with fail
    refine (tokenOk_is _ (HIX.out _ V5.out) (by omega) HKB.out).mono ?_
    rintro e w7 ⟨rfl, hb7⟩
    have B7 : Hid (Below w1.heap.size w1 w7) := B5.out.trans (hb7.mono B5.out.size)
    clear hb7 m0 m1 m2 m3 m4 m5 T5 X5 V5 O5 B5 A4 HC HKB HIX
    go_wp2_with fail
    have K7 : Hid (CodeAt w7 w7.heap.size ao n) := code_up (hk.out.stays B7.out (Nat.le_refl _)) B7.out.size
    refine (drawRToken_any w7 n cap ao hn K7).mono ?_
    rintro e w8 ⟨⟨u, hu, rfl⟩, hb8⟩
    have B8 : Hid (Below w1.heap.size w1 w8) := B7.out.trans (hb8.mono B7.out.size)
    have Tb8 : Hid (Tab w8) := htab.out.below B8.out
    clear hb8 K7 B7
    go_wp2_with fail
    refine (readToken_any u _ (by omega) Tb8).mono ?_
    rintro e w9 ⟨cy, ry, qy, ay, by', ny, ky, vy, rfl, ha9, hl9, hv9, hb9⟩
    have A9 : Hid (AnsT u cy ry qy ay by' ny ky) := ha9
    obtain ⟨aoy, capy, hvf⟩ := hv9.form
    rw [List.length_map] at hvf
    subst hvf
    have Y9 : Hid (TokAt (w9.alloc (.cells #[.int .i64 cy, .int .i64 ry, .int .i64 qy, .int .i64 ay, .int .i64 by', (.slice aoy ny.length capy)] 26)) w9.heap.size cy ry qy ay by' (.slice aoy ny.length capy)) := heap_alloc_new w9 _
    have O9 : Hid (OwnI (w9.alloc (.cells #[.int .i64 cy, .int .i64 ry, .int .i64 qy, .int .i64 ay, .int .i64 by', (.slice aoy ny.length capy)] 26)) w8.heap.size (.slice aoy ny.length capy) (ny.map fun n : Nat => (n : Int))) := hv9.alloc _
    have B9 : Hid (Below w1.heap.size w1 (w9.alloc (.cells #[.int .i64 cy, .int .i64 ry, .int .i64 qy, .int .i64 ay, .int .i64 by', (.slice aoy ny.length capy)] 26))) := B8.out.trans ((hb9.trans ((Below.refl _ _).alloc hb9.size _)).mono B8.out.size)
    clear hb9 ha9 hv9 B8 Tb8
    go_wp2_with fail
    generalize (w9.alloc (.cells #[.int .i64 cy, .int .i64 ry, .int .i64 qy, .int .i64 ay, .int .i64 by', (.slice aoy ny.length capy)] 26)) = W9 at *
    generalize w9.heap.size = gy at *
    refine (spReadToken_any u _ (by omega)).mono ?_
    rintro e w10 ⟨cs, rs, qs, as', bs, ns', ks, vs, rfl, ha10, hl10, hv10, hb10⟩
    obtain ⟨rfl, rfl, rfl, rfl, rfl, rfl, rfl⟩ := A9.out.same ha10
    obtain ⟨aos, caps, hvf⟩ := hv10.form
    rw [List.length_map] at hvf
    subst hvf
    have E10 := hb10.trans ((Below.refl _ _).alloc hb10.size (.cells #[.int .i64 cy, .int .i64 ry, .int .i64 qy, .int .i64 ay, .int .i64 by', (.slice aos ny.length caps)] 26))
    have Y10 : Hid (TokAt (w10.alloc (.cells #[.int .i64 cy, .int .i64 ry, .int .i64 qy, .int .i64 ay, .int .i64 by', (.slice aos ny.length caps)] 26)) gy cy ry qy ay by' (.slice aoy ny.length capy)) := Y9.out.stays E10 Y9.out.lt
    have O10 : Hid (OwnI (w10.alloc (.cells #[.int .i64 cy, .int .i64 ry, .int .i64 qy, .int .i64 ay, .int .i64 by', (.slice aos ny.length caps)] 26)) w8.heap.size (.slice aoy ny.length capy) (ny.map fun n : Nat => (n : Int))) := own_later O9.out E10
    have B10 : Hid (Below w1.heap.size w1 (w10.alloc (.cells #[.int .i64 cy, .int .i64 ry, .int .i64 qy, .int .i64 ay, .int .i64 by', (.slice aos ny.length caps)] 26))) := B9.out.trans (E10.mono B9.out.size)
    obtain ⟨y0, y1, y2, y3, y4, y5⟩ := Y10.out.cells
    clear hb10 ha10 hv10 E10 Y9 O9 B9
    go_wp2_with fail
    generalize (w10.alloc (.cells #[.int .i64 cy, .int .i64 ry, .int .i64 qy, .int .i64 ay, .int .i64 by', (.slice aos ny.length caps)] 26)) = W10 at *
    obtain ⟨T9, k9, hT9, himpl9⟩ := againT_two A9.out hl9
    have HI9 : Hid _ := himpl9
    have HT9 : Hid (ky = true → T9 = u) := hT9
    have X10 : Hid (IntsAt W10 aoy (ny.map fun n : Nat => (n : Int))) := by
      obtain ⟨ao', cap', e, hx⟩ := O10.out.ints
      simp only [Value.slice.injEq] at e
      rw [e.1]
      exact hx
    have Tb10 : Hid (Tab W10) := htab.out.below B10.out
    clear himpl9 hT9 A9
    refine (HI9.out _ aoy capy X10 Tb10).mono ?_
    rintro e w11 ⟨rfl, hb11⟩
    have B11 : Hid (Below w1.heap.size w1 w11) := B10.out.trans (hb11.mono B10.out.size)
    clear hb11 Y10 O10 B10 HI9 X10 Tb10 y0 y1 y2 y3 y4 y5
    cases ky with
    | true =>
      obtain rfl := HT9.out rfl
      go_wp2_with fail
      go_ret
      exact ⟨rfl, B11.out⟩
    | false =>
      go_wp2_with fail
      go_ret
      exact ⟨rfl, B11.out⟩
end Go.Proofs.YtpegbkpgjjjllaaDoor
