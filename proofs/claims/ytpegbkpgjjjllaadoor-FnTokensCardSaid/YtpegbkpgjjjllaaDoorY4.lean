/- The walk over the program's ReadToken. -/
import Derived.Test.YtpegbkpgjjjllaaDoorY3
namespace Go.Proofs.YtpegbkpgjjjllaaDoor
open Go.RowKit Pl
set_option linter.unusedVariables false

theorem own_nil (w : World) (B : Nat) : OwnI w B (.slice none 0 0) (([] : List Nat).map fun n : Nat => (n : Int)) := ⟨rfl, .inl ⟨rfl, rfl⟩⟩
theorem tok_turn {w : World} {g : Nat} (c r q a b : Int) (v : Value) : TurnAt g w ((((((w.setCell ⟨g, 0, none⟩ (.int .i64 c)).setCell ⟨g, 1, none⟩ (.int .i64 r)).setCell ⟨g, 2, none⟩ (.int .i64 q)).setCell ⟨g, 3, none⟩ (.int .i64 a)).setCell ⟨g, 4, none⟩ (.int .i64 b)).setCell ⟨g, 5, none⟩ v) :=
  ((((((TurnAt.refl g w).setCell 0 _).setCell 1 _).setCell 2 _).setCell 3 _).setCell 4 _).setCell 5 _

/-- both Unsealed, at whatever text. -/
theorem un_two (t : ByteArray) (ht : t.size ≤ 1048576) : ∃ (s : ByteArray) (k : Bool), s.size ≤ 20000 ∧ ((k = true ∧ t = sealS s) ∨ (k = false ∧ s = ByteArray.empty ∧ ∀ s : ByteArray, s.size ≤ 20000 → t ≠ sealS s)) ∧
    (∀ w, Hid (Tab w) → Calls Tryd.prog 26 #[.string t] w fun e w' => e = .returned (.tuple #[.string s, .bool k]) ∧ Below w.heap.size w w') ∧
    (∀ w, Calls Tryd.prog 36 #[.string t] w fun e w' => e = .returned (.tuple #[.string s, .bool k]) ∧ Below w.heap.size w w') := by
  rcases seal_cases t with ⟨s, hs, rfl⟩ | ⟨h, hn⟩
  · obtain ⟨h1, h2⟩ := good_seal s
    have hz := sealS_size s
    rw [hz, Nat.add_sub_cancel] at h2
    refine ⟨s, true, hs, .inl ⟨rfl, rfl⟩, fun w htab => ?_, fun w => ?_⟩
    · have := implUn_yes (sealS s) s.size w hz hs htab h1
      rw [h2] at this
      exact this
    · have := specUn_yes (sealS s) s.size w hz hs h1
      rw [h2] at this
      exact this
  · refine ⟨ByteArray.empty, false, by decide, .inr ⟨rfl, rfl, hn⟩, fun w htab => ?_, fun w => ?_⟩
    · rcases h with h | h | ⟨n, h1, h2, h3⟩
      · exact implUn_short t w h
      · exact implUn_long t w h ht
      · exact implUn_no t n w h1 h2 htab h3
    · rcases h with h | h | ⟨n, h1, h2, h3⟩
      · exact specUn_short t w h
      · exact specUn_long t w h ht
      · exact specUn_no t n w h1 h2 h3

set_option maxRecDepth 100000 in
set_option maxHeartbeats 4000000 in
theorem readToken_any (t : ByteArray) (w : World) (hs : t.size ≤ 1048576) (htab : Hid (Tab w)) :
    Calls Tryd.prog 9 #[.string t] w fun e w' => ∃ (c r q a b : Nat) (ns : List Nat) (k : Bool) (v : Value), e = .returned (.tuple #[.agg #[.int .i64 c, .int .i64 r, .int .i64 q, .int .i64 a, .int .i64 b, v], .bool k]) ∧ AnsT t c r q a b ns k ∧ ns.length ≤ 1048576 ∧ OwnI w' w.heap.size v (ns.map fun n : Nat => (n : Int)) ∧ Below w.heap.size w w' := by
  have hmf : ∀ (fn : Fn) (first cap : Array Value) (w : World), (Instr.makeFunc fn first cap).run Tryd.prog w = .ok (.func fn first cap) w := fun _ _ _ _ => rfl
  obtain ⟨s, k, hs20, hcase, himpl, _⟩ := un_two t hs
  have HIMPL : Hid _ := himpl
  have R0 : Hid (TokAt (w.alloc (.cells #[.int .i64 0, .int .i64 0, .int .i64 0, .int .i64 0, .int .i64 0, .slice none 0 0] 26)) w.heap.size 0 0 0 0 0 (.slice none 0 0)) := heap_alloc_new w _
  have B0 : Hid (Below w.heap.size w (w.alloc (.cells #[.int .i64 0, .int .i64 0, .int .i64 0, .int .i64 0, .int .i64 0, .slice none 0 0] 26))) := (Below.refl _ _).alloc (Nat.le_refl _) _
  clear himpl
  go_enter Tryd.func9, Tryd.ntmps9
  go_wp2_with fail
  generalize w.alloc (.cells #[.int .i64 0, .int .i64 0, .int .i64 0, .int .i64 0, .int .i64 0, .slice none 0 0] 26) = W0 at *
  have T0 : Hid (Tab W0) := htab.out.below B0.out
  refine (HIMPL.out _ T0).mono ?_
  rintro e w1 ⟨rfl, hb1⟩
  have R1 : Hid (TokAt w1 w.heap.size 0 0 0 0 0 (.slice none 0 0)) := R0.out.stays hb1 R0.out.lt
  have B1 : Hid (Below w.heap.size w w1) := B0.out.trans (hb1.mono B0.out.size)
  clear hb1 R0 B0 HIMPL
  rcases hcase with ⟨rfl, hseal⟩ | ⟨rfl, _, hopen⟩
  case inr =>
    have HO : Hid _ := hopen
    clear hopen
    obtain ⟨c0, c1, c2, c3, c4, c5⟩ := R1.out.cells
    have z0 := R1.out.frozen 0
    have z1 := R1.out.frozen 1
    have z2 := R1.out.frozen 2
    have z3 := R1.out.frozen 3
    have z4 := R1.out.frozen 4
    have z5 := R1.out.frozen 5
    have R9 := R1.out.agg 0 0 0 0 0 (.slice none 0 0)
    have T9 := tok_turn (w := w1) (g := w.heap.size) 0 0 0 0 0 (.slice none 0 0)
    have B9 := B1.out.trans (T9.below (Nat.le_refl _))
    have O9 := own_nil (((((((w1.setCell ⟨w.heap.size, 0, none⟩ (.int .i64 0)).setCell ⟨w.heap.size, 1, none⟩ (.int .i64 0)).setCell ⟨w.heap.size, 2, none⟩ (.int .i64 0)).setCell ⟨w.heap.size, 3, none⟩ (.int .i64 0)).setCell ⟨w.heap.size, 4, none⟩ (.int .i64 0)).setCell ⟨w.heap.size, 5, none⟩ (.slice none 0 0))) w.heap.size
    clear T9
    go_wp2_with fail
    generalize ((((((w1.setCell ⟨w.heap.size, 0, none⟩ (.int .i64 0)).setCell ⟨w.heap.size, 1, none⟩ (.int .i64 0)).setCell ⟨w.heap.size, 2, none⟩ (.int .i64 0)).setCell ⟨w.heap.size, 3, none⟩ (.int .i64 0)).setCell ⟨w.heap.size, 4, none⟩ (.int .i64 0)).setCell ⟨w.heap.size, 5, none⟩ (.slice none 0 0)) = W9 at *
    obtain ⟨q0, q1, q2, q3, q4, q5⟩ := R9.cells
    refine bodyPost_ret (v := .tuple #[.agg #[.int .i64 0, .int .i64 0, .int .i64 0, .int .i64 0, .int .i64 0, (.slice none 0 0)], .bool false]) (by simp [results, Tryd.results9, go_sem, q0, q1, q2, q3, q4, q5]) rfl ?_
    exact ⟨0, 0, 0, 0, 0, [], false, _, rfl, ansT_open HO.out, (Nat.zero_le _), O9, B9⟩
  case inl =>
    have HS : Hid (t = sealS s) := hseal
    clear hseal
    have hN1 := R1.out.lt
    have R2 : Hid (TokAt (w1.alloc (.cells #[.int .i64 0, .int .i64 0, .int .i64 0, .int .i64 0, .int .i64 0, .slice none 0 0] 26)) w.heap.size 0 0 0 0 0 (.slice none 0 0)) := R1.out.stays ((Below.refl _ _).alloc (Nat.le_refl _) _) hN1
    have M2 : Hid (TokAt (w1.alloc (.cells #[.int .i64 0, .int .i64 0, .int .i64 0, .int .i64 0, .int .i64 0, .slice none 0 0] 26)) w1.heap.size 0 0 0 0 0 (.slice none 0 0)) := heap_alloc_new w1 _
    have B2 : Hid (Below w.heap.size w (w1.alloc (.cells #[.int .i64 0, .int .i64 0, .int .i64 0, .int .i64 0, .int .i64 0, .slice none 0 0] 26))) := B1.out.alloc B1.out.size _
    go_wp2_with fail
    generalize w1.alloc (.cells #[.int .i64 0, .int .i64 0, .int .i64 0, .int .i64 0, .int .i64 0, .slice none 0 0] 26) = W1 at *
    generalize w1.heap.size = gm at *
    clear R1 B1
    refine (readP_any s gm W1 M2 (by omega)).mono ?_
    rintro e w2 (⟨rfl, hn, hk⟩ | ⟨c, r, q, a, b, A, ns, v, rfl, hq, hl, hi, hv, hk⟩)
    · have R3 : Hid (TokAt w2 w.heap.size 0 0 0 0 0 (.slice none 0 0)) := R2.out.keep hk (by omega)
      have B3 : Hid (Below w.heap.size w w2) := B2.out.trans (hk.below (by omega) B2.out.size)
      have HN : Hid (tokP s = none) := hn
      clear hn hk R2 B2 M2
      obtain ⟨c0, c1, c2, c3, c4, c5⟩ := R3.out.cells
      have z0 := R3.out.frozen 0
      have z1 := R3.out.frozen 1
      have z2 := R3.out.frozen 2
      have z3 := R3.out.frozen 3
      have z4 := R3.out.frozen 4
      have z5 := R3.out.frozen 5
      have R9 := R3.out.agg 0 0 0 0 0 (.slice none 0 0)
      have T9 := tok_turn (w := w2) (g := w.heap.size) 0 0 0 0 0 (.slice none 0 0)
      have B9 := B3.out.trans (T9.below (Nat.le_refl _))
      have O9 := own_nil (((((((w2.setCell ⟨w.heap.size, 0, none⟩ (.int .i64 0)).setCell ⟨w.heap.size, 1, none⟩ (.int .i64 0)).setCell ⟨w.heap.size, 2, none⟩ (.int .i64 0)).setCell ⟨w.heap.size, 3, none⟩ (.int .i64 0)).setCell ⟨w.heap.size, 4, none⟩ (.int .i64 0)).setCell ⟨w.heap.size, 5, none⟩ (.slice none 0 0))) w.heap.size
      clear T9
      go_wp2_with fail
      generalize ((((((w2.setCell ⟨w.heap.size, 0, none⟩ (.int .i64 0)).setCell ⟨w.heap.size, 1, none⟩ (.int .i64 0)).setCell ⟨w.heap.size, 2, none⟩ (.int .i64 0)).setCell ⟨w.heap.size, 3, none⟩ (.int .i64 0)).setCell ⟨w.heap.size, 4, none⟩ (.int .i64 0)).setCell ⟨w.heap.size, 5, none⟩ (.slice none 0 0)) = W9 at *
      obtain ⟨q0, q1, q2, q3, q4, q5⟩ := R9.cells
      refine bodyPost_ret (v := .tuple #[.agg #[.int .i64 0, .int .i64 0, .int .i64 0, .int .i64 0, .int .i64 0, (.slice none 0 0)], .bool false]) (by simp [results, Tryd.results9, go_sem, q0, q1, q2, q3, q4, q5]) rfl ?_
      exact ⟨0, 0, 0, 0, 0, [], false, _, rfl, by rw [HS.out]; exact (ansU_none HN.out).seal, (Nat.zero_le _), O9, B9⟩
    · have R3 : Hid (TokAt w2 w.heap.size 0 0 0 0 0 (.slice none 0 0)) := R2.out.keep hk (by omega)
      have B3 : Hid (Below w.heap.size w w2) := B2.out.trans (hk.below (by omega) B2.out.size)
      have M3 : Hid (TokAt w2 gm c r q a b v) := hi
      have V3 : Hid (OwnI w2 w.heap.size v (ns.map fun n : Nat => (n : Int))) := hv.down B2.out.size
      have HQ : Hid (tokP s = some ((c, r, q, a, b), ns, A)) := hq
      clear hq hk hi hv R2 B2 M2
      by_cases hA : A = s.size
      · have hb : ((A : Int) == (s.size : Int)) = true := by rw [hA]; simp
        rw [hb]
        have HA : Hid (A = s.size) := hA
        obtain ⟨ao, cap, hvf, hx⟩ := V3.out.ints
        subst hvf
        have X3 : Hid (IntsAt w2 ao (ns.map fun n : Nat => (n : Int))) := hx
        rw [List.length_map] at M3 V3
        obtain ⟨m0, m1, m2, m3, m4, m5⟩ := M3.out.cells
        clear hx hb hA
        go_wp2_with fail
        have hct := fun k => tokenOk_is (c := c) (r := r) (q := q) (a := a) (b := b) (cap := cap) (k := k) w2 X3 (by simp; omega)
        rw [List.length_map] at hct
        cases ho : tkB c r q a b (ns.map fun n : Nat => (n : Int)) with
        | true =>
          have HO : Hid (TkOk c r q a b ns) := ho
          refine (hct _ ho).mono ?_
          rintro e w3 ⟨rfl, hb3⟩
          have R4 : Hid (TokAt w3 w.heap.size 0 0 0 0 0 (.slice none 0 0)) := R3.out.stays hb3 R3.out.lt
          have M4 : Hid (TokAt w3 gm c r q a b (.slice ao ns.length cap)) := M3.out.stays hb3 M3.out.lt
          have B4 : Hid (Below w.heap.size w w3) := B3.out.trans (hb3.mono B3.out.size)
          have V4 : Hid (OwnI w3 w.heap.size (.slice ao ns.length cap) (ns.map fun n : Nat => (n : Int))) := V3.out.stays hb3 (fun k hk => (V3.out.lt k hk).2)
          clear ho hb3 hct R3 M3 B3 V3 X3 m0 m1 m2 m3 m4 m5
          obtain ⟨m0, m1, m2, m3, m4, m5⟩ := M4.out.cells
          obtain ⟨c0, c1, c2, c3, c4, c5⟩ := R4.out.cells
          have z0 := R4.out.frozen 0
          have z1 := R4.out.frozen 1
          have z2 := R4.out.frozen 2
          have z3 := R4.out.frozen 3
          have z4 := R4.out.frozen 4
          have z5 := R4.out.frozen 5
          have R9 := R4.out.agg c r q a b (.slice ao ns.length cap)
          have T9 := tok_turn (w := w3) (g := w.heap.size) c r q a b (.slice ao ns.length cap)
          have B9 := B4.out.trans (T9.below (Nat.le_refl _))
          have O9 := own_tok V4.out R4.out (tok_turn (w := w3) (g := w.heap.size) c r q a b (.slice ao ns.length cap))
          clear T9
          go_wp2_with fail
          generalize ((((((w3.setCell ⟨w.heap.size, 0, none⟩ (.int .i64 c)).setCell ⟨w.heap.size, 1, none⟩ (.int .i64 r)).setCell ⟨w.heap.size, 2, none⟩ (.int .i64 q)).setCell ⟨w.heap.size, 3, none⟩ (.int .i64 a)).setCell ⟨w.heap.size, 4, none⟩ (.int .i64 b)).setCell ⟨w.heap.size, 5, none⟩ (.slice ao ns.length cap)) = W9 at *
          obtain ⟨q0, q1, q2, q3, q4, q5⟩ := R9.cells
          refine bodyPost_ret (v := .tuple #[.agg #[.int .i64 c, .int .i64 r, .int .i64 q, .int .i64 a, .int .i64 b, (.slice ao ns.length cap)], .bool true]) (by simp [results, Tryd.results9, go_sem, q0, q1, q2, q3, q4, q5]) rfl ?_
          exact ⟨c, r, q, a, b, ns, true, _, rfl, by rw [HS.out]; exact (ansU_good (by rw [← HA.out]; exact HQ.out) HO.out).seal, hl, O9, B9⟩
        | false =>
          have HO : Hid (¬ TkOk c r q a b ns) := by
            show ¬ _
            unfold TkOk
            rw [ho]
            exact Bool.false_ne_true
          refine (hct _ ho).mono ?_
          rintro e w3 ⟨rfl, hb3⟩
          have R4 : Hid (TokAt w3 w.heap.size 0 0 0 0 0 (.slice none 0 0)) := R3.out.stays hb3 R3.out.lt
          have B4 : Hid (Below w.heap.size w w3) := B3.out.trans (hb3.mono B3.out.size)
          clear ho hb3 hct R3 M3 B3 V3 X3 m0 m1 m2 m3 m4 m5
          obtain ⟨c0, c1, c2, c3, c4, c5⟩ := R4.out.cells
          have z0 := R4.out.frozen 0
          have z1 := R4.out.frozen 1
          have z2 := R4.out.frozen 2
          have z3 := R4.out.frozen 3
          have z4 := R4.out.frozen 4
          have z5 := R4.out.frozen 5
          have R9 := R4.out.agg 0 0 0 0 0 (.slice none 0 0)
          have T9 := tok_turn (w := w3) (g := w.heap.size) 0 0 0 0 0 (.slice none 0 0)
          have B9 := B4.out.trans (T9.below (Nat.le_refl _))
          have O9 := own_nil (((((((w3.setCell ⟨w.heap.size, 0, none⟩ (.int .i64 0)).setCell ⟨w.heap.size, 1, none⟩ (.int .i64 0)).setCell ⟨w.heap.size, 2, none⟩ (.int .i64 0)).setCell ⟨w.heap.size, 3, none⟩ (.int .i64 0)).setCell ⟨w.heap.size, 4, none⟩ (.int .i64 0)).setCell ⟨w.heap.size, 5, none⟩ (.slice none 0 0))) w.heap.size
          clear T9
          go_wp2_with fail
          generalize ((((((w3.setCell ⟨w.heap.size, 0, none⟩ (.int .i64 0)).setCell ⟨w.heap.size, 1, none⟩ (.int .i64 0)).setCell ⟨w.heap.size, 2, none⟩ (.int .i64 0)).setCell ⟨w.heap.size, 3, none⟩ (.int .i64 0)).setCell ⟨w.heap.size, 4, none⟩ (.int .i64 0)).setCell ⟨w.heap.size, 5, none⟩ (.slice none 0 0)) = W9 at *
          obtain ⟨q0, q1, q2, q3, q4, q5⟩ := R9.cells
          refine bodyPost_ret (v := .tuple #[.agg #[.int .i64 0, .int .i64 0, .int .i64 0, .int .i64 0, .int .i64 0, (.slice none 0 0)], .bool false]) (by simp [results, Tryd.results9, go_sem, q0, q1, q2, q3, q4, q5]) rfl ?_
          exact ⟨0, 0, 0, 0, 0, [], false, _, rfl, by rw [HS.out]; exact (ansU_bad HQ.out (.inr HO.out)).seal, (Nat.zero_le _), O9, B9⟩
      · have hb : ((A : Int) == (s.size : Int)) = false := by simp; omega
        rw [hb]
        have HA : Hid (A ≠ s.size) := hA
        clear hA hb M3 V3
        obtain ⟨c0, c1, c2, c3, c4, c5⟩ := R3.out.cells
        have z0 := R3.out.frozen 0
        have z1 := R3.out.frozen 1
        have z2 := R3.out.frozen 2
        have z3 := R3.out.frozen 3
        have z4 := R3.out.frozen 4
        have z5 := R3.out.frozen 5
        have R9 := R3.out.agg 0 0 0 0 0 (.slice none 0 0)
        have T9 := tok_turn (w := w2) (g := w.heap.size) 0 0 0 0 0 (.slice none 0 0)
        have B9 := B3.out.trans (T9.below (Nat.le_refl _))
        have O9 := own_nil (((((((w2.setCell ⟨w.heap.size, 0, none⟩ (.int .i64 0)).setCell ⟨w.heap.size, 1, none⟩ (.int .i64 0)).setCell ⟨w.heap.size, 2, none⟩ (.int .i64 0)).setCell ⟨w.heap.size, 3, none⟩ (.int .i64 0)).setCell ⟨w.heap.size, 4, none⟩ (.int .i64 0)).setCell ⟨w.heap.size, 5, none⟩ (.slice none 0 0))) w.heap.size
        clear T9
        go_wp2_with fail
        generalize ((((((w2.setCell ⟨w.heap.size, 0, none⟩ (.int .i64 0)).setCell ⟨w.heap.size, 1, none⟩ (.int .i64 0)).setCell ⟨w.heap.size, 2, none⟩ (.int .i64 0)).setCell ⟨w.heap.size, 3, none⟩ (.int .i64 0)).setCell ⟨w.heap.size, 4, none⟩ (.int .i64 0)).setCell ⟨w.heap.size, 5, none⟩ (.slice none 0 0)) = W9 at *
        obtain ⟨q0, q1, q2, q3, q4, q5⟩ := R9.cells
        refine bodyPost_ret (v := .tuple #[.agg #[.int .i64 0, .int .i64 0, .int .i64 0, .int .i64 0, .int .i64 0, (.slice none 0 0)], .bool false]) (by simp [results, Tryd.results9, go_sem, q0, q1, q2, q3, q4, q5]) rfl ?_
        exact ⟨0, 0, 0, 0, 0, [], false, _, rfl, by rw [HS.out]; exact (ansU_bad HQ.out (.inl HA.out)).seal, (Nat.zero_le _), O9, B9⟩
end Go.Proofs.YtpegbkpgjjjllaaDoor
