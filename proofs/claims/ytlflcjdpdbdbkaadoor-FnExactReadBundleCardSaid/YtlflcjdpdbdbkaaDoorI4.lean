/- The walks over the specification's ReadItem and over the law on ReadItem. -/
import Derived.Test.YtlflcjdpdbdbkaaDoorI3
namespace Go.Proofs.YtlflcjdpdbdbkaaDoor
open Go.RowKit Pl
set_option linter.unusedVariables false

theorem PcAt.keepBut {w w' : World} {k g : Nat} {s : ByteArray} {A : Nat} {b : Bool} (h : PcAt w g s A b) (hk : KeepBut k w w') (hg : g ≠ k) : PcAt w' g s A b := (hk.block g h.lt hg).trans h

set_option maxRecDepth 100000 in
set_option maxHeartbeats 4000000 in
theorem spReadItem_any (s : ByteArray) (w : World) (hs : s.size ≤ 1048576) :
    Calls Tryd.prog 45 #[.string s] w fun e w' => ∃ (q f l : Nat) (t : ByteArray) (r : Bool), e = .returned (.tuple #[.agg #[.int .i64 q, .int .i64 f, .int .i64 l, .string t], .bool r]) ∧ AnsI s q f l t r ∧ Below w.heap.size w w' := by
  have H1 : Hid (ItAt ((w.alloc (.cells #[.int .i64 0, .int .i64 0, .int .i64 0, .string ⟨#[]⟩] 57)).alloc (.cells #[.string s, .int .i64 0, .bool false] 65)) w.heap.size 0 0 0 ByteArray.empty) :=
    (((Below.refl (w.heap.size + 1) (w.alloc (.cells #[.int .i64 0, .int .i64 0, .int .i64 0, .string ⟨#[]⟩] 57))).alloc (by simp) _).block w.heap.size (by omega)).trans (heap_alloc_new w _)
  have H2 : Hid (PcAt ((w.alloc (.cells #[.int .i64 0, .int .i64 0, .int .i64 0, .string ⟨#[]⟩] 57)).alloc (.cells #[.string s, .int .i64 0, .bool false] 65)) (w.heap.size + 1) s 0 false) := by
    have := heap_alloc_new (w.alloc (.cells #[.int .i64 0, .int .i64 0, .int .i64 0, .string ⟨#[]⟩] 57)) (.cells #[.string s, .int .i64 0, .bool false] 65)
    rw [show (w.alloc (.cells #[.int .i64 0, .int .i64 0, .int .i64 0, .string ⟨#[]⟩] 57)).heap.size = w.heap.size + 1 by simp] at this
    exact this
  have H4 : Hid (Below w.heap.size w ((w.alloc (.cells #[.int .i64 0, .int .i64 0, .int .i64 0, .string ⟨#[]⟩] 57)).alloc (.cells #[.string s, .int .i64 0, .bool false] 65))) := ((Below.refl _ _).alloc (Nat.le_refl _) _).alloc (by simp) _
  go_enter Tryd.func45, Tryd.ntmps45
  go_wp2_with fail
  generalize (w.alloc (.cells #[.int .i64 0, .int .i64 0, .int .i64 0, .string ⟨#[]⟩] 57)).alloc (.cells #[.string s, .int .i64 0, .bool false] 65) = W at *
  refine (lvar_any s (w.heap.size + 1) 0 false W H2 hs (Nat.zero_le _)).mono ?_
  rintro e w1 ⟨q, i, b1, rfl, hq, hi, hp1, hk1, hF1⟩
  have R1 : Hid (ItAt w1 w.heap.size 0 0 0 ByteArray.empty) := H1.out.keep hk1 (by omega)
  have B1 : Hid (Below w.heap.size w w1) := H4.out.trans (hk1.below (by omega) H4.out.size)
  have P1 : Hid (PcAt w1 (w.heap.size + 1) s i b1) := hp1
  have F1 : Hid (VarF s 0 false q i b1) := hF1
  clear hp1 hk1 hF1 H1 H2 H4
  have hN1 := P1.out.lt
  have M1 : Hid (ItAt (w1.alloc (.cells #[.int .i64 q, .int .i64 0, .int .i64 0, .string ⟨#[]⟩] 57)) w1.heap.size q 0 0 ByteArray.empty) := heap_alloc_new w1 _
  have D1 : Hid (Below w1.heap.size w1 (w1.alloc (.cells #[.int .i64 q, .int .i64 0, .int .i64 0, .string ⟨#[]⟩] 57))) := (Below.refl _ _).alloc (Nat.le_refl _) _
  go_wp2_with fail
  generalize w1.alloc (.cells #[.int .i64 q, .int .i64 0, .int .i64 0, .string ⟨#[]⟩] 57) = W1 at *
  have R2 : Hid (ItAt W1 w.heap.size 0 0 0 ByteArray.empty) := R1.out.stays D1.out R1.out.lt
  have P2 : Hid (PcAt W1 (w.heap.size + 1) s i b1) := P1.out.stays D1.out P1.out.lt
  have B2 : Hid (Below w.heap.size w W1) := B1.out.trans (D1.out.mono B1.out.size)
  clear R1 P1 B1 D1
  generalize w1.heap.size = gm at *
  refine (one_any s (w.heap.size + 1) i b1 W1 P2 hs hi).mono ?_
  rintro e w2 ⟨f, j, b2, rfl, hf, hj, hp2, ht2, hF2⟩
  have F2 : Hid (OneF s i b1 f j b2) := hF2
  have R3 : Hid (ItAt w2 w.heap.size 0 0 0 ByteArray.empty) := R2.out.keep ht2.keep (by omega)
  have M3 : Hid (ItAt w2 gm q 0 0 ByteArray.empty) := M1.out.keep ht2.keep (by omega)
  have P3 : Hid (PcAt w2 (w.heap.size + 1) s j b2) := hp2
  have B3 : Hid (Below w.heap.size w w2) := B2.out.trans (ht2.below (by omega))
  have c0 := M3.out.cells.2.1
  have f0 := M3.out.frozen 1
  clear R2 M1 P2 B2 hp2 ht2 hF2
  go_wp2_with fail
  have T4 := (TurnAt.refl gm w2).setCell 1 (.int .i64 f)
  have R4 : Hid (ItAt (w2.setCell ⟨gm, 1, none⟩ (.int .i64 f)) w.heap.size 0 0 0 ByteArray.empty) := R3.out.keep T4.keep (by omega)
  have M4 : Hid (ItAt (w2.setCell ⟨gm, 1, none⟩ (.int .i64 f)) gm q f 0 ByteArray.empty) := M3.out.set1 f
  have P4 : Hid (PcAt (w2.setCell ⟨gm, 1, none⟩ (.int .i64 f)) (w.heap.size + 1) s j b2) := P3.out.keep T4 (by omega)
  have B4 : Hid (Below w.heap.size w (w2.setCell ⟨gm, 1, none⟩ (.int .i64 f))) := B3.out.trans (T4.below (by omega))
  clear T4 R3 M3 P3 B3 c0 f0
  generalize w2.setCell ⟨gm, 1, none⟩ (.int .i64 f) = W2 at *
  refine (one_any s (w.heap.size + 1) j b2 W2 P4 hs hj).mono ?_
  rintro e w3 ⟨l, k, b3, rfl, hl, hk, hp3, ht3, hF3⟩
  have F3 : Hid (OneF s j b2 l k b3) := hF3
  have R3 : Hid (ItAt w3 w.heap.size 0 0 0 ByteArray.empty) := R4.out.keep ht3.keep (by omega)
  have M3 : Hid (ItAt w3 gm q f 0 ByteArray.empty) := M4.out.keep ht3.keep (by omega)
  have P3 : Hid (PcAt w3 (w.heap.size + 1) s k b3) := hp3
  have B3 : Hid (Below w.heap.size w w3) := B4.out.trans (ht3.below (by omega))
  have c0 := M3.out.cells.2.2.1
  have f0 := M3.out.frozen 2
  clear R4 M4 P4 B4 hp3 ht3 hF3
  go_wp2_with fail
  have T4 := (TurnAt.refl gm w3).setCell 2 (.int .i64 l)
  have R4 : Hid (ItAt (w3.setCell ⟨gm, 2, none⟩ (.int .i64 l)) w.heap.size 0 0 0 ByteArray.empty) := R3.out.keep T4.keep (by omega)
  have M4 : Hid (ItAt (w3.setCell ⟨gm, 2, none⟩ (.int .i64 l)) gm q f l ByteArray.empty) := M3.out.set2 l
  have P4 : Hid (PcAt (w3.setCell ⟨gm, 2, none⟩ (.int .i64 l)) (w.heap.size + 1) s k b3) := P3.out.keep T4 (by omega)
  have B4 : Hid (Below w.heap.size w (w3.setCell ⟨gm, 2, none⟩ (.int .i64 l))) := B3.out.trans (T4.below (by omega))
  clear T4 R3 M3 P3 B3 c0 f0
  generalize w3.setCell ⟨gm, 2, none⟩ (.int .i64 l) = W3 at *
  refine (lshort_any s (w.heap.size + 1) k b3 W3 P4 hs hk).mono ?_
  rintro e w4 ⟨t, A, b, rfl, hA, hp4, hk4, hF4⟩
  have F4 : Hid (ShF s k b3 t A b) := hF4
  have R3 : Hid (ItAt w4 w.heap.size 0 0 0 ByteArray.empty) := R4.out.keep hk4 (by omega)
  have M3 : Hid (ItAt w4 gm q f l ByteArray.empty) := M4.out.keep hk4 (by omega)
  have P3 : Hid (PcAt w4 (w.heap.size + 1) s A b) := hp4
  have B3 : Hid (Below w.heap.size w w4) := B4.out.trans (hk4.below (by omega) B4.out.size)
  have c0 := M3.out.cells.2.2.2
  have f0 := M3.out.frozen 3
  clear R4 M4 P4 B4 hp4 hk4 hF4
  have T4 := (TurnAt.refl gm w4).setCell 3 (.string t)
  have R4 : Hid (ItAt (w4.setCell ⟨gm, 3, none⟩ (.string t)) w.heap.size 0 0 0 ByteArray.empty) := R3.out.keep T4.keep (by omega)
  have M4 : Hid (ItAt (w4.setCell ⟨gm, 3, none⟩ (.string t)) gm q f l t) := M3.out.set3 t
  have P4 : Hid (PcAt (w4.setCell ⟨gm, 3, none⟩ (.string t)) (w.heap.size + 1) s A b) := P3.out.keep T4 (by omega)
  have B4 : Hid (Below w.heap.size w (w4.setCell ⟨gm, 3, none⟩ (.string t))) := B3.out.trans (T4.below (by omega))
  obtain ⟨m0, m1, m2, m3⟩ := M4.out.cells
  clear T4 R3 M3 P3 B3
  go_wp2_with fail
  clear c0 f0
  generalize w4.setCell ⟨gm, 3, none⟩ (.string t) = W4 at *
  have HF : Hid (FndI s q f l t b) := ⟨i, b1, j, b2, k, b3, A, F1.out, F2.out, F3.out, F4.out⟩
  clear F1 F2 F3 F4
  by_cases ho : ItOk q f l t
  · refine (spItemText_yes q f l t _ ho).mono ?_
    rintro e w6 ⟨rfl, hb6⟩
    have HO : Hid (ItOk q f l t) := ho
    have R5 : Hid (ItAt w6 w.heap.size 0 0 0 ByteArray.empty) := R4.out.stays hb6 R4.out.lt
    have M5 : Hid (ItAt w6 gm q f l t) := M4.out.stays hb6 M4.out.lt
    have P5 : Hid (PcAt w6 (w.heap.size + 1) s A b) := P4.out.stays hb6 P4.out.lt
    have B5 : Hid (Below w.heap.size w w6) := B4.out.trans (hb6.mono B4.out.size)
    obtain ⟨p0, p1, p2, _, _, _⟩ := P5.out.cells
    clear ho R4 M4 P4 B4 hb6 m0 m1 m2 m3
    cases b with
    | true =>
      obtain ⟨c0, c1, c2, c3⟩ := R5.out.cells
      have z0 := R5.out.frozen 0
      have z1 := R5.out.frozen 1
      have z2 := R5.out.frozen 2
      have z3 := R5.out.frozen 3
      have R6 : ItAt _ w.heap.size 0 0 0 ⟨#[]⟩ := R5.out.agg 0 0 0 ⟨#[]⟩
      have HB2 := (((B5.out.setCell (p := ⟨w.heap.size, 0, none⟩) (Nat.le_refl _) (.int .i64 0)).setCell (p := ⟨w.heap.size, 1, none⟩) (Nat.le_refl _) (.int .i64 0)).setCell (p := ⟨w.heap.size, 2, none⟩) (Nat.le_refl _) (.int .i64 0)).setCell (p := ⟨w.heap.size, 3, none⟩) (Nat.le_refl _) (.string ⟨#[]⟩)
      go_wp2_with fail
      generalize ((((w6.setCell ⟨w.heap.size, 0, none⟩ (.int .i64 0)).setCell ⟨w.heap.size, 1, none⟩ (.int .i64 0)).setCell ⟨w.heap.size, 2, none⟩ (.int .i64 0)).setCell ⟨w.heap.size, 3, none⟩ (.string ⟨#[]⟩)) = W6 at *
      obtain ⟨q0, q1, q2, q3⟩ := R6.cells
      clear c0 c1 c2 c3 z0 z1 z2 z3 
      refine bodyPost_ret (v := .tuple #[.agg #[.int .i64 0, .int .i64 0, .int .i64 0, .string ⟨#[]⟩], .bool false]) (by simp [results, Tryd.results45, go_sem, q0, q1, q2, q3]) rfl ?_
      exact ⟨0, 0, 0, ByteArray.empty, false, rfl, ansI_missed HF.out (.inl rfl), HB2⟩
    | false =>
      by_cases hS : itemS q f l t = s
      · have hne : (!(itemS q f l t).toList == s.toList) = false := by rw [hS]; simp
        have HS : Hid (itemS q f l t = s) := hS
        clear hS
        obtain ⟨m0, m1, m2, m3⟩ := M5.out.cells
        obtain ⟨c0, c1, c2, c3⟩ := R5.out.cells
        have z0 := R5.out.frozen 0
        have z1 := R5.out.frozen 1
        have z2 := R5.out.frozen 2
        have z3 := R5.out.frozen 3
        have R6 : ItAt _ w.heap.size q f l t := R5.out.agg q f l t
        have HB2 := (((B5.out.setCell (p := ⟨w.heap.size, 0, none⟩) (Nat.le_refl _) (.int .i64 q)).setCell (p := ⟨w.heap.size, 1, none⟩) (Nat.le_refl _) (.int .i64 f)).setCell (p := ⟨w.heap.size, 2, none⟩) (Nat.le_refl _) (.int .i64 l)).setCell (p := ⟨w.heap.size, 3, none⟩) (Nat.le_refl _) (.string t)
        go_wp2_with fail
        generalize ((((w6.setCell ⟨w.heap.size, 0, none⟩ (.int .i64 q)).setCell ⟨w.heap.size, 1, none⟩ (.int .i64 f)).setCell ⟨w.heap.size, 2, none⟩ (.int .i64 l)).setCell ⟨w.heap.size, 3, none⟩ (.string t)) = W6 at *
        obtain ⟨q0, q1, q2, q3⟩ := R6.cells
        clear c0 c1 c2 c3 z0 z1 z2 z3 m0 m1 m2 m3
        refine bodyPost_ret (v := .tuple #[.agg #[.int .i64 q, .int .i64 f, .int .i64 l, .string t], .bool true]) (by simp [results, Tryd.results45, go_sem, q0, q1, q2, q3]) rfl ?_
        exact ⟨q, f, l, t, true, rfl, ansI_hit HO.out HS.out, HB2⟩
      · have hne : (!(itemS q f l t).toList == s.toList) = true := by
          simp only [Bool.not_eq_true', beq_eq_false_iff_ne, ne_eq]
          intro h
          rw [ByteArray.toList_eq, ByteArray.toList_eq] at h
          exact hS (rt_ext h)
        have HS : Hid (itemS q f l t ≠ s) := hS
        clear hS
        obtain ⟨c0, c1, c2, c3⟩ := R5.out.cells
        have z0 := R5.out.frozen 0
        have z1 := R5.out.frozen 1
        have z2 := R5.out.frozen 2
        have z3 := R5.out.frozen 3
        have R6 : ItAt _ w.heap.size 0 0 0 ⟨#[]⟩ := R5.out.agg 0 0 0 ⟨#[]⟩
        have HB2 := (((B5.out.setCell (p := ⟨w.heap.size, 0, none⟩) (Nat.le_refl _) (.int .i64 0)).setCell (p := ⟨w.heap.size, 1, none⟩) (Nat.le_refl _) (.int .i64 0)).setCell (p := ⟨w.heap.size, 2, none⟩) (Nat.le_refl _) (.int .i64 0)).setCell (p := ⟨w.heap.size, 3, none⟩) (Nat.le_refl _) (.string ⟨#[]⟩)
        go_wp2_with fail
        generalize ((((w6.setCell ⟨w.heap.size, 0, none⟩ (.int .i64 0)).setCell ⟨w.heap.size, 1, none⟩ (.int .i64 0)).setCell ⟨w.heap.size, 2, none⟩ (.int .i64 0)).setCell ⟨w.heap.size, 3, none⟩ (.string ⟨#[]⟩)) = W6 at *
        obtain ⟨q0, q1, q2, q3⟩ := R6.cells
        clear c0 c1 c2 c3 z0 z1 z2 z3 
        refine bodyPost_ret (v := .tuple #[.agg #[.int .i64 0, .int .i64 0, .int .i64 0, .string ⟨#[]⟩], .bool false]) (by simp [results, Tryd.results45, go_sem, q0, q1, q2, q3]) rfl ?_
        exact ⟨0, 0, 0, ByteArray.empty, false, rfl, ansI_missed HF.out (.inr (.inr HS.out)), HB2⟩
  · refine (spItemText_no q f l t _ ho).mono ?_
    rintro e w6 ⟨rfl, hb6⟩
    have HO : Hid (¬ ItOk q f l t) := ho
    have R5 : Hid (ItAt w6 w.heap.size 0 0 0 ByteArray.empty) := R4.out.stays hb6 R4.out.lt
    have P5 : Hid (PcAt w6 (w.heap.size + 1) s A b) := P4.out.stays hb6 P4.out.lt
    have B5 : Hid (Below w.heap.size w w6) := B4.out.trans (hb6.mono B4.out.size)
    obtain ⟨p0, p1, p2, _, _, _⟩ := P5.out.cells
    clear ho R4 M4 P4 B4 hb6 m0 m1 m2 m3
    cases b with
    | true =>
      obtain ⟨c0, c1, c2, c3⟩ := R5.out.cells
      have z0 := R5.out.frozen 0
      have z1 := R5.out.frozen 1
      have z2 := R5.out.frozen 2
      have z3 := R5.out.frozen 3
      have R6 : ItAt _ w.heap.size 0 0 0 ⟨#[]⟩ := R5.out.agg 0 0 0 ⟨#[]⟩
      have HB2 := (((B5.out.setCell (p := ⟨w.heap.size, 0, none⟩) (Nat.le_refl _) (.int .i64 0)).setCell (p := ⟨w.heap.size, 1, none⟩) (Nat.le_refl _) (.int .i64 0)).setCell (p := ⟨w.heap.size, 2, none⟩) (Nat.le_refl _) (.int .i64 0)).setCell (p := ⟨w.heap.size, 3, none⟩) (Nat.le_refl _) (.string ⟨#[]⟩)
      go_wp2_with fail
      generalize ((((w6.setCell ⟨w.heap.size, 0, none⟩ (.int .i64 0)).setCell ⟨w.heap.size, 1, none⟩ (.int .i64 0)).setCell ⟨w.heap.size, 2, none⟩ (.int .i64 0)).setCell ⟨w.heap.size, 3, none⟩ (.string ⟨#[]⟩)) = W6 at *
      obtain ⟨q0, q1, q2, q3⟩ := R6.cells
      clear c0 c1 c2 c3 z0 z1 z2 z3 
      refine bodyPost_ret (v := .tuple #[.agg #[.int .i64 0, .int .i64 0, .int .i64 0, .string ⟨#[]⟩], .bool false]) (by simp [results, Tryd.results45, go_sem, q0, q1, q2, q3]) rfl ?_
      exact ⟨0, 0, 0, ByteArray.empty, false, rfl, ansI_missed HF.out (.inl rfl), HB2⟩
    | false =>
      obtain ⟨c0, c1, c2, c3⟩ := R5.out.cells
      have z0 := R5.out.frozen 0
      have z1 := R5.out.frozen 1
      have z2 := R5.out.frozen 2
      have z3 := R5.out.frozen 3
      have R6 : ItAt _ w.heap.size 0 0 0 ⟨#[]⟩ := R5.out.agg 0 0 0 ⟨#[]⟩
      have HB2 := (((B5.out.setCell (p := ⟨w.heap.size, 0, none⟩) (Nat.le_refl _) (.int .i64 0)).setCell (p := ⟨w.heap.size, 1, none⟩) (Nat.le_refl _) (.int .i64 0)).setCell (p := ⟨w.heap.size, 2, none⟩) (Nat.le_refl _) (.int .i64 0)).setCell (p := ⟨w.heap.size, 3, none⟩) (Nat.le_refl _) (.string ⟨#[]⟩)
      go_wp2_with fail
      generalize ((((w6.setCell ⟨w.heap.size, 0, none⟩ (.int .i64 0)).setCell ⟨w.heap.size, 1, none⟩ (.int .i64 0)).setCell ⟨w.heap.size, 2, none⟩ (.int .i64 0)).setCell ⟨w.heap.size, 3, none⟩ (.string ⟨#[]⟩)) = W6 at *
      obtain ⟨q0, q1, q2, q3⟩ := R6.cells
      clear c0 c1 c2 c3 z0 z1 z2 z3 
      refine bodyPost_ret (v := .tuple #[.agg #[.int .i64 0, .int .i64 0, .int .i64 0, .string ⟨#[]⟩], .bool false]) (by simp [results, Tryd.results45, go_sem, q0, q1, q2, q3]) rfl ?_
      exact ⟨0, 0, 0, ByteArray.empty, false, rfl, ansI_missed HF.out (.inr (.inl HO.out)), HB2⟩

end Go.Proofs.YtlflcjdpdbdbkaaDoor
