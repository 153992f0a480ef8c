/- The walks over a piece that is right or not, over the program's readPiece and ReadPiece. -/
import Derived.Test.YtfefjkldjaabbaaRp2
namespace Go.Proofs.Ytfefjkldjaabbaa
open Go.RowKit Pl
set_option linter.unusedVariables false

set_option maxRecDepth 100000 in
set_option maxHeartbeats 1000000 in
theorem isLast_any (n p c : Nat) (t : ByteArray) (w : World) (hp : p ≤ 1000000000) (hc : c ≤ 1000000000) :
    Calls Try.prog 58 #[.agg #[.int .i64 n, .int .i64 p, .int .i64 c, .string t]] w fun e w' => e = .returned (.bool (decide (p + 1 = c))) ∧ Below w.heap.size w w' := by
  by_cases h : p + 1 = c
  · have hd : decide (p + 1 = c) = true := decide_eq_true h
    subst h
    rw [hd]
    go_enter Try.func58, Try.ntmps58
    go_wp2
    go_ret
    exact ⟨rfl, (Below.refl _ _).alloc (Nat.le_refl _) _⟩
  · have hd : decide (p + 1 = c) = false := decide_eq_false h
    rw [hd]
    have h' : ((p : Int) == (c : Int) - 1) = false := by simp; omega
    go_enter Try.func58, Try.ntmps58
    go_wp2
    go_ret
    exact ⟨rfl, (Below.refl _ _).alloc (Nat.le_refl _) _⟩

set_option maxRecDepth 100000 in
set_option maxHeartbeats 2000000 in
theorem right_any (n p c : Nat) (t : ByteArray) (w : World) (hn : n ≤ 1000000000) (hp : p ≤ 1000000000) (hc : c ≤ 1000000000) (ht : t.size ≤ 1048576) :
    Calls Try.prog 56 #[.agg #[.int .i64 n, .int .i64 p, .int .i64 c, .string t]] w fun e w' => e = .returned (.bool (rightB n p c t)) ∧ Below w.heap.size w w' := by
  have B1 : Below w.heap.size w (w.alloc (.cells #[.int .i64 n, .int .i64 p, .int .i64 c, .string t] 62)) := (Below.refl _ _).alloc (Nat.le_refl _) _
  have P1 : Hid (PeAt (w.alloc (.cells #[.int .i64 n, .int .i64 p, .int .i64 c, .string t] 62)) w.heap.size n p c t) := heap_alloc_new w _
  generalize hr : rightB n p c t = r
  have HR : Hid (rightB n p c t = r) := hr
  clear hr
  unfold rightB at HR
  by_cases h1 : n ≤ 100000
  · by_cases h2 : c ≤ 10
    · by_cases h3 : p < c
      · by_cases h4 : t.size = 40
        · obtain rfl : true = r := by rw [← HR.out]; simp; omega
          have h4' : ((t.size : Int) == 40) = true := by simp; omega
          clear HR h4
          go_enter Try.func56, Try.ntmps56
          go_wp2
          go_ret
          exact ⟨rfl, B1⟩
        · have h4' : ((t.size : Int) == 40) = false := by simp; omega
          by_cases h5 : p + 1 = c
          · by_cases h6 : t.size < 40
            · obtain rfl : true = r := by rw [← HR.out]; simp; omega
              have hd : decide (p + 1 = c) = true := decide_eq_true h5
              have h6' : decide ((t.size : Int) < 40) = true := by simp; omega
              clear HR h4 h5
              go_enter Try.func56, Try.ntmps56
              go_wp2_with (first | (go_at_call 58; refine (isLast_any n p c t _ hp hc).mono ?_; rw [hd]; rintro e w1 ⟨rfl, hb1⟩; have c3 := (P1.out.stays hb1 (by simp)).cells.2.2.2))
              go_ret
              exact ⟨rfl, B1.trans (hb1.mono B1.size)⟩
            · obtain rfl : false = r := by rw [← HR.out]; simp; omega
              have hd : decide (p + 1 = c) = true := decide_eq_true h5
              have h6' : decide ((t.size : Int) < 40) = false := by simp; omega
              clear HR h4 h5
              go_enter Try.func56, Try.ntmps56
              go_wp2_with (first | (go_at_call 58; refine (isLast_any n p c t _ hp hc).mono ?_; rw [hd]; rintro e w1 ⟨rfl, hb1⟩; have c3 := (P1.out.stays hb1 (by simp)).cells.2.2.2))
              go_ret
              exact ⟨rfl, B1.trans (hb1.mono B1.size)⟩
          · obtain rfl : false = r := by rw [← HR.out]; simp; omega
            have hd : decide (p + 1 = c) = false := decide_eq_false h5
            clear HR h4 h5
            go_enter Try.func56, Try.ntmps56
            go_wp2_with (first | (go_at_call 58; refine (isLast_any n p c t _ hp hc).mono ?_; rw [hd]; rintro e w1 ⟨rfl, hb1⟩; have c3 := (P1.out.stays hb1 (by simp)).cells.2.2.2))
            go_ret
            exact ⟨rfl, B1.trans (hb1.mono B1.size)⟩
      · obtain rfl : false = r := by rw [← HR.out]; simp; omega
        clear HR
        go_enter Try.func56, Try.ntmps56
        go_wp2
        go_ret
        exact ⟨rfl, B1⟩
    · obtain rfl : false = r := by rw [← HR.out]; simp; omega
      clear HR
      go_enter Try.func56, Try.ntmps56
      go_wp2
      go_ret
      exact ⟨rfl, B1⟩
  · obtain rfl : false = r := by rw [← HR.out]; simp; omega
    clear HR
    go_enter Try.func56, Try.ntmps56
    go_wp2
    go_ret
    exact ⟨rfl, B1⟩

theorem below_drewN {B : Nat} {w w' : World} (h : Below B w w') (n : Nat) : Below B w (w'.drewN n) := ⟨h.os, h.tape, h.output, h.size, h.block⟩
theorem rawP_le {s t : ByteArray} {q f l : Nat} (hs : s.size ≤ 1048576) (h : rawP s = some (q, f, l, t)) : q ≤ 1000000000 ∧ f ≤ 1000000000 ∧ l ≤ 1000000000 ∧ t.size ≤ 1048576 := by
  rcases h0 : rv s 0 with _ | ⟨n, i⟩
  · rw [rawP_n0 h0] at h; cases h
  obtain ⟨a0, b0⟩ := rv_le (Nat.zero_le _) h0
  rcases h1 : rv s i with _ | ⟨p, j⟩
  · rw [rawP_n1 h0 h1] at h; cases h
  obtain ⟨a1, b1⟩ := rv_le b0 h1
  rcases h2 : rv s j with _ | ⟨c, k⟩
  · rw [rawP_n2 h0 h1 h2] at h; cases h
  obtain ⟨a2, b2⟩ := rv_le b1 h2
  rw [rawP_some h0 h1 h2] at h
  simp only [Option.some.injEq, Prod.mk.injEq] at h
  obtain ⟨rfl, rfl, rfl, rfl⟩ := h
  exact ⟨a0, a1, a2, by rw [ByteArray.size_extract]; omega⟩

set_option maxRecDepth 100000 in
set_option maxHeartbeats 4000000 in
theorem readPiece_any (s : ByteArray) (w : World) (hs : s.size ≤ 1048576) :
    Calls Try.prog 43 #[.string s] w fun e w' => ∃ (q f l : Nat) (t : ByteArray) (r : Bool), e = .returned (.tuple #[.agg #[.int .i64 q, .int .i64 f, .int .i64 l, .string t], .bool r]) ∧ AnsP s q f l t r ∧ Below w.heap.size w w' := by
  have hmf : ∀ (fn : Fn) (first cap : Array Value) (w : World), (Instr.makeFunc fn first cap).run Try.prog w = .ok (.func fn first cap) w := fun _ _ _ _ => rfl
  have H1 : Hid (PeAt ((w.alloc (.cells #[.int .i64 0, .int .i64 0, .int .i64 0, .string ⟨#[]⟩] 62)).alloc (.cells #[.int .i64 0, .int .i64 0, .int .i64 0, .string ⟨#[]⟩] 62)) w.heap.size 0 0 0 ByteArray.empty) :=
    (((Below.refl (w.heap.size + 1) (w.alloc (.cells #[.int .i64 0, .int .i64 0, .int .i64 0, .string ⟨#[]⟩] 62))).alloc (by simp) _).block w.heap.size (by omega)).trans (heap_alloc_new w _)
  have H2 : Hid (PeAt ((w.alloc (.cells #[.int .i64 0, .int .i64 0, .int .i64 0, .string ⟨#[]⟩] 62)).alloc (.cells #[.int .i64 0, .int .i64 0, .int .i64 0, .string ⟨#[]⟩] 62)) (w.heap.size + 1) 0 0 0 ByteArray.empty) := by
    have := heap_alloc_new (w.alloc (.cells #[.int .i64 0, .int .i64 0, .int .i64 0, .string ⟨#[]⟩] 62)) (.cells #[.int .i64 0, .int .i64 0, .int .i64 0, .string ⟨#[]⟩] 62)
    rw [show (w.alloc (.cells #[.int .i64 0, .int .i64 0, .int .i64 0, .string ⟨#[]⟩] 62)).heap.size = w.heap.size + 1 by simp] at this
    exact this
  have H4 : Hid (Below w.heap.size w ((w.alloc (.cells #[.int .i64 0, .int .i64 0, .int .i64 0, .string ⟨#[]⟩] 62)).alloc (.cells #[.int .i64 0, .int .i64 0, .int .i64 0, .string ⟨#[]⟩] 62))) := ((Below.refl _ _).alloc (Nat.le_refl _) _).alloc (by simp) _
  go_enter Try.func43, Try.ntmps43
  go_wp2_with fail
  generalize (w.alloc (.cells #[.int .i64 0, .int .i64 0, .int .i64 0, .string ⟨#[]⟩] 62)).alloc (.cells #[.int .i64 0, .int .i64 0, .int .i64 0, .string ⟨#[]⟩] 62) = W at *
  refine (readP_any s (w.heap.size + 1) W H2 hs).mono ?_
  rintro e w1 (⟨rfl, hn, hk⟩ | ⟨q, f, l, t, rfl, hq, hi, hk⟩)
  · have R1 : Hid (PeAt w1 w.heap.size 0 0 0 ByteArray.empty) := H1.out.keep hk (by omega)
    have HN : Hid (rawP s = none) := hn
    have HB : Hid (Below w.heap.size w w1) := H4.out.trans (hk.below (by omega) H4.out.size)
    obtain ⟨c0, c1, c2, c3⟩ := R1.out.cells
    have z0 := R1.out.frozen 0
    have z1 := R1.out.frozen 1
    have z2 := R1.out.frozen 2
    have z3 := R1.out.frozen 3
    clear H1 H2 H4 hn hk
    have R2 : PeAt _ w.heap.size 0 0 0 ⟨#[]⟩ := R1.out.agg 0 0 0 ⟨#[]⟩
    have HB2 := (((HB.out.setCell (p := ⟨w.heap.size, 0, none⟩) (Nat.le_refl _) (.int .i64 0)).setCell (p := ⟨w.heap.size, 1, none⟩) (Nat.le_refl _) (.int .i64 0)).setCell (p := ⟨w.heap.size, 2, none⟩) (Nat.le_refl _) (.int .i64 0)).setCell (p := ⟨w.heap.size, 3, none⟩) (Nat.le_refl _) (.string ⟨#[]⟩)
    go_wp2_with fail
    generalize ((((w1.setCell ⟨w.heap.size, 0, none⟩ (.int .i64 0)).setCell ⟨w.heap.size, 1, none⟩ (.int .i64 0)).setCell ⟨w.heap.size, 2, none⟩ (.int .i64 0)).setCell ⟨w.heap.size, 3, none⟩ (.string ⟨#[]⟩)) = W2 at *
    obtain ⟨q0, q1, q2, q3⟩ := R2.cells
    clear c0 c1 c2 c3 z0 z1 z2 z3
    refine bodyPost_ret (v := .tuple #[.agg #[.int .i64 0, .int .i64 0, .int .i64 0, .string ⟨#[]⟩], .bool false]) (by simp [results, Try.results43, go_sem, q0, q1, q2, q3]) rfl ?_
    exact ⟨0, 0, 0, ByteArray.empty, false, rfl, .inr ⟨pcP_none HN.out, rfl, rfl, rfl, rfl, rfl⟩, HB2⟩
  · have R1 : Hid (PeAt w1 w.heap.size 0 0 0 ByteArray.empty) := H1.out.keep hk (by omega)
    have HQ : Hid (rawP s = some (q, f, l, t)) := hq
    have HB : Hid (Below w.heap.size w w1) := H4.out.trans (hk.below (by omega) H4.out.size)
    have HM : Hid (PeAt w1 (w.heap.size + 1) q f l t) := hi
    clear H1 H2 H4 hq hk hi
    obtain ⟨m0, m1, m2, m3⟩ := HM.out.cells
    have hql : q ≤ 1000000000 ∧ f ≤ 1000000000 ∧ l ≤ 1000000000 ∧ t.size ≤ 1048576 := rawP_le hs HQ.out
    go_wp2_with fail
    refine (right_any q f l t _ hql.1 hql.2.1 hql.2.2.1 hql.2.2.2).mono ?_
    rintro e w2 ⟨rfl, hb2⟩
    clear hql
    cases ho : rightB q f l t with
    | true =>
      have HO : Hid (rightB q f l t = true) := ho
      have R1 : Hid (PeAt w2 w.heap.size 0 0 0 ByteArray.empty) := R1.out.stays hb2 R1.out.lt
      have HM : Hid (PeAt w2 (w.heap.size + 1) q f l t) := HM.out.stays hb2 HM.out.lt
      have HB : Hid (Below w.heap.size w w2) := HB.out.trans (hb2.mono HB.out.size)
      clear ho hb2 m0 m1 m2 m3
      obtain ⟨m0, m1, m2, m3⟩ := HM.out.cells
      obtain ⟨c0, c1, c2, c3⟩ := R1.out.cells
      have z0 := R1.out.frozen 0
      have z1 := R1.out.frozen 1
      have z2 := R1.out.frozen 2
      have z3 := R1.out.frozen 3
      have R2 : PeAt _ w.heap.size q f l t := R1.out.agg q f l t
      have HB2 := (((HB.out.setCell (p := ⟨w.heap.size, 0, none⟩) (Nat.le_refl _) (.int .i64 q)).setCell (p := ⟨w.heap.size, 1, none⟩) (Nat.le_refl _) (.int .i64 f)).setCell (p := ⟨w.heap.size, 2, none⟩) (Nat.le_refl _) (.int .i64 l)).setCell (p := ⟨w.heap.size, 3, none⟩) (Nat.le_refl _) (.string t)
      go_wp2_with fail
      generalize ((((w2.setCell ⟨w.heap.size, 0, none⟩ (.int .i64 q)).setCell ⟨w.heap.size, 1, none⟩ (.int .i64 f)).setCell ⟨w.heap.size, 2, none⟩ (.int .i64 l)).setCell ⟨w.heap.size, 3, none⟩ (.string t)) = W2 at *
      obtain ⟨q0, q1, q2, q3⟩ := R2.cells
      clear c0 c1 c2 c3 z0 z1 z2 z3 m0 m1 m2 m3
      refine bodyPost_ret (v := .tuple #[.agg #[.int .i64 q, .int .i64 f, .int .i64 l, .string t], .bool true]) (by simp [results, Try.results43, go_sem, q0, q1, q2, q3]) rfl ?_
      exact ⟨q, f, l, t, true, rfl, .inl ⟨pcP_good HQ.out HO.out, rfl⟩, HB2⟩
    | false =>
      have HO : Hid (rightB q f l t = false) := ho
      have R1 : Hid (PeAt w2 w.heap.size 0 0 0 ByteArray.empty) := R1.out.stays hb2 R1.out.lt
      have HB : Hid (Below w.heap.size w w2) := HB.out.trans (hb2.mono HB.out.size)
      clear ho hb2 m0 m1 m2 m3
      obtain ⟨c0, c1, c2, c3⟩ := R1.out.cells
      have z0 := R1.out.frozen 0
      have z1 := R1.out.frozen 1
      have z2 := R1.out.frozen 2
      have z3 := R1.out.frozen 3
      have R2 : PeAt _ w.heap.size 0 0 0 ⟨#[]⟩ := R1.out.agg 0 0 0 ⟨#[]⟩
      have HB2 := (((HB.out.setCell (p := ⟨w.heap.size, 0, none⟩) (Nat.le_refl _) (.int .i64 0)).setCell (p := ⟨w.heap.size, 1, none⟩) (Nat.le_refl _) (.int .i64 0)).setCell (p := ⟨w.heap.size, 2, none⟩) (Nat.le_refl _) (.int .i64 0)).setCell (p := ⟨w.heap.size, 3, none⟩) (Nat.le_refl _) (.string ⟨#[]⟩)
      go_wp2_with fail
      generalize ((((w2.setCell ⟨w.heap.size, 0, none⟩ (.int .i64 0)).setCell ⟨w.heap.size, 1, none⟩ (.int .i64 0)).setCell ⟨w.heap.size, 2, none⟩ (.int .i64 0)).setCell ⟨w.heap.size, 3, none⟩ (.string ⟨#[]⟩)) = W2 at *
      obtain ⟨q0, q1, q2, q3⟩ := R2.cells
      clear c0 c1 c2 c3 z0 z1 z2 z3
      refine bodyPost_ret (v := .tuple #[.agg #[.int .i64 0, .int .i64 0, .int .i64 0, .string ⟨#[]⟩], .bool false]) (by simp [results, Try.results43, go_sem, q0, q1, q2, q3]) rfl ?_
      exact ⟨0, 0, 0, ByteArray.empty, false, rfl, .inr ⟨pcP_bad HQ.out HO.out, rfl, rfl, rfl, rfl, rfl⟩, HB2⟩

theorem readPiece_yes (s : ByteArray) (n p c : Nat) (t : ByteArray) (w : World) (hs : s.size ≤ 1048576) (h : Hid (pcP s = some (n, p, c, t))) :
    Calls Try.prog 43 #[.string s] w fun e w' => e = .returned (.tuple #[.agg #[.int .i64 n, .int .i64 p, .int .i64 c, .string t], .bool true]) ∧ Below w.heap.size w w' := by
  refine (readPiece_any s w hs).mono ?_
  rintro e w' ⟨q, f, l, x, r, rfl, ha, hb⟩
  rcases ha with ⟨h1, rfl⟩ | ⟨h1, _⟩
  · rw [h.out] at h1
    simp only [Option.some.injEq, Prod.mk.injEq] at h1
    obtain ⟨rfl, rfl, rfl, rfl⟩ := h1
    exact ⟨rfl, hb⟩
  · rw [h.out] at h1; cases h1
theorem readPiece_no (s : ByteArray) (w : World) (hs : s.size ≤ 1048576) (h : Hid (pcP s = none)) :
    Calls Try.prog 43 #[.string s] w fun e w' => e = .returned (.tuple #[.agg #[.int .i64 0, .int .i64 0, .int .i64 0, .string ByteArray.empty], .bool false]) ∧ Below w.heap.size w w' := by
  refine (readPiece_any s w hs).mono ?_
  rintro e w' ⟨q, f, l, x, r, rfl, ha, hb⟩
  rcases ha with ⟨h1, rfl⟩ | ⟨h1, rfl, rfl, rfl, rfl, rfl⟩
  · rw [h.out] at h1; cases h1
  · exact ⟨rfl, hb⟩

set_option maxRecDepth 100000 in
set_option maxHeartbeats 1000000 in
theorem ReadPiece_any (s : ByteArray) (w : World) (hs : s.size ≤ 1048576) :
    Calls Try.prog 13 #[.string s] w fun e w' => ∃ (q f l : Nat) (t : ByteArray) (r : Bool), e = .returned (.tuple #[.int .i64 q, .int .i64 f, .int .i64 l, .string t, .bool r]) ∧ AnsP s q f l t r ∧ Below w.heap.size w w' := by
  go_enter Try.func13, Try.ntmps13
  go_wp2_with fail
  refine (readPiece_any s w hs).mono ?_
  rintro e w1 ⟨q, f, l, t, r, rfl, ha, hb⟩
  have HA : Hid (AnsP s q f l t r) := ha
  have HB : Hid (Below w.heap.size w w1) := hb
  clear ha hb
  go_wp2_with fail
  go_quiet (fail)
  go_wp2_with fail
  refine bodyPost_ret (v := .tuple #[.int .i64 q, .int .i64 f, .int .i64 l, .string t, .bool r]) (by simp [results, Try.results13, go_sem]) rfl ?_
  exact ⟨q, f, l, t, r, rfl, HA.out, below_drewN (HB.out.alloc HB.out.size _) _⟩
end Go.Proofs.Ytfefjkldjaabbaa
