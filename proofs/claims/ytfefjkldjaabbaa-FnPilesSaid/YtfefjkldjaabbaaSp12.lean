/- The walk over the specification's Pieces. Written by gen_sp12.py. -/
import Derived.Test.YtfefjkldjaabbaaIp
import Derived.Test.YtfefjkldjaabbaaPb
import Derived.Deep.RegionHeld3
namespace Go.Proofs.Ytfefjkldjaabbaa
open Go.RowKit Pl
set_option linter.unusedVariables false
set_option linter.unusedSimpArgs false

set_option maxRecDepth 100000 in
set_option maxHeartbeats 2000000 in
theorem spPieces_no (num : Int) (s : ByteArray) (w : World) (h : ¬ ((0 ≤ num ∧ num ≤ 100000) ∧ s.size ≤ 400)) (hm : s.size ≤ 1048576) :
    Calls Try.prog 12 #[.int .i64 num, .string s] w fun e w' => PcPost w false [] e w' := by
  by_cases h1 : 0 ≤ num ∧ num ≤ 100000
  · have h2 : 400 < s.size := by omega
    have hd : decide (0 ≤ num ∧ num ≤ 100000) = true := decide_eq_true h1
    clear h h1
    go_enter Try.func12, Try.ntmps12
    go_wp2_with (first | (go_at_call 41; refine (in_is _ hd).mono ?_; rintro e w1 ⟨rfl, rfl⟩))
    go_ret2
    exact ⟨_, rfl, OwnS.made _ _ (Nat.le_refl _), (Below.refl _ _).alloc (Nat.le_refl _) _⟩
  · have hd : decide (0 ≤ num ∧ num ≤ 100000) = false := decide_eq_false h1
    clear h h1
    go_enter Try.func12, Try.ntmps12
    go_wp2_with (first | (go_at_call 41; refine (in_is _ hd).mono ?_; rintro e w1 ⟨rfl, rfl⟩))
    go_ret2
    exact ⟨_, rfl, OwnS.made _ _ (Nat.le_refl _), (Below.refl _ _).alloc (Nat.le_refl _) _⟩

set_option maxRecDepth 100000 in
set_option maxHeartbeats 8000000 in
theorem spPieces_yes (num : Nat) (s : ByteArray) (w : World) (hn : num ≤ 100000) (hs : s.size ≤ 400) :
    Calls Try.prog 12 #[.int .i64 num, .string s] w fun e w' => PcPost w true (pcsL num s) e w' := by
  have hd : decide ((0 : Int) ≤ (num : Int) ∧ (num : Int) ≤ 100000) = true := decide_eq_true (by omega)
  have hs' : ¬ (400 < s.size) := by omega
  obtain ⟨hc0, hc1⟩ := cntN_le hs
  obtain ⟨N, hN⟩ : ∃ N, N = cntN s.size := ⟨_, rfl⟩
  rw [← hN] at hc0 hc1
  have HN : Hid (N = cntN s.size) := hN
  have S0 : Hid (OwnS (w.alloc (.cells #[] 9)) w.heap.size (.slice (some ⟨w.heap.size, 0, none⟩) 0 0) ((List.range 0).map (pcS num s))) := OwnS.made w w.heap.size (Nat.le_refl _)
  have B0 : Hid (Below w.heap.size w (w.alloc (.cells #[] 9))) := (Below.refl _ _).alloc (Nat.le_refl _) _
  by_cases hz : s.size = 0
  · have hq0 : ((s.size : Int) + 40 - 1) / 40 = 0 := by omega
    have hN1 : N = 1 := by rw [hN, hz]; rfl
    have HN1 : Hid (cntN s.size = 1) := by rw [← hN]; exact hN1
    clear hz hN HN hc0 hc1 hN1
    go_enter Try.func12, Try.ntmps12
    go_wp2_with (first | (go_at_call 41; refine (in_is _ hd).mono ?_; rintro e w1 ⟨rfl, rfl⟩))
    go_loopw [6, 8] (fun v i wr => ∃ (k : Nat), k ≤ 1 ∧ i = .int .i64 k ∧ Hid (OwnS wr w.heap.size v ((List.range k).map (pcS num s))) ∧ Hid (Below w.heap.size w wr)) (fun _ i _ => 1 - (intOf i).toNat)
    case atStart => exact ⟨0, Nat.zero_le _, rfl, S0, B0⟩
    case round =>
      clear S0 B0 hq0
      obtain ⟨k, hk, rfl, hS, hb⟩ := hrel
      by_cases hlt : k < 1
      · have hkm : 40 * k ≤ s.size := by have := HN1.out; unfold cntN at this; split at this <;> omega
        have hlk : ((List.range k).map (pcS num s)).length < 4000000 := by rw [List.length_map, List.length_range]; omega
        by_cases hE : s.size < 40 * k + 40
        · have hel : 40 * k + lenN s.size k = s.size := by unfold lenN; omega
          have HEL : Hid (40 * k + lenN s.size k = s.size) := hel
          have hE1 : (s.size : Int) < ((k : Int) + 1) * 40 := by omega
          clear hel
          have v1 := varS_short num hn
          have v2 := varS_short k (by omega)
          have v3 := varS_short 1 (by omega)
          have m0 : (0 : Int) ≤ (k : Int) * 40 := by omega
          have p0 : (0 : Int) ≤ ((k : Int) + 1) * 40 := by omega
          have p1 : (k : Int) ≤ (k : Int) + 1 := by omega
          have gA : Hid (¬ (9223372036854775807 < (varS num).size + (varS k).size)) := by show ¬ _; omega
          have gB : Hid (¬ (9223372036854775807 < (varS num ++ varS k).size + (varS 1).size)) := by show ¬ _; rw [app_size]; omega
          have gB2 : Hid (¬ (9223372036854775807 < (varS num).size + (varS k).size + (varS 1).size)) := by show ¬ _; omega
          have gC : Hid (¬ (9223372036854775807 < (varS num ++ varS k ++ varS 1).size + (s.extract ((k : Int) * 40).toNat s.size).size)) := by show ¬ _; rw [app_size, app_size, ByteArray.size_extract]; omega
          have gC2 : Hid (¬ (9223372036854775807 < (varS num).size + (varS k).size + (varS 1).size + (s.size - ((k : Int) * 40).toNat))) := by show ¬ _; omega
          have m1 : (k : Int) * 40 ≤ (s.size : Int) := by omega
          have m2 : IntKind.i64.wrap ((k : Int) * 40) = (k : Int) * 40 := by rw [IntKind.wrap_i64]; omega
          go_wp2_with fail
          skip
          have HTR : Hid (Hid True) := trivial
          have c : Below wr.heap.size wr wr.drew := (Below.refl _ _).drew
          refine wp_region_held_drew (S := fun w' => Hid True) (by kernel_rfl) HTR.out (fun hHeld => ?_)
          refine wpAnyH_take (i := 0) (v := ?v0b14) rfl (by kernel_rfl) (by kernel_rfl) (by kernel_rfl) (fun _ _ _ h => h) (Or.inl ⟨by rfl, ?hy0b14⟩) (by assumption) ?_
          case hy0b14 => (intro w hSw; (try dsimp only at hSw); simp only [List.getElem_toArray, List.getElem_cons_zero, List.getElem_cons_succ]; go_simp; try with_reducible rfl)
          try simp only [Act.put, List.getElem_toArray, List.getElem_cons_zero, List.getElem_cons_succ, List.setIfInBounds_toArray, List.set_cons_zero, List.set_cons_succ]
          refine wpAnyH_take (i := 1) (v := ?v1b15) rfl (by kernel_rfl) (by kernel_rfl) (by kernel_rfl) (fun _ _ _ h => h) (Or.inl ⟨by rfl, ?hy1b15⟩) (by assumption) ?_
          case hy1b15 => (intro w hSw; (try dsimp only at hSw); simp only [List.getElem_toArray, List.getElem_cons_zero, List.getElem_cons_succ]; go_simp; try with_reducible rfl)
          try simp only [Act.put, List.getElem_toArray, List.getElem_cons_zero, List.getElem_cons_succ, List.setIfInBounds_toArray, List.set_cons_zero, List.set_cons_succ]
          refine wpAnyH_take (i := 3) (v := ?v3b16) rfl (by kernel_rfl) (by kernel_rfl) (by kernel_rfl) (fun _ _ _ h => h) (Or.inl ⟨by rfl, ?hy3b16⟩) (by assumption) ?_
          case hy3b16 => (intro w hSw; (try dsimp only at hSw); simp only [List.getElem_toArray, List.getElem_cons_zero, List.getElem_cons_succ]; go_simp; try with_reducible rfl)
          try simp only [Act.put, List.getElem_toArray, List.getElem_cons_zero, List.getElem_cons_succ, List.setIfInBounds_toArray, List.set_cons_zero, List.set_cons_succ]
          refine wpAnyH_take (i := 6) (v := ?v6b17) rfl (by kernel_rfl) (by kernel_rfl) (by kernel_rfl) (fun _ _ _ h => h) (Or.inl ⟨by rfl, ?hy6b17⟩) (by assumption) ?_
          case hy6b17 => (intro w hSw; (try dsimp only at hSw); simp only [List.getElem_toArray, List.getElem_cons_zero, List.getElem_cons_succ]; go_simp; try with_reducible rfl)
          try simp only [Act.put, List.getElem_toArray, List.getElem_cons_zero, List.getElem_cons_succ, List.setIfInBounds_toArray, List.set_cons_zero, List.set_cons_succ]
          refine wpAnyH_take (i := 9) (v := ?v9b18) rfl (by kernel_rfl) (by kernel_rfl) (by kernel_rfl) (fun _ _ _ h => h) (Or.inl ⟨by rfl, ?hy9b18⟩) (by assumption) ?_
          case hy9b18 => (intro w hSw; (try dsimp only at hSw); simp only [List.getElem_toArray, List.getElem_cons_zero, List.getElem_cons_succ]; go_simp; try with_reducible rfl)
          try simp only [Act.put, List.getElem_toArray, List.getElem_cons_zero, List.getElem_cons_succ, List.setIfInBounds_toArray, List.set_cons_zero, List.set_cons_succ]
          refine wpAnyH_take (i := 10) (v := ?v10b19) rfl (by kernel_rfl) (by kernel_rfl) (by kernel_rfl) (fun _ _ _ h => h) (Or.inl ⟨by rfl, ?hy10b19⟩) (by assumption) ?_
          case hy10b19 => (intro w hSw; (try dsimp only at hSw); simp only [List.getElem_toArray, List.getElem_cons_zero, List.getElem_cons_succ]; go_simp; try with_reducible rfl)
          try simp only [Act.put, List.getElem_toArray, List.getElem_cons_zero, List.getElem_cons_succ, List.setIfInBounds_toArray, List.set_cons_zero, List.set_cons_succ]
          refine wpAnyH_take (i := 11) (v := ?v11b20) rfl (by kernel_rfl) (by kernel_rfl) (by kernel_rfl) (fun _ _ _ h => h) (Or.inl ⟨by rfl, ?hy11b20⟩) (by assumption) ?_
          case hy11b20 => (intro w hSw; (try dsimp only at hSw); simp only [List.getElem_toArray, List.getElem_cons_zero, List.getElem_cons_succ]; go_simp; try with_reducible rfl)
          try simp only [Act.put, List.getElem_toArray, List.getElem_cons_zero, List.getElem_cons_succ, List.setIfInBounds_toArray, List.set_cons_zero, List.set_cons_succ]
          refine wpAnyH_take (i := 12) (v := ?v12b21) rfl (by kernel_rfl) (by kernel_rfl) (by kernel_rfl) (fun _ _ _ h => h) (Or.inl ⟨by rfl, ?hy12b21⟩) (by assumption) ?_
          case hy12b21 => (intro w hSw; (try dsimp only at hSw); simp only [List.getElem_toArray, List.getElem_cons_zero, List.getElem_cons_succ]; go_simp; try with_reducible rfl)
          try simp only [Act.put, List.getElem_toArray, List.getElem_cons_zero, List.getElem_cons_succ, List.setIfInBounds_toArray, List.set_cons_zero, List.set_cons_succ]
          refine wpAnyH_take (i := 13) (v := ?v13b22) rfl (by kernel_rfl) (by kernel_rfl) (by kernel_rfl) (fun _ _ _ h => h) (Or.inl ⟨by rfl, ?hy13b22⟩) (by assumption) ?_
          case hy13b22 => (intro w hSw; (try dsimp only at hSw); simp only [List.getElem_toArray, List.getElem_cons_zero, List.getElem_cons_succ]; go_simp; try with_reducible rfl)
          try simp only [Act.put, List.getElem_toArray, List.getElem_cons_zero, List.getElem_cons_succ, List.setIfInBounds_toArray, List.set_cons_zero, List.set_cons_succ]
          refine wpAnyH_ready (rs := [2]) (by kernel_rfl) (by simp) ?_
          refine AllReadyH.cons (i := 2) rfl (fun K hK => ?_) AllReadyH.nil
          rw [if_pos (by rfl)]
          simp only [List.getElem_toArray, List.getElem_cons_zero, List.getElem_cons_succ]
          go_simp
          refine (l01Var_any num wr.drew (by omega)).mono ?_
          rintro e y1 ⟨rfl, b⟩
          have c : Below wr.heap.size wr y1 := bl_next c b
          refine hK.out _ _ (HTR.out) (fun hHeld => ?_)
          clear hK K
          try simp only [Act.put, List.getElem_toArray, List.getElem_cons_zero, List.getElem_cons_succ, List.setIfInBounds_toArray, List.set_cons_zero, List.set_cons_succ]
          clear b
          refine wpAnyH_ready (rs := [4]) (by kernel_rfl) (by simp) ?_
          refine AllReadyH.cons (i := 4) rfl (fun K hK => ?_) AllReadyH.nil
          rw [if_pos (by rfl)]
          simp only [List.getElem_toArray, List.getElem_cons_zero, List.getElem_cons_succ]
          go_simp
          refine (l01Var_any k y1 (by omega)).mono ?_
          rintro e y2 ⟨rfl, b⟩
          have c : Below wr.heap.size wr y2 := bl_next c b
          refine hK.out _ _ (HTR.out) (fun hHeld => ?_)
          clear hK K
          try simp only [Act.put, List.getElem_toArray, List.getElem_cons_zero, List.getElem_cons_succ, List.setIfInBounds_toArray, List.set_cons_zero, List.set_cons_succ]
          clear b
          refine wpAnyH_take (i := 5) (v := ?v5c1) rfl (by kernel_rfl) (by kernel_rfl) (by kernel_rfl) (fun _ _ _ h => h) (Or.inl ⟨by rfl, ?hy5c1⟩) (by assumption) ?_
          case hy5c1 => (intro w hSw; (try dsimp only at hSw); simp only [List.getElem_toArray, List.getElem_cons_zero, List.getElem_cons_succ]; go_simp; refine if_neg ?_; exact gA.out)
          try simp only [Act.put, List.getElem_toArray, List.getElem_cons_zero, List.getElem_cons_succ, List.setIfInBounds_toArray, List.set_cons_zero, List.set_cons_succ]
          refine wpAnyH_ready (rs := [7]) (by kernel_rfl) (by simp) ?_
          refine AllReadyH.cons (i := 7) rfl (fun K hK => ?_) AllReadyH.nil
          rw [if_pos (by rfl)]
          simp only [List.getElem_toArray, List.getElem_cons_zero, List.getElem_cons_succ]
          go_simp
          refine (l01Var_any 1 y2 (by omega)).mono ?_
          rintro e y3 ⟨rfl, b⟩
          have c : Below wr.heap.size wr y3 := bl_next c b
          refine hK.out _ _ (HTR.out) (fun hHeld => ?_)
          clear hK K
          try simp only [Act.put, List.getElem_toArray, List.getElem_cons_zero, List.getElem_cons_succ, List.setIfInBounds_toArray, List.set_cons_zero, List.set_cons_succ]
          clear b
          refine wpAnyH_take (i := 8) (v := ?v8c2) rfl (by kernel_rfl) (by kernel_rfl) (by kernel_rfl) (fun _ _ _ h => h) (Or.inl ⟨by rfl, ?hy8c2⟩) (by assumption) ?_
          case hy8c2 => (intro w hSw; (try dsimp only at hSw); simp only [List.getElem_toArray, List.getElem_cons_zero, List.getElem_cons_succ]; go_simp; refine if_neg ?_; first | exact gB.out | exact gB2.out)
          try simp only [Act.put, List.getElem_toArray, List.getElem_cons_zero, List.getElem_cons_succ, List.setIfInBounds_toArray, List.set_cons_zero, List.set_cons_succ]
          refine wpAnyH_take (i := 14) (v := ?v14c3) rfl (by kernel_rfl) (by kernel_rfl) (by kernel_rfl) (fun _ _ _ h => h) (Or.inl ⟨by rfl, ?hy14c3⟩) (by assumption) ?_
          case hy14c3 => (intro w hSw; (try dsimp only at hSw); simp only [List.getElem_toArray, List.getElem_cons_zero, List.getElem_cons_succ]; go_simp; refine if_neg ?_; first | exact gC.out | exact gC2.out)
          try simp only [Act.put, List.getElem_toArray, List.getElem_cons_zero, List.getElem_cons_succ, List.setIfInBounds_toArray, List.set_cons_zero, List.set_cons_succ]
          refine wpAnyH_ready (rs := [15]) (by kernel_rfl) (by simp) ?_
          refine AllReadyH.cons (i := 15) rfl (fun K hK => ?_) AllReadyH.nil
          rw [if_pos (by rfl)]
          simp only [List.getElem_toArray, List.getElem_cons_zero, List.getElem_cons_succ]
          go_simp
          have c0 := c
          have c : Below wr.heap.size wr (y3.alloc (.cells #[.string (varS num ++ varS k ++ varS 1 ++ s.extract ((k : Int) * 40).toNat s.size)] 9)) := c.alloc c.size _
          refine hK.out _ _ (HTR.out) (fun hHeld => ?_)
          clear hK K
          try simp only [Act.put, List.getElem_toArray, List.getElem_cons_zero, List.getElem_cons_succ, List.setIfInBounds_toArray, List.set_cons_zero, List.set_cons_succ]
          refine wpAnyH_ready (rs := [16]) (by kernel_rfl) (by simp) ?_
          refine AllReadyH.cons (i := 16) rfl (fun K hK => ?_) AllReadyH.nil
          rw [if_pos (by rfl)]
          simp only [List.getElem_toArray, List.getElem_cons_zero, List.getElem_cons_succ]
          refine wp_pushSb _ _ 26 rfl Try.underlying26 Try.info9 w.heap.size u6 ((List.range k).map (pcS num s)) (by rfl) (ownS_later hS.out c0) (varS num ++ varS k ++ varS 1 ++ s.extract ((k : Int) * 40).toNat s.size) (by rfl) hlk (Nat.le_trans hb.out.size c0.size) ?_
          intro v9 w9 S9 G9 N9
          have B9 : Below w.heap.size w w9 := ((hb.out.trans (c0.mono hb.out.size)).alloc (Nat.le_trans hb.out.size c0.size) _).grown G9 (by simp; have := hb.out.size; have := c0.size; omega) (fun j hj => (hS.out.lt j hj).1)
          have c9 : Hid (True) := trivial
          refine hK.out _ _ (HTR.out) (fun hHeld => ?_)
          clear hK K
          try simp only [Act.put, List.getElem_toArray, List.getElem_cons_zero, List.getElem_cons_succ, List.setIfInBounds_toArray, List.set_cons_zero, List.set_cons_succ]
          refine wpAnyH_take (i := 17) (v := ?v17b26) rfl (by kernel_rfl) (by kernel_rfl) (by kernel_rfl) (fun _ _ _ h => h) (Or.inl ⟨by rfl, ?hy17b26⟩) (by assumption) ?_
          case hy17b26 => (intro w hSw; (try dsimp only at hSw); simp only [List.getElem_toArray, List.getElem_cons_zero, List.getElem_cons_succ]; go_simp; try with_reducible rfl)
          try simp only [Act.put, List.getElem_toArray, List.getElem_cons_zero, List.getElem_cons_succ, List.setIfInBounds_toArray, List.set_cons_zero, List.set_cons_succ]
          refine wpAnyH_done (by kernel_rfl) ?_ _
          have S10 : Hid (OwnS w9 w.heap.size v9 ((List.range (k + 1)).map (pcS num s))) := by
            show OwnS _ _ _ _
            rw [pcs_succ]
            have e : pcS num s k = varS num ++ varS k ++ varS 1 ++ s.extract ((k : Int) * 40).toNat s.size := by unfold pcS partP; rw [HN1.out, HEL.out, show ((k : Int) * 40).toNat = 40 * k by omega]
            rw [e]
            exact S9
          have B10 : Hid (Below w.heap.size w w9) := B9
          clear S9 G9 N9 B9 c c0 HTR
          go_wp2_with fail
          go_roundw
          case rel => exact ⟨k + 1, by omega, by go_num, S10, B10⟩
          case measure => simp [intOf]; omega
        · have hel : 40 * k + lenN s.size k = 40 * k + 40 := by unfold lenN; omega
          have HEL : Hid (40 * k + lenN s.size k = 40 * k + 40) := hel
          have hE1 : ¬ ((s.size : Int) < ((k : Int) + 1) * 40) := by omega
          clear hel
          have v1 := varS_short num hn
          have v2 := varS_short k (by omega)
          have v3 := varS_short 1 (by omega)
          have m0 : (0 : Int) ≤ (k : Int) * 40 := by omega
          have p0 : (0 : Int) ≤ ((k : Int) + 1) * 40 := by omega
          have p1 : (k : Int) ≤ (k : Int) + 1 := by omega
          have gA : Hid (¬ (9223372036854775807 < (varS num).size + (varS k).size)) := by show ¬ _; omega
          have gB : Hid (¬ (9223372036854775807 < (varS num ++ varS k).size + (varS 1).size)) := by show ¬ _; rw [app_size]; omega
          have gB2 : Hid (¬ (9223372036854775807 < (varS num).size + (varS k).size + (varS 1).size)) := by show ¬ _; omega
          have gC : Hid (¬ (9223372036854775807 < (varS num ++ varS k ++ varS 1).size + (s.extract ((k : Int) * 40).toNat (((k : Int) + 1) * 40).toNat).size)) := by show ¬ _; rw [app_size, app_size, ByteArray.size_extract]; omega
          have gC2 : Hid (¬ (9223372036854775807 < (varS num).size + (varS k).size + (varS 1).size + ((((k : Int) + 1) * 40).toNat - ((k : Int) * 40).toNat))) := by show ¬ _; omega
          have m1 : (k : Int) * 40 ≤ (s.size : Int) := by omega
          have m2 : IntKind.i64.wrap ((k : Int) * 40) = (k : Int) * 40 := by rw [IntKind.wrap_i64]; omega
          go_wp2_with fail
          skip
          have HTR : Hid (Hid True) := trivial
          have c : Below wr.heap.size wr wr.drew := (Below.refl _ _).drew
          refine wp_region_held_drew (S := fun w' => Hid True) (by kernel_rfl) HTR.out (fun hHeld => ?_)
          refine wpAnyH_take (i := 0) (v := ?v0b27) rfl (by kernel_rfl) (by kernel_rfl) (by kernel_rfl) (fun _ _ _ h => h) (Or.inl ⟨by rfl, ?hy0b27⟩) (by assumption) ?_
          case hy0b27 => (intro w hSw; (try dsimp only at hSw); simp only [List.getElem_toArray, List.getElem_cons_zero, List.getElem_cons_succ]; go_simp; try with_reducible rfl)
          try simp only [Act.put, List.getElem_toArray, List.getElem_cons_zero, List.getElem_cons_succ, List.setIfInBounds_toArray, List.set_cons_zero, List.set_cons_succ]
          refine wpAnyH_take (i := 1) (v := ?v1b28) rfl (by kernel_rfl) (by kernel_rfl) (by kernel_rfl) (fun _ _ _ h => h) (Or.inl ⟨by rfl, ?hy1b28⟩) (by assumption) ?_
          case hy1b28 => (intro w hSw; (try dsimp only at hSw); simp only [List.getElem_toArray, List.getElem_cons_zero, List.getElem_cons_succ]; go_simp; try with_reducible rfl)
          try simp only [Act.put, List.getElem_toArray, List.getElem_cons_zero, List.getElem_cons_succ, List.setIfInBounds_toArray, List.set_cons_zero, List.set_cons_succ]
          refine wpAnyH_take (i := 3) (v := ?v3b29) rfl (by kernel_rfl) (by kernel_rfl) (by kernel_rfl) (fun _ _ _ h => h) (Or.inl ⟨by rfl, ?hy3b29⟩) (by assumption) ?_
          case hy3b29 => (intro w hSw; (try dsimp only at hSw); simp only [List.getElem_toArray, List.getElem_cons_zero, List.getElem_cons_succ]; go_simp; try with_reducible rfl)
          try simp only [Act.put, List.getElem_toArray, List.getElem_cons_zero, List.getElem_cons_succ, List.setIfInBounds_toArray, List.set_cons_zero, List.set_cons_succ]
          refine wpAnyH_take (i := 6) (v := ?v6b30) rfl (by kernel_rfl) (by kernel_rfl) (by kernel_rfl) (fun _ _ _ h => h) (Or.inl ⟨by rfl, ?hy6b30⟩) (by assumption) ?_
          case hy6b30 => (intro w hSw; (try dsimp only at hSw); simp only [List.getElem_toArray, List.getElem_cons_zero, List.getElem_cons_succ]; go_simp; try with_reducible rfl)
          try simp only [Act.put, List.getElem_toArray, List.getElem_cons_zero, List.getElem_cons_succ, List.setIfInBounds_toArray, List.set_cons_zero, List.set_cons_succ]
          refine wpAnyH_take (i := 9) (v := ?v9b31) rfl (by kernel_rfl) (by kernel_rfl) (by kernel_rfl) (fun _ _ _ h => h) (Or.inl ⟨by rfl, ?hy9b31⟩) (by assumption) ?_
          case hy9b31 => (intro w hSw; (try dsimp only at hSw); simp only [List.getElem_toArray, List.getElem_cons_zero, List.getElem_cons_succ]; go_simp; try with_reducible rfl)
          try simp only [Act.put, List.getElem_toArray, List.getElem_cons_zero, List.getElem_cons_succ, List.setIfInBounds_toArray, List.set_cons_zero, List.set_cons_succ]
          refine wpAnyH_take (i := 10) (v := ?v10b32) rfl (by kernel_rfl) (by kernel_rfl) (by kernel_rfl) (fun _ _ _ h => h) (Or.inl ⟨by rfl, ?hy10b32⟩) (by assumption) ?_
          case hy10b32 => (intro w hSw; (try dsimp only at hSw); simp only [List.getElem_toArray, List.getElem_cons_zero, List.getElem_cons_succ]; go_simp; try with_reducible rfl)
          try simp only [Act.put, List.getElem_toArray, List.getElem_cons_zero, List.getElem_cons_succ, List.setIfInBounds_toArray, List.set_cons_zero, List.set_cons_succ]
          refine wpAnyH_take (i := 11) (v := ?v11b33) rfl (by kernel_rfl) (by kernel_rfl) (by kernel_rfl) (fun _ _ _ h => h) (Or.inl ⟨by rfl, ?hy11b33⟩) (by assumption) ?_
          case hy11b33 => (intro w hSw; (try dsimp only at hSw); simp only [List.getElem_toArray, List.getElem_cons_zero, List.getElem_cons_succ]; go_simp; try with_reducible rfl)
          try simp only [Act.put, List.getElem_toArray, List.getElem_cons_zero, List.getElem_cons_succ, List.setIfInBounds_toArray, List.set_cons_zero, List.set_cons_succ]
          refine wpAnyH_take (i := 12) (v := ?v12b34) rfl (by kernel_rfl) (by kernel_rfl) (by kernel_rfl) (fun _ _ _ h => h) (Or.inl ⟨by rfl, ?hy12b34⟩) (by assumption) ?_
          case hy12b34 => (intro w hSw; (try dsimp only at hSw); simp only [List.getElem_toArray, List.getElem_cons_zero, List.getElem_cons_succ]; go_simp; try with_reducible rfl)
          try simp only [Act.put, List.getElem_toArray, List.getElem_cons_zero, List.getElem_cons_succ, List.setIfInBounds_toArray, List.set_cons_zero, List.set_cons_succ]
          refine wpAnyH_take (i := 13) (v := ?v13b35) rfl (by kernel_rfl) (by kernel_rfl) (by kernel_rfl) (fun _ _ _ h => h) (Or.inl ⟨by rfl, ?hy13b35⟩) (by assumption) ?_
          case hy13b35 => (intro w hSw; (try dsimp only at hSw); simp only [List.getElem_toArray, List.getElem_cons_zero, List.getElem_cons_succ]; go_simp; try with_reducible rfl)
          try simp only [Act.put, List.getElem_toArray, List.getElem_cons_zero, List.getElem_cons_succ, List.setIfInBounds_toArray, List.set_cons_zero, List.set_cons_succ]
          refine wpAnyH_ready (rs := [2]) (by kernel_rfl) (by simp) ?_
          refine AllReadyH.cons (i := 2) rfl (fun K hK => ?_) AllReadyH.nil
          rw [if_pos (by rfl)]
          simp only [List.getElem_toArray, List.getElem_cons_zero, List.getElem_cons_succ]
          go_simp
          refine (l01Var_any num wr.drew (by omega)).mono ?_
          rintro e y1 ⟨rfl, b⟩
          have c : Below wr.heap.size wr y1 := bl_next c b
          refine hK.out _ _ (HTR.out) (fun hHeld => ?_)
          clear hK K
          try simp only [Act.put, List.getElem_toArray, List.getElem_cons_zero, List.getElem_cons_succ, List.setIfInBounds_toArray, List.set_cons_zero, List.set_cons_succ]
          clear b
          refine wpAnyH_ready (rs := [4]) (by kernel_rfl) (by simp) ?_
          refine AllReadyH.cons (i := 4) rfl (fun K hK => ?_) AllReadyH.nil
          rw [if_pos (by rfl)]
          simp only [List.getElem_toArray, List.getElem_cons_zero, List.getElem_cons_succ]
          go_simp
          refine (l01Var_any k y1 (by omega)).mono ?_
          rintro e y2 ⟨rfl, b⟩
          have c : Below wr.heap.size wr y2 := bl_next c b
          refine hK.out _ _ (HTR.out) (fun hHeld => ?_)
          clear hK K
          try simp only [Act.put, List.getElem_toArray, List.getElem_cons_zero, List.getElem_cons_succ, List.setIfInBounds_toArray, List.set_cons_zero, List.set_cons_succ]
          clear b
          refine wpAnyH_take (i := 5) (v := ?v5c4) rfl (by kernel_rfl) (by kernel_rfl) (by kernel_rfl) (fun _ _ _ h => h) (Or.inl ⟨by rfl, ?hy5c4⟩) (by assumption) ?_
          case hy5c4 => (intro w hSw; (try dsimp only at hSw); simp only [List.getElem_toArray, List.getElem_cons_zero, List.getElem_cons_succ]; go_simp; refine if_neg ?_; exact gA.out)
          try simp only [Act.put, List.getElem_toArray, List.getElem_cons_zero, List.getElem_cons_succ, List.setIfInBounds_toArray, List.set_cons_zero, List.set_cons_succ]
          refine wpAnyH_ready (rs := [7]) (by kernel_rfl) (by simp) ?_
          refine AllReadyH.cons (i := 7) rfl (fun K hK => ?_) AllReadyH.nil
          rw [if_pos (by rfl)]
          simp only [List.getElem_toArray, List.getElem_cons_zero, List.getElem_cons_succ]
          go_simp
          refine (l01Var_any 1 y2 (by omega)).mono ?_
          rintro e y3 ⟨rfl, b⟩
          have c : Below wr.heap.size wr y3 := bl_next c b
          refine hK.out _ _ (HTR.out) (fun hHeld => ?_)
          clear hK K
          try simp only [Act.put, List.getElem_toArray, List.getElem_cons_zero, List.getElem_cons_succ, List.setIfInBounds_toArray, List.set_cons_zero, List.set_cons_succ]
          clear b
          refine wpAnyH_take (i := 8) (v := ?v8c5) rfl (by kernel_rfl) (by kernel_rfl) (by kernel_rfl) (fun _ _ _ h => h) (Or.inl ⟨by rfl, ?hy8c5⟩) (by assumption) ?_
          case hy8c5 => (intro w hSw; (try dsimp only at hSw); simp only [List.getElem_toArray, List.getElem_cons_zero, List.getElem_cons_succ]; go_simp; refine if_neg ?_; first | exact gB.out | exact gB2.out)
          try simp only [Act.put, List.getElem_toArray, List.getElem_cons_zero, List.getElem_cons_succ, List.setIfInBounds_toArray, List.set_cons_zero, List.set_cons_succ]
          refine wpAnyH_take (i := 14) (v := ?v14c6) rfl (by kernel_rfl) (by kernel_rfl) (by kernel_rfl) (fun _ _ _ h => h) (Or.inl ⟨by rfl, ?hy14c6⟩) (by assumption) ?_
          case hy14c6 => (intro w hSw; (try dsimp only at hSw); simp only [List.getElem_toArray, List.getElem_cons_zero, List.getElem_cons_succ]; go_simp; refine if_neg ?_; first | exact gC.out | exact gC2.out)
          try simp only [Act.put, List.getElem_toArray, List.getElem_cons_zero, List.getElem_cons_succ, List.setIfInBounds_toArray, List.set_cons_zero, List.set_cons_succ]
          refine wpAnyH_ready (rs := [15]) (by kernel_rfl) (by simp) ?_
          refine AllReadyH.cons (i := 15) rfl (fun K hK => ?_) AllReadyH.nil
          rw [if_pos (by rfl)]
          simp only [List.getElem_toArray, List.getElem_cons_zero, List.getElem_cons_succ]
          go_simp
          have c0 := c
          have c : Below wr.heap.size wr (y3.alloc (.cells #[.string (varS num ++ varS k ++ varS 1 ++ s.extract ((k : Int) * 40).toNat (((k : Int) + 1) * 40).toNat)] 9)) := c.alloc c.size _
          refine hK.out _ _ (HTR.out) (fun hHeld => ?_)
          clear hK K
          try simp only [Act.put, List.getElem_toArray, List.getElem_cons_zero, List.getElem_cons_succ, List.setIfInBounds_toArray, List.set_cons_zero, List.set_cons_succ]
          refine wpAnyH_ready (rs := [16]) (by kernel_rfl) (by simp) ?_
          refine AllReadyH.cons (i := 16) rfl (fun K hK => ?_) AllReadyH.nil
          rw [if_pos (by rfl)]
          simp only [List.getElem_toArray, List.getElem_cons_zero, List.getElem_cons_succ]
          refine wp_pushSb _ _ 26 rfl Try.underlying26 Try.info9 w.heap.size u6 ((List.range k).map (pcS num s)) (by rfl) (ownS_later hS.out c0) (varS num ++ varS k ++ varS 1 ++ s.extract ((k : Int) * 40).toNat (((k : Int) + 1) * 40).toNat) (by rfl) hlk (Nat.le_trans hb.out.size c0.size) ?_
          intro v9 w9 S9 G9 N9
          have B9 : Below w.heap.size w w9 := ((hb.out.trans (c0.mono hb.out.size)).alloc (Nat.le_trans hb.out.size c0.size) _).grown G9 (by simp; have := hb.out.size; have := c0.size; omega) (fun j hj => (hS.out.lt j hj).1)
          have c9 : Hid (True) := trivial
          refine hK.out _ _ (HTR.out) (fun hHeld => ?_)
          clear hK K
          try simp only [Act.put, List.getElem_toArray, List.getElem_cons_zero, List.getElem_cons_succ, List.setIfInBounds_toArray, List.set_cons_zero, List.set_cons_succ]
          refine wpAnyH_take (i := 17) (v := ?v17b39) rfl (by kernel_rfl) (by kernel_rfl) (by kernel_rfl) (fun _ _ _ h => h) (Or.inl ⟨by rfl, ?hy17b39⟩) (by assumption) ?_
          case hy17b39 => (intro w hSw; (try dsimp only at hSw); simp only [List.getElem_toArray, List.getElem_cons_zero, List.getElem_cons_succ]; go_simp; try with_reducible rfl)
          try simp only [Act.put, List.getElem_toArray, List.getElem_cons_zero, List.getElem_cons_succ, List.setIfInBounds_toArray, List.set_cons_zero, List.set_cons_succ]
          refine wpAnyH_done (by kernel_rfl) ?_ _
          have S10 : Hid (OwnS w9 w.heap.size v9 ((List.range (k + 1)).map (pcS num s))) := by
            show OwnS _ _ _ _
            rw [pcs_succ]
            have e : pcS num s k = varS num ++ varS k ++ varS 1 ++ s.extract ((k : Int) * 40).toNat (((k : Int) + 1) * 40).toNat := by unfold pcS partP; rw [HN1.out, HEL.out, show ((k : Int) * 40).toNat = 40 * k by omega]; rw [show (((k : Int) + 1) * 40).toNat = 40 * k + 40 by omega]
            rw [e]
            exact S9
          have B10 : Hid (Below w.heap.size w w9) := B9
          clear S9 G9 N9 B9 c c0 HTR
          go_wp2_with fail
          go_roundw
          case rel => exact ⟨k + 1, by omega, by go_num, S10, B10⟩
          case measure => simp [intOf]; omega
      · obtain rfl : k = 1 := by omega
        go_wp2_with fail
        go_ret2
        refine ⟨_, rfl, ?_, hb.out⟩
        unfold pcsL
        rw [HN1.out]
        exact hS.out
  · have hq0 : ((s.size : Int) + 40 - 1) / 40 = (N : Int) := by
      rw [hN]; unfold cntN; rw [if_neg hz]; omega
    have HN1 : Hid (cntN s.size = N) := hN.symm
    clear hz hN HN
    have hN0 : ((N : Int) == 0) = false := by simp; omega
    go_enter Try.func12, Try.ntmps12
    go_wp2_with (first | (go_at_call 41; refine (in_is _ hd).mono ?_; rintro e w1 ⟨rfl, rfl⟩))
    simp only [hq0, hN0]
    go_loopw [6, 8] (fun v i wr => ∃ (k : Nat), k ≤ N ∧ i = .int .i64 k ∧ Hid (OwnS wr w.heap.size v ((List.range k).map (pcS num s))) ∧ Hid (Below w.heap.size w wr)) (fun _ i _ => N - (intOf i).toNat)
    case atStart => exact ⟨0, Nat.zero_le _, rfl, S0, B0⟩
    case round =>
      clear S0 B0 hq0
      obtain ⟨k, hk, rfl, hS, hb⟩ := hrel
      by_cases hlt : k < N
      · have hkm : 40 * k ≤ s.size := by have := HN1.out; unfold cntN at this; split at this <;> omega
        have hlk : ((List.range k).map (pcS num s)).length < 4000000 := by rw [List.length_map, List.length_range]; omega
        by_cases hE : s.size < 40 * k + 40
        · have hel : 40 * k + lenN s.size k = s.size := by unfold lenN; omega
          have HEL : Hid (40 * k + lenN s.size k = s.size) := hel
          have hE1 : (s.size : Int) < ((k : Int) + 1) * 40 := by omega
          clear hel
          have v1 := varS_short num hn
          have v2 := varS_short k (by omega)
          have v3 := varS_short N (by omega)
          have m0 : (0 : Int) ≤ (k : Int) * 40 := by omega
          have p0 : (0 : Int) ≤ ((k : Int) + 1) * 40 := by omega
          have p1 : (k : Int) ≤ (k : Int) + 1 := by omega
          have gA : Hid (¬ (9223372036854775807 < (varS num).size + (varS k).size)) := by show ¬ _; omega
          have gB : Hid (¬ (9223372036854775807 < (varS num ++ varS k).size + (varS N).size)) := by show ¬ _; rw [app_size]; omega
          have gB2 : Hid (¬ (9223372036854775807 < (varS num).size + (varS k).size + (varS N).size)) := by show ¬ _; omega
          have gC : Hid (¬ (9223372036854775807 < (varS num ++ varS k ++ varS N).size + (s.extract ((k : Int) * 40).toNat s.size).size)) := by show ¬ _; rw [app_size, app_size, ByteArray.size_extract]; omega
          have gC2 : Hid (¬ (9223372036854775807 < (varS num).size + (varS k).size + (varS N).size + (s.size - ((k : Int) * 40).toNat))) := by show ¬ _; omega
          have m1 : (k : Int) * 40 ≤ (s.size : Int) := by omega
          have m2 : IntKind.i64.wrap ((k : Int) * 40) = (k : Int) * 40 := by rw [IntKind.wrap_i64]; omega
          go_wp2_with fail
          skip
          have HTR : Hid (Hid True) := trivial
          have c : Below wr.heap.size wr wr.drew := (Below.refl _ _).drew
          refine wp_region_held_drew (S := fun w' => Hid True) (by kernel_rfl) HTR.out (fun hHeld => ?_)
          refine wpAnyH_take (i := 0) (v := ?v0b40) rfl (by kernel_rfl) (by kernel_rfl) (by kernel_rfl) (fun _ _ _ h => h) (Or.inl ⟨by rfl, ?hy0b40⟩) (by assumption) ?_
          case hy0b40 => (intro w hSw; (try dsimp only at hSw); simp only [List.getElem_toArray, List.getElem_cons_zero, List.getElem_cons_succ]; go_simp; try with_reducible rfl)
          try simp only [Act.put, List.getElem_toArray, List.getElem_cons_zero, List.getElem_cons_succ, List.setIfInBounds_toArray, List.set_cons_zero, List.set_cons_succ]
          refine wpAnyH_take (i := 1) (v := ?v1b41) rfl (by kernel_rfl) (by kernel_rfl) (by kernel_rfl) (fun _ _ _ h => h) (Or.inl ⟨by rfl, ?hy1b41⟩) (by assumption) ?_
          case hy1b41 => (intro w hSw; (try dsimp only at hSw); simp only [List.getElem_toArray, List.getElem_cons_zero, List.getElem_cons_succ]; go_simp; try with_reducible rfl)
          try simp only [Act.put, List.getElem_toArray, List.getElem_cons_zero, List.getElem_cons_succ, List.setIfInBounds_toArray, List.set_cons_zero, List.set_cons_succ]
          refine wpAnyH_take (i := 3) (v := ?v3b42) rfl (by kernel_rfl) (by kernel_rfl) (by kernel_rfl) (fun _ _ _ h => h) (Or.inl ⟨by rfl, ?hy3b42⟩) (by assumption) ?_
          case hy3b42 => (intro w hSw; (try dsimp only at hSw); simp only [List.getElem_toArray, List.getElem_cons_zero, List.getElem_cons_succ]; go_simp; try with_reducible rfl)
          try simp only [Act.put, List.getElem_toArray, List.getElem_cons_zero, List.getElem_cons_succ, List.setIfInBounds_toArray, List.set_cons_zero, List.set_cons_succ]
          refine wpAnyH_take (i := 6) (v := ?v6b43) rfl (by kernel_rfl) (by kernel_rfl) (by kernel_rfl) (fun _ _ _ h => h) (Or.inl ⟨by rfl, ?hy6b43⟩) (by assumption) ?_
          case hy6b43 => (intro w hSw; (try dsimp only at hSw); simp only [List.getElem_toArray, List.getElem_cons_zero, List.getElem_cons_succ]; go_simp; try with_reducible rfl)
          try simp only [Act.put, List.getElem_toArray, List.getElem_cons_zero, List.getElem_cons_succ, List.setIfInBounds_toArray, List.set_cons_zero, List.set_cons_succ]
          refine wpAnyH_take (i := 9) (v := ?v9b44) rfl (by kernel_rfl) (by kernel_rfl) (by kernel_rfl) (fun _ _ _ h => h) (Or.inl ⟨by rfl, ?hy9b44⟩) (by assumption) ?_
          case hy9b44 => (intro w hSw; (try dsimp only at hSw); simp only [List.getElem_toArray, List.getElem_cons_zero, List.getElem_cons_succ]; go_simp; try with_reducible rfl)
          try simp only [Act.put, List.getElem_toArray, List.getElem_cons_zero, List.getElem_cons_succ, List.setIfInBounds_toArray, List.set_cons_zero, List.set_cons_succ]
          refine wpAnyH_take (i := 10) (v := ?v10b45) rfl (by kernel_rfl) (by kernel_rfl) (by kernel_rfl) (fun _ _ _ h => h) (Or.inl ⟨by rfl, ?hy10b45⟩) (by assumption) ?_
          case hy10b45 => (intro w hSw; (try dsimp only at hSw); simp only [List.getElem_toArray, List.getElem_cons_zero, List.getElem_cons_succ]; go_simp; try with_reducible rfl)
          try simp only [Act.put, List.getElem_toArray, List.getElem_cons_zero, List.getElem_cons_succ, List.setIfInBounds_toArray, List.set_cons_zero, List.set_cons_succ]
          refine wpAnyH_take (i := 11) (v := ?v11b46) rfl (by kernel_rfl) (by kernel_rfl) (by kernel_rfl) (fun _ _ _ h => h) (Or.inl ⟨by rfl, ?hy11b46⟩) (by assumption) ?_
          case hy11b46 => (intro w hSw; (try dsimp only at hSw); simp only [List.getElem_toArray, List.getElem_cons_zero, List.getElem_cons_succ]; go_simp; try with_reducible rfl)
          try simp only [Act.put, List.getElem_toArray, List.getElem_cons_zero, List.getElem_cons_succ, List.setIfInBounds_toArray, List.set_cons_zero, List.set_cons_succ]
          refine wpAnyH_take (i := 12) (v := ?v12b47) rfl (by kernel_rfl) (by kernel_rfl) (by kernel_rfl) (fun _ _ _ h => h) (Or.inl ⟨by rfl, ?hy12b47⟩) (by assumption) ?_
          case hy12b47 => (intro w hSw; (try dsimp only at hSw); simp only [List.getElem_toArray, List.getElem_cons_zero, List.getElem_cons_succ]; go_simp; try with_reducible rfl)
          try simp only [Act.put, List.getElem_toArray, List.getElem_cons_zero, List.getElem_cons_succ, List.setIfInBounds_toArray, List.set_cons_zero, List.set_cons_succ]
          refine wpAnyH_take (i := 13) (v := ?v13b48) rfl (by kernel_rfl) (by kernel_rfl) (by kernel_rfl) (fun _ _ _ h => h) (Or.inl ⟨by rfl, ?hy13b48⟩) (by assumption) ?_
          case hy13b48 => (intro w hSw; (try dsimp only at hSw); simp only [List.getElem_toArray, List.getElem_cons_zero, List.getElem_cons_succ]; go_simp; try with_reducible rfl)
          try simp only [Act.put, List.getElem_toArray, List.getElem_cons_zero, List.getElem_cons_succ, List.setIfInBounds_toArray, List.set_cons_zero, List.set_cons_succ]
          refine wpAnyH_ready (rs := [2]) (by kernel_rfl) (by simp) ?_
          refine AllReadyH.cons (i := 2) rfl (fun K hK => ?_) AllReadyH.nil
          rw [if_pos (by rfl)]
          simp only [List.getElem_toArray, List.getElem_cons_zero, List.getElem_cons_succ]
          go_simp
          refine (l01Var_any num wr.drew (by omega)).mono ?_
          rintro e y1 ⟨rfl, b⟩
          have c : Below wr.heap.size wr y1 := bl_next c b
          refine hK.out _ _ (HTR.out) (fun hHeld => ?_)
          clear hK K
          try simp only [Act.put, List.getElem_toArray, List.getElem_cons_zero, List.getElem_cons_succ, List.setIfInBounds_toArray, List.set_cons_zero, List.set_cons_succ]
          clear b
          refine wpAnyH_ready (rs := [4]) (by kernel_rfl) (by simp) ?_
          refine AllReadyH.cons (i := 4) rfl (fun K hK => ?_) AllReadyH.nil
          rw [if_pos (by rfl)]
          simp only [List.getElem_toArray, List.getElem_cons_zero, List.getElem_cons_succ]
          go_simp
          refine (l01Var_any k y1 (by omega)).mono ?_
          rintro e y2 ⟨rfl, b⟩
          have c : Below wr.heap.size wr y2 := bl_next c b
          refine hK.out _ _ (HTR.out) (fun hHeld => ?_)
          clear hK K
          try simp only [Act.put, List.getElem_toArray, List.getElem_cons_zero, List.getElem_cons_succ, List.setIfInBounds_toArray, List.set_cons_zero, List.set_cons_succ]
          clear b
          refine wpAnyH_take (i := 5) (v := ?v5c7) rfl (by kernel_rfl) (by kernel_rfl) (by kernel_rfl) (fun _ _ _ h => h) (Or.inl ⟨by rfl, ?hy5c7⟩) (by assumption) ?_
          case hy5c7 => (intro w hSw; (try dsimp only at hSw); simp only [List.getElem_toArray, List.getElem_cons_zero, List.getElem_cons_succ]; go_simp; refine if_neg ?_; exact gA.out)
          try simp only [Act.put, List.getElem_toArray, List.getElem_cons_zero, List.getElem_cons_succ, List.setIfInBounds_toArray, List.set_cons_zero, List.set_cons_succ]
          refine wpAnyH_ready (rs := [7]) (by kernel_rfl) (by simp) ?_
          refine AllReadyH.cons (i := 7) rfl (fun K hK => ?_) AllReadyH.nil
          rw [if_pos (by rfl)]
          simp only [List.getElem_toArray, List.getElem_cons_zero, List.getElem_cons_succ]
          go_simp
          refine (l01Var_any N y2 (by omega)).mono ?_
          rintro e y3 ⟨rfl, b⟩
          have c : Below wr.heap.size wr y3 := bl_next c b
          refine hK.out _ _ (HTR.out) (fun hHeld => ?_)
          clear hK K
          try simp only [Act.put, List.getElem_toArray, List.getElem_cons_zero, List.getElem_cons_succ, List.setIfInBounds_toArray, List.set_cons_zero, List.set_cons_succ]
          clear b
          refine wpAnyH_take (i := 8) (v := ?v8c8) rfl (by kernel_rfl) (by kernel_rfl) (by kernel_rfl) (fun _ _ _ h => h) (Or.inl ⟨by rfl, ?hy8c8⟩) (by assumption) ?_
          case hy8c8 => (intro w hSw; (try dsimp only at hSw); simp only [List.getElem_toArray, List.getElem_cons_zero, List.getElem_cons_succ]; go_simp; refine if_neg ?_; first | exact gB.out | exact gB2.out)
          try simp only [Act.put, List.getElem_toArray, List.getElem_cons_zero, List.getElem_cons_succ, List.setIfInBounds_toArray, List.set_cons_zero, List.set_cons_succ]
          refine wpAnyH_take (i := 14) (v := ?v14c9) rfl (by kernel_rfl) (by kernel_rfl) (by kernel_rfl) (fun _ _ _ h => h) (Or.inl ⟨by rfl, ?hy14c9⟩) (by assumption) ?_
          case hy14c9 => (intro w hSw; (try dsimp only at hSw); simp only [List.getElem_toArray, List.getElem_cons_zero, List.getElem_cons_succ]; go_simp; refine if_neg ?_; first | exact gC.out | exact gC2.out)
          try simp only [Act.put, List.getElem_toArray, List.getElem_cons_zero, List.getElem_cons_succ, List.setIfInBounds_toArray, List.set_cons_zero, List.set_cons_succ]
          refine wpAnyH_ready (rs := [15]) (by kernel_rfl) (by simp) ?_
          refine AllReadyH.cons (i := 15) rfl (fun K hK => ?_) AllReadyH.nil
          rw [if_pos (by rfl)]
          simp only [List.getElem_toArray, List.getElem_cons_zero, List.getElem_cons_succ]
          go_simp
          have c0 := c
          have c : Below wr.heap.size wr (y3.alloc (.cells #[.string (varS num ++ varS k ++ varS N ++ s.extract ((k : Int) * 40).toNat s.size)] 9)) := c.alloc c.size _
          refine hK.out _ _ (HTR.out) (fun hHeld => ?_)
          clear hK K
          try simp only [Act.put, List.getElem_toArray, List.getElem_cons_zero, List.getElem_cons_succ, List.setIfInBounds_toArray, List.set_cons_zero, List.set_cons_succ]
          refine wpAnyH_ready (rs := [16]) (by kernel_rfl) (by simp) ?_
          refine AllReadyH.cons (i := 16) rfl (fun K hK => ?_) AllReadyH.nil
          rw [if_pos (by rfl)]
          simp only [List.getElem_toArray, List.getElem_cons_zero, List.getElem_cons_succ]
          refine wp_pushSb _ _ 26 rfl Try.underlying26 Try.info9 w.heap.size u6 ((List.range k).map (pcS num s)) (by rfl) (ownS_later hS.out c0) (varS num ++ varS k ++ varS N ++ s.extract ((k : Int) * 40).toNat s.size) (by rfl) hlk (Nat.le_trans hb.out.size c0.size) ?_
          intro v9 w9 S9 G9 N9
          have B9 : Below w.heap.size w w9 := ((hb.out.trans (c0.mono hb.out.size)).alloc (Nat.le_trans hb.out.size c0.size) _).grown G9 (by simp; have := hb.out.size; have := c0.size; omega) (fun j hj => (hS.out.lt j hj).1)
          have c9 : Hid (True) := trivial
          refine hK.out _ _ (HTR.out) (fun hHeld => ?_)
          clear hK K
          try simp only [Act.put, List.getElem_toArray, List.getElem_cons_zero, List.getElem_cons_succ, List.setIfInBounds_toArray, List.set_cons_zero, List.set_cons_succ]
          refine wpAnyH_take (i := 17) (v := ?v17b52) rfl (by kernel_rfl) (by kernel_rfl) (by kernel_rfl) (fun _ _ _ h => h) (Or.inl ⟨by rfl, ?hy17b52⟩) (by assumption) ?_
          case hy17b52 => (intro w hSw; (try dsimp only at hSw); simp only [List.getElem_toArray, List.getElem_cons_zero, List.getElem_cons_succ]; go_simp; try with_reducible rfl)
          try simp only [Act.put, List.getElem_toArray, List.getElem_cons_zero, List.getElem_cons_succ, List.setIfInBounds_toArray, List.set_cons_zero, List.set_cons_succ]
          refine wpAnyH_done (by kernel_rfl) ?_ _
          have S10 : Hid (OwnS w9 w.heap.size v9 ((List.range (k + 1)).map (pcS num s))) := by
            show OwnS _ _ _ _
            rw [pcs_succ]
            have e : pcS num s k = varS num ++ varS k ++ varS N ++ s.extract ((k : Int) * 40).toNat s.size := by unfold pcS partP; rw [HN1.out, HEL.out, show ((k : Int) * 40).toNat = 40 * k by omega]
            rw [e]
            exact S9
          have B10 : Hid (Below w.heap.size w w9) := B9
          clear S9 G9 N9 B9 c c0 HTR
          go_wp2_with fail
          go_roundw
          case rel => exact ⟨k + 1, by omega, by go_num, S10, B10⟩
          case measure => simp [intOf]; omega
        · have hel : 40 * k + lenN s.size k = 40 * k + 40 := by unfold lenN; omega
          have HEL : Hid (40 * k + lenN s.size k = 40 * k + 40) := hel
          have hE1 : ¬ ((s.size : Int) < ((k : Int) + 1) * 40) := by omega
          clear hel
          have v1 := varS_short num hn
          have v2 := varS_short k (by omega)
          have v3 := varS_short N (by omega)
          have m0 : (0 : Int) ≤ (k : Int) * 40 := by omega
          have p0 : (0 : Int) ≤ ((k : Int) + 1) * 40 := by omega
          have p1 : (k : Int) ≤ (k : Int) + 1 := by omega
          have gA : Hid (¬ (9223372036854775807 < (varS num).size + (varS k).size)) := by show ¬ _; omega
          have gB : Hid (¬ (9223372036854775807 < (varS num ++ varS k).size + (varS N).size)) := by show ¬ _; rw [app_size]; omega
          have gB2 : Hid (¬ (9223372036854775807 < (varS num).size + (varS k).size + (varS N).size)) := by show ¬ _; omega
          have gC : Hid (¬ (9223372036854775807 < (varS num ++ varS k ++ varS N).size + (s.extract ((k : Int) * 40).toNat (((k : Int) + 1) * 40).toNat).size)) := by show ¬ _; rw [app_size, app_size, ByteArray.size_extract]; omega
          have gC2 : Hid (¬ (9223372036854775807 < (varS num).size + (varS k).size + (varS N).size + ((((k : Int) + 1) * 40).toNat - ((k : Int) * 40).toNat))) := by show ¬ _; omega
          have m1 : (k : Int) * 40 ≤ (s.size : Int) := by omega
          have m2 : IntKind.i64.wrap ((k : Int) * 40) = (k : Int) * 40 := by rw [IntKind.wrap_i64]; omega
          go_wp2_with fail
          skip
          have HTR : Hid (Hid True) := trivial
          have c : Below wr.heap.size wr wr.drew := (Below.refl _ _).drew
          refine wp_region_held_drew (S := fun w' => Hid True) (by kernel_rfl) HTR.out (fun hHeld => ?_)
          refine wpAnyH_take (i := 0) (v := ?v0b53) rfl (by kernel_rfl) (by kernel_rfl) (by kernel_rfl) (fun _ _ _ h => h) (Or.inl ⟨by rfl, ?hy0b53⟩) (by assumption) ?_
          case hy0b53 => (intro w hSw; (try dsimp only at hSw); simp only [List.getElem_toArray, List.getElem_cons_zero, List.getElem_cons_succ]; go_simp; try with_reducible rfl)
          try simp only [Act.put, List.getElem_toArray, List.getElem_cons_zero, List.getElem_cons_succ, List.setIfInBounds_toArray, List.set_cons_zero, List.set_cons_succ]
          refine wpAnyH_take (i := 1) (v := ?v1b54) rfl (by kernel_rfl) (by kernel_rfl) (by kernel_rfl) (fun _ _ _ h => h) (Or.inl ⟨by rfl, ?hy1b54⟩) (by assumption) ?_
          case hy1b54 => (intro w hSw; (try dsimp only at hSw); simp only [List.getElem_toArray, List.getElem_cons_zero, List.getElem_cons_succ]; go_simp; try with_reducible rfl)
          try simp only [Act.put, List.getElem_toArray, List.getElem_cons_zero, List.getElem_cons_succ, List.setIfInBounds_toArray, List.set_cons_zero, List.set_cons_succ]
          refine wpAnyH_take (i := 3) (v := ?v3b55) rfl (by kernel_rfl) (by kernel_rfl) (by kernel_rfl) (fun _ _ _ h => h) (Or.inl ⟨by rfl, ?hy3b55⟩) (by assumption) ?_
          case hy3b55 => (intro w hSw; (try dsimp only at hSw); simp only [List.getElem_toArray, List.getElem_cons_zero, List.getElem_cons_succ]; go_simp; try with_reducible rfl)
          try simp only [Act.put, List.getElem_toArray, List.getElem_cons_zero, List.getElem_cons_succ, List.setIfInBounds_toArray, List.set_cons_zero, List.set_cons_succ]
          refine wpAnyH_take (i := 6) (v := ?v6b56) rfl (by kernel_rfl) (by kernel_rfl) (by kernel_rfl) (fun _ _ _ h => h) (Or.inl ⟨by rfl, ?hy6b56⟩) (by assumption) ?_
          case hy6b56 => (intro w hSw; (try dsimp only at hSw); simp only [List.getElem_toArray, List.getElem_cons_zero, List.getElem_cons_succ]; go_simp; try with_reducible rfl)
          try simp only [Act.put, List.getElem_toArray, List.getElem_cons_zero, List.getElem_cons_succ, List.setIfInBounds_toArray, List.set_cons_zero, List.set_cons_succ]
          refine wpAnyH_take (i := 9) (v := ?v9b57) rfl (by kernel_rfl) (by kernel_rfl) (by kernel_rfl) (fun _ _ _ h => h) (Or.inl ⟨by rfl, ?hy9b57⟩) (by assumption) ?_
          case hy9b57 => (intro w hSw; (try dsimp only at hSw); simp only [List.getElem_toArray, List.getElem_cons_zero, List.getElem_cons_succ]; go_simp; try with_reducible rfl)
          try simp only [Act.put, List.getElem_toArray, List.getElem_cons_zero, List.getElem_cons_succ, List.setIfInBounds_toArray, List.set_cons_zero, List.set_cons_succ]
          refine wpAnyH_take (i := 10) (v := ?v10b58) rfl (by kernel_rfl) (by kernel_rfl) (by kernel_rfl) (fun _ _ _ h => h) (Or.inl ⟨by rfl, ?hy10b58⟩) (by assumption) ?_
          case hy10b58 => (intro w hSw; (try dsimp only at hSw); simp only [List.getElem_toArray, List.getElem_cons_zero, List.getElem_cons_succ]; go_simp; try with_reducible rfl)
          try simp only [Act.put, List.getElem_toArray, List.getElem_cons_zero, List.getElem_cons_succ, List.setIfInBounds_toArray, List.set_cons_zero, List.set_cons_succ]
          refine wpAnyH_take (i := 11) (v := ?v11b59) rfl (by kernel_rfl) (by kernel_rfl) (by kernel_rfl) (fun _ _ _ h => h) (Or.inl ⟨by rfl, ?hy11b59⟩) (by assumption) ?_
          case hy11b59 => (intro w hSw; (try dsimp only at hSw); simp only [List.getElem_toArray, List.getElem_cons_zero, List.getElem_cons_succ]; go_simp; try with_reducible rfl)
          try simp only [Act.put, List.getElem_toArray, List.getElem_cons_zero, List.getElem_cons_succ, List.setIfInBounds_toArray, List.set_cons_zero, List.set_cons_succ]
          refine wpAnyH_take (i := 12) (v := ?v12b60) rfl (by kernel_rfl) (by kernel_rfl) (by kernel_rfl) (fun _ _ _ h => h) (Or.inl ⟨by rfl, ?hy12b60⟩) (by assumption) ?_
          case hy12b60 => (intro w hSw; (try dsimp only at hSw); simp only [List.getElem_toArray, List.getElem_cons_zero, List.getElem_cons_succ]; go_simp; try with_reducible rfl)
          try simp only [Act.put, List.getElem_toArray, List.getElem_cons_zero, List.getElem_cons_succ, List.setIfInBounds_toArray, List.set_cons_zero, List.set_cons_succ]
          refine wpAnyH_take (i := 13) (v := ?v13b61) rfl (by kernel_rfl) (by kernel_rfl) (by kernel_rfl) (fun _ _ _ h => h) (Or.inl ⟨by rfl, ?hy13b61⟩) (by assumption) ?_
          case hy13b61 => (intro w hSw; (try dsimp only at hSw); simp only [List.getElem_toArray, List.getElem_cons_zero, List.getElem_cons_succ]; go_simp; try with_reducible rfl)
          try simp only [Act.put, List.getElem_toArray, List.getElem_cons_zero, List.getElem_cons_succ, List.setIfInBounds_toArray, List.set_cons_zero, List.set_cons_succ]
          refine wpAnyH_ready (rs := [2]) (by kernel_rfl) (by simp) ?_
          refine AllReadyH.cons (i := 2) rfl (fun K hK => ?_) AllReadyH.nil
          rw [if_pos (by rfl)]
          simp only [List.getElem_toArray, List.getElem_cons_zero, List.getElem_cons_succ]
          go_simp
          refine (l01Var_any num wr.drew (by omega)).mono ?_
          rintro e y1 ⟨rfl, b⟩
          have c : Below wr.heap.size wr y1 := bl_next c b
          refine hK.out _ _ (HTR.out) (fun hHeld => ?_)
          clear hK K
          try simp only [Act.put, List.getElem_toArray, List.getElem_cons_zero, List.getElem_cons_succ, List.setIfInBounds_toArray, List.set_cons_zero, List.set_cons_succ]
          clear b
          refine wpAnyH_ready (rs := [4]) (by kernel_rfl) (by simp) ?_
          refine AllReadyH.cons (i := 4) rfl (fun K hK => ?_) AllReadyH.nil
          rw [if_pos (by rfl)]
          simp only [List.getElem_toArray, List.getElem_cons_zero, List.getElem_cons_succ]
          go_simp
          refine (l01Var_any k y1 (by omega)).mono ?_
          rintro e y2 ⟨rfl, b⟩
          have c : Below wr.heap.size wr y2 := bl_next c b
          refine hK.out _ _ (HTR.out) (fun hHeld => ?_)
          clear hK K
          try simp only [Act.put, List.getElem_toArray, List.getElem_cons_zero, List.getElem_cons_succ, List.setIfInBounds_toArray, List.set_cons_zero, List.set_cons_succ]
          clear b
          refine wpAnyH_take (i := 5) (v := ?v5c10) rfl (by kernel_rfl) (by kernel_rfl) (by kernel_rfl) (fun _ _ _ h => h) (Or.inl ⟨by rfl, ?hy5c10⟩) (by assumption) ?_
          case hy5c10 => (intro w hSw; (try dsimp only at hSw); simp only [List.getElem_toArray, List.getElem_cons_zero, List.getElem_cons_succ]; go_simp; refine if_neg ?_; exact gA.out)
          try simp only [Act.put, List.getElem_toArray, List.getElem_cons_zero, List.getElem_cons_succ, List.setIfInBounds_toArray, List.set_cons_zero, List.set_cons_succ]
          refine wpAnyH_ready (rs := [7]) (by kernel_rfl) (by simp) ?_
          refine AllReadyH.cons (i := 7) rfl (fun K hK => ?_) AllReadyH.nil
          rw [if_pos (by rfl)]
          simp only [List.getElem_toArray, List.getElem_cons_zero, List.getElem_cons_succ]
          go_simp
          refine (l01Var_any N y2 (by omega)).mono ?_
          rintro e y3 ⟨rfl, b⟩
          have c : Below wr.heap.size wr y3 := bl_next c b
          refine hK.out _ _ (HTR.out) (fun hHeld => ?_)
          clear hK K
          try simp only [Act.put, List.getElem_toArray, List.getElem_cons_zero, List.getElem_cons_succ, List.setIfInBounds_toArray, List.set_cons_zero, List.set_cons_succ]
          clear b
          refine wpAnyH_take (i := 8) (v := ?v8c11) rfl (by kernel_rfl) (by kernel_rfl) (by kernel_rfl) (fun _ _ _ h => h) (Or.inl ⟨by rfl, ?hy8c11⟩) (by assumption) ?_
          case hy8c11 => (intro w hSw; (try dsimp only at hSw); simp only [List.getElem_toArray, List.getElem_cons_zero, List.getElem_cons_succ]; go_simp; refine if_neg ?_; first | exact gB.out | exact gB2.out)
          try simp only [Act.put, List.getElem_toArray, List.getElem_cons_zero, List.getElem_cons_succ, List.setIfInBounds_toArray, List.set_cons_zero, List.set_cons_succ]
          refine wpAnyH_take (i := 14) (v := ?v14c12) rfl (by kernel_rfl) (by kernel_rfl) (by kernel_rfl) (fun _ _ _ h => h) (Or.inl ⟨by rfl, ?hy14c12⟩) (by assumption) ?_
          case hy14c12 => (intro w hSw; (try dsimp only at hSw); simp only [List.getElem_toArray, List.getElem_cons_zero, List.getElem_cons_succ]; go_simp; refine if_neg ?_; first | exact gC.out | exact gC2.out)
          try simp only [Act.put, List.getElem_toArray, List.getElem_cons_zero, List.getElem_cons_succ, List.setIfInBounds_toArray, List.set_cons_zero, List.set_cons_succ]
          refine wpAnyH_ready (rs := [15]) (by kernel_rfl) (by simp) ?_
          refine AllReadyH.cons (i := 15) rfl (fun K hK => ?_) AllReadyH.nil
          rw [if_pos (by rfl)]
          simp only [List.getElem_toArray, List.getElem_cons_zero, List.getElem_cons_succ]
          go_simp
          have c0 := c
          have c : Below wr.heap.size wr (y3.alloc (.cells #[.string (varS num ++ varS k ++ varS N ++ s.extract ((k : Int) * 40).toNat (((k : Int) + 1) * 40).toNat)] 9)) := c.alloc c.size _
          refine hK.out _ _ (HTR.out) (fun hHeld => ?_)
          clear hK K
          try simp only [Act.put, List.getElem_toArray, List.getElem_cons_zero, List.getElem_cons_succ, List.setIfInBounds_toArray, List.set_cons_zero, List.set_cons_succ]
          refine wpAnyH_ready (rs := [16]) (by kernel_rfl) (by simp) ?_
          refine AllReadyH.cons (i := 16) rfl (fun K hK => ?_) AllReadyH.nil
          rw [if_pos (by rfl)]
          simp only [List.getElem_toArray, List.getElem_cons_zero, List.getElem_cons_succ]
          refine wp_pushSb _ _ 26 rfl Try.underlying26 Try.info9 w.heap.size u6 ((List.range k).map (pcS num s)) (by rfl) (ownS_later hS.out c0) (varS num ++ varS k ++ varS N ++ s.extract ((k : Int) * 40).toNat (((k : Int) + 1) * 40).toNat) (by rfl) hlk (Nat.le_trans hb.out.size c0.size) ?_
          intro v9 w9 S9 G9 N9
          have B9 : Below w.heap.size w w9 := ((hb.out.trans (c0.mono hb.out.size)).alloc (Nat.le_trans hb.out.size c0.size) _).grown G9 (by simp; have := hb.out.size; have := c0.size; omega) (fun j hj => (hS.out.lt j hj).1)
          have c9 : Hid (True) := trivial
          refine hK.out _ _ (HTR.out) (fun hHeld => ?_)
          clear hK K
          try simp only [Act.put, List.getElem_toArray, List.getElem_cons_zero, List.getElem_cons_succ, List.setIfInBounds_toArray, List.set_cons_zero, List.set_cons_succ]
          refine wpAnyH_take (i := 17) (v := ?v17b65) rfl (by kernel_rfl) (by kernel_rfl) (by kernel_rfl) (fun _ _ _ h => h) (Or.inl ⟨by rfl, ?hy17b65⟩) (by assumption) ?_
          case hy17b65 => (intro w hSw; (try dsimp only at hSw); simp only [List.getElem_toArray, List.getElem_cons_zero, List.getElem_cons_succ]; go_simp; try with_reducible rfl)
          try simp only [Act.put, List.getElem_toArray, List.getElem_cons_zero, List.getElem_cons_succ, List.setIfInBounds_toArray, List.set_cons_zero, List.set_cons_succ]
          refine wpAnyH_done (by kernel_rfl) ?_ _
          have S10 : Hid (OwnS w9 w.heap.size v9 ((List.range (k + 1)).map (pcS num s))) := by
            show OwnS _ _ _ _
            rw [pcs_succ]
            have e : pcS num s k = varS num ++ varS k ++ varS N ++ s.extract ((k : Int) * 40).toNat (((k : Int) + 1) * 40).toNat := by unfold pcS partP; rw [HN1.out, HEL.out, show ((k : Int) * 40).toNat = 40 * k by omega]; rw [show (((k : Int) + 1) * 40).toNat = 40 * k + 40 by omega]
            rw [e]
            exact S9
          have B10 : Hid (Below w.heap.size w w9) := B9
          clear S9 G9 N9 B9 c c0 HTR
          go_wp2_with fail
          go_roundw
          case rel => exact ⟨k + 1, by omega, by go_num, S10, B10⟩
          case measure => simp [intOf]; omega
      · obtain rfl : k = N := by omega
        go_wp2_with fail
        go_ret2
        refine ⟨_, rfl, ?_, hb.out⟩
        unfold pcsL
        rw [HN1.out]
        exact hS.out
end Go.Proofs.Ytfefjkldjaabbaa
