/- The walks over the draws that the law on tokens begins with. -/
import Derived.Test.YtpegbkpgjjjllaaDoorZ3
import Derived.Test.YtpegbkpgjjjllaaDoorY8
namespace Go.Proofs.YtpegbkpgjjjllaaDoor
open Go.RowKit Pl
set_option linter.unusedVariables false

set_option maxRecDepth 100000 in
set_option maxHeartbeats 1000000 in
theorem sameI_same (v1 v2 : Value) (ss : List Int) (B1 B2 : Nat) (w : World) (h1 : OwnI w B1 v1 ss) (h2 : OwnI w B2 v2 ss) (hl : ss.length ≤ 1048576) :
    Calls Tryd.prog 12 #[v1, v2] w fun e w' => e = .returned (.bool true) ∧ Below w.heap.size w w' := by
  by_cases h0 : ss.length = 0
  · obtain ⟨ao1, cap1, rfl⟩ := h1.form
    obtain ⟨ao2, cap2, rfl⟩ := h2.form
    rw [h0]
    clear h1 h2
    go_enter Tryd.func12, Tryd.ntmps12
    go_wp2
    refine wp_loop_rounds 1 ?_
    rw [rounds_succ]
    go_wp2
    go_ret
    exact ⟨rfl, Below.refl _ _⟩
  · obtain ⟨g1, cap1, rfl, _, hg1, hc1, _⟩ := h1.some (by omega)
    obtain ⟨g2, cap2, rfl, _, hg2, hc2, _⟩ := h2.some (by omega)
    clear h1 h2
    go_enter Tryd.func12, Tryd.ntmps12
    go_wp2
    go_loopw [5] (fun i wr => ∃ k : Nat, k ≤ ss.length ∧ i = .int .i64 k ∧ Below w.heap.size w wr) (fun i _ => ss.length - (intOf i).toNat)
    case atStart => exact ⟨0, by omega, rfl, Below.refl _ _⟩
    case round =>
      obtain ⟨k, hk, rfl, hb⟩ := hrel
      by_cases hlt : k < ss.length
      · have hce1 : wr.cell? ⟨g1, k, none⟩ = some (.int .i64 ss[k]) := (hb.cell (p := ⟨g1, k, none⟩) hg1).trans (hc1 k hlt)
        have hce2 : wr.cell? ⟨g2, k, none⟩ = some (.int .i64 ss[k]) := (hb.cell (p := ⟨g2, k, none⟩) hg2).trans (hc2 k hlt)
        have hq1 : (0 : Int) ≤ (k : Int) := by omega
        have hq2 : (k : Int) < (ss.length : Int) := by omega
        clear hc1 hc2
        go_wp2
        go_quiet (fail)
        go_wp2
        go_roundw
        case rel => exact ⟨k + 1, by omega, by go_num, below_drewK hb _⟩
        case measure => simp [intOf]; omega
      · go_wp2
        go_ret
        exact ⟨rfl, hb⟩


theorem code_up {w : World} {B B' n : Nat} {ao : Option Addr} (h : CodeAt w B ao n) (hB : B ≤ B') : Hid (CodeAt w B' ao n) := by
  intro i hi
  obtain ⟨b, off, z, h1, h2, h3⟩ := h i hi
  exact ⟨b, off, z, h1, Nat.lt_of_lt_of_le h2 hB, h3⟩


set_option maxRecDepth 100000 in
set_option maxHeartbeats 2000000 in
theorem drawToken_any (w : World) (n cap : Nat) (ao : Option Addr) (hn : n ≤ 1048576) (hk : Hid (CodeAt w w.heap.size ao n)) :
    Calls Tryd.prog 7 #[.slice ao n cap] w fun e w' => (∃ (c r q a b : Int) (ws : List Int) (v : Value), ws.length ≤ 13 ∧ OwnI w' w.heap.size v ws ∧ e = .returned (.agg #[.int .i64 c, .int .i64 r, .int .i64 q, .int .i64 a, .int .i64 b, v])) ∧ Below w.heap.size w w' := by
  have HB0 : Hid (Below w.heap.size w (w.alloc (.cells #[.int .i64 0, .int .i64 0, .int .i64 0, .int .i64 0, .int .i64 0, .slice none 0 0] 26))) := (Below.refl _ _).alloc (Nat.le_refl _) _
  have R0 : Hid (TokAt (w.alloc (.cells #[.int .i64 0, .int .i64 0, .int .i64 0, .int .i64 0, .int .i64 0, .slice none 0 0] 26)) w.heap.size 0 0 0 0 0 (.slice none 0 0)) := heap_alloc_new w _
  go_enter Tryd.func7, Tryd.ntmps7
  go_wp2_with fail
  generalize w.alloc (.cells #[.int .i64 0, .int .i64 0, .int .i64 0, .int .i64 0, .int .i64 0, .slice none 0 0] 26) = W0 at *
  have hW0 := R0.out.lt
  have K0 : Hid (CodeAt W0 w.heap.size ao n) := hk.out.stays HB0.out (Nat.le_refl _)
  refine (new_any W0 n cap ao hn (code_up K0.out (Nat.le_of_lt hW0))).mono ?_
  rintro e w1 ⟨rfl, hc1, hb1, hs1⟩
  have R1 : Hid (TokAt w1 w.heap.size 0 0 0 0 0 (.slice none 0 0)) := R0.out.stays hb1 hW0
  have D1 : Hid (Drw w1 w1 w.heap.size W0.heap.size ao n cap) := Drw.start hc1.out (K0.out.stays hb1 (Nat.le_of_lt hW0))
  have B1 : Hid (Below w.heap.size w w1) := HB0.out.trans (hb1.mono HB0.out.size)
  clear hc1 hb1 R0 K0 HB0 hk
  go_wp2_with fail
  generalize W0.heap.size = gc at *
  refine (anyToken_any w1 w1 w.heap.size gc n cap ao hn (by omega) D1).mono ?_
  rintro e w2 ⟨⟨c, r, q, a, b, ws, v, hwl, hv, rfl⟩, hd2⟩
  have R2 : Hid (TokAt w2 w.heap.size 0 0 0 0 0 (.slice none 0 0)) := R1.out.keep hd2.out.2.2 (by omega)
  have B2 : Hid (Below w.heap.size w w2) := B1.out.trans (hd2.out.2.2.below (by omega) B1.out.size)
  have V2 : Hid (OwnI w2 w.heap.size v ws) := hv.down B1.out.size
  obtain ⟨aov, capv, hvf⟩ := hv.form
  subst hvf
  clear hd2 D1 R1 B1 hv
  obtain ⟨c0, c1, c2, c3, c4, c5⟩ := R2.out.cells
  have z0 := R2.out.frozen 0
  have z1 := R2.out.frozen 1
  have z2 := R2.out.frozen 2
  have z3 := R2.out.frozen 3
  have z4 := R2.out.frozen 4
  have z5 := R2.out.frozen 5
  have G9 : Hid _ := And.intro (R2.out.agg c r q a b (.slice aov ws.length capv)) (And.intro (own_tok V2.out R2.out (tok_turn c r q a b (.slice aov ws.length capv))) (B2.out.trans ((tok_turn (w := w2) (g := w.heap.size) c r q a b (.slice aov ws.length capv)).below (Nat.le_refl _))))
  go_wp2_with fail
  obtain ⟨R9, O9, B9⟩ := G9.out
  clear G9
  generalize ((((((w2.setCell ⟨w.heap.size, 0, none⟩ (.int .i64 c)).setCell ⟨w.heap.size, 1, none⟩ (.int .i64 r)).setCell ⟨w.heap.size, 2, none⟩ (.int .i64 q)).setCell ⟨w.heap.size, 3, none⟩ (.int .i64 a)).setCell ⟨w.heap.size, 4, none⟩ (.int .i64 b)).setCell ⟨w.heap.size, 5, none⟩ (.slice aov ws.length capv)) = W9 at *
  obtain ⟨q0, q1, q2, q3, q4, q5⟩ := R9.cells
  refine bodyPost_ret (v := .agg #[.int .i64 c, .int .i64 r, .int .i64 q, .int .i64 a, .int .i64 b, (.slice aov ws.length capv)]) (by simp [results, Tryd.results7, go_sem, q0, q1, q2, q3, q4, q5]) rfl ?_
  exact ⟨⟨_, _, _, _, _, ws, _, hwl, O9, rfl⟩, B9⟩

set_option maxRecDepth 100000 in
set_option maxHeartbeats 2000000 in
theorem drawRToken_any (w : World) (n cap : Nat) (ao : Option Addr) (hn : n ≤ 1048576) (hk : Hid (CodeAt w w.heap.size ao n)) :
    Calls Tryd.prog 13 #[.slice ao n cap] w fun e w' => (∃ t : ByteArray, t.size ≤ 400 ∧ e = .returned (.string t)) ∧ Below w.heap.size w w' := by
  go_enter Tryd.func13, Tryd.ntmps13
  go_wp2_with fail
  refine (new_any w n cap ao hn hk).mono ?_
  rintro e w1 ⟨rfl, hc1, hb1, hs1⟩
  have D1 : Hid (Drw w1 w1 w.heap.size w.heap.size ao n cap) := Drw.start hc1.out (hk.out.stays hb1 (Nat.le_refl _))
  have B1 : Hid (Below w.heap.size w w1) := hb1
  clear hc1 hb1 hk
  go_wp2_with fail
  refine (anyToken_any w1 w1 w.heap.size w.heap.size n cap ao hn (Nat.le_refl _) D1).mono ?_
  rintro e w2 ⟨⟨c, r, q, a, b, ws, v, hwl, hv, rfl⟩, hd2⟩
  clear D1
  obtain ⟨aov, capv, hvf, hx⟩ := hv.ints
  subst hvf
  have X2 : Hid (IntsAt w2 aov ws) := hx
  obtain ⟨T, k, hT, _, _, _, hsp⟩ := tokenText_two c r q a b ws (by omega)
  have HSP : Hid _ := hsp
  clear hsp hx hv
  go_wp2_with fail
  refine (HSP.out _ aov capv X2).mono ?_
  rintro e w3 ⟨rfl, hb3⟩
  have D3 : Hid (Drw w1 w3 w.heap.size w.heap.size ao n cap) := hd2.out.step (Nat.le_refl _) hb3
  clear hd2 hb3 HSP X2
  go_wp2_with fail
  refine (once_any w1 _ w.heap.size w.heap.size n cap 3 ao hn (Nat.le_refl _) (by omega) (by omega) D3).mono ?_
  rintro e w4 ⟨⟨bo, rfl⟩, hd4⟩
  clear D3
  cases bo with
  | false =>
    go_wp2_with fail
    refine (spoilt_any w1 _ w.heap.size w.heap.size n cap ao T hn (Nat.le_refl _) (by omega) hd4).mono ?_
    rintro e w5 ⟨⟨u, hu, rfl⟩, hd5⟩
    clear hd4
    go_wp2_with fail
    go_ret
    exact ⟨⟨u, by omega, rfl⟩, B1.out.trans (hd5.out.2.2.below (Nat.le_refl _) B1.out.size)⟩
  | true =>
    obtain ⟨s, k2, hs20, hcase, _, hspec⟩ := un_two T (by omega)
    have HSPEC : Hid _ := hspec
    clear hspec
    go_wp2_with fail
    refine (HSPEC.out _).mono ?_
    rintro e w5 ⟨rfl, hb5⟩
    have D5 : Hid (Drw w1 w5 w.heap.size w.heap.size ao n cap) := hd4.out.step (Nat.le_refl _) hb5
    clear hd4 hb5 HSPEC
    rcases hcase with ⟨rfl, hseal⟩ | ⟨rfl, _, _⟩
    · have hss : s.size ≤ 160 := by
        have := sealS_size s
        rw [← hseal] at this
        omega
      clear hseal
      go_wp2_with fail
      refine (spoilt_any w1 _ w.heap.size w.heap.size n cap ao s hn (Nat.le_refl _) (by omega) D5).mono ?_
      rintro e w6 ⟨⟨u, hu, rfl⟩, hd6⟩
      clear D5
      go_wp2_with fail
      refine (specSeal_any u _ (by omega)).mono ?_
      rintro e w7 ⟨rfl, hb7⟩
      have hz7 := sealS_size u
      have B6 : Below w.heap.size w w6 := B1.out.trans (hd6.out.2.2.below (Nat.le_refl _) B1.out.size)
      clear hd6
      go_wp2_with fail
      go_ret
      exact ⟨⟨_, by rw [hz7]; omega, rfl⟩, B6.trans (hb7.mono B6.size)⟩
    · go_wp2_with fail
      go_ret
      exact ⟨⟨T, by omega, rfl⟩, B1.out.trans (D5.out.2.2.below (Nat.le_refl _) B1.out.size)⟩
end Go.Proofs.YtpegbkpgjjjllaaDoor
