/- The walk over a drawn token that may not be right. -/
import Derived.Test.YtnhnpneedcjcfaaZ2
namespace Go.Proofs.Ytnhnpneedcjcfaa
open Go.RowKit Pl
set_option linter.unusedVariables false

set_option maxRecDepth 100000 in
set_option maxHeartbeats 4000000 in
theorem anyToken_any (w0 w : World) (B g n cap : Nat) (ao : Option Addr) (hn : n ≤ 1048576) (hB : B ≤ g) (hd : Hid (Drw w0 w B g ao n cap)) :
    Calls Try.prog 59 #[.pointer (some ⟨g, 0, none⟩)] w fun e w' => (∃ (c r q a b : Int) (ws : List Int) (v : Value), ws.length ≤ 13 ∧ OwnI w' w.heap.size v ws ∧ e = .returned (.agg #[.int .i64 c, .int .i64 r, .int .i64 q, .int .i64 a, .int .i64 b, v])) ∧ Hid (Drw w0 w' B g ao n cap) := by
  have hr4 : ∀ (w : World) (a b c d : Int), Hid (RowI (w.alloc (.cells #[.int .i64 a, .int .i64 b, .int .i64 c, .int .i64 d] 3)) w.heap.size 4) := fun w a b c d => rowI_new w [a, b, c, d] 4 rfl
  have hr3 : ∀ (w : World) (a b c : Int), Hid (RowI (w.alloc (.cells #[.int .i64 a, .int .i64 b, .int .i64 c] 3)) w.heap.size 3) := fun w a b c => rowI_new w [a, b, c] 3 rfl
  have hg := hd.out.lt
  have hw0 := hd.out.2.2.size
  have D0 : Hid (Drw w0 (w.alloc (.cells #[.int .i64 0, .int .i64 0, .int .i64 0, .int .i64 0, .int .i64 0, .slice none 0 0] 30)) B g ao n cap) := hd.out.alloc hB _
  have R0 : Hid (TokAt (w.alloc (.cells #[.int .i64 0, .int .i64 0, .int .i64 0, .int .i64 0, .int .i64 0, .slice none 0 0] 30)) w.heap.size 0 0 0 0 0 (.slice none 0 0)) := heap_alloc_new w _
  clear hd
  go_enter Try.func59, Try.ntmps59
  go_wp2_with fail
  generalize w.alloc (.cells #[.int .i64 0, .int .i64 0, .int .i64 0, .int .i64 0, .int .i64 0, .slice none 0 0] 30) = W0 at *
  have hN0 := R0.out.lt
  refine (token_any W0 _ B g n cap ao hn hB D0.out.here).mono ?_
  rintro e w1 ⟨⟨c, r, q, a, b, ws, v, hwl, hq0, hq1, hv, rfl⟩, hd1⟩
  have R1 : Hid (TokAt w1 w.heap.size 0 0 0 0 0 (.slice none 0 0)) := R0.out.keep hd1.out.2.2 (by omega)
  have D1 := D0.out.back hd1.out
  have V1 := hv.down (Nat.le_of_lt hN0)
  have hN1 := R1.out.lt
  obtain ⟨aov, capv, hvf⟩ := hv.form
  subst hvf
  have L1 : Hid (TS w0 w (w1.alloc (.cells #[.int .i64 c, .int .i64 r, .int .i64 q, .int .i64 a, .int .i64 b, (.slice aov ws.length capv)] 30)) B g n cap ao w1.heap.size c r q a b (.slice aov ws.length capv) ws) :=
    ⟨R1.out.stays ((Below.refl _ _).alloc (Nat.le_refl _) _) hN1, heap_alloc_new w1 _, V1.alloc _, D1.out.alloc hB _, hg, hN1, hw0, by omega⟩
  clear hd1 D0 R0 hv V1 R1 D1
  go_wp2_with fail
  generalize w1.alloc (.cells #[.int .i64 c, .int .i64 r, .int .i64 q, .int .i64 a, .int .i64 b, (.slice aov ws.length capv)] 30) = W1 at *
  generalize w1.heap.size = gm at *
  refine (below_small W1 _ B g n cap 24 ao hn hB (by omega) (by omega) L1.out.drw.here).mono ?_
  rintro e w3 ⟨⟨y, hy, rfl⟩, hd3⟩
  have L3 : Hid (TS w0 w w3 B g n cap ao gm c r q a b (.slice aov ws.length capv) ws) := L1.out.draw hd3.out
  have hg3 : g < w3.heap.size := Nat.lt_trans L3.out.old L3.out.res.lt
  clear hd3 L1
  by_cases y0 : y = 0
  · subst y0
    have L3a : Hid (TS w0 w (w3.alloc (.cells #[.int .i64 0, .int .i64 9, .int .i64 10] 3)) B g n cap ao gm c r q a b (.slice aov ws.length capv) ws) := L3.out.below hB ((Below.refl _ _).alloc (Nat.le_refl _) _)
    have R3a := hr3 w3 (0) (9) (10)
    have hS : w3.heap.size < (w3.alloc (.cells #[.int .i64 0, .int .i64 9, .int .i64 10] 3)).heap.size := by simp
    go_wp2_with fail
    generalize w3.alloc (.cells #[.int .i64 0, .int .i64 9, .int .i64 10] 3) = W3 at *
    refine (pickInt_any W3 _ B g n cap w3.heap.size 3 ao hn hB (by omega) (by omega) hS (by omega) R3a L3a.out.drw.here).mono ?_
    rintro e w4 ⟨⟨zz, rfl⟩, hd4⟩
    have L4a : Hid (TS w0 w w4 B g n cap ao gm c r q a b (.slice aov ws.length capv) ws) := L3a.out.draw hd4.out
    have s0 := L4a.out.tok.cells.1
    have f0 := L4a.out.tok.frozen 0
    have L4 : Hid (TS w0 w (w4.setCell ⟨gm, 0, none⟩ (.int .i64 zz)) B g n cap ao gm zz r q a b (.slice aov ws.length capv) ws) := L4a.out.turn ((TurnAt.refl gm w4).setCell 0 _) (L4a.out.tok.set0 zz)
    clear hd4 L3a L4a R3a hS L3
    obtain ⟨m0, m1, m2, m3, m4, m5⟩ := L4.out.tok.cells
    obtain ⟨c0, c1, c2, c3, c4, c5⟩ := L4.out.res.cells
    have z0 := L4.out.res.frozen 0
    have z1 := L4.out.res.frozen 1
    have z2 := L4.out.res.frozen 2
    have z3 := L4.out.res.frozen 3
    have z4 := L4.out.res.frozen 4
    have z5 := L4.out.res.frozen 5
    have G9 : Hid _ := L4.out.give
    go_wp2_with fail
    obtain ⟨R9, O9, D9⟩ := G9.out
    clear G9
    generalize (((((((w4.setCell ⟨gm, 0, none⟩ (.int .i64 zz)).setCell ⟨w.heap.size, 0, none⟩ (.int .i64 zz)).setCell ⟨w.heap.size, 1, none⟩ (.int .i64 r)).setCell ⟨w.heap.size, 2, none⟩ (.int .i64 q)).setCell ⟨w.heap.size, 3, none⟩ (.int .i64 a)).setCell ⟨w.heap.size, 4, none⟩ (.int .i64 b)).setCell ⟨w.heap.size, 5, none⟩ (.slice aov ws.length capv)) = W9 at *
    obtain ⟨q0, q1, q2, q3, q4, q5⟩ := R9.cells
    refine bodyPost_ret (v := .agg #[.int .i64 zz, .int .i64 r, .int .i64 q, .int .i64 a, .int .i64 b, (.slice aov ws.length capv)]) (by simp [results, Try.results59, go_sem, q0, q1, q2, q3, q4, q5]) rfl ?_
    exact ⟨⟨_, _, _, _, _, ws, _, by omega, O9, rfl⟩, D9⟩
  by_cases y1 : y = 1
  · subst y1
    have L3a : Hid (TS w0 w (w3.alloc (.cells #[.int .i64 0, .int .i64 (-1), .int .i64 1000000000, .int .i64 1000000001] 3)) B g n cap ao gm c r q a b (.slice aov ws.length capv) ws) := L3.out.below hB ((Below.refl _ _).alloc (Nat.le_refl _) _)
    have R3a := hr4 w3 (0) (-1) (1000000000) (1000000001)
    have hS : w3.heap.size < (w3.alloc (.cells #[.int .i64 0, .int .i64 (-1), .int .i64 1000000000, .int .i64 1000000001] 3)).heap.size := by simp
    go_wp2_with fail
    generalize w3.alloc (.cells #[.int .i64 0, .int .i64 (-1), .int .i64 1000000000, .int .i64 1000000001] 3) = W3 at *
    refine (pickInt_any W3 _ B g n cap w3.heap.size 4 ao hn hB (by omega) (by omega) hS (by omega) R3a L3a.out.drw.here).mono ?_
    rintro e w4 ⟨⟨zz, rfl⟩, hd4⟩
    have L4a : Hid (TS w0 w w4 B g n cap ao gm c r q a b (.slice aov ws.length capv) ws) := L3a.out.draw hd4.out
    have s0 := L4a.out.tok.cells.2.1
    have f0 := L4a.out.tok.frozen 1
    have L4 : Hid (TS w0 w (w4.setCell ⟨gm, 1, none⟩ (.int .i64 zz)) B g n cap ao gm c zz q a b (.slice aov ws.length capv) ws) := L4a.out.turn ((TurnAt.refl gm w4).setCell 1 _) (L4a.out.tok.set1 zz)
    clear hd4 L3a L4a R3a hS L3
    obtain ⟨m0, m1, m2, m3, m4, m5⟩ := L4.out.tok.cells
    obtain ⟨c0, c1, c2, c3, c4, c5⟩ := L4.out.res.cells
    have z0 := L4.out.res.frozen 0
    have z1 := L4.out.res.frozen 1
    have z2 := L4.out.res.frozen 2
    have z3 := L4.out.res.frozen 3
    have z4 := L4.out.res.frozen 4
    have z5 := L4.out.res.frozen 5
    have G9 : Hid _ := L4.out.give
    go_wp2_with fail
    obtain ⟨R9, O9, D9⟩ := G9.out
    clear G9
    generalize (((((((w4.setCell ⟨gm, 1, none⟩ (.int .i64 zz)).setCell ⟨w.heap.size, 0, none⟩ (.int .i64 c)).setCell ⟨w.heap.size, 1, none⟩ (.int .i64 zz)).setCell ⟨w.heap.size, 2, none⟩ (.int .i64 q)).setCell ⟨w.heap.size, 3, none⟩ (.int .i64 a)).setCell ⟨w.heap.size, 4, none⟩ (.int .i64 b)).setCell ⟨w.heap.size, 5, none⟩ (.slice aov ws.length capv)) = W9 at *
    obtain ⟨q0, q1, q2, q3, q4, q5⟩ := R9.cells
    refine bodyPost_ret (v := .agg #[.int .i64 c, .int .i64 zz, .int .i64 q, .int .i64 a, .int .i64 b, (.slice aov ws.length capv)]) (by simp [results, Try.results59, go_sem, q0, q1, q2, q3, q4, q5]) rfl ?_
    exact ⟨⟨_, _, _, _, _, ws, _, by omega, O9, rfl⟩, D9⟩
  by_cases y2 : y = 2
  · subst y2
    have L3a : Hid (TS w0 w (w3.alloc (.cells #[.int .i64 (-1), .int .i64 60, .int .i64 61] 3)) B g n cap ao gm c r q a b (.slice aov ws.length capv) ws) := L3.out.below hB ((Below.refl _ _).alloc (Nat.le_refl _) _)
    have R3a := hr3 w3 (-1) (60) (61)
    have hS : w3.heap.size < (w3.alloc (.cells #[.int .i64 (-1), .int .i64 60, .int .i64 61] 3)).heap.size := by simp
    go_wp2_with fail
    generalize w3.alloc (.cells #[.int .i64 (-1), .int .i64 60, .int .i64 61] 3) = W3 at *
    refine (pickInt_any W3 _ B g n cap w3.heap.size 3 ao hn hB (by omega) (by omega) hS (by omega) R3a L3a.out.drw.here).mono ?_
    rintro e w4 ⟨⟨zz, rfl⟩, hd4⟩
    have L4a : Hid (TS w0 w w4 B g n cap ao gm c r q a b (.slice aov ws.length capv) ws) := L3a.out.draw hd4.out
    have s0 := L4a.out.tok.cells.2.2.1
    have f0 := L4a.out.tok.frozen 2
    have L4 : Hid (TS w0 w (w4.setCell ⟨gm, 2, none⟩ (.int .i64 zz)) B g n cap ao gm c r zz a b (.slice aov ws.length capv) ws) := L4a.out.turn ((TurnAt.refl gm w4).setCell 2 _) (L4a.out.tok.set2z zz)
    clear hd4 L3a L4a R3a hS L3
    obtain ⟨m0, m1, m2, m3, m4, m5⟩ := L4.out.tok.cells
    obtain ⟨c0, c1, c2, c3, c4, c5⟩ := L4.out.res.cells
    have z0 := L4.out.res.frozen 0
    have z1 := L4.out.res.frozen 1
    have z2 := L4.out.res.frozen 2
    have z3 := L4.out.res.frozen 3
    have z4 := L4.out.res.frozen 4
    have z5 := L4.out.res.frozen 5
    have G9 : Hid _ := L4.out.give
    go_wp2_with fail
    obtain ⟨R9, O9, D9⟩ := G9.out
    clear G9
    generalize (((((((w4.setCell ⟨gm, 2, none⟩ (.int .i64 zz)).setCell ⟨w.heap.size, 0, none⟩ (.int .i64 c)).setCell ⟨w.heap.size, 1, none⟩ (.int .i64 r)).setCell ⟨w.heap.size, 2, none⟩ (.int .i64 zz)).setCell ⟨w.heap.size, 3, none⟩ (.int .i64 a)).setCell ⟨w.heap.size, 4, none⟩ (.int .i64 b)).setCell ⟨w.heap.size, 5, none⟩ (.slice aov ws.length capv)) = W9 at *
    obtain ⟨q0, q1, q2, q3, q4, q5⟩ := R9.cells
    refine bodyPost_ret (v := .agg #[.int .i64 c, .int .i64 r, .int .i64 zz, .int .i64 a, .int .i64 b, (.slice aov ws.length capv)]) (by simp [results, Try.results59, go_sem, q0, q1, q2, q3, q4, q5]) rfl ?_
    exact ⟨⟨_, _, _, _, _, ws, _, by omega, O9, rfl⟩, D9⟩
  by_cases y3 : y = 3
  · subst y3
    have m2 := L3.out.tok.cells.2.2.1
    have L3a : Hid (TS w0 w (w3.alloc (.cells #[.int .i64 (-1), .int .i64 q, .int .i64 (q + 1)] 3)) B g n cap ao gm c r q a b (.slice aov ws.length capv) ws) := L3.out.below hB ((Below.refl _ _).alloc (Nat.le_refl _) _)
    have R3a := hr3 w3 (-1) (q) (q + 1)
    have hS : w3.heap.size < (w3.alloc (.cells #[.int .i64 (-1), .int .i64 q, .int .i64 (q + 1)] 3)).heap.size := by simp
    go_wp2_with fail
    generalize w3.alloc (.cells #[.int .i64 (-1), .int .i64 q, .int .i64 (q + 1)] 3) = W3 at *
    refine (pickInt_any W3 _ B g n cap w3.heap.size 3 ao hn hB (by omega) (by omega) hS (by omega) R3a L3a.out.drw.here).mono ?_
    rintro e w4 ⟨⟨zz, rfl⟩, hd4⟩
    have L4a : Hid (TS w0 w w4 B g n cap ao gm c r q a b (.slice aov ws.length capv) ws) := L3a.out.draw hd4.out
    have s0 := L4a.out.tok.cells.2.2.2.1
    have f0 := L4a.out.tok.frozen 3
    have L4 : Hid (TS w0 w (w4.setCell ⟨gm, 3, none⟩ (.int .i64 zz)) B g n cap ao gm c r q zz b (.slice aov ws.length capv) ws) := L4a.out.turn ((TurnAt.refl gm w4).setCell 3 _) (L4a.out.tok.set3 zz)
    clear hd4 L3a L4a R3a hS L3
    obtain ⟨m0, m1, m2, m3, m4, m5⟩ := L4.out.tok.cells
    obtain ⟨c0, c1, c2, c3, c4, c5⟩ := L4.out.res.cells
    have z0 := L4.out.res.frozen 0
    have z1 := L4.out.res.frozen 1
    have z2 := L4.out.res.frozen 2
    have z3 := L4.out.res.frozen 3
    have z4 := L4.out.res.frozen 4
    have z5 := L4.out.res.frozen 5
    have G9 : Hid _ := L4.out.give
    go_wp2_with fail
    obtain ⟨R9, O9, D9⟩ := G9.out
    clear G9
    generalize (((((((w4.setCell ⟨gm, 3, none⟩ (.int .i64 zz)).setCell ⟨w.heap.size, 0, none⟩ (.int .i64 c)).setCell ⟨w.heap.size, 1, none⟩ (.int .i64 r)).setCell ⟨w.heap.size, 2, none⟩ (.int .i64 q)).setCell ⟨w.heap.size, 3, none⟩ (.int .i64 zz)).setCell ⟨w.heap.size, 4, none⟩ (.int .i64 b)).setCell ⟨w.heap.size, 5, none⟩ (.slice aov ws.length capv)) = W9 at *
    obtain ⟨q0, q1, q2, q3, q4, q5⟩ := R9.cells
    refine bodyPost_ret (v := .agg #[.int .i64 c, .int .i64 r, .int .i64 q, .int .i64 zz, .int .i64 b, (.slice aov ws.length capv)]) (by simp [results, Try.results59, go_sem, q0, q1, q2, q3, q4, q5]) rfl ?_
    exact ⟨⟨_, _, _, _, _, ws, _, by omega, O9, rfl⟩, D9⟩
  by_cases y4 : y = 4
  · subst y4
    have L3a : Hid (TS w0 w (w3.alloc (.cells #[.int .i64 (-1), .int .i64 5, .int .i64 6] 3)) B g n cap ao gm c r q a b (.slice aov ws.length capv) ws) := L3.out.below hB ((Below.refl _ _).alloc (Nat.le_refl _) _)
    have R3a := hr3 w3 (-1) (5) (6)
    have hS : w3.heap.size < (w3.alloc (.cells #[.int .i64 (-1), .int .i64 5, .int .i64 6] 3)).heap.size := by simp
    go_wp2_with fail
    generalize w3.alloc (.cells #[.int .i64 (-1), .int .i64 5, .int .i64 6] 3) = W3 at *
    refine (pickInt_any W3 _ B g n cap w3.heap.size 3 ao hn hB (by omega) (by omega) hS (by omega) R3a L3a.out.drw.here).mono ?_
    rintro e w4 ⟨⟨zz, rfl⟩, hd4⟩
    have L4a : Hid (TS w0 w w4 B g n cap ao gm c r q a b (.slice aov ws.length capv) ws) := L3a.out.draw hd4.out
    have s0 := L4a.out.tok.cells.2.2.2.2.1
    have f0 := L4a.out.tok.frozen 4
    have L4 : Hid (TS w0 w (w4.setCell ⟨gm, 4, none⟩ (.int .i64 zz)) B g n cap ao gm c r q a zz (.slice aov ws.length capv) ws) := L4a.out.turn ((TurnAt.refl gm w4).setCell 4 _) (L4a.out.tok.set4 zz)
    clear hd4 L3a L4a R3a hS L3
    obtain ⟨m0, m1, m2, m3, m4, m5⟩ := L4.out.tok.cells
    obtain ⟨c0, c1, c2, c3, c4, c5⟩ := L4.out.res.cells
    have z0 := L4.out.res.frozen 0
    have z1 := L4.out.res.frozen 1
    have z2 := L4.out.res.frozen 2
    have z3 := L4.out.res.frozen 3
    have z4 := L4.out.res.frozen 4
    have z5 := L4.out.res.frozen 5
    have G9 : Hid _ := L4.out.give
    go_wp2_with fail
    obtain ⟨R9, O9, D9⟩ := G9.out
    clear G9
    generalize (((((((w4.setCell ⟨gm, 4, none⟩ (.int .i64 zz)).setCell ⟨w.heap.size, 0, none⟩ (.int .i64 c)).setCell ⟨w.heap.size, 1, none⟩ (.int .i64 r)).setCell ⟨w.heap.size, 2, none⟩ (.int .i64 q)).setCell ⟨w.heap.size, 3, none⟩ (.int .i64 a)).setCell ⟨w.heap.size, 4, none⟩ (.int .i64 zz)).setCell ⟨w.heap.size, 5, none⟩ (.slice aov ws.length capv)) = W9 at *
    obtain ⟨q0, q1, q2, q3, q4, q5⟩ := R9.cells
    refine bodyPost_ret (v := .agg #[.int .i64 c, .int .i64 r, .int .i64 q, .int .i64 a, .int .i64 zz, (.slice aov ws.length capv)]) (by simp [results, Try.results59, go_sem, q0, q1, q2, q3, q4, q5]) rfl ?_
    exact ⟨⟨_, _, _, _, _, ws, _, by omega, O9, rfl⟩, D9⟩
  by_cases y5 : y = 5
  · subst y5
    have m2 := L3.out.tok.cells.2.2.1
    have m5 := L3.out.tok.cells.2.2.2.2.2
    have f5 := L3.out.tok.frozen 5
    have L3a : Hid (TS w0 w (w3.alloc (.cells #[.int .i64 0, .int .i64 1, .int .i64 q, .int .i64 (q + 1)] 3)) B g n cap ao gm c r q a b (.slice aov ws.length capv) ws) := L3.out.below hB ((Below.refl _ _).alloc (Nat.le_refl _) _)
    have L3e : Hid (TS w0 w (w3.alloc (.cells #[.int .i64 0, .int .i64 1, .int .i64 q, .int .i64 (q + 1)] 3)).drew B g n cap ao gm c r q a b (.slice aov ws.length capv) ws) := L3a.out.draw L3a.out.drw.here.out.drew.out
    have R3a := hr4 w3 0 1 q (q + 1)
    have R3e : Hid (RowI (w3.alloc (.cells #[.int .i64 0, .int .i64 1, .int .i64 q, .int .i64 (q + 1)] 3)).drew w3.heap.size 4) := R3a.out
    have hS : w3.heap.size < (w3.alloc (.cells #[.int .i64 0, .int .i64 1, .int .i64 q, .int .i64 (q + 1)] 3)).drew.heap.size := by simp
    have hw1 : IntKind.i64.wrap (q + 1) = q + 1 := by rw [IntKind.wrap_i64]; omega
    have hce3a := fun o => (L3.out.below hB ((Below.refl w3.heap.size w3).alloc (Nat.le_refl _) o)).tok.cells.2.2.2.2.2
    have hce3b := fun o => (L3.out.below hB ((Below.refl w3.heap.size w3).alloc (Nat.le_refl _) o)).tok.cells.2.2.1
    go_wp2_with fail
    go_region_law (first | (refine step_pushI (by rfl) _ _ 24 (by rfl) Try.underlying24 Try.info3' w.heap.size _ ws (by rfl) (OW.alloc _) zz ⟨w4.heap.size, 0, none⟩ (by rfl) (cell_new_int w4 zz) (by rfl) (by omega) (by simp; omega) ?_; intro v9 w9 hown9 hb9; obtain ⟨ao9, cap9, hvf9⟩ := hown9.form; subst hvf9; have hv9 := TokAt.grown (L4.out.tok.stays ((Below.refl w4.heap.size w4).alloc (Nat.le_refl _) _) L4.out.tok.lt) (OW.alloc _) hb9; have hce9 := hv9.cells.2.2.2.2.2; have hfz9 := hv9.frozen 5) | (go_simp; refine (pickInt_any _ _ B g n cap w3.heap.size 4 ao hn hB (by omega) (by omega) hS (by omega) R3e L3e.out.drw.here).mono ?_; rintro e w4 ⟨⟨zz, rfl⟩, hd4⟩; have L4 : Hid (TS w0 w w4 B g n cap ao gm c r q a b (.slice aov ws.length capv) ws) := L3e.out.draw hd4.out; have OW := L4.out.own; have hce8 := L4.out.tok.cells.2.2.2.2.2; have hfz8 := L4.out.tok.frozen 5; have hce8b := L4.out.tok.cells.2.2.1; have hce8a := fun o => (L4.out.below hB ((Below.refl w4.heap.size w4).alloc (Nat.le_refl _) o)).tok.cells.2.2.2.2.2; have hfz8a := fun o => (L4.out.below hB ((Below.refl w4.heap.size w4).alloc (Nat.le_refl _) o)).tok.frozen 5; have hs8 : w.heap.size ≤ w4.heap.size := Nat.le_of_lt L4.out.res.lt; go_simp))
    all_goals
      have e9 : (ws ++ [zz]).length = ws.length + 1 := by simp
      have L9 : Hid _ := L4.out.push hB hown9 hb9
      rw [e9] at L9
      clear hown9 hb9 hv9 hce9 hfz9 OW hce8 hfz8 hce8b hce8a hfz8a hd4 L4 L3a L3e R3a R3e hS hce3a hce3b m2 m5 f5 L3
      obtain ⟨m0, m1, m2, m3, m4, m5⟩ := L9.out.tok.cells
      obtain ⟨c0, c1, c2, c3, c4, c5⟩ := L9.out.res.cells
      have z0 := L9.out.res.frozen 0
      have z1 := L9.out.res.frozen 1
      have z2 := L9.out.res.frozen 2
      have z3 := L9.out.res.frozen 3
      have z4 := L9.out.res.frozen 4
      have z5 := L9.out.res.frozen 5
      have G9 : Hid _ := L9.out.give
      go_wp2_with fail
      obtain ⟨R9, O9, D9⟩ := G9.out
      clear G9
      generalize (((((((w9.setCell ⟨gm, 5, none⟩ (.slice ao9 (ws.length + 1) cap9)).setCell ⟨w.heap.size, 0, none⟩ (.int .i64 c)).setCell ⟨w.heap.size, 1, none⟩ (.int .i64 r)).setCell ⟨w.heap.size, 2, none⟩ (.int .i64 q)).setCell ⟨w.heap.size, 3, none⟩ (.int .i64 a)).setCell ⟨w.heap.size, 4, none⟩ (.int .i64 b)).setCell ⟨w.heap.size, 5, none⟩ (.slice ao9 (ws.length + 1) cap9)) = W9 at *
      obtain ⟨q0, q1, q2, q3, q4, q5⟩ := R9.cells
      refine bodyPost_ret (v := .agg #[.int .i64 c, .int .i64 r, .int .i64 q, .int .i64 a, .int .i64 b, (.slice ao9 (ws.length + 1) cap9)]) (by simp [results, Try.results59, go_sem, q0, q1, q2, q3, q4, q5]) rfl ?_
      exact ⟨⟨_, _, _, _, _, ws ++ [zz], _, by rw [e9]; omega, O9, rfl⟩, D9⟩
  · have L4 := L3
    clear L3
    obtain ⟨m0, m1, m2, m3, m4, m5⟩ := L4.out.tok.cells
    obtain ⟨c0, c1, c2, c3, c4, c5⟩ := L4.out.res.cells
    have z0 := L4.out.res.frozen 0
    have z1 := L4.out.res.frozen 1
    have z2 := L4.out.res.frozen 2
    have z3 := L4.out.res.frozen 3
    have z4 := L4.out.res.frozen 4
    have z5 := L4.out.res.frozen 5
    have G9 : Hid _ := L4.out.give
    go_wp2_with fail
    obtain ⟨R9, O9, D9⟩ := G9.out
    clear G9
    generalize ((((((w3.setCell ⟨w.heap.size, 0, none⟩ (.int .i64 c)).setCell ⟨w.heap.size, 1, none⟩ (.int .i64 r)).setCell ⟨w.heap.size, 2, none⟩ (.int .i64 q)).setCell ⟨w.heap.size, 3, none⟩ (.int .i64 a)).setCell ⟨w.heap.size, 4, none⟩ (.int .i64 b)).setCell ⟨w.heap.size, 5, none⟩ (.slice aov ws.length capv)) = W9 at *
    obtain ⟨q0, q1, q2, q3, q4, q5⟩ := R9.cells
    refine bodyPost_ret (v := .agg #[.int .i64 c, .int .i64 r, .int .i64 q, .int .i64 a, .int .i64 b, (.slice aov ws.length capv)]) (by simp [results, Try.results59, go_sem, q0, q1, q2, q3, q4, q5]) rfl ?_
    exact ⟨⟨_, _, _, _, _, ws, _, by omega, O9, rfl⟩, D9⟩
end Go.Proofs.Ytnhnpneedcjcfaa
