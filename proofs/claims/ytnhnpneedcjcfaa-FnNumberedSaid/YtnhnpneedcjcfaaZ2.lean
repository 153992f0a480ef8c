/- The walk over a drawn token. -/
import Derived.Test.YtnhnpneedcjcfaaZ1
namespace Go.Proofs.Ytnhnpneedcjcfaa
open Go.RowKit Pl
set_option linter.unusedVariables false

theorem wpList_pushG {P : Program} {w : World} {ops : Array Oper} {rest : List Oper} {o : Oper} {a : Act} {Q : Exit → Act → World → Prop}
    (hgd : o.guard = none) (s x : Operand) (t : TypeId) (ho : o.op = .call { callee := .builtin .append, args := #[s, x], argTypes := #[t, t] })
    (ht : P.underlying t = some (.slice 3)) (hinfo : (P.info? 3).map (fun i => (i.zero, i.size, i.bytes)) = some (some (.int .i64 0), 1, 8))
    (B : Nat) (v : Value) (xs : List Int) (hs : a.eval s = v) (hown : OwnI w B v xs) (b : Int)
    (hx : a.eval x = .slice (some ⟨w.heap.size, 0, none⟩) 1 1) (hn : xs.length < 4000000) (hB : B ≤ w.heap.size)
    (h : ∀ v' w', OwnI w' B v' (xs ++ [b]) → (w.alloc (.cells #[.int .i64 b] 3)).grownBy w' v.ownBlock → wpList P ops Q rest (a.put o.dst v') w') :
    wpList P ops Q (o :: rest) a (w.alloc (.cells #[.int .i64 b] 3)) := by
  obtain ⟨i0, hi, hz0, hz1, hz2⟩ := info_parts hinfo
  refine wpList_append_own _ hgd s x t ho B 3 i0 (.int .i64 0) 1 8 ht hi hz0 hz1 hz2 rfl (by decide) v xs.length (xs.map (Value.int .i64)) hs (World.ownsRow.alloc hown _) ⟨w.heap.size, 0, none⟩ 1 1 [.int .i64 b] hx rfl ?_ ?_ ?_ ?_ ?_ ?_
  · intro j u hj
    match j, hj with
    | 0, hj => simp at hj; subst hj; simp [Addr.add]
  · intro u hu; simp at hu; subst hu; rfl
  · unfold maxLen; omega
  · omega
  · simp; omega
  · intro v' w' hown' hg _
    exact h v' w' (by simpa [OwnI] using hown') hg

set_option maxRecDepth 100000 in
set_option maxHeartbeats 4000000 in
theorem token_any (w0 w : World) (B g n cap : Nat) (ao : Option Addr) (hn : n ≤ 1048576) (hB : B ≤ g) (hd : Hid (Drw w0 w B g ao n cap)) :
    Calls Try.prog 83 #[.pointer (some ⟨g, 0, none⟩)] w fun e w' => (∃ (c r q a b : Int) (ws : List Int) (v : Value), ws.length ≤ 12 ∧ 0 ≤ q ∧ q ≤ 12 ∧ OwnI w' w.heap.size v ws ∧ e = .returned (.agg #[.int .i64 c, .int .i64 r, .int .i64 q, .int .i64 a, .int .i64 b, v])) ∧ Hid (Drw w0 w' B g ao n cap) := by
  have hg := hd.out.lt
  have hw0 := hd.out.2.2.size
  have D0 : Hid (Drw w0 (w.alloc (.cells #[.int .i64 0, .int .i64 0, .int .i64 0, .int .i64 0, .int .i64 0, .slice none 0 0] 30)) B g ao n cap) := hd.out.alloc hB _
  have R0 : Hid (TokAt (w.alloc (.cells #[.int .i64 0, .int .i64 0, .int .i64 0, .int .i64 0, .int .i64 0, .slice none 0 0] 30)) w.heap.size 0 0 0 0 0 (.slice none 0 0)) := heap_alloc_new w _
  clear hd
  go_enter Try.func83, Try.ntmps83
  go_wp2_with fail
  generalize w.alloc (.cells #[.int .i64 0, .int .i64 0, .int .i64 0, .int .i64 0, .int .i64 0, .slice none 0 0] 30) = W0 at *
  refine (below_small W0 _ B g n cap 3 ao hn hB (by omega) (by omega) D0.out.here).mono ?_
  rintro e w1 ⟨⟨x, hx, rfl⟩, hd1⟩
  go_wp2_with fail
  refine (below_small W0 _ B g n cap 9 ao hn hB (by omega) (by omega) hd1).mono ?_
  rintro e w2 ⟨⟨y, hy, rfl⟩, hd2⟩
  go_wp2_with fail
  refine (below_small W0 _ B g n cap 12 ao hn hB (by omega) (by omega) hd2).mono ?_
  rintro e w3 ⟨⟨z, hz, rfl⟩, hd3⟩
  have R3 : Hid (TokAt w3 w.heap.size 0 0 0 0 0 (.slice none 0 0)) := R0.out.keep hd3.out.2.2 (by omega)
  have D3 := D0.out.back hd3.out
  have hN3 := R3.out.lt
  clear hd1 hd2 hd3 D0 R0
  have L3 : Hid (TS w0 w (w3.alloc (.cells #[.int .i64 (1 + (x : Int)), .int .i64 (1 + (y : Int)), .int .i64 (z : Int), .int .i64 0, .int .i64 0, .slice none 0 0] 30)) B g n cap ao w3.heap.size (1 + (x : Int)) (1 + (y : Int)) z 0 0 (.slice none 0 0) []) :=
    ⟨R3.out.stays ((Below.refl _ _).alloc (Nat.le_refl _) _) hN3, heap_alloc_new w3 _, ownI_nil _ _, D3.out.alloc hB _, hg, hN3, hw0, by omega⟩
  have c2 := L3.out.tok.cells.2.2.1
  go_wp2_with fail
  generalize w3.alloc (.cells #[.int .i64 (1 + (x : Int)), .int .i64 (1 + (y : Int)), .int .i64 (z : Int), .int .i64 0, .int .i64 0, .slice none 0 0] 30) = W3 at *
  generalize w3.heap.size = gm at *
  have e1 : (z : Int) + 1 = ((z + 1 : Nat) : Int) := by omega
  rw [e1]
  refine (below_small W3 _ B g n cap (z + 1) ao hn hB (by omega) (by omega) L3.out.drw.here).mono ?_
  rintro e w4 ⟨⟨u, hu, rfl⟩, hd4⟩
  have L4 : Hid (TS w0 w w4 B g n cap ao gm (1 + (x : Int)) (1 + (y : Int)) z 0 0 (.slice none 0 0) []) := L3.out.draw hd4.out
  have c3 := L4.out.tok.cells.2.2.2.1
  have f3 := L4.out.tok.frozen 3
  clear hd4 L3 c2 e1 R3 D3
  have L5 : Hid (TS w0 w (w4.setCell ⟨gm, 3, none⟩ (.int .i64 u)) B g n cap ao gm (1 + (x : Int)) (1 + (y : Int)) z u 0 (.slice none 0 0) []) := L4.out.turn ((TurnAt.refl gm w4).setCell 3 _) (L4.out.tok.set3 u)
  obtain ⟨m0, m1, m2, m3, m4, m5⟩ := L5.out.tok.cells
  by_cases huz : u < z
  · have hlt : (u : Int) < (z : Int) := by omega
    go_wp2_with fail
    clear c3 f3 L4
    generalize w4.setCell ⟨gm, 3, none⟩ (.int .i64 u) = W5 at *
    clear m0 m1 m2 m3 m4 m5
    refine (below_small W5 _ B g n cap 3 ao hn hB (by omega) (by omega) L5.out.drw.here).mono ?_
    rintro e w5 ⟨⟨s, hs, rfl⟩, hd5⟩
    have L6 : Hid (TS w0 w w5 B g n cap ao gm (1 + (x : Int)) (1 + (y : Int)) z u 0 (.slice none 0 0) []) := L5.out.draw hd5.out
    have c4 := L6.out.tok.cells.2.2.2.2.1
    have f4 := L6.out.tok.frozen 4
    have L7 : Hid (TS w0 w (w5.setCell ⟨gm, 4, none⟩ (.int .i64 (1 + (s : Int)))) B g n cap ao gm (1 + (x : Int)) (1 + (y : Int)) z u (1 + (s : Int)) (.slice none 0 0) []) := L6.out.turn ((TurnAt.refl gm w5).setCell 4 _) (L6.out.tok.set4 _)
    clear hd5 L5 L6
    go_wp2_with fail
    generalize w5.setCell ⟨gm, 4, none⟩ (.int .i64 (1 + (s : Int))) = W7 at *
    clear c4 f4
    go_loopw [4] (fun i wr => ∃ (j : Nat) (xs : List Int) (v : Value), 1 ≤ j ∧ j ≤ z + 1 ∧ i = .int .i64 j ∧ xs.length < j ∧ Hid (TS w0 w wr B g n cap ao gm (1 + (x : Int)) (1 + (y : Int)) z u (1 + (s : Int)) v xs)) (fun i _ => z + 1 - (intOf i).toNat)
    case atStart => exact ⟨1, [], .slice none 0 0, Nat.le_refl _, by omega, rfl, Nat.zero_lt_one, L7.out⟩
    case round =>
      clear L7
      obtain ⟨j, xs, v, hj1, hj, rfl, hxl, L⟩ := hrel
      obtain ⟨ao', cap', hvf⟩ := L.out.own.form
      subst hvf
      have c2 := L.out.tok.cells.2.2.1
      by_cases hjz : j ≤ z
      · go_wp2_with fail
        refine (once_any wr _ B g n cap 5 ao hn hB (by omega) (by omega) L.out.drw.here).mono ?_
        rintro e w6 ⟨⟨b6, rfl⟩, hd6⟩
        have L6 : Hid (TS w0 w w6 B g n cap ao gm (1 + (x : Int)) (1 + (y : Int)) z u (1 + (s : Int)) (.slice ao' xs.length cap') xs) := L.out.draw hd6.out
        have c5 := L6.out.tok.cells.2.2.2.2.2
        have f5 := L6.out.tok.frozen 5
        have OW := L6.out.own
        have hs6 : w.heap.size ≤ w6.heap.size := Nat.le_of_lt L6.out.res.lt
        clear hd6 L c2
        cases b6 with
        | true =>
          go_wp2_with (first | (at_builtin; refine wpList_pushG rfl _ _ 24 rfl Try.underlying24 Try.info3' w.heap.size _ xs rfl OW _ rfl (by omega) hs6 ?_; intro v7 w7 hown7 hg7; obtain ⟨ao7, cap7, hvf7⟩ := hown7.form; subst hvf7; have M7 := TokAt.grown (L6.out.tok.stays ((Below.refl w6.heap.size w6).alloc (Nat.le_refl _) _) L6.out.tok.lt) (OW.alloc _) hg7; have c7 := M7.cells.2.2.2.2.2; have f7 := M7.frozen 5))
          have L7 := L6.out.push hB hown7 hg7
          have e7 : (xs ++ [(j : Int)]).length = xs.length + 1 := by simp
          rw [e7] at L7
          go_roundw
          case rel => exact ⟨j + 1, xs ++ [(j : Int)], _, by omega, by omega, by go_num, by simp; omega, L7⟩
          case measure => simp [intOf]; omega
        | false =>
          go_wp2_with fail
          go_roundw
          case rel => exact ⟨j + 1, xs, _, by omega, by omega, by go_num, by omega, L6.out⟩
          case measure => simp [intOf]; omega
      · have hgt : (z : Int) < (j : Int) := by omega
        obtain ⟨m0, m1, m2, m3, m4, m5⟩ := L.out.tok.cells
        obtain ⟨c0, c1, c2, c3, c4, c5⟩ := L.out.res.cells
        have z0 := L.out.res.frozen 0
        have z1 := L.out.res.frozen 1
        have z2 := L.out.res.frozen 2
        have z3 := L.out.res.frozen 3
        have z4 := L.out.res.frozen 4
        have z5 := L.out.res.frozen 5
        obtain ⟨R9, O9, D9⟩ := L.out.give
        go_wp2_with fail
        generalize ((((((wr.setCell ⟨w.heap.size, 0, none⟩ (.int .i64 (1 + (x : Int)))).setCell ⟨w.heap.size, 1, none⟩ (.int .i64 (1 + (y : Int)))).setCell ⟨w.heap.size, 2, none⟩ (.int .i64 z)).setCell ⟨w.heap.size, 3, none⟩ (.int .i64 u)).setCell ⟨w.heap.size, 4, none⟩ (.int .i64 (1 + (s : Int)))).setCell ⟨w.heap.size, 5, none⟩ (.slice ao' xs.length cap')) = W9 at *
        obtain ⟨q0, q1, q2, q3, q4, q5⟩ := R9.cells
        refine bodyPost_ret (v := .agg #[.int .i64 (1 + (x : Int)), .int .i64 (1 + (y : Int)), .int .i64 z, .int .i64 u, .int .i64 (1 + (s : Int)), (.slice ao' xs.length cap')]) (by simp [results, Try.results83, go_sem, q0, q1, q2, q3, q4, q5]) rfl ?_
        exact ⟨⟨_, _, _, _, _, xs, _, by omega, by omega, by omega, O9, rfl⟩, D9⟩
  · have hge : ¬ (u : Int) < (z : Int) := by omega
    go_wp2_with fail
    clear c3 f3 L4
    generalize w4.setCell ⟨gm, 3, none⟩ (.int .i64 u) = W5 at *
    clear m0 m1 m2 m3 m4 m5
    refine (once_any W5 _ B g n cap 6 ao hn hB (by omega) (by omega) L5.out.drw.here).mono ?_
    rintro e w45 ⟨⟨bo, rfl⟩, hd45⟩
    have L5b : Hid (TS w0 w w45 B g n cap ao gm (1 + (x : Int)) (1 + (y : Int)) z u 0 (.slice none 0 0) []) := L5.out.draw hd45.out
    clear hd45 L5
    have L5 := L5b
    clear L5b
    cases bo with
    | true =>
      go_wp2_with fail
      refine (below_small w45 _ B g n cap 3 ao hn hB (by omega) (by omega) L5.out.drw.here).mono ?_
      rintro e w5 ⟨⟨s, hs, rfl⟩, hd5⟩
      have L6 : Hid (TS w0 w w5 B g n cap ao gm (1 + (x : Int)) (1 + (y : Int)) z u 0 (.slice none 0 0) []) := L5.out.draw hd5.out
      have c4 := L6.out.tok.cells.2.2.2.2.1
      have f4 := L6.out.tok.frozen 4
      have L7 : Hid (TS w0 w (w5.setCell ⟨gm, 4, none⟩ (.int .i64 (1 + (s : Int)))) B g n cap ao gm (1 + (x : Int)) (1 + (y : Int)) z u (1 + (s : Int)) (.slice none 0 0) []) := L6.out.turn ((TurnAt.refl gm w5).setCell 4 _) (L6.out.tok.set4 _)
      clear hd5 L5 L6
      go_wp2_with fail
      generalize w5.setCell ⟨gm, 4, none⟩ (.int .i64 (1 + (s : Int))) = W7 at *
      clear c4 f4
      go_loopw [4] (fun i wr => ∃ (j : Nat) (xs : List Int) (v : Value), 1 ≤ j ∧ j ≤ z + 1 ∧ i = .int .i64 j ∧ xs.length < j ∧ Hid (TS w0 w wr B g n cap ao gm (1 + (x : Int)) (1 + (y : Int)) z u (1 + (s : Int)) v xs)) (fun i _ => z + 1 - (intOf i).toNat)
      case atStart => exact ⟨1, [], .slice none 0 0, Nat.le_refl _, by omega, rfl, Nat.zero_lt_one, L7.out⟩
      case round =>
        clear L7
        obtain ⟨j, xs, v, hj1, hj, rfl, hxl, L⟩ := hrel
        obtain ⟨ao', cap', hvf⟩ := L.out.own.form
        subst hvf
        have c2 := L.out.tok.cells.2.2.1
        by_cases hjz : j ≤ z
        · go_wp2_with fail
          refine (once_any wr _ B g n cap 5 ao hn hB (by omega) (by omega) L.out.drw.here).mono ?_
          rintro e w6 ⟨⟨b6, rfl⟩, hd6⟩
          have L6 : Hid (TS w0 w w6 B g n cap ao gm (1 + (x : Int)) (1 + (y : Int)) z u (1 + (s : Int)) (.slice ao' xs.length cap') xs) := L.out.draw hd6.out
          have c5 := L6.out.tok.cells.2.2.2.2.2
          have f5 := L6.out.tok.frozen 5
          have OW := L6.out.own
          have hs6 : w.heap.size ≤ w6.heap.size := Nat.le_of_lt L6.out.res.lt
          clear hd6 L c2
          cases b6 with
          | true =>
            go_wp2_with (first | (at_builtin; refine wpList_pushG rfl _ _ 24 rfl Try.underlying24 Try.info3' w.heap.size _ xs rfl OW _ rfl (by omega) hs6 ?_; intro v7 w7 hown7 hg7; obtain ⟨ao7, cap7, hvf7⟩ := hown7.form; subst hvf7; have M7 := TokAt.grown (L6.out.tok.stays ((Below.refl w6.heap.size w6).alloc (Nat.le_refl _) _) L6.out.tok.lt) (OW.alloc _) hg7; have c7 := M7.cells.2.2.2.2.2; have f7 := M7.frozen 5))
            have L7 := L6.out.push hB hown7 hg7
            have e7 : (xs ++ [(j : Int)]).length = xs.length + 1 := by simp
            rw [e7] at L7
            go_roundw
            case rel => exact ⟨j + 1, xs ++ [(j : Int)], _, by omega, by omega, by go_num, by simp; omega, L7⟩
            case measure => simp [intOf]; omega
          | false =>
            go_wp2_with fail
            go_roundw
            case rel => exact ⟨j + 1, xs, _, by omega, by omega, by go_num, by omega, L6.out⟩
            case measure => simp [intOf]; omega
        · have hgt : (z : Int) < (j : Int) := by omega
          obtain ⟨m0, m1, m2, m3, m4, m5⟩ := L.out.tok.cells
          obtain ⟨c0, c1, c2, c3, c4, c5⟩ := L.out.res.cells
          have z0 := L.out.res.frozen 0
          have z1 := L.out.res.frozen 1
          have z2 := L.out.res.frozen 2
          have z3 := L.out.res.frozen 3
          have z4 := L.out.res.frozen 4
          have z5 := L.out.res.frozen 5
          obtain ⟨R9, O9, D9⟩ := L.out.give
          go_wp2_with fail
          generalize ((((((wr.setCell ⟨w.heap.size, 0, none⟩ (.int .i64 (1 + (x : Int)))).setCell ⟨w.heap.size, 1, none⟩ (.int .i64 (1 + (y : Int)))).setCell ⟨w.heap.size, 2, none⟩ (.int .i64 z)).setCell ⟨w.heap.size, 3, none⟩ (.int .i64 u)).setCell ⟨w.heap.size, 4, none⟩ (.int .i64 (1 + (s : Int)))).setCell ⟨w.heap.size, 5, none⟩ (.slice ao' xs.length cap')) = W9 at *
          obtain ⟨q0, q1, q2, q3, q4, q5⟩ := R9.cells
          refine bodyPost_ret (v := .agg #[.int .i64 (1 + (x : Int)), .int .i64 (1 + (y : Int)), .int .i64 z, .int .i64 u, .int .i64 (1 + (s : Int)), (.slice ao' xs.length cap')]) (by simp [results, Try.results83, go_sem, q0, q1, q2, q3, q4, q5]) rfl ?_
          exact ⟨⟨_, _, _, _, _, xs, _, by omega, by omega, by omega, O9, rfl⟩, D9⟩
    | false =>
      go_wp2_with fail
      go_loopw [4] (fun i wr => ∃ (j : Nat) (xs : List Int) (v : Value), 1 ≤ j ∧ j ≤ z + 1 ∧ i = .int .i64 j ∧ xs.length < j ∧ Hid (TS w0 w wr B g n cap ao gm (1 + (x : Int)) (1 + (y : Int)) z u 0 v xs)) (fun i _ => z + 1 - (intOf i).toNat)
      case atStart => exact ⟨1, [], .slice none 0 0, Nat.le_refl _, by omega, rfl, Nat.zero_lt_one, L5.out⟩
      case round =>
        clear L5
        obtain ⟨j, xs, v, hj1, hj, rfl, hxl, L⟩ := hrel
        obtain ⟨ao', cap', hvf⟩ := L.out.own.form
        subst hvf
        have c2 := L.out.tok.cells.2.2.1
        by_cases hjz : j ≤ z
        · go_wp2_with fail
          refine (once_any wr _ B g n cap 5 ao hn hB (by omega) (by omega) L.out.drw.here).mono ?_
          rintro e w6 ⟨⟨b6, rfl⟩, hd6⟩
          have L6 : Hid (TS w0 w w6 B g n cap ao gm (1 + (x : Int)) (1 + (y : Int)) z u 0 (.slice ao' xs.length cap') xs) := L.out.draw hd6.out
          have c5 := L6.out.tok.cells.2.2.2.2.2
          have f5 := L6.out.tok.frozen 5
          have OW := L6.out.own
          have hs6 : w.heap.size ≤ w6.heap.size := Nat.le_of_lt L6.out.res.lt
          clear hd6 L c2
          cases b6 with
          | true =>
            go_wp2_with (first | (at_builtin; refine wpList_pushG rfl _ _ 24 rfl Try.underlying24 Try.info3' w.heap.size _ xs rfl OW _ rfl (by omega) hs6 ?_; intro v7 w7 hown7 hg7; obtain ⟨ao7, cap7, hvf7⟩ := hown7.form; subst hvf7; have M7 := TokAt.grown (L6.out.tok.stays ((Below.refl w6.heap.size w6).alloc (Nat.le_refl _) _) L6.out.tok.lt) (OW.alloc _) hg7; have c7 := M7.cells.2.2.2.2.2; have f7 := M7.frozen 5))
            have L7 := L6.out.push hB hown7 hg7
            have e7 : (xs ++ [(j : Int)]).length = xs.length + 1 := by simp
            rw [e7] at L7
            go_roundw
            case rel => exact ⟨j + 1, xs ++ [(j : Int)], _, by omega, by omega, by go_num, by simp; omega, L7⟩
            case measure => simp [intOf]; omega
          | false =>
            go_wp2_with fail
            go_roundw
            case rel => exact ⟨j + 1, xs, _, by omega, by omega, by go_num, by omega, L6.out⟩
            case measure => simp [intOf]; omega
        · have hgt : (z : Int) < (j : Int) := by omega
          obtain ⟨m0, m1, m2, m3, m4, m5⟩ := L.out.tok.cells
          obtain ⟨c0, c1, c2, c3, c4, c5⟩ := L.out.res.cells
          have z0 := L.out.res.frozen 0
          have z1 := L.out.res.frozen 1
          have z2 := L.out.res.frozen 2
          have z3 := L.out.res.frozen 3
          have z4 := L.out.res.frozen 4
          have z5 := L.out.res.frozen 5
          obtain ⟨R9, O9, D9⟩ := L.out.give
          go_wp2_with fail
          generalize ((((((wr.setCell ⟨w.heap.size, 0, none⟩ (.int .i64 (1 + (x : Int)))).setCell ⟨w.heap.size, 1, none⟩ (.int .i64 (1 + (y : Int)))).setCell ⟨w.heap.size, 2, none⟩ (.int .i64 z)).setCell ⟨w.heap.size, 3, none⟩ (.int .i64 u)).setCell ⟨w.heap.size, 4, none⟩ (.int .i64 0)).setCell ⟨w.heap.size, 5, none⟩ (.slice ao' xs.length cap')) = W9 at *
          obtain ⟨q0, q1, q2, q3, q4, q5⟩ := R9.cells
          refine bodyPost_ret (v := .agg #[.int .i64 (1 + (x : Int)), .int .i64 (1 + (y : Int)), .int .i64 z, .int .i64 u, .int .i64 0, (.slice ao' xs.length cap')]) (by simp [results, Try.results83, go_sem, q0, q1, q2, q3, q4, q5]) rfl ?_
          exact ⟨⟨_, _, _, _, _, xs, _, by omega, by omega, by omega, O9, rfl⟩, D9⟩
end Go.Proofs.Ytnhnpneedcjcfaa
