/- The walk over DrawMark. -/
import Derived.Test.YtnhnpneedcjcfaaZ3
import Derived.Test.YtnhnpneedcjcfaaPc
import Derived.Deep.RegionWith
namespace Go.Proofs.Ytnhnpneedcjcfaa
open Go.RowKit Pl
set_option linter.unusedVariables false

theorem code_up {w : World} {B B' n : Nat} {ao : Option Addr} (h : CodeAt w B ao n) (hB : B ≤ B') : Hid (CodeAt w B' ao n) := by
  intro i hi
  obtain ⟨b, off, z, h1, h2, h3⟩ := h i hi
  exact ⟨b, off, z, h1, Nat.lt_of_lt_of_le h2 hB, h3⟩

/-- a token's list where a token is drawn: above the cursor. -/
theorem OwnI_up {w w' : World} {B g : Nat} {v : Value} {ss : List Int} (h : OwnI w B v ss) (hk : KeepBut g w w') (hg : ∀ k, v.ownBlock = some k → k ≠ g) : OwnI w' B v ss := by
  refine ⟨h.1, ?_⟩
  rcases h.2 with hn | ⟨k, cap, cur, rfl, hbg, hk2, rest⟩
  · exact .inl hn
  · exact .inr ⟨k, cap, cur, rfl, hbg, (hk.block k (Array.getElem?_eq_some_iff.1 hk2).1 (hg k rfl)).trans hk2, rest⟩

set_option maxRecDepth 100000 in
set_option maxHeartbeats 2000000 in
theorem drawMark_any (w : World) (n cap : Nat) (ao : Option Addr) (hn : n ≤ 1048576) (hk : Hid (CodeAt w w.heap.size ao n)) :
    Calls Try.prog 24 #[.slice ao n cap] w fun e w' => (∃ (c r q a b : Int) (ws : List Int) (v : Value) (d u : Int), ws.length ≤ 13 ∧ OwnI w' w.heap.size v ws ∧ e = .returned (.tuple #[.agg #[.int .i64 c, .int .i64 r, .int .i64 q, .int .i64 a, .int .i64 b, v], .int .i64 d, .int .i64 u])) ∧ Below w.heap.size w w' := by
  have HB0 : Hid (Below w.heap.size w (w.alloc (.cells #[.int .i64 0, .int .i64 0, .int .i64 0, .int .i64 0, .int .i64 0, .slice none 0 0] 30))) := (Below.refl _ _).alloc (Nat.le_refl _) _
  have R0 : Hid (TokAt (w.alloc (.cells #[.int .i64 0, .int .i64 0, .int .i64 0, .int .i64 0, .int .i64 0, .slice none 0 0] 30)) w.heap.size 0 0 0 0 0 (.slice none 0 0)) := heap_alloc_new w _
  go_enter Try.func24, Try.ntmps24
  go_wp2_with fail
  generalize w.alloc (.cells #[.int .i64 0, .int .i64 0, .int .i64 0, .int .i64 0, .int .i64 0, .slice none 0 0] 30) = W0 at *
  have hW0 := R0.out.lt
  have K0 : Hid (CodeAt W0 w.heap.size ao n) := hk.out.stays HB0.out (Nat.le_refl _)
  refine (new_any W0 n cap ao hn (code_up K0.out (Nat.le_of_lt hW0))).mono ?_
  rintro e w1 ⟨rfl, hc1, hb1, hs1⟩
  have R1 : Hid (TokAt w1 w.heap.size 0 0 0 0 0 (.slice none 0 0)) := R0.out.stays hb1 hW0
  have D1 : Hid (Drw w1 w1 w.heap.size W0.heap.size ao n cap) := Drw.start hc1.out (K0.out.stays hb1 (Nat.le_of_lt hW0))
  have B1 : Hid (Below w.heap.size w w1) := HB0.out.trans (hb1.mono HB0.out.size)
  have hgc : W0.heap.size < w1.heap.size := by omega
  clear hc1 hb1 R0 K0 HB0 hk hs1
  generalize W0.heap.size = gc at *
  go_wp2_with fail
  refine (anyToken_any w1 w1 w.heap.size gc n cap ao hn (by omega) D1).mono ?_
  rintro e w2 ⟨⟨c, r, q, a, b, ws, v, hwl, hv, rfl⟩, hd2⟩
  obtain ⟨aov, capv, hvf⟩ := hv.form
  subst hvf
  have R2 : Hid (TokAt w2 w.heap.size 0 0 0 0 0 (.slice none 0 0)) := R1.out.keep hd2.out.2.2 (by omega)
  have VL : Hid (∀ k, (Value.slice aov ws.length capv).ownBlock = some k → k ≠ gc) := fun k hk => by have := (hv.lt k hk).1; omega
  have T2 : Hid (TokAt (w2.alloc (.cells #[.int .i64 c, .int .i64 r, .int .i64 q, .int .i64 a, .int .i64 b, .slice aov ws.length capv] 30)) w2.heap.size c r q a b (.slice aov ws.length capv)) := heap_alloc_new w2 _
  have B2 : Below w.heap.size w w2 := B1.out.trans (hd2.out.2.2.below (by omega) B1.out.size)
  have b2 : Below w2.heap.size w2 (w2.alloc (.cells #[.int .i64 c, .int .i64 r, .int .i64 q, .int .i64 a, .int .i64 b, .slice aov ws.length capv] 30)) := (Below.refl _ _).alloc (Nat.le_refl _) _
  have R3 : Hid (TokAt (w2.alloc (.cells #[.int .i64 c, .int .i64 r, .int .i64 q, .int .i64 a, .int .i64 b, .slice aov ws.length capv] 30)) w.heap.size 0 0 0 0 0 (.slice none 0 0)) := R2.out.stays b2 R2.out.lt
  have V3 : Hid (OwnI (w2.alloc (.cells #[.int .i64 c, .int .i64 r, .int .i64 q, .int .i64 a, .int .i64 b, .slice aov ws.length capv] 30)) w.heap.size (.slice aov ws.length capv) ws) := (hv.alloc _).down B1.out.size
  have D3 : Hid (Drw (w2.alloc (.cells #[.int .i64 c, .int .i64 r, .int .i64 q, .int .i64 a, .int .i64 b, .slice aov ws.length capv] 30)) (w2.alloc (.cells #[.int .i64 c, .int .i64 r, .int .i64 q, .int .i64 a, .int .i64 b, .slice aov ws.length capv] 30)) w.heap.size gc ao n cap) := (hd2.out.alloc (by omega) _).here
  have B3 : Hid (Below w.heap.size w (w2.alloc (.cells #[.int .i64 c, .int .i64 r, .int .i64 q, .int .i64 a, .int .i64 b, .slice aov ws.length capv] 30))) := B2.trans (b2.mono B2.size)
  have hg2 : gc < w2.heap.size := hd2.out.lt
  clear hd2 D1 R1 B1 hv R2 B2 b2
  go_wp2_with fail
  generalize w2.alloc (.cells #[.int .i64 c, .int .i64 r, .int .i64 q, .int .i64 a, .int .i64 b, .slice aov ws.length capv] 30) = W3 at *
  generalize w2.heap.size = gB at *
  refine (place_any W3 _ w.heap.size gc n cap 6 ao hn (by omega) (by omega) (by omega) D3).mono ?_
  rintro e w4 ⟨⟨d, rfl⟩, hd4⟩
  go_wp2_with fail
  refine (once_any W3 _ w.heap.size gc n cap 3 ao hn (by omega) (by omega) (by omega) hd4).mono ?_
  rintro e w5 ⟨⟨bo, rfl⟩, hd5⟩
  have K5 := hd5.out.2.2
  have R5 : Hid (TokAt w5 w.heap.size 0 0 0 0 0 (.slice none 0 0)) := R3.out.keep K5 (by omega)
  have T5 : Hid (TokAt w5 gB c r q a b (.slice aov ws.length capv)) := T2.out.keep K5 (by omega)
  have V5 : Hid (OwnI w5 w.heap.size (.slice aov ws.length capv) ws) := OwnI_up V3.out K5 VL.out
  have B5 : Hid (Below w.heap.size w w5) := B3.out.trans (K5.below (by omega) B3.out.size)
  have D5 : Hid (Drw w5 w5.drew w.heap.size gc ao n cap) := hd5.out.here.out.drew
  have B5e : Hid (Below w.heap.size w w5.drew) := B5.out.drew
  have V5e : Hid (OwnI w5.drew w.heap.size (.slice aov ws.length capv) ws) := V5.out
  clear K5 hd4 hd5 R3 T2 V3 D3 B3
  obtain ⟨t0, t1, t2, t3, t4, t5⟩ := T5.out.cells
  have fin : ∀ (w6 : World), Drw w5 w6 w.heap.size gc ao n cap → (TokAt w6 gB c r q a b (.slice aov ws.length capv) ∧ TokAt w6 w.heap.size 0 0 0 0 0 (.slice none 0 0)) ∧ OwnI w6 w.heap.size (.slice aov ws.length capv) ws ∧ Below w.heap.size w w6 := fun w6 h => ⟨⟨T5.out.keep h.2.2 (by omega), R5.out.keep h.2.2 (by omega)⟩, OwnI_up V5.out h.2.2 VL.out, B5.out.trans (h.2.2.below (by omega) B5.out.size)⟩
  have FIN : Hid _ := fin
  clear fin
  cases bo
  all_goals
    go_wp2_with fail
    go_region_with (go_at_call 64; refine (place_any w5 _ w.heap.size gc n cap 14 ao hn (by omega) (by omega) (by omega) D5).mono ?_; rintro e w6 ⟨⟨u, rfl⟩, hd6⟩; obtain ⟨⟨T6, R6⟩, V6, B6⟩ := FIN.out w6 hd6.out; obtain ⟨p0, p1, p2, p3, p4, p5⟩ := T6.cells; obtain ⟨c0, c1, c2, c3, c4, c5⟩ := R6.cells; have z0 := R6.frozen 0; have z1 := R6.frozen 1; have z2 := R6.frozen 2; have z3 := R6.frozen 3; have z4 := R6.frozen 4; have z5 := R6.frozen 5)
    all_goals
      have G9 : Hid _ := And.intro (R6.agg c r q a b (.slice aov ws.length capv)) (And.intro (own_tok V6 R6 (tok_turn c r q a b (.slice aov ws.length capv))) (B6.trans ((tok_turn (w := w6) (g := w.heap.size) c r q a b (.slice aov ws.length capv)).below (Nat.le_refl _))))
      clear T6 R6 V6 B6
      try go_wp2_with fail
      obtain ⟨R9, O9, B9⟩ := G9.out
      clear G9
      generalize ((((((w6.setCell ⟨w.heap.size, 0, none⟩ (.int .i64 c)).setCell ⟨w.heap.size, 1, none⟩ (.int .i64 r)).setCell ⟨w.heap.size, 2, none⟩ (.int .i64 q)).setCell ⟨w.heap.size, 3, none⟩ (.int .i64 a)).setCell ⟨w.heap.size, 4, none⟩ (.int .i64 b)).setCell ⟨w.heap.size, 5, none⟩ (.slice aov ws.length capv)) = W9 at *
      obtain ⟨q0, q1, q2, q3, q4, q5⟩ := R9.cells
      refine bodyPost_ret (v := .tuple #[.agg #[.int .i64 c, .int .i64 r, .int .i64 q, .int .i64 a, .int .i64 b, (.slice aov ws.length capv)], .int .i64 _, .int .i64 u]) (by simp [results, Try.results24, go_sem, q0, q1, q2, q3, q4, q5]; rfl) rfl ?_
      exact ⟨⟨_, _, _, _, _, ws, _, _, _, hwl, O9, rfl⟩, B9⟩
end Go.Proofs.Ytnhnpneedcjcfaa
