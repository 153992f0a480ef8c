/- The law on ReadToken. -/
import Derived.Test.YtpegbkpgjjjllaaDoorY6
import Derived.Test.YtpegbkpgjjjllaaDoorY7
namespace Go.Proofs.YtpegbkpgjjjllaaDoor
open Go.RowKit Pl
set_option linter.unusedVariables false

/-- an own list in blocks from lo on and below hi. -/
structure MineI (w : World) (v : Value) (xs : List Int) (lo hi : Nat) : Prop where
  own : OwnI w lo v xs
  lt : ∀ k, v.ownBlock = some k → lo ≤ k ∧ k < hi
  le : hi ≤ w.heap.size
theorem MineI.mk' {w : World} {v : Value} {xs : List Int} {lo : Nat} (h : OwnI w lo v xs) : MineI w v xs lo w.heap.size := ⟨h, h.lt, Nat.le_refl _⟩
theorem MineI.stays {w w' : World} {v : Value} {xs : List Int} {lo hi : Nat} (h : MineI w v xs lo hi) (hb : Below w.heap.size w w') : MineI w' v xs lo hi :=
  ⟨h.own.stays hb (fun k hk => (h.own.lt k hk).2), h.lt, Nat.le_trans h.le hb.size⟩
theorem MineI.grown {w w' : World} {v u : Value} {xs : List Int} {lo hi : Nat} (h : MineI w v xs lo hi) (hg : w.grownBy w' u.ownBlock) (hne : ∀ k, v.ownBlock = some k → u.ownBlock ≠ some k) : MineI w' v xs lo hi := by
  refine ⟨⟨h.own.1, ?_⟩, h.lt, Nat.le_trans h.le hg.size⟩
  rcases h.own.2 with hn | ⟨k, cap, cur, rfl, hbg, hk2, rest⟩
  · exact .inl hn
  · exact .inr ⟨k, cap, cur, rfl, hbg, (hg.block k (Array.getElem?_eq_some_iff.1 hk2).1 (fun e => hne k rfl e.symm)).trans hk2, rest⟩

set_option maxRecDepth 100000 in
set_option maxHeartbeats 4000000 in
theorem lawReadToken (t : ByteArray) (w : World) (hs : t.size ≤ maxLen) (htab : Hid (Tab w)) :
    Calls Tryd.prog 5 #[.string t] w fun e w' => e = .returned (.bool true) ∧ Below w.heap.size w w' := by
  unfold maxLen at hs
  by_cases hl : 1048576 < t.size
  · go_enter Tryd.func5, Tryd.ntmps5
    go_wp2
    go_ret
    exact ⟨rfl, Below.refl _ _⟩
  have hs2 : t.size ≤ 1048576 := by omega
  clear hs hl
  go_enter Tryd.func5, Tryd.ntmps5
  go_wp2_with fail
  refine (spReadToken_any t _ hs2).mono ?_
  rintro e w1 ⟨c, r, q, a, b, ns, k, v0, rfl, ha1, hl1, hv1, hb1⟩
  have A1 : Hid (AnsT t c r q a b ns k) := ha1
  obtain ⟨ao0, cap0, hvf⟩ := hv1.form
  subst hvf
  have D1 : Below w1.heap.size w1 (w1.alloc (.cells #[.int .i64 c, .int .i64 r, .int .i64 q, .int .i64 a, .int .i64 b, .slice ao0 (ns.map fun n : Nat => (n : Int)).length cap0] 26)) := (Below.refl _ _).alloc (Nat.le_refl _) _
  have M1 : Hid (MineI (w1.alloc (.cells #[.int .i64 c, .int .i64 r, .int .i64 q, .int .i64 a, .int .i64 b, .slice ao0 (ns.map fun n : Nat => (n : Int)).length cap0] 26)) (.slice ao0 (ns.map fun n : Nat => (n : Int)).length cap0) (ns.map fun n : Nat => (n : Int)) w.heap.size w1.heap.size) := (MineI.mk' hv1).stays D1
  have T1 : Hid (TokAt (w1.alloc (.cells #[.int .i64 c, .int .i64 r, .int .i64 q, .int .i64 a, .int .i64 b, .slice ao0 (ns.map fun n : Nat => (n : Int)).length cap0] 26)) w1.heap.size c r q a b (.slice ao0 (ns.map fun n : Nat => (n : Int)).length cap0)) := heap_alloc_new w1 _
  have B1 : Hid (Below w.heap.size w (w1.alloc (.cells #[.int .i64 c, .int .i64 r, .int .i64 q, .int .i64 a, .int .i64 b, .slice ao0 (ns.map fun n : Nat => (n : Int)).length cap0] 26))) := hb1.alloc hb1.size _
  have HWS : Hid (∃ WS : List Int, WS = ns.map fun n : Nat => (n : Int)) := ⟨_, rfl⟩
  obtain ⟨WS, hWS⟩ := HWS.out
  rw [← hWS] at D1 M1 T1 B1 ⊢
  have HW : Hid (WS = ns.map fun n : Nat => (n : Int)) := hWS
  have hlW : WS.length ≤ 1048576 := by rw [hWS]; simp; omega
  have hsz1 := hb1.size
  clear ha1 hv1 hb1 D1 HWS hWS
  go_wp2_with fail
  generalize w1.alloc (.cells #[.int .i64 c, .int .i64 r, .int .i64 q, .int .i64 a, .int .i64 b, .slice ao0 WS.length cap0] 26) = W1 at *
  have Tb1 : Hid (Tab W1) := htab.out.below B1.out
  refine (readToken_any t _ hs2 Tb1).mono ?_
  rintro e w2 ⟨c', r', q', a', b', ns', k', vg, rfl, ha2, hl2, hv2, hb2⟩
  obtain ⟨rfl, rfl, rfl, rfl, rfl, rfl, rfl⟩ := A1.out.same ha2
  rw [← HW.out] at hv2
  obtain ⟨aog, capg, hvf⟩ := hv2.form
  subst hvf
  have D2 : Below w2.heap.size w2 (w2.alloc (.cells #[.int .i64 c, .int .i64 r, .int .i64 q, .int .i64 a, .int .i64 b, .slice aog WS.length capg] 26)) := (Below.refl _ _).alloc (Nat.le_refl _) _
  have E2 := hb2.trans (D2.mono hb2.size)
  have G2 : Hid (MineI (w2.alloc (.cells #[.int .i64 c, .int .i64 r, .int .i64 q, .int .i64 a, .int .i64 b, .slice aog WS.length capg] 26)) (.slice aog WS.length capg) WS W1.heap.size w2.heap.size) := (MineI.mk' hv2).stays D2
  have X2 : Hid (TokAt (w2.alloc (.cells #[.int .i64 c, .int .i64 r, .int .i64 q, .int .i64 a, .int .i64 b, .slice aog WS.length capg] 26)) w2.heap.size c r q a b (.slice aog WS.length capg)) := heap_alloc_new w2 _
  have M2 : Hid (MineI (w2.alloc (.cells #[.int .i64 c, .int .i64 r, .int .i64 q, .int .i64 a, .int .i64 b, .slice aog WS.length capg] 26)) (.slice ao0 WS.length cap0) WS w.heap.size w1.heap.size) := M1.out.stays E2
  have T2 : Hid (TokAt (w2.alloc (.cells #[.int .i64 c, .int .i64 r, .int .i64 q, .int .i64 a, .int .i64 b, .slice aog WS.length capg] 26)) w1.heap.size c r q a b (.slice ao0 WS.length cap0)) := T1.out.stays E2 T1.out.lt
  have B2 : Hid (Below w.heap.size w (w2.alloc (.cells #[.int .i64 c, .int .i64 r, .int .i64 q, .int .i64 a, .int .i64 b, .slice aog WS.length capg] 26))) := B1.out.trans (E2.mono B1.out.size)
  have h12 : w1.heap.size < W1.heap.size := T1.out.lt
  have h22 : W1.heap.size ≤ w2.heap.size := hb2.size
  obtain ⟨g0, g1, g2, g3, g4, g5⟩ := X2.out.cells
  obtain ⟨t0, t1, t2, t3, t4, t5⟩ := T2.out.cells
  clear ha2 hv2 hb2 D2 E2 M1 T1 B1 Tb1
  go_wp2_with fail
  generalize w2.alloc (.cells #[.int .i64 c, .int .i64 r, .int .i64 q, .int .i64 a, .int .i64 b, .slice aog WS.length capg] 26) = W2 at *
  generalize w2.heap.size = gg at *
  generalize w1.heap.size = gw at *
  refine (eqTok_same c r q a b _ _ WS _ _ _ G2.out.own M2.out.own hlW).mono ?_
  rintro e w3 ⟨rfl, hb3⟩
  have G3 : Hid (MineI w3 (.slice aog WS.length capg) WS W1.heap.size gg) := G2.out.stays hb3
  have M3 : Hid (MineI w3 (.slice ao0 WS.length cap0) WS w.heap.size gw) := M2.out.stays hb3
  have X3 : Hid (TokAt w3 gg c r q a b (.slice aog WS.length capg)) := X2.out.stays hb3 X2.out.lt
  have T3 : Hid (TokAt w3 gw c r q a b (.slice ao0 WS.length cap0)) := T2.out.stays hb3 T2.out.lt
  have B3 : Hid (Below w.heap.size w w3) := B2.out.trans (hb3.mono B2.out.size)
  clear hb3 g0 g1 g2 g3 g4 g5 t0 t1 t2 t3 t4 t5 G2 M2 X2 T2 B2
  obtain ⟨g0, g1, g2, g3, g4, g5⟩ := X3.out.cells
  go_wp2_with fail
  refine (markTok_any c r q a b _ WS _ _ G3.out.own hlW).mono ?_
  rintro e w4 ⟨rfl, ho4, W, hbW, hgW⟩
  have hne : ∀ k, (Value.slice ao0 WS.length cap0).ownBlock = some k → (Value.slice aog WS.length capg).ownBlock ≠ some k := fun k hk hk2 => by
    have x1 := M3.out.lt k hk
    have x2 := G3.out.lt k hk2
    omega
  have G4 : Hid (MineI w4 (.slice aog WS.length capg) (mkL WS.length) W1.heap.size gg) := ⟨ho4, G3.out.lt, Nat.le_trans G3.out.le (Nat.le_trans hbW.size hgW.size)⟩
  have M4 : Hid (MineI w4 (.slice ao0 WS.length cap0) WS w.heap.size gw) := (M3.out.stays hbW).grown hgW hne
  have OW := own_later G3.out.own hbW
  have X4 : Hid (TokAt w4 gg c r q a b (.slice aog WS.length capg)) := TokAt.grown (X3.out.stays hbW X3.out.lt) OW hgW
  have T4 : Hid (TokAt w4 gw c r q a b (.slice ao0 WS.length cap0)) := TokAt.grown (T3.out.stays hbW T3.out.lt) OW hgW
  have B4 : Hid (Below w.heap.size w w4) := (B3.out.trans (hbW.mono B3.out.size)).grown hgW (Nat.le_trans B3.out.size hbW.size) (fun k hk => by have := G3.out.lt k hk; omega)
  clear ho4 hbW hgW hne OW g0 g1 g2 g3 g4 g5 G3 M3 X3 T3 B3
  obtain ⟨g0, g1, g2, g3, g4, g5⟩ := X4.out.cells
  go_wp2_with fail
  refine (heldTok_any c r q a b _ WS.length _ _ G4.out.own hlW).mono ?_
  rintro e w5 ⟨rfl, hb5⟩
  have hd : decide (1 + (WS.length : Int) < 0) = false := by simp; omega
  have G5 : Hid (MineI w5 (.slice aog WS.length capg) (mkL WS.length) W1.heap.size gg) := G4.out.stays hb5
  have M5 : Hid (MineI w5 (.slice ao0 WS.length cap0) WS w.heap.size gw) := M4.out.stays hb5
  have X5 : Hid (TokAt w5 gg c r q a b (.slice aog WS.length capg)) := X4.out.stays hb5 X4.out.lt
  have T5 : Hid (TokAt w5 gw c r q a b (.slice ao0 WS.length cap0)) := T4.out.stays hb5 T4.out.lt
  have B5 : Hid (Below w.heap.size w w5) := B4.out.trans (hb5.mono B4.out.size)
  have Tb5 : Hid (Tab w5) := htab.out.below B5.out
  clear hb5 g0 g1 g2 g3 g4 g5 G4 M4 X4 T4 B4
  go_wp2_with fail
  refine (readToken_any t _ hs2 Tb5).mono ?_
  rintro e w6 ⟨c', r', q', a', b', ns', k', vh, rfl, ha6, hl6, hv6, hb6⟩
  obtain ⟨rfl, rfl, rfl, rfl, rfl, rfl, rfl⟩ := A1.out.same ha6
  rw [← HW.out] at hv6
  obtain ⟨aoh, caph, hvf⟩ := hv6.form
  subst hvf
  have D6 : Below w6.heap.size w6 (w6.alloc (.cells #[.int .i64 c, .int .i64 r, .int .i64 q, .int .i64 a, .int .i64 b, .slice aoh WS.length caph] 26)) := (Below.refl _ _).alloc (Nat.le_refl _) _
  have E6 := hb6.trans (D6.mono hb6.size)
  have H6 : Hid (MineI (w6.alloc (.cells #[.int .i64 c, .int .i64 r, .int .i64 q, .int .i64 a, .int .i64 b, .slice aoh WS.length caph] 26)) (.slice aoh WS.length caph) WS w5.heap.size w6.heap.size) := (MineI.mk' hv6).stays D6
  have Y6 : Hid (TokAt (w6.alloc (.cells #[.int .i64 c, .int .i64 r, .int .i64 q, .int .i64 a, .int .i64 b, .slice aoh WS.length caph] 26)) w6.heap.size c r q a b (.slice aoh WS.length caph)) := heap_alloc_new w6 _
  have G6 : Hid (MineI (w6.alloc (.cells #[.int .i64 c, .int .i64 r, .int .i64 q, .int .i64 a, .int .i64 b, .slice aoh WS.length caph] 26)) (.slice aog WS.length capg) (mkL WS.length) W1.heap.size gg) := G5.out.stays E6
  have M6 : Hid (MineI (w6.alloc (.cells #[.int .i64 c, .int .i64 r, .int .i64 q, .int .i64 a, .int .i64 b, .slice aoh WS.length caph] 26)) (.slice ao0 WS.length cap0) WS w.heap.size gw) := M5.out.stays E6
  have X6 : Hid (TokAt (w6.alloc (.cells #[.int .i64 c, .int .i64 r, .int .i64 q, .int .i64 a, .int .i64 b, .slice aoh WS.length caph] 26)) gg c r q a b (.slice aog WS.length capg)) := X5.out.stays E6 X5.out.lt
  have T6 : Hid (TokAt (w6.alloc (.cells #[.int .i64 c, .int .i64 r, .int .i64 q, .int .i64 a, .int .i64 b, .slice aoh WS.length caph] 26)) gw c r q a b (.slice ao0 WS.length cap0)) := T5.out.stays E6 T5.out.lt
  have B6 : Hid (Below w.heap.size w (w6.alloc (.cells #[.int .i64 c, .int .i64 r, .int .i64 q, .int .i64 a, .int .i64 b, .slice aoh WS.length caph] 26))) := B5.out.trans (E6.mono B5.out.size)
  obtain ⟨g0, g1, g2, g3, g4, g5⟩ := Y6.out.cells
  obtain ⟨t0, t1, t2, t3, t4, t5⟩ := T6.out.cells
  clear ha6 hv6 hb6 D6 E6 G5 M5 X5 T5 B5 Tb5
  go_wp2_with fail
  generalize w6.alloc (.cells #[.int .i64 c, .int .i64 r, .int .i64 q, .int .i64 a, .int .i64 b, .slice aoh WS.length caph] 26) = W6 at *
  refine (eqTok_same c r q a b _ _ WS _ _ _ H6.out.own M6.out.own hlW).mono ?_
  rintro e w7 ⟨rfl, hb7⟩
  have G7 : Hid (MineI w7 (.slice aog WS.length capg) (mkL WS.length) W1.heap.size gg) := G6.out.stays hb7
  have X7 : Hid (TokAt w7 gg c r q a b (.slice aog WS.length capg)) := X6.out.stays hb7 X6.out.lt
  have B7 : Hid (Below w.heap.size w w7) := B6.out.trans (hb7.mono B6.out.size)
  clear hb7 g0 g1 g2 g3 g4 g5 t0 t1 t2 t3 t4 t5 G6 M6 X6 T6 B6 H6 Y6
  obtain ⟨g0, g1, g2, g3, g4, g5⟩ := X7.out.cells
  go_wp2_with fail
  refine (heldTok_any c r q a b _ WS.length _ _ G7.out.own hlW).mono ?_
  rintro e w8 ⟨rfl, hb8⟩
  go_wp2_with fail
  go_ret
  exact ⟨rfl, B7.out.trans (hb8.mono B7.out.size)⟩
end Go.Proofs.YtpegbkpgjjjllaaDoor
