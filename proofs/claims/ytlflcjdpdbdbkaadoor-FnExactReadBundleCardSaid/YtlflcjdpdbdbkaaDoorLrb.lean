/- The law on ReadBundle. -/
import Derived.Test.YtlflcjdpdbdbkaaDoorSb13
namespace Go.Proofs.YtlflcjdpdbdbkaaDoor
open Go.RowKit Pl
set_option linter.unusedVariables false
set_option linter.unusedSimpArgs false

/-- an own list of items in blocks from lo on and below hi. -/
structure MineT (w : World) (v : Value) (xs : List It) (lo hi : Nat) : Prop where
  own : SlI w lo v xs
  lt : ∀ k, v.ownBlock = some k → lo ≤ k ∧ k < hi
  le : hi ≤ w.heap.size
theorem MineT.mk' {w : World} {v : Value} {xs : List It} {lo : Nat} (h : SlI w lo v xs) : MineT w v xs lo w.heap.size := ⟨h, h.lt, Nat.le_refl _⟩
theorem MineT.stays {w w' : World} {v : Value} {xs : List It} {lo hi : Nat} (h : MineT w v xs lo hi) (hb : Below w.heap.size w w') : MineT w' v xs lo hi := ⟨h.own.below hb, h.lt, Nat.le_trans h.le hb.size⟩
theorem MineT.grown {w w' : World} {v u : Value} {xs : List It} {lo hi : Nat} (h : MineT w v xs lo hi) (hg : w.grownBy w' u.ownBlock) (hne : ∀ k, v.ownBlock = some k → u.ownBlock ≠ some k) : MineT w' v xs lo hi :=
  ⟨h.own.kept hg (fun k hk e => hne k hk e.symm), h.lt, Nat.le_trans h.le hg.size⟩

set_option maxRecDepth 100000 in
set_option maxHeartbeats 8000000 in
theorem lawReadBundle (t : ByteArray) (w : World) (hs : t.size ≤ maxLen) (htab : Hid (Tab w)) :
    Calls Tryd.prog 5 #[.string t] w fun e w' => e = .returned (.bool true) ∧ Below w.heap.size w w' := by
  unfold maxLen at hs
  by_cases hl : 1048576 < t.size
  · go_enter Tryd.func5, Tryd.ntmps5
    go_wp2
    go_ret
    exact ⟨rfl, Below.refl _ _⟩
  have hs2 : t.size ≤ 1048576 := by omega
  clear hs hl
  go_enter Tryd.func5, Tryd.ntmps5
  go_wp2_with fail
  refine (spReadBundle_any t _ hs2).mono ?_
  rintro e w1 ⟨f, n, o, ts, k, u0, rfl, ha1, hv1, hb1⟩
  have A1 : Hid (AnsB t f n o ts k) := ha1
  have hlW : ts.length ≤ 60 := ha1.few
  have D1 : Below w1.heap.size w1 (w1.alloc (.cells #[.int .i64 f, .int .i64 n, .int .i64 o, .slice u0.a u0.n u0.c] 26)) := (Below.refl _ _).alloc (Nat.le_refl _) _
  have M1 : Hid (MineT (w1.alloc (.cells #[.int .i64 f, .int .i64 n, .int .i64 o, .slice u0.a u0.n u0.c] 26)) u0.v ts w.heap.size w1.heap.size) := (MineT.mk' hv1).stays D1
  have T1 : Hid (Bx (w1.alloc (.cells #[.int .i64 f, .int .i64 n, .int .i64 o, .slice u0.a u0.n u0.c] 26)) w1.heap.size 26 [.int .i64 f, .int .i64 n, .int .i64 o, .slice u0.a u0.n u0.c]) := Bx.new w1 26 _
  have B1 : Hid (Below w.heap.size w (w1.alloc (.cells #[.int .i64 f, .int .i64 n, .int .i64 o, .slice u0.a u0.n u0.c] 26))) := bl_nxt hb1 D1
  have hsz1 := hb1.size
  clear ha1 hv1 hb1 D1
  go_wp2_with fail
  generalize (w1.alloc (.cells #[.int .i64 f, .int .i64 n, .int .i64 o, .slice u0.a u0.n u0.c] 26)) = W1 at *
  have Tb1 : Hid (Tab W1) := htab.out.below B1.out
  refine (readBundle_any t _ hs2 Tb1).mono ?_
  rintro e w2 ⟨f', n', o', ts', k', ug, rfl, ha2, hv2, hb2⟩
  obtain ⟨rfl, rfl, rfl, rfl, rfl⟩ := A1.out.same ha2
  have D2 : Below w2.heap.size w2 (w2.alloc (.cells #[.int .i64 f, .int .i64 n, .int .i64 o, .slice ug.a ug.n ug.c] 26)) := (Below.refl _ _).alloc (Nat.le_refl _) _
  have E2 := bl_nxt hb2 D2
  have G2 : Hid (MineT (w2.alloc (.cells #[.int .i64 f, .int .i64 n, .int .i64 o, .slice ug.a ug.n ug.c] 26)) ug.v ts W1.heap.size w2.heap.size) := (MineT.mk' hv2).stays D2
  have X2 : Hid (Bx (w2.alloc (.cells #[.int .i64 f, .int .i64 n, .int .i64 o, .slice ug.a ug.n ug.c] 26)) w2.heap.size 26 [.int .i64 f, .int .i64 n, .int .i64 o, .slice ug.a ug.n ug.c]) := Bx.new w2 26 _
  have M2 : Hid (MineT (w2.alloc (.cells #[.int .i64 f, .int .i64 n, .int .i64 o, .slice ug.a ug.n ug.c] 26)) u0.v ts w.heap.size w1.heap.size) := M1.out.stays E2
  have T2 : Hid (Bx (w2.alloc (.cells #[.int .i64 f, .int .i64 n, .int .i64 o, .slice ug.a ug.n ug.c] 26)) w1.heap.size 26 [.int .i64 f, .int .i64 n, .int .i64 o, .slice u0.a u0.n u0.c]) := T1.out.later E2
  have B2 : Hid (Below w.heap.size w (w2.alloc (.cells #[.int .i64 f, .int .i64 n, .int .i64 o, .slice ug.a ug.n ug.c] 26))) := bl_nxt B1.out E2
  have h12 : w1.heap.size < W1.heap.size := T1.out.lt
  have h22 : W1.heap.size ≤ w2.heap.size := hb2.size
  have g0 := X2.out.cell 0
  have g1 := X2.out.cell 1
  have g2 := X2.out.cell 2
  have g3 := X2.out.cell 3
  simp only [List.getElem?_cons_succ, List.getElem?_cons_zero] at g0 g1 g2 g3
  have t0 := T2.out.cell 0
  have t1 := T2.out.cell 1
  have t2 := T2.out.cell 2
  have t3 := T2.out.cell 3
  simp only [List.getElem?_cons_succ, List.getElem?_cons_zero] at t0 t1 t2 t3
  clear ha2 hv2 hb2 D2 E2 M1 T1 B1 Tb1
  go_wp2_with fail
  generalize (w2.alloc (.cells #[.int .i64 f, .int .i64 n, .int .i64 o, .slice ug.a ug.n ug.c] 26)) = W2 at *
  generalize w2.heap.size = gg at *
  generalize w1.heap.size = gw at *
  refine (eqBundle_same f n o ug u0 ts _ _ _ G2.out.own M2.out.own (by omega)).mono ?_
  rintro e w3 ⟨rfl, hb3⟩
  have G3 : Hid (MineT w3 ug.v ts W1.heap.size gg) := G2.out.stays hb3
  have M3 : Hid (MineT w3 u0.v ts w.heap.size gw) := M2.out.stays hb3
  have X3 : Hid (Bx w3 gg 26 [.int .i64 f, .int .i64 n, .int .i64 o, .slice ug.a ug.n ug.c]) := X2.out.later hb3
  have T3 : Hid (Bx w3 gw 26 [.int .i64 f, .int .i64 n, .int .i64 o, .slice u0.a u0.n u0.c]) := T2.out.later hb3
  have B3 : Hid (Below w.heap.size w w3) := bl_nxt B2.out hb3
  clear hb3 g0 g1 g2 g3 t0 t1 t2 t3 G2 M2 X2 T2 B2
  have g0 := X3.out.cell 0
  have g1 := X3.out.cell 1
  have g2 := X3.out.cell 2
  have g3 := X3.out.cell 3
  simp only [List.getElem?_cons_succ, List.getElem?_cons_zero] at g0 g1 g2 g3
  go_wp2_with fail
  refine (markBundle_any f n o ug ts _ 1 _ G3.out.own (by omega) (by omega)).mono ?_
  rintro e w4 ⟨rfl, ho4, hgW⟩
  have hne : ∀ k, u0.v.ownBlock = some k → ug.v.ownBlock ≠ some k := fun k hk hk2 => by
    have x1 := M3.out.lt k hk
    have x2 := G3.out.lt k hk2
    omega
  have G4 : Hid (MineT w4 ug.v (mkI 1 ts.length) W1.heap.size gg) := ⟨ho4, G3.out.lt, Nat.le_trans G3.out.le hgW.size⟩
  have M4 : Hid (MineT w4 u0.v ts w.heap.size gw) := M3.out.grown hgW hne
  have X4 : Hid (Bx w4 gg 26 [.int .i64 f, .int .i64 n, .int .i64 o, .slice ug.a ug.n ug.c]) := X3.out.grown hgW (fun e => sl_bx_ne G3.out.own X3.out (by decide) e.symm)
  have T4 : Hid (Bx w4 gw 26 [.int .i64 f, .int .i64 n, .int .i64 o, .slice u0.a u0.n u0.c]) := T3.out.grown hgW (fun e => sl_bx_ne G3.out.own T3.out (by decide) e.symm)
  have B4 : Hid (Below w.heap.size w w4) := B3.out.grown hgW B3.out.size (fun k hk => by have := G3.out.lt k hk; omega)
  clear ho4 hgW hne g0 g1 g2 g3 G3 M3 X3 T3 B3
  have g0 := X4.out.cell 0
  have g1 := X4.out.cell 1
  have g2 := X4.out.cell 2
  have g3 := X4.out.cell 3
  simp only [List.getElem?_cons_succ, List.getElem?_cons_zero] at g0 g1 g2 g3
  go_wp2_with fail
  refine (heldBundle_any f n o ug ts.length _ 1 _ G4.out.own (by omega) (by omega)).mono ?_
  rintro e w5 ⟨rfl, hb5⟩
  have hd : decide (((1 + 4 * ts.length : Nat) : Int) < 0) = false := by simp; omega
  have G5 : Hid (MineT w5 ug.v (mkI 1 ts.length) W1.heap.size gg) := G4.out.stays hb5
  have M5 : Hid (MineT w5 u0.v ts w.heap.size gw) := M4.out.stays hb5
  have X5 : Hid (Bx w5 gg 26 [.int .i64 f, .int .i64 n, .int .i64 o, .slice ug.a ug.n ug.c]) := X4.out.later hb5
  have T5 : Hid (Bx w5 gw 26 [.int .i64 f, .int .i64 n, .int .i64 o, .slice u0.a u0.n u0.c]) := T4.out.later hb5
  have B5 : Hid (Below w.heap.size w w5) := bl_nxt B4.out hb5
  have Tb5 : Hid (Tab w5) := htab.out.below B5.out
  clear hb5 g0 g1 g2 g3 G4 M4 X4 T4 B4
  go_wp2_with fail
  refine (readBundle_any t _ hs2 Tb5).mono ?_
  rintro e w6 ⟨f', n', o', ts', k', uh, rfl, ha6, hv6, hb6⟩
  obtain ⟨rfl, rfl, rfl, rfl, rfl⟩ := A1.out.same ha6
  have D6 : Below w6.heap.size w6 (w6.alloc (.cells #[.int .i64 f, .int .i64 n, .int .i64 o, .slice uh.a uh.n uh.c] 26)) := (Below.refl _ _).alloc (Nat.le_refl _) _
  have E6 := bl_nxt hb6 D6
  have H6 : Hid (MineT (w6.alloc (.cells #[.int .i64 f, .int .i64 n, .int .i64 o, .slice uh.a uh.n uh.c] 26)) uh.v ts w5.heap.size w6.heap.size) := (MineT.mk' hv6).stays D6
  have Y6 : Hid (Bx (w6.alloc (.cells #[.int .i64 f, .int .i64 n, .int .i64 o, .slice uh.a uh.n uh.c] 26)) w6.heap.size 26 [.int .i64 f, .int .i64 n, .int .i64 o, .slice uh.a uh.n uh.c]) := Bx.new w6 26 _
  have G6 : Hid (MineT (w6.alloc (.cells #[.int .i64 f, .int .i64 n, .int .i64 o, .slice uh.a uh.n uh.c] 26)) ug.v (mkI 1 ts.length) W1.heap.size gg) := G5.out.stays E6
  have M6 : Hid (MineT (w6.alloc (.cells #[.int .i64 f, .int .i64 n, .int .i64 o, .slice uh.a uh.n uh.c] 26)) u0.v ts w.heap.size gw) := M5.out.stays E6
  have X6 : Hid (Bx (w6.alloc (.cells #[.int .i64 f, .int .i64 n, .int .i64 o, .slice uh.a uh.n uh.c] 26)) gg 26 [.int .i64 f, .int .i64 n, .int .i64 o, .slice ug.a ug.n ug.c]) := X5.out.later E6
  have T6 : Hid (Bx (w6.alloc (.cells #[.int .i64 f, .int .i64 n, .int .i64 o, .slice uh.a uh.n uh.c] 26)) gw 26 [.int .i64 f, .int .i64 n, .int .i64 o, .slice u0.a u0.n u0.c]) := T5.out.later E6
  have B6 : Hid (Below w.heap.size w (w6.alloc (.cells #[.int .i64 f, .int .i64 n, .int .i64 o, .slice uh.a uh.n uh.c] 26))) := bl_nxt B5.out E6
  have g0 := Y6.out.cell 0
  have g1 := Y6.out.cell 1
  have g2 := Y6.out.cell 2
  have g3 := Y6.out.cell 3
  simp only [List.getElem?_cons_succ, List.getElem?_cons_zero] at g0 g1 g2 g3
  have t0 := T6.out.cell 0
  have t1 := T6.out.cell 1
  have t2 := T6.out.cell 2
  have t3 := T6.out.cell 3
  simp only [List.getElem?_cons_succ, List.getElem?_cons_zero] at t0 t1 t2 t3
  clear ha6 hv6 hb6 D6 E6 G5 M5 X5 T5 B5 Tb5
  go_wp2_with fail
  generalize (w6.alloc (.cells #[.int .i64 f, .int .i64 n, .int .i64 o, .slice uh.a uh.n uh.c] 26)) = W6 at *
  refine (eqBundle_same f n o uh u0 ts _ _ _ H6.out.own M6.out.own (by omega)).mono ?_
  rintro e w7 ⟨rfl, hb7⟩
  have G7 : Hid (MineT w7 ug.v (mkI 1 ts.length) W1.heap.size gg) := G6.out.stays hb7
  have X7 : Hid (Bx w7 gg 26 [.int .i64 f, .int .i64 n, .int .i64 o, .slice ug.a ug.n ug.c]) := X6.out.later hb7
  have B7 : Hid (Below w.heap.size w w7) := bl_nxt B6.out hb7
  clear hb7 g0 g1 g2 g3 t0 t1 t2 t3 G6 M6 X6 T6 B6 H6 Y6
  have g0 := X7.out.cell 0
  have g1 := X7.out.cell 1
  have g2 := X7.out.cell 2
  have g3 := X7.out.cell 3
  simp only [List.getElem?_cons_succ, List.getElem?_cons_zero] at g0 g1 g2 g3
  go_wp2_with fail
  refine (heldBundle_any f n o ug ts.length _ 1 _ G7.out.own (by omega) (by omega)).mono ?_
  rintro e w8 ⟨rfl, hb8⟩
  have B8 : Hid (Below w.heap.size w w8) := bl_nxt B7.out hb8
  clear hb8
  go_wp2_with fail
  go_ret
  exact ⟨rfl, B8.out⟩
end Go.Proofs.YtlflcjdpdbdbkaaDoor
