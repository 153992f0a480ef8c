/- The law on drawn stores. -/
import Derived.Test.YtjijpcfdkmbgpaaAr
import Derived.Test.YtjijpcfdkmbgpaaDj
namespace Go.Proofs.Ytjijpcfdkmbgpaa
open Go.RowKit Pl
set_option linter.unusedVariables false

theorem agg_eq (q f l : Int) (t : ByteArray) : agg (q, f, l, t) = .agg #[.int .i64 q, .int .i64 f, .int .i64 l, .string t] := rfl

set_option maxRecDepth 100000 in
set_option maxHeartbeats 8000000 in
theorem lawStores (w : World) (n cap : Nat) (ao : Option Addr) (hk : Hid (CodeAt w w.heap.size ao n)) :
    Calls Try.prog 3 #[.slice ao n cap] w fun e w' => e = .returned (.bool true) ∧ Below w.heap.size w w' := by
  by_cases hbig : 1048576 < n
  · go_enter Try.func3, Try.ntmps3
    go_wp2_with fail
    refine (big_any w n cap ao true (by simp; omega)).mono ?_
    rintro e w1 ⟨rfl, hw⟩
    obtain rfl := hw.symm
    go_wp2_with fail
    go_ret
    exact ⟨rfl, Below.refl _ _⟩
  have hn : n ≤ 1048576 := by omega
  go_enter Try.func3, Try.ntmps3
  go_wp2_with fail
  refine (big_any w n cap ao false (by simp; omega)).mono ?_
  rintro e w1 ⟨rfl, hw⟩
  obtain rfl := hw.symm
  clear hw hbig
  go_wp2_with fail
  refine (drawPut_any w n cap ao hn hk).mono ?_
  rintro e w1 ⟨⟨v, ts, q, f, l, t, rfl, S1, U1, ht⟩, B1⟩
  have hl10 : ts.length ≤ 10 := U1.1
  have HSZ : Hid (∀ x ∈ ts, x.2.2.2.size ≤ 1048576) := fun x hx => by have := U1.2 x hx; omega
  have b1 : Below w1.heap.size w1 (w1.alloc (.cells #[.int .i64 q, .int .i64 f, .int .i64 l, .string t] 26)) := (Below.refl _ _).alloc (Nat.le_refl _) _
  have S2 := S1.below b1
  have I2 : Hid (ItAt (w1.alloc (.cells #[.int .i64 q, .int .i64 f, .int .i64 l, .string t] 26)) w1.heap.size q f l t) := heap_alloc_new w1 _
  have B2 : Hid (Below w.heap.size w (w1.alloc (.cells #[.int .i64 q, .int .i64 f, .int .i64 l, .string t] 26))) := B1.trans (b1.mono B1.size)
  clear S1 U1 b1 hk B1
  obtain ⟨vo, vc, rfl, X2⟩ := S2.items
  have S2 : Hid (SlI (w1.alloc (.cells #[.int .i64 q, .int .i64 f, .int .i64 l, .string t] 26)) w.heap.size (.slice vo ts.length vc) ts) := S2
  have X2 : Hid (ItemsAt (w1.alloc (.cells #[.int .i64 q, .int .i64 f, .int .i64 l, .string t] 26)) vo ts) := X2
  go_wp2_with fail
  generalize w1.alloc (.cells #[.int .i64 q, .int .i64 f, .int .i64 l, .string t] 26) = W2 at *
  generalize w1.heap.size = gm at *
  refine (putItem_any vo vc ts q f l t W2 X2 (by omega) HSZ (by omega)).mono ?_
  rintro e w3 ⟨v1, rfl, N3, b3⟩
  have N3 : Hid (SlI w3 W2.heap.size v1 (putP ts (q, f, l, t))) := N3
  have I3 : Hid (ItAt w3 gm q f l t) := I2.out.stays b3 I2.out.lt
  have S3 : Hid (SlI w3 w.heap.size (.slice vo ts.length vc) ts) := S2.out.below b3
  have X3 : Hid (ItemsAt w3 vo ts) := X2.out.stays b3
  have B3 : Hid (Below w.heap.size w w3) := B2.out.trans (b3.mono B2.out.size)
  clear b3 S2 X2 B2 I2
  obtain ⟨R, hR⟩ : ∃ R, R = putP ts (q, f, l, t) := ⟨_, rfl⟩
  have hRl : R.length ≤ 11 := by rw [hR]; have := putP_len ts (q, f, l, t); omega
  rw [← hR] at N3
  have SPC : Hid (∀ (W : World), Hid (ItemsAt W vo ts) → Calls Try.prog 15 #[.slice vo ts.length vc, .agg #[.int .i64 q, .int .i64 f, .int .i64 l, .string t]] W fun e w' => ∃ v, e = .returned v ∧ SlI w' W.heap.size v R ∧ Below W.heap.size W w') := fun W h => by rw [hR]; exact spPutItem_any vo vc ts q f l t W h (by omega)
  have HR : Hid (R = putP ts (q, f, l, t)) := hR
  clear hR
  obtain ⟨c0, c1, c2, c3⟩ := I3.out.cells
  go_wp2_with fail
  clear c0 c1 c2 c3
  refine (SPC.out w3 X3).mono ?_
  rintro e w4 ⟨v2, rfl, M4, b4⟩
  have N4 : Hid (SlI w4 W2.heap.size v1 R) := N3.out.below b4
  have I4 : Hid (ItAt w4 gm q f l t) := I3.out.stays b4 I3.out.lt
  have S4 : Hid (SlI w4 w.heap.size (.slice vo ts.length vc) ts) := S3.out.below b4
  have X4 : Hid (ItemsAt w4 vo ts) := X3.out.stays b4
  have B4 : Hid (Below w.heap.size w w4) := B3.out.trans (b4.mono B3.out.size)
  clear b4 N3 S3 X3 B3 I3 SPC
  go_wp2_with fail
  refine (same_same v1 v2 R _ _ w4 N4.out M4 (by omega)).mono ?_
  rintro e w5 ⟨rfl, b5⟩
  have N5 : Hid (SlI w5 W2.heap.size v1 R) := N4.out.below b5
  have I5 : Hid (ItAt w5 gm q f l t) := I4.out.stays b5 I4.out.lt
  have S5 : Hid (SlI w5 w.heap.size (.slice vo ts.length vc) ts) := S4.out.below b5
  have X5 : Hid (ItemsAt w5 vo ts) := X4.out.stays b5
  have B5 : Hid (Below w.heap.size w w5) := B4.out.trans (b5.mono B4.out.size)
  clear b5 N4 S4 X4 B4 I4 M4
  cases hi : iGo 0 ts with
  | false =>
    have HRT : Hid (R = ts) := by show _ = _; rw [HR.out]; unfold putP; rw [if_neg (by rw [hi]; simp)]
    go_wp2_with fail
    refine (spItemsB_is vo vc w5 X5 (by omega) hi).mono ?_
    rintro e w6 ⟨rfl, b6⟩
    have N6 : Hid (SlI w6 W2.heap.size v1 ts) := by rw [← HRT.out]; exact N5.out.below b6
    have S6 : Hid (SlI w6 w.heap.size (.slice vo ts.length vc) ts) := S5.out.below b6
    have B6 : Hid (Below w.heap.size w w6) := B5.out.trans (b6.mono B5.out.size)
    clear b6 N5 S5 X5 B5 I5
    go_wp2_with fail
    refine (same_same v1 (.slice vo ts.length vc) ts _ _ w6 N6.out S6.out (by omega)).mono ?_
    rintro e w7 ⟨rfl, b7⟩
    have S7 := S6.out.below b7
    have X7 : Hid (ItemsAt w7 vo ts) := by
      obtain ⟨_, _, e, x⟩ := S7.items
      simp at e
      rw [e.1]; exact x
    have B7 : Hid (Below w.heap.size w w7) := B6.out.trans (b7.mono B6.out.size)
    clear b7 N6 S6 B6 S7
    go_wp2_with fail
    refine (itemsB_is vo vc w7 X7 (by omega) hi).mono ?_
    rintro e w8 ⟨rfl, b8⟩
    have X8 : Hid (ItemsAt w8 vo ts) := X7.out.stays b8
    have B8 : Hid (Below w.heap.size w w8) := B7.out.trans (b8.mono B7.out.size)
    clear b8 X7 B7
    go_wp2_with fail
    refine (spItemsB_is vo vc w8 X8 (by omega) hi).mono ?_
    rintro e w9 ⟨rfl, b9⟩
    have B9 : Hid (Below w.heap.size w w9) := B8.out.trans (b9.mono B8.out.size)
    clear b9 X8 B8
    go_wp2_with fail
    go_ret
    exact ⟨rfl, B9.out⟩
  | true =>
    go_wp2_with fail
    refine (spItemsB_is vo vc w5 X5 (by omega) hi).mono ?_
    rintro e w6 ⟨rfl, b6⟩
    have N6 : Hid (SlI w6 W2.heap.size v1 R) := N5.out.below b6
    have I6 : Hid (ItAt w6 gm q f l t) := I5.out.stays b6 I5.out.lt
    have S6 : Hid (SlI w6 w.heap.size (.slice vo ts.length vc) ts) := S5.out.below b6
    have X6 : Hid (ItemsAt w6 vo ts) := X5.out.stays b6
    have B6 : Hid (Below w.heap.size w w6) := B5.out.trans (b6.mono B5.out.size)
    clear b6 N5 S5 X5 B5 I5
    obtain ⟨c0, c1, c2, c3⟩ := I6.out.cells
    cases hm : itB q f l t with
    | false =>
      have HRT : Hid (R = ts) := by show _ = _; rw [HR.out]; unfold putP; rw [if_neg (by dsimp only; rw [hm]; simp)]
      go_wp2_with fail
      clear c0 c1 c2 c3
      refine (spItB_is w6 hm).mono ?_
      rintro e w6b ⟨rfl, b6⟩
      have N6 : Hid (SlI w6b W2.heap.size v1 ts) := by rw [← HRT.out]; exact N6.out.below b6
      have S6 : Hid (SlI w6b w.heap.size (.slice vo ts.length vc) ts) := S6.out.below b6
      have B6 : Hid (Below w.heap.size w w6b) := B6.out.trans (b6.mono B6.out.size)
      clear b6 X6 I6
      go_wp2_with fail
      refine (same_same v1 (.slice vo ts.length vc) ts _ _ w6b N6.out S6.out (by omega)).mono ?_
      rintro e w7 ⟨rfl, b7⟩
      have S7 := S6.out.below b7
      have X7 : Hid (ItemsAt w7 vo ts) := by
        obtain ⟨_, _, e, x⟩ := S7.items
        simp at e
        rw [e.1]; exact x
      have B7 : Hid (Below w.heap.size w w7) := B6.out.trans (b7.mono B6.out.size)
      clear b7 N6 S6 B6 S7
      go_wp2_with fail
      refine (itemsB_is vo vc w7 X7 (by omega) hi).mono ?_
      rintro e w8 ⟨rfl, b8⟩
      have X8 : Hid (ItemsAt w8 vo ts) := X7.out.stays b8
      have B8 : Hid (Below w.heap.size w w8) := B7.out.trans (b8.mono B7.out.size)
      clear b8 X7 B7
      go_wp2_with fail
      refine (spItemsB_is vo vc w8 X8 (by omega) hi).mono ?_
      rintro e w9 ⟨rfl, b9⟩
      have B9 : Hid (Below w.heap.size w w9) := B8.out.trans (b9.mono B8.out.size)
      clear b9 X8 B8
      go_wp2_with fail
      go_ret
      exact ⟨rfl, B9.out⟩
    | true =>
      have HRI : Hid (R = ins1 ts (q, f, l, t)) := by show _ = _; rw [HR.out]; unfold putP; rw [if_pos ⟨hi, hm⟩]
      have HRR : Hid (iGo 0 R = true) := by show _ = _; rw [HRI.out]; exact ins1_right hi hm
      have HSR : Hid (∀ x ∈ R, x.2.2.2.size ≤ 1048576) := fun x hx => by
        rw [HRI.out] at hx
        rcases ins1_mem hx with h | rfl
        · exact HSZ.out x h
        · show t.size ≤ _; omega
      have HHR : hasP R q = true := by rw [HRI.out]; exact hasP_ins1 (y := (q, f, l, t))
      have HSAME : Hid (hasP ts q = true → (atP R q).getD zIt = (atP ts q).getD zIt) := fun h => by rw [HRI.out, ins1_has (y := (q, f, l, t)) h]
      have HNEW : Hid (hasP ts q = false → (atP R q).getD zIt = (q, f, l, t)) := fun h => by rw [HRI.out, atP_ins1 (y := (q, f, l, t)) h]; rfl
      go_wp2_with fail
      clear c0 c1 c2 c3
      refine (spItB_is w6 hm).mono ?_
      rintro e w7 ⟨rfl, b7⟩
      have N7 := N6.out.below b7
      have I7 : Hid (ItAt w7 gm q f l t) := I6.out.stays b7 I6.out.lt
      have X7 : Hid (ItemsAt w7 vo ts) := X6.out.stays b7
      have B7 : Hid (Below w.heap.size w w7) := B6.out.trans (b7.mono B6.out.size)
      clear b7 N6 S6 X6 B6 I6 hi hm
      obtain ⟨no, nc, rfl, Y7⟩ := N7.items
      have Y7 : Hid (ItemsAt w7 no R) := Y7
      clear N7
      have A1 := fun (W : World) (h : Hid (ItemsAt W no R)) => itemAt_any no nc R q W h (by omega) HSR
      rw [HHR] at A1
      have A2 := fun (W : World) (h : Hid (ItemsAt W vo ts)) => itemAt_any vo vc ts q W h (by omega) HSZ
      obtain ⟨⟨q1, f1, l1, t1⟩, hy1⟩ : ∃ y, y = (atP R q).getD zIt := ⟨_, rfl⟩
      obtain ⟨⟨q2, f2, l2, t2⟩, hy2⟩ : ∃ y, y = (atP ts q).getD zIt := ⟨_, rfl⟩
      rw [← hy1] at A1 HSAME HNEW
      rw [← hy2] at A2 HSAME
      obtain ⟨had, hhad⟩ : ∃ b, b = hasP ts q := ⟨_, rfl⟩
      rw [← hhad] at A2 HSAME HNEW
      have A1 : Hid _ := A1
      have A2 : Hid _ := A2
      clear hy1 hy2 hhad HHR
      obtain ⟨c0, c1, c2, c3⟩ := I7.out.cells
      go_wp2_with fail
      clear c0 c1 c2 c3
      refine (show Calls _ _ _ _ _ from A1.out w7 Y7).mono ?_
      rintro e w8 ⟨rfl, b8⟩
      have b8a : Below w8.heap.size w8 (w8.alloc (.cells #[.int .i64 q1, .int .i64 f1, .int .i64 l1, .string t1] 26)) := (Below.refl _ _).alloc (Nat.le_refl _) _
      have I8 : Hid (ItAt (w8.alloc (.cells #[.int .i64 q1, .int .i64 f1, .int .i64 l1, .string t1] 26)) gm q f l t) := (I7.out.stays b8 I7.out.lt).stays b8a (I7.out.stays b8 I7.out.lt).lt
      have J8 : Hid (ItAt (w8.alloc (.cells #[.int .i64 q1, .int .i64 f1, .int .i64 l1, .string t1] 26)) w8.heap.size q1 f1 l1 t1) := heap_alloc_new w8 _
      have Y8 : Hid (ItemsAt (w8.alloc (.cells #[.int .i64 q1, .int .i64 f1, .int .i64 l1, .string t1] 26)) no R) := (Y7.out.stays b8).stays b8a
      have X8 : Hid (ItemsAt (w8.alloc (.cells #[.int .i64 q1, .int .i64 f1, .int .i64 l1, .string t1] 26)) vo ts) := (X7.out.stays b8).stays b8a
      have B8' : Below w.heap.size w w8 := B7.out.trans (b8.mono B7.out.size)
      have B8 : Hid (Below w.heap.size w (w8.alloc (.cells #[.int .i64 q1, .int .i64 f1, .int .i64 l1, .string t1] 26))) := B8'.trans (b8a.mono B8'.size)
      clear b8 b8a B8' A1 I7 Y7 X7 B7
      obtain ⟨c0, c1, c2, c3⟩ := I8.out.cells
      rw [agg_eq]
      go_wp2_with fail
      clear c0 c1 c2 c3
      generalize w8.alloc (.cells #[.int .i64 q1, .int .i64 f1, .int .i64 l1, .string t1] 26) = W8 at *
      generalize w8.heap.size = g1 at *
      refine (show Calls _ _ _ _ _ from A2.out W8 X8).mono ?_
      rintro e w9 ⟨rfl, b9⟩
      have b9a : Below w9.heap.size w9 (w9.alloc (.cells #[.int .i64 q2, .int .i64 f2, .int .i64 l2, .string t2] 26)) := (Below.refl _ _).alloc (Nat.le_refl _) _
      have I9 : Hid (ItAt (w9.alloc (.cells #[.int .i64 q2, .int .i64 f2, .int .i64 l2, .string t2] 26)) gm q f l t) := (I8.out.stays b9 I8.out.lt).stays b9a (I8.out.stays b9 I8.out.lt).lt
      have J9 : Hid (ItAt (w9.alloc (.cells #[.int .i64 q2, .int .i64 f2, .int .i64 l2, .string t2] 26)) g1 q1 f1 l1 t1) := (J8.out.stays b9 J8.out.lt).stays b9a (J8.out.stays b9 J8.out.lt).lt
      have O9 : Hid (ItAt (w9.alloc (.cells #[.int .i64 q2, .int .i64 f2, .int .i64 l2, .string t2] 26)) w9.heap.size q2 f2 l2 t2) := heap_alloc_new w9 _
      have Y9 : Hid (ItemsAt (w9.alloc (.cells #[.int .i64 q2, .int .i64 f2, .int .i64 l2, .string t2] 26)) no R) := (Y8.out.stays b9).stays b9a
      have B9' : Below w.heap.size w w9 := B8.out.trans (b9.mono B8.out.size)
      have B9 : Hid (Below w.heap.size w (w9.alloc (.cells #[.int .i64 q2, .int .i64 f2, .int .i64 l2, .string t2] 26))) := B9'.trans (b9a.mono B9'.size)
      clear b9 b9a B9' A2 I8 J8 Y8 X8 B8
      obtain ⟨c0, c1, c2, c3⟩ := I9.out.cells
      obtain ⟨d0, d1, d2, d3⟩ := J9.out.cells
      obtain ⟨e0, e1, e2, e3⟩ := O9.out.cells
      rw [agg_eq]
      cases had with
      | true =>
        obtain ⟨rfl, rfl, rfl, rfl⟩ : q1 = q2 ∧ f1 = f2 ∧ l1 = l2 ∧ t1 = t2 := by
          have := HSAME.out rfl
          simp at this
          exact this
        go_wp2_with fail
        clear c0 c1 c2 c3 d0 d1 d2 d3 e0 e1 e2 e3
        generalize w9.alloc (.cells #[.int .i64 q1, .int .i64 f1, .int .i64 l1, .string t1] 26) = W9 at *
        clear I9 J9 O9 HSAME HNEW
        refine (itemsB_is no nc W9 Y9 (by omega) HRR.out).mono ?_
        rintro e wa ⟨rfl, ba⟩
        have Ya : Hid (ItemsAt wa no R) := Y9.out.stays ba
        have Ba : Hid (Below w.heap.size w wa) := B9.out.trans (ba.mono B9.out.size)
        clear ba Y9 B9
        go_wp2_with fail
        refine (aruOf_any no nc R wa Ya (by omega)).mono ?_
        rintro e wb ⟨rfl, bb⟩
        have Yb : Hid (ItemsAt wb no R) := Ya.out.stays bb
        have Bb : Hid (Below w.heap.size w wb) := Ba.out.trans (bb.mono Ba.out.size)
        have hAl : aruP R ≤ 11 := by have := aruP_le R; omega
        have HF := aru_facts HRR.out
        obtain ⟨A, hA⟩ : ∃ A, A = aruP R := ⟨_, rfl⟩
        rw [← hA] at HF hAl ⊢
        have HF1 : Hid (∀ k : Nat, 1 ≤ k → k ≤ A → hasP R (k : Int) = true) := HF.1
        have HF2 : Hid (hasP R ((A + 1 : Nat) : Int) = false) := HF.2.1
        have HF3 : Hid ((wholeP R).length = A) := HF.2.2
        clear bb Ya Ba hA HF
        go_wp2
        go_loopw [12] (fun s wr => ∃ k : Nat, 1 ≤ k ∧ k ≤ A + 1 ∧ s = .int .i64 k ∧ Hid (ItemsAt wr no R) ∧ Hid (Below w.heap.size w wr)) (fun s _ => A + 1 - (intOf s).toNat)
        case atStart => exact ⟨1, by omega, by omega, rfl, Yb, Bb⟩
        case round =>
          clear Yb Bb
          obtain ⟨k, hk1, hk2, rfl, hY, hb⟩ := hrel
          by_cases hkA : k ≤ A
          · have A1 := itemAt_any no nc R (k : Int) wr hY (by omega) HSR
            rw [HF1.out k hk1 hkA] at A1
            generalize (atP R (k : Int)).getD zIt = y at A1
            obtain ⟨q3, f3, l3, t3⟩ := y
            have A1 : Hid _ := A1
            go_wp2_with fail
            refine (show Calls _ _ _ _ _ from A1.out).mono ?_
            rintro e wd ⟨rfl, bd⟩
            have b2 : Below wd.heap.size wd (wd.alloc (.cells #[.int .i64 q3, .int .i64 f3, .int .i64 l3, .string t3] 26)) := (Below.refl _ _).alloc (Nat.le_refl _) _
            have Yd : Hid (ItemsAt (wd.alloc (.cells #[.int .i64 q3, .int .i64 f3, .int .i64 l3, .string t3] 26)) no R) := (hY.out.stays bd).stays b2
            have Bd : Below w.heap.size w wd := hb.out.trans (bd.mono hb.out.size)
            have Be : Hid (Below w.heap.size w (wd.alloc (.cells #[.int .i64 q3, .int .i64 f3, .int .i64 l3, .string t3] 26))) := Bd.trans (b2.mono Bd.size)
            clear A1 bd b2 Bd
            rw [agg_eq]
            go_wp2_with fail
            go_roundw
            case rel => exact ⟨k + 1, by omega, by omega, by go_num, Yd, Be⟩
            case measure => simp [intOf]; omega
          · have hw1 : IntKind.i64.wrap ((A : Int) + 1) = ((A + 1 : Nat) : Int) := by rw [IntKind.wrap_i64]; omega
            have A1 := itemAt_any no nc R ((A + 1 : Nat) : Int) wr hY (by omega) HSR
            rw [HF2.out] at A1
            generalize (atP R ((A + 1 : Nat) : Int)).getD zIt = y at A1
            obtain ⟨q3, f3, l3, t3⟩ := y
            have A1 : Hid _ := A1
            go_wp2_with fail
            refine (show Calls _ _ _ _ _ from A1.out).mono ?_
            rintro e wd ⟨rfl, bd⟩
            have b2 : Below wd.heap.size wd (wd.alloc (.cells #[.int .i64 q3, .int .i64 f3, .int .i64 l3, .string t3] 26)) := (Below.refl _ _).alloc (Nat.le_refl _) _
            have Yd : Hid (ItemsAt (wd.alloc (.cells #[.int .i64 q3, .int .i64 f3, .int .i64 l3, .string t3] 26)) no R) := (hY.out.stays bd).stays b2
            have Bd : Below w.heap.size w wd := hb.out.trans (bd.mono hb.out.size)
            have Be : Hid (Below w.heap.size w (wd.alloc (.cells #[.int .i64 q3, .int .i64 f3, .int .i64 l3, .string t3] 26))) := Bd.trans (b2.mono Bd.size)
            clear A1 bd b2 Bd
            rw [agg_eq]
            go_wp2_with fail
            generalize wd.alloc (.cells #[.int .i64 q3, .int .i64 f3, .int .i64 l3, .string t3] 26) = We at *
            refine (whole_any no nc R We Yd (by omega) HSR).mono ?_
            rintro e wf ⟨vf, rfl, Sf, bf⟩
            obtain ⟨fo, fc, rfl⟩ := Sl.form Sf
            have Bf : Hid (Below w.heap.size w wf) := Be.out.trans (bf.mono Be.out.size)
            rw [HF3.out]
            clear Sf bf
            go_wp2_with fail
            go_ret
            exact ⟨rfl, Bf.out⟩
      | false =>
        obtain ⟨rfl, rfl, rfl, rfl⟩ : q1 = q ∧ f1 = f ∧ l1 = l ∧ t1 = t := by
          have := HNEW.out rfl
          simp at this
          exact this
        go_wp2_with fail
        clear c0 c1 c2 c3 d0 d1 d2 d3 e0 e1 e2 e3
        generalize w9.alloc (.cells #[.int .i64 q2, .int .i64 f2, .int .i64 l2, .string t2] 26) = W9 at *
        clear I9 J9 O9 HSAME HNEW
        refine (itemsB_is no nc W9 Y9 (by omega) HRR.out).mono ?_
        rintro e wa ⟨rfl, ba⟩
        have Ya : Hid (ItemsAt wa no R) := Y9.out.stays ba
        have Ba : Hid (Below w.heap.size w wa) := B9.out.trans (ba.mono B9.out.size)
        clear ba Y9 B9
        go_wp2_with fail
        refine (aruOf_any no nc R wa Ya (by omega)).mono ?_
        rintro e wb ⟨rfl, bb⟩
        have Yb : Hid (ItemsAt wb no R) := Ya.out.stays bb
        have Bb : Hid (Below w.heap.size w wb) := Ba.out.trans (bb.mono Ba.out.size)
        have hAl : aruP R ≤ 11 := by have := aruP_le R; omega
        have HF := aru_facts HRR.out
        obtain ⟨A, hA⟩ : ∃ A, A = aruP R := ⟨_, rfl⟩
        rw [← hA] at HF hAl ⊢
        have HF1 : Hid (∀ k : Nat, 1 ≤ k → k ≤ A → hasP R (k : Int) = true) := HF.1
        have HF2 : Hid (hasP R ((A + 1 : Nat) : Int) = false) := HF.2.1
        have HF3 : Hid ((wholeP R).length = A) := HF.2.2
        clear bb Ya Ba hA HF
        go_wp2
        go_loopw [12] (fun s wr => ∃ k : Nat, 1 ≤ k ∧ k ≤ A + 1 ∧ s = .int .i64 k ∧ Hid (ItemsAt wr no R) ∧ Hid (Below w.heap.size w wr)) (fun s _ => A + 1 - (intOf s).toNat)
        case atStart => exact ⟨1, by omega, by omega, rfl, Yb, Bb⟩
        case round =>
          clear Yb Bb
          obtain ⟨k, hk1, hk2, rfl, hY, hb⟩ := hrel
          by_cases hkA : k ≤ A
          · have A1 := itemAt_any no nc R (k : Int) wr hY (by omega) HSR
            rw [HF1.out k hk1 hkA] at A1
            generalize (atP R (k : Int)).getD zIt = y at A1
            obtain ⟨q3, f3, l3, t3⟩ := y
            have A1 : Hid _ := A1
            go_wp2_with fail
            refine (show Calls _ _ _ _ _ from A1.out).mono ?_
            rintro e wd ⟨rfl, bd⟩
            have b2 : Below wd.heap.size wd (wd.alloc (.cells #[.int .i64 q3, .int .i64 f3, .int .i64 l3, .string t3] 26)) := (Below.refl _ _).alloc (Nat.le_refl _) _
            have Yd : Hid (ItemsAt (wd.alloc (.cells #[.int .i64 q3, .int .i64 f3, .int .i64 l3, .string t3] 26)) no R) := (hY.out.stays bd).stays b2
            have Bd : Below w.heap.size w wd := hb.out.trans (bd.mono hb.out.size)
            have Be : Hid (Below w.heap.size w (wd.alloc (.cells #[.int .i64 q3, .int .i64 f3, .int .i64 l3, .string t3] 26))) := Bd.trans (b2.mono Bd.size)
            clear A1 bd b2 Bd
            rw [agg_eq]
            go_wp2_with fail
            go_roundw
            case rel => exact ⟨k + 1, by omega, by omega, by go_num, Yd, Be⟩
            case measure => simp [intOf]; omega
          · have hw1 : IntKind.i64.wrap ((A : Int) + 1) = ((A + 1 : Nat) : Int) := by rw [IntKind.wrap_i64]; omega
            have A1 := itemAt_any no nc R ((A + 1 : Nat) : Int) wr hY (by omega) HSR
            rw [HF2.out] at A1
            generalize (atP R ((A + 1 : Nat) : Int)).getD zIt = y at A1
            obtain ⟨q3, f3, l3, t3⟩ := y
            have A1 : Hid _ := A1
            go_wp2_with fail
            refine (show Calls _ _ _ _ _ from A1.out).mono ?_
            rintro e wd ⟨rfl, bd⟩
            have b2 : Below wd.heap.size wd (wd.alloc (.cells #[.int .i64 q3, .int .i64 f3, .int .i64 l3, .string t3] 26)) := (Below.refl _ _).alloc (Nat.le_refl _) _
            have Yd : Hid (ItemsAt (wd.alloc (.cells #[.int .i64 q3, .int .i64 f3, .int .i64 l3, .string t3] 26)) no R) := (hY.out.stays bd).stays b2
            have Bd : Below w.heap.size w wd := hb.out.trans (bd.mono hb.out.size)
            have Be : Hid (Below w.heap.size w (wd.alloc (.cells #[.int .i64 q3, .int .i64 f3, .int .i64 l3, .string t3] 26))) := Bd.trans (b2.mono Bd.size)
            clear A1 bd b2 Bd
            rw [agg_eq]
            go_wp2_with fail
            generalize wd.alloc (.cells #[.int .i64 q3, .int .i64 f3, .int .i64 l3, .string t3] 26) = We at *
            refine (whole_any no nc R We Yd (by omega) HSR).mono ?_
            rintro e wf ⟨vf, rfl, Sf, bf⟩
            obtain ⟨fo, fc, rfl⟩ := Sl.form Sf
            have Bf : Hid (Below w.heap.size w wf) := Be.out.trans (bf.mono Be.out.size)
            rw [HF3.out]
            clear Sf bf
            go_wp2_with fail
            go_ret
            exact ⟨rfl, Bf.out⟩
end Go.Proofs.Ytjijpcfdkmbgpaa
