/- The walk over DrawNumber. -/
import Derived.Test.YtnhnpneedcjcfaaDm
import Derived.Test.YtnhnpneedcjcfaaNd
import Derived.Deep.RegionWith
namespace Go.Proofs.Ytnhnpneedcjcfaa
open Go.RowKit Pl
set_option linter.unusedVariables false

theorem drw_turn {w w' : World} {B g k n cap : Nat} {ao : Option Addr} (h : Drw w w B g ao n cap) (hB : B ≤ k) (ht : TurnAt k w w') (hg : g ≠ k) : Drw w' w' B g ao n cap := by
  obtain ⟨⟨i, z, h1, h2⟩, h3, h4⟩ := h
  exact ⟨⟨i, z, h1, (ht.block g hg).trans h2⟩, h3.stays (ht.below hB) (Nat.le_refl _), KeepBut.refl g w'⟩
theorem OwnI_turn {w w' : World} {B g : Nat} {v : Value} {ss : List Int} (h : OwnI w B v ss) (ht : TurnAt g w w') (hg : ∀ k, v.ownBlock = some k → k ≠ g) : OwnI w' B v ss := OwnI_but h ht.keep hg
theorem OwnS_turn {w w' : World} {B g : Nat} {v : Value} {ss : List ByteArray} (h : OwnS w B v ss) (ht : TurnAt g w w') (hg : ∀ k, v.ownBlock = some k → k ≠ g) : OwnS w' B v ss := OwnS_but h ht.keep hg

set_option maxRecDepth 100000 in
set_option maxHeartbeats 16000000 in
theorem drawNumber_any (w : World) (n cap : Nat) (ao : Option Addr) (hn : n ≤ 1048576) (hk : Hid (CodeAt w w.heap.size ao n)) :
    Calls Try.prog 19 #[.slice ao n cap] w fun e w' => ∃ (c r q a b : Int) (ws : List Int) (v : Value) (f : Int) (lv : List Int) (vl : Value) (tx : List ByteArray) (vt : Value), ws.length ≤ 13 ∧ lv.length ≤ 5 ∧ (tx.length ≤ 7 ∧ ∀ s ∈ tx, s.size ≤ 61) ∧ OwnI w' w.heap.size v ws ∧ OwnI w' w.heap.size vl lv ∧ OwnS w' w.heap.size vt tx ∧ e = .returned (.tuple #[.agg #[.int .i64 c, .int .i64 r, .int .i64 q, .int .i64 a, .int .i64 b, v], .int .i64 f, vl, vt]) ∧ Below w.heap.size w w' := by
  have HB0 : Hid (Below w.heap.size w (w.alloc (.cells #[.int .i64 0, .int .i64 0, .int .i64 0, .int .i64 0, .int .i64 0, .slice none 0 0] 30))) := (Below.refl _ _).alloc (Nat.le_refl _) _
  have R0 : Hid (TokAt (w.alloc (.cells #[.int .i64 0, .int .i64 0, .int .i64 0, .int .i64 0, .int .i64 0, .slice none 0 0] 30)) w.heap.size 0 0 0 0 0 (.slice none 0 0)) := heap_alloc_new w _
  go_enter Try.func19, Try.ntmps19
  go_wp2_with fail
  generalize w.alloc (.cells #[.int .i64 0, .int .i64 0, .int .i64 0, .int .i64 0, .int .i64 0, .slice none 0 0] 30) = W0 at *
  have hW0 := R0.out.lt
  have K0 : Hid (CodeAt W0 w.heap.size ao n) := hk.out.stays HB0.out (Nat.le_refl _)
  refine (new_any W0 n cap ao hn (code_up K0.out (Nat.le_of_lt hW0))).mono ?_
  rintro e w1 ⟨rfl, hc1, hb1, hs1⟩
  have R1 : Hid (TokAt w1 w.heap.size 0 0 0 0 0 (.slice none 0 0)) := R0.out.stays hb1 hW0
  have D1 : Hid (Drw w1 w1 w.heap.size W0.heap.size ao n cap) := Drw.start hc1.out (K0.out.stays hb1 (Nat.le_of_lt hW0))
  have B1 : Hid (Below w.heap.size w w1) := HB0.out.trans (hb1.mono HB0.out.size)
  have hgc : W0.heap.size < w1.heap.size := by omega
  clear hc1 hb1 R0 K0 HB0 hk hs1
  generalize W0.heap.size = gc at *
  go_wp2_with fail
  refine (anyToken_any w1 w1 w.heap.size gc n cap ao hn (by omega) D1).mono ?_
  rintro e w2 ⟨⟨c, r, q, a, b, ws, v, hwl, hv, rfl⟩, hd2⟩
  obtain ⟨aov, capv, hvf⟩ := hv.form
  subst hvf
  have R2 : Hid (TokAt w2 w.heap.size 0 0 0 0 0 (.slice none 0 0)) := R1.out.keep hd2.out.2.2 (by omega)
  have VL : Hid (∀ k, (Value.slice aov ws.length capv).ownBlock = some k → k ≠ gc) := fun k hk => by have := (hv.lt k hk).1; omega
  have T2 : Hid (TokAt (w2.alloc (.cells #[.int .i64 c, .int .i64 r, .int .i64 q, .int .i64 a, .int .i64 b, .slice aov ws.length capv] 30)) w2.heap.size c r q a b (.slice aov ws.length capv)) := heap_alloc_new w2 _
  have B2 : Below w.heap.size w w2 := B1.out.trans (hd2.out.2.2.below (by omega) B1.out.size)
  have b2 : Below w2.heap.size w2 (w2.alloc (.cells #[.int .i64 c, .int .i64 r, .int .i64 q, .int .i64 a, .int .i64 b, .slice aov ws.length capv] 30)) := (Below.refl _ _).alloc (Nat.le_refl _) _
  have R3 : Hid (TokAt (w2.alloc (.cells #[.int .i64 c, .int .i64 r, .int .i64 q, .int .i64 a, .int .i64 b, .slice aov ws.length capv] 30)) w.heap.size 0 0 0 0 0 (.slice none 0 0)) := R2.out.stays b2 R2.out.lt
  have V3 : Hid (OwnI (w2.alloc (.cells #[.int .i64 c, .int .i64 r, .int .i64 q, .int .i64 a, .int .i64 b, .slice aov ws.length capv] 30)) w.heap.size (.slice aov ws.length capv) ws) := (hv.alloc _).down B1.out.size
  have D3 : Hid (Drw (w2.alloc (.cells #[.int .i64 c, .int .i64 r, .int .i64 q, .int .i64 a, .int .i64 b, .slice aov ws.length capv] 30)) (w2.alloc (.cells #[.int .i64 c, .int .i64 r, .int .i64 q, .int .i64 a, .int .i64 b, .slice aov ws.length capv] 30)) w.heap.size gc ao n cap) := (hd2.out.alloc (by omega) _).here
  have B3 : Hid (Below w.heap.size w (w2.alloc (.cells #[.int .i64 c, .int .i64 r, .int .i64 q, .int .i64 a, .int .i64 b, .slice aov ws.length capv] 30))) := B2.trans (b2.mono B2.size)
  have hg2 : gc < w2.heap.size := hd2.out.lt
  have hR2 : w.heap.size < w2.heap.size := R2.out.lt
  clear hd2 D1 R1 B1 hv R2 B2 b2
  go_wp2_with fail
  generalize w2.alloc (.cells #[.int .i64 c, .int .i64 r, .int .i64 q, .int .i64 a, .int .i64 b, .slice aov ws.length capv] 30) = W3 at *
  generalize w2.heap.size = gB at *
  refine (once_any W3 _ w.heap.size gc n cap 10 ao hn (by omega) (by omega) (by omega) D3).mono ?_
  rintro e WN ⟨⟨bo, rfl⟩, hd5⟩
  have K5 := hd5.out.2.2
  have RN : Hid (TokAt WN w.heap.size 0 0 0 0 0 (.slice none 0 0)) := R3.out.keep K5 (by omega)
  have TN : Hid (TokAt WN gB c r q a b (.slice aov ws.length capv)) := T2.out.keep K5 (by omega)
  have VN : Hid (OwnI WN w.heap.size (.slice aov ws.length capv) ws) := OwnI_but V3.out K5 VL.out
  have BN : Hid (Below w.heap.size w WN) := B3.out.trans (K5.below (by omega) B3.out.size)
  have DN : Hid (Drw WN WN w.heap.size gc ao n cap) := hd5.out.here
  clear K5 hd5 R3 T2 V3 D3 B3
  cases bo with
  | false =>
    have HW : Hid (ws.length ≤ 13) := hwl
    go_wp2_with fail
    have HSZ : Hid (WN.heap.size = WN.heap.size) := rfl
    have hgN : gc < WN.heap.size := DN.out.lt
    have hBN : gB < WN.heap.size := TN.out.lt
    obtain ⟨N, hN⟩ : ∃ N, N = WN.heap.size := ⟨_, rfl⟩
    have HN : Hid (N = WN.heap.size) := hN
    have O0 : Hid (OwnI ((WN.alloc (.cells #[] 3)).alloc (.cells #[] 9)) N (.slice (some ⟨WN.heap.size, 0, none⟩) 0 0) []) := by
      have h := (OwnI.made WN N (by omega)).alloc (.cells #[] 9)
      rw [show (⟨WN.heap.size, 0, none⟩ : Addr) = ⟨WN.heap.size, 0, none⟩ by rw [HSZ.out]] at h
      exact h
    have S0 : Hid (OwnS ((WN.alloc (.cells #[] 3)).alloc (.cells #[] 9)) N (.slice (some ⟨WN.heap.size + 1, 0, none⟩) 0 0) []) := by
      have h := OwnS.made (WN.alloc (.cells #[] 3)) N (by simp; omega)
      rw [show (⟨(WN.alloc (.cells #[] 3)).heap.size, 0, none⟩ : Addr) = ⟨WN.heap.size + 1, 0, none⟩ by rw [← HSZ.out]; simp] at h
      exact h
    have b0 : Below WN.heap.size WN ((WN.alloc (.cells #[] 3)).alloc (.cells #[] 9)) := ((Below.refl _ _).alloc (Nat.le_refl _) _).alloc (by simp) _
    have D0 : Hid (Drw WN ((WN.alloc (.cells #[] 3)).alloc (.cells #[] 9)) w.heap.size gc ao n cap) := DN.out.push b0 hgN (by omega)
    have HT0 : Hid (∀ t ∈ ([] : List ByteArray), t.size ≤ 13) := by intro t ht; cases ht
    have HGN : Hid (gc < N ∧ gB < N) := ⟨by omega, by omega⟩
    clear b0 hN
    generalize (WN.alloc (.cells #[] 3)).alloc (.cells #[] 9) = WQ at *
    go_loopw [8, 9, 10] (fun ll tt ix wr => ∃ (k : Nat) (lv : List Int) (tx : List ByteArray), k ≤ 5 ∧ ix = .int .i64 k ∧ lv.length ≤ k ∧ tx.length ≤ k ∧ Hid (∀ t ∈ tx, t.size ≤ 13) ∧ Hid (OwnI wr N ll lv) ∧ Hid (OwnS wr N tt tx) ∧ Hid (Drw WN wr w.heap.size gc ao n cap)) (fun _ _ ix _ => 6 - (intOf ix).toNat)
    case atStart => exact ⟨0, [], [], by omega, rfl, by simp, by simp, HT0, O0, S0, D0⟩
    case round =>
      clear O0 S0 D0 HT0
      obtain ⟨k, lv, tx, hk5, rfl, hlv, htx, HT, OL, OT, DK⟩ := hrel
      obtain ⟨hgcN, hgBN⟩ := HGN.out
      obtain ⟨ul, hul⟩ : ∃ ul, ul = u8 := ⟨_, rfl⟩
      obtain ⟨ut, hut⟩ : ∃ ut, ut = u9 := ⟨_, rfl⟩
      subst hul
      subst hut
      go_wp2_with fail
      refine (below_small wr _ w.heap.size gc n cap 6 ao hn (by omega) (by omega) (by omega) DK.out.here).mono ?_
      rintro e w6 ⟨⟨x, hx, rfl⟩, hd6⟩
      replace OL : Hid (OwnI w6 N ul lv) := OwnI_but OL.out hd6.out.2.2 (fun j hj => by have := (OL.out.lt j hj).1; omega)
      replace OT : Hid (OwnS w6 N ut tx) := OwnS_but OT.out hd6.out.2.2 (fun j hj => by have := (OT.out.lt j hj).1; omega)
      replace DK : Hid (Drw WN w6 w.heap.size gc ao n cap) := DK.out.back hd6.out
      clear hd6
      by_cases hkx : k < x
      · have hkx' : (k : Int) < (x : Int) := by omega
        go_wp2_with fail
        refine (below_small w6 _ w.heap.size gc n cap 4 ao hn (by omega) (by omega) (by omega) DK.out.here).mono ?_
        rintro e w7 ⟨⟨y, hy, rfl⟩, hd7⟩
        replace OL : Hid (OwnI w7 N ul lv) := OwnI_but OL.out hd7.out.2.2 (fun j hj => by have := (OL.out.lt j hj).1; omega)
        replace OT : Hid (OwnS w7 N ut tx) := OwnS_but OT.out hd7.out.2.2 (fun j hj => by have := (OT.out.lt j hj).1; omega)
        replace DK : Hid (Drw WN w7 w.heap.size gc ao n cap) := DK.out.back hd7.out
        have hs7 : N ≤ w7.heap.size := by rw [HN.out]; exact DK.out.2.2.size
        have OL7 := OL.out
        clear hd7
        go_wp2_with (first | (at_builtin; refine wpList_pushG rfl _ _ 24 rfl Try.underlying24 Try.info3' N _ lv rfl OL7 _ rfl (by omega) hs7 ?_; intro v8 w8 hown8 hg8; have H8 : Hid (OwnI w8 N v8 (lv ++ [(y : Int)])) := hown8; have G8 : Hid (World.grownBy (w7.alloc (.cells #[.int .i64 (y : Int)] 3)) w8 ul.ownBlock) := hg8; clear hown8 hg8))
        have b7 : Below w7.heap.size w7 (w7.alloc (.cells #[.int .i64 (y : Int)] 3)) := (Below.refl _ _).alloc (Nat.le_refl _) _
        have OT7 := ownS_later OT.out b7
        have OT8 : Hid (OwnS w8 N ut tx) := ownS_kept OT7 G8.out (fun j hj he => int_text_ne OL7 OT.out j he.symm hj)
        have c8 : Below N w7 w8 := ((Below.refl N w7).alloc hs7 _).grown G8.out (by simp; omega) (fun j hj => (OL7.lt j hj).1)
        have D8 : Hid (Drw WN w8 w.heap.size gc ao n cap) := DK.out.push (by rw [← HN.out]; exact c8) hgN (by omega)
        clear OL OT DK OT7 b7 c8 G8 OL7
        refine (name_any w8 _ w.heap.size gc n cap ao hn (by omega) D8.out.here).mono ?_
        rintro e w9 ⟨⟨t, ht, rfl⟩, hd9⟩
        have OL9 : Hid (OwnI w9 N v8 (lv ++ [(y : Int)])) := OwnI_but H8.out hd9.out.2.2 (fun j hj => by have := (H8.out.lt j hj).1; omega)
        have OT9 := OwnS_but OT8.out hd9.out.2.2 (fun j hj => by have := (OT8.out.lt j hj).1; omega)
        have D9 : Hid (Drw WN w9 w.heap.size gc ao n cap) := D8.out.back hd9.out
        have hs9 : N ≤ w9.heap.size := by rw [HN.out]; exact D9.out.2.2.size
        clear hd9 D8 H8 OT8
        go_wp2_with (first | (at_builtin; refine wpList_pushSG rfl _ _ 35 rfl Try.underlying35 Try.info9 N _ tx rfl OT9 _ rfl (by omega) hs9 ?_; intro v10 w10 hown10 hg10; have H10 : Hid (OwnS w10 N v10 (tx ++ [t])) := hown10; have G10 : Hid (World.grownBy (w9.alloc (.cells #[.string t] 9)) w10 ut.ownBlock) := hg10; clear hown10 hg10))
        have b9 : Below w9.heap.size w9 (w9.alloc (.cells #[.string t] 9)) := (Below.refl _ _).alloc (Nat.le_refl _) _
        have OL10 : Hid (OwnI w10 N v8 (lv ++ [(y : Int)])) := (own_laterZ OL9.out b9).kept G10.out (fun j hj he => int_text_ne OL9.out OT9 j hj he.symm)
        have c10 : Below N w9 w10 := ((Below.refl N w9).alloc hs9 _).grown G10.out (by simp; omega) (fun j hj => (OT9.lt j hj).1)
        have D10 : Hid (Drw WN w10 w.heap.size gc ao n cap) := D9.out.push (by rw [← HN.out]; exact c10) hgN (by omega)
        have HT2 : Hid (∀ s ∈ tx ++ [t], s.size ≤ 13) := by
          intro s hs
          rcases List.mem_append.1 hs with h | h
          · exact HT.out s h
          · simp at h; rw [h]; exact ht
        clear OL9 OT9 D9 b9 c10 G10
        go_roundw
        case rel => exact ⟨k + 1, lv ++ [(y : Int)], tx ++ [t], by omega, by go_num, by simp; omega, by simp; omega, HT2, OL10, H10, D10⟩
        case measure => simp [intOf]; omega
      · have hkx' : ¬ (k : Int) < (x : Int) := by omega
        go_wp2_with fail
        refine (once_any w6 _ w.heap.size gc n cap 10 ao hn (by omega) (by omega) (by omega) DK.out.here).mono ?_
        rintro e w7 ⟨⟨b7, rfl⟩, hd7⟩
        replace OL : Hid (OwnI w7 N ul lv) := OwnI_but OL.out hd7.out.2.2 (fun j hj => by have := (OL.out.lt j hj).1; omega)
        replace OT : Hid (OwnS w7 N ut tx) := OwnS_but OT.out hd7.out.2.2 (fun j hj => by have := (OT.out.lt j hj).1; omega)
        replace DK : Hid (Drw WN w7 w.heap.size gc ao n cap) := DK.out.back hd7.out
        have HLV : Hid (lv.length ≤ 5) := Nat.le_trans hlv hk5
        clear hd7
        cases b7 with
        | false =>
          have DF := DK
          have HTX : Hid (tx.length ≤ 7 ∧ ∀ s ∈ tx, s.size ≤ 61) := ⟨by omega, fun s hs => by have := HT.out s hs; omega⟩
          clear DK
          have D5 : Hid (Drw w7 w7.drew w.heap.size gc ao n cap) := DF.out.here.out.drew
          have TF : Hid (TokAt w7 gB c r q a b (.slice aov ws.length capv)) := TN.out.keep DF.out.2.2 (by omega)
          have RF : Hid (TokAt w7 w.heap.size 0 0 0 0 0 (.slice none 0 0)) := RN.out.keep DF.out.2.2 (by omega)
          have VF : Hid (OwnI w7 w.heap.size (.slice aov ws.length capv) ws) := OwnI_but VN.out DF.out.2.2 VL.out
          have BF : Hid (Below w.heap.size w w7) := BN.out.trans (DF.out.2.2.below (by omega) BN.out.size)
          obtain ⟨t0, t1, t2, t3, t4, t5⟩ := TF.out.cells
          have fin : ∀ (w6 : World), Drw w7 w6 w.heap.size gc ao n cap → (TokAt w6 gB c r q a b (.slice aov ws.length capv) ∧ TokAt w6 w.heap.size 0 0 0 0 0 (.slice none 0 0)) ∧ (OwnI w6 w.heap.size (.slice aov ws.length capv) ws ∧ OwnI w6 N ul lv ∧ OwnS w6 N ut tx) ∧ Below w.heap.size w w6 := fun w6 h => ⟨⟨TF.out.keep h.2.2 (by omega), RF.out.keep h.2.2 (by omega)⟩, ⟨OwnI_but VF.out h.2.2 VL.out, OwnI_but OL.out h.2.2 (fun k hk => by have := (OL.out.lt k hk).1; omega), OwnS_but OT.out h.2.2 (fun k hk => by have := (OT.out.lt k hk).1; omega)⟩, BF.out.trans (h.2.2.below (by omega) BF.out.size)⟩
          have FIN : Hid _ := fin
          clear fin
          go_wp2_with fail
          go_region_with (go_at_call 64; refine (place_any w7 _ w.heap.size gc n cap 6 ao hn (by omega) (by omega) (by omega) D5).mono ?_; rintro e w6 ⟨⟨u, rfl⟩, hd6⟩; obtain ⟨⟨T6, R6⟩, ⟨V6, L6, S6⟩, B6⟩ := FIN.out w6 hd6.out; obtain ⟨p0, p1, p2, p3, p4, p5⟩ := T6.cells; obtain ⟨c0, c1, c2, c3, c4, c5⟩ := R6.cells; have z0 := R6.frozen 0; have z1 := R6.frozen 1; have z2 := R6.frozen 2; have z3 := R6.frozen 3; have z4 := R6.frozen 4; have z5 := R6.frozen 5)
          all_goals
            have TU := tok_turn (w := w6) (g := w.heap.size) c r q a b (.slice aov ws.length capv)
            have G9 : Hid _ := And.intro (R6.agg c r q a b (.slice aov ws.length capv)) (And.intro (And.intro (own_tok V6 R6 TU) (And.intro (OwnI_turn L6 TU (fun k hk => by have := (L6.lt k hk).1; omega)) (OwnS_turn S6 TU (fun k hk => by have := (S6.lt k hk).1; omega)))) (B6.trans (TU.below (Nat.le_refl _))))
            clear T6 R6 V6 B6 L6 S6 TU
            try go_wp2_with fail
            obtain ⟨R9, ⟨O9, P9, Q9⟩, B9⟩ := G9.out
            clear G9
            generalize ((((((w6.setCell ⟨w.heap.size, 0, none⟩ (.int .i64 c)).setCell ⟨w.heap.size, 1, none⟩ (.int .i64 r)).setCell ⟨w.heap.size, 2, none⟩ (.int .i64 q)).setCell ⟨w.heap.size, 3, none⟩ (.int .i64 a)).setCell ⟨w.heap.size, 4, none⟩ (.int .i64 b)).setCell ⟨w.heap.size, 5, none⟩ (.slice aov ws.length capv)) = W9 at *
            obtain ⟨q0, q1, q2, q3, q4, q5⟩ := R9.cells
            refine bodyPost_ret (v := .tuple #[.agg #[.int .i64 c, .int .i64 r, .int .i64 q, .int .i64 a, .int .i64 b, (.slice aov ws.length capv)], .int .i64 u, ul, ut]) (by simp [results, Try.results19, go_sem, q0, q1, q2, q3, q4, q5]) rfl ?_
            exact ⟨c, r, q, a, b, ws, _, u, lv, _, tx, _, HW.out, HLV.out, HTX.out, O9, P9.down (by omega), Q9.down (by omega), rfl, B9⟩
        | true =>
          go_wp2_with fail
          refine (long_any 61 w7 (by omega)).mono ?_
          rintro e w8 ⟨⟨t, ht, rfl⟩, hb8⟩
          have OL8 := own_laterZ OL.out hb8
          have OT8 := ownS_later OT.out hb8
          have D8 : Drw WN w8 w.heap.size gc ao n cap := DK.out.step (by omega) hb8
          have hs8 : N ≤ w8.heap.size := by rw [HN.out]; exact D8.2.2.size
          have OD : Hid (OwnS (w8.alloc (.cells #[.string ⟨#[97]⟩, .string t] 9)) w8.heap.size (.slice (some ⟨w8.heap.size, 0, none⟩) 2 2) [⟨#[97]⟩, t]) := OwnS.lit w8 w8.heap.size [⟨#[97]⟩, t] (Nat.le_refl _) (by simp)
          have b8 : Below w8.heap.size w8 (w8.alloc (.cells #[.string ⟨#[97]⟩, .string t] 9)) := (Below.refl _ _).alloc (Nat.le_refl _) _
          have OT8a := ownS_later OT8 b8
          have OL8a := own_laterZ OL8 b8
          have hsa : w8.heap.size ≤ (w8.alloc (.cells #[.string ⟨#[97]⟩, .string t] 9)).heap.size := by simp
          have hln : [(⟨#[97]⟩ : ByteArray), t].length + tx.length < 4000000 := by simp; omega
          clear hb8 OL OT DK
          go_wp2_with (first | (at_builtin; refine wpList_catS rfl _ _ 35 rfl Try.underlying35 Try.info9 w8.heap.size _ [⟨#[97]⟩, t] rfl OD.out N _ tx rfl OT8a hln hsa ?_; intro v9 w9 hown9 hg9; have H9 : Hid (OwnS w9 w8.heap.size v9 ([⟨#[97]⟩, t] ++ tx)) := hown9; have G9a : Hid (World.grownBy (w8.alloc (.cells #[.string ⟨#[97]⟩, .string t] 9)) w9 (some w8.heap.size)) := hg9; refine Stp.here ?_))
          refine Stp.go ?_
          have OL : Hid (OwnI w9 N ul lv) := OL8a.kept G9a.out (fun j hj he => by have := (OL8.lt j hj).2; simp at he; omega)
          have OT : Hid (OwnS w9 N v9 ([⟨#[97]⟩, t] ++ tx)) := H9.out.down hs8
          have c9 : Below N w8 w9 := ((Below.refl N w8).alloc hs8 _).grown G9a.out (by simp; omega) (fun j hj => by simp at hj; omega)
          have DF : Hid (Drw WN w9 w.heap.size gc ao n cap) := Drw.push D8 (by rw [← HN.out]; exact c9) hgN (by omega)
          have HTX : Hid (([⟨#[97]⟩, t] ++ tx).length ≤ 7 ∧ ∀ s ∈ [⟨#[97]⟩, t] ++ tx, s.size ≤ 61) := by
            refine ⟨by simp; omega, fun s hs => ?_⟩
            rcases List.mem_append.1 hs with h | h
            · simp at h
              rcases h with rfl | rfl
              · decide
              · omega
            · have := HT.out s h; omega
          clear OD b8 OT8a OL8a OL8 OT8 D8 H9 G9a c9 hown9 hg9
          have D5 : Hid (Drw w9 w9.drew w.heap.size gc ao n cap) := DF.out.here.out.drew
          have TF : Hid (TokAt w9 gB c r q a b (.slice aov ws.length capv)) := TN.out.keep DF.out.2.2 (by omega)
          have RF : Hid (TokAt w9 w.heap.size 0 0 0 0 0 (.slice none 0 0)) := RN.out.keep DF.out.2.2 (by omega)
          have VF : Hid (OwnI w9 w.heap.size (.slice aov ws.length capv) ws) := OwnI_but VN.out DF.out.2.2 VL.out
          have BF : Hid (Below w.heap.size w w9) := BN.out.trans (DF.out.2.2.below (by omega) BN.out.size)
          obtain ⟨t0, t1, t2, t3, t4, t5⟩ := TF.out.cells
          have fin : ∀ (w6 : World), Drw w9 w6 w.heap.size gc ao n cap → (TokAt w6 gB c r q a b (.slice aov ws.length capv) ∧ TokAt w6 w.heap.size 0 0 0 0 0 (.slice none 0 0)) ∧ (OwnI w6 w.heap.size (.slice aov ws.length capv) ws ∧ OwnI w6 N ul lv ∧ OwnS w6 N v9 ([⟨#[97]⟩, t] ++ tx)) ∧ Below w.heap.size w w6 := fun w6 h => ⟨⟨TF.out.keep h.2.2 (by omega), RF.out.keep h.2.2 (by omega)⟩, ⟨OwnI_but VF.out h.2.2 VL.out, OwnI_but OL.out h.2.2 (fun k hk => by have := (OL.out.lt k hk).1; omega), OwnS_but OT.out h.2.2 (fun k hk => by have := (OT.out.lt k hk).1; omega)⟩, BF.out.trans (h.2.2.below (by omega) BF.out.size)⟩
          have FIN : Hid _ := fin
          clear fin
          go_wp2_with fail
          go_region_with (go_at_call 64; refine (place_any w9 _ w.heap.size gc n cap 6 ao hn (by omega) (by omega) (by omega) D5).mono ?_; rintro e w6 ⟨⟨u, rfl⟩, hd6⟩; obtain ⟨⟨T6, R6⟩, ⟨V6, L6, S6⟩, B6⟩ := FIN.out w6 hd6.out; obtain ⟨p0, p1, p2, p3, p4, p5⟩ := T6.cells; obtain ⟨c0, c1, c2, c3, c4, c5⟩ := R6.cells; have z0 := R6.frozen 0; have z1 := R6.frozen 1; have z2 := R6.frozen 2; have z3 := R6.frozen 3; have z4 := R6.frozen 4; have z5 := R6.frozen 5)
          all_goals
            have TU := tok_turn (w := w6) (g := w.heap.size) c r q a b (.slice aov ws.length capv)
            have G9 : Hid _ := And.intro (R6.agg c r q a b (.slice aov ws.length capv)) (And.intro (And.intro (own_tok V6 R6 TU) (And.intro (OwnI_turn L6 TU (fun k hk => by have := (L6.lt k hk).1; omega)) (OwnS_turn S6 TU (fun k hk => by have := (S6.lt k hk).1; omega)))) (B6.trans (TU.below (Nat.le_refl _))))
            clear T6 R6 V6 B6 L6 S6 TU
            try go_wp2_with fail
            obtain ⟨R9, ⟨O9, P9, Q9⟩, B9⟩ := G9.out
            clear G9
            generalize ((((((w6.setCell ⟨w.heap.size, 0, none⟩ (.int .i64 c)).setCell ⟨w.heap.size, 1, none⟩ (.int .i64 r)).setCell ⟨w.heap.size, 2, none⟩ (.int .i64 q)).setCell ⟨w.heap.size, 3, none⟩ (.int .i64 a)).setCell ⟨w.heap.size, 4, none⟩ (.int .i64 b)).setCell ⟨w.heap.size, 5, none⟩ (.slice aov ws.length capv)) = W9 at *
            obtain ⟨q0, q1, q2, q3, q4, q5⟩ := R9.cells
            refine bodyPost_ret (v := .tuple #[.agg #[.int .i64 c, .int .i64 r, .int .i64 q, .int .i64 a, .int .i64 b, (.slice aov ws.length capv)], .int .i64 u, ul, v9]) (by simp [results, Try.results19, go_sem, q0, q1, q2, q3, q4, q5]) rfl ?_
            exact ⟨c, r, q, a, b, ws, _, u, lv, _, ([⟨#[97]⟩, t] ++ tx), _, HW.out, HLV.out, HTX.out, O9, P9.down (by omega), Q9.down (by omega), rfl, B9⟩
  | true =>
    obtain ⟨t0, t1, t2, t3, t4, t5⟩ := TN.out.cells
    have f0 := TN.out.frozen 0
    have f1 := TN.out.frozen 1
    have f2 := TN.out.frozen 2
    have f3 := TN.out.frozen 3
    have f4 := TN.out.frozen 4
    have f5 := TN.out.frozen 5
    have TU := tok_turn (w := WN) (g := gB) 1 3 59 59 0 (.slice none 0 0)
    have TM : Hid (TokAt _ gB 1 3 59 59 0 (.slice none 0 0)) := TN.out.agg 1 3 59 59 0 (.slice none 0 0)
    have RM : Hid (TokAt _ w.heap.size 0 0 0 0 0 (.slice none 0 0)) := RN.out.turn TU (by omega)
    have BM : Hid (Below w.heap.size w _) := BN.out.trans (TU.below (by omega))
    have DM : Hid _ := drw_turn DN.out (by omega) TU (by omega)
    have SM : Hid (((((((WN.setCell ⟨gB, 0, none⟩ (.int .i64 1)).setCell ⟨gB, 1, none⟩ (.int .i64 3)).setCell ⟨gB, 2, none⟩ (.int .i64 59)).setCell ⟨gB, 3, none⟩ (.int .i64 59)).setCell ⟨gB, 4, none⟩ (.int .i64 0)).setCell ⟨gB, 5, none⟩ (.slice none 0 0)).heap.size = WN.heap.size) := TU.size
    clear TU TN RN BN DN VN VL hwl
    go_wp2_with fail
    generalize ((((((WN.setCell ⟨gB, 0, none⟩ (.int .i64 1)).setCell ⟨gB, 1, none⟩ (.int .i64 3)).setCell ⟨gB, 2, none⟩ (.int .i64 59)).setCell ⟨gB, 3, none⟩ (.int .i64 59)).setCell ⟨gB, 4, none⟩ (.int .i64 0)).setCell ⟨gB, 5, none⟩ (.slice none 0 0)) = WM at *
    clear t0 t1 t2 t3 t4 t5 f0 f1 f2 f3 f4 f5
    generalize WN.heap.size = SZ at *
    clear WN
    obtain ⟨WN, hWN⟩ : ∃ WN, WN = WM := ⟨_, rfl⟩
    subst hWN
    obtain ⟨ws, hws⟩ : ∃ ws : List Int, ws = [] := ⟨_, rfl⟩
    have TN : Hid (TokAt WN gB 1 3 59 59 0 (.slice none 0 0)) := TM
    have RN : Hid (TokAt WN w.heap.size 0 0 0 0 0 (.slice none 0 0)) := RM
    have BN : Hid (Below w.heap.size w WN) := BM
    have DN : Hid (Drw WN WN w.heap.size gc ao n cap) := DM
    have VN : Hid (OwnI WN w.heap.size (.slice none 0 0) ws) := by rw [hws]; exact ownI_nil _ _
    have VL : Hid (∀ k, (Value.slice none 0 0).ownBlock = some k → k ≠ gc) := fun k hk => by cases hk
    have HW : Hid (ws.length ≤ 13) := (by rw [hws]; exact Nat.zero_le _ : ws.length ≤ 13)
    have HSZ : Hid (WN.heap.size = SZ) := SM
    clear TM RM BM DM SM hws
    have hgN : gc < WN.heap.size := DN.out.lt
    have hBN : gB < WN.heap.size := TN.out.lt
    obtain ⟨N, hN⟩ : ∃ N, N = WN.heap.size := ⟨_, rfl⟩
    have HN : Hid (N = WN.heap.size) := hN
    have O0 : Hid (OwnI ((WN.alloc (.cells #[] 3)).alloc (.cells #[] 9)) N (.slice (some ⟨SZ, 0, none⟩) 0 0) []) := by
      have h := (OwnI.made WN N (by omega)).alloc (.cells #[] 9)
      rw [show (⟨WN.heap.size, 0, none⟩ : Addr) = ⟨SZ, 0, none⟩ by rw [HSZ.out]] at h
      exact h
    have S0 : Hid (OwnS ((WN.alloc (.cells #[] 3)).alloc (.cells #[] 9)) N (.slice (some ⟨SZ + 1, 0, none⟩) 0 0) []) := by
      have h := OwnS.made (WN.alloc (.cells #[] 3)) N (by simp; omega)
      rw [show (⟨(WN.alloc (.cells #[] 3)).heap.size, 0, none⟩ : Addr) = ⟨SZ + 1, 0, none⟩ by rw [← HSZ.out]; simp] at h
      exact h
    have b0 : Below WN.heap.size WN ((WN.alloc (.cells #[] 3)).alloc (.cells #[] 9)) := ((Below.refl _ _).alloc (Nat.le_refl _) _).alloc (by simp) _
    have D0 : Hid (Drw WN ((WN.alloc (.cells #[] 3)).alloc (.cells #[] 9)) w.heap.size gc ao n cap) := DN.out.push b0 hgN (by omega)
    have HT0 : Hid (∀ t ∈ ([] : List ByteArray), t.size ≤ 13) := by intro t ht; cases ht
    have HGN : Hid (gc < N ∧ gB < N) := ⟨by omega, by omega⟩
    clear b0 hN
    generalize (WN.alloc (.cells #[] 3)).alloc (.cells #[] 9) = WQ at *
    go_loopw [8, 9, 10] (fun ll tt ix wr => ∃ (k : Nat) (lv : List Int) (tx : List ByteArray), k ≤ 5 ∧ ix = .int .i64 k ∧ lv.length ≤ k ∧ tx.length ≤ k ∧ Hid (∀ t ∈ tx, t.size ≤ 13) ∧ Hid (OwnI wr N ll lv) ∧ Hid (OwnS wr N tt tx) ∧ Hid (Drw WN wr w.heap.size gc ao n cap)) (fun _ _ ix _ => 6 - (intOf ix).toNat)
    case atStart => exact ⟨0, [], [], by omega, rfl, by simp, by simp, HT0, O0, S0, D0⟩
    case round =>
      clear O0 S0 D0 HT0
      obtain ⟨k, lv, tx, hk5, rfl, hlv, htx, HT, OL, OT, DK⟩ := hrel
      obtain ⟨hgcN, hgBN⟩ := HGN.out
      obtain ⟨ul, hul⟩ : ∃ ul, ul = u8 := ⟨_, rfl⟩
      obtain ⟨ut, hut⟩ : ∃ ut, ut = u9 := ⟨_, rfl⟩
      subst hul
      subst hut
      go_wp2_with fail
      refine (below_small wr _ w.heap.size gc n cap 6 ao hn (by omega) (by omega) (by omega) DK.out.here).mono ?_
      rintro e w6 ⟨⟨x, hx, rfl⟩, hd6⟩
      replace OL : Hid (OwnI w6 N ul lv) := OwnI_but OL.out hd6.out.2.2 (fun j hj => by have := (OL.out.lt j hj).1; omega)
      replace OT : Hid (OwnS w6 N ut tx) := OwnS_but OT.out hd6.out.2.2 (fun j hj => by have := (OT.out.lt j hj).1; omega)
      replace DK : Hid (Drw WN w6 w.heap.size gc ao n cap) := DK.out.back hd6.out
      clear hd6
      by_cases hkx : k < x
      · have hkx' : (k : Int) < (x : Int) := by omega
        go_wp2_with fail
        refine (below_small w6 _ w.heap.size gc n cap 4 ao hn (by omega) (by omega) (by omega) DK.out.here).mono ?_
        rintro e w7 ⟨⟨y, hy, rfl⟩, hd7⟩
        replace OL : Hid (OwnI w7 N ul lv) := OwnI_but OL.out hd7.out.2.2 (fun j hj => by have := (OL.out.lt j hj).1; omega)
        replace OT : Hid (OwnS w7 N ut tx) := OwnS_but OT.out hd7.out.2.2 (fun j hj => by have := (OT.out.lt j hj).1; omega)
        replace DK : Hid (Drw WN w7 w.heap.size gc ao n cap) := DK.out.back hd7.out
        have hs7 : N ≤ w7.heap.size := by rw [HN.out]; exact DK.out.2.2.size
        have OL7 := OL.out
        clear hd7
        go_wp2_with (first | (at_builtin; refine wpList_pushG rfl _ _ 24 rfl Try.underlying24 Try.info3' N _ lv rfl OL7 _ rfl (by omega) hs7 ?_; intro v8 w8 hown8 hg8; have H8 : Hid (OwnI w8 N v8 (lv ++ [(y : Int)])) := hown8; have G8 : Hid (World.grownBy (w7.alloc (.cells #[.int .i64 (y : Int)] 3)) w8 ul.ownBlock) := hg8; clear hown8 hg8))
        have b7 : Below w7.heap.size w7 (w7.alloc (.cells #[.int .i64 (y : Int)] 3)) := (Below.refl _ _).alloc (Nat.le_refl _) _
        have OT7 := ownS_later OT.out b7
        have OT8 : Hid (OwnS w8 N ut tx) := ownS_kept OT7 G8.out (fun j hj he => int_text_ne OL7 OT.out j he.symm hj)
        have c8 : Below N w7 w8 := ((Below.refl N w7).alloc hs7 _).grown G8.out (by simp; omega) (fun j hj => (OL7.lt j hj).1)
        have D8 : Hid (Drw WN w8 w.heap.size gc ao n cap) := DK.out.push (by rw [← HN.out]; exact c8) hgN (by omega)
        clear OL OT DK OT7 b7 c8 G8 OL7
        refine (name_any w8 _ w.heap.size gc n cap ao hn (by omega) D8.out.here).mono ?_
        rintro e w9 ⟨⟨t, ht, rfl⟩, hd9⟩
        have OL9 : Hid (OwnI w9 N v8 (lv ++ [(y : Int)])) := OwnI_but H8.out hd9.out.2.2 (fun j hj => by have := (H8.out.lt j hj).1; omega)
        have OT9 := OwnS_but OT8.out hd9.out.2.2 (fun j hj => by have := (OT8.out.lt j hj).1; omega)
        have D9 : Hid (Drw WN w9 w.heap.size gc ao n cap) := D8.out.back hd9.out
        have hs9 : N ≤ w9.heap.size := by rw [HN.out]; exact D9.out.2.2.size
        clear hd9 D8 H8 OT8
        go_wp2_with (first | (at_builtin; refine wpList_pushSG rfl _ _ 35 rfl Try.underlying35 Try.info9 N _ tx rfl OT9 _ rfl (by omega) hs9 ?_; intro v10 w10 hown10 hg10; have H10 : Hid (OwnS w10 N v10 (tx ++ [t])) := hown10; have G10 : Hid (World.grownBy (w9.alloc (.cells #[.string t] 9)) w10 ut.ownBlock) := hg10; clear hown10 hg10))
        have b9 : Below w9.heap.size w9 (w9.alloc (.cells #[.string t] 9)) := (Below.refl _ _).alloc (Nat.le_refl _) _
        have OL10 : Hid (OwnI w10 N v8 (lv ++ [(y : Int)])) := (own_laterZ OL9.out b9).kept G10.out (fun j hj he => int_text_ne OL9.out OT9 j hj he.symm)
        have c10 : Below N w9 w10 := ((Below.refl N w9).alloc hs9 _).grown G10.out (by simp; omega) (fun j hj => (OT9.lt j hj).1)
        have D10 : Hid (Drw WN w10 w.heap.size gc ao n cap) := D9.out.push (by rw [← HN.out]; exact c10) hgN (by omega)
        have HT2 : Hid (∀ s ∈ tx ++ [t], s.size ≤ 13) := by
          intro s hs
          rcases List.mem_append.1 hs with h | h
          · exact HT.out s h
          · simp at h; rw [h]; exact ht
        clear OL9 OT9 D9 b9 c10 G10
        go_roundw
        case rel => exact ⟨k + 1, lv ++ [(y : Int)], tx ++ [t], by omega, by go_num, by simp; omega, by simp; omega, HT2, OL10, H10, D10⟩
        case measure => simp [intOf]; omega
      · have hkx' : ¬ (k : Int) < (x : Int) := by omega
        go_wp2_with fail
        refine (once_any w6 _ w.heap.size gc n cap 10 ao hn (by omega) (by omega) (by omega) DK.out.here).mono ?_
        rintro e w7 ⟨⟨b7, rfl⟩, hd7⟩
        replace OL : Hid (OwnI w7 N ul lv) := OwnI_but OL.out hd7.out.2.2 (fun j hj => by have := (OL.out.lt j hj).1; omega)
        replace OT : Hid (OwnS w7 N ut tx) := OwnS_but OT.out hd7.out.2.2 (fun j hj => by have := (OT.out.lt j hj).1; omega)
        replace DK : Hid (Drw WN w7 w.heap.size gc ao n cap) := DK.out.back hd7.out
        have HLV : Hid (lv.length ≤ 5) := Nat.le_trans hlv hk5
        clear hd7
        cases b7 with
        | false =>
          have DF := DK
          have HTX : Hid (tx.length ≤ 7 ∧ ∀ s ∈ tx, s.size ≤ 61) := ⟨by omega, fun s hs => by have := HT.out s hs; omega⟩
          clear DK
          have D5 : Hid (Drw w7 w7.drew w.heap.size gc ao n cap) := DF.out.here.out.drew
          have TF : Hid (TokAt w7 gB 1 3 59 59 0 (.slice none 0 0)) := TN.out.keep DF.out.2.2 (by omega)
          have RF : Hid (TokAt w7 w.heap.size 0 0 0 0 0 (.slice none 0 0)) := RN.out.keep DF.out.2.2 (by omega)
          have VF : Hid (OwnI w7 w.heap.size (.slice none 0 0) ws) := OwnI_but VN.out DF.out.2.2 VL.out
          have BF : Hid (Below w.heap.size w w7) := BN.out.trans (DF.out.2.2.below (by omega) BN.out.size)
          obtain ⟨t0, t1, t2, t3, t4, t5⟩ := TF.out.cells
          have fin : ∀ (w6 : World), Drw w7 w6 w.heap.size gc ao n cap → (TokAt w6 gB 1 3 59 59 0 (.slice none 0 0) ∧ TokAt w6 w.heap.size 0 0 0 0 0 (.slice none 0 0)) ∧ (OwnI w6 w.heap.size (.slice none 0 0) ws ∧ OwnI w6 N ul lv ∧ OwnS w6 N ut tx) ∧ Below w.heap.size w w6 := fun w6 h => ⟨⟨TF.out.keep h.2.2 (by omega), RF.out.keep h.2.2 (by omega)⟩, ⟨OwnI_but VF.out h.2.2 VL.out, OwnI_but OL.out h.2.2 (fun k hk => by have := (OL.out.lt k hk).1; omega), OwnS_but OT.out h.2.2 (fun k hk => by have := (OT.out.lt k hk).1; omega)⟩, BF.out.trans (h.2.2.below (by omega) BF.out.size)⟩
          have FIN : Hid _ := fin
          clear fin
          go_wp2_with fail
          go_region_with (go_at_call 64; refine (place_any w7 _ w.heap.size gc n cap 6 ao hn (by omega) (by omega) (by omega) D5).mono ?_; rintro e w6 ⟨⟨u, rfl⟩, hd6⟩; obtain ⟨⟨T6, R6⟩, ⟨V6, L6, S6⟩, B6⟩ := FIN.out w6 hd6.out; obtain ⟨p0, p1, p2, p3, p4, p5⟩ := T6.cells; obtain ⟨c0, c1, c2, c3, c4, c5⟩ := R6.cells; have z0 := R6.frozen 0; have z1 := R6.frozen 1; have z2 := R6.frozen 2; have z3 := R6.frozen 3; have z4 := R6.frozen 4; have z5 := R6.frozen 5)
          all_goals
            have TU := tok_turn (w := w6) (g := w.heap.size) 1 3 59 59 0 (.slice none 0 0)
            have G9 : Hid _ := And.intro (R6.agg 1 3 59 59 0 (.slice none 0 0)) (And.intro (And.intro (own_tok V6 R6 TU) (And.intro (OwnI_turn L6 TU (fun k hk => by have := (L6.lt k hk).1; omega)) (OwnS_turn S6 TU (fun k hk => by have := (S6.lt k hk).1; omega)))) (B6.trans (TU.below (Nat.le_refl _))))
            clear T6 R6 V6 B6 L6 S6 TU
            try go_wp2_with fail
            obtain ⟨R9, ⟨O9, P9, Q9⟩, B9⟩ := G9.out
            clear G9
            generalize ((((((w6.setCell ⟨w.heap.size, 0, none⟩ (.int .i64 1)).setCell ⟨w.heap.size, 1, none⟩ (.int .i64 3)).setCell ⟨w.heap.size, 2, none⟩ (.int .i64 59)).setCell ⟨w.heap.size, 3, none⟩ (.int .i64 59)).setCell ⟨w.heap.size, 4, none⟩ (.int .i64 0)).setCell ⟨w.heap.size, 5, none⟩ (.slice none 0 0)) = W9 at *
            obtain ⟨q0, q1, q2, q3, q4, q5⟩ := R9.cells
            refine bodyPost_ret (v := .tuple #[.agg #[.int .i64 1, .int .i64 3, .int .i64 59, .int .i64 59, .int .i64 0, (.slice none 0 0)], .int .i64 u, ul, ut]) (by simp [results, Try.results19, go_sem, q0, q1, q2, q3, q4, q5]) rfl ?_
            exact ⟨1, 3, 59, 59, 0, ws, _, u, lv, _, tx, _, HW.out, HLV.out, HTX.out, O9, P9.down (by omega), Q9.down (by omega), rfl, B9⟩
        | true =>
          go_wp2_with fail
          refine (long_any 61 w7 (by omega)).mono ?_
          rintro e w8 ⟨⟨t, ht, rfl⟩, hb8⟩
          have OL8 := own_laterZ OL.out hb8
          have OT8 := ownS_later OT.out hb8
          have D8 : Drw WN w8 w.heap.size gc ao n cap := DK.out.step (by omega) hb8
          have hs8 : N ≤ w8.heap.size := by rw [HN.out]; exact D8.2.2.size
          have OD : Hid (OwnS (w8.alloc (.cells #[.string ⟨#[97]⟩, .string t] 9)) w8.heap.size (.slice (some ⟨w8.heap.size, 0, none⟩) 2 2) [⟨#[97]⟩, t]) := OwnS.lit w8 w8.heap.size [⟨#[97]⟩, t] (Nat.le_refl _) (by simp)
          have b8 : Below w8.heap.size w8 (w8.alloc (.cells #[.string ⟨#[97]⟩, .string t] 9)) := (Below.refl _ _).alloc (Nat.le_refl _) _
          have OT8a := ownS_later OT8 b8
          have OL8a := own_laterZ OL8 b8
          have hsa : w8.heap.size ≤ (w8.alloc (.cells #[.string ⟨#[97]⟩, .string t] 9)).heap.size := by simp
          have hln : [(⟨#[97]⟩ : ByteArray), t].length + tx.length < 4000000 := by simp; omega
          clear hb8 OL OT DK
          go_wp2_with (first | (at_builtin; refine wpList_catS rfl _ _ 35 rfl Try.underlying35 Try.info9 w8.heap.size _ [⟨#[97]⟩, t] rfl OD.out N _ tx rfl OT8a hln hsa ?_; intro v9 w9 hown9 hg9; have H9 : Hid (OwnS w9 w8.heap.size v9 ([⟨#[97]⟩, t] ++ tx)) := hown9; have G9a : Hid (World.grownBy (w8.alloc (.cells #[.string ⟨#[97]⟩, .string t] 9)) w9 (some w8.heap.size)) := hg9; refine Stp.here ?_))
          refine Stp.go ?_
          have OL : Hid (OwnI w9 N ul lv) := OL8a.kept G9a.out (fun j hj he => by have := (OL8.lt j hj).2; simp at he; omega)
          have OT : Hid (OwnS w9 N v9 ([⟨#[97]⟩, t] ++ tx)) := H9.out.down hs8
          have c9 : Below N w8 w9 := ((Below.refl N w8).alloc hs8 _).grown G9a.out (by simp; omega) (fun j hj => by simp at hj; omega)
          have DF : Hid (Drw WN w9 w.heap.size gc ao n cap) := Drw.push D8 (by rw [← HN.out]; exact c9) hgN (by omega)
          have HTX : Hid (([⟨#[97]⟩, t] ++ tx).length ≤ 7 ∧ ∀ s ∈ [⟨#[97]⟩, t] ++ tx, s.size ≤ 61) := by
            refine ⟨by simp; omega, fun s hs => ?_⟩
            rcases List.mem_append.1 hs with h | h
            · simp at h
              rcases h with rfl | rfl
              · decide
              · omega
            · have := HT.out s h; omega
          clear OD b8 OT8a OL8a OL8 OT8 D8 H9 G9a c9 hown9 hg9
          have D5 : Hid (Drw w9 w9.drew w.heap.size gc ao n cap) := DF.out.here.out.drew
          have TF : Hid (TokAt w9 gB 1 3 59 59 0 (.slice none 0 0)) := TN.out.keep DF.out.2.2 (by omega)
          have RF : Hid (TokAt w9 w.heap.size 0 0 0 0 0 (.slice none 0 0)) := RN.out.keep DF.out.2.2 (by omega)
          have VF : Hid (OwnI w9 w.heap.size (.slice none 0 0) ws) := OwnI_but VN.out DF.out.2.2 VL.out
          have BF : Hid (Below w.heap.size w w9) := BN.out.trans (DF.out.2.2.below (by omega) BN.out.size)
          obtain ⟨t0, t1, t2, t3, t4, t5⟩ := TF.out.cells
          have fin : ∀ (w6 : World), Drw w9 w6 w.heap.size gc ao n cap → (TokAt w6 gB 1 3 59 59 0 (.slice none 0 0) ∧ TokAt w6 w.heap.size 0 0 0 0 0 (.slice none 0 0)) ∧ (OwnI w6 w.heap.size (.slice none 0 0) ws ∧ OwnI w6 N ul lv ∧ OwnS w6 N v9 ([⟨#[97]⟩, t] ++ tx)) ∧ Below w.heap.size w w6 := fun w6 h => ⟨⟨TF.out.keep h.2.2 (by omega), RF.out.keep h.2.2 (by omega)⟩, ⟨OwnI_but VF.out h.2.2 VL.out, OwnI_but OL.out h.2.2 (fun k hk => by have := (OL.out.lt k hk).1; omega), OwnS_but OT.out h.2.2 (fun k hk => by have := (OT.out.lt k hk).1; omega)⟩, BF.out.trans (h.2.2.below (by omega) BF.out.size)⟩
          have FIN : Hid _ := fin
          clear fin
          go_wp2_with fail
          go_region_with (go_at_call 64; refine (place_any w9 _ w.heap.size gc n cap 6 ao hn (by omega) (by omega) (by omega) D5).mono ?_; rintro e w6 ⟨⟨u, rfl⟩, hd6⟩; obtain ⟨⟨T6, R6⟩, ⟨V6, L6, S6⟩, B6⟩ := FIN.out w6 hd6.out; obtain ⟨p0, p1, p2, p3, p4, p5⟩ := T6.cells; obtain ⟨c0, c1, c2, c3, c4, c5⟩ := R6.cells; have z0 := R6.frozen 0; have z1 := R6.frozen 1; have z2 := R6.frozen 2; have z3 := R6.frozen 3; have z4 := R6.frozen 4; have z5 := R6.frozen 5)
          all_goals
            have TU := tok_turn (w := w6) (g := w.heap.size) 1 3 59 59 0 (.slice none 0 0)
            have G9 : Hid _ := And.intro (R6.agg 1 3 59 59 0 (.slice none 0 0)) (And.intro (And.intro (own_tok V6 R6 TU) (And.intro (OwnI_turn L6 TU (fun k hk => by have := (L6.lt k hk).1; omega)) (OwnS_turn S6 TU (fun k hk => by have := (S6.lt k hk).1; omega)))) (B6.trans (TU.below (Nat.le_refl _))))
            clear T6 R6 V6 B6 L6 S6 TU
            try go_wp2_with fail
            obtain ⟨R9, ⟨O9, P9, Q9⟩, B9⟩ := G9.out
            clear G9
            generalize ((((((w6.setCell ⟨w.heap.size, 0, none⟩ (.int .i64 1)).setCell ⟨w.heap.size, 1, none⟩ (.int .i64 3)).setCell ⟨w.heap.size, 2, none⟩ (.int .i64 59)).setCell ⟨w.heap.size, 3, none⟩ (.int .i64 59)).setCell ⟨w.heap.size, 4, none⟩ (.int .i64 0)).setCell ⟨w.heap.size, 5, none⟩ (.slice none 0 0)) = W9 at *
            obtain ⟨q0, q1, q2, q3, q4, q5⟩ := R9.cells
            refine bodyPost_ret (v := .tuple #[.agg #[.int .i64 1, .int .i64 3, .int .i64 59, .int .i64 59, .int .i64 0, (.slice none 0 0)], .int .i64 u, ul, v9]) (by simp [results, Try.results19, go_sem, q0, q1, q2, q3, q4, q5]) rfl ?_
            exact ⟨1, 3, 59, 59, 0, ws, _, u, lv, _, ([⟨#[97]⟩, t] ++ tx), _, HW.out, HLV.out, HTX.out, O9, P9.down (by omega), Q9.down (by omega), rfl, B9⟩
end Go.Proofs.Ytnhnpneedcjcfaa
