/- The law on Spread. -/
import Derived.Test.YtlfgglmgajcpoaaSb
import Derived.Test.YtlfgglmgajcpoaaSt
namespace Go.Proofs.Ytlfgglmgajcpoaa
open Go.RowKit Pl
set_option linter.unusedVariables false

theorem spreadH_le (n : Int) (ts : List Rd) (s : Int) (ls : List (List Int)) : (spreadH n ts s ls).length ≤ 6 := by
  unfold spreadH
  split
  · simp
  · have := ascOf_len (trees n ts s).length (had (trees n ts s) ls s (trees n ts s).length)
    have := trees_le n ts s
    omega

set_option maxRecDepth 100000 in
set_option maxHeartbeats 8000000 in
theorem lawSpread (n : Int) (ao : Option Addr) (cap : Nat) (ts : List Rd) (s : Int) (lo : Option Addr) (lc : Nat) (ls : List (List Int)) (w : World) (hx : Hid (RoadsAt w ao ts)) (hl : ts.length ≤ maxLen) (hy : Hid (LsAt w lo ls)) (hl3 : ls.length ≤ maxLen) :
    Calls Try.prog 8 #[.int .i64 n, .slice ao ts.length cap, .int .i64 s, .slice lo ls.length lc] w fun e w' => e = .returned (.bool true) ∧ Below w.heap.size w w' := by
  unfold maxLen at hl hl3
  have HDL : Hid ((spreadH n ts s ls).length ≤ 6) := spreadH_le n ts s ls
  obtain ⟨D, hD⟩ : ∃ D, D = spreadH n ts s ls := ⟨_, rfl⟩
  obtain ⟨Z, hZ⟩ : ∃ Z, Z = spreadN n ts s ls := ⟨_, rfl⟩
  have HD : Hid (D = spreadH n ts s ls) := hD
  have HZ : Hid (Z = spreadN n ts s ls) := hZ
  rw [← hD] at HDL
  clear hD hZ
  go_enter Try.func8, Try.ntmps8
  go_wp2_with fail
  refine (szRoads_bd ao ts.length cap w (by omega)).mono ?_
  rintro e w1 ⟨rfl | ⟨z, rfl, hl2, hzb⟩, hw⟩
  · obtain rfl := hw.symm
    go_wp2_with fail
    go_ret
    exact ⟨rfl, Below.refl _ _⟩
  obtain rfl := hw.symm
  have hz : decide ((z : Int) < 0) = false := by simp
  clear hl hw
  go_wp2_with fail
  refine (szSs_any lo lc z ls w hy (by omega) hzb).mono ?_
  rintro e w1 ⟨rfl | ⟨z1, rfl, hl4, hlm⟩, hw⟩
  · obtain rfl := hw.symm
    clear hw
    go_wp2_with fail
    go_ret
    exact ⟨rfl, Below.refl _ _⟩
  obtain rfl := hw.symm
  have hz1 : decide ((z1 : Int) < 0) = false := by simp
  have HLM : Hid (∀ l ∈ ls, l.length ≤ 1048576) := hlm
  clear hl3 hw hlm hz hzb
  go_wp2_with fail
  refine (toRoads_any w ao cap ts hx hl2).mono ?_
  rintro e w2 ⟨g2, rfl, hg2, Y2, B2⟩
  have Y2 : Hid (RoadsAt w2 (some ⟨g2, 0, none⟩) ts) := Y2.roads
  have L2 : Hid (LsAt w2 lo ls) := hy.out.stays B2
  clear hg2
  go_wp2_with fail
  refine (toSs_any w2 lo lc ls L2 hl4 HLM).mono ?_
  rintro e w3 ⟨h3, rfl, hh3, R3, b3⟩
  have B3 : Below w.heap.size w w3 := B2.trans (b3.mono B2.size)
  have Y3 : Hid (RoadsAt w3 (some ⟨g2, 0, none⟩) ts) := Y2.out.stays b3
  have M3 : Hid (LsAt w3 (some ⟨h3, 0, none⟩) ls) := R3.ls rfl HLM.out
  clear Y2 L2 B2 b3 R3 hh3
  go_wp2_with fail
  refine (spSpread_any n s (some ⟨g2, 0, none⟩) (some ⟨h3, 0, none⟩) ts.length ls.length ts ls w3 Y3 hl2 M3 hl4).mono ?_
  rintro e w4 ⟨⟨v0, rfl, O4⟩, b4⟩
  rw [← HD.out] at O4
  rw [← HZ.out]
  have B4 : Below w.heap.size w w4 := B3.trans (b4.mono B3.size)
  have X4 : Hid (RoadsAt w4 ao ts) := hx.out.stays B4
  have O4 : Hid (OwnI w4 w3.heap.size v0 D) := O4
  have s4 : w.heap.size ≤ w4.heap.size := B4.size
  clear b4 Y3 M3 B3
  go_wp2_with fail
  refine (toRoads_any w4 ao cap ts X4 hl2).mono ?_
  rintro e w5 ⟨g5, rfl, hg5, Y5, b5⟩
  have B5 : Below w.heap.size w w5 := B4.trans (b5.mono B4.size)
  have R5 : Hid (RowRd w5 g5 ts.length ts ts.length) := Y5
  have O5 : Hid (OwnI w5 w3.heap.size v0 D) := O4.out.stays b5 (fun k hk => (O4.out.lt k hk).2)
  have L5 : Hid (∀ k, v0.ownBlock = some k → k < g5) := fun k hk => by have := (O4.out.lt k hk).2; omega
  have M5 : Hid (LsAt w5 lo ls) := hy.out.stays B5
  clear b5 X4 B4 O4 Y5
  go_wp2_with fail
  refine (toSs_any w5 lo lc ls M5 hl4 HLM).mono ?_
  rintro e w6 ⟨h6, rfl, hh6, T6, b6⟩
  have B6 : Below w.heap.size w w6 := B5.trans (b6.mono B5.size)
  have G5 : g5 < h6 := by have := R5.out.lt; omega
  have R6 : Hid (RowRd w6 g5 ts.length ts ts.length) := R5.out.stays b6 R5.out.lt
  have Y6 : Hid (RoadsAt w6 (some ⟨g5, 0, none⟩) ts) := R6.out.roads
  have O6 : Hid (OwnI w6 w3.heap.size v0 D) := O5.out.stays b6 (fun k hk => (O5.out.lt k hk).2)
  have T6 : Hid (RowSs w6 h6 w6.heap.size ls.length ls ls.length) := T6
  have M6 : Hid (LsAt w6 (some ⟨h6, 0, none⟩) ls) := T6.out.ls rfl HLM.out
  have H6 : h6 < w6.heap.size := T6.out.lt
  clear b6 M5 B5 O5 R5 hh6
  go_wp2_with fail
  refine (spread_any n s (some ⟨g5, 0, none⟩) (some ⟨h6, 0, none⟩) ts.length ls.length ts ls w6 Y6 hl2 M6 hl4).mono ?_
  rintro e w7 ⟨⟨v1, rfl, Q7⟩, b7, _⟩
  rw [← HD.out] at Q7
  rw [← HZ.out]
  have B7 : Below w.heap.size w w7 := B6.trans (b7.mono B6.size)
  have Q7 : Hid (OwnI w7 w6.heap.size v1 D) := Q7
  have O7 : Hid (OwnI w7 w3.heap.size v0 D) := O6.out.stays b7 (fun k hk => (O6.out.lt k hk).2)
  have R7 : Hid (RowRd w7 g5 ts.length ts ts.length) := R6.out.stays b7 R6.out.lt
  have T7 : Hid (RowSs w7 h6 w6.heap.size ls.length ls ls.length) := T6.out.below b7
  clear b7 Y6 M6 B6 O6 R6 T6
  go_wp2_with fail
  refine (eqI_same v1 v0 D _ _ w7 Q7.out O7.out (by have := HDL.out; omega)).mono ?_
  rintro e w8 ⟨rfl, b8⟩
  have B8 : Below w.heap.size w w8 := B7.trans (b8.mono B7.size)
  have Q8 : Hid (OwnI w8 w6.heap.size v1 D) := Q7.out.stays b8 (fun k hk => (Q7.out.lt k hk).2)
  have O8 : Hid (OwnI w8 w3.heap.size v0 D) := O7.out.stays b8 (fun k hk => (O7.out.lt k hk).2)
  have R8 : Hid (RowRd w8 g5 ts.length ts ts.length) := R7.out.stays b8 R7.out.lt
  have T8 : Hid (RowSs w8 h6 w6.heap.size ls.length ls ls.length) := T7.out.below b8
  have X8 : Hid (RoadsAt w8 ao ts) := hx.out.stays B8
  clear b8 Q7 O7 R7 T7 B7
  go_wp2_with fail
  refine (toRoads_any w8 ao cap ts X8 hl2).mono ?_
  rintro e w9 ⟨g9, rfl, hg9, Y9, b9⟩
  have B9 : Below w.heap.size w w9 := B8.trans (b9.mono B8.size)
  have Y9 : Hid (RoadsAt w9 (some ⟨g9, 0, none⟩) ts) := Y9.roads
  have Q9 : Hid (OwnI w9 w6.heap.size v1 D) := Q8.out.stays b9 (fun k hk => (Q8.out.lt k hk).2)
  have O9 : Hid (OwnI w9 w3.heap.size v0 D) := O8.out.stays b9 (fun k hk => (O8.out.lt k hk).2)
  have R9 : Hid (RowRd w9 g5 ts.length ts ts.length) := R8.out.stays b9 R8.out.lt
  have Z9 : Hid (RoadsAt w9 (some ⟨g5, 0, none⟩) ts) := R9.out.roads
  have T9 : Hid (RowSs w9 h6 w6.heap.size ls.length ls ls.length) := T8.out.below b9
  clear b9 Q8 O8 R8 T8 X8 B8 hg9
  go_wp2_with fail
  refine (eqRoads_same (some ⟨g5, 0, none⟩) (some ⟨g9, 0, none⟩) ts.length ts.length ts w9 Z9 Y9 hl2).mono ?_
  rintro e wa ⟨rfl, ba⟩
  have Ba : Below w.heap.size w wa := B9.trans (ba.mono B9.size)
  have Qa : Hid (OwnI wa w6.heap.size v1 D) := Q9.out.stays ba (fun k hk => (Q9.out.lt k hk).2)
  have Oa : Hid (OwnI wa w3.heap.size v0 D) := O9.out.stays ba (fun k hk => (O9.out.lt k hk).2)
  have Ra : Hid (RowRd wa g5 ts.length ts ts.length) := R9.out.stays ba R9.out.lt
  have Ta : Hid (RowSs wa h6 w6.heap.size ls.length ls ls.length) := T9.out.below ba
  have Ma : Hid (LsAt wa lo ls) := hy.out.stays Ba
  clear ba Q9 O9 R9 T9 Y9 Z9 B9
  go_wp2_with fail
  refine (toSs_any wa lo lc ls Ma hl4 HLM).mono ?_
  rintro e wb ⟨hb0, rfl, hhb, Ub, bb⟩
  have Bb : Below w.heap.size w wb := Ba.trans (bb.mono Ba.size)
  have Qb : Hid (OwnI wb w6.heap.size v1 D) := Qa.out.stays bb (fun k hk => (Qa.out.lt k hk).2)
  have Ob : Hid (OwnI wb w3.heap.size v0 D) := Oa.out.stays bb (fun k hk => (Oa.out.lt k hk).2)
  have Rb : Hid (RowRd wb g5 ts.length ts ts.length) := Ra.out.stays bb Ra.out.lt
  have Tb : Hid (RowSs wb h6 w6.heap.size ls.length ls ls.length) := Ta.out.below bb
  have Ub : Hid (RowSs wb hb0 wb.heap.size ls.length ls ls.length) := Ub
  clear bb Qa Oa Ra Ta Ma Ba hhb
  go_wp2_with fail
  refine (eqSs_same h6 hb0 _ _ ls.length ls wb Tb Ub rfl hl4 HLM).mono ?_
  rintro e wc ⟨rfl, m, hwc⟩
  have bc : Below wb.heap.size wb wc := by rw [hwc]; exact below_drewN (Below.refl _ _) _
  have Bc : Below w.heap.size w wc := Bb.trans (bc.mono Bb.size)
  have Qc : Hid (OwnI wc w6.heap.size v1 D) := Qb.out.stays bc (fun k hk => (Qb.out.lt k hk).2)
  have Oc : Hid (OwnI wc w3.heap.size v0 D) := Ob.out.stays bc (fun k hk => (Ob.out.lt k hk).2)
  have Tc : Hid (RowSs wc h6 w6.heap.size ls.length ls ls.length) := Tb.out.below bc
  have Rc : Hid (RowRd wc g5 ts.length ts 0) := by
    obtain ⟨arr, x1, x2, x3⟩ := Rb.out.stays bc Rb.out.lt
    exact ⟨arr, x1, x2, fun i _ h => absurd h (by omega)⟩
  clear bc Qb Ob Rb Tb Ub Bb hwc
  go_wp2_with fail
  refine (markRoads_bd g5 ts.length 1 ts wc Rc hl2 (by omega) (by omega)).mono ?_
  rintro e wd ⟨⟨K, rfl, hK, hK0⟩, Gd⟩
  have sc := Bc.size
  have Bd : Below w.heap.size w wd := Bc.grown Gd Bc.size (fun k hk => by simp at hk; omega)
  have Qd : Hid (OwnI wd w6.heap.size v1 D) := ownI_grown Qc.out Gd (fun k hk he => by have := (Qc.out.lt k hk).1; simp at he; omega)
  have Od : Hid (OwnI wd w3.heap.size v0 D) := ownI_grown Oc.out Gd (fun k hk he => by have := L5.out k hk; simp at he; omega)
  have Td : Hid (RowSs wd h6 w6.heap.size ls.length ls ls.length) := Tc.out.gr (S := fun k => k = g5) (Gr.ofGrown Gd (fun k hk => by simpa using hk.symm)) (fun b h1 h2 he => by omega) H6
  clear Qc Oc Tc Rc Gd Bc sc
  go_wp2_with fail
  refine (markSs_any h6 w6.heap.size ls.length K ls wd Td rfl hl4 HLM hK0 hK).mono ?_
  rintro e we ⟨⟨z9, rfl⟩, Ge⟩
  have Be : Below w.heap.size w we := Bd.trans (Ge.below (fun k hk => by omega) Bd.size)
  have Qe : Hid (OwnI we w6.heap.size v1 D) := Qd.out.gr Ge (fun k hk he => by have := (Qd.out.lt k hk).1; omega)
  have Oe : Hid (OwnI we w3.heap.size v0 D) := Od.out.gr Ge (fun k hk he => by have := L5.out k hk; omega)
  have hz9 : decide ((z9 : Int) < 0) = false := by simp
  clear Qd Od Td Ge Bd hK hK0
  go_wp2_with fail
  refine (eqI_same v1 v0 D _ _ we Qe.out Oe.out (by have := HDL.out; omega)).mono ?_
  rintro e wf ⟨rfl, bf⟩
  have Bf : Below w.heap.size w wf := Be.trans (bf.mono Be.size)
  have Qf : Hid (OwnI wf w6.heap.size v1 D) := Qe.out.stays bf (fun k hk => (Qe.out.lt k hk).2)
  have Of : Hid (OwnI wf w3.heap.size v0 D) := Oe.out.stays bf (fun k hk => (Oe.out.lt k hk).2)
  clear bf Qe Oe Be
  go_wp2_with fail
  refine (markI_any v1 D w6.heap.size 1 wf Qf.out (by have := HDL.out; omega) (by omega)).mono ?_
  rintro e wg ⟨rfl, Qg, Gg⟩
  have Qg : Hid (OwnI wg w6.heap.size v1 (marks 1 D.length)) := Qg
  have Og : Hid (OwnI wg w3.heap.size v0 D) := ownI_grown Of.out Gg (fun k hk he => by have := L5.out k hk; have := (Qf.out.lt k he.symm).1; omega)
  have sf := Bf.size
  have Bg : Below w.heap.size w wg := Bf.grown Gg Bf.size (fun k hk => by have := (Qf.out.lt k hk).1; omega)
  clear Qf Of Gg Bf hz9 sf
  obtain ⟨M, hM⟩ : ∃ M, M = D.length := ⟨_, rfl⟩
  rw [← hM] at Qg
  have HM : Hid (M = D.length) := hM
  have hM6 : M ≤ 6 := by have := HDL.out; omega
  rw [← hM]
  clear hM
  go_wp2_with fail
  refine (heldI_any v1 M w6.heap.size 1 wg Qg.out (by omega) (by omega)).mono ?_
  rintro e wh ⟨rfl, hwh⟩
  obtain rfl := hwh.symm
  have hd1 : ¬ (((1 + M : Nat) : Int) < 0) := by omega
  have Xg : Hid (RoadsAt wg ao ts) := hx.out.stays Bg
  clear hwh
  go_wp2_with fail
  refine (toRoads_any wg ao cap ts Xg hl2).mono ?_
  rintro e wi ⟨gi, rfl, hgi, Yi, bi⟩
  have Bi : Below w.heap.size w wi := Bg.trans (bi.mono Bg.size)
  have Yi : Hid (RoadsAt wi (some ⟨gi, 0, none⟩) ts) := Yi.roads
  have Qi : Hid (OwnI wi w6.heap.size v1 (marks 1 M)) := Qg.out.stays bi (fun k hk => (Qg.out.lt k hk).2)
  have Oi : Hid (OwnI wi w3.heap.size v0 D) := Og.out.stays bi (fun k hk => (Og.out.lt k hk).2)
  have Mi : Hid (LsAt wi lo ls) := hy.out.stays Bi
  clear bi Qg Og Xg Bg hgi
  go_wp2_with fail
  refine (toSs_any wi lo lc ls Mi hl4 HLM).mono ?_
  rintro e wj ⟨hj0, rfl, hhj, Tj, bj⟩
  have Bj : Below w.heap.size w wj := Bi.trans (bj.mono Bi.size)
  have Yj : Hid (RoadsAt wj (some ⟨gi, 0, none⟩) ts) := Yi.out.stays bj
  have Qj : Hid (OwnI wj w6.heap.size v1 (marks 1 M)) := Qi.out.stays bj (fun k hk => (Qi.out.lt k hk).2)
  have Oj : Hid (OwnI wj w3.heap.size v0 D) := Oi.out.stays bj (fun k hk => (Oi.out.lt k hk).2)
  have Mj : Hid (LsAt wj (some ⟨hj0, 0, none⟩) ls) := Tj.ls rfl HLM.out
  clear bj Qi Oi Yi Mi Bi hhj Tj
  go_wp2_with fail
  refine (spread_any n s (some ⟨gi, 0, none⟩) (some ⟨hj0, 0, none⟩) ts.length ls.length ts ls wj Yj hl2 Mj hl4).mono ?_
  rintro e wk ⟨⟨v2, rfl, Pk⟩, bk, _⟩
  rw [← HD.out] at Pk
  rw [← HZ.out]
  have Bk : Below w.heap.size w wk := Bj.trans (bk.mono Bj.size)
  have Pk : Hid (OwnI wk wj.heap.size v2 D) := Pk
  have Qk : Hid (OwnI wk w6.heap.size v1 (marks 1 M)) := Qj.out.stays bk (fun k hk => (Qj.out.lt k hk).2)
  have Ok : Hid (OwnI wk w3.heap.size v0 D) := Oj.out.stays bk (fun k hk => (Oj.out.lt k hk).2)
  clear bk Qj Oj Yj Mj Bj
  go_wp2_with fail
  refine (eqI_same v2 v0 D _ _ wk Pk.out Ok.out (by have := HDL.out; omega)).mono ?_
  rintro e wl ⟨rfl, bl⟩
  have Bl : Below w.heap.size w wl := Bk.trans (bl.mono Bk.size)
  have Ql : Hid (OwnI wl w6.heap.size v1 (marks 1 M)) := Qk.out.stays bl (fun k hk => (Qk.out.lt k hk).2)
  clear bl Pk Qk Ok Bk
  go_wp2_with fail
  refine (heldI_any v1 M w6.heap.size 1 wl Ql.out (by omega) (by omega)).mono ?_
  rintro e wm ⟨rfl, hwm⟩
  obtain rfl := hwm.symm
  clear hwm
  go_wp2_with fail
  go_ret
  exact ⟨rfl, Bl⟩
end Go.Proofs.Ytlfgglmgajcpoaa
