/- The law on Mark. -/
import Derived.Test.YtnhnpneedcjcfaaMq
import Derived.Test.YtnhnpneedcjcfaaLr
import Derived.Test.YtnhnpneedcjcfaaLb
namespace Go.Proofs.Ytnhnpneedcjcfaa
open Go.RowKit Pl
set_option linter.unusedVariables false

set_option maxRecDepth 100000 in
set_option maxHeartbeats 4000000 in
theorem lawMark (c r q a b : Int) (ao : Option Addr) (cap : Nat) (ws : List Int) (d u : Int) (w : World) (hx : IntsAt w ao ws) (hl : ws.length ≤ maxLen) :
    Calls Try.prog 10 #[.agg #[.int .i64 c, .int .i64 r, .int .i64 q, .int .i64 a, .int .i64 b, .slice ao ws.length cap], .int .i64 d, .int .i64 u] w fun e w' => e = .returned (.bool true) ∧ Below w.heap.size w w' := by
  unfold maxLen at hl
  by_cases hl1 : 1048576 < ws.length
  · go_enter Try.func10, Try.ntmps10
    go_wp2_with fail
    refine (szTok_long c r q a b ao ws.length cap _ hl1 (by omega)).mono ?_
    rintro e w1 ⟨rfl, hb1⟩
    go_wp2_with fail
    go_ret
    exact ⟨rfl, ((Below.refl _ _).alloc (Nat.le_refl _) _).trans (hb1.mono (by simp))⟩
  have hl2 : ws.length ≤ 1048576 := by omega
  clear hl hl1
  obtain ⟨WS, hWS⟩ : ∃ WS : List Int, WS = ws := ⟨_, rfl⟩
  obtain ⟨C, hC⟩ : ∃ C : Int, C = c := ⟨_, rfl⟩
  obtain ⟨R, hR⟩ : ∃ R : Int, R = r := ⟨_, rfl⟩
  obtain ⟨Q, hQ⟩ : ∃ Q : Int, Q = q := ⟨_, rfl⟩
  obtain ⟨A, hA⟩ : ∃ A : Int, A = markA c r q a b ws d u := ⟨_, rfl⟩
  obtain ⟨D, hD⟩ : ∃ D : Int, D = markD c r q a b ws d u := ⟨_, rfl⟩
  have hlW : WS.length ≤ 1048576 := by rw [hWS]; exact hl2
  have SPC : Hid (∀ (u0 : Value) (k : Nat) (W : World), Hid (OwnI W k u0 ws) → Calls Try.prog 26 #[.agg #[.int .i64 c, .int .i64 r, .int .i64 q, .int .i64 a, .int .i64 b, u0], .int .i64 d, .int .i64 u] W fun e w' => ∃ v, e = .returned (.agg #[.int .i64 C, .int .i64 R, .int .i64 Q, .int .i64 A, .int .i64 D, v]) ∧ OwnI w' W.heap.size v WS ∧ Below W.heap.size W w') := fun u0 k W h => by rw [hC, hR, hQ, hA, hD, hWS]; exact spMark_any c r q a b d u u0 ws k W h hl2
  have IMP : Hid (∀ (u0 : Value) (k : Nat) (W : World), Hid (OwnI W k u0 ws) → Calls Try.prog 25 #[.agg #[.int .i64 c, .int .i64 r, .int .i64 q, .int .i64 a, .int .i64 b, u0], .int .i64 d, .int .i64 u] W fun e w' => ∃ v, e = .returned (.agg #[.int .i64 C, .int .i64 R, .int .i64 Q, .int .i64 A, .int .i64 D, v]) ∧ OwnI w' W.heap.size v WS ∧ Below W.heap.size W w') := fun u0 k W h => by rw [hC, hR, hQ, hA, hD, hWS]; exact mark_any c r q a b d u u0 ws k W h hl2
  clear hWS hC hR hQ hA hD
  have H0 : Hid (LtokAt (w.alloc (.cells #[.int .i64 c, .int .i64 r, .int .i64 q, .int .i64 a, .int .i64 b, .slice ao ws.length cap] 55)) w.heap.size c r q a b (.slice ao ws.length cap)) := heap_alloc_new w _
  have HB0 : Hid (Below w.heap.size w (w.alloc (.cells #[.int .i64 c, .int .i64 r, .int .i64 q, .int .i64 a, .int .i64 b, .slice ao ws.length cap] 55))) := (Below.refl _ _).alloc (Nat.le_refl _) _
  have HX0 : Hid (IntsAt (w.alloc (.cells #[.int .i64 c, .int .i64 r, .int .i64 q, .int .i64 a, .int .i64 b, .slice ao ws.length cap] 55)) ao ws) := hx.stays HB0.out
  clear hx
  go_enter Try.func10, Try.ntmps10
  go_wp2_with fail
  generalize w.alloc (.cells #[.int .i64 c, .int .i64 r, .int .i64 q, .int .i64 a, .int .i64 b, .slice ao ws.length cap] 55) = W0 at *
  have hN : w.heap.size < W0.heap.size := (Array.getElem?_eq_some_iff.1 H0.out).1
  refine (szTok_any c r q a b ao ws.length cap _ hl2).mono ?_
  rintro e w1 ⟨rfl, B1⟩
  have hz : decide (((1048576 - ws.length : Nat) : Int) < 0) = false := by simp
  obtain ⟨l0, l1, l2, l3, l4, l5⟩ := (H0.out.stays B1 hN).cells
  have X1 : Hid (IntsAt w1 ao ws) := HX0.out.stays B1
  go_wp2_with fail
  refine (toTok_any c r q a b ao cap ws _ X1 hl2).mono ?_
  rintro e w2 ⟨v2, rfl, hv2, hb2⟩
  have B2 : Below W0.heap.size W0 w2 := bl_next B1 hb2
  have X2 : Hid (OwnI w2 w1.heap.size v2 ws) := hv2
  clear hb2 hv2 X1 l0 l1 l2 l3 l4 l5 B1
  go_wp2_with fail
  refine (SPC.out v2 _ _ X2).mono ?_
  rintro e w3 ⟨vS, rfl, hvS, hb3⟩
  have B3 : Below W0.heap.size W0 w3 := bl_next B2 hb3
  obtain ⟨aoS, capS, hfS⟩ := hvS.form
  subst hfS
  have KB : Hid (TokAt (w3.alloc (.cells #[.int .i64 C, .int .i64 R, .int .i64 Q, .int .i64 A, .int .i64 D, .slice aoS WS.length capS] 30)) w3.heap.size C R Q A D (.slice aoS WS.length capS)) := heap_alloc_new w3 _
  have KV : Hid (OwnI (w3.alloc (.cells #[.int .i64 C, .int .i64 R, .int .i64 Q, .int .i64 A, .int .i64 D, .slice aoS WS.length capS] 30)) w2.heap.size (.slice aoS WS.length capS) WS) := hvS.alloc _
  have B4 : Below W0.heap.size W0 (w3.alloc (.cells #[.int .i64 C, .int .i64 R, .int .i64 Q, .int .i64 A, .int .i64 D, .slice aoS WS.length capS] 30)) := B3.alloc B3.size _
  have z2 : W0.heap.size ≤ w2.heap.size := B2.size
  have X3 : Hid (IntsAt (w3.alloc (.cells #[.int .i64 C, .int .i64 R, .int .i64 Q, .int .i64 A, .int .i64 D, .slice aoS WS.length capS] 30)) ao ws) := HX0.out.stays B4
  obtain ⟨l0, l1, l2, l3, l4, l5⟩ := (H0.out.stays B4 hN).cells
  clear hb3 hvS X2 B2 B3 SPC
  go_wp2_with fail
  generalize w3.alloc (.cells #[.int .i64 C, .int .i64 R, .int .i64 Q, .int .i64 A, .int .i64 D, .slice aoS WS.length capS] 30) = WK at *
  generalize w3.heap.size = gK at *
  have zK : gK < WK.heap.size := (Array.getElem?_eq_some_iff.1 KB.out).1
  have z4 : W0.heap.size ≤ WK.heap.size := B4.size
  refine (toTok_any c r q a b ao cap ws _ X3 hl2).mono ?_
  rintro e w4 ⟨vX, rfl, hvX, hb4⟩
  obtain ⟨aoX, capX, hfX⟩ := hvX.form
  subst hfX
  have XL : Hid (∀ k, (Value.slice aoX ws.length capX).ownBlock = some k → WK.heap.size ≤ k ∧ k < w4.heap.size) := hvX.lt
  have XB : Hid (TokAt (w4.alloc (.cells #[.int .i64 c, .int .i64 r, .int .i64 q, .int .i64 a, .int .i64 b, .slice aoX ws.length capX] 30)) w4.heap.size c r q a b (.slice aoX ws.length capX)) := heap_alloc_new w4 _
  have XV : Hid (OwnI (w4.alloc (.cells #[.int .i64 c, .int .i64 r, .int .i64 q, .int .i64 a, .int .i64 b, .slice aoX ws.length capX] 30)) WK.heap.size (.slice aoX ws.length capX) ws) := hvX.alloc _
  have BK : Below WK.heap.size WK (w4.alloc (.cells #[.int .i64 c, .int .i64 r, .int .i64 q, .int .i64 a, .int .i64 b, .slice aoX ws.length capX] 30)) := hb4.alloc hb4.size _
  obtain ⟨t0, t1, t2, t3, t4, t5⟩ := XB.out.cells
  clear hb4 hvX X3 l0 l1 l2 l3 l4 l5
  go_wp2_with fail
  generalize w4.alloc (.cells #[.int .i64 c, .int .i64 r, .int .i64 q, .int .i64 a, .int .i64 b, .slice aoX ws.length capX] 30) = WX at *
  generalize w4.heap.size = gX at *
  have zKX : WK.heap.size ≤ WX.heap.size := BK.size
  have zX : gX < WX.heap.size := (Array.getElem?_eq_some_iff.1 XB.out).1
  refine (IMP.out _ _ _ XV).mono ?_
  rintro e w5 ⟨vG, rfl, hvG, hb5⟩
  obtain ⟨aoG, capG, hfG⟩ := hvG.form
  subst hfG
  have GL : Hid (∀ k, (Value.slice aoG WS.length capG).ownBlock = some k → WX.heap.size ≤ k ∧ k < w5.heap.size) := hvG.lt
  have GB : Hid (TokAt (w5.alloc (.cells #[.int .i64 C, .int .i64 R, .int .i64 Q, .int .i64 A, .int .i64 D, .slice aoG WS.length capG] 30)) w5.heap.size C R Q A D (.slice aoG WS.length capG)) := heap_alloc_new w5 _
  have GV : Hid (OwnI (w5.alloc (.cells #[.int .i64 C, .int .i64 R, .int .i64 Q, .int .i64 A, .int .i64 D, .slice aoG WS.length capG] 30)) WX.heap.size (.slice aoG WS.length capG) WS) := hvG.alloc _
  have BX : Below WX.heap.size WX (w5.alloc (.cells #[.int .i64 C, .int .i64 R, .int .i64 Q, .int .i64 A, .int .i64 D, .slice aoG WS.length capG] 30)) := hb5.alloc hb5.size _
  have BK := bl_next BK BX
  have z5 : WX.heap.size ≤ w5.heap.size := hb5.size
  obtain ⟨g0, g1, g2, g3, g4, g5⟩ := GB.out.cells
  obtain ⟨k0, k1, k2, k3, k4, k5⟩ := (KB.out.stays BK zK).cells
  have KV5 := own_later KV.out BK
  clear hb5 hvG t0 t1 t2 t3 t4 t5
  go_wp2_with fail
  generalize w5.alloc (.cells #[.int .i64 C, .int .i64 R, .int .i64 Q, .int .i64 A, .int .i64 D, .slice aoG WS.length capG] 30) = WG at *
  generalize w5.heap.size = gG at *
  have zG : gG < WG.heap.size := (Array.getElem?_eq_some_iff.1 GB.out).1
  refine (eqTok_same C R Q A D _ _ WS _ _ _ GV (show Hid (OwnI WG _ _ WS) from KV5) hlW).mono ?_
  rintro e w6 ⟨rfl, hb6⟩
  have BG : Below WG.heap.size WG w6 := hb6
  have BX := bl_next BX hb6
  have BK := bl_next BK hb6
  have B6 : Below W0.heap.size W0 w6 := bl_next B4 BK
  have L6 : Hid (LtokAt w6 w.heap.size c r q a b (.slice ao ws.length cap)) := H0.out.stays B6 hN
  have T6 : Hid (TokAt w6 gX c r q a b (.slice aoX ws.length capX)) := XB.out.stays BX zX
  have V6 : Hid (OwnI w6 WK.heap.size (.slice aoX ws.length capX) ws) := own_later XV.out BX
  have X6d : Hid (IntsAt w6.drew ao ws) := HX0.out.stays (bl_next B6 (Below.refl _ _).drew)
  have HK : ∀ w', Below w6.heap.size w6 w' → ((w'.cell? ⟨gX, 0, none⟩ = some (.int .i64 c) ∧ w'.cell? ⟨gX, 1, none⟩ = some (.int .i64 r) ∧ w'.cell? ⟨gX, 2, none⟩ = some (.int .i64 q) ∧ w'.cell? ⟨gX, 3, none⟩ = some (.int .i64 a) ∧ w'.cell? ⟨gX, 4, none⟩ = some (.int .i64 b) ∧ w'.cell? ⟨gX, 5, none⟩ = some (.slice aoX ws.length capX)) ∧ (w'.cell? ⟨w.heap.size, 0, none⟩ = some (.int .i64 c) ∧ w'.cell? ⟨w.heap.size, 1, none⟩ = some (.int .i64 r) ∧ w'.cell? ⟨w.heap.size, 2, none⟩ = some (.int .i64 q) ∧ w'.cell? ⟨w.heap.size, 3, none⟩ = some (.int .i64 a) ∧ w'.cell? ⟨w.heap.size, 4, none⟩ = some (.int .i64 b) ∧ w'.cell? ⟨w.heap.size, 5, none⟩ = some (.slice ao ws.length cap))) ∧ Hid (Below w6.heap.size w6 w') := fun w' hb => ⟨⟨(T6.out.stays hb T6.out.lt).cells, (L6.out.stays hb (Array.getElem?_eq_some_iff.1 L6.out).1).cells⟩, hb⟩
  have HI := HK w6.drew (Below.refl _ _).drew
  clear hb6 KV5 g0 g1 g2 g3 g4 g5 k0 k1 k2 k3 k4 k5
  have HH : Hid _ := HK
  clear HK
  go_wp2_with fail
  go_region_held3 (fun w' => ((w'.cell? ⟨gX, 0, none⟩ = some (.int .i64 c) ∧ w'.cell? ⟨gX, 1, none⟩ = some (.int .i64 r) ∧ w'.cell? ⟨gX, 2, none⟩ = some (.int .i64 q) ∧ w'.cell? ⟨gX, 3, none⟩ = some (.int .i64 a) ∧ w'.cell? ⟨gX, 4, none⟩ = some (.int .i64 b) ∧ w'.cell? ⟨gX, 5, none⟩ = some (.slice aoX ws.length capX)) ∧ (w'.cell? ⟨w.heap.size, 0, none⟩ = some (.int .i64 c) ∧ w'.cell? ⟨w.heap.size, 1, none⟩ = some (.int .i64 r) ∧ w'.cell? ⟨w.heap.size, 2, none⟩ = some (.int .i64 q) ∧ w'.cell? ⟨w.heap.size, 3, none⟩ = some (.int .i64 a) ∧ w'.cell? ⟨w.heap.size, 4, none⟩ = some (.int .i64 b) ∧ w'.cell? ⟨w.heap.size, 5, none⟩ = some (.slice ao ws.length cap))) ∧ Hid (Below w6.heap.size w6 w')) (first | exact HI | assumption) (first | (go_at_call 39; refine (toTok_any c r q a b ao cap ws _ X6d hl2).mono ?_; rintro e w7 ⟨v7, rfl, hv7, hb7⟩; have hk7 := HH.out w7 ((Below.refl w6.heap.size w6).drew.trans hb7)) | (go_at_call 33; refine (eqTok_same c r q a b _ _ ws _ _ _ (show Hid (OwnI _ _ _ ws) from own_later V6.out hk7.2.out) (show Hid (OwnI _ _ _ ws) from hv7) hl2).mono ?_; rintro e w8 ⟨rfl, hb8⟩; have hk8 := HH.out w8 (hk7.2.out.trans (hb8.mono hk7.2.out.size))))
  have c8 : Below w6.heap.size w6 w8 := hk8.2.out
  have BG := bl_next BG c8
  have BX := bl_next BX c8
  have BK := bl_next BK c8
  have V8 : Hid (OwnI w8 WK.heap.size (.slice aoX ws.length capX) ws) := own_later V6.out c8
  obtain ⟨t0, t1, t2, t3, t4, t5⟩ := (XB.out.stays BX zX).cells
  clear hk8 hb8 c8 hk7 hv7 hb7 HH HI V6 T6 L6 X6d B6
  go_wp2_with fail
  refine (markTok_any c r q a b _ ws WK.heap.size 1 _ V8 (by omega) (by omega)).mono ?_
  rintro e w9 ⟨rfl, _, G9⟩
  have BK : Below WK.heap.size WK w9 := BK.grown G9 (Nat.le_trans (by omega) BK.size) (fun k hk => (XL.out k hk).1)
  have GB8 := GB.out.stays BG zG
  have GV8 := own_later GV.out BG
  have GB9 : Hid (TokAt w9 gG C R Q A D (.slice aoG WS.length capG)) := (G9.block gG GB8.lt (fun h => by have := (XL.out gG h.symm).2; omega)).trans GB8
  have GV9 : Hid (OwnI w9 WX.heap.size (.slice aoG WS.length capG) WS) := GV8.kept G9 (fun k hk h => by have := (XL.out k h.symm).2; have := (GL.out k hk).1; omega)
  obtain ⟨z9, hz9⟩ : ∃ z9 : Nat, 1 + ws.length = z9 := ⟨_, rfl⟩
  rw [hz9]
  have hz9 : decide ((z9 : Int) < 0) = false := by simp
  obtain ⟨g0, g1, g2, g3, g4, g5⟩ := GB9.out.cells
  obtain ⟨k0, k1, k2, k3, k4, k5⟩ := (KB.out.stays BK zK).cells
  have KV9 := own_later KV.out BK
  clear V8 t0 t1 t2 t3 t4 t5 G9 GB8 GV8 BG BX GB GV XB XV
  go_wp2_with fail
  refine (eqTok_same C R Q A D _ _ WS _ _ _ GV9 (show Hid (OwnI w9 _ _ WS) from KV9) hlW).mono ?_
  rintro e wa ⟨rfl, ba⟩
  have BK := bl_next BK ba
  have GBa : Hid (TokAt wa gG C R Q A D (.slice aoG WS.length capG)) := GB9.out.stays ba GB9.out.lt
  have GVa : Hid (OwnI wa WX.heap.size (.slice aoG WS.length capG) WS) := own_later GV9.out ba
  clear g0 g1 g2 g3 g4 g5 k0 k1 k2 k3 k4 k5 KV9 ba GB9 GV9 hz9
  obtain ⟨g0, g1, g2, g3, g4, g5⟩ := GBa.out.cells
  go_wp2_with fail
  refine (markTok_any C R Q A D _ WS WX.heap.size 1 _ GVa (by omega) (by omega)).mono ?_
  rintro e wb ⟨rfl, hvb, Gb⟩
  have hBX := zKX
  have BK : Below WK.heap.size WK wb := BK.grown Gb (Nat.le_trans (by omega) BK.size) (fun k hk => by have := (GL.out k hk).1; omega)
  have GBb : Hid (TokAt wb gG C R Q A D (.slice aoG WS.length capG)) := (Gb.block gG GBa.out.lt (fun h => by have := (GL.out gG h.symm).2; omega)).trans GBa.out
  have GVb : Hid (OwnI wb WX.heap.size (.slice aoG WS.length capG) (marks 1 WS.length)) := hvb
  obtain ⟨M, hM⟩ : ∃ M : Nat, 1 + WS.length = M := ⟨_, rfl⟩
  rw [hM]
  have HM : Hid (1 + WS.length = M) := hM
  have hM0 : decide ((M : Int) < 0) = false := by simp
  clear g0 g1 g2 g3 g4 g5 GBa GVa Gb hvb hM
  obtain ⟨g0, g1, g2, g3, g4, g5⟩ := GBb.out.cells
  go_wp2_with fail
  refine (heldTok_any C R Q A D _ WS.length WX.heap.size 1 _ GVb (by omega) (by omega)).mono ?_
  rintro e wc ⟨rfl, bc⟩
  rw [HM.out]
  have BK := bl_next BK bc
  have GBc : Hid (TokAt wc gG C R Q A D (.slice aoG WS.length capG)) := GBb.out.stays bc GBb.out.lt
  have GVc : Hid (OwnI wc WX.heap.size (.slice aoG WS.length capG) (marks 1 WS.length)) := own_later GVb.out bc
  have Bc : Below W0.heap.size W0 wc := bl_next B4 BK
  have Xc : Hid (IntsAt wc ao ws) := HX0.out.stays Bc
  obtain ⟨l0, l1, l2, l3, l4, l5⟩ := (H0.out.stays Bc hN).cells
  clear g0 g1 g2 g3 g4 g5 GBb GVb bc
  go_wp2_with fail
  refine (toTok_any c r q a b ao cap ws _ Xc hl2).mono ?_
  rintro e wd ⟨vd, rfl, hvd, bd⟩
  have BK := bl_next BK bd
  have GBd : Hid (TokAt wd gG C R Q A D (.slice aoG WS.length capG)) := GBc.out.stays bd GBc.out.lt
  have GVd : Hid (OwnI wd WX.heap.size (.slice aoG WS.length capG) (marks 1 WS.length)) := own_later GVc.out bd
  have Xd : Hid (OwnI wd wc.heap.size vd ws) := hvd
  clear l0 l1 l2 l3 l4 l5 GBc GVc bd Xc Bc hvd
  go_wp2_with fail
  refine (IMP.out vd _ _ Xd).mono ?_
  rintro e we ⟨ve, rfl, hve, be⟩
  obtain ⟨aoe, cape, hfe⟩ := hve.form
  subst hfe
  have De : Below wd.heap.size wd (we.alloc (.cells #[.int .i64 C, .int .i64 R, .int .i64 Q, .int .i64 A, .int .i64 D, .slice aoe WS.length cape] 30)) := be.alloc be.size _
  have BK := bl_next BK De
  have GBe : Hid (TokAt (we.alloc (.cells #[.int .i64 C, .int .i64 R, .int .i64 Q, .int .i64 A, .int .i64 D, .slice aoe WS.length cape] 30)) gG C R Q A D (.slice aoG WS.length capG)) := GBd.out.stays De GBd.out.lt
  have GVe : Hid (OwnI (we.alloc (.cells #[.int .i64 C, .int .i64 R, .int .i64 Q, .int .i64 A, .int .i64 D, .slice aoe WS.length cape] 30)) WX.heap.size (.slice aoG WS.length capG) (marks 1 WS.length)) := own_later GVd.out De
  have EB : Hid (TokAt (we.alloc (.cells #[.int .i64 C, .int .i64 R, .int .i64 Q, .int .i64 A, .int .i64 D, .slice aoe WS.length cape] 30)) we.heap.size C R Q A D (.slice aoe WS.length cape)) := heap_alloc_new we _
  have EV : Hid (OwnI (we.alloc (.cells #[.int .i64 C, .int .i64 R, .int .i64 Q, .int .i64 A, .int .i64 D, .slice aoe WS.length cape] 30)) wd.heap.size (.slice aoe WS.length cape) WS) := hve.alloc _
  obtain ⟨g0, g1, g2, g3, g4, g5⟩ := EB.out.cells
  obtain ⟨k0, k1, k2, k3, k4, k5⟩ := (KB.out.stays BK zK).cells
  have KVe := own_later KV.out BK
  clear GBd GVd be De hve Xd
  go_wp2_with fail
  generalize we.alloc (.cells #[.int .i64 C, .int .i64 R, .int .i64 Q, .int .i64 A, .int .i64 D, .slice aoe WS.length cape] 30) = WE at *
  refine (eqTok_same C R Q A D _ _ WS _ _ _ EV (show Hid (OwnI WE _ _ WS) from KVe) hlW).mono ?_
  rintro e wf ⟨rfl, bf⟩
  have BK := bl_next BK bf
  have GBf : Hid (TokAt wf gG C R Q A D (.slice aoG WS.length capG)) := GBe.out.stays bf GBe.out.lt
  have GVf : Hid (OwnI wf WX.heap.size (.slice aoG WS.length capG) (marks 1 WS.length)) := own_later GVe.out bf
  clear g0 g1 g2 g3 g4 g5 k0 k1 k2 k3 k4 k5 GBe GVe KVe EB EV bf
  obtain ⟨g0, g1, g2, g3, g4, g5⟩ := GBf.out.cells
  go_wp2_with fail
  refine (heldTok_any C R Q A D _ WS.length WX.heap.size 1 _ GVf (by omega) (by omega)).mono ?_
  rintro e wg ⟨rfl, bg⟩
  rw [HM.out]
  have BK := bl_next BK bg
  have BF : Below w.heap.size w wg := bl_next HB0.out (bl_next B4 BK)
  clear g0 g1 g2 g3 g4 g5
  go_wp2_with fail
  go_ret
  exact ⟨rfl, BF⟩
end Go.Proofs.Ytnhnpneedcjcfaa
