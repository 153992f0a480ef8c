/- The law on Give. -/
import Derived.Test.YtnhnpneedcjcfaaGs
import Derived.Test.YtnhnpneedcjcfaaMk
import Derived.Test.YtnhnpneedcjcfaaEs
import Derived.Test.YtnhnpneedcjcfaaLb
import Derived.Test.YtnhnpneedcjcfaaLr
namespace Go.Proofs.Ytnhnpneedcjcfaa
open Go.RowKit Pl
set_option linter.unusedVariables false

set_option maxRecDepth 100000 in
set_option maxHeartbeats 4000000 in
theorem lawGive (c r q a b : Int) (ao : Option Addr) (cap : Nat) (ws : List Int) (ai : Option Addr) (ci : Nat) (ts : List It) (w : World) (hx : IntsAt w ao ws) (hl : ws.length ≤ maxLen) (hxi : ItemsAt w ai ts) (hli : ts.length ≤ maxLen) (hsi : ∀ x ∈ ts, x.2.2.2.size ≤ maxLen) :
    Calls Try.prog 11 #[.agg #[.int .i64 c, .int .i64 r, .int .i64 q, .int .i64 a, .int .i64 b, .slice ao ws.length cap], .slice ai ts.length ci] w fun e w' => e = .returned (.bool true) ∧ Below w.heap.size w w' := by
  unfold maxLen at hl hli hsi
  by_cases hl1 : 1048576 < ws.length
  · go_enter Try.func11, Try.ntmps11
    go_wp2_with fail
    refine (szTok_long c r q a b ao ws.length cap _ hl1 (by omega)).mono ?_
    rintro e w1 ⟨rfl, hb1⟩
    go_wp2_with fail
    go_ret
    exact ⟨rfl, ((Below.refl _ _).alloc (Nat.le_refl _) _).trans (hb1.mono (by simp))⟩
  have hl2 : ws.length ≤ 1048576 := by omega
  clear hl hl1
  have H0 : Hid (LtokAt (w.alloc (.cells #[.int .i64 c, .int .i64 r, .int .i64 q, .int .i64 a, .int .i64 b, .slice ao ws.length cap] 55)) w.heap.size c r q a b (.slice ao ws.length cap)) := heap_alloc_new w _
  have HB0 : Hid (Below w.heap.size w (w.alloc (.cells #[.int .i64 c, .int .i64 r, .int .i64 q, .int .i64 a, .int .i64 b, .slice ao ws.length cap] 55))) := (Below.refl _ _).alloc (Nat.le_refl _) _
  have HX0 : Hid (IntsAt (w.alloc (.cells #[.int .i64 c, .int .i64 r, .int .i64 q, .int .i64 a, .int .i64 b, .slice ao ws.length cap] 55)) ao ws) := hx.stays HB0.out
  have HI0 : Hid (ItemsAt (w.alloc (.cells #[.int .i64 c, .int .i64 r, .int .i64 q, .int .i64 a, .int .i64 b, .slice ao ws.length cap] 55)) ai ts) := hxi.stays HB0.out
  have HS : Hid (∀ x ∈ ts, x.2.2.2.size ≤ 9223372036854775807) := hsi
  clear hx hxi hsi
  go_enter Try.func11, Try.ntmps11
  go_wp2_with fail
  generalize w.alloc (.cells #[.int .i64 c, .int .i64 r, .int .i64 q, .int .i64 a, .int .i64 b, .slice ao ws.length cap] 55) = W0 at *
  have hN : w.heap.size < W0.heap.size := (Array.getElem?_eq_some_iff.1 H0.out).1
  refine (szTok_any c r q a b ao ws.length cap _ hl2).mono ?_
  rintro e w1 ⟨rfl, B1⟩
  obtain ⟨left, hleft⟩ : ∃ left : Nat, left = 1048576 - ws.length := ⟨_, rfl⟩
  rw [← hleft]
  have hz : decide ((left : Int) < 0) = false := by simp
  have I1 : Hid (ItemsAt w1 ai ts) := HI0.out.stays B1
  have hlft : left + ws.length = 1048576 := by omega
  clear hleft
  go_wp2_with fail
  refine (szItems_left left (by omega) ai ci ts _ I1 hli HS).mono ?_
  rintro e w2 ⟨rfl | ⟨z, rfl, hz1, hs1⟩, b2⟩
  · go_wp2_with fail
    go_ret
    exact ⟨rfl, bl_next HB0.out (bl_next B1 b2)⟩
  have B2 := bl_next B1 b2
  have hz2 : decide ((z : Int) < 0) = false := by simp
  have hlt2 : ts.length ≤ 1048576 := by omega
  have hsum : ts.length + ws.length ≤ 1048576 := by omega
  have HS1 : Hid (∀ x ∈ ts, x.2.2.2.size ≤ 1048576) := hs1
  obtain ⟨R, hR⟩ : ∃ R : List It, R = giveP ws ts := ⟨_, rfl⟩
  have hRl : R.length ≤ 1048576 := by rw [hR]; exact Nat.le_trans (List.length_filter_le _ _) hlt2
  have SPC : Hid (∀ (ap : Option Addr) (k : Nat) (ai' : Option Addr) (W : World), Hid (IntsAt W ap ws) → Hid (ItemsAt W ai' ts) → Calls Try.prog 50 #[.agg #[.int .i64 c, .int .i64 r, .int .i64 q, .int .i64 a, .int .i64 b, .slice ap ws.length k], .slice ai' ts.length ts.length] W fun e w' => ∃ v, e = .returned v ∧ SlI w' W.heap.size v R ∧ Below W.heap.size W w') := fun ap k ai' W h h2 => by rw [hR]; exact spGive_any c r q a b ap k ws ai' _ ts W h h2 hlt2 hl2
  have IMP : Hid (∀ (ap : Option Addr) (k : Nat) (ai' : Option Addr) (W : World), Hid (IntsAt W ap ws) → Hid (ItemsAt W ai' ts) → Calls Try.prog 52 #[.agg #[.int .i64 c, .int .i64 r, .int .i64 q, .int .i64 a, .int .i64 b, .slice ap ws.length k], .slice ai' ts.length ts.length] W fun e w' => ∃ v, e = .returned v ∧ SlI w' W.heap.size v R ∧ Below W.heap.size W w') := fun ap k ai' W h h2 => by rw [hR]; exact give_any c r q a b ap k ws ai' _ ts W h h2 hlt2 hl2 HS1
  obtain ⟨l0, l1, l2, l3, l4, l5⟩ := (H0.out.stays B2 hN).cells
  have X2 : Hid (IntsAt w2 ao ws) := HX0.out.stays B2
  clear hli hz1 hs1 HS HS1 hR I1 B1 b2 hlft
  go_wp2_with fail
  refine (toTok_any c r q a b ao cap ws _ X2 hl2).mono ?_
  rintro e w3 ⟨v3, rfl, hv3, hb3⟩
  have B3 := bl_next B2 hb3
  obtain ⟨ao3, cap3, rfl, hx3⟩ := hv3.ints
  have X3 : Hid (IntsAt w3 ao3 ws) := hx3
  have I3 : Hid (ItemsAt w3 ai ts) := HI0.out.stays B3
  clear hb3 hv3 hx3 X2 l0 l1 l2 l3 l4 l5 B2
  go_wp2_with fail
  refine (toItems_sl w3 ai ci ts I3 hlt2).mono ?_
  rintro e w4 ⟨rfl, _, Y4, b4⟩
  have Y4 : Hid (ItemsAt w4 (some ⟨w3.heap.size, 0, none⟩) ts) := Y4
  have X4 : Hid (IntsAt w4 ao3 ws) := X3.out.stays b4
  have B4 := bl_next B3 b4
  clear b4 I3 X3 B3
  go_wp2_with fail
  refine (SPC.out ao3 cap3 _ w4 X4 Y4).mono ?_
  rintro e WK ⟨vS, rfl, KV, b5⟩
  have KV : Hid (SlI WK w4.heap.size vS R) := KV
  have B5 := bl_next B4 b5
  have z5 : W0.heap.size ≤ WK.heap.size := B5.size
  have X5 : Hid (IntsAt WK ao ws) := HX0.out.stays B5
  have KL : Hid (∀ k, vS.ownBlock = some k → k < WK.heap.size) := fun k hk => (KV.out.lt k hk).2
  obtain ⟨l0, l1, l2, l3, l4, l5⟩ := (H0.out.stays B5 hN).cells
  clear b5 X4 Y4 B4 SPC
  go_wp2_with fail
  refine (toTok_any c r q a b ao cap ws _ X5 hl2).mono ?_
  rintro e w6 ⟨vX, rfl, hvX, hb6⟩
  obtain ⟨aoX, capX, hfX⟩ := hvX.form
  subst hfX
  have XL : Hid (∀ k, (Value.slice aoX ws.length capX).ownBlock = some k → WK.heap.size ≤ k ∧ k < w6.heap.size) := hvX.lt
  have XB : Hid (TokAt (w6.alloc (.cells #[.int .i64 c, .int .i64 r, .int .i64 q, .int .i64 a, .int .i64 b, .slice aoX ws.length capX] 30)) w6.heap.size c r q a b (.slice aoX ws.length capX)) := heap_alloc_new w6 _
  have XV : Hid (OwnI (w6.alloc (.cells #[.int .i64 c, .int .i64 r, .int .i64 q, .int .i64 a, .int .i64 b, .slice aoX ws.length capX] 30)) WK.heap.size (.slice aoX ws.length capX) ws) := hvX.alloc _
  have BK : Below WK.heap.size WK (w6.alloc (.cells #[.int .i64 c, .int .i64 r, .int .i64 q, .int .i64 a, .int .i64 b, .slice aoX ws.length capX] 30)) := hb6.alloc hb6.size _
  have I6 : Hid (ItemsAt (w6.alloc (.cells #[.int .i64 c, .int .i64 r, .int .i64 q, .int .i64 a, .int .i64 b, .slice aoX ws.length capX] 30)) ai ts) := HI0.out.stays (bl_next B5 BK)
  clear hb6 hvX X5 l0 l1 l2 l3 l4 l5
  go_wp2_with fail
  generalize (w6.alloc (.cells #[.int .i64 c, .int .i64 r, .int .i64 q, .int .i64 a, .int .i64 b, .slice aoX ws.length capX] 30)) = WX at *
  generalize w6.heap.size = gX at *
  have zKX : WK.heap.size ≤ WX.heap.size := BK.size
  have zX : gX < WX.heap.size := XB.out.lt
  refine (toItems_sl WX ai ci ts I6 hlt2).mono ?_
  rintro e w7 ⟨rfl, S7, Y7, b7⟩
  have S7 : Hid (SlI w7 WX.heap.size (.slice (some ⟨WX.heap.size, 0, none⟩) ts.length ts.length) ts) := S7
  have Y7 : Hid (ItemsAt w7 (some ⟨WX.heap.size, 0, none⟩) ts) := Y7
  have G7 : WX.heap.size < w7.heap.size := (S7.out.lt _ rfl).2
  have BX : Below WX.heap.size WX w7 := b7
  have BK := bl_next BK b7
  obtain ⟨t0, t1, t2, t3, t4, t5⟩ := (XB.out.stays BX zX).cells
  obtain ⟨ao7, cap7, hf7, hx7⟩ := XV.out.ints
  have X7 : Hid (IntsAt w7 aoX ws) := by
    simp only [Value.slice.injEq] at hf7
    rw [hf7.1]
    exact hx7.stays BX
  clear b7 I6 hf7 hx7
  go_wp2_with fail
  refine (IMP.out aoX capX _ w7 X7 Y7).mono ?_
  rintro e w8 ⟨vG, rfl, O8, b8⟩
  have O8 : Hid (SlI w8 w7.heap.size vG R) := O8
  have S8 : Hid (SlI w8 WX.heap.size (.slice (some ⟨WX.heap.size, 0, none⟩) ts.length ts.length) ts) := S7.out.below b8
  have BX := bl_next BX b8
  have BK := bl_next BK b8
  have P8 : Hid (SlI w8 w4.heap.size vS R) := KV.out.below BK
  clear b8 X7 Y7 S7 t0 t1 t2 t3 t4 t5
  go_wp2_with fail
  refine (eqItems_sl vG vS R _ _ w8 O8.out P8.out hRl).mono ?_
  rintro e w9 ⟨rfl, b9⟩
  have O9 : Hid (SlI w9 w7.heap.size vG R) := O8.out.below b9
  have S9 : Hid (SlI w9 WX.heap.size (.slice (some ⟨WX.heap.size, 0, none⟩) ts.length ts.length) ts) := S8.out.below b9
  have BX := bl_next BX b9
  have BK := bl_next BK b9
  have B9 : Below W0.heap.size W0 w9 := bl_next B5 BK
  have L9 : Hid (LtokAt w9 w.heap.size c r q a b (.slice ao ws.length cap)) := H0.out.stays B9 hN
  have T9 : Hid (TokAt w9 gX c r q a b (.slice aoX ws.length capX)) := XB.out.stays BX zX
  have V9 : Hid (OwnI w9 WK.heap.size (.slice aoX ws.length capX) ws) := own_later XV.out BX
  have X9d : Hid (IntsAt w9.drew ao ws) := HX0.out.stays (bl_next B9 (Below.refl _ _).drew)
  have HK : ∀ w', Below w9.heap.size w9 w' → ((w'.cell? ⟨gX, 0, none⟩ = some (.int .i64 c) ∧ w'.cell? ⟨gX, 1, none⟩ = some (.int .i64 r) ∧ w'.cell? ⟨gX, 2, none⟩ = some (.int .i64 q) ∧ w'.cell? ⟨gX, 3, none⟩ = some (.int .i64 a) ∧ w'.cell? ⟨gX, 4, none⟩ = some (.int .i64 b) ∧ w'.cell? ⟨gX, 5, none⟩ = some (.slice aoX ws.length capX)) ∧ (w'.cell? ⟨w.heap.size, 0, none⟩ = some (.int .i64 c) ∧ w'.cell? ⟨w.heap.size, 1, none⟩ = some (.int .i64 r) ∧ w'.cell? ⟨w.heap.size, 2, none⟩ = some (.int .i64 q) ∧ w'.cell? ⟨w.heap.size, 3, none⟩ = some (.int .i64 a) ∧ w'.cell? ⟨w.heap.size, 4, none⟩ = some (.int .i64 b) ∧ w'.cell? ⟨w.heap.size, 5, none⟩ = some (.slice ao ws.length cap))) ∧ Hid (Below w9.heap.size w9 w') := fun w' hb => ⟨⟨(T9.out.stays hb T9.out.lt).cells, (L9.out.stays hb (Array.getElem?_eq_some_iff.1 L9.out).1).cells⟩, hb⟩
  have HI := HK w9.drew (Below.refl _ _).drew
  have HH : Hid _ := HK
  clear b9 O8 S8 P8 HK
  go_wp2_with fail
  go_region_held3 (fun w' => ((w'.cell? ⟨gX, 0, none⟩ = some (.int .i64 c) ∧ w'.cell? ⟨gX, 1, none⟩ = some (.int .i64 r) ∧ w'.cell? ⟨gX, 2, none⟩ = some (.int .i64 q) ∧ w'.cell? ⟨gX, 3, none⟩ = some (.int .i64 a) ∧ w'.cell? ⟨gX, 4, none⟩ = some (.int .i64 b) ∧ w'.cell? ⟨gX, 5, none⟩ = some (.slice aoX ws.length capX)) ∧ (w'.cell? ⟨w.heap.size, 0, none⟩ = some (.int .i64 c) ∧ w'.cell? ⟨w.heap.size, 1, none⟩ = some (.int .i64 r) ∧ w'.cell? ⟨w.heap.size, 2, none⟩ = some (.int .i64 q) ∧ w'.cell? ⟨w.heap.size, 3, none⟩ = some (.int .i64 a) ∧ w'.cell? ⟨w.heap.size, 4, none⟩ = some (.int .i64 b) ∧ w'.cell? ⟨w.heap.size, 5, none⟩ = some (.slice ao ws.length cap))) ∧ Hid (Below w9.heap.size w9 w')) (first | exact HI | assumption) (first | (go_at_call 39; refine (toTok_any c r q a b ao cap ws _ X9d hl2).mono ?_; rintro e wp ⟨v7, rfl, hv7, hb7⟩; have hk7 := HH.out wp ((Below.refl w9.heap.size w9).drew.trans hb7)) | (go_at_call 33; refine (eqTok_same c r q a b _ _ ws _ _ _ (show Hid (OwnI _ _ _ ws) from own_later V9.out hk7.2.out) (show Hid (OwnI _ _ _ ws) from hv7) hl2).mono ?_; rintro e wq ⟨rfl, hb8⟩; have hk8 := HH.out wq (hk7.2.out.trans (hb8.mono hk7.2.out.size))))
  have cq : Below w9.heap.size w9 wq := hk8.2.out
  have BX := bl_next BX cq
  have BK := bl_next BK cq
  have Oq : Hid (SlI wq w7.heap.size vG R) := O9.out.below cq
  have Sq : Hid (SlI wq WX.heap.size (.slice (some ⟨WX.heap.size, 0, none⟩) ts.length ts.length) ts) := S9.out.below cq
  have Iq : Hid (ItemsAt wq ai ts) := HI0.out.stays (bl_next B5 BK)
  clear hk8 hb8 cq hk7 hv7 hb7 HH HI V9 T9 L9 X9d B9 O9 S9
  go_wp2_with fail
  refine (toItems_sl wq ai ci ts Iq hlt2).mono ?_
  rintro e wr ⟨rfl, Yr, _, br⟩
  have Yr : Hid (SlI wr wq.heap.size (.slice (some ⟨wq.heap.size, 0, none⟩) ts.length ts.length) ts) := Yr
  have Or : Hid (SlI wr w7.heap.size vG R) := Oq.out.below br
  have Sr : Hid (SlI wr WX.heap.size (.slice (some ⟨WX.heap.size, 0, none⟩) ts.length ts.length) ts) := Sq.out.below br
  have BX := bl_next BX br
  have BK := bl_next BK br
  clear br Oq Sq Iq
  go_wp2_with fail
  refine (eqItems_sl _ _ ts _ _ wr Sr.out Yr.out hlt2).mono ?_
  rintro e wt ⟨rfl, bt⟩
  have Ot : Hid (SlI wt w7.heap.size vG R) := Or.out.below bt
  have St : Hid (SlI wt WX.heap.size (.slice (some ⟨WX.heap.size, 0, none⟩) ts.length ts.length) ts) := Sr.out.below bt
  have BX := bl_next BX bt
  have BK := bl_next BK bt
  have Vt : Hid (OwnI wt WK.heap.size (.slice aoX ws.length capX) ws) := own_later XV.out BX
  obtain ⟨t0, t1, t2, t3, t4, t5⟩ := (XB.out.stays BX zX).cells
  clear bt Or Sr Yr
  go_wp2_with fail
  refine (markTok_any c r q a b _ ws WK.heap.size 1 _ Vt (by omega) (by omega)).mono ?_
  rintro e wu ⟨rfl, _, Gu⟩
  have BK : Below WK.heap.size WK wu := BK.grown Gu (Nat.le_trans (by omega) BK.size) (fun k hk => (XL.out k hk).1)
  have Ou : Hid (SlI wu w7.heap.size vG R) := Ot.out.kept Gu (fun k hk he => by have := (Ot.out.lt k hk).1; have := (XL.out k he.symm).2; omega)
  have Su : Hid (SlI wu WX.heap.size (.slice (some ⟨WX.heap.size, 0, none⟩) ts.length ts.length) ts) := St.out.kept Gu (fun k hk he => by have := (St.out.lt k hk).1; have := (XL.out k he.symm).2; omega)
  clear Vt t0 t1 t2 t3 t4 t5 Gu Ot St BX XB XV
  go_wp2_with fail
  refine (markItems_any _ ts WX.heap.size (1 + ws.length) wu Su (by omega) (by omega)).mono ?_
  rintro e wv ⟨rfl, _, Gv⟩
  have BK : Below WK.heap.size WK wv := BK.grown Gv (Nat.le_trans (by omega) BK.size) (fun k hk => by simp [Value.ownBlock] at hk; omega)
  have Ov : Hid (SlI wv w7.heap.size vG R) := Ou.out.kept Gv (fun k hk he => by have := (Ou.out.lt k hk).1; simp [Value.ownBlock] at he; omega)
  have Pv : Hid (SlI wv w4.heap.size vS R) := KV.out.below BK
  obtain ⟨z9, hz9⟩ : ∃ z9 : Nat, 1 + ws.length + 4 * ts.length = z9 := ⟨_, rfl⟩
  rw [hz9]
  have hz9 : decide ((z9 : Int) < 0) = false := by simp
  clear Ou Su Gv
  go_wp2_with fail
  refine (eqItems_sl vG vS R _ _ wv Ov.out Pv.out hRl).mono ?_
  rintro e wa ⟨rfl, ba⟩
  have Oa : Hid (SlI wa w7.heap.size vG R) := Ov.out.below ba
  have BK := bl_next BK ba
  clear ba Ov Pv hz9
  go_wp2_with fail
  refine (markItems_any vG R w7.heap.size 1 wa Oa (by omega) (by omega)).mono ?_
  rintro e wb ⟨rfl, Ob, Gb⟩
  have Ob : Hid (SlI wb w7.heap.size vG (mkI 1 R.length)) := Ob
  have BK : Below WK.heap.size WK wb := BK.grown Gb (Nat.le_trans (by omega) BK.size) (fun k hk => by have := (Oa.out.lt k hk).1; omega)
  clear Oa Gb
  obtain ⟨M, hM⟩ : ∃ M : Nat, 1 + 4 * R.length = M := ⟨_, rfl⟩
  rw [hM]
  have HM : Hid (1 + 4 * R.length = M) := hM
  have hM0 : decide ((M : Int) < 0) = false := by simp
  clear hM
  go_wp2_with fail
  refine (heldItems_any vG R.length w7.heap.size 1 wb Ob (by omega) (by omega)).mono ?_
  rintro e wc ⟨rfl, bc⟩
  rw [HM.out]
  have Oc : Hid (SlI wc w7.heap.size vG (mkI 1 R.length)) := Ob.out.below bc
  have BK := bl_next BK bc
  have Bc : Below W0.heap.size W0 wc := bl_next B5 BK
  have Xc : Hid (IntsAt wc ao ws) := HX0.out.stays Bc
  obtain ⟨l0, l1, l2, l3, l4, l5⟩ := (H0.out.stays Bc hN).cells
  clear bc Ob Bc
  go_wp2_with fail
  refine (toTok_any c r q a b ao cap ws _ Xc hl2).mono ?_
  rintro e wd ⟨vd, rfl, hvd, bd⟩
  have BK := bl_next BK bd
  have Od : Hid (SlI wd w7.heap.size vG (mkI 1 R.length)) := Oc.out.below bd
  obtain ⟨aod, capd, rfl, hxd⟩ := hvd.ints
  have Xd : Hid (IntsAt wd aod ws) := hxd
  have Id : Hid (ItemsAt wd ai ts) := HI0.out.stays (bl_next B5 BK)
  clear l0 l1 l2 l3 l4 l5 bd Xc hvd hxd Oc
  go_wp2_with fail
  refine (toItems_sl wd ai ci ts Id hlt2).mono ?_
  rintro e wE ⟨rfl, _, Ye, bE⟩
  have Ye : Hid (ItemsAt wE (some ⟨wd.heap.size, 0, none⟩) ts) := Ye
  have Xe : Hid (IntsAt wE aod ws) := Xd.out.stays bE
  have Oe : Hid (SlI wE w7.heap.size vG (mkI 1 R.length)) := Od.out.below bE
  have BK := bl_next BK bE
  clear bE Od Xd Id
  go_wp2_with fail
  refine (IMP.out aod capd _ wE Xe Ye).mono ?_
  rintro e wf ⟨vf, rfl, Qf, bf⟩
  have Qf : Hid (SlI wf wE.heap.size vf R) := Qf
  have Of : Hid (SlI wf w7.heap.size vG (mkI 1 R.length)) := Oe.out.below bf
  have BK := bl_next BK bf
  have Pf : Hid (SlI wf w4.heap.size vS R) := KV.out.below BK
  clear bf Oe Xe Ye
  go_wp2_with fail
  refine (eqItems_sl vf vS R _ _ wf Qf.out Pf.out hRl).mono ?_
  rintro e wg ⟨rfl, bg⟩
  have Og : Hid (SlI wg w7.heap.size vG (mkI 1 R.length)) := Of.out.below bg
  have BK := bl_next BK bg
  clear bg Of Pf Qf
  go_wp2_with fail
  refine (heldItems_any vG R.length w7.heap.size 1 wg Og (by omega) (by omega)).mono ?_
  rintro e wh ⟨rfl, bh⟩
  rw [HM.out]
  have BF : Below w.heap.size w wh := bl_next HB0.out (bl_next B5 (bl_next BK bh))
  go_wp2_with fail
  go_ret
  exact ⟨rfl, BF⟩
end Go.Proofs.Ytnhnpneedcjcfaa
