/- The law on Number. -/
import Derived.Test.YtnhnpneedcjcfaaNn
import Derived.Test.YtnhnpneedcjcfaaEs
import Derived.Test.YtnhnpneedcjcfaaLr
namespace Go.Proofs.Ytnhnpneedcjcfaa
open Go.RowKit Pl
set_option linter.unusedVariables false

set_option maxRecDepth 100000 in
set_option maxHeartbeats 8000000 in
theorem lawNumber (c r q a b : Int) (ao : Option Addr) (cap : Nat) (ws : List Int) (f : Int) (al : Option Addr) (cl : Nat) (lv : List Int) (at_ : Option Addr) (ct : Nat) (tx : List ByteArray) (w : World) (hx : IntsAt w ao ws) (hl : ws.length ≤ maxLen) (hxl : IntsAt w al lv) (hll : lv.length ≤ maxLen) (hxt : TextsAt w at_ tx) (hlt : tx.length ≤ maxLen) (hst : ∀ t ∈ tx, t.size ≤ maxLen) :
    Calls Try.prog 9 #[.agg #[.int .i64 c, .int .i64 r, .int .i64 q, .int .i64 a, .int .i64 b, .slice ao ws.length cap], .int .i64 f, .slice al lv.length cl, .slice at_ tx.length ct] w fun e w' => e = .returned (.bool true) ∧ Below w.heap.size w w' := by
  by_cases hv1 : 1048576 < lv.length
  · unfold maxLen at hll
    have hv2 : (1048576 : Int) < (lv.length : Int) := by omega
    go_enter Try.func9, Try.ntmps9
    go_wp2_with fail
    go_ret
    exact ⟨rfl, (Below.refl _ _).alloc (Nat.le_refl _) _⟩
  have hv2 : ¬ (1048576 : Int) < (lv.length : Int) := by omega
  have hll2 : lv.length ≤ 1048576 := by omega
  clear hll hv1
  by_cases hl1 : 1048576 < ws.length
  · unfold maxLen at hl
    go_enter Try.func9, Try.ntmps9
    go_wp2_with fail
    refine (szTok_long c r q a b ao ws.length cap _ hl1 (by omega)).mono ?_
    rintro e w1 ⟨rfl, hb1⟩
    go_wp2_with fail
    go_ret
    exact ⟨rfl, ((Below.refl _ _).alloc (Nat.le_refl _) _).trans (hb1.mono (by simp))⟩
  have hl2 : ws.length ≤ 1048576 := by omega
  clear hl hl1
  have H0 : Hid (LtokAt (w.alloc (.cells #[.int .i64 c, .int .i64 r, .int .i64 q, .int .i64 a, .int .i64 b, .slice ao ws.length cap] 55)) w.heap.size c r q a b (.slice ao ws.length cap)) := heap_alloc_new w _
  have HB0 : Hid (Below w.heap.size w (w.alloc (.cells #[.int .i64 c, .int .i64 r, .int .i64 q, .int .i64 a, .int .i64 b, .slice ao ws.length cap] 55))) := (Below.refl _ _).alloc (Nat.le_refl _) _
  have HX0 : Hid (IntsAt (w.alloc (.cells #[.int .i64 c, .int .i64 r, .int .i64 q, .int .i64 a, .int .i64 b, .slice ao ws.length cap] 55)) ao ws) := hx.stays HB0.out
  have HL0 : Hid (IntsAt (w.alloc (.cells #[.int .i64 c, .int .i64 r, .int .i64 q, .int .i64 a, .int .i64 b, .slice ao ws.length cap] 55)) al lv) := hxl.stays HB0.out
  have HT0 : Hid (TextsAt (w.alloc (.cells #[.int .i64 c, .int .i64 r, .int .i64 q, .int .i64 a, .int .i64 b, .slice ao ws.length cap] 55)) at_ tx) := hxt.stays HB0.out
  have HS : Hid (∀ t ∈ tx, t.size ≤ maxLen) := hst
  have hltH : Hid (tx.length ≤ maxLen) := hlt
  clear hx hxl hxt hst hlt
  go_enter Try.func9, Try.ntmps9
  go_wp2_with fail
  generalize w.alloc (.cells #[.int .i64 c, .int .i64 r, .int .i64 q, .int .i64 a, .int .i64 b, .slice ao ws.length cap] 55) = W0 at *
  have hN : w.heap.size < W0.heap.size := (Array.getElem?_eq_some_iff.1 H0.out).1
  refine (szTok_any c r q a b ao ws.length cap _ hl2).mono ?_
  rintro e w1 ⟨rfl, B1⟩
  obtain ⟨left, hleft⟩ : ∃ left : Nat, left = 1048576 - ws.length := ⟨_, rfl⟩
  rw [← hleft]
  have hz : decide ((left : Int) < 0) = false := by simp
  have T1 : Hid (TextsAt w1 at_ tx) := HT0.out.stays B1
  have hlft : left + ws.length = 1048576 := by omega
  clear hleft
  go_wp2_with fail
  refine (szS_any w1 at_ ct left tx T1 hltH.out HS (by omega)).mono ?_
  rintro e w1' ⟨rfl | ⟨z, rfl, hz1⟩, rfl⟩
  · go_wp2_with fail
    go_ret
    exact ⟨rfl, bl_next HB0.out B1⟩
  have hz2 : decide ((z : Int) < 0) = false := by simp
  have hlt2 : tx.length ≤ 1048576 := by have := hz1.out.1; omega
  have hsum : tx.length + ws.length ≤ 1048576 := by have := hz1.out.1; omega
  obtain ⟨R, hR⟩ : ∃ R : List It, R = numL c r q a b ws f lv tx := ⟨_, rfl⟩
  obtain ⟨Q, hQ⟩ : ∃ Q : Int, Q = numQ c r q a b ws f lv tx := ⟨_, rfl⟩
  obtain ⟨A, hA⟩ : ∃ A : Int, A = numA c r q a b ws f lv tx := ⟨_, rfl⟩
  have hR3 : R.length ≤ 3 := by rw [hR]; exact numL_len c r q a b ws f lv tx
  have hRl : R.length ≤ 1048576 := by omega
  have SPC : Hid (∀ (u0 : Value) (B0 : Nat) (al' : Option Addr) (cl' : Nat) (at' : Option Addr) (ct' : Nat) (W : World), Hid (OwnI W B0 u0 ws) → Hid (IntsAt W al' lv) → Hid (TextsAt W at' tx) → Calls Try.prog 21 #[.agg #[.int .i64 c, .int .i64 r, .int .i64 q, .int .i64 a, .int .i64 b, u0], .int .i64 f, .slice al' lv.length cl', .slice at' tx.length ct'] W fun e w' => ∃ v vi, e = .returned (.tuple #[.agg #[.int .i64 c, .int .i64 r, .int .i64 Q, .int .i64 A, .int .i64 b, v], vi]) ∧ OwnI w' W.heap.size v ws ∧ SlI w' W.heap.size vi R ∧ Below W.heap.size W w') := fun u0 B0 al' cl' at' ct' W h h2 h3 => by rw [hR, hQ, hA]; exact spNumber_any c r q a b f u0 ws B0 al' cl' lv at' ct' tx W h hl2 h2 hll2 h3 hlt2
  have IMP : Hid (∀ (u0 : Value) (B0 : Nat) (al' : Option Addr) (cl' : Nat) (at' : Option Addr) (ct' : Nat) (W : World), Hid (OwnI W B0 u0 ws) → Hid (IntsAt W al' lv) → Hid (TextsAt W at' tx) → Calls Try.prog 20 #[.agg #[.int .i64 c, .int .i64 r, .int .i64 q, .int .i64 a, .int .i64 b, u0], .int .i64 f, .slice al' lv.length cl', .slice at' tx.length ct'] W fun e w' => ∃ v vi, e = .returned (.tuple #[.agg #[.int .i64 c, .int .i64 r, .int .i64 Q, .int .i64 A, .int .i64 b, v], vi]) ∧ OwnI w' W.heap.size v ws ∧ SlI w' W.heap.size vi R ∧ Below W.heap.size W w') := fun u0 B0 al' cl' at' ct' W h h2 h3 => by rw [hR, hQ, hA]; exact number_any c r q a b f u0 ws B0 al' cl' lv at' ct' tx W h hl2 h2 hll2 h3 hlt2
  obtain ⟨l0, l1, l2, l3, l4, l5⟩ := (H0.out.stays B1 hN).cells
  have X1 : Hid (IntsAt w1' ao ws) := HX0.out.stays B1
  clear hz1 HS hltH hR hQ hA T1 hlft
  go_wp2_with fail
  refine (toTok_any c r q a b ao cap ws _ X1 hl2).mono ?_
  rintro e w2 ⟨v2, rfl, hv2', hb2⟩
  have B2 := bl_next B1 hb2
  have O2 : Hid (OwnI w2 w1'.heap.size v2 ws) := hv2'
  have Y2 : Hid (IntsAt w2 al lv) := HL0.out.stays B2
  clear hb2 hv2' X1 l0 l1 l2 l3 l4 l5 B1
  go_wp2_with fail
  refine (toI_any w2 al cl lv Y2 hll2).mono ?_
  rintro e w3 ⟨v3, rfl, hv3, hb3⟩
  have B3 := bl_next B2 hb3
  replace O2 : Hid (OwnI w3 w1'.heap.size v2 ws) := own_later O2.out hb3
  obtain ⟨a3, c3, rfl, x3⟩ := hv3.ints
  have Y3 : Hid (IntsAt w3 a3 lv) := x3
  have T3 : Hid (TextsAt w3 at_ tx) := HT0.out.stays B3
  clear hb3 hv3 x3 Y2 B2
  go_wp2_with fail
  refine (toS_any w3 at_ ct tx T3 hlt2).mono ?_
  rintro e w4 ⟨v4, rfl, hv4, hb4⟩
  have B4 := bl_next B3 hb4
  replace O2 : Hid (OwnI w4 w1'.heap.size v2 ws) := own_later O2.out hb4
  replace Y3 : Hid (IntsAt w4 a3 lv) := Y3.out.stays hb4
  obtain ⟨a4, c4, rfl, x4⟩ := hv4.texts
  have T4 : Hid (TextsAt w4 a4 tx) := x4
  clear hb4 hv4 x4 T3 B3
  go_wp2_with fail
  refine (SPC.out v2 _ a3 c3 a4 c4 w4 O2 Y3 T4).mono ?_
  rintro e w5 ⟨vS, viS, rfl, hvS, hiS, hb5⟩
  have B5 := bl_next B4 hb5
  obtain ⟨aoS, capS, hfS⟩ := hvS.form
  subst hfS
  have KB : Hid (TokAt (w5.alloc (.cells #[.int .i64 c, .int .i64 r, .int .i64 Q, .int .i64 A, .int .i64 b, .slice aoS ws.length capS] 30)) w5.heap.size c r Q A b (.slice aoS ws.length capS)) := heap_alloc_new w5 _
  have KV : Hid (OwnI (w5.alloc (.cells #[.int .i64 c, .int .i64 r, .int .i64 Q, .int .i64 A, .int .i64 b, .slice aoS ws.length capS] 30)) w4.heap.size (.slice aoS ws.length capS) ws) := hvS.alloc _
  have KI : Hid (SlI (w5.alloc (.cells #[.int .i64 c, .int .i64 r, .int .i64 Q, .int .i64 A, .int .i64 b, .slice aoS ws.length capS] 30)) w4.heap.size viS R) := hiS.below ((Below.refl _ _).alloc (Nat.le_refl _) _)
  have B6 : Below W0.heap.size W0 (w5.alloc (.cells #[.int .i64 c, .int .i64 r, .int .i64 Q, .int .i64 A, .int .i64 b, .slice aoS ws.length capS] 30)) := B5.alloc B5.size _
  have X6 : Hid (IntsAt (w5.alloc (.cells #[.int .i64 c, .int .i64 r, .int .i64 Q, .int .i64 A, .int .i64 b, .slice aoS ws.length capS] 30)) ao ws) := HX0.out.stays B6
  obtain ⟨l0, l1, l2, l3, l4, l5⟩ := (H0.out.stays B6 hN).cells
  clear hb5 hvS hiS O2 Y3 T4 B4 B5 SPC
  go_wp2_with fail
  generalize w5.alloc (.cells #[.int .i64 c, .int .i64 r, .int .i64 Q, .int .i64 A, .int .i64 b, .slice aoS ws.length capS] 30) = WK at *
  generalize w5.heap.size = gK at *
  have zK : gK < WK.heap.size := KB.out.lt
  have z6 : W0.heap.size ≤ WK.heap.size := B6.size
  refine (toTok_any c r q a b ao cap ws _ X6 hl2).mono ?_
  rintro e w6 ⟨vX, rfl, hvX, hb6⟩
  obtain ⟨aoX, capX, hfX⟩ := hvX.form
  subst hfX
  have XL : Hid (∀ k, (Value.slice aoX ws.length capX).ownBlock = some k → WK.heap.size ≤ k ∧ k < w6.heap.size) := hvX.lt
  have XB : Hid (TokAt (w6.alloc (.cells #[.int .i64 c, .int .i64 r, .int .i64 q, .int .i64 a, .int .i64 b, .slice aoX ws.length capX] 30)) w6.heap.size c r q a b (.slice aoX ws.length capX)) := heap_alloc_new w6 _
  have XV : Hid (OwnI (w6.alloc (.cells #[.int .i64 c, .int .i64 r, .int .i64 q, .int .i64 a, .int .i64 b, .slice aoX ws.length capX] 30)) WK.heap.size (.slice aoX ws.length capX) ws) := hvX.alloc _
  have BK : Below WK.heap.size WK (w6.alloc (.cells #[.int .i64 c, .int .i64 r, .int .i64 q, .int .i64 a, .int .i64 b, .slice aoX ws.length capX] 30)) := hb6.alloc hb6.size _
  have Y6 : Hid (IntsAt (w6.alloc (.cells #[.int .i64 c, .int .i64 r, .int .i64 q, .int .i64 a, .int .i64 b, .slice aoX ws.length capX] 30)) al lv) := HL0.out.stays (bl_next B6 BK)
  clear hb6 hvX X6 l0 l1 l2 l3 l4 l5
  go_wp2_with fail
  generalize w6.alloc (.cells #[.int .i64 c, .int .i64 r, .int .i64 q, .int .i64 a, .int .i64 b, .slice aoX ws.length capX] 30) = WX at *
  generalize w6.heap.size = gX at *
  have zKX : WK.heap.size ≤ WX.heap.size := BK.size
  have zX : gX < WX.heap.size := XB.out.lt
  refine (toI_any WX al cl lv Y6 hll2).mono ?_
  rintro e w7 ⟨vL, rfl, hvL, hb7⟩
  replace XB : Hid (TokAt w7 gX c r q a b (.slice aoX ws.length capX)) := XB.out.stays hb7 XB.out.lt
  replace XV : Hid (OwnI w7 WK.heap.size (.slice aoX ws.length capX) ws) := own_later XV.out hb7
  replace BK := bl_next BK hb7
  obtain ⟨aL, cL, hfL⟩ := hvL.form
  subst hfL
  have LL : Hid (OwnI w7 WX.heap.size (.slice aL lv.length cL) lv) := hvL
  have LK : Hid (∀ k, (Value.slice aL lv.length cL).ownBlock = some k → WX.heap.size ≤ k ∧ k < w7.heap.size) := hvL.lt
  have z7 : WX.heap.size ≤ w7.heap.size := hb7.size
  have T7 : Hid (TextsAt w7 at_ tx) := HT0.out.stays (bl_next B6 BK)
  clear hb7 hvL Y6
  go_wp2_with fail
  refine (toS_any w7 at_ ct tx T7 hlt2).mono ?_
  rintro e w8 ⟨vT, rfl, hvT, hb8⟩
  replace XB : Hid (TokAt w8 gX c r q a b (.slice aoX ws.length capX)) := XB.out.stays hb8 XB.out.lt
  replace XV : Hid (OwnI w8 WK.heap.size (.slice aoX ws.length capX) ws) := own_later XV.out hb8
  replace LL : Hid (OwnI w8 WX.heap.size (.slice aL lv.length cL) lv) := own_later LL.out hb8
  replace BK := bl_next BK hb8
  obtain ⟨aT, cT, hfT⟩ := hvT.form
  subst hfT
  have TT : Hid (OwnS w8 w7.heap.size (.slice aT tx.length cT) tx) := hvT
  have TK : Hid (∀ k, (Value.slice aT tx.length cT).ownBlock = some k → w7.heap.size ≤ k ∧ k < w8.heap.size) := hvT.lt
  have z8 : w7.heap.size ≤ w8.heap.size := hb8.size
  obtain ⟨aL', cL', eL, xL⟩ := LL.out.ints
  have YL : Hid (IntsAt w8 aL lv) := by
    simp only [Value.slice.injEq] at eL
    rw [eL.1]
    exact xL
  obtain ⟨aT', cT', eT, xT⟩ := TT.out.texts
  have YT : Hid (TextsAt w8 aT tx) := by
    simp only [Value.slice.injEq] at eT
    rw [eT.1]
    exact xT
  obtain ⟨t0, t1, t2, t3, t4, t5⟩ := XB.out.cells
  clear hb8 hvT T7 eL xL eT xT
  go_wp2_with fail
  refine (IMP.out _ _ aL cL aT cT w8 XV YL YT).mono ?_
  rintro e w9 ⟨vG, viG, rfl, hvG, hiG, hb9⟩
  obtain ⟨aoG, capG, hfG⟩ := hvG.form
  subst hfG
  have GL : Hid (∀ k, (Value.slice aoG ws.length capG).ownBlock = some k → w8.heap.size ≤ k ∧ k < w9.heap.size) := hvG.lt
  have GK : Hid (∀ k, viG.ownBlock = some k → w8.heap.size ≤ k ∧ k < w9.heap.size) := hiG.lt
  have GB : Hid (TokAt (w9.alloc (.cells #[.int .i64 c, .int .i64 r, .int .i64 Q, .int .i64 A, .int .i64 b, .slice aoG ws.length capG] 30)) w9.heap.size c r Q A b (.slice aoG ws.length capG)) := heap_alloc_new w9 _
  have GV : Hid (OwnI (w9.alloc (.cells #[.int .i64 c, .int .i64 r, .int .i64 Q, .int .i64 A, .int .i64 b, .slice aoG ws.length capG] 30)) w8.heap.size (.slice aoG ws.length capG) ws) := hvG.alloc _
  have GI : Hid (SlI (w9.alloc (.cells #[.int .i64 c, .int .i64 r, .int .i64 Q, .int .i64 A, .int .i64 b, .slice aoG ws.length capG] 30)) w8.heap.size viG R) := hiG.below ((Below.refl _ _).alloc (Nat.le_refl _) _)
  have hb9' : Below w8.heap.size w8 (w9.alloc (.cells #[.int .i64 c, .int .i64 r, .int .i64 Q, .int .i64 A, .int .i64 b, .slice aoG ws.length capG] 30)) := hb9.alloc hb9.size _
  have z9 : w8.heap.size ≤ w9.heap.size := hb9.size
  replace XB : Hid (TokAt (w9.alloc (.cells #[.int .i64 c, .int .i64 r, .int .i64 Q, .int .i64 A, .int .i64 b, .slice aoG ws.length capG] 30)) gX c r q a b (.slice aoX ws.length capX)) := XB.out.stays hb9' XB.out.lt
  replace XV : Hid (OwnI (w9.alloc (.cells #[.int .i64 c, .int .i64 r, .int .i64 Q, .int .i64 A, .int .i64 b, .slice aoG ws.length capG] 30)) WK.heap.size (.slice aoX ws.length capX) ws) := own_later XV.out hb9'
  replace LL : Hid (OwnI (w9.alloc (.cells #[.int .i64 c, .int .i64 r, .int .i64 Q, .int .i64 A, .int .i64 b, .slice aoG ws.length capG] 30)) WX.heap.size (.slice aL lv.length cL) lv) := own_later LL.out hb9'
  replace TT : Hid (OwnS (w9.alloc (.cells #[.int .i64 c, .int .i64 r, .int .i64 Q, .int .i64 A, .int .i64 b, .slice aoG ws.length capG] 30)) w7.heap.size (.slice aT tx.length cT) tx) := ownS_later TT.out hb9'
  replace BK := bl_next BK hb9'
  have GX : Hid (∀ k, (Value.slice aoG ws.length capG).ownBlock = some k → viG.ownBlock ≠ some k) := sl_own_ne GI.out GV.out
  obtain ⟨g0, g1, g2, g3, g4, g5⟩ := GB.out.cells
  obtain ⟨k0, k1, k2, k3, k4, k5⟩ := (KB.out.stays BK zK).cells
  have KV9 : Hid (OwnI (w9.alloc (.cells #[.int .i64 c, .int .i64 r, .int .i64 Q, .int .i64 A, .int .i64 b, .slice aoG ws.length capG] 30)) w4.heap.size (.slice aoS ws.length capS) ws) := own_later KV.out BK
  clear hb9 hb9' hvG hiG YL YT t0 t1 t2 t3 t4 t5
  go_wp2_with fail
  generalize (w9.alloc (.cells #[.int .i64 c, .int .i64 r, .int .i64 Q, .int .i64 A, .int .i64 b, .slice aoG ws.length capG] 30)) = WG at *
  generalize w9.heap.size = gG at *
  have zG : gG < WG.heap.size := GB.out.lt
  refine (eqTok_same c r Q A b _ _ ws _ _ _ GV KV9 hl2).mono ?_
  rintro e wA ⟨rfl, bA⟩
  replace XB : Hid (TokAt wA gX c r q a b (.slice aoX ws.length capX)) := XB.out.stays bA XB.out.lt
  replace XV : Hid (OwnI wA WK.heap.size (.slice aoX ws.length capX) ws) := own_later XV.out bA
  replace LL : Hid (OwnI wA WX.heap.size (.slice aL lv.length cL) lv) := own_later LL.out bA
  replace TT : Hid (OwnS wA w7.heap.size (.slice aT tx.length cT) tx) := ownS_later TT.out bA
  replace GB : Hid (TokAt wA gG c r Q A b (.slice aoG ws.length capG)) := GB.out.stays bA GB.out.lt
  replace GV : Hid (OwnI wA w8.heap.size (.slice aoG ws.length capG) ws) := own_later GV.out bA
  replace GI : Hid (SlI wA w8.heap.size viG R) := GI.out.below bA
  replace BK := bl_next BK bA
  have KIA : Hid (SlI wA w4.heap.size viS R) := KI.out.below BK
  clear bA KV9 g0 g1 g2 g3 g4 g5 k0 k1 k2 k3 k4 k5
  go_wp2_with fail
  refine (eqItems_sl viG viS R _ _ wA GI.out KIA.out hRl).mono ?_
  rintro e wB ⟨rfl, bB⟩
  replace XB : Hid (TokAt wB gX c r q a b (.slice aoX ws.length capX)) := XB.out.stays bB XB.out.lt
  replace XV : Hid (OwnI wB WK.heap.size (.slice aoX ws.length capX) ws) := own_later XV.out bB
  replace LL : Hid (OwnI wB WX.heap.size (.slice aL lv.length cL) lv) := own_later LL.out bB
  replace TT : Hid (OwnS wB w7.heap.size (.slice aT tx.length cT) tx) := ownS_later TT.out bB
  replace GB : Hid (TokAt wB gG c r Q A b (.slice aoG ws.length capG)) := GB.out.stays bB GB.out.lt
  replace GV : Hid (OwnI wB w8.heap.size (.slice aoG ws.length capG) ws) := own_later GV.out bB
  replace GI : Hid (SlI wB w8.heap.size viG R) := GI.out.below bB
  replace BK := bl_next BK bB
  have B9 : Below W0.heap.size W0 wB := bl_next B6 BK
  have L9 : Hid (LtokAt wB w.heap.size c r q a b (.slice ao ws.length cap)) := H0.out.stays B9 hN
  have X9d : Hid (IntsAt wB.drew ao ws) := HX0.out.stays (bl_next B9 (Below.refl _ _).drew)
  have HK : ∀ w', Below wB.heap.size wB w' → ((w'.cell? ⟨gX, 0, none⟩ = some (.int .i64 c) ∧ w'.cell? ⟨gX, 1, none⟩ = some (.int .i64 r) ∧ w'.cell? ⟨gX, 2, none⟩ = some (.int .i64 q) ∧ w'.cell? ⟨gX, 3, none⟩ = some (.int .i64 a) ∧ w'.cell? ⟨gX, 4, none⟩ = some (.int .i64 b) ∧ w'.cell? ⟨gX, 5, none⟩ = some (.slice aoX ws.length capX)) ∧ (w'.cell? ⟨w.heap.size, 0, none⟩ = some (.int .i64 c) ∧ w'.cell? ⟨w.heap.size, 1, none⟩ = some (.int .i64 r) ∧ w'.cell? ⟨w.heap.size, 2, none⟩ = some (.int .i64 q) ∧ w'.cell? ⟨w.heap.size, 3, none⟩ = some (.int .i64 a) ∧ w'.cell? ⟨w.heap.size, 4, none⟩ = some (.int .i64 b) ∧ w'.cell? ⟨w.heap.size, 5, none⟩ = some (.slice ao ws.length cap))) ∧ Hid (Below wB.heap.size wB w') := fun w' hb => ⟨⟨(XB.out.stays hb XB.out.lt).cells, (L9.out.stays hb (Array.getElem?_eq_some_iff.1 L9.out).1).cells⟩, hb⟩
  have HI := HK wB.drew (Below.refl _ _).drew
  have HH : Hid _ := HK
  clear bB KIA HK
  go_wp2_with fail
  go_region_held3 (fun w' => ((w'.cell? ⟨gX, 0, none⟩ = some (.int .i64 c) ∧ w'.cell? ⟨gX, 1, none⟩ = some (.int .i64 r) ∧ w'.cell? ⟨gX, 2, none⟩ = some (.int .i64 q) ∧ w'.cell? ⟨gX, 3, none⟩ = some (.int .i64 a) ∧ w'.cell? ⟨gX, 4, none⟩ = some (.int .i64 b) ∧ w'.cell? ⟨gX, 5, none⟩ = some (.slice aoX ws.length capX)) ∧ (w'.cell? ⟨w.heap.size, 0, none⟩ = some (.int .i64 c) ∧ w'.cell? ⟨w.heap.size, 1, none⟩ = some (.int .i64 r) ∧ w'.cell? ⟨w.heap.size, 2, none⟩ = some (.int .i64 q) ∧ w'.cell? ⟨w.heap.size, 3, none⟩ = some (.int .i64 a) ∧ w'.cell? ⟨w.heap.size, 4, none⟩ = some (.int .i64 b) ∧ w'.cell? ⟨w.heap.size, 5, none⟩ = some (.slice ao ws.length cap))) ∧ Hid (Below wB.heap.size wB w')) (first | exact HI | assumption) (first | (go_at_call 39; refine (toTok_any c r q a b ao cap ws _ X9d hl2).mono ?_; rintro e wp ⟨v7, rfl, hv7, hb7⟩; have hk7 := HH.out wp ((Below.refl wB.heap.size wB).drew.trans hb7)) | (go_at_call 33; refine (eqTok_same c r q a b _ _ ws _ _ _ (show Hid (OwnI _ _ _ ws) from own_later XV.out hk7.2.out) (show Hid (OwnI _ _ _ ws) from hv7) hl2).mono ?_; rintro e wq ⟨rfl, hb8⟩; have hk8 := HH.out wq (hk7.2.out.trans (hb8.mono hk7.2.out.size))))
  have cq : Below wB.heap.size wB wq := hk8.2.out
  replace XB : Hid (TokAt wq gX c r q a b (.slice aoX ws.length capX)) := XB.out.stays cq XB.out.lt
  replace XV : Hid (OwnI wq WK.heap.size (.slice aoX ws.length capX) ws) := own_later XV.out cq
  replace LL : Hid (OwnI wq WX.heap.size (.slice aL lv.length cL) lv) := own_later LL.out cq
  replace TT : Hid (OwnS wq w7.heap.size (.slice aT tx.length cT) tx) := ownS_later TT.out cq
  replace GB : Hid (TokAt wq gG c r Q A b (.slice aoG ws.length capG)) := GB.out.stays cq GB.out.lt
  replace GV : Hid (OwnI wq w8.heap.size (.slice aoG ws.length capG) ws) := own_later GV.out cq
  replace GI : Hid (SlI wq w8.heap.size viG R) := GI.out.below cq
  replace BK := bl_next BK cq
  have Yq : Hid (IntsAt wq al lv) := HL0.out.stays (bl_next B6 BK)
  clear hk8 hb8 cq hk7 hv7 hb7 HH HI L9 X9d B9
  go_wp2_with fail
  refine (toI_any wq al cl lv Yq hll2).mono ?_
  rintro e wr ⟨vr, rfl, hvr, br⟩
  replace XB : Hid (TokAt wr gX c r q a b (.slice aoX ws.length capX)) := XB.out.stays br XB.out.lt
  replace XV : Hid (OwnI wr WK.heap.size (.slice aoX ws.length capX) ws) := own_later XV.out br
  replace LL : Hid (OwnI wr WX.heap.size (.slice aL lv.length cL) lv) := own_later LL.out br
  replace TT : Hid (OwnS wr w7.heap.size (.slice aT tx.length cT) tx) := ownS_later TT.out br
  replace GB : Hid (TokAt wr gG c r Q A b (.slice aoG ws.length capG)) := GB.out.stays br GB.out.lt
  replace GV : Hid (OwnI wr w8.heap.size (.slice aoG ws.length capG) ws) := own_later GV.out br
  replace GI : Hid (SlI wr w8.heap.size viG R) := GI.out.below br
  replace BK := bl_next BK br
  obtain ⟨ar, cr, hfr⟩ := hvr.form
  subst hfr
  clear br Yq
  go_wp2_with fail
  refine (eqI_same _ _ lv _ _ wr LL.out hvr hll2).mono ?_
  rintro e ws1 ⟨rfl, bs⟩
  replace XB : Hid (TokAt ws1 gX c r q a b (.slice aoX ws.length capX)) := XB.out.stays bs XB.out.lt
  replace XV : Hid (OwnI ws1 WK.heap.size (.slice aoX ws.length capX) ws) := own_later XV.out bs
  replace LL : Hid (OwnI ws1 WX.heap.size (.slice aL lv.length cL) lv) := own_later LL.out bs
  replace TT : Hid (OwnS ws1 w7.heap.size (.slice aT tx.length cT) tx) := ownS_later TT.out bs
  replace GB : Hid (TokAt ws1 gG c r Q A b (.slice aoG ws.length capG)) := GB.out.stays bs GB.out.lt
  replace GV : Hid (OwnI ws1 w8.heap.size (.slice aoG ws.length capG) ws) := own_later GV.out bs
  replace GI : Hid (SlI ws1 w8.heap.size viG R) := GI.out.below bs
  replace BK := bl_next BK bs
  have Ts : Hid (TextsAt ws1 at_ tx) := HT0.out.stays (bl_next B6 BK)
  clear bs hvr
  go_wp2_with fail
  refine (toS_any ws1 at_ ct tx Ts hlt2).mono ?_
  rintro e wt ⟨vt, rfl, hvt, bt⟩
  replace XB : Hid (TokAt wt gX c r q a b (.slice aoX ws.length capX)) := XB.out.stays bt XB.out.lt
  replace XV : Hid (OwnI wt WK.heap.size (.slice aoX ws.length capX) ws) := own_later XV.out bt
  replace LL : Hid (OwnI wt WX.heap.size (.slice aL lv.length cL) lv) := own_later LL.out bt
  replace TT : Hid (OwnS wt w7.heap.size (.slice aT tx.length cT) tx) := ownS_later TT.out bt
  replace GB : Hid (TokAt wt gG c r Q A b (.slice aoG ws.length capG)) := GB.out.stays bt GB.out.lt
  replace GV : Hid (OwnI wt w8.heap.size (.slice aoG ws.length capG) ws) := own_later GV.out bt
  replace GI : Hid (SlI wt w8.heap.size viG R) := GI.out.below bt
  replace BK := bl_next BK bt
  obtain ⟨at2, ct2, hft⟩ := hvt.form
  subst hft
  clear bt Ts
  go_wp2_with fail
  refine (eqS_same _ _ tx _ _ wt TT.out hvt (by omega)).mono ?_
  rintro e wu ⟨rfl, bu⟩
  replace XB : Hid (TokAt wu gX c r q a b (.slice aoX ws.length capX)) := XB.out.stays bu XB.out.lt
  replace XV : Hid (OwnI wu WK.heap.size (.slice aoX ws.length capX) ws) := own_later XV.out bu
  replace LL : Hid (OwnI wu WX.heap.size (.slice aL lv.length cL) lv) := own_later LL.out bu
  replace TT : Hid (OwnS wu w7.heap.size (.slice aT tx.length cT) tx) := ownS_later TT.out bu
  replace GB : Hid (TokAt wu gG c r Q A b (.slice aoG ws.length capG)) := GB.out.stays bu GB.out.lt
  replace GV : Hid (OwnI wu w8.heap.size (.slice aoG ws.length capG) ws) := own_later GV.out bu
  replace GI : Hid (SlI wu w8.heap.size viG R) := GI.out.below bu
  replace BK := bl_next BK bu
  obtain ⟨t0, t1, t2, t3, t4, t5⟩ := XB.out.cells
  clear bu hvt
  go_wp2_with fail
  refine (markTok_any c r q a b _ ws WK.heap.size 1 _ XV (by omega) (by omega)).mono ?_
  rintro e wv ⟨rfl, _, Gv⟩
  replace BK : Below WK.heap.size WK wv := BK.grown Gv (Nat.le_trans (by omega) BK.size) (fun k hk => (XL.out k hk).1)
  replace LL : Hid (OwnI wv WX.heap.size (.slice aL lv.length cL) lv) := LL.out.kept Gv (fun k hk he => by have := (LL.out.lt k hk).1; have := (XL.out k he.symm).2; omega)
  replace TT : Hid (OwnS wv w7.heap.size (.slice aT tx.length cT) tx) := ownS_kept TT.out Gv (fun k hk he => by have := (TT.out.lt k hk).1; have := (XL.out k he.symm).2; omega)
  replace GB : Hid (TokAt wv gG c r Q A b (.slice aoG ws.length capG)) := (Gv.block gG GB.out.lt (fun h => by have := (XL.out gG h.symm).2; omega)).trans GB.out
  replace GV : Hid (OwnI wv w8.heap.size (.slice aoG ws.length capG) ws) := GV.out.kept Gv (fun k hk h => by have := (XL.out k h.symm).2; have := (GL.out k hk).1; omega)
  replace GI : Hid (SlI wv w8.heap.size viG R) := GI.out.kept Gv (fun k hk h => by have := (XL.out k h.symm).2; have := (GK.out k hk).1; omega)
  clear Gv XB XV t0 t1 t2 t3 t4 t5
  go_wp2_with fail
  refine (markI_any _ lv WX.heap.size (1 + ws.length) wv LL.out (by omega) (by omega)).mono ?_
  rintro e wx ⟨rfl, _, Gx⟩
  replace BK : Below WK.heap.size WK wx := BK.grown Gx (Nat.le_trans (by omega) BK.size) (fun k hk => by have := (LK.out k hk).1; omega)
  replace TT : Hid (OwnS wx w7.heap.size (.slice aT tx.length cT) tx) := ownS_kept TT.out Gx (fun k hk he => by have := (TT.out.lt k hk).1; have := (LK.out k he.symm).2; omega)
  replace GB : Hid (TokAt wx gG c r Q A b (.slice aoG ws.length capG)) := (Gx.block gG GB.out.lt (fun h => by have := (LK.out gG h.symm).2; omega)).trans GB.out
  replace GV : Hid (OwnI wx w8.heap.size (.slice aoG ws.length capG) ws) := GV.out.kept Gx (fun k hk h => by have := (LK.out k h.symm).2; have := (GL.out k hk).1; omega)
  replace GI : Hid (SlI wx w8.heap.size viG R) := GI.out.kept Gx (fun k hk h => by have := (LK.out k h.symm).2; have := (GK.out k hk).1; omega)
  clear Gx LL
  go_wp2_with fail
  refine (markSt_any _ tx w7.heap.size (1 + ws.length + lv.length) wx TT.out (by omega) (by omega)).mono ?_
  rintro e wy ⟨rfl, Gy⟩
  replace BK : Below WK.heap.size WK wy := BK.grown Gy (Nat.le_trans (by omega) BK.size) (fun k hk => by have := (TK.out k hk).1; omega)
  replace GB : Hid (TokAt wy gG c r Q A b (.slice aoG ws.length capG)) := (Gy.block gG GB.out.lt (fun h => by have := (TK.out gG h.symm).2; omega)).trans GB.out
  replace GV : Hid (OwnI wy w8.heap.size (.slice aoG ws.length capG) ws) := GV.out.kept Gy (fun k hk h => by have := (TK.out k h.symm).2; have := (GL.out k hk).1; omega)
  replace GI : Hid (SlI wy w8.heap.size viG R) := GI.out.kept Gy (fun k hk h => by have := (TK.out k h.symm).2; have := (GK.out k hk).1; omega)
  obtain ⟨z99, hz99⟩ : ∃ z99 : Nat, 1 + ws.length + lv.length + tx.length = z99 := ⟨_, rfl⟩
  rw [hz99]
  have hz99 : decide ((z99 : Int) < 0) = false := by simp
  have KVy : Hid (OwnI wy w4.heap.size (.slice aoS ws.length capS) ws) := own_later KV.out BK
  obtain ⟨g0, g1, g2, g3, g4, g5⟩ := GB.out.cells
  obtain ⟨k0, k1, k2, k3, k4, k5⟩ := (KB.out.stays BK zK).cells
  clear Gy TT
  go_wp2_with fail
  refine (eqTok_same c r Q A b _ _ ws _ _ _ GV KVy hl2).mono ?_
  rintro e wz ⟨rfl, bz⟩
  replace GB : Hid (TokAt wz gG c r Q A b (.slice aoG ws.length capG)) := GB.out.stays bz GB.out.lt
  replace GV : Hid (OwnI wz w8.heap.size (.slice aoG ws.length capG) ws) := own_later GV.out bz
  replace GI : Hid (SlI wz w8.heap.size viG R) := GI.out.below bz
  replace BK := bl_next BK bz
  have KIz : Hid (SlI wz w4.heap.size viS R) := KI.out.below BK
  clear bz KVy g0 g1 g2 g3 g4 g5 k0 k1 k2 k3 k4 k5
  go_wp2_with fail
  refine (eqItems_sl viG viS R _ _ wz GI.out KIz.out hRl).mono ?_
  rintro e wa ⟨rfl, ba⟩
  replace GB : Hid (TokAt wa gG c r Q A b (.slice aoG ws.length capG)) := GB.out.stays ba GB.out.lt
  replace GV : Hid (OwnI wa w8.heap.size (.slice aoG ws.length capG) ws) := own_later GV.out ba
  replace GI : Hid (SlI wa w8.heap.size viG R) := GI.out.below ba
  replace BK := bl_next BK ba
  obtain ⟨g0, g1, g2, g3, g4, g5⟩ := GB.out.cells
  clear ba KIz hz99
  go_wp2_with fail
  refine (markTok_any c r Q A b _ ws w8.heap.size 1 _ GV (by omega) (by omega)).mono ?_
  rintro e wb ⟨rfl, hvb, Gb⟩
  replace BK : Below WK.heap.size WK wb := BK.grown Gb (Nat.le_trans (by omega) BK.size) (fun k hk => by have := (GL.out k hk).1; omega)
  replace GB : Hid (TokAt wb gG c r Q A b (.slice aoG ws.length capG)) := (Gb.block gG GB.out.lt (fun h => by have := (GL.out gG h.symm).2; omega)).trans GB.out
  replace GI : Hid (SlI wb w8.heap.size viG R) := GI.out.kept Gb (fun k hk h => GX.out k h.symm hk)
  replace GV : Hid (OwnI wb w8.heap.size (.slice aoG ws.length capG) (marks 1 ws.length)) := hvb
  clear hvb Gb g0 g1 g2 g3 g4 g5
  go_wp2_with fail
  refine (markItems_any viG R w8.heap.size (1 + ws.length) wb GI (by omega) (by omega)).mono ?_
  rintro e wc ⟨rfl, hic, Gc⟩
  replace BK : Below WK.heap.size WK wc := BK.grown Gc (Nat.le_trans (by omega) BK.size) (fun k hk => by have := (GK.out k hk).1; omega)
  replace GB : Hid (TokAt wc gG c r Q A b (.slice aoG ws.length capG)) := (Gc.block gG GB.out.lt (fun h => by have := (GK.out gG h.symm).2; omega)).trans GB.out
  replace GV : Hid (OwnI wc w8.heap.size (.slice aoG ws.length capG) (marks 1 ws.length)) := GV.out.kept Gc (fun k hk h => GX.out k hk h.symm)
  replace GI : Hid (SlI wc w8.heap.size viG (mkI (1 + ws.length) R.length)) := hic
  obtain ⟨M1, hM1⟩ : ∃ M : Nat, 1 + ws.length = M := ⟨_, rfl⟩
  obtain ⟨M, hM⟩ : ∃ M : Nat, 1 + ws.length + 4 * R.length = M := ⟨_, rfl⟩
  have HM1 : Hid (1 + ws.length = M1) := hM1
  have HM : Hid (1 + ws.length + 4 * R.length = M) := hM
  rw [hM]
  have hM10 : decide ((M1 : Int) < 0) = false := by simp
  have hM0 : decide ((M : Int) < 0) = false := by simp
  obtain ⟨g0, g1, g2, g3, g4, g5⟩ := GB.out.cells
  clear hic Gc hM hM1
  go_wp2_with fail
  refine (heldTok_any c r Q A b _ ws.length w8.heap.size 1 _ GV (by omega) (by omega)).mono ?_
  rintro e wd ⟨rfl, bd⟩
  rw [HM1.out]
  replace GB : Hid (TokAt wd gG c r Q A b (.slice aoG ws.length capG)) := GB.out.stays bd GB.out.lt
  replace GV : Hid (OwnI wd w8.heap.size (.slice aoG ws.length capG) (marks 1 ws.length)) := own_later GV.out bd
  replace GI : Hid (SlI wd w8.heap.size viG (mkI (1 + ws.length) R.length)) := GI.out.below bd
  replace BK := bl_next BK bd
  clear bd g0 g1 g2 g3 g4 g5
  go_wp2_with fail
  have HD1 : Hid (Calls Try.prog 48 #[viG, .int .i64 M1] wd fun e w' => e = .returned (.int .i64 M) ∧ Below wd.heap.size wd w') := by
    have h := heldItems_any viG R.length w8.heap.size (1 + ws.length) wd GI (by omega) (by omega)
    rw [HM.out, HM1.out] at h
    exact h
  refine (show Calls _ _ _ _ _ from HD1.out).mono ?_
  rintro e we ⟨rfl, be⟩
  replace GB : Hid (TokAt we gG c r Q A b (.slice aoG ws.length capG)) := GB.out.stays be GB.out.lt
  replace GV : Hid (OwnI we w8.heap.size (.slice aoG ws.length capG) (marks 1 ws.length)) := own_later GV.out be
  replace GI : Hid (SlI we w8.heap.size viG (mkI (1 + ws.length) R.length)) := GI.out.below be
  replace BK := bl_next BK be
  have Be : Below W0.heap.size W0 we := bl_next B6 BK
  have Xe : Hid (IntsAt we ao ws) := HX0.out.stays Be
  obtain ⟨l0, l1, l2, l3, l4, l5⟩ := (H0.out.stays Be hN).cells
  clear be HD1
  go_wp2_with fail
  refine (toTok_any c r q a b ao cap ws _ Xe hl2).mono ?_
  rintro e wf ⟨vf, rfl, hvf, bf⟩
  replace GB : Hid (TokAt wf gG c r Q A b (.slice aoG ws.length capG)) := GB.out.stays bf GB.out.lt
  replace GV : Hid (OwnI wf w8.heap.size (.slice aoG ws.length capG) (marks 1 ws.length)) := own_later GV.out bf
  replace GI : Hid (SlI wf w8.heap.size viG (mkI (1 + ws.length) R.length)) := GI.out.below bf
  replace BK := bl_next BK bf
  have Of : Hid (OwnI wf we.heap.size vf ws) := hvf
  have Yf : Hid (IntsAt wf al lv) := HL0.out.stays (bl_next B6 BK)
  clear bf hvf Xe Be l0 l1 l2 l3 l4 l5
  go_wp2_with fail
  refine (toI_any wf al cl lv Yf hll2).mono ?_
  rintro e wg ⟨vg, rfl, hvg, bg⟩
  replace GB : Hid (TokAt wg gG c r Q A b (.slice aoG ws.length capG)) := GB.out.stays bg GB.out.lt
  replace GV : Hid (OwnI wg w8.heap.size (.slice aoG ws.length capG) (marks 1 ws.length)) := own_later GV.out bg
  replace GI : Hid (SlI wg w8.heap.size viG (mkI (1 + ws.length) R.length)) := GI.out.below bg
  replace BK := bl_next BK bg
  replace Of : Hid (OwnI wg we.heap.size vf ws) := own_later Of.out bg
  obtain ⟨ag, cg, rfl, xg⟩ := hvg.ints
  have Yg : Hid (IntsAt wg ag lv) := xg
  have Tg : Hid (TextsAt wg at_ tx) := HT0.out.stays (bl_next B6 BK)
  clear bg hvg xg Yf
  go_wp2_with fail
  refine (toS_any wg at_ ct tx Tg hlt2).mono ?_
  rintro e wh ⟨vh, rfl, hvh, bh⟩
  replace GB : Hid (TokAt wh gG c r Q A b (.slice aoG ws.length capG)) := GB.out.stays bh GB.out.lt
  replace GV : Hid (OwnI wh w8.heap.size (.slice aoG ws.length capG) (marks 1 ws.length)) := own_later GV.out bh
  replace GI : Hid (SlI wh w8.heap.size viG (mkI (1 + ws.length) R.length)) := GI.out.below bh
  replace BK := bl_next BK bh
  replace Of : Hid (OwnI wh we.heap.size vf ws) := own_later Of.out bh
  replace Yg : Hid (IntsAt wh ag lv) := Yg.out.stays bh
  obtain ⟨ah, ch, rfl, xh⟩ := hvh.texts
  have Yh : Hid (TextsAt wh ah tx) := xh
  clear bh hvh xh Tg
  go_wp2_with fail
  refine (IMP.out vf _ ag cg ah ch wh Of Yg Yh).mono ?_
  rintro e wi ⟨vi, vii, rfl, hvi, hii, bi⟩
  obtain ⟨aoi, capi, hfi⟩ := hvi.form
  subst hfi
  have EB : Hid (TokAt (wi.alloc (.cells #[.int .i64 c, .int .i64 r, .int .i64 Q, .int .i64 A, .int .i64 b, .slice aoi ws.length capi] 30)) wi.heap.size c r Q A b (.slice aoi ws.length capi)) := heap_alloc_new wi _
  have EV : Hid (OwnI (wi.alloc (.cells #[.int .i64 c, .int .i64 r, .int .i64 Q, .int .i64 A, .int .i64 b, .slice aoi ws.length capi] 30)) wh.heap.size (.slice aoi ws.length capi) ws) := hvi.alloc _
  have EI : Hid (SlI (wi.alloc (.cells #[.int .i64 c, .int .i64 r, .int .i64 Q, .int .i64 A, .int .i64 b, .slice aoi ws.length capi] 30)) wh.heap.size vii R) := hii.below ((Below.refl _ _).alloc (Nat.le_refl _) _)
  have bi' : Below wh.heap.size wh (wi.alloc (.cells #[.int .i64 c, .int .i64 r, .int .i64 Q, .int .i64 A, .int .i64 b, .slice aoi ws.length capi] 30)) := bi.alloc bi.size _
  replace GB : Hid (TokAt (wi.alloc (.cells #[.int .i64 c, .int .i64 r, .int .i64 Q, .int .i64 A, .int .i64 b, .slice aoi ws.length capi] 30)) gG c r Q A b (.slice aoG ws.length capG)) := GB.out.stays bi' GB.out.lt
  replace GV : Hid (OwnI (wi.alloc (.cells #[.int .i64 c, .int .i64 r, .int .i64 Q, .int .i64 A, .int .i64 b, .slice aoi ws.length capi] 30)) w8.heap.size (.slice aoG ws.length capG) (marks 1 ws.length)) := own_later GV.out bi'
  replace GI : Hid (SlI (wi.alloc (.cells #[.int .i64 c, .int .i64 r, .int .i64 Q, .int .i64 A, .int .i64 b, .slice aoi ws.length capi] 30)) w8.heap.size viG (mkI (1 + ws.length) R.length)) := GI.out.below bi'
  replace BK := bl_next BK bi'
  have KVi : Hid (OwnI (wi.alloc (.cells #[.int .i64 c, .int .i64 r, .int .i64 Q, .int .i64 A, .int .i64 b, .slice aoi ws.length capi] 30)) w4.heap.size (.slice aoS ws.length capS) ws) := own_later KV.out BK
  obtain ⟨g0, g1, g2, g3, g4, g5⟩ := EB.out.cells
  obtain ⟨k0, k1, k2, k3, k4, k5⟩ := (KB.out.stays BK zK).cells
  clear bi bi' hvi hii Of Yg Yh
  go_wp2_with fail
  generalize (wi.alloc (.cells #[.int .i64 c, .int .i64 r, .int .i64 Q, .int .i64 A, .int .i64 b, .slice aoi ws.length capi] 30)) = WI at *
  refine (eqTok_same c r Q A b _ _ ws _ _ _ EV KVi hl2).mono ?_
  rintro e wj ⟨rfl, bj⟩
  replace GB : Hid (TokAt wj gG c r Q A b (.slice aoG ws.length capG)) := GB.out.stays bj GB.out.lt
  replace GV : Hid (OwnI wj w8.heap.size (.slice aoG ws.length capG) (marks 1 ws.length)) := own_later GV.out bj
  replace GI : Hid (SlI wj w8.heap.size viG (mkI (1 + ws.length) R.length)) := GI.out.below bj
  replace BK := bl_next BK bj
  have KIj : Hid (SlI wj w4.heap.size viS R) := KI.out.below BK
  replace EI : Hid (SlI wj wh.heap.size vii R) := EI.out.below bj
  clear bj KVi EB EV g0 g1 g2 g3 g4 g5 k0 k1 k2 k3 k4 k5
  go_wp2_with fail
  refine (eqItems_sl vii viS R _ _ wj EI.out KIj.out hRl).mono ?_
  rintro e wk ⟨rfl, bk1⟩
  replace GB : Hid (TokAt wk gG c r Q A b (.slice aoG ws.length capG)) := GB.out.stays bk1 GB.out.lt
  replace GV : Hid (OwnI wk w8.heap.size (.slice aoG ws.length capG) (marks 1 ws.length)) := own_later GV.out bk1
  replace GI : Hid (SlI wk w8.heap.size viG (mkI (1 + ws.length) R.length)) := GI.out.below bk1
  replace BK := bl_next BK bk1
  obtain ⟨g0, g1, g2, g3, g4, g5⟩ := GB.out.cells
  clear bk1 EI KIj
  go_wp2_with fail
  refine (heldTok_any c r Q A b _ ws.length w8.heap.size 1 _ GV (by omega) (by omega)).mono ?_
  rintro e wl ⟨rfl, bl⟩
  rw [HM1.out]
  replace GB : Hid (TokAt wl gG c r Q A b (.slice aoG ws.length capG)) := GB.out.stays bl GB.out.lt
  replace GV : Hid (OwnI wl w8.heap.size (.slice aoG ws.length capG) (marks 1 ws.length)) := own_later GV.out bl
  replace GI : Hid (SlI wl w8.heap.size viG (mkI (1 + ws.length) R.length)) := GI.out.below bl
  replace BK := bl_next BK bl
  clear bl g0 g1 g2 g3 g4 g5
  go_wp2_with fail
  have HD2 : Hid (Calls Try.prog 48 #[viG, .int .i64 M1] wl fun e w' => e = .returned (.int .i64 M) ∧ Below wl.heap.size wl w') := by
    have h := heldItems_any viG R.length w8.heap.size (1 + ws.length) wl GI (by omega) (by omega)
    rw [HM.out, HM1.out] at h
    exact h
  refine (show Calls _ _ _ _ _ from HD2.out).mono ?_
  rintro e wm ⟨rfl, bm⟩
  have BF : Below w.heap.size w wm := bl_next HB0.out (bl_next B6 (bl_next BK bm))
  clear bm HD2
  go_wp2_with fail
  go_ret
  exact ⟨rfl, BF⟩
end Go.Proofs.Ytnhnpneedcjcfaa
