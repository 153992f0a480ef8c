/- The law on TurnOk. Written by gen_ltu.py. -/
import Derived.Test.YthdjkkiegecgnaaTu
import Derived.Test.YthdjkkiegecgnaaRs
import Derived.Test.YthdjkkiegecgnaaLr
namespace Go.Proofs.Ythdjkkiegecgnaa
open Go.RowKit Pl
set_option linter.unusedVariables false
set_option linter.unusedSimpArgs false

theorem two_boxes {W w : World} {gr ge : Nat} {T1 T2 : TypeId} {c1 c2 : List Value} (h1 : Bx W gr T1 c1) (h2 : Bx W ge T2 c2) (hb : Below W.heap.size W w) : Bx w gr T1 c1 ∧ Bx w ge T2 c2 := ⟨h1.later hb, h2.later hb⟩

set_option maxRecDepth 100000 in
set_option maxHeartbeats 8000000 in
theorem lawTurnOk (i : Int) (ao : Option Addr) (cap : Nat) (ws : List Int) (k d a l : Int) (x : ByteArray) (w : World) (hx : IntsAt w ao ws) (hl : ws.length ≤ maxLen) (hxl : x.size ≤ maxLen) :
    Calls Try.prog 5 #[.agg #[.int .i64 i, .slice ao ws.length cap], .agg #[.int .i64 k, .int .i64 d, .int .i64 a, .int .i64 l, .string x]] w fun e w' => e = .returned (.bool true) ∧ Below w.heap.size w w' := by
  unfold maxLen at hl hxl
  have hs1 : (w.alloc (.cells #[.int .i64 i, .slice ao ws.length cap] 50)).heap.size = w.heap.size + 1 := by simp
  have HR0 : Hid (Bx ((w.alloc (.cells #[.int .i64 i, .slice ao ws.length cap] 50)).alloc (.cells #[.int .i64 k, .int .i64 d, .int .i64 a, .int .i64 l, .string x] 52)) w.heap.size 50 [.int .i64 i, .slice ao ws.length cap]) := (Bx.new w 50 _).later ((Below.refl _ _).alloc (Nat.le_refl _) _)
  have HE0 : Hid (Bx ((w.alloc (.cells #[.int .i64 i, .slice ao ws.length cap] 50)).alloc (.cells #[.int .i64 k, .int .i64 d, .int .i64 a, .int .i64 l, .string x] 52)) (w.heap.size + 1) 52 [.int .i64 k, .int .i64 d, .int .i64 a, .int .i64 l, .string x]) := by
    have := Bx.new (w.alloc (.cells #[.int .i64 i, .slice ao ws.length cap] 50)) 52 [.int .i64 k, .int .i64 d, .int .i64 a, .int .i64 l, .string x]
    rw [hs1] at this; exact this
  have HB0 : Hid (Below w.heap.size w ((w.alloc (.cells #[.int .i64 i, .slice ao ws.length cap] 50)).alloc (.cells #[.int .i64 k, .int .i64 d, .int .i64 a, .int .i64 l, .string x] 52))) := ((Below.refl _ _).alloc (Nat.le_refl _) _).alloc (by simp) _
  have HX0 : Hid (IntsAt ((w.alloc (.cells #[.int .i64 i, .slice ao ws.length cap] 50)).alloc (.cells #[.int .i64 k, .int .i64 d, .int .i64 a, .int .i64 l, .string x] 52)) ao ws) := hx.stays HB0.out
  clear hx hs1
  by_cases hl1 : 1048576 < ws.length
  · go_enter Try.func5, Try.ntmps5
    go_wp2_with fail
    refine (szRing_long i ao ws.length cap _ hl1 (by omega)).mono ?_
    rintro e w1 ⟨rfl, hb1⟩
    go_wp2_with fail
    go_ret
    exact ⟨rfl, bl_next HB0.out hb1⟩
  have hl2 : ws.length ≤ 1048576 := by omega
  clear hl hl1
  go_enter Try.func5, Try.ntmps5
  go_wp2_with fail
  generalize ((w.alloc (.cells #[.int .i64 i, .slice ao ws.length cap] 50)).alloc (.cells #[.int .i64 k, .int .i64 d, .int .i64 a, .int .i64 l, .string x] 52)) = W0 at *
  obtain ⟨ge, hge⟩ : ∃ ge, ge = w.heap.size + 1 := ⟨_, rfl⟩
  rw [← hge] at HE0
  simp only [← hge]
  clear hge
  refine (szRing_any i ao ws.length cap _ hl2).mono ?_
  rintro e w1 ⟨rfl, hb1⟩
  have hz : decide (((1048576 - ws.length : Nat) : Int) < 0) = false := by simp
  have B1 : Hid (Below w.heap.size w w1) := bl_next HB0.out hb1
  have X1 : Hid (IntsAt w1 ao ws) := HX0.out.stays hb1
  have R1 : Hid (Bx w1 w.heap.size 50 [.int .i64 i, .slice ao ws.length cap]) := HR0.out.later hb1
  have E1 : Hid (Bx w1 ge 52 [.int .i64 k, .int .i64 d, .int .i64 a, .int .i64 l, .string x]) := HE0.out.later hb1
  clear hb1 HB0 HX0 HR0 HE0 W0
  have r0 := E1.out.cell 0
  have r1 := E1.out.cell 1
  have r2 := E1.out.cell 2
  have r3 := E1.out.cell 3
  have r4 := E1.out.cell 4
  by_cases hl3 : 1048576 - ws.length < x.size
  · go_wp2_with fail
    refine (szTurn_long k d a l x _ _ hl3 (by omega) (by omega)).mono ?_
    rintro e w2 ⟨rfl, hb2⟩
    go_wp2_with fail
    go_ret
    exact ⟨rfl, bl_next B1.out hb2⟩
  have hl4 : x.size ≤ 1048576 - ws.length := by omega
  have hl5 : x.size ≤ 1048576 := by omega
  go_wp2_with fail
  refine (szTurn_any k d a l x _ _ hl4 (by omega)).mono ?_
  rintro e w2 ⟨rfl, hb2⟩
  have hz2 : decide (((1048576 - ws.length - x.size : Nat) : Int) < 0) = false := by simp
  have B2 : Hid (Below w.heap.size w w2) := bl_next B1.out hb2
  have X2 : Hid (IntsAt w2 ao ws) := X1.out.stays hb2
  have R2 : Hid (Bx w2 w.heap.size 50 [.int .i64 i, .slice ao ws.length cap]) := R1.out.later hb2
  have E2 : Hid (Bx w2 ge 52 [.int .i64 k, .int .i64 d, .int .i64 a, .int .i64 l, .string x]) := E1.out.later hb2
  clear hb2 B1 X1 R1 E1 hz hl3 hl4
  clear r0 r1 r2 r3 r4
  have HI : ((w2.drew.cell? ⟨w.heap.size, 0, none⟩ = some (.int .i64 i) ∧ w2.drew.cell? ⟨w.heap.size, 1, none⟩ = some (.slice ao ws.length cap)) ∧ (w2.drew.cell? ⟨ge, 0, none⟩ = some (.int .i64 k) ∧ w2.drew.cell? ⟨ge, 1, none⟩ = some (.int .i64 d) ∧ w2.drew.cell? ⟨ge, 2, none⟩ = some (.int .i64 a) ∧ w2.drew.cell? ⟨ge, 3, none⟩ = some (.int .i64 l) ∧ w2.drew.cell? ⟨ge, 4, none⟩ = some (.string x))) ∧ Hid (Below w2.heap.size w2 w2.drew) := ⟨⟨⟨R2.out.cell 0, R2.out.cell 1⟩, ⟨E2.out.cell 0, E2.out.cell 1, E2.out.cell 2, E2.out.cell 3, E2.out.cell 4⟩⟩, (Below.refl _ _).drew⟩
  have KEEP : Hid (∀ w', Below w2.heap.size w2 w' → ((w'.cell? ⟨w.heap.size, 0, none⟩ = some (.int .i64 i) ∧ w'.cell? ⟨w.heap.size, 1, none⟩ = some (.slice ao ws.length cap)) ∧ (w'.cell? ⟨ge, 0, none⟩ = some (.int .i64 k) ∧ w'.cell? ⟨ge, 1, none⟩ = some (.int .i64 d) ∧ w'.cell? ⟨ge, 2, none⟩ = some (.int .i64 a) ∧ w'.cell? ⟨ge, 3, none⟩ = some (.int .i64 l) ∧ w'.cell? ⟨ge, 4, none⟩ = some (.string x))) ∧ Hid (Below w2.heap.size w2 w')) := fun w' hb => ⟨⟨⟨(R2.out.later hb).cell 0, (R2.out.later hb).cell 1⟩, ⟨(E2.out.later hb).cell 0, (E2.out.later hb).cell 1, (E2.out.later hb).cell 2, (E2.out.later hb).cell 3, (E2.out.later hb).cell 4⟩⟩, hb⟩
  have X2d : Hid (IntsAt w2.drew ao ws) := X2.out
  obtain ⟨TB, hTB⟩ : ∃ b, b = turnB i ws k d a l x := ⟨_, rfl⟩
  have SPC : Hid (∀ (v : Value) (W : World), Hid (RI W v ws) → Calls Try.prog 24 #[.agg #[.int .i64 i, v], .agg #[.int .i64 k, .int .i64 d, .int .i64 a, .int .i64 l, .string x]] W fun e w' => e = .returned (.bool TB) ∧ Below W.heap.size W w') := fun v W h => by rw [hTB]; exact spTurnOk_any i v ws k d a l x W h hl2 hl5
  have IMP : Hid (∀ (v : Value) (W : World), Hid (RI W v ws) → Calls Try.prog 27 #[.agg #[.int .i64 i, v], .agg #[.int .i64 k, .int .i64 d, .int .i64 a, .int .i64 l, .string x]] W fun e w' => e = .returned (.bool TB) ∧ Below W.heap.size W w') := fun v W h => by rw [hTB]; exact turnOk_any i v ws k d a l x W h hl2 hl5
  clear hTB
  go_wp2_with fail
  go_region_held3 (fun w' => ((w'.cell? ⟨w.heap.size, 0, none⟩ = some (.int .i64 i) ∧ w'.cell? ⟨w.heap.size, 1, none⟩ = some (.slice ao ws.length cap)) ∧ (w'.cell? ⟨ge, 0, none⟩ = some (.int .i64 k) ∧ w'.cell? ⟨ge, 1, none⟩ = some (.int .i64 d) ∧ w'.cell? ⟨ge, 2, none⟩ = some (.int .i64 a) ∧ w'.cell? ⟨ge, 3, none⟩ = some (.int .i64 l) ∧ w'.cell? ⟨ge, 4, none⟩ = some (.string x))) ∧ Hid (Below w2.heap.size w2 w')) (first | exact HI | assumption) (first | (go_at_call 25; refine (toRing_any i ao cap ws _ X2d hl2).mono ?_; rintro e w3 ⟨v3, rfl, hv3, hb3⟩; have hk3 := KEEP.out _ ((Below.refl w2.heap.size w2).drew.trans hb3); have O3 : Hid (RI w3 v3 ws) := hv3.ri) | (go_at_call 26; refine (toTurn_any k d a l x _).mono ?_; rintro e w4 ⟨rfl, hb4⟩; have hk4 := KEEP.out _ (hk3.2.out.trans (hb4.mono hk3.2.out.size)); have O4 : Hid (RI w4 v3 ws) := O3.out.stays hb4) | (go_at_call 24; refine (SPC.out _ _ O4).mono ?_; rintro e w5 ⟨rfl, hb5⟩; have hk5 := KEEP.out _ (hk4.2.out.trans (hb5.mono hk4.2.out.size))))
  have B5 : Hid (Below w.heap.size w w5) := bl_next B2.out hk5.2.out
  have X5 : Hid (IntsAt w5 ao ws) := X2.out.stays hk5.2.out
  have R5 : Hid (Bx w5 w.heap.size 50 [.int .i64 i, .slice ao ws.length cap]) := R2.out.later hk5.2.out
  have E5 : Hid (Bx w5 ge 52 [.int .i64 k, .int .i64 d, .int .i64 a, .int .i64 l, .string x]) := E2.out.later hk5.2.out
  clear hk5 hk4 hk3 O3 O4 hb3 hb4 hb5 hv3 KEEP HI X2d B2 X2 R2 E2 SPC hz2
  have z0 := R5.out.cell 0
  have z1 := R5.out.cell 1
  go_wp2_with fail
  refine (toRing_any i ao cap ws _ X5 hl2).mono ?_
  rintro e w6 ⟨v6, rfl, hv6, hb6⟩
  obtain ⟨ao6, cap6, hf6⟩ := hv6.form
  subst hf6
  have B6 : Hid (Below w.heap.size w w6) := bl_next B5.out hb6
  have X6 : Hid (IntsAt w6 ao ws) := X5.out.stays hb6
  have R6 : Hid (Bx w6 w.heap.size 50 [.int .i64 i, .slice ao ws.length cap]) := R5.out.later hb6
  have E6 : Hid (Bx w6 ge 52 [.int .i64 k, .int .i64 d, .int .i64 a, .int .i64 l, .string x]) := E5.out.later hb6
  clear z0 z1 B5 X5 R5 E5 hb6
  have N7 : Hid (Bx (w6.alloc (.cells #[.int .i64 i, .slice ao6 ws.length cap6] 26)) w6.heap.size 26 [.int .i64 i, .slice ao6 ws.length cap6]) := Bx.new w6 26 _
  have V7 : Hid (OwnI (w6.alloc (.cells #[.int .i64 i, .slice ao6 ws.length cap6] 26)) w5.heap.size (.slice ao6 ws.length cap6) ws) := hv6.alloc _
  have b7 : Below w6.heap.size w6 (w6.alloc (.cells #[.int .i64 i, .slice ao6 ws.length cap6] 26)) := (Below.refl _ _).alloc (Nat.le_refl _) _
  have B7 : Hid (Below w.heap.size w (w6.alloc (.cells #[.int .i64 i, .slice ao6 ws.length cap6] 26))) := bl_next B6.out b7
  have X7 : Hid (IntsAt (w6.alloc (.cells #[.int .i64 i, .slice ao6 ws.length cap6] 26)) ao ws) := X6.out.stays b7
  have R7 : Hid (Bx (w6.alloc (.cells #[.int .i64 i, .slice ao6 ws.length cap6] 26)) w.heap.size 50 [.int .i64 i, .slice ao ws.length cap]) := R6.out.later b7
  have E7 : Hid (Bx (w6.alloc (.cells #[.int .i64 i, .slice ao6 ws.length cap6] 26)) ge 52 [.int .i64 k, .int .i64 d, .int .i64 a, .int .i64 l, .string x]) := E6.out.later b7
  clear B6 X6 R6 E6 b7 hv6
  go_wp2_with fail
  generalize w6.alloc (.cells #[.int .i64 i, .slice ao6 ws.length cap6] 26) = W7 at *
  generalize w6.heap.size = gx at *
  have HI7 : ((W7.drew.cell? ⟨gx, 0, none⟩ = some (.int .i64 i) ∧ W7.drew.cell? ⟨gx, 1, none⟩ = some (.slice ao6 ws.length cap6)) ∧ (W7.drew.cell? ⟨w.heap.size, 0, none⟩ = some (.int .i64 i) ∧ W7.drew.cell? ⟨w.heap.size, 1, none⟩ = some (.slice ao ws.length cap)) ∧ (W7.drew.cell? ⟨ge, 0, none⟩ = some (.int .i64 k) ∧ W7.drew.cell? ⟨ge, 1, none⟩ = some (.int .i64 d) ∧ W7.drew.cell? ⟨ge, 2, none⟩ = some (.int .i64 a) ∧ W7.drew.cell? ⟨ge, 3, none⟩ = some (.int .i64 l) ∧ W7.drew.cell? ⟨ge, 4, none⟩ = some (.string x))) ∧ Hid (Below W7.heap.size W7 W7.drew) := ⟨⟨⟨N7.out.cell 0, N7.out.cell 1⟩, ⟨R7.out.cell 0, R7.out.cell 1⟩, ⟨E7.out.cell 0, E7.out.cell 1, E7.out.cell 2, E7.out.cell 3, E7.out.cell 4⟩⟩, (Below.refl _ _).drew⟩
  have KEEP7 : Hid (∀ w', Below W7.heap.size W7 w' → ((w'.cell? ⟨gx, 0, none⟩ = some (.int .i64 i) ∧ w'.cell? ⟨gx, 1, none⟩ = some (.slice ao6 ws.length cap6)) ∧ (w'.cell? ⟨w.heap.size, 0, none⟩ = some (.int .i64 i) ∧ w'.cell? ⟨w.heap.size, 1, none⟩ = some (.slice ao ws.length cap)) ∧ (w'.cell? ⟨ge, 0, none⟩ = some (.int .i64 k) ∧ w'.cell? ⟨ge, 1, none⟩ = some (.int .i64 d) ∧ w'.cell? ⟨ge, 2, none⟩ = some (.int .i64 a) ∧ w'.cell? ⟨ge, 3, none⟩ = some (.int .i64 l) ∧ w'.cell? ⟨ge, 4, none⟩ = some (.string x))) ∧ Hid (Below W7.heap.size W7 w')) := fun w' hb => ⟨⟨⟨(N7.out.later hb).cell 0, (N7.out.later hb).cell 1⟩, ⟨(R7.out.later hb).cell 0, (R7.out.later hb).cell 1⟩, ⟨(E7.out.later hb).cell 0, (E7.out.later hb).cell 1, (E7.out.later hb).cell 2, (E7.out.later hb).cell 3, (E7.out.later hb).cell 4⟩⟩, hb⟩
  have V7r : Hid (RI W7 (.slice ao6 ws.length cap6) ws) := V7.out.ri
  go_region_held3 (fun w' => ((w'.cell? ⟨gx, 0, none⟩ = some (.int .i64 i) ∧ w'.cell? ⟨gx, 1, none⟩ = some (.slice ao6 ws.length cap6)) ∧ (w'.cell? ⟨w.heap.size, 0, none⟩ = some (.int .i64 i) ∧ w'.cell? ⟨w.heap.size, 1, none⟩ = some (.slice ao ws.length cap)) ∧ (w'.cell? ⟨ge, 0, none⟩ = some (.int .i64 k) ∧ w'.cell? ⟨ge, 1, none⟩ = some (.int .i64 d) ∧ w'.cell? ⟨ge, 2, none⟩ = some (.int .i64 a) ∧ w'.cell? ⟨ge, 3, none⟩ = some (.int .i64 l) ∧ w'.cell? ⟨ge, 4, none⟩ = some (.string x))) ∧ Hid (Below W7.heap.size W7 w')) (first | exact HI7 | assumption) (first | (go_at_call 26; refine (toTurn_any k d a l x _).mono ?_; rintro e w8 ⟨rfl, hb8⟩; have hk8 := KEEP7.out _ ((Below.refl W7.heap.size W7).drew.trans hb8); have O8 : Hid (RI w8 (.slice ao6 ws.length cap6) ws) := V7r.out.stays hk8.2.out) | (go_at_call 27; refine (IMP.out _ _ O8).mono ?_; rintro e w9 ⟨rfl, hb9⟩; have hk9 := KEEP7.out _ (hk8.2.out.trans (hb9.mono hk8.2.out.size))))
  have B9 : Hid (Below w.heap.size w w9) := bl_next B7.out hk9.2.out
  have X9 : Hid (IntsAt w9 ao ws) := X7.out.stays hk9.2.out
  have R9 : Hid (Bx w9 w.heap.size 50 [.int .i64 i, .slice ao ws.length cap]) := R7.out.later hk9.2.out
  have N9 : Hid (Bx w9 gx 26 [.int .i64 i, .slice ao6 ws.length cap6]) := N7.out.later hk9.2.out
  have V9 : Hid (OwnI w9 w5.heap.size (.slice ao6 ws.length cap6) ws) := own_later V7.out hk9.2.out
  clear hk9 hk8 O8 hb8 hb9 KEEP7 HI7 B7 X7 R7 E7 N7 V7 V7r IMP
  have HI9 : ((w9.drew.cell? ⟨gx, 0, none⟩ = some (.int .i64 i) ∧ w9.drew.cell? ⟨gx, 1, none⟩ = some (.slice ao6 ws.length cap6)) ∧ (w9.drew.cell? ⟨w.heap.size, 0, none⟩ = some (.int .i64 i) ∧ w9.drew.cell? ⟨w.heap.size, 1, none⟩ = some (.slice ao ws.length cap))) ∧ Hid (Below w9.heap.size w9 w9.drew) := ⟨⟨⟨N9.out.cell 0, N9.out.cell 1⟩, ⟨R9.out.cell 0, R9.out.cell 1⟩⟩, (Below.refl _ _).drew⟩
  have KEEP9 : Hid (∀ w', Below w9.heap.size w9 w' → ((w'.cell? ⟨gx, 0, none⟩ = some (.int .i64 i) ∧ w'.cell? ⟨gx, 1, none⟩ = some (.slice ao6 ws.length cap6)) ∧ (w'.cell? ⟨w.heap.size, 0, none⟩ = some (.int .i64 i) ∧ w'.cell? ⟨w.heap.size, 1, none⟩ = some (.slice ao ws.length cap))) ∧ Hid (Below w9.heap.size w9 w')) := fun w' hb => ⟨⟨⟨(N9.out.later hb).cell 0, (N9.out.later hb).cell 1⟩, ⟨(R9.out.later hb).cell 0, (R9.out.later hb).cell 1⟩⟩, hb⟩
  have X9d : Hid (IntsAt w9.drew ao ws) := X9.out
  cases TB
  all_goals
    go_wp2_with fail
    go_region_held3 (fun w' => ((w'.cell? ⟨gx, 0, none⟩ = some (.int .i64 i) ∧ w'.cell? ⟨gx, 1, none⟩ = some (.slice ao6 ws.length cap6)) ∧ (w'.cell? ⟨w.heap.size, 0, none⟩ = some (.int .i64 i) ∧ w'.cell? ⟨w.heap.size, 1, none⟩ = some (.slice ao ws.length cap))) ∧ Hid (Below w9.heap.size w9 w')) (first | exact HI9 | assumption) (first | (go_at_call 25; refine (toRing_any i ao cap ws _ X9d hl2).mono ?_; rintro e w10 ⟨v10, rfl, hv10, hb10⟩; have hk10 := KEEP9.out _ ((Below.refl w9.heap.size w9).drew.trans hb10)) | (go_at_call 28; refine (eqRing_same i _ _ ws _ _ _ (show Hid (OwnI _ _ _ ws) from own_later V9.out hk10.2.out) (show Hid (OwnI _ _ _ ws) from hv10) hl2).mono ?_; rintro e w11 ⟨rfl, hb11⟩; have hk11 := KEEP9.out _ (hk10.2.out.trans (hb11.mono hk10.2.out.size))))
    go_wp2_with fail
    go_ret
    exact ⟨rfl, bl_next B9.out hk11.2.out⟩
end Go.Proofs.Ythdjkkiegecgnaa
