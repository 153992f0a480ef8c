/- The law on TokenText. -/
import Derived.Test.YtpegbkpgjjjllaaDoorX2
namespace Go.Proofs.YtpegbkpgjjjllaaDoor
open Go.RowKit Pl
set_option linter.unusedVariables false

/-- what stands while a token is compared with what was handed in. -/
def TwoTok (w : World) (g g' : Nat) (c r q a b : Int) (v v' : Value) : Prop :=
  (w.cell? ⟨g, 0, none⟩ = some (.int .i64 c) ∧ w.cell? ⟨g, 1, none⟩ = some (.int .i64 r) ∧ w.cell? ⟨g, 2, none⟩ = some (.int .i64 q) ∧ w.cell? ⟨g, 3, none⟩ = some (.int .i64 a) ∧ w.cell? ⟨g, 4, none⟩ = some (.int .i64 b) ∧ w.cell? ⟨g, 5, none⟩ = some v) ∧
  (w.cell? ⟨g', 0, none⟩ = some (.int .i64 c) ∧ w.cell? ⟨g', 1, none⟩ = some (.int .i64 r) ∧ w.cell? ⟨g', 2, none⟩ = some (.int .i64 q) ∧ w.cell? ⟨g', 3, none⟩ = some (.int .i64 a) ∧ w.cell? ⟨g', 4, none⟩ = some (.int .i64 b) ∧ w.cell? ⟨g', 5, none⟩ = some v')
theorem two_of {W w : World} {g g' : Nat} {c r q a b : Int} {v v' : Value} (h1 : TokAt W g c r q a b v) (h2 : LtokAt W g' c r q a b v') (hb : Below W.heap.size W w) : TwoTok w g g' c r q a b v v' ∧ Hid (Below W.heap.size W w) :=
  ⟨⟨(h1.stays hb h1.lt).cells, (h2.stays hb (Array.getElem?_eq_some_iff.1 h2).1).cells⟩, hb⟩

/-- an own list's values in a later world. -/
theorem own_later {w w' : World} {B : Nat} {v : Value} {ss : List Int} (h : OwnI w B v ss) (hb : Below w.heap.size w w') : OwnI w' B v ss := h.stays hb (fun k hk => (h.lt k hk).2)


/-- both TokenTexts, at whatever token. -/
theorem tokenText_two (c r q a b : Int) (ws : List Int) (hl : ws.length ≤ 1048576) : ∃ (T : ByteArray) (k : Bool), T.size ≤ 160 ∧ tkB c r q a b ws = k ∧ ((k = true ∧ ∃ (C R Q A B : Nat) (ns : List Nat), c = C ∧ r = R ∧ q = Q ∧ a = A ∧ b = B ∧ ws = ns.map (fun n : Nat => (n : Int)) ∧ TkOk C R Q A B ns ∧ T = sealS (tokS C R Q A B ns)) ∨ (k = false ∧ T = ByteArray.empty)) ∧
    (∀ (w : World) (ao : Option Addr) (cap : Nat), Hid (IntsAt w ao ws) → Hid (Tab w) → Calls Tryd.prog 8 #[.agg #[.int .i64 c, .int .i64 r, .int .i64 q, .int .i64 a, .int .i64 b, .slice ao ws.length cap]] w fun e w' => e = .returned (.tuple #[.string T, .bool k]) ∧ Below w.heap.size w w') ∧
    (∀ (w : World) (ao : Option Addr) (cap : Nat), Hid (IntsAt w ao ws) → Calls Tryd.prog 16 #[.agg #[.int .i64 c, .int .i64 r, .int .i64 q, .int .i64 a, .int .i64 b, .slice ao ws.length cap]] w fun e w' => e = .returned (.tuple #[.string T, .bool k]) ∧ Below w.heap.size w w') := by
  cases h : tkB c r q a b ws with
  | true =>
    obtain ⟨C, R, Q, A, B, ns, rfl, rfl, rfl, rfl, rfl, hw, ho⟩ := tkB_nats h
    refine ⟨sealS (tokS C R Q A B ns), true, ?_, rfl, .inl ⟨rfl, C, R, Q, A, B, ns, rfl, rfl, rfl, rfl, rfl, hw, ho, rfl⟩, fun w ao cap hx ht => tokenText_yes C R Q A B ns ao cap ws w hx hw ho ht, fun w ao cap hx => spTokenText_yes C R Q A B ns ao cap ws w hx hw ho⟩
    have := tokS_size ho
    rw [sealS_size]; omega
  | false => exact ⟨ByteArray.empty, false, by decide, rfl, .inr ⟨rfl, rfl⟩, fun w ao cap hx _ => tokenText_no c r q a b ao cap ws w hx hl h, fun w ao cap hx => spTokenText_no c r q a b ao cap ws w hx hl h⟩

set_option maxRecDepth 100000 in
set_option maxHeartbeats 4000000 in
theorem lawTokenText (c r q a b : Int) (ao : Option Addr) (cap : Nat) (ws : List Int) (w : World) (hx : IntsAt w ao ws) (hl : ws.length ≤ maxLen) (htab : Hid (Tab w)) :
    Calls Tryd.prog 4 #[.agg #[.int .i64 c, .int .i64 r, .int .i64 q, .int .i64 a, .int .i64 b, .slice ao ws.length cap]] w fun e w' => e = .returned (.bool true) ∧ Below w.heap.size w w' := by
  unfold maxLen at hl
  by_cases hl1 : 1048576 < ws.length
  · go_enter Tryd.func4, Tryd.ntmps4
    go_wp2_with fail
    refine (szTok_long c r q a b ao ws.length cap _ hl1 (by omega)).mono ?_
    rintro e w1 ⟨rfl, hb1⟩
    go_wp2_with fail
    go_ret
    exact ⟨rfl, ((Below.refl _ _).alloc (Nat.le_refl _) _).trans (hb1.mono (by simp))⟩
  have hl2 : ws.length ≤ 1048576 := by omega
  clear hl hl1
  obtain ⟨T, k, _, _, _, himpl, hspec⟩ := tokenText_two c r q a b ws hl2
  have HIMPL : Hid _ := himpl
  have HSPEC : Hid _ := hspec
  clear himpl hspec
  have H0 : Hid (LtokAt (w.alloc (.cells #[.int .i64 c, .int .i64 r, .int .i64 q, .int .i64 a, .int .i64 b, .slice ao ws.length cap] 35)) w.heap.size c r q a b (.slice ao ws.length cap)) := heap_alloc_new w _
  have HB0 : Hid (Below w.heap.size w (w.alloc (.cells #[.int .i64 c, .int .i64 r, .int .i64 q, .int .i64 a, .int .i64 b, .slice ao ws.length cap] 35))) := (Below.refl _ _).alloc (Nat.le_refl _) _
  have HX0 : Hid (IntsAt (w.alloc (.cells #[.int .i64 c, .int .i64 r, .int .i64 q, .int .i64 a, .int .i64 b, .slice ao ws.length cap] 35)) ao ws) := hx.stays HB0.out
  have HS0 : (w.alloc (.cells #[.int .i64 c, .int .i64 r, .int .i64 q, .int .i64 a, .int .i64 b, .slice ao ws.length cap] 35)).heap.size = w.heap.size + 1 := by simp
  clear hx
  go_enter Tryd.func4, Tryd.ntmps4
  go_wp2_with fail
  generalize w.alloc (.cells #[.int .i64 c, .int .i64 r, .int .i64 q, .int .i64 a, .int .i64 b, .slice ao ws.length cap] 35) = W0 at *
  have hN : w.heap.size < W0.heap.size := by omega
  clear HS0
  refine (szTok_any c r q a b ao ws.length cap _ hl2).mono ?_
  rintro e w1 ⟨rfl, hb1⟩
  have B1 : Below W0.heap.size W0 w1 := hb1
  have hz : decide (((1048576 - ws.length : Nat) : Int) < 0) = false := by simp
  obtain ⟨l0, l1, l2, l3, l4, l5⟩ := (H0.out.stays B1 hN).cells
  have X1 : Hid (IntsAt w1 ao ws) := HX0.out.stays B1
  clear hb1
  go_wp2_with fail
  refine (toTok_any c r q a b ao cap ws _ X1 hl2).mono ?_
  rintro e w2 ⟨v2, rfl, hv2, hb2⟩
  have B2 : Below W0.heap.size W0 w2 := B1.trans (hb2.mono B1.size)
  obtain ⟨ao2, cap2, rfl, hx2⟩ := hv2.ints
  have X2 : Hid (IntsAt w2 ao2 ws) := hx2
  clear hb2 hv2 hx2 X1 l0 l1 l2 l3 l4 l5
  go_wp2_with fail
  refine (HSPEC.out _ ao2 cap2 X2).mono ?_
  rintro e w3 ⟨rfl, hb3⟩
  have B3 : Below W0.heap.size W0 w3 := B2.trans (hb3.mono B2.size)
  obtain ⟨l0, l1, l2, l3, l4, l5⟩ := (H0.out.stays B3 hN).cells
  have X3 : Hid (IntsAt w3 ao ws) := HX0.out.stays B3
  clear hb3 X2
  go_wp2_with fail
  refine (toTok_any c r q a b ao cap ws _ X3 hl2).mono ?_
  rintro e w4 ⟨v4, rfl, hv4, hb4⟩
  have B4 : Below W0.heap.size W0 w4 := B3.trans (hb4.mono B3.size)
  obtain ⟨ao4, cap4, hf4⟩ := hv4.form
  subst hf4
  clear hb4 X3 l0 l1 l2 l3 l4 l5
  have T5 : Hid (TokAt (w4.alloc (.cells #[.int .i64 c, .int .i64 r, .int .i64 q, .int .i64 a, .int .i64 b, .slice ao4 ws.length cap4] 26)) w4.heap.size c r q a b (.slice ao4 ws.length cap4)) := heap_alloc_new w4 _
  have V5 : Hid (OwnI (w4.alloc (.cells #[.int .i64 c, .int .i64 r, .int .i64 q, .int .i64 a, .int .i64 b, .slice ao4 ws.length cap4] 26)) w3.heap.size (.slice ao4 ws.length cap4) ws) := hv4.alloc _
  have B5 : Hid (Below W0.heap.size W0 (w4.alloc (.cells #[.int .i64 c, .int .i64 r, .int .i64 q, .int .i64 a, .int .i64 b, .slice ao4 ws.length cap4] 26))) := B4.alloc B4.size _
  obtain ⟨t0, t1, t2, t3, t4, t5⟩ := T5.out.cells
  clear hv4
  go_wp2_with fail
  generalize w4.alloc (.cells #[.int .i64 c, .int .i64 r, .int .i64 q, .int .i64 a, .int .i64 b, .slice ao4 ws.length cap4] 26) = W5 at *
  obtain ⟨ao5, cap5, hf5, hx5⟩ := V5.out.ints
  have X5 : Hid (IntsAt W5 ao4 ws) := by
    simp only [Value.slice.injEq] at hf5
    rw [hf5.1]
    exact hx5
  have HT5 : Hid (Tab W5) := htab.out.below (HB0.out.trans (B5.out.mono HB0.out.size))
  refine (HIMPL.out _ ao4 cap4 X5 HT5).mono ?_
  rintro e w6 ⟨rfl, hb6⟩
  have B6 : Hid (Below W0.heap.size W0 w6) := B5.out.trans (hb6.mono B5.out.size)
  have T6 : Hid (TokAt w6 w4.heap.size c r q a b (.slice ao4 ws.length cap4)) := T5.out.stays hb6 T5.out.lt
  have V6 : Hid (OwnI w6 w3.heap.size (.slice ao4 ws.length cap4) ws) := own_later V5.out hb6
  have L6 : Hid (LtokAt w6 w.heap.size c r q a b (.slice ao ws.length cap)) := H0.out.stays B6.out hN
  have X6 : Hid (IntsAt w6 ao ws) := HX0.out.stays B6.out
  have X6d : Hid (IntsAt w6.drew ao ws) := X6.out
  have HI := two_of (w := w6.drew) T6.out L6.out (Below.refl _ _).drew
  clear hb6 hf5 hx5 X5 T5 V5 B5 t0 t1 t2 t3 t4 t5 B1 B2 B3 B4
  unfold TwoTok at HI
  generalize w4.heap.size = gx at *
  all_goals
    go_wp2_with fail
    go_region_held3 (fun w' => ((w'.cell? ⟨gx, 0, none⟩ = some (.int .i64 c) ∧ w'.cell? ⟨gx, 1, none⟩ = some (.int .i64 r) ∧ w'.cell? ⟨gx, 2, none⟩ = some (.int .i64 q) ∧ w'.cell? ⟨gx, 3, none⟩ = some (.int .i64 a) ∧ w'.cell? ⟨gx, 4, none⟩ = some (.int .i64 b) ∧ w'.cell? ⟨gx, 5, none⟩ = some (.slice ao4 ws.length cap4)) ∧ (w'.cell? ⟨w.heap.size, 0, none⟩ = some (.int .i64 c) ∧ w'.cell? ⟨w.heap.size, 1, none⟩ = some (.int .i64 r) ∧ w'.cell? ⟨w.heap.size, 2, none⟩ = some (.int .i64 q) ∧ w'.cell? ⟨w.heap.size, 3, none⟩ = some (.int .i64 a) ∧ w'.cell? ⟨w.heap.size, 4, none⟩ = some (.int .i64 b) ∧ w'.cell? ⟨w.heap.size, 5, none⟩ = some (.slice ao ws.length cap))) ∧ Hid (Below w6.heap.size w6 w')) (first | exact HI | assumption) (first | (go_at_call 17; refine (toTok_any c r q a b ao cap ws _ X6d hl2).mono ?_; rintro e w7 ⟨v7, rfl, hv7, hb7⟩; have hk7 := two_of T6.out L6.out ((Below.refl w6.heap.size w6).drew.trans hb7); unfold TwoTok at hk7) | (go_at_call 18; refine (eqTok_same c r q a b _ _ ws _ _ _ (show Hid (OwnI _ _ _ ws) from own_later V6.out hk7.2.out) (show Hid (OwnI _ _ _ ws) from hv7) hl2).mono ?_; rintro e w8 ⟨rfl, hb8⟩; have hk8 := two_of T6.out L6.out (hk7.2.out.trans (hb8.mono hk7.2.out.size)); unfold TwoTok at hk8))
    go_wp2_with fail
    go_ret
    exact ⟨rfl, HB0.out.trans ((B6.out.trans (hk8.2.out.mono B6.out.size)).mono HB0.out.size)⟩
end Go.Proofs.YtpegbkpgjjjllaaDoor
