/- The law on RingOk. -/
import Derived.Test.YtnhnpneedcjcfaaRh
import Derived.Test.YtnhnpneedcjcfaaRs
namespace Go.Proofs.Ytnhnpneedcjcfaa
open Go.RowKit Pl
set_option linter.unusedVariables false

/-- what stands while a ring is compared with what was handed in. -/
def TwoRg (w : World) (g g' : Nat) (i : Int) (v v' : Value) : Prop :=
  (w.cell? ⟨g, 0, none⟩ = some (.int .i64 i) ∧ w.cell? ⟨g, 1, none⟩ = some v) ∧
  (w.cell? ⟨g', 0, none⟩ = some (.int .i64 i) ∧ w.cell? ⟨g', 1, none⟩ = some v')
theorem twoRg_of {W w : World} {g g' : Nat} {i : Int} {v v' : Value} (h1 : RgAt W g i v) (h2 : LrgAt W g' i v') (hb : Below W.heap.size W w) : TwoRg w g g' i v v' ∧ Hid (Below W.heap.size W w) :=
  ⟨⟨(h1.stays hb h1.lt).cells, (h2.stays hb h2.lt).cells⟩, hb⟩

/-- an own list's values in a later world. -/
theorem own_later {w w' : World} {B : Nat} {v : Value} {ss : List Int} (h : OwnI w B v ss) (hb : Below w.heap.size w w') : OwnI w' B v ss := h.stays hb (fun k hk => (h.lt k hk).2)

set_option maxRecDepth 100000 in
set_option maxHeartbeats 4000000 in
theorem lawRingOk (i : Int) (ao : Option Addr) (cap : Nat) (ws : List Int) (w : World) (hx : IntsAt w ao ws) (hl : ws.length ≤ maxLen) :
    Calls Try.prog 6 #[.agg #[.int .i64 i, .slice ao ws.length cap]] w fun e w' => e = .returned (.bool true) ∧ Below w.heap.size w w' := by
  unfold maxLen at hl
  by_cases hl1 : 1048576 < ws.length
  · go_enter Try.func6, Try.ntmps6
    go_wp2_with fail
    refine (szRing_long i ao ws.length cap _ hl1 (by omega)).mono ?_
    rintro e w1 ⟨rfl, hb1⟩
    go_wp2_with fail
    go_ret
    exact ⟨rfl, ((Below.refl _ _).alloc (Nat.le_refl _) _).trans (hb1.mono (by simp))⟩
  have hl2 : ws.length ≤ 1048576 := by omega
  clear hl hl1
  have H0 : Hid (LrgAt (w.alloc (.cells #[.int .i64 i, .slice ao ws.length cap] 47)) w.heap.size i (.slice ao ws.length cap)) := heap_alloc_new w _
  have HB0 : Hid (Below w.heap.size w (w.alloc (.cells #[.int .i64 i, .slice ao ws.length cap] 47))) := (Below.refl _ _).alloc (Nat.le_refl _) _
  have HX0 : Hid (IntsAt (w.alloc (.cells #[.int .i64 i, .slice ao ws.length cap] 47)) ao ws) := hx.stays HB0.out
  have HS0 : (w.alloc (.cells #[.int .i64 i, .slice ao ws.length cap] 47)).heap.size = w.heap.size + 1 := by simp
  clear hx
  go_enter Try.func6, Try.ntmps6
  go_wp2_with fail
  generalize w.alloc (.cells #[.int .i64 i, .slice ao ws.length cap] 47) = W0 at *
  have hN : w.heap.size < W0.heap.size := by omega
  clear HS0
  refine (szRing_any i ao ws.length cap _ hl2).mono ?_
  rintro e w1 ⟨rfl, hb1⟩
  have B1 : Below W0.heap.size W0 w1 := hb1
  have hz : decide (((1048576 - ws.length : Nat) : Int) < 0) = false := by simp
  obtain ⟨l0, l1⟩ := (H0.out.stays B1 hN).cells
  have X1 : Hid (IntsAt w1 ao ws) := HX0.out.stays B1
  clear hb1
  go_wp2_with fail
  refine (toRing_any i ao cap ws _ X1 hl2).mono ?_
  rintro e w2 ⟨v2, rfl, hv2, hb2⟩
  have B2 : Below W0.heap.size W0 w2 := B1.trans (hb2.mono B1.size)
  obtain ⟨ao2, cap2, rfl, hx2⟩ := hv2.ints
  have X2 : Hid (IntsAt w2 ao2 ws) := hx2
  clear hb2 hv2 hx2 X1 l0 l1
  go_wp2_with fail
  refine (spRingOk_any i ao2 cap2 ws _ X2 hl2).mono ?_
  rintro e w3 ⟨rfl, hb3⟩
  have B3 : Below W0.heap.size W0 w3 := B2.trans (hb3.mono B2.size)
  obtain ⟨l0, l1⟩ := (H0.out.stays B3 hN).cells
  have X3 : Hid (IntsAt w3 ao ws) := HX0.out.stays B3
  clear hb3 X2
  go_wp2_with fail
  refine (toRing_any i ao cap ws _ X3 hl2).mono ?_
  rintro e w4 ⟨v4, rfl, hv4, hb4⟩
  have B4 : Below W0.heap.size W0 w4 := B3.trans (hb4.mono B3.size)
  obtain ⟨ao4, cap4, hf4⟩ := hv4.form
  subst hf4
  clear hb4 X3 l0 l1
  have T5 : Hid (RgAt (w4.alloc (.cells #[.int .i64 i, .slice ao4 ws.length cap4] 26)) w4.heap.size i (.slice ao4 ws.length cap4)) := heap_alloc_new w4 _
  have V5 : Hid (OwnI (w4.alloc (.cells #[.int .i64 i, .slice ao4 ws.length cap4] 26)) w3.heap.size (.slice ao4 ws.length cap4) ws) := hv4.alloc _
  have B5 : Hid (Below W0.heap.size W0 (w4.alloc (.cells #[.int .i64 i, .slice ao4 ws.length cap4] 26))) := B4.alloc B4.size _
  obtain ⟨t0, t1⟩ := T5.out.cells
  clear hv4
  go_wp2_with fail
  generalize w4.alloc (.cells #[.int .i64 i, .slice ao4 ws.length cap4] 26) = W5 at *
  obtain ⟨ao5, cap5, hf5, hx5⟩ := V5.out.ints
  have X5 : Hid (IntsAt W5 ao4 ws) := by
    simp only [Value.slice.injEq] at hf5
    rw [hf5.1]
    exact hx5
  refine (ringOk_any i ao4 cap4 ws _ X5 hl2).mono ?_
  rintro e w6 ⟨rfl, hb6⟩
  have B6 : Hid (Below W0.heap.size W0 w6) := B5.out.trans (hb6.mono B5.out.size)
  have T6 : Hid (RgAt w6 w4.heap.size i (.slice ao4 ws.length cap4)) := T5.out.stays hb6 T5.out.lt
  have V6 : Hid (OwnI w6 w3.heap.size (.slice ao4 ws.length cap4) ws) := own_later V5.out hb6
  have L6 : Hid (LrgAt w6 w.heap.size i (.slice ao ws.length cap)) := H0.out.stays B6.out hN
  have X6 : Hid (IntsAt w6 ao ws) := HX0.out.stays B6.out
  have X6d : Hid (IntsAt w6.drew ao ws) := X6.out
  have HI := twoRg_of (w := w6.drew) T6.out L6.out (Below.refl _ _).drew
  clear hb6 hf5 hx5 X5 T5 V5 B5 t0 t1 B1 B2 B3 B4
  unfold TwoRg at HI
  generalize w4.heap.size = gx at *
  cases ringB i ws
  all_goals
    go_wp2_with fail
    go_region_held3 (fun w' => ((w'.cell? ⟨gx, 0, none⟩ = some (.int .i64 i) ∧ w'.cell? ⟨gx, 1, none⟩ = some (.slice ao4 ws.length cap4)) ∧ (w'.cell? ⟨w.heap.size, 0, none⟩ = some (.int .i64 i) ∧ w'.cell? ⟨w.heap.size, 1, none⟩ = some (.slice ao ws.length cap))) ∧ Hid (Below w6.heap.size w6 w')) (first | exact HI | assumption) (first | (go_at_call 29; refine (toRing_any i ao cap ws _ X6d hl2).mono ?_; rintro e w7 ⟨v7, rfl, hv7, hb7⟩; have hk7 := twoRg_of T6.out L6.out ((Below.refl w6.heap.size w6).drew.trans hb7); unfold TwoRg at hk7) | (go_at_call 30; refine (eqRing_same i _ _ ws _ _ _ (show Hid (OwnI _ _ _ ws) from own_later V6.out hk7.2.out) (show Hid (OwnI _ _ _ ws) from hv7) hl2).mono ?_; rintro e w8 ⟨rfl, hb8⟩; have hk8 := twoRg_of T6.out L6.out (hk7.2.out.trans (hb8.mono hk7.2.out.size)); unfold TwoRg at hk8))
    go_wp2_with fail
    go_ret
    exact ⟨rfl, HB0.out.trans ((B6.out.trans (hk8.2.out.mono B6.out.size)).mono HB0.out.size)⟩
end Go.Proofs.Ytnhnpneedcjcfaa
