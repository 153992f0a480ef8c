/- Rings that a law sizes, copies, compares and writes over. -/
import Derived.Test.YtlflcjdpdbdbkaaRg
import Derived.Test.YtlflcjdpdbdbkaaC4
namespace Go.Proofs.Ytlflcjdpdbdbkaa
open Go.RowKit Pl
set_option linter.unusedVariables false

set_option maxRecDepth 100000 in
set_option maxHeartbeats 1000000 in
theorem szRing_long (i : Int) (ao : Option Addr) (n cap : Nat) (w : World) (h : 1048576 < n) (h2 : n ≤ 9223372036854775807) :
    Calls Try.prog 11 #[.agg #[.int .i64 i, .slice ao n cap], .int .i64 1048576] w fun e w' => e = .returned (.int .i64 (-1)) ∧ Below w.heap.size w w' := by
  go_enter Try.func11, Try.ntmps11
  go_wp2_with fail
  refine (szI_long ao n cap _ h h2).mono ?_
  rintro e w1 ⟨rfl, rfl⟩
  go_wp2_with fail
  go_ret
  exact ⟨rfl, (Below.refl _ _).alloc (Nat.le_refl _) _⟩
set_option maxRecDepth 100000 in
set_option maxHeartbeats 1000000 in
theorem szRing_any (i : Int) (ao : Option Addr) (n cap : Nat) (w : World) (h : n ≤ 1048576) :
    Calls Try.prog 11 #[.agg #[.int .i64 i, .slice ao n cap], .int .i64 1048576] w fun e w' => e = .returned (.int .i64 ((1048576 - n : Nat) : Int)) ∧ Below w.heap.size w w' := by
  have hz : decide (((1048576 - n : Nat) : Int) < 0) = false := by simp
  go_enter Try.func11, Try.ntmps11
  go_wp2_with fail
  refine (szI_any ao n cap _ h).mono ?_
  rintro e w1 ⟨rfl, rfl⟩
  go_wp2_with fail
  go_ret
  exact ⟨rfl, (Below.refl _ _).alloc (Nat.le_refl _) _⟩

theorem RgAt.set1 {w : World} {g : Nat} {i : Int} {v : Value} (h : RgAt w g i v) (u : Value) : RgAt (w.setCell ⟨g, 1, none⟩ u) g i u := by
  have := heap_setCell_same w g 1 _ 40 u h
  unfold RgAt; rw [this]; rfl
theorem RgAt.turn {w w' : World} {g k : Nat} {i : Int} {v : Value} (h : RgAt w g i v) (hk : TurnAt k w w') (hg : g ≠ k) : RgAt w' g i v := (hk.block g hg).trans h
theorem RgAt.agg {w : World} {g : Nat} {i : Int} {v : Value} (h : RgAt w g i v) (i' : Int) (v' : Value) :
    RgAt ((w.setCell ⟨g, 0, none⟩ (.int .i64 i')).setCell ⟨g, 1, none⟩ v') g i' v' := by
  have h0 := heap_setCell_same w g 0 _ 40 (.int .i64 i') h
  have h1 := heap_setCell_same _ g 1 _ 40 v' h0
  unfold RgAt; rw [h1]; rfl
/-- a list's block is no ring's. -/
theorem own_ring {w w' : World} {B g : Nat} {v : Value} {xs : List Int} {i : Int} {u : Value} (h : OwnI w B v xs) (hu : RgAt w g i u) (ht : TurnAt g w w') : OwnI w' B v xs := by
  refine ⟨h.1, ?_⟩
  rcases h.2 with hn | ⟨k, cap, cur, rfl, hbg, hk, rest⟩
  · exact .inl hn
  · have hne : k ≠ g := by
      rintro rfl
      unfold RgAt at hu
      rw [hk] at hu
      simp at hu
    exact .inr ⟨k, cap, cur, rfl, hbg, (ht.block k hne).trans hk, rest⟩

set_option maxRecDepth 100000 in
set_option maxHeartbeats 2000000 in
theorem toRing_any (i : Int) (ao : Option Addr) (cap : Nat) (ws : List Int) (w : World) (hx : Hid (IntsAt w ao ws)) (hl : ws.length ≤ 1048576) :
    Calls Try.prog 14 #[.agg #[.int .i64 i, .slice ao ws.length cap]] w fun e w' => ∃ v, e = .returned (.agg #[.int .i64 i, v]) ∧ OwnI w' w.heap.size v ws ∧ Below w.heap.size w w' := by
  have hn1 : (w.alloc (.cells #[.int .i64 i, .slice ao ws.length cap] 35)).heap.size = w.heap.size + 1 := by simp
  have hn2 : ((w.alloc (.cells #[.int .i64 i, .slice ao ws.length cap] 35)).alloc (.cells #[.int .i64 0, .slice none 0 0] 40)).heap.size = w.heap.size + 2 := by simp
  have HR : Hid (RgAt (((w.alloc (.cells #[.int .i64 i, .slice ao ws.length cap] 35)).alloc (.cells #[.int .i64 0, .slice none 0 0] 40)).alloc (.cells #[.int .i64 i, .slice none 0 0] 40)) (w.heap.size + 1) 0 (.slice none 0 0)) := by
    have h := heap_alloc_new (w.alloc (.cells #[.int .i64 i, .slice ao ws.length cap] 35)) (.cells #[.int .i64 0, .slice none 0 0] 40)
    rw [hn1] at h
    exact RgAt.stays (B := w.heap.size + 2) h ((Below.refl _ _).alloc (by rw [hn2]; exact Nat.le_refl _) _) (by omega)
  have HO : Hid (RgAt (((w.alloc (.cells #[.int .i64 i, .slice ao ws.length cap] 35)).alloc (.cells #[.int .i64 0, .slice none 0 0] 40)).alloc (.cells #[.int .i64 i, .slice none 0 0] 40)) (w.heap.size + 2) i (.slice none 0 0)) := by
    have h := heap_alloc_new ((w.alloc (.cells #[.int .i64 i, .slice ao ws.length cap] 35)).alloc (.cells #[.int .i64 0, .slice none 0 0] 40)) (.cells #[.int .i64 i, .slice none 0 0] 40)
    rw [hn2] at h
    exact h
  have HB : Hid (Below w.heap.size w (((w.alloc (.cells #[.int .i64 i, .slice ao ws.length cap] 35)).alloc (.cells #[.int .i64 0, .slice none 0 0] 40)).alloc (.cells #[.int .i64 i, .slice none 0 0] 40))) := (((Below.refl _ _).alloc (Nat.le_refl _) _).alloc (by simp) _).alloc (by simp; omega) _
  have HX : Hid (IntsAt (((w.alloc (.cells #[.int .i64 i, .slice ao ws.length cap] 35)).alloc (.cells #[.int .i64 0, .slice none 0 0] 40)).alloc (.cells #[.int .i64 i, .slice none 0 0] 40)) ao ws) := hx.out.stays HB.out
  clear hn1 hn2 hx
  go_enter Try.func14, Try.ntmps14
  go_wp2_with fail
  generalize (((w.alloc (.cells #[.int .i64 i, .slice ao ws.length cap] 35)).alloc (.cells #[.int .i64 0, .slice none 0 0] 40)).alloc (.cells #[.int .i64 i, .slice none 0 0] 40)) = W at *
  refine (toI_any W ao cap ws HX hl).mono ?_
  rintro e w1 ⟨v, rfl, hv, hb1⟩
  have R1 : Hid (RgAt w1 (w.heap.size + 1) 0 (.slice none 0 0)) := HR.out.stays hb1 HR.out.lt
  have O1 : Hid (RgAt w1 (w.heap.size + 2) i (.slice none 0 0)) := HO.out.stays hb1 HO.out.lt
  have B1 : Hid (Below w.heap.size w w1) := HB.out.trans (hb1.mono HB.out.size)
  have V1 : Hid (OwnI w1 w.heap.size v ws) := hv.down HB.out.size
  obtain ⟨ao', cap', rfl⟩ := hv.form
  have c5 := O1.out.cells.2
  have f5 := O1.out.frozen 1
  clear hv hb1 HR HO HB HX
  have T2 := (TurnAt.refl (w.heap.size + 2) w1).setCell 1 (.slice ao' ws.length cap')
  have R2 : Hid (RgAt (w1.setCell ⟨w.heap.size + 2, 1, none⟩ (.slice ao' ws.length cap')) (w.heap.size + 1) 0 (.slice none 0 0)) := R1.out.turn T2 (by omega)
  have O2 : Hid (RgAt (w1.setCell ⟨w.heap.size + 2, 1, none⟩ (.slice ao' ws.length cap')) (w.heap.size + 2) i (.slice ao' ws.length cap')) := O1.out.set1 _
  have B2 : Hid (Below w.heap.size w (w1.setCell ⟨w.heap.size + 2, 1, none⟩ (.slice ao' ws.length cap'))) := B1.out.trans (T2.below (by omega))
  have V2 : Hid (OwnI (w1.setCell ⟨w.heap.size + 2, 1, none⟩ (.slice ao' ws.length cap')) w.heap.size (.slice ao' ws.length cap') ws) := own_ring V1.out O1.out T2
  clear T2 R1 O1 B1 V1
  obtain ⟨o0, o1⟩ := O2.out.cells
  obtain ⟨r0, r1⟩ := R2.out.cells
  have z0 := R2.out.frozen 0
  have z1 := R2.out.frozen 1
  have R3 : RgAt _ (w.heap.size + 1) i (.slice ao' ws.length cap') := R2.out.agg i (.slice ao' ws.length cap')
  have T3 := ((TurnAt.refl (w.heap.size + 1) (w1.setCell ⟨w.heap.size + 2, 1, none⟩ (.slice ao' ws.length cap'))).setCell 0 (.int .i64 i)).setCell 1 (.slice ao' ws.length cap')
  have V3 := own_ring V2.out R2.out T3
  have B3 := B2.out.trans (T3.below (by omega))
  clear T3 R2 O2 B2 V2
  go_wp2_with fail
  generalize (((w1.setCell ⟨w.heap.size + 2, 1, none⟩ (.slice ao' ws.length cap')).setCell ⟨w.heap.size + 1, 0, none⟩ (.int .i64 i)).setCell ⟨w.heap.size + 1, 1, none⟩ (.slice ao' ws.length cap')) = W3 at *
  obtain ⟨q0, q1⟩ := R3.cells
  refine bodyPost_ret (v := .agg #[.int .i64 i, .slice ao' ws.length cap']) (by simp [results, Try.results14, go_sem, q0, q1]) rfl ?_
  exact ⟨_, rfl, V3, B3⟩

set_option maxRecDepth 100000 in
set_option maxHeartbeats 1000000 in
theorem eqRing_same (i : Int) (v1 v2 : Value) (ws : List Int) (B1 B2 : Nat) (w : World) (h1 : Hid (OwnI w B1 v1 ws)) (h2 : Hid (OwnI w B2 v2 ws)) (hl : ws.length ≤ 1048576) :
    Calls Try.prog 17 #[.agg #[.int .i64 i, v1], .agg #[.int .i64 i, v2]] w fun e w' => e = .returned (.bool true) ∧ Below w.heap.size w w' := by
  obtain ⟨ao1, cap1, rfl⟩ := h1.out.form
  obtain ⟨ao2, cap2, rfl⟩ := h2.out.form
  go_enter Try.func17, Try.ntmps17
  go_wp2_with fail
  refine (eqI_same _ _ ws B1 B2 _ ((h1.out.alloc _).alloc _) ((h2.out.alloc _).alloc _) hl).mono ?_
  rintro e w1 ⟨rfl, hb1⟩
  go_wp2_with fail
  go_ret
  exact ⟨rfl, (((Below.refl _ _).alloc (Nat.le_refl _) _).alloc (by simp) _).trans (hb1.mono (by simp; omega))⟩

set_option maxRecDepth 100000 in
set_option maxHeartbeats 1000000 in
theorem markRing_any (i : Int) (v : Value) (ss : List Int) (B K : Nat) (w : World) (h1 : Hid (OwnI w B v ss)) (hl : K + ss.length ≤ 4999990) (hK : 0 < K) :
    Calls Try.prog 22 #[.agg #[.int .i64 i, v], .int .i64 K] w fun e w' => e = .returned (.int .i64 ((K + ss.length : Nat) : Int)) ∧ OwnI w' B v (marks K ss.length) ∧ w.grownBy w' v.ownBlock := by
  obtain ⟨ao, cap, rfl⟩ := h1.out.form
  have HW : Hid (OwnI (w.alloc (.cells #[.int .i64 i, .slice ao ss.length cap] 40)) B (.slice ao ss.length cap) ss) := h1.out.alloc _
  have HG : Hid (w.grownBy (w.alloc (.cells #[.int .i64 i, .slice ao ss.length cap] 40)) (Value.slice ao ss.length cap).ownBlock) := grown_bl ((Below.refl _ _).alloc (Nat.le_refl _) _)
  clear h1
  go_enter Try.func22, Try.ntmps22
  go_wp2_with fail
  generalize w.alloc (.cells #[.int .i64 i, .slice ao ss.length cap] 40) = W at *
  refine (markI_any _ ss B K W HW.out hl hK).mono ?_
  rintro e w1 ⟨rfl, hv1, hg1⟩
  go_wp2_with fail
  go_ret
  exact ⟨rfl, hv1, grown_transC HG.out hg1⟩

/-- the block g is a ring that was handed in. -/
def LrgAt (w : World) (g : Nat) (i : Int) (v : Value) : Prop := w.heap[g]? = some (.cells #[.int .i64 i, v] 35 (0, 0))
theorem LrgAt.cells {w : World} {g : Nat} {i : Int} {v : Value} (h : LrgAt w g i v) : w.cell? ⟨g, 0, none⟩ = some (.int .i64 i) ∧ w.cell? ⟨g, 1, none⟩ = some v :=
  ⟨by rw [cell_of_row w g 0 _ 35 (0, 0) h]; rfl, by rw [cell_of_row w g 1 _ 35 (0, 0) h]; rfl⟩
theorem LrgAt.stays {w w' : World} {B g : Nat} {i : Int} {v : Value} (h : LrgAt w g i v) (hb : Below B w w') (hg : g < B) : LrgAt w' g i v := (hb.block g hg).trans h
theorem LrgAt.lt {w : World} {g : Nat} {i : Int} {v : Value} (h : LrgAt w g i v) : g < w.heap.size := (Array.getElem?_eq_some_iff.1 h).1
end Go.Proofs.Ytlflcjdpdbdbkaa
