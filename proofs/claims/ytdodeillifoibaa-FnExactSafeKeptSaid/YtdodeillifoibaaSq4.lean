/- Joined texts: CT1 CT3 CIt CJ1. -/
import Derived.Test.YtdodeillifoibaaSq2
import Derived.Test.YtdodeillifoibaaSq3
import Derived.Test.YtdodeillifoibaaSq1
import Derived.Deep.RegionHeld3
import Derived.Deep.QuietTactic
import Derived.Laws.MakeOwn
import Derived.Below
/- The walks over both TokenOk. -/
namespace Go.Proofs.Ytdodeillifoibaa
open Go.RowKit Pl
set_option linter.unusedVariables false

theorem below_drewK {B : Nat} {a w : World} (h : Below B a w) (n : Nat) : Below B a (w.drewN n) := h.trans ⟨rfl, rfl, rfl, Nat.le_refl _, fun _ _ => rfl⟩

/-- the block g is a token. -/
def TokAt (w : World) (g : Nat) (c r q a b : Int) (v : Value) : Prop := w.heap[g]? = some (.cells #[.int .i64 c, .int .i64 r, .int .i64 q, .int .i64 a, .int .i64 b, v] 72 (0, 0))
theorem TokAt.cells {w : World} {g : Nat} {c r q a b : Int} {v : Value} (h : TokAt w g c r q a b v) : w.cell? ⟨g, 0, none⟩ = some (.int .i64 c) ∧ w.cell? ⟨g, 1, none⟩ = some (.int .i64 r) ∧ w.cell? ⟨g, 2, none⟩ = some (.int .i64 q) ∧ w.cell? ⟨g, 3, none⟩ = some (.int .i64 a) ∧ w.cell? ⟨g, 4, none⟩ = some (.int .i64 b) ∧ w.cell? ⟨g, 5, none⟩ = some v :=
  ⟨by rw [cell_of_row w g 0 _ 72 (0, 0) h]; rfl, by rw [cell_of_row w g 1 _ 72 (0, 0) h]; rfl, by rw [cell_of_row w g 2 _ 72 (0, 0) h]; rfl, by rw [cell_of_row w g 3 _ 72 (0, 0) h]; rfl, by rw [cell_of_row w g 4 _ 72 (0, 0) h]; rfl, by rw [cell_of_row w g 5 _ 72 (0, 0) h]; rfl⟩
theorem TokAt.stays {w w' : World} {B g : Nat} {c r q a b : Int} {v : Value} (h : TokAt w g c r q a b v) (hb : Below B w w') (hg : g < B) : TokAt w' g c r q a b v := (hb.block g hg).trans h
theorem TokAt.lt {w : World} {g : Nat} {c r q a b : Int} {v : Value} (h : TokAt w g c r q a b v) : g < w.heap.size := (Array.getElem?_eq_some_iff.1 h).1
theorem TokAt.frozen {w : World} {g : Nat} {c r q a b : Int} {v : Value} (h : TokAt w g c r q a b v) (i : Nat) : w.frozen? ⟨g, i, none⟩ = false := frozen_of_row w g i _ 72 h

end Go.Proofs.Ytdodeillifoibaa


/- The walks over lists of ints and tokens that a law copies, sizes and compares. -/
namespace Go.Proofs.Ytdodeillifoibaa
open Go.RowKit Pl
set_option linter.unusedVariables false

theorem Try.info3' : (Try.prog.info? 3).map (fun i => (i.zero, i.size, i.bytes)) = some (some (.int .i64 0), 1, 8) := by kernel_rfl

set_option maxRecDepth 100000 in
set_option maxHeartbeats 1000000 in
theorem toI_any (w : World) (ao : Option Addr) (cap : Nat) (ts : List Int) (hx : Hid (IntsAt w ao ts)) (hl : ts.length ≤ 1048576) :
    Calls Try.prog 55 #[.slice ao ts.length cap] w fun e w' => ∃ v, e = .returned v ∧ OwnI w' w.heap.size v ts ∧ Below w.heap.size w w' := by
  obtain ⟨i0, hi, hz0, hz1, hz2⟩ := info_parts Try.info3'
  have hM : madeCells (Value.int .i64 0).cells ts.length = ((List.replicate ts.length (0 : Int)).map (Value.int .i64)).toArray := by
    apply Array.ext'
    rw [show (Value.int .i64 0).cells = #[Value.int .i64 0] from rfl, toList_madeCells_one]
    simp
  have hmk : ∀ W : World, (Instr.makeSlice 49 (.int .i64 (ts.length : Int)) (.int .i64 (ts.length : Int))).run Try.prog W = .ok (.slice (some ⟨W.heap.size, 0, none⟩) ts.length ts.length) (W.alloc (.cells ((List.replicate ts.length (0 : Int)).map (Value.int .i64)).toArray 3)) := fun W => by
    have h := run_make (P := Try.prog) W 49 3 i0 (.int .i64 0) Try.underlying49 hi hz0 .i64 .i64 (ts.length : Int) (ts.length : Int) (by omega) (by omega) (by rw [hz2]; omega) (by omega)
    rw [hz1, Int.toNat_natCast, Nat.mul_one, hM] at h
    simpa using h
  clear hM
  have H0 : Hid (OwnI (w.alloc (.cells ((List.replicate ts.length (0 : Int)).map (Value.int .i64)).toArray 3)) w.heap.size (.slice (some ⟨w.heap.size, 0, none⟩) ts.length ts.length) (List.replicate ts.length 0)) := by
    have := OwnI.lit w w.heap.size (List.replicate ts.length 0) (Nat.le_refl _) (by rw [List.length_replicate]; omega)
    rw [List.length_replicate] at this
    exact this
  generalize hA : ((List.replicate ts.length (0 : Int)).map (Value.int .i64)).toArray = A at hmk H0
  clear hA
  go_enter Try.func55, Try.ntmps55
  go_wp2
  go_loopw [4] (fun i wr => ∃ (k : Nat) (xs : List Int), k ≤ ts.length ∧ i = .int .i64 k ∧ Hid (xs.length = ts.length) ∧ Hid (xs.take k = ts.take k) ∧ Hid (OwnI wr w.heap.size (.slice (some ⟨w.heap.size, 0, none⟩) ts.length ts.length) xs) ∧ w.heap.size < wr.heap.size ∧ Below w.heap.size w wr) (fun i _ => ts.length - (intOf i).toNat)
  case atStart => exact ⟨0, _, by omega, rfl, List.length_replicate, rfl, H0.out, by simp, (Below.refl _ _).alloc (Nat.le_refl _) _⟩
  case round =>
    obtain ⟨k, xs, hk, rfl, hxl, htk, hown, hsz, hb⟩ := hrel
    by_cases hlt : k < ts.length
    · obtain ⟨b, off, rfl, hbb, hc⟩ := hx.out k hlt
      have hc' : wr.cell? ⟨b, off + k, none⟩ = some (.int .i64 ts[k]) := (hb.cell (p := ⟨b, off + k, none⟩) hbb).trans hc
      obtain ⟨t, ht⟩ : ∃ t, t = ts[k] := ⟨_, rfl⟩
      rw [← ht] at hc'
      have HT : Hid (t = ts[k]) := ht
      clear ht hc
      have hown2 : OwnI wr w.heap.size (.slice (some ⟨w.heap.size, 0, none⟩) xs.length ts.length) xs := by rw [hxl.out]; exact hown.out
      obtain ⟨x, hce⟩ : ∃ x, wr.cell? ⟨w.heap.size, k, none⟩ = some (.int .i64 x) := ⟨xs[k]'(by rw [hxl.out]; exact hlt), by
        have := World.ownsRow.cellAt hown2 k (by rw [hxl.out]; omega)
        rw [this]
        simp [hxl.out, hlt]⟩
      have hfz : wr.frozen? ⟨w.heap.size, k, none⟩ = false := World.ownsRow.frozenAt hown2 k
      have HO : Hid _ := hown2.store k t
      clear hown2
      go_wp2
      go_roundw
      case rel =>
        refine ⟨k + 1, xs.set k t, by omega, by go_num, by rw [List.length_set]; exact hxl.out, ?_, ?_, ?_, hb.setCell (Nat.le_refl _) _⟩
        · show (xs.set k t).take (k + 1) = ts.take (k + 1)
          have hkx : k < xs.length := by rw [hxl.out]; exact hlt
          rw [List.take_succ_eq_append_getElem (by rw [List.length_set]; exact hkx), List.take_succ_eq_append_getElem hlt, List.take_set_of_le (Nat.le_refl _), htk.out, HT.out]
          simp
        · show OwnI _ _ _ _
          have := HO.out.1
          rw [hxl.out] at this
          exact this
        · have := HO.out.2.size
          omega
      case measure => simp [intOf]; omega
    · obtain rfl : k = ts.length := by omega
      go_wp2
      go_ret
      refine ⟨_, rfl, ?_, hb⟩
      have e : xs = ts := by
        have := htk.out
        rwa [List.take_of_length_le (by rw [hxl.out]; exact Nat.le_refl _), List.take_of_length_le (Nat.le_refl _)] at this
      rw [← e, hxl.out]
      exact hown.out

set_option maxRecDepth 100000 in
set_option maxHeartbeats 1000000 in
theorem eqI_same (v1 v2 : Value) (ss : List Int) (B1 B2 : Nat) (w : World) (h1 : OwnI w B1 v1 ss) (h2 : OwnI w B2 v2 ss) (hl : ss.length ≤ 1048576) :
    Calls Try.prog 58 #[v1, v2] w fun e w' => e = .returned (.bool true) ∧ Below w.heap.size w w' := by
  by_cases h0 : ss.length = 0
  · obtain ⟨ao1, cap1, rfl⟩ := h1.form
    obtain ⟨ao2, cap2, rfl⟩ := h2.form
    rw [h0]
    clear h1 h2
    go_enter Try.func58, Try.ntmps58
    go_wp2
    refine wp_loop_rounds 1 ?_
    rw [rounds_succ]
    go_wp2
    go_ret
    exact ⟨rfl, Below.refl _ _⟩
  · obtain ⟨g1, cap1, rfl, _, hg1, hc1, _⟩ := h1.some (by omega)
    obtain ⟨g2, cap2, rfl, _, hg2, hc2, _⟩ := h2.some (by omega)
    clear h1 h2
    go_enter Try.func58, Try.ntmps58
    go_wp2
    go_loopw [5] (fun i wr => ∃ k : Nat, k ≤ ss.length ∧ i = .int .i64 k ∧ Below w.heap.size w wr) (fun i _ => ss.length - (intOf i).toNat)
    case atStart => exact ⟨0, by omega, rfl, Below.refl _ _⟩
    case round =>
      obtain ⟨k, hk, rfl, hb⟩ := hrel
      by_cases hlt : k < ss.length
      · have hce1 : wr.cell? ⟨g1, k, none⟩ = some (.int .i64 ss[k]) := (hb.cell (p := ⟨g1, k, none⟩) hg1).trans (hc1 k hlt)
        have hce2 : wr.cell? ⟨g2, k, none⟩ = some (.int .i64 ss[k]) := (hb.cell (p := ⟨g2, k, none⟩) hg2).trans (hc2 k hlt)
        have hq1 : (0 : Int) ≤ (k : Int) := by omega
        have hq2 : (k : Int) < (ss.length : Int) := by omega
        clear hc1 hc2
        go_wp2
        go_quiet (fail)
        go_wp2
        go_roundw
        case rel => exact ⟨k + 1, by omega, by go_num, below_drewK hb _⟩
        case measure => simp [intOf]; omega
      · go_wp2
        go_ret
        exact ⟨rfl, hb⟩


theorem TokAt.set5 {w : World} {g : Nat} {c r q a b : Int} {v : Value} (h : TokAt w g c r q a b v) (u : Value) : TokAt (w.setCell ⟨g, 5, none⟩ u) g c r q a b u := by
  have := heap_setCell_same w g 5 _ 72 u h
  unfold TokAt; rw [this]; rfl
theorem TokAt.turn {w w' : World} {g k : Nat} {c r q a b : Int} {v : Value} (h : TokAt w g c r q a b v) (hk : TurnAt k w w') (hg : g ≠ k) : TokAt w' g c r q a b v := (hk.block g hg).trans h
theorem TokAt.agg {w : World} {g : Nat} {c r q a b : Int} {v : Value} (h : TokAt w g c r q a b v) (c' r' q' a' b' : Int) (v' : Value) :
    TokAt ((((((w.setCell ⟨g, 0, none⟩ (.int .i64 c')).setCell ⟨g, 1, none⟩ (.int .i64 r')).setCell ⟨g, 2, none⟩ (.int .i64 q')).setCell ⟨g, 3, none⟩ (.int .i64 a')).setCell ⟨g, 4, none⟩ (.int .i64 b')).setCell ⟨g, 5, none⟩ v') g c' r' q' a' b' v' := by
  have h0 := heap_setCell_same w g 0 _ 72 (.int .i64 c') h
  have h1 := heap_setCell_same _ g 1 _ 72 (.int .i64 r') h0
  have h2 := heap_setCell_same _ g 2 _ 72 (.int .i64 q') h1
  have h3 := heap_setCell_same _ g 3 _ 72 (.int .i64 a') h2
  have h4 := heap_setCell_same _ g 4 _ 72 (.int .i64 b') h3
  have h5 := heap_setCell_same _ g 5 _ 72 v' h4
  unfold TokAt; rw [h5]; rfl
/-- a list's block is no token's. -/
theorem own_tok {w w' : World} {B g : Nat} {v : Value} {xs : List Int} {c r q a b : Int} {u : Value} (h : OwnI w B v xs) (hu : TokAt w g c r q a b u) (ht : TurnAt g w w') : OwnI w' B v xs := by
  refine ⟨h.1, ?_⟩
  rcases h.2 with hn | ⟨k, cap, cur, rfl, hbg, hk, rest⟩
  · exact .inl hn
  · have hne : k ≠ g := by
      rintro rfl
      unfold TokAt at hu
      rw [hk] at hu
      simp at hu
    exact .inr ⟨k, cap, cur, rfl, hbg, (ht.block k hne).trans hk, rest⟩

set_option maxRecDepth 100000 in
set_option maxHeartbeats 2000000 in
theorem toTok_any (c r q a b : Int) (ao : Option Addr) (cap : Nat) (ws : List Int) (w : World) (hx : Hid (IntsAt w ao ws)) (hl : ws.length ≤ 1048576) :
    Calls Try.prog 87 #[.agg #[.int .i64 c, .int .i64 r, .int .i64 q, .int .i64 a, .int .i64 b, .slice ao ws.length cap]] w fun e w' => ∃ v, e = .returned (.agg #[.int .i64 c, .int .i64 r, .int .i64 q, .int .i64 a, .int .i64 b, v]) ∧ OwnI w' w.heap.size v ws ∧ Below w.heap.size w w' := by
  have hn1 : (w.alloc (.cells #[.int .i64 c, .int .i64 r, .int .i64 q, .int .i64 a, .int .i64 b, .slice ao ws.length cap] 102)).heap.size = w.heap.size + 1 := by simp
  have hn2 : ((w.alloc (.cells #[.int .i64 c, .int .i64 r, .int .i64 q, .int .i64 a, .int .i64 b, .slice ao ws.length cap] 102)).alloc (.cells #[.int .i64 0, .int .i64 0, .int .i64 0, .int .i64 0, .int .i64 0, .slice none 0 0] 72)).heap.size = w.heap.size + 2 := by simp
  have HR : Hid (TokAt (((w.alloc (.cells #[.int .i64 c, .int .i64 r, .int .i64 q, .int .i64 a, .int .i64 b, .slice ao ws.length cap] 102)).alloc (.cells #[.int .i64 0, .int .i64 0, .int .i64 0, .int .i64 0, .int .i64 0, .slice none 0 0] 72)).alloc (.cells #[.int .i64 c, .int .i64 r, .int .i64 q, .int .i64 a, .int .i64 b, .slice none 0 0] 72)) (w.heap.size + 1) 0 0 0 0 0 (.slice none 0 0)) := by
    have h := heap_alloc_new (w.alloc (.cells #[.int .i64 c, .int .i64 r, .int .i64 q, .int .i64 a, .int .i64 b, .slice ao ws.length cap] 102)) (.cells #[.int .i64 0, .int .i64 0, .int .i64 0, .int .i64 0, .int .i64 0, .slice none 0 0] 72)
    rw [hn1] at h
    exact TokAt.stays (B := w.heap.size + 2) h ((Below.refl _ _).alloc (by rw [hn2]; exact Nat.le_refl _) _) (by omega)
  have HO : Hid (TokAt (((w.alloc (.cells #[.int .i64 c, .int .i64 r, .int .i64 q, .int .i64 a, .int .i64 b, .slice ao ws.length cap] 102)).alloc (.cells #[.int .i64 0, .int .i64 0, .int .i64 0, .int .i64 0, .int .i64 0, .slice none 0 0] 72)).alloc (.cells #[.int .i64 c, .int .i64 r, .int .i64 q, .int .i64 a, .int .i64 b, .slice none 0 0] 72)) (w.heap.size + 2) c r q a b (.slice none 0 0)) := by
    have h := heap_alloc_new ((w.alloc (.cells #[.int .i64 c, .int .i64 r, .int .i64 q, .int .i64 a, .int .i64 b, .slice ao ws.length cap] 102)).alloc (.cells #[.int .i64 0, .int .i64 0, .int .i64 0, .int .i64 0, .int .i64 0, .slice none 0 0] 72)) (.cells #[.int .i64 c, .int .i64 r, .int .i64 q, .int .i64 a, .int .i64 b, .slice none 0 0] 72)
    rw [hn2] at h
    exact h
  have HB : Hid (Below w.heap.size w (((w.alloc (.cells #[.int .i64 c, .int .i64 r, .int .i64 q, .int .i64 a, .int .i64 b, .slice ao ws.length cap] 102)).alloc (.cells #[.int .i64 0, .int .i64 0, .int .i64 0, .int .i64 0, .int .i64 0, .slice none 0 0] 72)).alloc (.cells #[.int .i64 c, .int .i64 r, .int .i64 q, .int .i64 a, .int .i64 b, .slice none 0 0] 72))) := (((Below.refl _ _).alloc (Nat.le_refl _) _).alloc (by simp) _).alloc (by simp; omega) _
  have HX : Hid (IntsAt (((w.alloc (.cells #[.int .i64 c, .int .i64 r, .int .i64 q, .int .i64 a, .int .i64 b, .slice ao ws.length cap] 102)).alloc (.cells #[.int .i64 0, .int .i64 0, .int .i64 0, .int .i64 0, .int .i64 0, .slice none 0 0] 72)).alloc (.cells #[.int .i64 c, .int .i64 r, .int .i64 q, .int .i64 a, .int .i64 b, .slice none 0 0] 72)) ao ws) := hx.out.stays HB.out
  clear hn1 hn2 hx
  go_enter Try.func87, Try.ntmps87
  go_wp2_with fail
  generalize (((w.alloc (.cells #[.int .i64 c, .int .i64 r, .int .i64 q, .int .i64 a, .int .i64 b, .slice ao ws.length cap] 102)).alloc (.cells #[.int .i64 0, .int .i64 0, .int .i64 0, .int .i64 0, .int .i64 0, .slice none 0 0] 72)).alloc (.cells #[.int .i64 c, .int .i64 r, .int .i64 q, .int .i64 a, .int .i64 b, .slice none 0 0] 72)) = W at *
  refine (toI_any W ao cap ws HX hl).mono ?_
  rintro e w1 ⟨v, rfl, hv, hb1⟩
  have R1 : Hid (TokAt w1 (w.heap.size + 1) 0 0 0 0 0 (.slice none 0 0)) := HR.out.stays hb1 HR.out.lt
  have O1 : Hid (TokAt w1 (w.heap.size + 2) c r q a b (.slice none 0 0)) := HO.out.stays hb1 HO.out.lt
  have B1 : Hid (Below w.heap.size w w1) := HB.out.trans (hb1.mono HB.out.size)
  have V1 : Hid (OwnI w1 w.heap.size v ws) := hv.down HB.out.size
  obtain ⟨ao', cap', rfl⟩ := hv.form
  have c5 := O1.out.cells.2.2.2.2.2
  have f5 := O1.out.frozen 5
  clear hv hb1 HR HO HB HX
  have T2 := (TurnAt.refl (w.heap.size + 2) w1).setCell 5 (.slice ao' ws.length cap')
  have R2 : Hid (TokAt (w1.setCell ⟨w.heap.size + 2, 5, none⟩ (.slice ao' ws.length cap')) (w.heap.size + 1) 0 0 0 0 0 (.slice none 0 0)) := R1.out.turn T2 (by omega)
  have O2 : Hid (TokAt (w1.setCell ⟨w.heap.size + 2, 5, none⟩ (.slice ao' ws.length cap')) (w.heap.size + 2) c r q a b (.slice ao' ws.length cap')) := O1.out.set5 _
  have B2 : Hid (Below w.heap.size w (w1.setCell ⟨w.heap.size + 2, 5, none⟩ (.slice ao' ws.length cap'))) := B1.out.trans (T2.below (by omega))
  have V2 : Hid (OwnI (w1.setCell ⟨w.heap.size + 2, 5, none⟩ (.slice ao' ws.length cap')) w.heap.size (.slice ao' ws.length cap') ws) := own_tok V1.out O1.out T2
  clear T2 R1 O1 B1 V1
  obtain ⟨o0, o1, o2, o3, o4, o5⟩ := O2.out.cells
  obtain ⟨r0, r1, r2, r3, r4, r5⟩ := R2.out.cells
  have z0 := R2.out.frozen 0
  have z1 := R2.out.frozen 1
  have z2 := R2.out.frozen 2
  have z3 := R2.out.frozen 3
  have z4 := R2.out.frozen 4
  have z5 := R2.out.frozen 5
  have R3 : TokAt _ (w.heap.size + 1) c r q a b (.slice ao' ws.length cap') := R2.out.agg c r q a b (.slice ao' ws.length cap')
  have T3 := ((((((TurnAt.refl (w.heap.size + 1) (w1.setCell ⟨w.heap.size + 2, 5, none⟩ (.slice ao' ws.length cap'))).setCell 0 (.int .i64 c)).setCell 1 (.int .i64 r)).setCell 2 (.int .i64 q)).setCell 3 (.int .i64 a)).setCell 4 (.int .i64 b)).setCell 5 (.slice ao' ws.length cap')
  have V3 := own_tok V2.out R2.out T3
  have B3 := B2.out.trans (T3.below (by omega))
  clear T3 R2 O2 B2 V2
  go_wp2_with fail
  generalize ((((((((w1.setCell ⟨w.heap.size + 2, 5, none⟩ (.slice ao' ws.length cap')).setCell ⟨w.heap.size + 1, 0, none⟩ (.int .i64 c)).setCell ⟨w.heap.size + 1, 1, none⟩ (.int .i64 r)).setCell ⟨w.heap.size + 1, 2, none⟩ (.int .i64 q)).setCell ⟨w.heap.size + 1, 3, none⟩ (.int .i64 a)).setCell ⟨w.heap.size + 1, 4, none⟩ (.int .i64 b)).setCell ⟨w.heap.size + 1, 5, none⟩ (.slice ao' ws.length cap'))) = W3 at *
  obtain ⟨q0, q1, q2, q3, q4, q5⟩ := R3.cells
  refine bodyPost_ret (v := .agg #[.int .i64 c, .int .i64 r, .int .i64 q, .int .i64 a, .int .i64 b, .slice ao' ws.length cap']) (by simp [results, Try.results87, go_sem, q0, q1, q2, q3, q4, q5]) rfl ?_
  exact ⟨_, rfl, V3, B3⟩

set_option maxRecDepth 100000 in
set_option maxHeartbeats 1000000 in
theorem eqTok_same (c r q a b : Int) (v1 v2 : Value) (ws : List Int) (B1 B2 : Nat) (w : World) (h1 : Hid (OwnI w B1 v1 ws)) (h2 : Hid (OwnI w B2 v2 ws)) (hl : ws.length ≤ 1048576) :
    Calls Try.prog 91 #[.agg #[.int .i64 c, .int .i64 r, .int .i64 q, .int .i64 a, .int .i64 b, v1], .agg #[.int .i64 c, .int .i64 r, .int .i64 q, .int .i64 a, .int .i64 b, v2]] w fun e w' => e = .returned (.bool true) ∧ Below w.heap.size w w' := by
  obtain ⟨ao1, cap1, rfl⟩ := h1.out.form
  obtain ⟨ao2, cap2, rfl⟩ := h2.out.form
  go_enter Try.func91, Try.ntmps91
  go_wp2_with fail
  refine (eqI_same _ _ ws B1 B2 _ ((h1.out.alloc _).alloc _) ((h2.out.alloc _).alloc _) hl).mono ?_
  rintro e w1 ⟨rfl, hb1⟩
  go_wp2_with fail
  go_ret
  exact ⟨rfl, (((Below.refl _ _).alloc (Nat.le_refl _) _).alloc (by simp) _).trans (hb1.mono (by simp; omega))⟩

/-- the block g is a token that was handed in. -/
def LtokAt (w : World) (g : Nat) (c r q a b : Int) (v : Value) : Prop := w.heap[g]? = some (.cells #[.int .i64 c, .int .i64 r, .int .i64 q, .int .i64 a, .int .i64 b, v] 102 (0, 0))
theorem LtokAt.cells {w : World} {g : Nat} {c r q a b : Int} {v : Value} (h : LtokAt w g c r q a b v) : w.cell? ⟨g, 0, none⟩ = some (.int .i64 c) ∧ w.cell? ⟨g, 1, none⟩ = some (.int .i64 r) ∧ w.cell? ⟨g, 2, none⟩ = some (.int .i64 q) ∧ w.cell? ⟨g, 3, none⟩ = some (.int .i64 a) ∧ w.cell? ⟨g, 4, none⟩ = some (.int .i64 b) ∧ w.cell? ⟨g, 5, none⟩ = some v :=
  ⟨by rw [cell_of_row w g 0 _ 102 (0, 0) h]; rfl, by rw [cell_of_row w g 1 _ 102 (0, 0) h]; rfl, by rw [cell_of_row w g 2 _ 102 (0, 0) h]; rfl, by rw [cell_of_row w g 3 _ 102 (0, 0) h]; rfl, by rw [cell_of_row w g 4 _ 102 (0, 0) h]; rfl, by rw [cell_of_row w g 5 _ 102 (0, 0) h]; rfl⟩
theorem LtokAt.stays {w w' : World} {B g : Nat} {c r q a b : Int} {v : Value} (h : LtokAt w g c r q a b v) (hb : Below B w w') (hg : g < B) : LtokAt w' g c r q a b v := (hb.block g hg).trans h
end Go.Proofs.Ytdodeillifoibaa


/- Items: when one is right, copied, measured, compared. -/
namespace Go.Proofs.Ytdodeillifoibaa.Pl
/-- when an item is right. -/
def ItOk (q f l : Int) (t : ByteArray) : Prop := (1 ≤ q ∧ q ≤ 60) ∧ (1 ≤ f ∧ f ≤ 5) ∧ (1 ≤ l ∧ l ≤ 2) ∧ t.size ≤ 60
end Go.Proofs.Ytdodeillifoibaa.Pl
namespace Go.Proofs.Ytdodeillifoibaa
open Go.RowKit Pl
set_option linter.unusedVariables false

/-- whether an item is right. -/
def itB (q f l : Int) (t : ByteArray) : Bool := decide (1 ≤ q ∧ q ≤ 60) && (decide (1 ≤ f ∧ f ≤ 5) && (decide (1 ≤ l ∧ l ≤ 2) && decide ((t.size : Int) ≤ 60)))
set_option maxRecDepth 100000 in
set_option maxHeartbeats 1000000 in
theorem toItem_any (q f l : Int) (t : ByteArray) (w : World) :
    Calls Try.prog 54 #[.agg #[.int .i64 q, .int .i64 f, .int .i64 l, .string t]] w fun e w' => e = .returned (.agg #[.int .i64 q, .int .i64 f, .int .i64 l, .string t]) ∧ Below w.heap.size w w' := by
  go_enter Try.func54, Try.ntmps54
  go_wp2
  refine bodyPost_ret (v := .agg #[.int .i64 q, .int .i64 f, .int .i64 l, .string t]) (by simp [results, Try.results54, go_sem]) rfl ⟨rfl, ?_⟩
  exact (((Below.refl _ w).alloc (Nat.le_refl _) _).alloc (by simp) _).alloc (by simp; omega) _

set_option maxRecDepth 100000 in
set_option maxHeartbeats 1000000 in
theorem szItem_long (q f l : Int) (t : ByteArray) (k : Nat) (w : World) (h : k < t.size) (h2 : t.size ≤ 9223372036854775807) (hk : k ≤ 1048576) :
    Calls Try.prog 51 #[.agg #[.int .i64 q, .int .i64 f, .int .i64 l, .string t], .int .i64 k] w fun e w' => e = .returned (.int .i64 (-1)) ∧ Below w.heap.size w w' := by
  have hd : decide ((k : Int) - (t.size : Int) < 0) = true := by simp; omega
  go_enter Try.func51, Try.ntmps51
  go_wp2
  go_ret
  exact ⟨rfl, (Below.refl _ _).alloc (Nat.le_refl _) _⟩
set_option maxRecDepth 100000 in
set_option maxHeartbeats 1000000 in
theorem szItem_any (q f l : Int) (t : ByteArray) (k : Nat) (w : World) (h : t.size ≤ k) (hk : k ≤ 1048576) :
    Calls Try.prog 51 #[.agg #[.int .i64 q, .int .i64 f, .int .i64 l, .string t], .int .i64 k] w fun e w' => e = .returned (.int .i64 ((k - t.size : Nat) : Int)) ∧ Below w.heap.size w w' := by
  have hd : decide ((k : Int) - (t.size : Int) < 0) = false := by simp; omega
  go_enter Try.func51, Try.ntmps51
  go_wp2
  go_ret
  refine ⟨?_, (Below.refl _ _).alloc (Nat.le_refl _) _⟩
  rw [show ((k - t.size : Nat) : Int) = (k : Int) - (t.size : Int) by omega]
  rfl

/-- the block g is an item that was handed in. -/
def LitAt (w : World) (g : Nat) (q f l : Int) (t : ByteArray) : Prop := w.heap[g]? = some (.cells #[.int .i64 q, .int .i64 f, .int .i64 l, .string t] 53 (0, 0))
theorem LitAt.cells {w : World} {g : Nat} {q f l : Int} {t : ByteArray} (h : LitAt w g q f l t) : w.cell? ⟨g, 0, none⟩ = some (.int .i64 q) ∧ w.cell? ⟨g, 1, none⟩ = some (.int .i64 f) ∧ w.cell? ⟨g, 2, none⟩ = some (.int .i64 l) ∧ w.cell? ⟨g, 3, none⟩ = some (.string t) :=
  ⟨by rw [cell_of_row w g 0 _ 53 (0, 0) h]; rfl, by rw [cell_of_row w g 1 _ 53 (0, 0) h]; rfl, by rw [cell_of_row w g 2 _ 53 (0, 0) h]; rfl, by rw [cell_of_row w g 3 _ 53 (0, 0) h]; rfl⟩
theorem LitAt.stays {w w' : World} {B g : Nat} {q f l : Int} {t : ByteArray} (h : LitAt w g q f l t) (hb : Below B w w') (hg : g < B) : LitAt w' g q f l t := (hb.block g hg).trans h


/-- the block g is an item. -/
def ItAt (w : World) (g : Nat) (q f l : Int) (t : ByteArray) : Prop := w.heap[g]? = some (.cells #[.int .i64 q, .int .i64 f, .int .i64 l, .string t] 57 (0, 0))
theorem ItAt.cells {w : World} {g : Nat} {q f l : Int} {t : ByteArray} (h : ItAt w g q f l t) : w.cell? ⟨g, 0, none⟩ = some (.int .i64 q) ∧ w.cell? ⟨g, 1, none⟩ = some (.int .i64 f) ∧ w.cell? ⟨g, 2, none⟩ = some (.int .i64 l) ∧ w.cell? ⟨g, 3, none⟩ = some (.string t) :=
  ⟨by rw [cell_of_row w g 0 _ 57 (0, 0) h]; rfl, by rw [cell_of_row w g 1 _ 57 (0, 0) h]; rfl, by rw [cell_of_row w g 2 _ 57 (0, 0) h]; rfl, by rw [cell_of_row w g 3 _ 57 (0, 0) h]; rfl⟩
theorem ItAt.stays {w w' : World} {B g : Nat} {q f l : Int} {t : ByteArray} (h : ItAt w g q f l t) (hb : Below B w w') (hg : g < B) : ItAt w' g q f l t := (hb.block g hg).trans h
theorem ItAt.lt {w : World} {g : Nat} {q f l : Int} {t : ByteArray} (h : ItAt w g q f l t) : g < w.heap.size := (Array.getElem?_eq_some_iff.1 h).1

set_option maxRecDepth 100000 in
set_option maxHeartbeats 1000000 in
theorem eqItem_same (q f l : Int) (t : ByteArray) (w : World) :
    Calls Try.prog 29 #[.agg #[.int .i64 q, .int .i64 f, .int .i64 l, .string t], .agg #[.int .i64 q, .int .i64 f, .int .i64 l, .string t]] w fun e w' => e = .returned (.bool true) ∧ Below w.heap.size w w' := by
  go_enter Try.func29, Try.ntmps29
  go_wp2
  go_ret
  exact ⟨rfl, ((Below.refl _ _).alloc (Nat.le_refl _) _).alloc (by simp) _⟩
end Go.Proofs.Ytdodeillifoibaa


/- Lists of items: what lies where; the walk over the program's ItemsOk. -/
namespace Go.Proofs.Ytdodeillifoibaa
open Go.RowKit Pl
set_option linter.unusedVariables false

/-- an item, plain. -/
abbrev It := Int × Int × Int × ByteArray
/-- the items' cells of a slice. -/
def ItemsAt (w : World) (ao : Option Addr) (ts : List It) : Prop :=
  ∀ i (h : i < ts.length), ∃ b off, ao = some ⟨b, off, none⟩ ∧ b < w.heap.size ∧ w.cell? ⟨b, off + i * 4, none⟩ = some (.int .i64 ts[i].1) ∧ w.cell? ⟨b, off + i * 4 + 1, none⟩ = some (.int .i64 ts[i].2.1) ∧ w.cell? ⟨b, off + i * 4 + 2, none⟩ = some (.int .i64 ts[i].2.2.1) ∧ w.cell? ⟨b, off + i * 4 + 3, none⟩ = some (.string ts[i].2.2.2)
theorem ItemsAt.stays {w w' : World} {ao : Option Addr} {ts : List It} (h : ItemsAt w ao ts) (hb : Below w.heap.size w w') : ItemsAt w' ao ts := by
  intro i hi
  obtain ⟨b, off, h1, h2, h3, h4, h5, h6⟩ := h i hi
  exact ⟨b, off, h1, Nat.lt_of_lt_of_le h2 hb.size, (hb.cell (p := ⟨b, off + i * 4, none⟩) h2).trans h3, (hb.cell (p := ⟨b, off + i * 4 + 1, none⟩) h2).trans h4, (hb.cell (p := ⟨b, off + i * 4 + 2, none⟩) h2).trans h5, (hb.cell (p := ⟨b, off + i * 4 + 3, none⟩) h2).trans h6⟩

/-- whether items ascend from behind 'last', each right. -/
def iGo (last : Int) : List It → Bool
  | [] => true
  | x :: xs => if itB x.1 x.2.1 x.2.2.1 x.2.2.2 = false ∨ x.1 ≤ last then false else iGo x.1 xs
/-- the state of a loop over items. -/
def ISt (ts : List It) (k : Nat) (L : Int) : Prop := iGo L (ts.drop k) = iGo 0 ts ∧ 0 ≤ L ∧ (k = 0 → L = 0) ∧ ∀ j (h : j < ts.length), k = j + 1 → L = ts[j].1
end Go.Proofs.Ytdodeillifoibaa


