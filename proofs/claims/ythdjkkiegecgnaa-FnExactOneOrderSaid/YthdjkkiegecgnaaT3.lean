/- The walks over lists of ints and tokens that a law copies, sizes and compares. -/
import Derived.Test.YthdjkkiegecgnaaT1
import Derived.Laws.MakeOwn
namespace Go.Proofs.Ythdjkkiegecgnaa
open Go.RowKit Pl
set_option linter.unusedVariables false

theorem Try.info3' : (Try.prog.info? 3).map (fun i => (i.zero, i.size, i.bytes)) = some (some (.int .i64 0), 1, 8) := by kernel_rfl

set_option maxRecDepth 100000 in
set_option maxHeartbeats 1000000 in
theorem toI_any (w : World) (ao : Option Addr) (cap : Nat) (ts : List Int) (hx : Hid (IntsAt w ao ts)) (hl : ts.length ≤ 1048576) :
    Calls Try.prog 81 #[.slice ao ts.length cap] w fun e w' => ∃ v, e = .returned v ∧ OwnI w' w.heap.size v ts ∧ Below w.heap.size w w' := by
  obtain ⟨i0, hi, hz0, hz1, hz2⟩ := info_parts Try.info3'
  have hM : madeCells (Value.int .i64 0).cells ts.length = ((List.replicate ts.length (0 : Int)).map (Value.int .i64)).toArray := by
    apply Array.ext'
    rw [show (Value.int .i64 0).cells = #[Value.int .i64 0] from rfl, toList_madeCells_one]
    simp
  have hmk : ∀ W : World, (Instr.makeSlice 24 (.int .i64 (ts.length : Int)) (.int .i64 (ts.length : Int))).run Try.prog W = .ok (.slice (some ⟨W.heap.size, 0, none⟩) ts.length ts.length) (W.alloc (.cells ((List.replicate ts.length (0 : Int)).map (Value.int .i64)).toArray 3)) := fun W => by
    have h := run_make (P := Try.prog) W 24 3 i0 (.int .i64 0) Try.underlying24 hi hz0 .i64 .i64 (ts.length : Int) (ts.length : Int) (by omega) (by omega) (by rw [hz2]; omega) (by omega)
    rw [hz1, Int.toNat_natCast, Nat.mul_one, hM] at h
    simpa using h
  clear hM
  have H0 : Hid (OwnI (w.alloc (.cells ((List.replicate ts.length (0 : Int)).map (Value.int .i64)).toArray 3)) w.heap.size (.slice (some ⟨w.heap.size, 0, none⟩) ts.length ts.length) (List.replicate ts.length 0)) := by
    have := OwnI.lit w w.heap.size (List.replicate ts.length 0) (Nat.le_refl _) (by rw [List.length_replicate]; omega)
    rw [List.length_replicate] at this
    exact this
  generalize hA : ((List.replicate ts.length (0 : Int)).map (Value.int .i64)).toArray = A at hmk H0
  clear hA
  go_enter Try.func81, Try.ntmps81
  go_wp2
  go_loopw [4] (fun i wr => ∃ (k : Nat) (xs : List Int), k ≤ ts.length ∧ i = .int .i64 k ∧ Hid (xs.length = ts.length) ∧ Hid (xs.take k = ts.take k) ∧ Hid (OwnI wr w.heap.size (.slice (some ⟨w.heap.size, 0, none⟩) ts.length ts.length) xs) ∧ w.heap.size < wr.heap.size ∧ Below w.heap.size w wr) (fun i _ => ts.length - (intOf i).toNat)
  case atStart => exact ⟨0, _, by omega, rfl, List.length_replicate, rfl, H0.out, by simp, (Below.refl _ _).alloc (Nat.le_refl _) _⟩
  case round =>
    obtain ⟨k, xs, hk, rfl, hxl, htk, hown, hsz, hb⟩ := hrel
    by_cases hlt : k < ts.length
    · obtain ⟨b, off, rfl, hbb, hc⟩ := hx.out k hlt
      have hc' : wr.cell? ⟨b, off + k, none⟩ = some (.int .i64 ts[k]) := (hb.cell (p := ⟨b, off + k, none⟩) hbb).trans hc
      obtain ⟨t, ht⟩ : ∃ t, t = ts[k] := ⟨_, rfl⟩
      rw [← ht] at hc'
      have HT : Hid (t = ts[k]) := ht
      clear ht hc
      have hown2 : OwnI wr w.heap.size (.slice (some ⟨w.heap.size, 0, none⟩) xs.length ts.length) xs := by rw [hxl.out]; exact hown.out
      obtain ⟨x, hce⟩ : ∃ x, wr.cell? ⟨w.heap.size, k, none⟩ = some (.int .i64 x) := ⟨xs[k]'(by rw [hxl.out]; exact hlt), by
        have := World.ownsRow.cellAt hown2 k (by rw [hxl.out]; omega)
        rw [this]
        simp [hxl.out, hlt]⟩
      have hfz : wr.frozen? ⟨w.heap.size, k, none⟩ = false := World.ownsRow.frozenAt hown2 k
      have HO : Hid _ := hown2.store k t
      clear hown2
      go_wp2
      go_roundw
      case rel =>
        refine ⟨k + 1, xs.set k t, by omega, by go_num, by rw [List.length_set]; exact hxl.out, ?_, ?_, ?_, hb.setCell (Nat.le_refl _) _⟩
        · show (xs.set k t).take (k + 1) = ts.take (k + 1)
          have hkx : k < xs.length := by rw [hxl.out]; exact hlt
          rw [List.take_succ_eq_append_getElem (by rw [List.length_set]; exact hkx), List.take_succ_eq_append_getElem hlt, List.take_set_of_le (Nat.le_refl _), htk.out, HT.out]
          simp
        · show OwnI _ _ _ _
          have := HO.out.1
          rw [hxl.out] at this
          exact this
        · have := HO.out.2.size
          omega
      case measure => simp [intOf]; omega
    · obtain rfl : k = ts.length := by omega
      go_wp2
      go_ret
      refine ⟨_, rfl, ?_, hb⟩
      have e : xs = ts := by
        have := htk.out
        rwa [List.take_of_length_le (by rw [hxl.out]; exact Nat.le_refl _), List.take_of_length_le (Nat.le_refl _)] at this
      rw [← e, hxl.out]
      exact hown.out

set_option maxRecDepth 100000 in
set_option maxHeartbeats 1000000 in
theorem eqI_same (v1 v2 : Value) (ss : List Int) (B1 B2 : Nat) (w : World) (h1 : OwnI w B1 v1 ss) (h2 : OwnI w B2 v2 ss) (hl : ss.length ≤ 1048576) :
    Calls Try.prog 83 #[v1, v2] w fun e w' => e = .returned (.bool true) ∧ Below w.heap.size w w' := by
  by_cases h0 : ss.length = 0
  · obtain ⟨ao1, cap1, rfl⟩ := h1.form
    obtain ⟨ao2, cap2, rfl⟩ := h2.form
    rw [h0]
    clear h1 h2
    go_enter Try.func83, Try.ntmps83
    go_wp2
    refine wp_loop_rounds 1 ?_
    rw [rounds_succ]
    go_wp2
    go_ret
    exact ⟨rfl, Below.refl _ _⟩
  · obtain ⟨g1, cap1, rfl, _, hg1, hc1, _⟩ := h1.some (by omega)
    obtain ⟨g2, cap2, rfl, _, hg2, hc2, _⟩ := h2.some (by omega)
    clear h1 h2
    go_enter Try.func83, Try.ntmps83
    go_wp2
    go_loopw [5] (fun i wr => ∃ k : Nat, k ≤ ss.length ∧ i = .int .i64 k ∧ Below w.heap.size w wr) (fun i _ => ss.length - (intOf i).toNat)
    case atStart => exact ⟨0, by omega, rfl, Below.refl _ _⟩
    case round =>
      obtain ⟨k, hk, rfl, hb⟩ := hrel
      by_cases hlt : k < ss.length
      · have hce1 : wr.cell? ⟨g1, k, none⟩ = some (.int .i64 ss[k]) := (hb.cell (p := ⟨g1, k, none⟩) hg1).trans (hc1 k hlt)
        have hce2 : wr.cell? ⟨g2, k, none⟩ = some (.int .i64 ss[k]) := (hb.cell (p := ⟨g2, k, none⟩) hg2).trans (hc2 k hlt)
        have hq1 : (0 : Int) ≤ (k : Int) := by omega
        have hq2 : (k : Int) < (ss.length : Int) := by omega
        clear hc1 hc2
        go_wp2
        go_quiet (fail)
        go_wp2
        go_roundw
        case rel => exact ⟨k + 1, by omega, by go_num, below_drewK hb _⟩
        case measure => simp [intOf]; omega
      · go_wp2
        go_ret
        exact ⟨rfl, hb⟩


set_option maxRecDepth 100000 in
set_option maxHeartbeats 1000000 in
theorem szI_long (ao : Option Addr) (n cap : Nat) (w : World) (h : 1048576 < n) (h2 : n ≤ 9223372036854775807) :
    Calls Try.prog 77 #[.slice ao n cap, .int .i64 1048576] w fun e w' => e = .returned (.int .i64 (-1)) ∧ w' = w := by
  have hd : decide ((1048576 : Int) - (n : Int) < 0) = true := by simp; omega
  go_enter Try.func77, Try.ntmps77
  go_wp2
  go_ret
  exact ⟨rfl, rfl⟩
set_option maxRecDepth 100000 in
set_option maxHeartbeats 1000000 in
theorem szI_any (ao : Option Addr) (n cap : Nat) (w : World) (h : n ≤ 1048576) :
    Calls Try.prog 77 #[.slice ao n cap, .int .i64 1048576] w fun e w' => e = .returned (.int .i64 ((1048576 - n : Nat) : Int)) ∧ w' = w := by
  have hd : decide ((1048576 : Int) - (n : Int) < 0) = false := by simp; omega
  go_enter Try.func77, Try.ntmps77
  go_wp2
  go_ret
  refine ⟨?_, rfl⟩
  rw [show ((1048576 - n : Nat) : Int) = 1048576 - (n : Int) by omega]
  rfl
set_option maxRecDepth 100000 in
set_option maxHeartbeats 1000000 in
theorem szTok_long (c r q a b : Int) (ao : Option Addr) (n cap : Nat) (w : World) (h : 1048576 < n) (h2 : n ≤ 9223372036854775807) :
    Calls Try.prog 168 #[.agg #[.int .i64 c, .int .i64 r, .int .i64 q, .int .i64 a, .int .i64 b, .slice ao n cap], .int .i64 1048576] w fun e w' => e = .returned (.int .i64 (-1)) ∧ Below w.heap.size w w' := by
  go_enter Try.func168, Try.ntmps168
  go_wp2_with fail
  refine (szI_long ao n cap _ h h2).mono ?_
  rintro e w1 ⟨rfl, rfl⟩
  go_wp2_with fail
  go_ret
  exact ⟨rfl, (Below.refl _ _).alloc (Nat.le_refl _) _⟩
set_option maxRecDepth 100000 in
set_option maxHeartbeats 1000000 in
theorem szTok_any (c r q a b : Int) (ao : Option Addr) (n cap : Nat) (w : World) (h : n ≤ 1048576) :
    Calls Try.prog 168 #[.agg #[.int .i64 c, .int .i64 r, .int .i64 q, .int .i64 a, .int .i64 b, .slice ao n cap], .int .i64 1048576] w fun e w' => e = .returned (.int .i64 ((1048576 - n : Nat) : Int)) ∧ Below w.heap.size w w' := by
  have hz : decide (((1048576 - n : Nat) : Int) < 0) = false := by simp
  go_enter Try.func168, Try.ntmps168
  go_wp2_with fail
  refine (szI_any ao n cap _ h).mono ?_
  rintro e w1 ⟨rfl, rfl⟩
  go_wp2_with fail
  go_ret
  exact ⟨rfl, (Below.refl _ _).alloc (Nat.le_refl _) _⟩

theorem TokAt.set5 {w : World} {g : Nat} {c r q a b : Int} {v : Value} (h : TokAt w g c r q a b v) (u : Value) : TokAt (w.setCell ⟨g, 5, none⟩ u) g c r q a b u := by
  have := heap_setCell_same w g 5 _ 30 u h
  unfold TokAt; rw [this]; rfl
theorem TokAt.turn {w w' : World} {g k : Nat} {c r q a b : Int} {v : Value} (h : TokAt w g c r q a b v) (hk : TurnAt k w w') (hg : g ≠ k) : TokAt w' g c r q a b v := (hk.block g hg).trans h
theorem TokAt.agg {w : World} {g : Nat} {c r q a b : Int} {v : Value} (h : TokAt w g c r q a b v) (c' r' q' a' b' : Int) (v' : Value) :
    TokAt ((((((w.setCell ⟨g, 0, none⟩ (.int .i64 c')).setCell ⟨g, 1, none⟩ (.int .i64 r')).setCell ⟨g, 2, none⟩ (.int .i64 q')).setCell ⟨g, 3, none⟩ (.int .i64 a')).setCell ⟨g, 4, none⟩ (.int .i64 b')).setCell ⟨g, 5, none⟩ v') g c' r' q' a' b' v' := by
  have h0 := heap_setCell_same w g 0 _ 30 (.int .i64 c') h
  have h1 := heap_setCell_same _ g 1 _ 30 (.int .i64 r') h0
  have h2 := heap_setCell_same _ g 2 _ 30 (.int .i64 q') h1
  have h3 := heap_setCell_same _ g 3 _ 30 (.int .i64 a') h2
  have h4 := heap_setCell_same _ g 4 _ 30 (.int .i64 b') h3
  have h5 := heap_setCell_same _ g 5 _ 30 v' h4
  unfold TokAt; rw [h5]; rfl
/-- a list's block is no token's. -/
theorem own_tok {w w' : World} {B g : Nat} {v : Value} {xs : List Int} {c r q a b : Int} {u : Value} (h : OwnI w B v xs) (hu : TokAt w g c r q a b u) (ht : TurnAt g w w') : OwnI w' B v xs := by
  refine ⟨h.1, ?_⟩
  rcases h.2 with hn | ⟨k, cap, cur, rfl, hbg, hk, rest⟩
  · exact .inl hn
  · have hne : k ≠ g := by
      rintro rfl
      unfold TokAt at hu
      rw [hk] at hu
      simp at hu
    exact .inr ⟨k, cap, cur, rfl, hbg, (ht.block k hne).trans hk, rest⟩

set_option maxRecDepth 100000 in
set_option maxHeartbeats 2000000 in
theorem toTok_any (c r q a b : Int) (ao : Option Addr) (cap : Nat) (ws : List Int) (w : World) (hx : Hid (IntsAt w ao ws)) (hl : ws.length ≤ 1048576) :
    Calls Try.prog 170 #[.agg #[.int .i64 c, .int .i64 r, .int .i64 q, .int .i64 a, .int .i64 b, .slice ao ws.length cap]] w fun e w' => ∃ v, e = .returned (.agg #[.int .i64 c, .int .i64 r, .int .i64 q, .int .i64 a, .int .i64 b, v]) ∧ OwnI w' w.heap.size v ws ∧ Below w.heap.size w w' := by
  have hn1 : (w.alloc (.cells #[.int .i64 c, .int .i64 r, .int .i64 q, .int .i64 a, .int .i64 b, .slice ao ws.length cap] 179)).heap.size = w.heap.size + 1 := by simp
  have hn2 : ((w.alloc (.cells #[.int .i64 c, .int .i64 r, .int .i64 q, .int .i64 a, .int .i64 b, .slice ao ws.length cap] 179)).alloc (.cells #[.int .i64 0, .int .i64 0, .int .i64 0, .int .i64 0, .int .i64 0, .slice none 0 0] 30)).heap.size = w.heap.size + 2 := by simp
  have HR : Hid (TokAt (((w.alloc (.cells #[.int .i64 c, .int .i64 r, .int .i64 q, .int .i64 a, .int .i64 b, .slice ao ws.length cap] 179)).alloc (.cells #[.int .i64 0, .int .i64 0, .int .i64 0, .int .i64 0, .int .i64 0, .slice none 0 0] 30)).alloc (.cells #[.int .i64 c, .int .i64 r, .int .i64 q, .int .i64 a, .int .i64 b, .slice none 0 0] 30)) (w.heap.size + 1) 0 0 0 0 0 (.slice none 0 0)) := by
    have h := heap_alloc_new (w.alloc (.cells #[.int .i64 c, .int .i64 r, .int .i64 q, .int .i64 a, .int .i64 b, .slice ao ws.length cap] 179)) (.cells #[.int .i64 0, .int .i64 0, .int .i64 0, .int .i64 0, .int .i64 0, .slice none 0 0] 30)
    rw [hn1] at h
    exact TokAt.stays (B := w.heap.size + 2) h ((Below.refl _ _).alloc (by rw [hn2]; exact Nat.le_refl _) _) (by omega)
  have HO : Hid (TokAt (((w.alloc (.cells #[.int .i64 c, .int .i64 r, .int .i64 q, .int .i64 a, .int .i64 b, .slice ao ws.length cap] 179)).alloc (.cells #[.int .i64 0, .int .i64 0, .int .i64 0, .int .i64 0, .int .i64 0, .slice none 0 0] 30)).alloc (.cells #[.int .i64 c, .int .i64 r, .int .i64 q, .int .i64 a, .int .i64 b, .slice none 0 0] 30)) (w.heap.size + 2) c r q a b (.slice none 0 0)) := by
    have h := heap_alloc_new ((w.alloc (.cells #[.int .i64 c, .int .i64 r, .int .i64 q, .int .i64 a, .int .i64 b, .slice ao ws.length cap] 179)).alloc (.cells #[.int .i64 0, .int .i64 0, .int .i64 0, .int .i64 0, .int .i64 0, .slice none 0 0] 30)) (.cells #[.int .i64 c, .int .i64 r, .int .i64 q, .int .i64 a, .int .i64 b, .slice none 0 0] 30)
    rw [hn2] at h
    exact h
  have HB : Hid (Below w.heap.size w (((w.alloc (.cells #[.int .i64 c, .int .i64 r, .int .i64 q, .int .i64 a, .int .i64 b, .slice ao ws.length cap] 179)).alloc (.cells #[.int .i64 0, .int .i64 0, .int .i64 0, .int .i64 0, .int .i64 0, .slice none 0 0] 30)).alloc (.cells #[.int .i64 c, .int .i64 r, .int .i64 q, .int .i64 a, .int .i64 b, .slice none 0 0] 30))) := (((Below.refl _ _).alloc (Nat.le_refl _) _).alloc (by simp) _).alloc (by simp; omega) _
  have HX : Hid (IntsAt (((w.alloc (.cells #[.int .i64 c, .int .i64 r, .int .i64 q, .int .i64 a, .int .i64 b, .slice ao ws.length cap] 179)).alloc (.cells #[.int .i64 0, .int .i64 0, .int .i64 0, .int .i64 0, .int .i64 0, .slice none 0 0] 30)).alloc (.cells #[.int .i64 c, .int .i64 r, .int .i64 q, .int .i64 a, .int .i64 b, .slice none 0 0] 30)) ao ws) := hx.out.stays HB.out
  clear hn1 hn2 hx
  go_enter Try.func170, Try.ntmps170
  go_wp2_with fail
  generalize (((w.alloc (.cells #[.int .i64 c, .int .i64 r, .int .i64 q, .int .i64 a, .int .i64 b, .slice ao ws.length cap] 179)).alloc (.cells #[.int .i64 0, .int .i64 0, .int .i64 0, .int .i64 0, .int .i64 0, .slice none 0 0] 30)).alloc (.cells #[.int .i64 c, .int .i64 r, .int .i64 q, .int .i64 a, .int .i64 b, .slice none 0 0] 30)) = W at *
  refine (toI_any W ao cap ws HX hl).mono ?_
  rintro e w1 ⟨v, rfl, hv, hb1⟩
  have R1 : Hid (TokAt w1 (w.heap.size + 1) 0 0 0 0 0 (.slice none 0 0)) := HR.out.stays hb1 HR.out.lt
  have O1 : Hid (TokAt w1 (w.heap.size + 2) c r q a b (.slice none 0 0)) := HO.out.stays hb1 HO.out.lt
  have B1 : Hid (Below w.heap.size w w1) := HB.out.trans (hb1.mono HB.out.size)
  have V1 : Hid (OwnI w1 w.heap.size v ws) := hv.down HB.out.size
  obtain ⟨ao', cap', rfl⟩ := hv.form
  have c5 := O1.out.cells.2.2.2.2.2
  have f5 := O1.out.frozen 5
  clear hv hb1 HR HO HB HX
  have T2 := (TurnAt.refl (w.heap.size + 2) w1).setCell 5 (.slice ao' ws.length cap')
  have R2 : Hid (TokAt (w1.setCell ⟨w.heap.size + 2, 5, none⟩ (.slice ao' ws.length cap')) (w.heap.size + 1) 0 0 0 0 0 (.slice none 0 0)) := R1.out.turn T2 (by omega)
  have O2 : Hid (TokAt (w1.setCell ⟨w.heap.size + 2, 5, none⟩ (.slice ao' ws.length cap')) (w.heap.size + 2) c r q a b (.slice ao' ws.length cap')) := O1.out.set5 _
  have B2 : Hid (Below w.heap.size w (w1.setCell ⟨w.heap.size + 2, 5, none⟩ (.slice ao' ws.length cap'))) := B1.out.trans (T2.below (by omega))
  have V2 : Hid (OwnI (w1.setCell ⟨w.heap.size + 2, 5, none⟩ (.slice ao' ws.length cap')) w.heap.size (.slice ao' ws.length cap') ws) := own_tok V1.out O1.out T2
  clear T2 R1 O1 B1 V1
  obtain ⟨o0, o1, o2, o3, o4, o5⟩ := O2.out.cells
  obtain ⟨r0, r1, r2, r3, r4, r5⟩ := R2.out.cells
  have z0 := R2.out.frozen 0
  have z1 := R2.out.frozen 1
  have z2 := R2.out.frozen 2
  have z3 := R2.out.frozen 3
  have z4 := R2.out.frozen 4
  have z5 := R2.out.frozen 5
  have R3 : TokAt _ (w.heap.size + 1) c r q a b (.slice ao' ws.length cap') := R2.out.agg c r q a b (.slice ao' ws.length cap')
  have T3 := ((((((TurnAt.refl (w.heap.size + 1) (w1.setCell ⟨w.heap.size + 2, 5, none⟩ (.slice ao' ws.length cap'))).setCell 0 (.int .i64 c)).setCell 1 (.int .i64 r)).setCell 2 (.int .i64 q)).setCell 3 (.int .i64 a)).setCell 4 (.int .i64 b)).setCell 5 (.slice ao' ws.length cap')
  have V3 := own_tok V2.out R2.out T3
  have B3 := B2.out.trans (T3.below (by omega))
  clear T3 R2 O2 B2 V2
  go_wp2_with fail
  generalize ((((((((w1.setCell ⟨w.heap.size + 2, 5, none⟩ (.slice ao' ws.length cap')).setCell ⟨w.heap.size + 1, 0, none⟩ (.int .i64 c)).setCell ⟨w.heap.size + 1, 1, none⟩ (.int .i64 r)).setCell ⟨w.heap.size + 1, 2, none⟩ (.int .i64 q)).setCell ⟨w.heap.size + 1, 3, none⟩ (.int .i64 a)).setCell ⟨w.heap.size + 1, 4, none⟩ (.int .i64 b)).setCell ⟨w.heap.size + 1, 5, none⟩ (.slice ao' ws.length cap'))) = W3 at *
  obtain ⟨q0, q1, q2, q3, q4, q5⟩ := R3.cells
  refine bodyPost_ret (v := .agg #[.int .i64 c, .int .i64 r, .int .i64 q, .int .i64 a, .int .i64 b, .slice ao' ws.length cap']) (by simp [results, Try.results170, go_sem, q0, q1, q2, q3, q4, q5]) rfl ?_
  exact ⟨_, rfl, V3, B3⟩

set_option maxRecDepth 100000 in
set_option maxHeartbeats 1000000 in
theorem eqTok_same (c r q a b : Int) (v1 v2 : Value) (ws : List Int) (B1 B2 : Nat) (w : World) (h1 : Hid (OwnI w B1 v1 ws)) (h2 : Hid (OwnI w B2 v2 ws)) (hl : ws.length ≤ 1048576) :
    Calls Try.prog 166 #[.agg #[.int .i64 c, .int .i64 r, .int .i64 q, .int .i64 a, .int .i64 b, v1], .agg #[.int .i64 c, .int .i64 r, .int .i64 q, .int .i64 a, .int .i64 b, v2]] w fun e w' => e = .returned (.bool true) ∧ Below w.heap.size w w' := by
  obtain ⟨ao1, cap1, rfl⟩ := h1.out.form
  obtain ⟨ao2, cap2, rfl⟩ := h2.out.form
  go_enter Try.func166, Try.ntmps166
  go_wp2_with fail
  refine (eqI_same _ _ ws B1 B2 _ ((h1.out.alloc _).alloc _) ((h2.out.alloc _).alloc _) hl).mono ?_
  rintro e w1 ⟨rfl, hb1⟩
  go_wp2_with fail
  go_ret
  exact ⟨rfl, (((Below.refl _ _).alloc (Nat.le_refl _) _).alloc (by simp) _).trans (hb1.mono (by simp; omega))⟩

/-- the block g is a token that was handed in. -/
def LtokAt (w : World) (g : Nat) (c r q a b : Int) (v : Value) : Prop := w.heap[g]? = some (.cells #[.int .i64 c, .int .i64 r, .int .i64 q, .int .i64 a, .int .i64 b, v] 179 (0, 0))
theorem LtokAt.cells {w : World} {g : Nat} {c r q a b : Int} {v : Value} (h : LtokAt w g c r q a b v) : w.cell? ⟨g, 0, none⟩ = some (.int .i64 c) ∧ w.cell? ⟨g, 1, none⟩ = some (.int .i64 r) ∧ w.cell? ⟨g, 2, none⟩ = some (.int .i64 q) ∧ w.cell? ⟨g, 3, none⟩ = some (.int .i64 a) ∧ w.cell? ⟨g, 4, none⟩ = some (.int .i64 b) ∧ w.cell? ⟨g, 5, none⟩ = some v :=
  ⟨by rw [cell_of_row w g 0 _ 179 (0, 0) h]; rfl, by rw [cell_of_row w g 1 _ 179 (0, 0) h]; rfl, by rw [cell_of_row w g 2 _ 179 (0, 0) h]; rfl, by rw [cell_of_row w g 3 _ 179 (0, 0) h]; rfl, by rw [cell_of_row w g 4 _ 179 (0, 0) h]; rfl, by rw [cell_of_row w g 5 _ 179 (0, 0) h]; rfl⟩
theorem LtokAt.stays {w w' : World} {B g : Nat} {c r q a b : Int} {v : Value} (h : LtokAt w g c r q a b v) (hb : Below B w w') (hg : g < B) : LtokAt w' g c r q a b v := (hb.block g hg).trans h
end Go.Proofs.Ythdjkkiegecgnaa
