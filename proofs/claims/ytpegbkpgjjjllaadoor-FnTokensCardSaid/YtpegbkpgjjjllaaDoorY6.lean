/- The walk over the specification's ReadToken. -/
import Derived.Test.YtpegbkpgjjjllaaDoorY5
namespace Go.Proofs.YtpegbkpgjjjllaaDoor
open Go.RowKit Pl
set_option linter.unusedVariables false

/-- what lies ready ahead of the loop and in it. -/
structure LoopAt (w wr : World) (gc gm : Nat) (s : ByteArray) (Aj : Nat) (bj : Bool) (c r q a b : Int) (v : Value) (xs : List Nat) : Prop where
  res : TokAt wr w.heap.size 0 0 0 0 0 (.slice none 0 0)
  tok : TokAt wr gm c r q a b v
  own : OwnI wr w.heap.size v (xs.map fun n : Nat => (n : Int))
  cur : PcAt wr gc s Aj bj
  below : Below w.heap.size w wr

theorem map_nat_inj {xs ys : List Nat} (h : xs.map (fun n : Nat => (n : Int)) = ys.map (fun n : Nat => (n : Int))) : xs = ys := by
  have := congrArg (List.map Int.toNat) h
  simpa [List.map_map, Function.comp_def] using this

theorem loop_next {w wr w8 w9 : World} {gc gm Aj i8 m cap : Nat} {s : ByteArray} {b8 : Bool} {c r q a b : Int} {ao : Option Addr} {v9 : Value} {xs : List Nat} (hL : LoopAt w wr gc gm s Aj false c r q a b (.slice ao xs.length cap) xs)
    (hk8 : KeepBut gc wr.drew w8) (hp8 : PcAt w8 gc s i8 b8) (h1 : w.heap.size < gc) (h2 : gc < gm) (hown9 : OwnI w9 w.heap.size v9 ((xs.map fun n : Nat => (n : Int)) ++ [(m : Int)])) (hb9 : (w8.alloc (.cells #[.int .i64 m] 3)).grownBy w9 (Value.slice ao xs.length cap).ownBlock) :
    LoopAt w (w9.setCell ⟨gm, 5, none⟩ v9) gc gm s i8 b8 c r q a b v9 (xs ++ [m]) := by
  have P0 : PcAt wr.drew gc s Aj false := hL.cur
  have V0 : OwnI wr.drew w.heap.size (.slice ao xs.length cap) (xs.map fun n : Nat => (n : Int)) := World.ownsRow.drew hL.own
  have V8 := own_keep_pc V0 P0 hk8
  have D8 : Below w8.heap.size w8 (w8.alloc (.cells #[.int .i64 m] 3)) := (Below.refl _ _).alloc (Nat.le_refl _) _
  have M8 : TokAt w8 gm c r q a b (.slice ao xs.length cap) := TokAt.keep (show TokAt wr.drew _ _ _ _ _ _ _ from hL.tok) hk8 (by omega)
  have R8 : TokAt w8 w.heap.size 0 0 0 0 0 (.slice none 0 0) := TokAt.keep (show TokAt wr.drew _ _ _ _ _ _ _ from hL.res) hk8 (by omega)
  have B8 : Below w.heap.size w w8 := hL.below.drew.trans (hk8.below (by omega) hL.below.size)
  have M9 := TokAt.grown (M8.stays D8 M8.lt) (V8.alloc _) hb9
  have R9 := TokAt.grown (R8.stays D8 R8.lt) (V8.alloc _) hb9
  have P9 := PcAt.grown (hp8.stays D8 hp8.lt) (V8.alloc _) hb9
  have B9 : Below w.heap.size w w9 := (B8.alloc B8.size _).grown hb9 (by simp; have := B8.size; omega) (fun k hk => (V8.lt k hk).1)
  have T9 := (TurnAt.refl gm w9).setCell 5 v9
  refine ⟨R9.turn T9 (by omega), M9.set5 v9, ?_, P9.keep T9 (by omega), B9.trans (T9.below (by omega))⟩
  rw [List.map_append]
  exact own_tok hown9 M9 T9

set_option maxRecDepth 100000 in
set_option maxHeartbeats 4000000 in
theorem spReadToken_any (t : ByteArray) (w : World) (hs : t.size ≤ 1048576) :
    Calls Tryd.prog 14 #[.string t] w fun e w' => ∃ (c r q a b : Nat) (ns : List Nat) (k : Bool) (v : Value), e = .returned (.tuple #[.agg #[.int .i64 c, .int .i64 r, .int .i64 q, .int .i64 a, .int .i64 b, v], .bool k]) ∧ AnsT t c r q a b ns k ∧ ns.length ≤ 1048576 ∧ OwnI w' w.heap.size v (ns.map fun n : Nat => (n : Int)) ∧ Below w.heap.size w w' := by
  obtain ⟨s, k, hs20, hcase, _, hspec⟩ := un_two t hs
  have HSPEC : Hid _ := hspec
  have HC : Hid _ := hcase
  have R0 : Hid (TokAt (w.alloc (.cells #[.int .i64 0, .int .i64 0, .int .i64 0, .int .i64 0, .int .i64 0, .slice none 0 0] 26)) w.heap.size 0 0 0 0 0 (.slice none 0 0)) := heap_alloc_new w _
  have B0 : Hid (Below w.heap.size w (w.alloc (.cells #[.int .i64 0, .int .i64 0, .int .i64 0, .int .i64 0, .int .i64 0, .slice none 0 0] 26))) := (Below.refl _ _).alloc (Nat.le_refl _) _
  clear hspec hcase
  go_enter Tryd.func14, Tryd.ntmps14
  go_wp2_with fail
  generalize w.alloc (.cells #[.int .i64 0, .int .i64 0, .int .i64 0, .int .i64 0, .int .i64 0, .slice none 0 0] 26) = W0 at *
  refine (HSPEC.out _).mono ?_
  rintro e w1 ⟨rfl, hb1⟩
  have R1 : Hid (TokAt w1 w.heap.size 0 0 0 0 0 (.slice none 0 0)) := R0.out.stays hb1 R0.out.lt
  have B1 : Hid (Below w.heap.size w w1) := B0.out.trans (hb1.mono B0.out.size)
  clear hb1 R0 B0 HSPEC
  have hN1 := R1.out.lt
  have R2 : Hid (TokAt (w1.alloc (.cells #[.string s, .int .i64 0, .bool (!k)] 58)) w.heap.size 0 0 0 0 0 (.slice none 0 0)) := R1.out.stays ((Below.refl _ _).alloc (Nat.le_refl _) _) hN1
  have P2 : Hid (PcAt (w1.alloc (.cells #[.string s, .int .i64 0, .bool (!k)] 58)) w1.heap.size s 0 (!k)) := heap_alloc_new w1 _
  have B2 : Hid (Below w.heap.size w (w1.alloc (.cells #[.string s, .int .i64 0, .bool (!k)] 58))) := B1.out.alloc B1.out.size _
  go_wp2_with fail
  generalize w1.alloc (.cells #[.string s, .int .i64 0, .bool (!k)] 58) = W1 at *
  generalize w1.heap.size = gc at *
  clear R1 B1
  refine (one_any s gc 0 (!k) W1 P2 (by omega) (Nat.zero_le _)).mono ?_
  rintro e w2 ⟨c, i0, b1, rfl, hc, hi0, hp2, ht2, hF0⟩
  have F0 : Hid (OneF s 0 (!k) c i0 b1) := hF0
  have R3 : Hid (TokAt w2 w.heap.size 0 0 0 0 0 (.slice none 0 0)) := R2.out.keep ht2.keep (by omega)
  have P3 : Hid (PcAt w2 gc s i0 b1) := hp2
  have B3 : Hid (Below w.heap.size w w2) := B2.out.trans (ht2.below (by omega))
  clear hp2 ht2 hF0 R2 P2 B2
  have hN2 := P3.out.lt
  have D3 : Hid (Below w2.heap.size w2 (w2.alloc (.cells #[.int .i64 c, .int .i64 0, .int .i64 0, .int .i64 0, .int .i64 0, .slice none 0 0] 26))) := (Below.refl _ _).alloc (Nat.le_refl _) _
  have M3 : Hid (TokAt (w2.alloc (.cells #[.int .i64 c, .int .i64 0, .int .i64 0, .int .i64 0, .int .i64 0, .slice none 0 0] 26)) w2.heap.size c 0 0 0 0 (.slice none 0 0)) := heap_alloc_new w2 _
  go_wp2_with fail
  generalize w2.alloc (.cells #[.int .i64 c, .int .i64 0, .int .i64 0, .int .i64 0, .int .i64 0, .slice none 0 0] 26) = W2 at *
  have R4 : Hid (TokAt W2 w.heap.size 0 0 0 0 0 (.slice none 0 0)) := R3.out.stays D3.out R3.out.lt
  have P4 : Hid (PcAt W2 gc s i0 b1) := P3.out.stays D3.out P3.out.lt
  have B4 : Hid (Below w.heap.size w W2) := B3.out.trans (D3.out.mono B3.out.size)
  clear R3 P3 B3 D3
  generalize w2.heap.size = gm at *
  refine (lvar_any s gc i0 b1 W2 P4 (by omega) hi0).mono ?_
  rintro e w3 ⟨r, i1, b2, rfl, hr, hi1, hp, hk, hF⟩
  have F1 : Hid (VarF s i0 b1 r i1 b2) := hF
  have RA0 : Hid (TokAt w3 w.heap.size 0 0 0 0 0 (.slice none 0 0)) := R4.out.keep hk (by omega)
  have MA0 : Hid (TokAt w3 gm c 0 0 0 0 (.slice none 0 0)) := M3.out.keep hk (by omega)
  have PA0 : Hid (PcAt w3 gc s i1 b2) := hp
  have BA0 : Hid (Below w.heap.size w w3) := B4.out.trans (hk.below (by omega) B4.out.size)
  have c0 := MA0.out.cells.2.1
  have f0 := MA0.out.frozen 1
  clear hp hk hF R4 M3 P4 B4
  have T0 := (TurnAt.refl gm w3).setCell 1 (.int .i64 r)
  have RB0 : Hid (TokAt (w3.setCell ⟨gm, 1, none⟩ (.int .i64 r)) w.heap.size 0 0 0 0 0 (.slice none 0 0)) := RA0.out.turn T0 (by omega)
  have MB0 : Hid (TokAt (w3.setCell ⟨gm, 1, none⟩ (.int .i64 r)) gm c r 0 0 0 (.slice none 0 0)) := MA0.out.set1 r
  have PB0 : Hid (PcAt (w3.setCell ⟨gm, 1, none⟩ (.int .i64 r)) gc s i1 b2) := PA0.out.keep T0 (by omega)
  have BB0 : Hid (Below w.heap.size w (w3.setCell ⟨gm, 1, none⟩ (.int .i64 r))) := BA0.out.trans (T0.below (by omega))
  clear T0 RA0 MA0 PA0 BA0
  go_wp2_with fail
  generalize (w3.setCell ⟨gm, 1, none⟩ (.int .i64 r)) = V0 at *
  clear c0 f0
  refine (lvar_any s gc i1 b2 V0 PB0 (by omega) hi1).mono ?_
  rintro e w4 ⟨q, i2, b3, rfl, hq, hi2, hp, hk, hF⟩
  have F2 : Hid (VarF s i1 b2 q i2 b3) := hF
  have RA1 : Hid (TokAt w4 w.heap.size 0 0 0 0 0 (.slice none 0 0)) := RB0.out.keep hk (by omega)
  have MA1 : Hid (TokAt w4 gm c r 0 0 0 (.slice none 0 0)) := MB0.out.keep hk (by omega)
  have PA1 : Hid (PcAt w4 gc s i2 b3) := hp
  have BA1 : Hid (Below w.heap.size w w4) := BB0.out.trans (hk.below (by omega) BB0.out.size)
  have c0 := MA1.out.cells.2.2.1
  have f0 := MA1.out.frozen 2
  clear hp hk hF RB0 MB0 PB0 BB0
  have T0 := (TurnAt.refl gm w4).setCell 2 (.int .i64 q)
  have RB1 : Hid (TokAt (w4.setCell ⟨gm, 2, none⟩ (.int .i64 q)) w.heap.size 0 0 0 0 0 (.slice none 0 0)) := RA1.out.turn T0 (by omega)
  have MB1 : Hid (TokAt (w4.setCell ⟨gm, 2, none⟩ (.int .i64 q)) gm c r q 0 0 (.slice none 0 0)) := MA1.out.set2 q
  have PB1 : Hid (PcAt (w4.setCell ⟨gm, 2, none⟩ (.int .i64 q)) gc s i2 b3) := PA1.out.keep T0 (by omega)
  have BB1 : Hid (Below w.heap.size w (w4.setCell ⟨gm, 2, none⟩ (.int .i64 q))) := BA1.out.trans (T0.below (by omega))
  clear T0 RA1 MA1 PA1 BA1
  go_wp2_with fail
  generalize (w4.setCell ⟨gm, 2, none⟩ (.int .i64 q)) = V1 at *
  clear c0 f0
  refine (lvar_any s gc i2 b3 V1 PB1 (by omega) hi2).mono ?_
  rintro e w5 ⟨a, i3, b4, rfl, ha, hi3, hp, hk, hF⟩
  have F3 : Hid (VarF s i2 b3 a i3 b4) := hF
  have RA2 : Hid (TokAt w5 w.heap.size 0 0 0 0 0 (.slice none 0 0)) := RB1.out.keep hk (by omega)
  have MA2 : Hid (TokAt w5 gm c r q 0 0 (.slice none 0 0)) := MB1.out.keep hk (by omega)
  have PA2 : Hid (PcAt w5 gc s i3 b4) := hp
  have BA2 : Hid (Below w.heap.size w w5) := BB1.out.trans (hk.below (by omega) BB1.out.size)
  have c0 := MA2.out.cells.2.2.2.1
  have f0 := MA2.out.frozen 3
  clear hp hk hF RB1 MB1 PB1 BB1
  have T0 := (TurnAt.refl gm w5).setCell 3 (.int .i64 a)
  have RB2 : Hid (TokAt (w5.setCell ⟨gm, 3, none⟩ (.int .i64 a)) w.heap.size 0 0 0 0 0 (.slice none 0 0)) := RA2.out.turn T0 (by omega)
  have MB2 : Hid (TokAt (w5.setCell ⟨gm, 3, none⟩ (.int .i64 a)) gm c r q a 0 (.slice none 0 0)) := MA2.out.set3 a
  have PB2 : Hid (PcAt (w5.setCell ⟨gm, 3, none⟩ (.int .i64 a)) gc s i3 b4) := PA2.out.keep T0 (by omega)
  have BB2 : Hid (Below w.heap.size w (w5.setCell ⟨gm, 3, none⟩ (.int .i64 a))) := BA2.out.trans (T0.below (by omega))
  clear T0 RA2 MA2 PA2 BA2
  go_wp2_with fail
  generalize (w5.setCell ⟨gm, 3, none⟩ (.int .i64 a)) = V2 at *
  clear c0 f0
  refine (one_any s gc i3 b4 V2 PB2 (by omega) hi3).mono ?_
  rintro e w6 ⟨b, i4, b5, rfl, hb, hi4, hp, ht, hF⟩
  have F4 : Hid (OneF s i3 b4 b i4 b5) := hF
  have RA3 : Hid (TokAt w6 w.heap.size 0 0 0 0 0 (.slice none 0 0)) := RB2.out.keep ht.keep (by omega)
  have MA3 : Hid (TokAt w6 gm c r q a 0 (.slice none 0 0)) := MB2.out.keep ht.keep (by omega)
  have PA3 : Hid (PcAt w6 gc s i4 b5) := hp
  have BA3 : Hid (Below w.heap.size w w6) := BB2.out.trans (ht.below (by omega))
  have c0 := MA3.out.cells.2.2.2.2.1
  have f0 := MA3.out.frozen 4
  clear hp ht hF RB2 MB2 PB2 BB2
  have T0 := (TurnAt.refl gm w6).setCell 4 (.int .i64 b)
  have RB3 : Hid (TokAt (w6.setCell ⟨gm, 4, none⟩ (.int .i64 b)) w.heap.size 0 0 0 0 0 (.slice none 0 0)) := RA3.out.turn T0 (by omega)
  have MB3 : Hid (TokAt (w6.setCell ⟨gm, 4, none⟩ (.int .i64 b)) gm c r q a b (.slice none 0 0)) := MA3.out.set4 b
  have PB3 : Hid (PcAt (w6.setCell ⟨gm, 4, none⟩ (.int .i64 b)) gc s i4 b5) := PA3.out.keep T0 (by omega)
  have BB3 : Hid (Below w.heap.size w (w6.setCell ⟨gm, 4, none⟩ (.int .i64 b))) := BA3.out.trans (T0.below (by omega))
  clear T0 RA3 MA3 PA3 BA3
  go_wp2_with fail
  generalize (w6.setCell ⟨gm, 4, none⟩ (.int .i64 b)) = V3 at *
  clear c0 f0
  refine (lvar_any s gc i4 b5 V3 PB3 (by omega) hi4).mono ?_
  rintro e w7 ⟨n, i5, b6, rfl, hn, hi5, hp, hk, hF⟩
  have F5 : Hid (VarF s i4 b5 n i5 b6) := hF
  have L7 : Hid (LoopAt w w7 gc gm s i5 b6 c r q a b (.slice none 0 0) []) := ⟨RB3.out.keep hk (by omega), MB3.out.keep hk (by omega), own_nil _ _, hp, BB3.out.trans (hk.below (by omega) BB3.out.size)⟩
  clear hp hk hF RB3 MB3 PB3 BB3
  go_wp2_with fail
  go_loopw [9] (fun ix wr => ∃ (j Aj : Nat) (bj : Bool) (xs : List Nat) (v : Value), j ≤ n ∧ j ≤ 50 ∧ ix = .int .i64 j ∧ xs.length = j ∧ Aj ≤ s.size ∧ Hid (∀ x ∈ xs, x ≤ 1000000000) ∧ Hid (SpN s i5 b6 n j Aj bj xs) ∧ Hid (LoopAt w wr gc gm s Aj bj c r q a b v xs)) (fun ix _ => n - (intOf ix).toNat)
  case atStart => exact ⟨0, i5, b6, [], .slice none 0 0, Nat.zero_le _, Nat.zero_le _, rfl, rfl, hi5, (show ∀ x ∈ ([] : List Nat), x ≤ 1000000000 from fun x hx => by cases hx), spn_start s i5 b6 n, L7.out⟩
  case round =>
    clear L7
    obtain ⟨j, Aj, bj, xs, v, hj, hj50, rfl, hxl, hAj, hxs, hsp, hL⟩ := hrel
    have HXL : Hid (xs.length = j) := hxl
    have hx50 : xs.length ≤ 50 := by omega
    clear hxl
    obtain ⟨p0, p1, p2, y0, y1, y2⟩ := hL.out.cur.cells
    obtain ⟨ao, cap, hvf⟩ := hL.out.own.form
    rw [List.length_map] at hvf
    subst hvf
    have c5 := hL.out.tok.cells.2.2.2.2.2
    have f5 := hL.out.tok.frozen 5
    by_cases hgo : (j < n ∧ j < 50) ∧ bj = false
    · obtain ⟨⟨g1, g2⟩, rfl⟩ := hgo
      have P0 : Hid (PcAt wr.drew gc s Aj false) := hL.out.cur
      have M0 : Hid (TokAt wr.drew gm c r q a b (.slice ao xs.length cap)) := hL.out.tok
      have V0 : Hid (OwnI wr.drew w.heap.size (.slice ao xs.length cap) (xs.map fun n : Nat => (n : Int))) := World.ownsRow.drew hL.out.own
      go_wp2_with fail
      go_region_law (first | (refine step_pushI (by rfl) _ _ 24 (by rfl) Tryd.underlying24 Tryd.info3' w.heap.size _ (xs.map fun n : Nat => (n : Int)) (by rfl) (V3.alloc _) m ⟨w8.heap.size, 0, none⟩ (by rfl) (cell_new_int w8 m) (by rfl) (by simp; omega) (by simp; omega) ?_; intro v9 w9 hown9 hb9; obtain ⟨ao9, cap9, rfl⟩ := hown9.form; have hv9 := TokAt.grown (M8.stays ((Below.refl w8.heap.size w8).alloc (Nat.le_refl _) _) M8.lt) (V3.alloc _) hb9; have hce9 := hv9.cells.2.2.2.2.2; have hfz9 := hv9.frozen 5) | (go_simp; refine (lvar_any s gc Aj false _ P0 (by omega) hAj).mono ?_; rintro e w8 ⟨m, i8, b8, rfl, hm8, hi8, hp8, hk8, hF8⟩; have M8 := M0.out.keep hk8 (by omega); have V3 := own_keep_pc V0.out P0.out hk8; have hce8 := M8.cells.2.2.2.2.2; have hfz8 := M8.frozen 5; have hce8a := fun o => (M8.stays ((Below.refl w8.heap.size w8).alloc (Nat.le_refl _) o) M8.lt).cells.2.2.2.2.2; have hfz8a := fun o => (M8.stays ((Below.refl w8.heap.size w8).alloc (Nat.le_refl _) o) M8.lt).frozen 5; have hs8 : w.heap.size ≤ w8.heap.size := Nat.le_trans hL.out.below.size hk8.size; go_simp))
      all_goals
        have e9 : ((xs.map fun n : Nat => (n : Int)) ++ [(m : Int)]).length = xs.length + 1 := by simp
        rw [e9] at hown9
        have L9 : Hid (LoopAt w _ gc gm s i8 b8 c r q a b (.slice ao9 (xs.length + 1) cap9) (xs ++ [m])) := loop_next hL.out hk8 hp8 hN1 hN2 hown9 hb9
        have S9 : Hid (SpN s i5 b6 n (j + 1) i8 b8 (xs ++ [m])) := spn_next hsp.out g1 hF8
        clear hown9 hb9 hv9 hce9 hfz9 M8 V3 hce8 hfz8 hce8a hfz8a hk8 hp8 hF8 c5 f5 p0 p1 p2 y0 y1 y2 P0 M0 V0
        go_wp2_with fail
        go_roundw
        case rel =>
          refine ⟨j + 1, i8, b8, xs ++ [m], .slice ao9 (xs.length + 1) cap9, by omega, by omega, by go_num, by simp [HXL.out], hi8, ?_, S9.out, L9.out⟩
          show ∀ x ∈ xs ++ [m], x ≤ 1000000000
          intro x hx
          rcases List.mem_append.1 hx with hx | hx
          · exact hxs.out x hx
          · simp at hx; omega
        case measure => simp [intOf]; omega
    · have hx3 : n ≤ j ∨ (j < n ∧ 50 ≤ j) ∨ (j < n ∧ j < 50 ∧ bj = true) := by
        by_cases g1 : j < n
        · by_cases g2 : j < 50
          · cases bj with
            | true => exact .inr (.inr ⟨g1, g2, rfl⟩)
            | false => exact absurd ⟨⟨g1, g2⟩, rfl⟩ hgo
          · exact .inr (.inl ⟨g1, by omega⟩)
        · exact .inl (by omega)
      have HF : Hid (FndT s (!k) c r q a b xs bj) := ⟨i0, b1, i1, b2, i2, b3, i3, b4, i4, b5, n, i5, b6, F0.out, F1.out, F2.out, F3.out, F4.out, F5.out, spn_end hsp.out hj (by rcases hx3 with h | ⟨_, h⟩ | ⟨_, _, h⟩; exact .inl h; exact .inr (.inl h); exact .inr (.inr h))⟩
      obtain ⟨T, k2, _, hk2, hcase2, _, hsp2⟩ := tokenText_two c r q a b (xs.map fun n : Nat => (n : Int)) (by simp; omega)
      have HC2 : Hid ((k2 = true ∧ TkOk c r q a b xs ∧ T = sealS (tokS c r q a b xs)) ∨ (k2 = false ∧ ¬ TkOk c r q a b xs)) := by
        rcases hcase2 with ⟨h, C, R, Q, A, B, ns, e1, e2, e3, e4, e5, e6, e7, e8⟩ | ⟨h, _⟩
        · obtain rfl : c = C := by omega
          obtain rfl : r = R := by omega
          obtain rfl : q = Q := by omega
          obtain rfl : a = A := by omega
          obtain rfl : b = B := by omega
          obtain rfl : xs = ns := map_nat_inj e6
          exact .inl ⟨h, e7, e8⟩
        · refine .inr ⟨h, fun ho => ?_⟩
          unfold TkOk at ho
          rw [ho, h] at hk2
          cases hk2
      have hct : Hid _ := hsp2
      have X0 : Hid (IntsAt wr ao (xs.map fun n : Nat => (n : Int))) := by
        obtain ⟨ao', cap', e, hx⟩ := hL.out.own.ints
        simp only [Value.slice.injEq] at e
        rw [e.1]
        exact hx
      clear hsp2 hcase2 hk2 hgo F0 F1 F2 F3 F4 F5
      have hct := fun (w : World) (ao : Option Addr) (cap : Nat) => hct.out w ao cap
      simp only [List.length_map] at hct
      obtain ⟨m0, m1, m2, m3, m4, m5⟩ := hL.out.tok.cells
      clear c5
      rcases hx3 with h3 | ⟨h3, h4⟩ | ⟨h3, h4, rfl⟩
      ·
        go_wp2_with fail
        refine (hct wr ao cap X0).mono ?_
        rintro e w9 ⟨rfl, hb9⟩
        have R9a : Hid (TokAt w9 w.heap.size 0 0 0 0 0 (.slice none 0 0)) := hL.out.res.stays hb9 hL.out.res.lt
        have M9 : Hid (TokAt w9 gm c r q a b (.slice ao xs.length cap)) := hL.out.tok.stays hb9 hL.out.tok.lt
        have P9 : Hid (PcAt w9 gc s Aj bj) := hL.out.cur.stays hb9 hL.out.cur.lt
        have V9 : Hid (OwnI w9 w.heap.size (.slice ao xs.length cap) (xs.map fun n : Nat => (n : Int))) := own_later hL.out.own hb9
        have B9a : Hid (Below w.heap.size w w9) := hL.out.below.trans (hb9.mono hL.out.below.size)
        clear hb9 hct hsp hL X0 p0 p1 p2 y0 y1 y2 m0 m1 m2 m3 m4 m5 f5
        obtain ⟨p0, p1, p2, y0, y1, y2⟩ := P9.out.cells
        cases bj with
        | true =>
          obtain ⟨c0, c1, c2, c3, c4, c5⟩ := R9a.out.cells
          have z0 := R9a.out.frozen 0
          have z1 := R9a.out.frozen 1
          have z2 := R9a.out.frozen 2
          have z3 := R9a.out.frozen 3
          have z4 := R9a.out.frozen 4
          have z5 := R9a.out.frozen 5
          have R9 := R9a.out.agg 0 0 0 0 0 (.slice none 0 0)
          have T9 := tok_turn (w := w9) (g := w.heap.size) 0 0 0 0 0 (.slice none 0 0)
          have B9 := B9a.out.trans (T9.below (Nat.le_refl _))
          have O9 := own_nil (((((((w9.setCell ⟨w.heap.size, 0, none⟩ (.int .i64 0)).setCell ⟨w.heap.size, 1, none⟩ (.int .i64 0)).setCell ⟨w.heap.size, 2, none⟩ (.int .i64 0)).setCell ⟨w.heap.size, 3, none⟩ (.int .i64 0)).setCell ⟨w.heap.size, 4, none⟩ (.int .i64 0)).setCell ⟨w.heap.size, 5, none⟩ (.slice none 0 0))) w.heap.size
          clear T9
          go_wp2_with fail
          generalize ((((((w9.setCell ⟨w.heap.size, 0, none⟩ (.int .i64 0)).setCell ⟨w.heap.size, 1, none⟩ (.int .i64 0)).setCell ⟨w.heap.size, 2, none⟩ (.int .i64 0)).setCell ⟨w.heap.size, 3, none⟩ (.int .i64 0)).setCell ⟨w.heap.size, 4, none⟩ (.int .i64 0)).setCell ⟨w.heap.size, 5, none⟩ (.slice none 0 0)) = W9 at *
          obtain ⟨q0, q1, q2, q3, q4, q5⟩ := R9.cells
          refine bodyPost_ret (v := .tuple #[.agg #[.int .i64 0, .int .i64 0, .int .i64 0, .int .i64 0, .int .i64 0, (.slice none 0 0)], .bool false]) (by simp [results, Tryd.results14, go_sem, q0, q1, q2, q3, q4, q5]) rfl ?_
          exact ⟨0, 0, 0, 0, 0, [], false, _, rfl, ansT_missed HC.out HF.out (.inl rfl), (Nat.zero_le _), O9, B9⟩
        | false =>
          rcases HC2.out with ⟨rfl, hok, rfl⟩ | ⟨rfl, hno⟩
          · have HO : Hid (TkOk c r q a b xs) := hok
            clear hok
            by_cases hS : sealS (tokS c r q a b xs) = t
            · have hne : (!(sealS (tokS c r q a b xs)).toList == t.toList) = false := by rw [hS]; simp
              have HS : Hid (sealS (tokS c r q a b xs) = t) := hS
              clear hS
              obtain ⟨m0, m1, m2, m3, m4, m5⟩ := M9.out.cells
              obtain ⟨c0, c1, c2, c3, c4, c5⟩ := R9a.out.cells
              have z0 := R9a.out.frozen 0
              have z1 := R9a.out.frozen 1
              have z2 := R9a.out.frozen 2
              have z3 := R9a.out.frozen 3
              have z4 := R9a.out.frozen 4
              have z5 := R9a.out.frozen 5
              have R9 := R9a.out.agg c r q a b (.slice ao xs.length cap)
              have T9 := tok_turn (w := w9) (g := w.heap.size) c r q a b (.slice ao xs.length cap)
              have B9 := B9a.out.trans (T9.below (Nat.le_refl _))
              have O9 := own_tok V9.out R9a.out (tok_turn (w := w9) (g := w.heap.size) c r q a b (.slice ao xs.length cap))
              clear T9
              go_wp2_with fail
              generalize ((((((w9.setCell ⟨w.heap.size, 0, none⟩ (.int .i64 c)).setCell ⟨w.heap.size, 1, none⟩ (.int .i64 r)).setCell ⟨w.heap.size, 2, none⟩ (.int .i64 q)).setCell ⟨w.heap.size, 3, none⟩ (.int .i64 a)).setCell ⟨w.heap.size, 4, none⟩ (.int .i64 b)).setCell ⟨w.heap.size, 5, none⟩ (.slice ao xs.length cap)) = W9 at *
              obtain ⟨q0, q1, q2, q3, q4, q5⟩ := R9.cells
              refine bodyPost_ret (v := .tuple #[.agg #[.int .i64 c, .int .i64 r, .int .i64 q, .int .i64 a, .int .i64 b, (.slice ao xs.length cap)], .bool true]) (by simp [results, Tryd.results14, go_sem, q0, q1, q2, q3, q4, q5]) rfl ?_
              exact ⟨c, r, q, a, b, xs, true, _, rfl, .inl ⟨rfl, HO.out, HS.out.symm⟩, (by omega), O9, B9⟩
            · have hne : (!(sealS (tokS c r q a b xs)).toList == t.toList) = true := by
                simp only [Bool.not_eq_true', beq_eq_false_iff_ne, ne_eq]
                intro h
                rw [ByteArray.toList_eq, ByteArray.toList_eq] at h
                exact hS (rt_ext h)
              have HS : Hid (sealS (tokS c r q a b xs) ≠ t) := hS
              clear hS
              obtain ⟨c0, c1, c2, c3, c4, c5⟩ := R9a.out.cells
              have z0 := R9a.out.frozen 0
              have z1 := R9a.out.frozen 1
              have z2 := R9a.out.frozen 2
              have z3 := R9a.out.frozen 3
              have z4 := R9a.out.frozen 4
              have z5 := R9a.out.frozen 5
              have R9 := R9a.out.agg 0 0 0 0 0 (.slice none 0 0)
              have T9 := tok_turn (w := w9) (g := w.heap.size) 0 0 0 0 0 (.slice none 0 0)
              have B9 := B9a.out.trans (T9.below (Nat.le_refl _))
              have O9 := own_nil (((((((w9.setCell ⟨w.heap.size, 0, none⟩ (.int .i64 0)).setCell ⟨w.heap.size, 1, none⟩ (.int .i64 0)).setCell ⟨w.heap.size, 2, none⟩ (.int .i64 0)).setCell ⟨w.heap.size, 3, none⟩ (.int .i64 0)).setCell ⟨w.heap.size, 4, none⟩ (.int .i64 0)).setCell ⟨w.heap.size, 5, none⟩ (.slice none 0 0))) w.heap.size
              clear T9
              go_wp2_with fail
              generalize ((((((w9.setCell ⟨w.heap.size, 0, none⟩ (.int .i64 0)).setCell ⟨w.heap.size, 1, none⟩ (.int .i64 0)).setCell ⟨w.heap.size, 2, none⟩ (.int .i64 0)).setCell ⟨w.heap.size, 3, none⟩ (.int .i64 0)).setCell ⟨w.heap.size, 4, none⟩ (.int .i64 0)).setCell ⟨w.heap.size, 5, none⟩ (.slice none 0 0)) = W9 at *
              obtain ⟨q0, q1, q2, q3, q4, q5⟩ := R9.cells
              refine bodyPost_ret (v := .tuple #[.agg #[.int .i64 0, .int .i64 0, .int .i64 0, .int .i64 0, .int .i64 0, (.slice none 0 0)], .bool false]) (by simp [results, Tryd.results14, go_sem, q0, q1, q2, q3, q4, q5]) rfl ?_
              exact ⟨0, 0, 0, 0, 0, [], false, _, rfl, ansT_missed HC.out HF.out (.inr (.inr HS.out)), (Nat.zero_le _), O9, B9⟩
          · have HO : Hid (¬ TkOk c r q a b xs) := hno
            clear hno
            obtain ⟨c0, c1, c2, c3, c4, c5⟩ := R9a.out.cells
            have z0 := R9a.out.frozen 0
            have z1 := R9a.out.frozen 1
            have z2 := R9a.out.frozen 2
            have z3 := R9a.out.frozen 3
            have z4 := R9a.out.frozen 4
            have z5 := R9a.out.frozen 5
            have R9 := R9a.out.agg 0 0 0 0 0 (.slice none 0 0)
            have T9 := tok_turn (w := w9) (g := w.heap.size) 0 0 0 0 0 (.slice none 0 0)
            have B9 := B9a.out.trans (T9.below (Nat.le_refl _))
            have O9 := own_nil (((((((w9.setCell ⟨w.heap.size, 0, none⟩ (.int .i64 0)).setCell ⟨w.heap.size, 1, none⟩ (.int .i64 0)).setCell ⟨w.heap.size, 2, none⟩ (.int .i64 0)).setCell ⟨w.heap.size, 3, none⟩ (.int .i64 0)).setCell ⟨w.heap.size, 4, none⟩ (.int .i64 0)).setCell ⟨w.heap.size, 5, none⟩ (.slice none 0 0))) w.heap.size
            clear T9
            go_wp2_with fail
            generalize ((((((w9.setCell ⟨w.heap.size, 0, none⟩ (.int .i64 0)).setCell ⟨w.heap.size, 1, none⟩ (.int .i64 0)).setCell ⟨w.heap.size, 2, none⟩ (.int .i64 0)).setCell ⟨w.heap.size, 3, none⟩ (.int .i64 0)).setCell ⟨w.heap.size, 4, none⟩ (.int .i64 0)).setCell ⟨w.heap.size, 5, none⟩ (.slice none 0 0)) = W9 at *
            obtain ⟨q0, q1, q2, q3, q4, q5⟩ := R9.cells
            refine bodyPost_ret (v := .tuple #[.agg #[.int .i64 0, .int .i64 0, .int .i64 0, .int .i64 0, .int .i64 0, (.slice none 0 0)], .bool false]) (by simp [results, Tryd.results14, go_sem, q0, q1, q2, q3, q4, q5]) rfl ?_
            exact ⟨0, 0, 0, 0, 0, [], false, _, rfl, ansT_missed HC.out HF.out (.inr (.inl HO.out)), (Nat.zero_le _), O9, B9⟩
      ·
        go_wp2_with fail
        refine (hct wr ao cap X0).mono ?_
        rintro e w9 ⟨rfl, hb9⟩
        have R9a : Hid (TokAt w9 w.heap.size 0 0 0 0 0 (.slice none 0 0)) := hL.out.res.stays hb9 hL.out.res.lt
        have M9 : Hid (TokAt w9 gm c r q a b (.slice ao xs.length cap)) := hL.out.tok.stays hb9 hL.out.tok.lt
        have P9 : Hid (PcAt w9 gc s Aj bj) := hL.out.cur.stays hb9 hL.out.cur.lt
        have V9 : Hid (OwnI w9 w.heap.size (.slice ao xs.length cap) (xs.map fun n : Nat => (n : Int))) := own_later hL.out.own hb9
        have B9a : Hid (Below w.heap.size w w9) := hL.out.below.trans (hb9.mono hL.out.below.size)
        clear hb9 hct hsp hL X0 p0 p1 p2 y0 y1 y2 m0 m1 m2 m3 m4 m5 f5
        obtain ⟨p0, p1, p2, y0, y1, y2⟩ := P9.out.cells
        cases bj with
        | true =>
          obtain ⟨c0, c1, c2, c3, c4, c5⟩ := R9a.out.cells
          have z0 := R9a.out.frozen 0
          have z1 := R9a.out.frozen 1
          have z2 := R9a.out.frozen 2
          have z3 := R9a.out.frozen 3
          have z4 := R9a.out.frozen 4
          have z5 := R9a.out.frozen 5
          have R9 := R9a.out.agg 0 0 0 0 0 (.slice none 0 0)
          have T9 := tok_turn (w := w9) (g := w.heap.size) 0 0 0 0 0 (.slice none 0 0)
          have B9 := B9a.out.trans (T9.below (Nat.le_refl _))
          have O9 := own_nil (((((((w9.setCell ⟨w.heap.size, 0, none⟩ (.int .i64 0)).setCell ⟨w.heap.size, 1, none⟩ (.int .i64 0)).setCell ⟨w.heap.size, 2, none⟩ (.int .i64 0)).setCell ⟨w.heap.size, 3, none⟩ (.int .i64 0)).setCell ⟨w.heap.size, 4, none⟩ (.int .i64 0)).setCell ⟨w.heap.size, 5, none⟩ (.slice none 0 0))) w.heap.size
          clear T9
          go_wp2_with fail
          generalize ((((((w9.setCell ⟨w.heap.size, 0, none⟩ (.int .i64 0)).setCell ⟨w.heap.size, 1, none⟩ (.int .i64 0)).setCell ⟨w.heap.size, 2, none⟩ (.int .i64 0)).setCell ⟨w.heap.size, 3, none⟩ (.int .i64 0)).setCell ⟨w.heap.size, 4, none⟩ (.int .i64 0)).setCell ⟨w.heap.size, 5, none⟩ (.slice none 0 0)) = W9 at *
          obtain ⟨q0, q1, q2, q3, q4, q5⟩ := R9.cells
          refine bodyPost_ret (v := .tuple #[.agg #[.int .i64 0, .int .i64 0, .int .i64 0, .int .i64 0, .int .i64 0, (.slice none 0 0)], .bool false]) (by simp [results, Tryd.results14, go_sem, q0, q1, q2, q3, q4, q5]) rfl ?_
          exact ⟨0, 0, 0, 0, 0, [], false, _, rfl, ansT_missed HC.out HF.out (.inl rfl), (Nat.zero_le _), O9, B9⟩
        | false =>
          rcases HC2.out with ⟨rfl, hok, rfl⟩ | ⟨rfl, hno⟩
          · have HO : Hid (TkOk c r q a b xs) := hok
            clear hok
            by_cases hS : sealS (tokS c r q a b xs) = t
            · have hne : (!(sealS (tokS c r q a b xs)).toList == t.toList) = false := by rw [hS]; simp
              have HS : Hid (sealS (tokS c r q a b xs) = t) := hS
              clear hS
              obtain ⟨m0, m1, m2, m3, m4, m5⟩ := M9.out.cells
              obtain ⟨c0, c1, c2, c3, c4, c5⟩ := R9a.out.cells
              have z0 := R9a.out.frozen 0
              have z1 := R9a.out.frozen 1
              have z2 := R9a.out.frozen 2
              have z3 := R9a.out.frozen 3
              have z4 := R9a.out.frozen 4
              have z5 := R9a.out.frozen 5
              have R9 := R9a.out.agg c r q a b (.slice ao xs.length cap)
              have T9 := tok_turn (w := w9) (g := w.heap.size) c r q a b (.slice ao xs.length cap)
              have B9 := B9a.out.trans (T9.below (Nat.le_refl _))
              have O9 := own_tok V9.out R9a.out (tok_turn (w := w9) (g := w.heap.size) c r q a b (.slice ao xs.length cap))
              clear T9
              go_wp2_with fail
              generalize ((((((w9.setCell ⟨w.heap.size, 0, none⟩ (.int .i64 c)).setCell ⟨w.heap.size, 1, none⟩ (.int .i64 r)).setCell ⟨w.heap.size, 2, none⟩ (.int .i64 q)).setCell ⟨w.heap.size, 3, none⟩ (.int .i64 a)).setCell ⟨w.heap.size, 4, none⟩ (.int .i64 b)).setCell ⟨w.heap.size, 5, none⟩ (.slice ao xs.length cap)) = W9 at *
              obtain ⟨q0, q1, q2, q3, q4, q5⟩ := R9.cells
              refine bodyPost_ret (v := .tuple #[.agg #[.int .i64 c, .int .i64 r, .int .i64 q, .int .i64 a, .int .i64 b, (.slice ao xs.length cap)], .bool true]) (by simp [results, Tryd.results14, go_sem, q0, q1, q2, q3, q4, q5]) rfl ?_
              exact ⟨c, r, q, a, b, xs, true, _, rfl, .inl ⟨rfl, HO.out, HS.out.symm⟩, (by omega), O9, B9⟩
            · have hne : (!(sealS (tokS c r q a b xs)).toList == t.toList) = true := by
                simp only [Bool.not_eq_true', beq_eq_false_iff_ne, ne_eq]
                intro h
                rw [ByteArray.toList_eq, ByteArray.toList_eq] at h
                exact hS (rt_ext h)
              have HS : Hid (sealS (tokS c r q a b xs) ≠ t) := hS
              clear hS
              obtain ⟨c0, c1, c2, c3, c4, c5⟩ := R9a.out.cells
              have z0 := R9a.out.frozen 0
              have z1 := R9a.out.frozen 1
              have z2 := R9a.out.frozen 2
              have z3 := R9a.out.frozen 3
              have z4 := R9a.out.frozen 4
              have z5 := R9a.out.frozen 5
              have R9 := R9a.out.agg 0 0 0 0 0 (.slice none 0 0)
              have T9 := tok_turn (w := w9) (g := w.heap.size) 0 0 0 0 0 (.slice none 0 0)
              have B9 := B9a.out.trans (T9.below (Nat.le_refl _))
              have O9 := own_nil (((((((w9.setCell ⟨w.heap.size, 0, none⟩ (.int .i64 0)).setCell ⟨w.heap.size, 1, none⟩ (.int .i64 0)).setCell ⟨w.heap.size, 2, none⟩ (.int .i64 0)).setCell ⟨w.heap.size, 3, none⟩ (.int .i64 0)).setCell ⟨w.heap.size, 4, none⟩ (.int .i64 0)).setCell ⟨w.heap.size, 5, none⟩ (.slice none 0 0))) w.heap.size
              clear T9
              go_wp2_with fail
              generalize ((((((w9.setCell ⟨w.heap.size, 0, none⟩ (.int .i64 0)).setCell ⟨w.heap.size, 1, none⟩ (.int .i64 0)).setCell ⟨w.heap.size, 2, none⟩ (.int .i64 0)).setCell ⟨w.heap.size, 3, none⟩ (.int .i64 0)).setCell ⟨w.heap.size, 4, none⟩ (.int .i64 0)).setCell ⟨w.heap.size, 5, none⟩ (.slice none 0 0)) = W9 at *
              obtain ⟨q0, q1, q2, q3, q4, q5⟩ := R9.cells
              refine bodyPost_ret (v := .tuple #[.agg #[.int .i64 0, .int .i64 0, .int .i64 0, .int .i64 0, .int .i64 0, (.slice none 0 0)], .bool false]) (by simp [results, Tryd.results14, go_sem, q0, q1, q2, q3, q4, q5]) rfl ?_
              exact ⟨0, 0, 0, 0, 0, [], false, _, rfl, ansT_missed HC.out HF.out (.inr (.inr HS.out)), (Nat.zero_le _), O9, B9⟩
          · have HO : Hid (¬ TkOk c r q a b xs) := hno
            clear hno
            obtain ⟨c0, c1, c2, c3, c4, c5⟩ := R9a.out.cells
            have z0 := R9a.out.frozen 0
            have z1 := R9a.out.frozen 1
            have z2 := R9a.out.frozen 2
            have z3 := R9a.out.frozen 3
            have z4 := R9a.out.frozen 4
            have z5 := R9a.out.frozen 5
            have R9 := R9a.out.agg 0 0 0 0 0 (.slice none 0 0)
            have T9 := tok_turn (w := w9) (g := w.heap.size) 0 0 0 0 0 (.slice none 0 0)
            have B9 := B9a.out.trans (T9.below (Nat.le_refl _))
            have O9 := own_nil (((((((w9.setCell ⟨w.heap.size, 0, none⟩ (.int .i64 0)).setCell ⟨w.heap.size, 1, none⟩ (.int .i64 0)).setCell ⟨w.heap.size, 2, none⟩ (.int .i64 0)).setCell ⟨w.heap.size, 3, none⟩ (.int .i64 0)).setCell ⟨w.heap.size, 4, none⟩ (.int .i64 0)).setCell ⟨w.heap.size, 5, none⟩ (.slice none 0 0))) w.heap.size
            clear T9
            go_wp2_with fail
            generalize ((((((w9.setCell ⟨w.heap.size, 0, none⟩ (.int .i64 0)).setCell ⟨w.heap.size, 1, none⟩ (.int .i64 0)).setCell ⟨w.heap.size, 2, none⟩ (.int .i64 0)).setCell ⟨w.heap.size, 3, none⟩ (.int .i64 0)).setCell ⟨w.heap.size, 4, none⟩ (.int .i64 0)).setCell ⟨w.heap.size, 5, none⟩ (.slice none 0 0)) = W9 at *
            obtain ⟨q0, q1, q2, q3, q4, q5⟩ := R9.cells
            refine bodyPost_ret (v := .tuple #[.agg #[.int .i64 0, .int .i64 0, .int .i64 0, .int .i64 0, .int .i64 0, (.slice none 0 0)], .bool false]) (by simp [results, Tryd.results14, go_sem, q0, q1, q2, q3, q4, q5]) rfl ?_
            exact ⟨0, 0, 0, 0, 0, [], false, _, rfl, ansT_missed HC.out HF.out (.inr (.inl HO.out)), (Nat.zero_le _), O9, B9⟩
      ·
        go_wp2_with fail
        refine (hct wr ao cap X0).mono ?_
        rintro e w9 ⟨rfl, hb9⟩
        have R9a : Hid (TokAt w9 w.heap.size 0 0 0 0 0 (.slice none 0 0)) := hL.out.res.stays hb9 hL.out.res.lt
        have M9 : Hid (TokAt w9 gm c r q a b (.slice ao xs.length cap)) := hL.out.tok.stays hb9 hL.out.tok.lt
        have P9 : Hid (PcAt w9 gc s Aj true) := hL.out.cur.stays hb9 hL.out.cur.lt
        have V9 : Hid (OwnI w9 w.heap.size (.slice ao xs.length cap) (xs.map fun n : Nat => (n : Int))) := own_later hL.out.own hb9
        have B9a : Hid (Below w.heap.size w w9) := hL.out.below.trans (hb9.mono hL.out.below.size)
        clear hb9 hct hsp hL X0 p0 p1 p2 y0 y1 y2 m0 m1 m2 m3 m4 m5 f5
        obtain ⟨p0, p1, p2, y0, y1, y2⟩ := P9.out.cells
        obtain ⟨c0, c1, c2, c3, c4, c5⟩ := R9a.out.cells
        have z0 := R9a.out.frozen 0
        have z1 := R9a.out.frozen 1
        have z2 := R9a.out.frozen 2
        have z3 := R9a.out.frozen 3
        have z4 := R9a.out.frozen 4
        have z5 := R9a.out.frozen 5
        have R9 := R9a.out.agg 0 0 0 0 0 (.slice none 0 0)
        have T9 := tok_turn (w := w9) (g := w.heap.size) 0 0 0 0 0 (.slice none 0 0)
        have B9 := B9a.out.trans (T9.below (Nat.le_refl _))
        have O9 := own_nil (((((((w9.setCell ⟨w.heap.size, 0, none⟩ (.int .i64 0)).setCell ⟨w.heap.size, 1, none⟩ (.int .i64 0)).setCell ⟨w.heap.size, 2, none⟩ (.int .i64 0)).setCell ⟨w.heap.size, 3, none⟩ (.int .i64 0)).setCell ⟨w.heap.size, 4, none⟩ (.int .i64 0)).setCell ⟨w.heap.size, 5, none⟩ (.slice none 0 0))) w.heap.size
        clear T9
        go_wp2_with fail
        generalize ((((((w9.setCell ⟨w.heap.size, 0, none⟩ (.int .i64 0)).setCell ⟨w.heap.size, 1, none⟩ (.int .i64 0)).setCell ⟨w.heap.size, 2, none⟩ (.int .i64 0)).setCell ⟨w.heap.size, 3, none⟩ (.int .i64 0)).setCell ⟨w.heap.size, 4, none⟩ (.int .i64 0)).setCell ⟨w.heap.size, 5, none⟩ (.slice none 0 0)) = W9 at *
        obtain ⟨q0, q1, q2, q3, q4, q5⟩ := R9.cells
        refine bodyPost_ret (v := .tuple #[.agg #[.int .i64 0, .int .i64 0, .int .i64 0, .int .i64 0, .int .i64 0, (.slice none 0 0)], .bool false]) (by simp [results, Tryd.results14, go_sem, q0, q1, q2, q3, q4, q5]) rfl ?_
        exact ⟨0, 0, 0, 0, 0, [], false, _, rfl, ansT_missed HC.out HF.out (.inl rfl), (Nat.zero_le _), O9, B9⟩
end Go.Proofs.YtpegbkpgjjjllaaDoor
