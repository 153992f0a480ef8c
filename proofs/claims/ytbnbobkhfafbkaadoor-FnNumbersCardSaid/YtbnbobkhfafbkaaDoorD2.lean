/- The walks over the draws of numbers and texts that the law on numbers begins with. -/
import Derived.Test.YtbnbobkhfafbkaaDoorD1
import Derived.Laws.BytesArg
import Derived.Laws.MakeOwn
import Derived.Laws.OwnMore
namespace Go.Proofs.YtbnbobkhfafbkaaDoor
open Go.RowKit Pl
set_option linter.unusedVariables false

/-- the block b is a row of bytes. -/
def RowB (w : World) (b : Nat) (xs : List Int) : Prop := w.heap[b]? = some (.cells (xs.map (Value.int .u8)).toArray 5 (0, 0))

theorem RowB.cell {w : World} {b : Nat} {xs : List Int} (h : RowB w b xs) (j : Nat) (hj : j < xs.length) : w.cell? ⟨b, j, none⟩ = some (.int .u8 (xs.getD j 0)) := by
  rw [cell_of_row w b j _ 5 (0, 0) h]
  simp [hj]
theorem RowB.set {w : World} {b : Nat} {xs : List Int} (h : RowB w b xs) (j : Nat) (z : Int) : RowB (w.setCell ⟨b, j, none⟩ (.int .u8 z)) b (xs.set j z) := by
  have := heap_setCell_same w b j _ 5 (.int .u8 z) h
  unfold RowB
  rw [this]
  simp [List.map_set]

set_option maxRecDepth 100000 in
set_option maxHeartbeats 1000000 in
theorem long_any (m : Nat) (w : World) (hm : m ≤ 20001) :
    Calls Tryd.prog 20 #[.int .i64 m, .int .u8 200] w fun e w' => (∃ t : ByteArray, t.size = m ∧ e = .returned (.string t)) ∧ Below w.heap.size w w' := by
  obtain ⟨i0, hi, hz0, hz1, hz2⟩ := info_parts Tryd.info5'
  have hM : madeCells (Value.int .u8 0).cells m = ((List.replicate m (0 : Int)).map (Value.int .u8)).toArray := by
    apply Array.ext'
    rw [show (Value.int .u8 0).cells = #[Value.int .u8 0] from rfl, toList_madeCells_one]
    simp
  have hmk : ∀ W : World, (Instr.makeSlice 22 (.int .i64 (m : Int)) (.int .i64 (m : Int))).run Tryd.prog W = .ok (.slice (some ⟨W.heap.size, 0, none⟩) m m) (W.alloc (.cells ((List.replicate m (0 : Int)).map (Value.int .u8)).toArray 5)) := fun W => by
    have h := run_make (P := Tryd.prog) W 22 5 i0 (.int .u8 0) Tryd.underlying22 hi hz0 .i64 .i64 (m : Int) (m : Int) (by omega) (by omega) (by rw [hz2]; omega) (by omega)
    rw [hz1, Int.toNat_natCast, Nat.mul_one, hM] at h
    simpa using h
  clear hM
  go_enter Tryd.func20, Tryd.ntmps20
  go_wp2
  go_loopw [6] (fun i wr => ∃ (k : Nat) (xs : List Int), i = .int .i64 k ∧ k ≤ m ∧ Hid (xs.length = m) ∧ Hid (RowB wr w.heap.size xs) ∧ Below w.heap.size w wr) (fun i _ => m - (intOf i).toNat)
  case atStart => exact ⟨0, List.replicate m 0, rfl, Nat.zero_le _, List.length_replicate, (by show RowB _ _ _; unfold RowB; rw [heap_alloc_new]; simp), (Below.refl _ _).alloc (Nat.le_refl _) _⟩
  case round =>
    obtain ⟨k, xs, rfl, hk, hxl, hrow, hb⟩ := hrel
    by_cases h1 : k < m
    · have hc := hrow.out.cell k (by rw [hxl.out]; exact h1)
      have hf := frozen_of_row wr w.heap.size k _ 5 hrow.out
      go_wp2
      go_roundw
      case rel =>
        refine ⟨k + 1, xs.set k 200, by go_num, by omega, by rw [List.length_set]; exact hxl.out, hrow.out.set k 200, ?_⟩
        exact hb.trans (TurnAt.below ((TurnAt.refl w.heap.size wr).setCell k _) (Nat.le_refl _))
      case measure => simp [intOf]; omega
    · have hkm : k = m := by omega
      have hcv := run_convert_bytes_arg (P := Tryd.prog) wr 22 5 Tryd.underlying22 Tryd.underlying5 w.heap.size 0 m m xs hxl.out (fun i hi => by rw [Nat.zero_add]; exact hrow.out.cell i (by rw [hxl.out]; exact hi)) 9 Tryd.underlying9
      go_wp2
      go_ret
      exact ⟨⟨_, by rw [strOfNums_size]; exact hxl.out, rfl⟩, hb⟩

set_option maxRecDepth 100000 in
set_option maxHeartbeats 1000000 in
theorem big_any (w : World) (n cap : Nat) (ao : Option Addr) (b : Bool) (hb : decide (1048576 < (n : Int)) = b) :
    Calls Tryd.prog 4 #[.slice ao n cap] w fun e w' => e = .returned (.bool b) ∧ w' = w := by
  go_enter Tryd.func4, Tryd.ntmps4
  go_wp2
  go_ret
  exact ⟨by rw [← hb]; rfl, rfl⟩

/-- the block b is a row of ints. -/
def RowI (w : World) (b m : Nat) : Prop := ∀ j, j < m → ∃ z : Int, w.cell? ⟨b, j, none⟩ = some (.int .i64 z)

theorem RowI.stays {w0 w1 : World} {b g m : Nat} (h : RowI w0 b m) (hb : b < w0.heap.size) (hg : b ≠ g) (hk : KeepBut g w0 w1) : RowI w1 b m := by
  intro j hj
  obtain ⟨t, h2⟩ := h j hj
  refine ⟨t, ?_⟩
  rw [← h2]
  simp only [World.cell?]
  rw [hk.block b hb hg]

theorem rowI_new (w : World) (ts : List Int) (m : Nat) (hm : m = ts.length) : RowI (w.alloc (.cells (ts.map (Value.int .i64)).toArray 3)) w.heap.size m := by
  intro j hj
  rw [hm] at hj
  refine ⟨ts[j], ?_⟩
  rw [cell_of_row _ w.heap.size j _ 3 (0, 0) (heap_alloc_new w _)]
  simp [hj]

set_option maxRecDepth 100000 in
set_option maxHeartbeats 1000000 in
theorem pickInt_any (w0 w : World) (B g n cap b m : Nat) (ao : Option Addr) (hn : n ≤ 1048576) (hB : B ≤ g) (hm0 : 0 < m) (hm : m ≤ 256) (hb : b < w.heap.size) (hbg : b ≠ g) (hr : Hid (RowI w b m)) (hd : Hid (Drw w0 w B g ao n cap)) :
    Calls Tryd.prog 24 #[.pointer (some ⟨g, 0, none⟩), .slice (some ⟨b, 0, none⟩) m m] w fun e w' => (∃ z : Int, e = .returned (.int .i64 z)) ∧ Hid (Drw w0 w' B g ao n cap) := by
  have hd0 : Hid (Drw w w B g ao n cap) := Drw.start hd.out.1 hd.out.2.1
  go_enter Tryd.func24, Tryd.ntmps24
  go_wp2_with (first | (go_at_call 21; refine (below_small w _ B g n cap m ao hn hB hm0 hm (by assumption)).mono ?_; rintro e w1 ⟨⟨x, hx, rfl⟩, hd1⟩; obtain ⟨z, hc⟩ := hr.out.stays hb hbg hd1.out.2.2 x hx))
  go_ret
  exact ⟨⟨z, rfl⟩, show Drw _ _ _ _ _ _ _ from ⟨hd1.out.1, hd1.out.2.1, hd.out.2.2.trans hd1.out.2.2⟩⟩


theorem long_at (a : Int) (w : World) (h0 : 0 ≤ a) (h1 : a ≤ 20001) :
    Calls Tryd.prog 20 #[.int .i64 a, .int .u8 200] w fun e w' => (∃ t : ByteArray, t.size = a.toNat ∧ e = .returned (.string t)) ∧ Below w.heap.size w w' := by
  obtain ⟨m, rfl⟩ : ∃ m : Nat, a = m := ⟨a.toNat, by omega⟩
  exact long_any m w (by omega)

set_option maxRecDepth 100000 in
set_option maxHeartbeats 1000000 in
theorem number_any (w0 w : World) (B g n cap : Nat) (ao : Option Addr) (hn : n ≤ 1048576) (hB : B ≤ g) (hd : Hid (Drw w0 w B g ao n cap)) :
    Calls Tryd.prog 15 #[.pointer (some ⟨g, 0, none⟩)] w fun e w' => (∃ z : Int, e = .returned (.int .i64 z)) ∧ Hid (Drw w0 w' B g ao n cap) := by
  have hr : ∀ (w : World) (a b c d e f g h i j : Int), Hid (RowI (w.alloc (.cells #[.int .i64 a, .int .i64 b, .int .i64 c, .int .i64 d, .int .i64 e, .int .i64 f, .int .i64 g, .int .i64 h, .int .i64 i, .int .i64 j] 3)) w.heap.size 10) := fun w a b c d e f g h i j =>
    rowI_new w [a, b, c, d, e, f, g, h, i, j] 10 rfl
  have tok1 : True := trivial
  go_enter Tryd.func15, Tryd.ntmps15
  go_wp2_with (first | (go_at_call 21; have _t := tok1; refine (below_small w0 _ B g n cap 4 ao hn hB (by omega) (by omega) (by assumption)).mono ?_; rintro e w1 ⟨⟨x, hx, rfl⟩, hd1⟩; have hlt1 := hd1.out.lt; clear hd tok1 _t; rcases (show x = 0 ∨ x = 1 ∨ (x ≠ 0 ∧ x ≠ 1) by omega) with rfl | rfl | ⟨hx0, hx1⟩) | (go_at_call 24; refine (pickInt_any w0 _ B g n cap w1.heap.size 10 ao hn hB (by omega) (by omega) (by simp) (by omega) (hr w1 _ _ _ _ _ _ _ _ _ _) (show Hid _ from hd1.out.alloc hB _)).mono ?_; rintro e w3 ⟨⟨z, rfl⟩, hd3⟩) | (go_at_call 21; have _t := hx0; refine (below_big w0 _ B g n cap 400 ao hn hB (by omega) (by omega) (by assumption)).mono ?_; rintro e w2 ⟨⟨y, hy, rfl⟩, hd2⟩) | (go_at_call 21; refine (below_big w0 _ B g n cap 1000000000 ao hn hB (by omega) (by omega) (by assumption)).mono ?_; rintro e w2 ⟨⟨y, hy, rfl⟩, hd2⟩))
  · go_ret
    exact ⟨⟨_, rfl⟩, hd3⟩
  · go_ret
    exact ⟨⟨_, rfl⟩, hd2⟩
  · go_ret
    exact ⟨⟨_, rfl⟩, hd2⟩

set_option maxRecDepth 100000 in
set_option maxHeartbeats 1000000 in
theorem drawVar (w : World) (n cap : Nat) (ao : Option Addr) (hn : n ≤ 1048576) (hk : Hid (CodeAt w w.heap.size ao n)) :
    Calls Tryd.prog 5 #[.slice ao n cap] w fun e w' => (∃ z : Int, e = .returned (.int .i64 z)) ∧ Below w.heap.size w w' := by
  go_enter Tryd.func5, Tryd.ntmps5
  go_wp2_with (first | (go_at_call 16; refine (new_any _ n cap ao hn hk).mono ?_; rintro e w1 ⟨rfl, hc1, hb1, hs1⟩; have hd1 := Drw.start hc1.out (hk.out.stays hb1 (Nat.le_refl _)); clear hs1) | (go_at_call 15; refine (number_any w1 _ w.heap.size w.heap.size n cap ao hn (Nat.le_refl _) hd1).mono ?_; rintro e w2 ⟨⟨z, rfl⟩, hd2⟩))
  go_ret
  exact ⟨⟨z, rfl⟩, hb1.trans (hd2.out.2.2.below (Nat.le_refl _) hb1.size)⟩

set_option maxRecDepth 100000 in
set_option maxHeartbeats 1000000 in
theorem drawHex (w : World) (n cap : Nat) (ao : Option Addr) (hn : n ≤ 1048576) (hk : Hid (CodeAt w w.heap.size ao n)) :
    Calls Tryd.prog 10 #[.slice ao n cap] w fun e w' => (∃ t : ByteArray, e = .returned (.string t)) ∧ Below w.heap.size w w' := by
  have tok1 : True := trivial
  go_enter Tryd.func10, Tryd.ntmps10
  go_wp2_with (first | (go_at_call 16; refine (new_any _ n cap ao hn hk).mono ?_; rintro e w1 ⟨rfl, hc1, hb1, hs1⟩; have hd1 := Drw.start hc1.out (hk.out.stays hb1 (Nat.le_refl _)); clear hs1) | (go_at_call 19; refine (once_any w1 _ w.heap.size w.heap.size n cap 60 ao hn (Nat.le_refl _) (by omega) (by omega) hd1).mono ?_; rintro e w2 ⟨⟨b, rfl⟩, hd2⟩; cases b; clear tok1) | (go_at_call 21; have _t := tok1; refine (below_small w1 _ w.heap.size w.heap.size n cap 2 ao hn (Nat.le_refl _) (by omega) (by omega) hd2).mono ?_; rintro e w3 ⟨⟨x, hx, rfl⟩, hd3⟩) | (go_at_call 21; refine (below_small w1 _ w.heap.size w.heap.size n cap 30 ao hn (Nat.le_refl _) (by omega) (by omega) hd2).mono ?_; rintro e w3 ⟨⟨x, hx, rfl⟩, hd3⟩; have hlt3 := hd3.out.lt) | (go_at_call 20; refine (long_at _ _ (by omega) (by omega)).mono ?_; rintro e w4 ⟨⟨t, ht, rfl⟩, hb4⟩) | (go_at_call 22; refine (text_any _ w.heap.size w.heap.size n cap x ao hn (Nat.le_refl _) hlt3 (by omega) (show Hid _ from hd3.out.1) (show Hid _ from hd3.out.2.1)).mono ?_; rintro e w4 ⟨⟨t, ht, rfl⟩, hc4, hb4⟩))
  · go_ret
    exact ⟨⟨t, rfl⟩, (hb1.trans (hd3.out.2.2.below (Nat.le_refl _) hb1.size)).trans hb4⟩
  · go_ret
    exact ⟨⟨t, rfl⟩, (hb1.trans (hd3.out.2.2.below (Nat.le_refl _) hb1.size)).trans (hb4.mono (Nat.le_trans hb1.size hd3.out.2.2.size))⟩
end Go.Proofs.YtbnbobkhfafbkaaDoor
