/- The walks over drawn items. -/
import Derived.Test.YtjijpcfdkmbgpaaA1
import Derived.Test.YtjijpcfdkmbgpaaDO
import Derived.Laws.BytesArg
import Derived.Laws.MakeOwn
import Derived.Laws.OwnMore
import Derived.Deep.RegionHeld3
import Derived.Deep.QuietTactic
namespace Go.Proofs.Ytjijpcfdkmbgpaa
open Go.RowKit Pl
set_option linter.unusedVariables false

set_option maxRecDepth 100000 in
set_option maxHeartbeats 1000000 in
theorem big_any (w : World) (n cap : Nat) (ao : Option Addr) (b : Bool) (hb : decide (1048576 < (n : Int)) = b) :
    Calls Try.prog 12 #[.slice ao n cap] w fun e w' => e = .returned (.bool b) ∧ w' = w := by
  go_enter Try.func12, Try.ntmps12
  go_wp2
  go_ret
  exact ⟨by rw [← hb]; rfl, rfl⟩

theorem keep_then {g : Nat} {a b c : World} (h : KeepBut g a b) (hb : Below a.heap.size b c) : KeepBut g a c :=
  ⟨hb.os.trans h.os, hb.tape.trans h.tape, hb.output.trans h.output, Nat.le_trans h.size hb.size, fun k hk hg => (hb.block k hk).trans (h.block k hk hg)⟩


/-- the block b is a row of ints. -/
def RowI (w : World) (b m : Nat) : Prop := ∀ j, j < m → ∃ z : Int, w.cell? ⟨b, j, none⟩ = some (.int .i64 z)

theorem RowI.stays {w0 w1 : World} {b g m : Nat} (h : RowI w0 b m) (hb : b < w0.heap.size) (hg : b ≠ g) (hk : KeepBut g w0 w1) : RowI w1 b m := by
  intro j hj
  obtain ⟨t, h2⟩ := h j hj
  refine ⟨t, ?_⟩
  rw [← h2]
  simp only [World.cell?]
  rw [hk.block b hb hg]

theorem rowI_new (w : World) (ts : List Int) (m : Nat) (hm : m = ts.length) : RowI (w.alloc (.cells (ts.map (Value.int .i64)).toArray 3)) w.heap.size m := by
  intro j hj
  rw [hm] at hj
  refine ⟨ts[j], ?_⟩
  rw [cell_of_row _ w.heap.size j _ 3 (0, 0) (heap_alloc_new w _)]
  simp [hj]

set_option maxRecDepth 100000 in
set_option maxHeartbeats 1000000 in
theorem pickInt_any (w0 w : World) (B g n cap b m : Nat) (ao : Option Addr) (hn : n ≤ 1048576) (hB : B ≤ g) (hm0 : 0 < m) (hm : m ≤ 256) (hb : b < w.heap.size) (hbg : b ≠ g) (hr : Hid (RowI w b m)) (hd : Hid (Drw w0 w B g ao n cap)) :
    Calls Try.prog 66 #[.pointer (some ⟨g, 0, none⟩), .slice (some ⟨b, 0, none⟩) m m] w fun e w' => (∃ z : Int, e = .returned (.int .i64 z)) ∧ Hid (Drw w0 w' B g ao n cap) := by
  have hd0 : Hid (Drw w w B g ao n cap) := Drw.start hd.out.1 hd.out.2.1
  go_enter Try.func66, Try.ntmps66
  go_wp2_with (first | (go_at_call 63; refine (below_small w _ B g n cap m ao hn hB hm0 hm (by assumption)).mono ?_; rintro e w1 ⟨⟨x, hx, rfl⟩, hd1⟩; obtain ⟨z, hc⟩ := hr.out.stays hb hbg hd1.out.2.2 x hx))
  go_ret
  exact ⟨⟨z, rfl⟩, show Drw _ _ _ _ _ _ _ from ⟨hd1.out.1, hd1.out.2.1, hd.out.2.2.trans hd1.out.2.2⟩⟩


theorem OwnI_keep {w w' : World} {B g : Nat} {v : Value} {ss : List Int} (h : OwnI w B v ss) (hk : KeepBut g w w') (hg : g < B) : OwnI w' B v ss := by
  refine ⟨h.1, ?_⟩
  rcases h.2 with hn | ⟨k, cap, cur, rfl, hbg, hk2, rest⟩
  · exact .inl hn
  · exact .inr ⟨k, cap, cur, rfl, hbg, (hk.block k (Array.getElem?_eq_some_iff.1 hk2).1 (by omega)).trans hk2, rest⟩


theorem ItAt.set0 {w : World} {g : Nat} {q f l : Int} {t : ByteArray} (h : ItAt w g q f l t) (x : Int) : ItAt (w.setCell ⟨g, 0, none⟩ (.int .i64 x)) g x f l t := by
  have := heap_setCell_same w g 0 _ 26 (.int .i64 x) h
  unfold ItAt; rw [this]; rfl
theorem ItAt.set1 {w : World} {g : Nat} {q f l : Int} {t : ByteArray} (h : ItAt w g q f l t) (x : Int) : ItAt (w.setCell ⟨g, 1, none⟩ (.int .i64 x)) g q x l t := by
  have := heap_setCell_same w g 1 _ 26 (.int .i64 x) h
  unfold ItAt; rw [this]; rfl
theorem ItAt.set2 {w : World} {g : Nat} {q f l : Int} {t : ByteArray} (h : ItAt w g q f l t) (x : Int) : ItAt (w.setCell ⟨g, 2, none⟩ (.int .i64 x)) g q f x t := by
  have := heap_setCell_same w g 2 _ 26 (.int .i64 x) h
  unfold ItAt; rw [this]; rfl
theorem ItAt.set3 {w : World} {g : Nat} {q f l : Int} {t : ByteArray} (h : ItAt w g q f l t) (x : ByteArray) : ItAt (w.setCell ⟨g, 3, none⟩ (.string x)) g q f l x := by
  have := heap_setCell_same w g 3 _ 26 (.string x) h
  unfold ItAt; rw [this]; rfl
theorem ItAt.keep {w w' : World} {g k : Nat} {q f l : Int} {t : ByteArray} (h : ItAt w g q f l t) (hk : KeepBut k w w') (hg : g ≠ k) : ItAt w' g q f l t := (hk.block g h.lt hg).trans h
theorem ItAt.agg {w : World} {g : Nat} {q f l : Int} {t : ByteArray} (h : ItAt w g q f l t) (q' f' l' : Int) (t' : ByteArray) :
    ItAt ((((w.setCell ⟨g, 0, none⟩ (.int .i64 q')).setCell ⟨g, 1, none⟩ (.int .i64 f')).setCell ⟨g, 2, none⟩ (.int .i64 l')).setCell ⟨g, 3, none⟩ (.string t')) g q' f' l' t' :=
  (((h.set0 q').set1 f').set2 l').set3 t'

/-- the block b is a row of bytes. -/
def RowB (w : World) (b : Nat) (xs : List Int) : Prop := w.heap[b]? = some (.cells (xs.map (Value.int .u8)).toArray 5 (0, 0))

theorem RowB.cell {w : World} {b : Nat} {xs : List Int} (h : RowB w b xs) (j : Nat) (hj : j < xs.length) : w.cell? ⟨b, j, none⟩ = some (.int .u8 (xs.getD j 0)) := by
  rw [cell_of_row w b j _ 5 (0, 0) h]
  simp [hj]
theorem RowB.set {w : World} {b : Nat} {xs : List Int} (h : RowB w b xs) (j : Nat) (z : Int) : RowB (w.setCell ⟨b, j, none⟩ (.int .u8 z)) b (xs.set j z) := by
  have := heap_setCell_same w b j _ 5 (.int .u8 z) h
  unfold RowB
  rw [this]
  simp [List.map_set]

set_option maxRecDepth 100000 in
set_option maxHeartbeats 1000000 in
theorem long_any (m : Nat) (w : World) (hm : m ≤ 61) :
    Calls Try.prog 68 #[.int .i64 m, .int .u8 65] w fun e w' => (∃ t : ByteArray, t.size = m ∧ e = .returned (.string t)) ∧ Below w.heap.size w w' := by
  obtain ⟨i0, hi, hz0, hz1, hz2⟩ := info_parts Try.info5'
  have hM : madeCells (Value.int .u8 0).cells m = ((List.replicate m (0 : Int)).map (Value.int .u8)).toArray := by
    apply Array.ext'
    rw [show (Value.int .u8 0).cells = #[Value.int .u8 0] from rfl, toList_madeCells_one]
    simp
  have hmk : ∀ W : World, (Instr.makeSlice 22 (.int .i64 (m : Int)) (.int .i64 (m : Int))).run Try.prog W = .ok (.slice (some ⟨W.heap.size, 0, none⟩) m m) (W.alloc (.cells ((List.replicate m (0 : Int)).map (Value.int .u8)).toArray 5)) := fun W => by
    have h := run_make (P := Try.prog) W 22 5 i0 (.int .u8 0) Try.underlying22 hi hz0 .i64 .i64 (m : Int) (m : Int) (by omega) (by omega) (by rw [hz2]; omega) (by omega)
    rw [hz1, Int.toNat_natCast, Nat.mul_one, hM] at h
    simpa using h
  clear hM
  go_enter Try.func68, Try.ntmps68
  go_wp2
  go_loopw [6] (fun i wr => ∃ (k : Nat) (xs : List Int), i = .int .i64 k ∧ k ≤ m ∧ Hid (xs.length = m) ∧ Hid (RowB wr w.heap.size xs) ∧ Below w.heap.size w wr) (fun i _ => m - (intOf i).toNat)
  case atStart => exact ⟨0, List.replicate m 0, rfl, Nat.zero_le _, List.length_replicate, (by show RowB _ _ _; unfold RowB; rw [heap_alloc_new]; simp), (Below.refl _ _).alloc (Nat.le_refl _) _⟩
  case round =>
    obtain ⟨k, xs, rfl, hk, hxl, hrow, hb⟩ := hrel
    by_cases h1 : k < m
    · have hc := hrow.out.cell k (by rw [hxl.out]; exact h1)
      have hf := frozen_of_row wr w.heap.size k _ 5 hrow.out
      go_wp2
      go_roundw
      case rel =>
        refine ⟨k + 1, xs.set k 65, by go_num, by omega, by rw [List.length_set]; exact hxl.out, hrow.out.set k 65, ?_⟩
        exact hb.trans (TurnAt.below ((TurnAt.refl w.heap.size wr).setCell k _) (Nat.le_refl _))
      case measure => simp [intOf]; omega
    · have hkm : k = m := by omega
      have hcv := run_convert_bytes_arg (P := Try.prog) wr 22 5 Try.underlying22 Try.underlying5 w.heap.size 0 m m xs hxl.out (fun i hi => by rw [Nat.zero_add]; exact hrow.out.cell i (by rw [hxl.out]; exact hi)) 9 Try.underlying9
      go_wp2
      go_ret
      exact ⟨⟨_, by rw [strOfNums_size]; exact hxl.out, rfl⟩, hb⟩

/-- the block b is a row of short texts. -/
def RowS (w : World) (b m : Nat) : Prop := ∀ j, j < m → ∃ t : ByteArray, t.size ≤ 13 ∧ w.cell? ⟨b, j, none⟩ = some (.string t)

theorem RowS.stays {w0 w1 : World} {b g m : Nat} (h : RowS w0 b m) (hb : b < w0.heap.size) (hg : b ≠ g) (hk : KeepBut g w0 w1) : RowS w1 b m := by
  intro j hj
  obtain ⟨t, h1, h2⟩ := h j hj
  refine ⟨t, h1, ?_⟩
  rw [← h2]
  simp only [World.cell?]
  rw [hk.block b hb hg]

set_option maxRecDepth 100000 in
set_option maxHeartbeats 1000000 in
theorem pick_any (w0 w : World) (B g n cap b m : Nat) (ao : Option Addr) (hn : n ≤ 1048576) (hB : B ≤ g) (hm0 : 0 < m) (hm : m ≤ 256) (hb : b < w.heap.size) (hbg : b ≠ g) (hr : Hid (RowS w b m)) (hd : Hid (Drw w0 w B g ao n cap)) :
    Calls Try.prog 76 #[.pointer (some ⟨g, 0, none⟩), .slice (some ⟨b, 0, none⟩) m m] w fun e w' => (∃ t : ByteArray, t.size ≤ 13 ∧ e = .returned (.string t)) ∧ Hid (Drw w0 w' B g ao n cap) := by
  have hd0 : Hid (Drw w w B g ao n cap) := Drw.start hd.out.1 hd.out.2.1
  go_enter Try.func76, Try.ntmps76
  go_wp2_with (first | (go_at_call 63; refine (below_small w _ B g n cap m ao hn hB hm0 hm (by assumption)).mono ?_; rintro e w1 ⟨⟨x, hx, rfl⟩, hd1⟩; obtain ⟨t, ht, hc⟩ := hr.out.stays hb hbg hd1.out.2.2 x hx))
  go_ret
  exact ⟨⟨t, ht, rfl⟩, show Drw _ _ _ _ _ _ _ from ⟨hd1.out.1, hd1.out.2.1, hd.out.2.2.trans hd1.out.2.2⟩⟩

theorem rowS_new (w : World) (ts : List ByteArray) (m : Nat) (hm : m = ts.length) (h : ∀ t ∈ ts, t.size ≤ 13) : RowS (w.alloc (.cells (ts.map Value.string).toArray 9)) w.heap.size m := by
  intro j hj
  rw [hm] at hj
  refine ⟨ts[j], h _ (List.getElem_mem hj), ?_⟩
  rw [cell_of_row _ w.heap.size j _ 9 (0, 0) (heap_alloc_new w _)]
  simp [hj]


/-- seen from where we are. -/
theorem Drw.here {w0 w : World} {B g n cap : Nat} {ao : Option Addr} (h : Drw w0 w B g ao n cap) : Hid (Drw w w B g ao n cap) := Drw.start h.1 h.2.1
theorem Drw.back {w0 w w' : World} {B g n cap : Nat} {ao : Option Addr} (h : Drw w0 w B g ao n cap) (h' : Drw w w' B g ao n cap) : Hid (Drw w0 w' B g ao n cap) := ⟨h'.1, h'.2.1, h.2.2.trans h'.2.2⟩
/-- a block that is no cursor's is turned. -/
theorem Drw.other {w0 w w' : World} {B g k n cap : Nat} {ao : Option Addr} (h : Drw w0 w B g ao n cap) (hB : B ≤ k) (ht : TurnAt k w w') (hk : w0.heap.size ≤ k) (hg : g ≠ k) : Hid (Drw w0 w' B g ao n cap) := by
  obtain ⟨⟨i, z, h1, h2⟩, h3, h4⟩ := h
  exact ⟨⟨i, z, h1, (ht.block g hg).trans h2⟩, h3.stays (ht.below hB) (Nat.le_refl _), ⟨ht.os.trans h4.os, ht.tape.trans h4.tape, ht.output.trans h4.output, by rw [ht.size]; exact h4.size, fun m hm hmg => (ht.block m (by omega)).trans (h4.block m hm hmg)⟩⟩
theorem Drw.drew {w0 w : World} {B g n cap : Nat} {ao : Option Addr} (h : Drw w0 w B g ao n cap) : Hid (Drw w0 w.drew B g ao n cap) := ⟨h.1, h.2.1, h.2.2.trans ⟨rfl, rfl, rfl, Nat.le_refl _, fun _ _ _ => rfl⟩⟩

theorem it_turn {w : World} {g : Nat} (q f l : Int) (t : ByteArray) : TurnAt g w ((((w.setCell ⟨g, 0, none⟩ (.int .i64 q)).setCell ⟨g, 1, none⟩ (.int .i64 f)).setCell ⟨g, 2, none⟩ (.int .i64 l)).setCell ⟨g, 3, none⟩ (.string t)) :=
  ((((TurnAt.refl g w).setCell 0 _).setCell 1 _).setCell 2 _).setCell 3 _

set_option maxRecDepth 100000 in
set_option maxHeartbeats 2000000 in
theorem of_two (w0 w : World) (B g n cap : Nat) (ao : Option Addr) (x : Nat) (hn : n ≤ 1048576) (hB : B ≤ g) (hx : x ≤ 20) (hd : Hid (Drw w0 w B g ao n cap)) :
    Calls Try.prog 67 #[.pointer (some ⟨g, 0, none⟩), .int .i64 x] w fun e w' => (∃ (y : Nat) (t : ByteArray), y < 2 ∧ t.size ≤ 13 ∧ e = .returned (.agg #[.int .i64 (x : Int), .int .i64 (1 + (x : Int) % 3), .int .i64 (1 + (y : Int)), .string t])) ∧ Hid (Drw w0 w' B g ao n cap) := by
  have hg := hd.out.lt
  have hw0 := hd.out.2.2.size
  have D0 : Hid (Drw w0 (w.alloc (.cells #[.int .i64 0, .int .i64 0, .int .i64 0, .string ⟨#[]⟩] 26)) B g ao n cap) := hd.out.alloc hB _
  have D1 := D0.out.here
  have I0 : Hid (ItAt (w.alloc (.cells #[.int .i64 0, .int .i64 0, .int .i64 0, .string ⟨#[]⟩] 26)) w.heap.size 0 0 0 ByteArray.empty) := heap_alloc_new w _
  go_enter Try.func67, Try.ntmps67
  go_wp2_with fail
  generalize w.alloc (.cells #[.int .i64 0, .int .i64 0, .int .i64 0, .string ⟨#[]⟩] 26) = W0 at *
  refine (below_small W0 _ B g n cap 2 ao hn hB (by omega) (by omega) D1).mono ?_
  rintro e w1 ⟨⟨y, hy, rfl⟩, hd1⟩
  clear hd D1
  have hg1 := hd1.out.lt
  have D2 : Hid (Drw W0 (w1.alloc (.cells #[.string ⟨#[]⟩, .string ⟨#[120]⟩, .string ⟨#[121, 121]⟩, .string ⟨#[122, 122, 122]⟩] 9)) B g ao n cap) := hd1.out.alloc hB _
  have R2 : Hid (RowS (w1.alloc (.cells #[.string ⟨#[]⟩, .string ⟨#[120]⟩, .string ⟨#[121, 121]⟩, .string ⟨#[122, 122, 122]⟩] 9)) w1.heap.size 4) :=
    rowS_new w1 [⟨#[]⟩, ⟨#[120]⟩, ⟨#[121, 121]⟩, ⟨#[122, 122, 122]⟩] 4 rfl (by simp; decide)
  have hS : w1.heap.size < (w1.alloc (.cells #[.string ⟨#[]⟩, .string ⟨#[120]⟩, .string ⟨#[121, 121]⟩, .string ⟨#[122, 122, 122]⟩] 9)).heap.size := by simp
  go_wp2_with fail
  generalize w1.alloc (.cells #[.string ⟨#[]⟩, .string ⟨#[120]⟩, .string ⟨#[121, 121]⟩, .string ⟨#[122, 122, 122]⟩] 9) = W1 at *
  refine (pick_any W0 _ B g n cap w1.heap.size 4 ao hn hB (by omega) (by omega) hS (by omega) R2 D2).mono ?_
  rintro e w2 ⟨⟨t, ht, rfl⟩, hd2⟩
  have I2 : Hid (ItAt w2 w.heap.size 0 0 0 ByteArray.empty) := I0.out.keep hd2.out.2.2 (by omega)
  have D3 := D0.out.back hd2.out
  clear hd2 D2 R2 hd1 D0 I0
  obtain ⟨c0, c1, c2, c3⟩ := I2.out.cells
  have z0 := I2.out.frozen 0
  have z1 := I2.out.frozen 1
  have z2 := I2.out.frozen 2
  have z3 := I2.out.frozen 3
  go_wp2_with fail
  have I3 := I2.out.agg (x : Int) (1 + (x : Int) % 3) (1 + (y : Int)) t
  have D4 := D3.out.other (k := w.heap.size) (by omega) (it_turn (x : Int) (1 + (x : Int) % 3) (1 + (y : Int)) t) hw0 (by omega)
  generalize ((((w2.setCell ⟨w.heap.size, 0, none⟩ (.int .i64 (x : Int))).setCell ⟨w.heap.size, 1, none⟩ (.int .i64 (1 + (x : Int) % 3))).setCell ⟨w.heap.size, 2, none⟩ (.int .i64 (1 + (y : Int)))).setCell ⟨w.heap.size, 3, none⟩ (.string t)) = W3 at *
  obtain ⟨q0, q1, q2, q3⟩ := I3.cells
  refine bodyPost_ret (v := .agg #[.int .i64 (x : Int), .int .i64 (1 + (x : Int) % 3), .int .i64 (1 + (y : Int)), .string t]) (by simp [results, Try.results67, go_sem, q0, q1, q2, q3]) rfl ?_
  exact ⟨⟨y, t, hy, ht, rfl⟩, D4⟩

theorem of_any (w0 w : World) (B g n cap : Nat) (ao : Option Addr) (x : Nat) (hn : n ≤ 1048576) (hB : B ≤ g) (hx : x ≤ 20) (hd : Hid (Drw w0 w B g ao n cap)) :
    Calls Try.prog 67 #[.pointer (some ⟨g, 0, none⟩), .int .i64 x] w fun e w' => (∃ (q f l : Int) (t : ByteArray), t.size ≤ 61 ∧ e = .returned (.agg #[.int .i64 q, .int .i64 f, .int .i64 l, .string t])) ∧ Hid (Drw w0 w' B g ao n cap) :=
  (of_two w0 w B g n cap ao x hn hB hx hd).mono fun e w' ⟨⟨y, t, _, ht, he⟩, h⟩ => ⟨⟨_, _, _, t, by omega, he⟩, h⟩

set_option maxRecDepth 100000 in
set_option maxHeartbeats 4000000 in
theorem anyItem_any (w0 w : World) (B g n cap : Nat) (ao : Option Addr) (hn : n ≤ 1048576) (hB : B ≤ g) (hd : Hid (Drw w0 w B g ao n cap)) :
    Calls Try.prog 52 #[.pointer (some ⟨g, 0, none⟩)] w fun e w' => (∃ (q f l : Int) (t : ByteArray), t.size ≤ 61 ∧ e = .returned (.agg #[.int .i64 q, .int .i64 f, .int .i64 l, .string t])) ∧ Hid (Drw w0 w' B g ao n cap) := by
  have hr4 : ∀ (w : World) (a b c d : Int), Hid (RowI (w.alloc (.cells #[.int .i64 a, .int .i64 b, .int .i64 c, .int .i64 d] 3)) w.heap.size 4) := fun w a b c d => rowI_new w [a, b, c, d] 4 rfl
  have hr3 : ∀ (w : World) (a b c : Int), Hid (RowI (w.alloc (.cells #[.int .i64 a, .int .i64 b, .int .i64 c] 3)) w.heap.size 3) := fun w a b c => rowI_new w [a, b, c] 3 rfl
  have hr2 : ∀ (w : World) (a b : Int), Hid (RowI (w.alloc (.cells #[.int .i64 a, .int .i64 b] 3)) w.heap.size 2) := fun w a b => rowI_new w [a, b] 2 rfl
  have hg := hd.out.lt
  have hw0 := hd.out.2.2.size
  have D0 : Hid (Drw w0 (w.alloc (.cells #[.int .i64 0, .int .i64 0, .int .i64 0, .string ⟨#[]⟩] 26)) B g ao n cap) := hd.out.alloc hB _
  have D1 := D0.out.here
  have I0 : Hid (ItAt (w.alloc (.cells #[.int .i64 0, .int .i64 0, .int .i64 0, .string ⟨#[]⟩] 26)) w.heap.size 0 0 0 ByteArray.empty) := heap_alloc_new w _
  go_enter Try.func52, Try.ntmps52
  go_wp2_with fail
  generalize w.alloc (.cells #[.int .i64 0, .int .i64 0, .int .i64 0, .string ⟨#[]⟩] 26) = W0 at *
  have hW0 := I0.out.lt
  refine (below_small W0 _ B g n cap 12 ao hn hB (by omega) (by omega) D1).mono ?_
  rintro e w1 ⟨⟨x, hx, rfl⟩, hd1⟩
  clear hd D1
  go_wp2_with fail
  have e1 : (1 : Int) + (x : Int) = ((1 + x : Nat) : Int) := by omega
  rw [e1]
  refine (of_any W0 _ B g n cap ao (1 + x) hn hB (by omega) hd1).mono ?_
  rintro e w2 ⟨⟨q, f, l, t, ht, rfl⟩, hd2⟩
  clear hd1 e1
  have hg2 := hd2.out.lt
  have hs2 := hd2.out.2.2.size
  have D2 : Hid (Drw W0 (w2.alloc (.cells #[.int .i64 q, .int .i64 f, .int .i64 l, .string t] 26)) B g ao n cap) := hd2.out.alloc hB _
  have M2 : Hid (ItAt (w2.alloc (.cells #[.int .i64 q, .int .i64 f, .int .i64 l, .string t] 26)) w2.heap.size q f l t) := heap_alloc_new w2 _
  go_wp2_with fail
  generalize w2.alloc (.cells #[.int .i64 q, .int .i64 f, .int .i64 l, .string t] 26) = W2 at *
  generalize w2.heap.size = gm at *
  have D2b := D0.out.back D2.out
  have I2 : Hid (ItAt W2 w.heap.size 0 0 0 ByteArray.empty) := I0.out.keep D2.out.2.2 (by omega)
  clear hd2 D0 I0 D2
  refine (below_small W2 _ B g n cap 16 ao hn hB (by omega) (by omega) D2b.out.here).mono ?_
  rintro e w3 ⟨⟨y, hy, rfl⟩, hd3⟩
  have I3 : Hid (ItAt w3 w.heap.size 0 0 0 ByteArray.empty) := I2.out.keep hd3.out.2.2 (by omega)
  have M3 : Hid (ItAt w3 gm q f l t) := M2.out.keep hd3.out.2.2 (by omega)
  have D3 := D2b.out.back hd3.out
  have hg3 := hd3.out.lt
  have hm3 := M3.out.lt
  clear hd3 D2b I2 M2
  by_cases y0 : y = 0
  · subst y0
    have D3a : Hid (Drw w0 (w3.alloc (.cells #[.int .i64 0, .int .i64 (-1), .int .i64 60, .int .i64 61] 3)) B g ao n cap) := D3.out.alloc hB _
    have hb3 : Below w3.heap.size w3 (w3.alloc (.cells #[.int .i64 0, .int .i64 (-1), .int .i64 60, .int .i64 61] 3)) := (Below.refl _ _).alloc (Nat.le_refl _) _
    have I3a : Hid (ItAt (w3.alloc (.cells #[.int .i64 0, .int .i64 (-1), .int .i64 60, .int .i64 61] 3)) w.heap.size 0 0 0 ByteArray.empty) := I3.out.stays hb3 I3.out.lt
    have M3a : Hid (ItAt (w3.alloc (.cells #[.int .i64 0, .int .i64 (-1), .int .i64 60, .int .i64 61] 3)) gm q f l t) := M3.out.stays hb3 M3.out.lt
    have R3a := hr4 w3 (0) (-1) (60) (61)
    have hS : w3.heap.size < (w3.alloc (.cells #[.int .i64 0, .int .i64 (-1), .int .i64 60, .int .i64 61] 3)).heap.size := by simp
    clear hb3
    go_wp2_with fail
    generalize w3.alloc (.cells #[.int .i64 0, .int .i64 (-1), .int .i64 60, .int .i64 61] 3) = W3 at *
    refine (pickInt_any W3 _ B g n cap w3.heap.size 4 ao hn hB (by omega) (by omega) hS (by omega) R3a D3a.out.here).mono ?_
    rintro e w4 ⟨⟨z, rfl⟩, hd4⟩
    have I4a : Hid (ItAt w4 w.heap.size 0 0 0 ByteArray.empty) := I3a.out.keep hd4.out.2.2 (by omega)
    have M4a : Hid (ItAt w4 gm q f l t) := M3a.out.keep hd4.out.2.2 (by omega)
    have D4a := D3a.out.back hd4.out
    have s0 := M4a.out.cells.1
    have y0 := M4a.out.frozen 0
    clear hd4 D3a I3a M3a R3a hS
    have T4 := (TurnAt.refl gm w4).setCell 0 (.int .i64 z)
    have I4 : Hid (ItAt (w4.setCell ⟨gm, 0, none⟩ (.int .i64 z)) w.heap.size 0 0 0 ByteArray.empty) := I4a.out.keep T4.keep (by omega)
    have M4 : Hid (ItAt (w4.setCell ⟨gm, 0, none⟩ (.int .i64 z)) gm z f l t) := M4a.out.set0 z
    have D4 : Hid (Drw w0 (w4.setCell ⟨gm, 0, none⟩ (.int .i64 z)) B g ao n cap) := D4a.out.other (by omega) T4 (by omega) (by omega)
    clear I4a M4a D4a T4
    obtain ⟨m0, m1, m2, m3⟩ := M4.out.cells
    obtain ⟨c0, c1, c2, c3⟩ := I4.out.cells
    have z0 := I4.out.frozen 0
    have z1 := I4.out.frozen 1
    have z2 := I4.out.frozen 2
    have z3 := I4.out.frozen 3
    go_wp2_with fail
    have I5 := I4.out.agg z f l t
    have D5 := D4.out.other (k := w.heap.size) (by omega) (it_turn z f l t) hw0 (by omega)
    generalize (((((w4.setCell ⟨gm, 0, none⟩ (.int .i64 z)).setCell ⟨w.heap.size, 0, none⟩ (.int .i64 z)).setCell ⟨w.heap.size, 1, none⟩ (.int .i64 f)).setCell ⟨w.heap.size, 2, none⟩ (.int .i64 l)).setCell ⟨w.heap.size, 3, none⟩ (.string t)) = W5 at *
    obtain ⟨q0, q1, q2, q3⟩ := I5.cells
    refine bodyPost_ret (v := .agg #[.int .i64 z, .int .i64 f, .int .i64 l, .string t]) (by simp [results, Try.results52, go_sem, q0, q1, q2, q3]) rfl ?_
    exact ⟨⟨_, _, _, t, by omega, rfl⟩, D5⟩
  by_cases y1 : y = 1
  · subst y1
    have D3a : Hid (Drw w0 (w3.alloc (.cells #[.int .i64 0, .int .i64 5, .int .i64 6] 3)) B g ao n cap) := D3.out.alloc hB _
    have hb3 : Below w3.heap.size w3 (w3.alloc (.cells #[.int .i64 0, .int .i64 5, .int .i64 6] 3)) := (Below.refl _ _).alloc (Nat.le_refl _) _
    have I3a : Hid (ItAt (w3.alloc (.cells #[.int .i64 0, .int .i64 5, .int .i64 6] 3)) w.heap.size 0 0 0 ByteArray.empty) := I3.out.stays hb3 I3.out.lt
    have M3a : Hid (ItAt (w3.alloc (.cells #[.int .i64 0, .int .i64 5, .int .i64 6] 3)) gm q f l t) := M3.out.stays hb3 M3.out.lt
    have R3a := hr3 w3 (0) (5) (6)
    have hS : w3.heap.size < (w3.alloc (.cells #[.int .i64 0, .int .i64 5, .int .i64 6] 3)).heap.size := by simp
    clear hb3
    go_wp2_with fail
    generalize w3.alloc (.cells #[.int .i64 0, .int .i64 5, .int .i64 6] 3) = W3 at *
    refine (pickInt_any W3 _ B g n cap w3.heap.size 3 ao hn hB (by omega) (by omega) hS (by omega) R3a D3a.out.here).mono ?_
    rintro e w4 ⟨⟨z, rfl⟩, hd4⟩
    have I4a : Hid (ItAt w4 w.heap.size 0 0 0 ByteArray.empty) := I3a.out.keep hd4.out.2.2 (by omega)
    have M4a : Hid (ItAt w4 gm q f l t) := M3a.out.keep hd4.out.2.2 (by omega)
    have D4a := D3a.out.back hd4.out
    have s0 := M4a.out.cells.2.1
    have y0 := M4a.out.frozen 1
    clear hd4 D3a I3a M3a R3a hS
    have T4 := (TurnAt.refl gm w4).setCell 1 (.int .i64 z)
    have I4 : Hid (ItAt (w4.setCell ⟨gm, 1, none⟩ (.int .i64 z)) w.heap.size 0 0 0 ByteArray.empty) := I4a.out.keep T4.keep (by omega)
    have M4 : Hid (ItAt (w4.setCell ⟨gm, 1, none⟩ (.int .i64 z)) gm q z l t) := M4a.out.set1 z
    have D4 : Hid (Drw w0 (w4.setCell ⟨gm, 1, none⟩ (.int .i64 z)) B g ao n cap) := D4a.out.other (by omega) T4 (by omega) (by omega)
    clear I4a M4a D4a T4
    obtain ⟨m0, m1, m2, m3⟩ := M4.out.cells
    obtain ⟨c0, c1, c2, c3⟩ := I4.out.cells
    have z0 := I4.out.frozen 0
    have z1 := I4.out.frozen 1
    have z2 := I4.out.frozen 2
    have z3 := I4.out.frozen 3
    go_wp2_with fail
    have I5 := I4.out.agg q z l t
    have D5 := D4.out.other (k := w.heap.size) (by omega) (it_turn q z l t) hw0 (by omega)
    generalize (((((w4.setCell ⟨gm, 1, none⟩ (.int .i64 z)).setCell ⟨w.heap.size, 0, none⟩ (.int .i64 q)).setCell ⟨w.heap.size, 1, none⟩ (.int .i64 z)).setCell ⟨w.heap.size, 2, none⟩ (.int .i64 l)).setCell ⟨w.heap.size, 3, none⟩ (.string t)) = W5 at *
    obtain ⟨q0, q1, q2, q3⟩ := I5.cells
    refine bodyPost_ret (v := .agg #[.int .i64 q, .int .i64 z, .int .i64 l, .string t]) (by simp [results, Try.results52, go_sem, q0, q1, q2, q3]) rfl ?_
    exact ⟨⟨_, _, _, t, by omega, rfl⟩, D5⟩
  by_cases y2 : y = 2
  · subst y2
    have D3a : Hid (Drw w0 (w3.alloc (.cells #[.int .i64 0, .int .i64 3] 3)) B g ao n cap) := D3.out.alloc hB _
    have hb3 : Below w3.heap.size w3 (w3.alloc (.cells #[.int .i64 0, .int .i64 3] 3)) := (Below.refl _ _).alloc (Nat.le_refl _) _
    have I3a : Hid (ItAt (w3.alloc (.cells #[.int .i64 0, .int .i64 3] 3)) w.heap.size 0 0 0 ByteArray.empty) := I3.out.stays hb3 I3.out.lt
    have M3a : Hid (ItAt (w3.alloc (.cells #[.int .i64 0, .int .i64 3] 3)) gm q f l t) := M3.out.stays hb3 M3.out.lt
    have R3a := hr2 w3 (0) (3)
    have hS : w3.heap.size < (w3.alloc (.cells #[.int .i64 0, .int .i64 3] 3)).heap.size := by simp
    clear hb3
    go_wp2_with fail
    generalize w3.alloc (.cells #[.int .i64 0, .int .i64 3] 3) = W3 at *
    refine (pickInt_any W3 _ B g n cap w3.heap.size 2 ao hn hB (by omega) (by omega) hS (by omega) R3a D3a.out.here).mono ?_
    rintro e w4 ⟨⟨z, rfl⟩, hd4⟩
    have I4a : Hid (ItAt w4 w.heap.size 0 0 0 ByteArray.empty) := I3a.out.keep hd4.out.2.2 (by omega)
    have M4a : Hid (ItAt w4 gm q f l t) := M3a.out.keep hd4.out.2.2 (by omega)
    have D4a := D3a.out.back hd4.out
    have s0 := M4a.out.cells.2.2.1
    have y0 := M4a.out.frozen 2
    clear hd4 D3a I3a M3a R3a hS
    have T4 := (TurnAt.refl gm w4).setCell 2 (.int .i64 z)
    have I4 : Hid (ItAt (w4.setCell ⟨gm, 2, none⟩ (.int .i64 z)) w.heap.size 0 0 0 ByteArray.empty) := I4a.out.keep T4.keep (by omega)
    have M4 : Hid (ItAt (w4.setCell ⟨gm, 2, none⟩ (.int .i64 z)) gm q f z t) := M4a.out.set2 z
    have D4 : Hid (Drw w0 (w4.setCell ⟨gm, 2, none⟩ (.int .i64 z)) B g ao n cap) := D4a.out.other (by omega) T4 (by omega) (by omega)
    clear I4a M4a D4a T4
    obtain ⟨m0, m1, m2, m3⟩ := M4.out.cells
    obtain ⟨c0, c1, c2, c3⟩ := I4.out.cells
    have z0 := I4.out.frozen 0
    have z1 := I4.out.frozen 1
    have z2 := I4.out.frozen 2
    have z3 := I4.out.frozen 3
    go_wp2_with fail
    have I5 := I4.out.agg q f z t
    have D5 := D4.out.other (k := w.heap.size) (by omega) (it_turn q f z t) hw0 (by omega)
    generalize (((((w4.setCell ⟨gm, 2, none⟩ (.int .i64 z)).setCell ⟨w.heap.size, 0, none⟩ (.int .i64 q)).setCell ⟨w.heap.size, 1, none⟩ (.int .i64 f)).setCell ⟨w.heap.size, 2, none⟩ (.int .i64 z)).setCell ⟨w.heap.size, 3, none⟩ (.string t)) = W5 at *
    obtain ⟨q0, q1, q2, q3⟩ := I5.cells
    refine bodyPost_ret (v := .agg #[.int .i64 q, .int .i64 f, .int .i64 z, .string t]) (by simp [results, Try.results52, go_sem, q0, q1, q2, q3]) rfl ?_
    exact ⟨⟨_, _, _, t, by omega, rfl⟩, D5⟩
  by_cases y3 : y = 3
  · subst y3
    go_wp2_with fail
    refine (below_small w3 _ B g n cap 2 ao hn hB (by omega) (by omega) D3.out.here).mono ?_
    rintro e w4 ⟨⟨v, hv, rfl⟩, hd4⟩
    have I4b : Hid (ItAt w4 w.heap.size 0 0 0 ByteArray.empty) := I3.out.keep hd4.out.2.2 (by omega)
    have M4b : Hid (ItAt w4 gm q f l t) := M3.out.keep hd4.out.2.2 (by omega)
    have D4b := D3.out.back hd4.out
    clear hd4
    go_wp2_with fail
    have e1 : (60 : Int) + (v : Int) = ((60 + v : Nat) : Int) := by omega
    rw [e1]
    refine (long_any (60 + v) _ (by omega)).mono ?_
    rintro e w5 ⟨⟨u, hu, rfl⟩, hb5⟩
    have I4a : Hid (ItAt w5 w.heap.size 0 0 0 ByteArray.empty) := I4b.out.stays hb5 I4b.out.lt
    have M4a : Hid (ItAt w5 gm q f l t) := M4b.out.stays hb5 M4b.out.lt
    have D4a : Hid (Drw w0 w5 B g ao n cap) := D4b.out.step hB hb5
    have s0 := M4a.out.cells.2.2.2
    have y0 := M4a.out.frozen 3
    clear I4b M4b D4b hb5 e1
    have T4 := (TurnAt.refl gm w5).setCell 3 (.string u)
    have I4 : Hid (ItAt (w5.setCell ⟨gm, 3, none⟩ (.string u)) w.heap.size 0 0 0 ByteArray.empty) := I4a.out.keep T4.keep (by omega)
    have M4 : Hid (ItAt (w5.setCell ⟨gm, 3, none⟩ (.string u)) gm q f l u) := M4a.out.set3 u
    have D4 : Hid (Drw w0 (w5.setCell ⟨gm, 3, none⟩ (.string u)) B g ao n cap) := D4a.out.other (by omega) T4 (by omega) (by omega)
    clear I4a M4a D4a T4
    obtain ⟨m0, m1, m2, m3⟩ := M4.out.cells
    obtain ⟨c0, c1, c2, c3⟩ := I4.out.cells
    have z0 := I4.out.frozen 0
    have z1 := I4.out.frozen 1
    have z2 := I4.out.frozen 2
    have z3 := I4.out.frozen 3
    go_wp2_with fail
    have I5 := I4.out.agg q f l u
    have D5 := D4.out.other (k := w.heap.size) (by omega) (it_turn q f l u) hw0 (by omega)
    generalize (((((w5.setCell ⟨gm, 3, none⟩ (.string u)).setCell ⟨w.heap.size, 0, none⟩ (.int .i64 q)).setCell ⟨w.heap.size, 1, none⟩ (.int .i64 f)).setCell ⟨w.heap.size, 2, none⟩ (.int .i64 l)).setCell ⟨w.heap.size, 3, none⟩ (.string u)) = W5 at *
    obtain ⟨q0, q1, q2, q3⟩ := I5.cells
    refine bodyPost_ret (v := .agg #[.int .i64 q, .int .i64 f, .int .i64 l, .string u]) (by simp [results, Try.results52, go_sem, q0, q1, q2, q3]) rfl ?_
    exact ⟨⟨_, _, _, u, by omega, rfl⟩, D5⟩
  · have I4 := I3
    have M4 := M3
    have D4 := D3
    clear I3 M3 D3
    obtain ⟨m0, m1, m2, m3⟩ := M4.out.cells
    obtain ⟨c0, c1, c2, c3⟩ := I4.out.cells
    have z0 := I4.out.frozen 0
    have z1 := I4.out.frozen 1
    have z2 := I4.out.frozen 2
    have z3 := I4.out.frozen 3
    go_wp2_with fail
    have I5 := I4.out.agg q f l t
    have D5 := D4.out.other (k := w.heap.size) (by omega) (it_turn q f l t) hw0 (by omega)
    generalize ((((w3.setCell ⟨w.heap.size, 0, none⟩ (.int .i64 q)).setCell ⟨w.heap.size, 1, none⟩ (.int .i64 f)).setCell ⟨w.heap.size, 2, none⟩ (.int .i64 l)).setCell ⟨w.heap.size, 3, none⟩ (.string t)) = W5 at *
    obtain ⟨q0, q1, q2, q3⟩ := I5.cells
    refine bodyPost_ret (v := .agg #[.int .i64 q, .int .i64 f, .int .i64 l, .string t]) (by simp [results, Try.results52, go_sem, q0, q1, q2, q3]) rfl ?_
    exact ⟨⟨_, _, _, t, by omega, rfl⟩, D5⟩
end Go.Proofs.Ytjijpcfdkmbgpaa
