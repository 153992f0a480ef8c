/- The walks over drawn items. -/
import Derived.Test.YtnhnpneedcjcfaaA1
import Derived.Test.YtnhnpneedcjcfaaDO
import Derived.Laws.BytesArg
import Derived.Laws.MakeOwn
import Derived.Laws.OwnMore
import Derived.Deep.RegionHeld3
import Derived.Deep.QuietTactic
namespace Go.Proofs.Ytnhnpneedcjcfaa
open Go.RowKit Pl
set_option linter.unusedVariables false

set_option maxRecDepth 100000 in
set_option maxHeartbeats 1000000 in
theorem big_any (w : World) (n cap : Nat) (ao : Option Addr) (b : Bool) (hb : decide (1048576 < (n : Int)) = b) :
    Calls Try.prog 12 #[.slice ao n cap] w fun e w' => e = .returned (.bool b) ∧ w' = w := by
  go_enter Try.func12, Try.ntmps12
  go_wp2
  go_ret
  exact ⟨by rw [← hb]; rfl, rfl⟩

theorem keep_then {g : Nat} {a b c : World} (h : KeepBut g a b) (hb : Below a.heap.size b c) : KeepBut g a c :=
  ⟨hb.os.trans h.os, hb.tape.trans h.tape, hb.output.trans h.output, Nat.le_trans h.size hb.size, fun k hk hg => (hb.block k hk).trans (h.block k hk hg)⟩


/-- the block b is a row of ints. -/
def RowI (w : World) (b m : Nat) : Prop := ∀ j, j < m → ∃ z : Int, w.cell? ⟨b, j, none⟩ = some (.int .i64 z)

theorem RowI.stays {w0 w1 : World} {b g m : Nat} (h : RowI w0 b m) (hb : b < w0.heap.size) (hg : b ≠ g) (hk : KeepBut g w0 w1) : RowI w1 b m := by
  intro j hj
  obtain ⟨t, h2⟩ := h j hj
  refine ⟨t, ?_⟩
  rw [← h2]
  simp only [World.cell?]
  rw [hk.block b hb hg]

theorem rowI_new (w : World) (ts : List Int) (m : Nat) (hm : m = ts.length) : RowI (w.alloc (.cells (ts.map (Value.int .i64)).toArray 3)) w.heap.size m := by
  intro j hj
  rw [hm] at hj
  refine ⟨ts[j], ?_⟩
  rw [cell_of_row _ w.heap.size j _ 3 (0, 0) (heap_alloc_new w _)]
  simp [hj]

set_option maxRecDepth 100000 in
set_option maxHeartbeats 1000000 in
theorem pickInt_any (w0 w : World) (B g n cap b m : Nat) (ao : Option Addr) (hn : n ≤ 1048576) (hB : B ≤ g) (hm0 : 0 < m) (hm : m ≤ 256) (hb : b < w.heap.size) (hbg : b ≠ g) (hr : Hid (RowI w b m)) (hd : Hid (Drw w0 w B g ao n cap)) :
    Calls Try.prog 84 #[.pointer (some ⟨g, 0, none⟩), .slice (some ⟨b, 0, none⟩) m m] w fun e w' => (∃ z : Int, e = .returned (.int .i64 z)) ∧ Hid (Drw w0 w' B g ao n cap) := by
  have hd0 : Hid (Drw w w B g ao n cap) := Drw.start hd.out.1 hd.out.2.1
  go_enter Try.func84, Try.ntmps84
  go_wp2_with (first | (go_at_call 61; refine (below_small w _ B g n cap m ao hn hB hm0 hm (by assumption)).mono ?_; rintro e w1 ⟨⟨x, hx, rfl⟩, hd1⟩; obtain ⟨z, hc⟩ := hr.out.stays hb hbg hd1.out.2.2 x hx))
  go_ret
  exact ⟨⟨z, rfl⟩, show Drw _ _ _ _ _ _ _ from ⟨hd1.out.1, hd1.out.2.1, hd.out.2.2.trans hd1.out.2.2⟩⟩


theorem OwnI_keep {w w' : World} {B g : Nat} {v : Value} {ss : List Int} (h : OwnI w B v ss) (hk : KeepBut g w w') (hg : g < B) : OwnI w' B v ss := by
  refine ⟨h.1, ?_⟩
  rcases h.2 with hn | ⟨k, cap, cur, rfl, hbg, hk2, rest⟩
  · exact .inl hn
  · exact .inr ⟨k, cap, cur, rfl, hbg, (hk.block k (Array.getElem?_eq_some_iff.1 hk2).1 (by omega)).trans hk2, rest⟩






theorem ItAt.keep {w w' : World} {g k : Nat} {q f l : Int} {t : ByteArray} (h : ItAt w g q f l t) (hk : KeepBut k w w') (hg : g ≠ k) : ItAt w' g q f l t := (hk.block g h.lt hg).trans h

/-- the block b is a row of bytes. -/
def RowB (w : World) (b : Nat) (xs : List Int) : Prop := w.heap[b]? = some (.cells (xs.map (Value.int .u8)).toArray 5 (0, 0))

theorem RowB.cell {w : World} {b : Nat} {xs : List Int} (h : RowB w b xs) (j : Nat) (hj : j < xs.length) : w.cell? ⟨b, j, none⟩ = some (.int .u8 (xs.getD j 0)) := by
  rw [cell_of_row w b j _ 5 (0, 0) h]
  simp [hj]
theorem RowB.set {w : World} {b : Nat} {xs : List Int} (h : RowB w b xs) (j : Nat) (z : Int) : RowB (w.setCell ⟨b, j, none⟩ (.int .u8 z)) b (xs.set j z) := by
  have := heap_setCell_same w b j _ 5 (.int .u8 z) h
  unfold RowB
  rw [this]
  simp [List.map_set]

set_option maxRecDepth 100000 in
set_option maxHeartbeats 1000000 in
theorem long_any (m : Nat) (w : World) (hm : m ≤ 61) :
    Calls Try.prog 63 #[.int .i64 m, .int .u8 65] w fun e w' => (∃ t : ByteArray, t.size = m ∧ e = .returned (.string t)) ∧ Below w.heap.size w w' := by
  obtain ⟨i0, hi, hz0, hz1, hz2⟩ := info_parts Try.info5'
  have hM : madeCells (Value.int .u8 0).cells m = ((List.replicate m (0 : Int)).map (Value.int .u8)).toArray := by
    apply Array.ext'
    rw [show (Value.int .u8 0).cells = #[Value.int .u8 0] from rfl, toList_madeCells_one]
    simp
  have hmk : ∀ W : World, (Instr.makeSlice 22 (.int .i64 (m : Int)) (.int .i64 (m : Int))).run Try.prog W = .ok (.slice (some ⟨W.heap.size, 0, none⟩) m m) (W.alloc (.cells ((List.replicate m (0 : Int)).map (Value.int .u8)).toArray 5)) := fun W => by
    have h := run_make (P := Try.prog) W 22 5 i0 (.int .u8 0) Try.underlying22 hi hz0 .i64 .i64 (m : Int) (m : Int) (by omega) (by omega) (by rw [hz2]; omega) (by omega)
    rw [hz1, Int.toNat_natCast, Nat.mul_one, hM] at h
    simpa using h
  clear hM
  go_enter Try.func63, Try.ntmps63
  go_wp2
  go_loopw [6] (fun i wr => ∃ (k : Nat) (xs : List Int), i = .int .i64 k ∧ k ≤ m ∧ Hid (xs.length = m) ∧ Hid (RowB wr w.heap.size xs) ∧ Below w.heap.size w wr) (fun i _ => m - (intOf i).toNat)
  case atStart => exact ⟨0, List.replicate m 0, rfl, Nat.zero_le _, List.length_replicate, (by show RowB _ _ _; unfold RowB; rw [heap_alloc_new]; simp), (Below.refl _ _).alloc (Nat.le_refl _) _⟩
  case round =>
    obtain ⟨k, xs, rfl, hk, hxl, hrow, hb⟩ := hrel
    by_cases h1 : k < m
    · have hc := hrow.out.cell k (by rw [hxl.out]; exact h1)
      have hf := frozen_of_row wr w.heap.size k _ 5 hrow.out
      go_wp2
      go_roundw
      case rel =>
        refine ⟨k + 1, xs.set k 65, by go_num, by omega, by rw [List.length_set]; exact hxl.out, hrow.out.set k 65, ?_⟩
        exact hb.trans (TurnAt.below ((TurnAt.refl w.heap.size wr).setCell k _) (Nat.le_refl _))
      case measure => simp [intOf]; omega
    · have hkm : k = m := by omega
      have hcv := run_convert_bytes_arg (P := Try.prog) wr 22 5 Try.underlying22 Try.underlying5 w.heap.size 0 m m xs hxl.out (fun i hi => by rw [Nat.zero_add]; exact hrow.out.cell i (by rw [hxl.out]; exact hi)) 9 Try.underlying9
      go_wp2
      go_ret
      exact ⟨⟨_, by rw [strOfNums_size]; exact hxl.out, rfl⟩, hb⟩

/-- the block b is a row of short texts. -/
def RowS (w : World) (b m : Nat) : Prop := ∀ j, j < m → ∃ t : ByteArray, t.size ≤ 13 ∧ w.cell? ⟨b, j, none⟩ = some (.string t)

theorem RowS.stays {w0 w1 : World} {b g m : Nat} (h : RowS w0 b m) (hb : b < w0.heap.size) (hg : b ≠ g) (hk : KeepBut g w0 w1) : RowS w1 b m := by
  intro j hj
  obtain ⟨t, h1, h2⟩ := h j hj
  refine ⟨t, h1, ?_⟩
  rw [← h2]
  simp only [World.cell?]
  rw [hk.block b hb hg]

set_option maxRecDepth 100000 in
set_option maxHeartbeats 1000000 in
theorem pick_any (w0 w : World) (B g n cap b m : Nat) (ao : Option Addr) (hn : n ≤ 1048576) (hB : B ≤ g) (hm0 : 0 < m) (hm : m ≤ 256) (hb : b < w.heap.size) (hbg : b ≠ g) (hr : Hid (RowS w b m)) (hd : Hid (Drw w0 w B g ao n cap)) :
    Calls Try.prog 86 #[.pointer (some ⟨g, 0, none⟩), .slice (some ⟨b, 0, none⟩) m m] w fun e w' => (∃ t : ByteArray, t.size ≤ 13 ∧ e = .returned (.string t)) ∧ Hid (Drw w0 w' B g ao n cap) := by
  have hd0 : Hid (Drw w w B g ao n cap) := Drw.start hd.out.1 hd.out.2.1
  go_enter Try.func86, Try.ntmps86
  go_wp2_with (first | (go_at_call 61; refine (below_small w _ B g n cap m ao hn hB hm0 hm (by assumption)).mono ?_; rintro e w1 ⟨⟨x, hx, rfl⟩, hd1⟩; obtain ⟨t, ht, hc⟩ := hr.out.stays hb hbg hd1.out.2.2 x hx))
  go_ret
  exact ⟨⟨t, ht, rfl⟩, show Drw _ _ _ _ _ _ _ from ⟨hd1.out.1, hd1.out.2.1, hd.out.2.2.trans hd1.out.2.2⟩⟩

theorem rowS_new (w : World) (ts : List ByteArray) (m : Nat) (hm : m = ts.length) (h : ∀ t ∈ ts, t.size ≤ 13) : RowS (w.alloc (.cells (ts.map Value.string).toArray 9)) w.heap.size m := by
  intro j hj
  rw [hm] at hj
  refine ⟨ts[j], h _ (List.getElem_mem hj), ?_⟩
  rw [cell_of_row _ w.heap.size j _ 9 (0, 0) (heap_alloc_new w _)]
  simp [hj]


/-- seen from where we are. -/
theorem Drw.here {w0 w : World} {B g n cap : Nat} {ao : Option Addr} (h : Drw w0 w B g ao n cap) : Hid (Drw w w B g ao n cap) := Drw.start h.1 h.2.1
theorem Drw.back {w0 w w' : World} {B g n cap : Nat} {ao : Option Addr} (h : Drw w0 w B g ao n cap) (h' : Drw w w' B g ao n cap) : Hid (Drw w0 w' B g ao n cap) := ⟨h'.1, h'.2.1, h.2.2.trans h'.2.2⟩
/-- a block that is no cursor's is turned. -/
theorem Drw.other {w0 w w' : World} {B g k n cap : Nat} {ao : Option Addr} (h : Drw w0 w B g ao n cap) (hB : B ≤ k) (ht : TurnAt k w w') (hk : w0.heap.size ≤ k) (hg : g ≠ k) : Hid (Drw w0 w' B g ao n cap) := by
  obtain ⟨⟨i, z, h1, h2⟩, h3, h4⟩ := h
  exact ⟨⟨i, z, h1, (ht.block g hg).trans h2⟩, h3.stays (ht.below hB) (Nat.le_refl _), ⟨ht.os.trans h4.os, ht.tape.trans h4.tape, ht.output.trans h4.output, by rw [ht.size]; exact h4.size, fun m hm hmg => (ht.block m (by omega)).trans (h4.block m hm hmg)⟩⟩
theorem Drw.drew {w0 w : World} {B g n cap : Nat} {ao : Option Addr} (h : Drw w0 w B g ao n cap) : Hid (Drw w0 w.drew B g ao n cap) := ⟨h.1, h.2.1, h.2.2.trans ⟨rfl, rfl, rfl, Nat.le_refl _, fun _ _ _ => rfl⟩⟩

theorem it_turn {w : World} {g : Nat} (q f l : Int) (t : ByteArray) : TurnAt g w ((((w.setCell ⟨g, 0, none⟩ (.int .i64 q)).setCell ⟨g, 1, none⟩ (.int .i64 f)).setCell ⟨g, 2, none⟩ (.int .i64 l)).setCell ⟨g, 3, none⟩ (.string t)) :=
  ((((TurnAt.refl g w).setCell 0 _).setCell 1 _).setCell 2 _).setCell 3 _

end Go.Proofs.Ytnhnpneedcjcfaa
