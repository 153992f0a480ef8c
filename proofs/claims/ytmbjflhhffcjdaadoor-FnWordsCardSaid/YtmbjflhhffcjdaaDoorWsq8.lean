/- Joined texts: CNu CA1 CDy CDz CSz CEs CA2 CA3 CA4 CGv CBs CA5 CA6. -/
import Derived.Test.YtmbjflhhffcjdaaDoorWsq5
import Derived.Test.YtmbjflhhffcjdaaDoorWsq6
import Derived.Test.YtmbjflhhffcjdaaDoorWsq2
import Derived.Test.YtmbjflhhffcjdaaDoorWsq7
import Derived.Laws.BytesArg
import Derived.Laws.MakeOwn
import Derived.Laws.OwnMore
import Derived.Deep.RegionHeld3
import Derived.Deep.QuietTactic
import Derived.BigQuiet
/- Numbers of items, by the interface; slices of items. -/
namespace Go.Proofs.YtmbjflhhffcjdaaDoor
open Go.RowKit Pl
set_option linter.unusedVariables false

/-- an item as a value. -/
def agg (x : It) : Value := .agg #[.int .i64 x.1, .int .i64 x.2.1, .int .i64 x.2.2.1, .string x.2.2.2]
/-- the item of which all is zero. -/
def zIt : It := (0, 0, 0, ⟨#[]⟩)
/-- an item's cells. -/
def cel (x : It) : List Value := [.int .i64 x.1, .int .i64 x.2.1, .int .i64 x.2.2.1, .string x.2.2.2]
/-- items' cells. -/
def cels (ts : List It) : List Value := ts.flatMap cel
section
variable {w w' : World} {B : Nat} {v : Value} {ts : List It}
end
end Go.Proofs.YtmbjflhhffcjdaaDoor


/- The item that has a number: the walks over store.at and over both ItemAt. -/
namespace Go.Proofs.YtmbjflhhffcjdaaDoor
open Go.RowKit Pl
set_option linter.unusedVariables false

/-- the first item that has the number n. -/
def atP (ts : List It) (n : Int) : Option It := ts.find? fun x => decide (x.1 = n)
/-- whether one has it. -/
def hasP (ts : List It) (n : Int) : Bool := (atP ts n).isSome
end Go.Proofs.YtmbjflhhffcjdaaDoor


/- The walks over drawn items. -/
namespace Go.Proofs.YtmbjflhhffcjdaaDoor
open Go.RowKit Pl
set_option linter.unusedVariables false
theorem keep_then {g : Nat} {a b c : World} (h : KeepBut g a b) (hb : Below a.heap.size b c) : KeepBut g a c :=
  ⟨hb.os.trans h.os, hb.tape.trans h.tape, hb.output.trans h.output, Nat.le_trans h.size hb.size, fun k hk hg => (hb.block k hk).trans (h.block k hk hg)⟩


/-- the block b is a row of ints. -/
def RowI (w : World) (b m : Nat) : Prop := ∀ j, j < m → ∃ z : Int, w.cell? ⟨b, j, none⟩ = some (.int .i64 z)

theorem RowI.stays {w0 w1 : World} {b g m : Nat} (h : RowI w0 b m) (hb : b < w0.heap.size) (hg : b ≠ g) (hk : KeepBut g w0 w1) : RowI w1 b m := by
  intro j hj
  obtain ⟨t, h2⟩ := h j hj
  refine ⟨t, ?_⟩
  rw [← h2]
  simp only [World.cell?]
  rw [hk.block b hb hg]

theorem rowI_new (w : World) (ts : List Int) (m : Nat) (hm : m = ts.length) : RowI (w.alloc (.cells (ts.map (Value.int .i64)).toArray 3)) w.heap.size m := by
  intro j hj
  rw [hm] at hj
  refine ⟨ts[j], ?_⟩
  rw [cell_of_row _ w.heap.size j _ 3 (0, 0) (heap_alloc_new w _)]
  simp [hj]

set_option maxRecDepth 100000 in
set_option maxHeartbeats 1000000 in
theorem pickInt_any (w0 w : World) (B g n cap b m : Nat) (ao : Option Addr) (hn : n ≤ 1048576) (hB : B ≤ g) (hm0 : 0 < m) (hm : m ≤ 256) (hb : b < w.heap.size) (hbg : b ≠ g) (hr : Hid (RowI w b m)) (hd : Hid (Drw w0 w B g ao n cap)) :
    Calls Tryd.prog 83 #[.pointer (some ⟨g, 0, none⟩), .slice (some ⟨b, 0, none⟩) m m] w fun e w' => (∃ z : Int, e = .returned (.int .i64 z)) ∧ Hid (Drw w0 w' B g ao n cap) := by
  have hd0 : Hid (Drw w w B g ao n cap) := Drw.start hd.out.1 hd.out.2.1
  go_enter Tryd.func83, Tryd.ntmps83
  go_wp2_with (first | (go_at_call 82; refine (below_small w _ B g n cap m ao hn hB hm0 hm (by assumption)).mono ?_; rintro e w1 ⟨⟨x, hx, rfl⟩, hd1⟩; obtain ⟨z, hc⟩ := hr.out.stays hb hbg hd1.out.2.2 x hx))
  go_ret
  exact ⟨⟨z, rfl⟩, show Drw _ _ _ _ _ _ _ from ⟨hd1.out.1, hd1.out.2.1, hd.out.2.2.trans hd1.out.2.2⟩⟩


/-- the block b is a row of bytes. -/
def RowB (w : World) (b : Nat) (xs : List Int) : Prop := w.heap[b]? = some (.cells (xs.map (Value.int .u8)).toArray 5 (0, 0))

theorem RowB.cell {w : World} {b : Nat} {xs : List Int} (h : RowB w b xs) (j : Nat) (hj : j < xs.length) : w.cell? ⟨b, j, none⟩ = some (.int .u8 (xs.getD j 0)) := by
  rw [cell_of_row w b j _ 5 (0, 0) h]
  simp [hj]
theorem RowB.set {w : World} {b : Nat} {xs : List Int} (h : RowB w b xs) (j : Nat) (z : Int) : RowB (w.setCell ⟨b, j, none⟩ (.int .u8 z)) b (xs.set j z) := by
  have := heap_setCell_same w b j _ 5 (.int .u8 z) h
  unfold RowB
  rw [this]
  simp [List.map_set]

set_option maxRecDepth 100000 in
set_option maxHeartbeats 1000000 in
theorem long_any (m : Nat) (w : World) (hm : m ≤ 61) :
    Calls Tryd.prog 85 #[.int .i64 m, .int .u8 65] w fun e w' => (∃ t : ByteArray, t.size = m ∧ e = .returned (.string t)) ∧ Below w.heap.size w w' := by
  obtain ⟨i0, hi, hz0, hz1, hz2⟩ := info_parts Tryd.info5'
  have hM : madeCells (Value.int .u8 0).cells m = ((List.replicate m (0 : Int)).map (Value.int .u8)).toArray := by
    apply Array.ext'
    rw [show (Value.int .u8 0).cells = #[Value.int .u8 0] from rfl, toList_madeCells_one]
    simp
  have hmk : ∀ W : World, (Instr.makeSlice 22 (.int .i64 (m : Int)) (.int .i64 (m : Int))).run Tryd.prog W = .ok (.slice (some ⟨W.heap.size, 0, none⟩) m m) (W.alloc (.cells ((List.replicate m (0 : Int)).map (Value.int .u8)).toArray 5)) := fun W => by
    have h := run_make (P := Tryd.prog) W 22 5 i0 (.int .u8 0) Tryd.underlying22 hi hz0 .i64 .i64 (m : Int) (m : Int) (by omega) (by omega) (by rw [hz2]; omega) (by omega)
    rw [hz1, Int.toNat_natCast, Nat.mul_one, hM] at h
    simpa using h
  clear hM
  go_enter Tryd.func85, Tryd.ntmps85
  go_wp2
  go_loopw [6] (fun i wr => ∃ (k : Nat) (xs : List Int), i = .int .i64 k ∧ k ≤ m ∧ Hid (xs.length = m) ∧ Hid (RowB wr w.heap.size xs) ∧ Below w.heap.size w wr) (fun i _ => m - (intOf i).toNat)
  case atStart => exact ⟨0, List.replicate m 0, rfl, Nat.zero_le _, List.length_replicate, (by show RowB _ _ _; unfold RowB; rw [heap_alloc_new]; simp), (Below.refl _ _).alloc (Nat.le_refl _) _⟩
  case round =>
    obtain ⟨k, xs, rfl, hk, hxl, hrow, hb⟩ := hrel
    by_cases h1 : k < m
    · have hc := hrow.out.cell k (by rw [hxl.out]; exact h1)
      have hf := frozen_of_row wr w.heap.size k _ 5 hrow.out
      go_wp2
      go_roundw
      case rel =>
        refine ⟨k + 1, xs.set k 65, by go_num, by omega, by rw [List.length_set]; exact hxl.out, hrow.out.set k 65, ?_⟩
        exact hb.trans (TurnAt.below ((TurnAt.refl w.heap.size wr).setCell k _) (Nat.le_refl _))
      case measure => simp [intOf]; omega
    · have hkm : k = m := by omega
      have hcv := run_convert_bytes_arg (P := Tryd.prog) wr 22 5 Tryd.underlying22 Tryd.underlying5 w.heap.size 0 m m xs hxl.out (fun i hi => by rw [Nat.zero_add]; exact hrow.out.cell i (by rw [hxl.out]; exact hi)) 9 Tryd.underlying9
      go_wp2
      go_ret
      exact ⟨⟨_, by rw [strOfNums_size]; exact hxl.out, rfl⟩, hb⟩

/-- the block b is a row of short texts. -/
def RowS (w : World) (b m : Nat) : Prop := ∀ j, j < m → ∃ t : ByteArray, t.size ≤ 13 ∧ w.cell? ⟨b, j, none⟩ = some (.string t)

theorem RowS.stays {w0 w1 : World} {b g m : Nat} (h : RowS w0 b m) (hb : b < w0.heap.size) (hg : b ≠ g) (hk : KeepBut g w0 w1) : RowS w1 b m := by
  intro j hj
  obtain ⟨t, h1, h2⟩ := h j hj
  refine ⟨t, h1, ?_⟩
  rw [← h2]
  simp only [World.cell?]
  rw [hk.block b hb hg]

set_option maxRecDepth 100000 in
set_option maxHeartbeats 1000000 in
theorem pick_any (w0 w : World) (B g n cap b m : Nat) (ao : Option Addr) (hn : n ≤ 1048576) (hB : B ≤ g) (hm0 : 0 < m) (hm : m ≤ 256) (hb : b < w.heap.size) (hbg : b ≠ g) (hr : Hid (RowS w b m)) (hd : Hid (Drw w0 w B g ao n cap)) :
    Calls Tryd.prog 84 #[.pointer (some ⟨g, 0, none⟩), .slice (some ⟨b, 0, none⟩) m m] w fun e w' => (∃ t : ByteArray, t.size ≤ 13 ∧ e = .returned (.string t)) ∧ Hid (Drw w0 w' B g ao n cap) := by
  have hd0 : Hid (Drw w w B g ao n cap) := Drw.start hd.out.1 hd.out.2.1
  go_enter Tryd.func84, Tryd.ntmps84
  go_wp2_with (first | (go_at_call 82; refine (below_small w _ B g n cap m ao hn hB hm0 hm (by assumption)).mono ?_; rintro e w1 ⟨⟨x, hx, rfl⟩, hd1⟩; obtain ⟨t, ht, hc⟩ := hr.out.stays hb hbg hd1.out.2.2 x hx))
  go_ret
  exact ⟨⟨t, ht, rfl⟩, show Drw _ _ _ _ _ _ _ from ⟨hd1.out.1, hd1.out.2.1, hd.out.2.2.trans hd1.out.2.2⟩⟩

theorem rowS_new (w : World) (ts : List ByteArray) (m : Nat) (hm : m = ts.length) (h : ∀ t ∈ ts, t.size ≤ 13) : RowS (w.alloc (.cells (ts.map Value.string).toArray 9)) w.heap.size m := by
  intro j hj
  rw [hm] at hj
  refine ⟨ts[j], h _ (List.getElem_mem hj), ?_⟩
  rw [cell_of_row _ w.heap.size j _ 9 (0, 0) (heap_alloc_new w _)]
  simp [hj]


/-- seen from where we are. -/
theorem Drw.here {w0 w : World} {B g n cap : Nat} {ao : Option Addr} (h : Drw w0 w B g ao n cap) : Hid (Drw w w B g ao n cap) := Drw.start h.1 h.2.1
theorem Drw.back {w0 w w' : World} {B g n cap : Nat} {ao : Option Addr} (h : Drw w0 w B g ao n cap) (h' : Drw w w' B g ao n cap) : Hid (Drw w0 w' B g ao n cap) := ⟨h'.1, h'.2.1, h.2.2.trans h'.2.2⟩
/-- a block that is no cursor's is turned. -/
theorem Drw.other {w0 w w' : World} {B g k n cap : Nat} {ao : Option Addr} (h : Drw w0 w B g ao n cap) (hB : B ≤ k) (ht : TurnAt k w w') (hk : w0.heap.size ≤ k) (hg : g ≠ k) : Hid (Drw w0 w' B g ao n cap) := by
  obtain ⟨⟨i, z, h1, h2⟩, h3, h4⟩ := h
  exact ⟨⟨i, z, h1, (ht.block g hg).trans h2⟩, h3.stays (ht.below hB) (Nat.le_refl _), ⟨ht.os.trans h4.os, ht.tape.trans h4.tape, ht.output.trans h4.output, by rw [ht.size]; exact h4.size, fun m hm hmg => (ht.block m (by omega)).trans (h4.block m hm hmg)⟩⟩
theorem Drw.drew {w0 w : World} {B g n cap : Nat} {ao : Option Addr} (h : Drw w0 w B g ao n cap) : Hid (Drw w0 w.drew B g ao n cap) := ⟨h.1, h.2.1, h.2.2.trans ⟨rfl, rfl, rfl, Nat.le_refl _, fun _ _ _ => rfl⟩⟩

end Go.Proofs.YtmbjflhhffcjdaaDoor


/- A number out of a list, of which something holds. -/
namespace Go.Proofs.YtmbjflhhffcjdaaDoor
open Go.RowKit Pl
set_option linter.unusedVariables false

/-- a row of numbers, of each of which that holds. -/
def RowZ (P : Int → Prop) (w : World) (b m : Nat) : Prop := ∀ j, j < m → ∃ z : Int, P z ∧ w.cell? ⟨b, j, none⟩ = some (.int .i64 z)
theorem RowZ.stays {P : Int → Prop} {w0 w1 : World} {b g m : Nat} (h : RowZ P w0 b m) (hb : b < w0.heap.size) (hg : b ≠ g) (hk : KeepBut g w0 w1) : RowZ P w1 b m := by
  intro j hj
  obtain ⟨z, h1, h2⟩ := h j hj
  refine ⟨z, h1, ?_⟩
  rw [← h2]
  unfold World.cell?
  rw [hk.block b hb hg]
theorem RowZ.later {P : Int → Prop} {w0 w1 : World} {b m : Nat} (h : RowZ P w0 b m) (hb : b < w0.heap.size) (hk : Below w0.heap.size w0 w1) : RowZ P w1 b m := by
  intro j hj
  obtain ⟨z, h1, h2⟩ := h j hj
  refine ⟨z, h1, ?_⟩
  rw [← h2]
  exact hk.cell (p := ⟨b, j, none⟩) hb

set_option maxRecDepth 100000 in
set_option maxHeartbeats 1000000 in
theorem nameZ_any (w0 w : World) (B g n cap : Nat) (ao : Option Addr) (hn : n ≤ 1048576) (hB : B ≤ g) (hd : Hid (Drw w0 w B g ao n cap)) :
    Calls Tryd.prog 118 #[.pointer (some ⟨g, 0, none⟩)] w fun e w' => (∃ t : ByteArray, t.size ≤ 13 ∧ e = .returned (.string t)) ∧ Hid (Drw w0 w' B g ao n cap) := by
  have hlt := hd.out.lt
  have hr : ∀ (a b c d e : ByteArray), a.size ≤ 13 → b.size ≤ 13 → c.size ≤ 13 → d.size ≤ 13 → e.size ≤ 13 → Hid (RowS (w.alloc (.cells #[.string a, .string b, .string c, .string d, .string e] 9)) w.heap.size 5) := fun a b c d e h1 h2 h3 h4 h5 =>
    rowS_new w [a, b, c, d, e] 5 rfl (by simp [h1, h2, h3, h4, h5])
  have hd2 : ∀ o, Hid (Drw w0 (w.alloc o) B g ao n cap) := fun o => hd.out.alloc hB o
  go_enter Tryd.func118, Tryd.ntmps118
  go_wp2_with (first | (go_at_call 84; refine (pick_any w0 _ B g n cap w.heap.size 5 ao hn hB (by omega) (by omega) (by simp) (by omega) (hr _ _ _ _ _ (by decide) (by decide) (by decide) (by decide) (by decide)) (hd2 _)).mono ?_; rintro e w1 ⟨⟨t, ht, rfl⟩, hd1⟩))
  go_ret
  exact ⟨⟨t, ht, rfl⟩, hd1⟩
end Go.Proofs.YtmbjflhhffcjdaaDoor


/- Lists of items measured and copied, told more of. -/
namespace Go.Proofs.YtmbjflhhffcjdaaDoor
open Go.RowKit Pl
set_option linter.unusedVariables false
end Go.Proofs.YtmbjflhhffcjdaaDoor


/- Two slices of items compared. -/
namespace Go.Proofs.YtmbjflhhffcjdaaDoor
open Go.RowKit Pl
set_option linter.unusedVariables false
end Go.Proofs.YtmbjflhhffcjdaaDoor


/- The walks over both ItemAt, over one item copied. -/
namespace Go.Proofs.YtmbjflhhffcjdaaDoor
open Go.RowKit Pl
set_option linter.unusedVariables false
end Go.Proofs.YtmbjflhhffcjdaaDoor


/- Up to which number none is missing: the walks over store.aru and over both AruOf. -/
namespace Go.Proofs.YtmbjflhhffcjdaaDoor
open Go.RowKit Pl
set_option linter.unusedVariables false

/-- from n on, as long as there is the next one. -/
def aruGo (ts : List It) : Nat → Nat → Nat
  | 0, n => n
  | f + 1, n => if hasP ts ((n + 1 : Nat) : Int) = true then aruGo ts f (n + 1) else n
/-- the greatest number up to which none is missing. -/
def aruP (ts : List It) : Nat := aruGo ts ts.length 0
/-- which numbers are marked behind the first k items. -/
def flg (ts : List It) (k j : Nat) : Bool := decide (1 ≤ j ∧ j ≤ ts.length) && (ts.take k).any fun x => decide (x.1 = (j : Int))
/-- a row of N flags. -/
def FlAt (w : World) (g N : Nat) (p : Nat → Bool) : Prop := ∃ arr : Array Value, w.heap[g]? = some (.cells arr 4 (0, 0)) ∧ arr.size = N ∧ ∀ j, j < N → arr[j]? = some (.bool (p j))
theorem FlAt.lt {w : World} {g N : Nat} {p : Nat → Bool} (h : FlAt w g N p) : g < w.heap.size := by
  obtain ⟨arr, h1, _⟩ := h
  exact (Array.getElem?_eq_some_iff.1 h1).1
theorem FlAt.below {w w' : World} {g N : Nat} {p : Nat → Bool} (h : FlAt w g N p) (hb : Below w.heap.size w w') : FlAt w' g N p := by
  have := h.lt
  obtain ⟨arr, h1, h2⟩ := h
  exact ⟨arr, (hb.block g this).trans h1, h2⟩
theorem FlAt.cell {w : World} {g N : Nat} {p : Nat → Bool} (h : FlAt w g N p) {j : Nat} (hj : j < N) : w.cell? ⟨g, j, none⟩ = some (.bool (p j)) ∧ w.frozen? ⟨g, j, none⟩ = false := by
  obtain ⟨arr, h1, h2, h3⟩ := h
  exact ⟨by rw [cell_of_row w g j _ 4 (0, 0) h1]; exact h3 j hj, frozen_of_row w g j _ 4 h1⟩
theorem FlAt.set {w : World} {g N : Nat} {p p' : Nat → Bool} (h : FlAt w g N p) (k : Nat) (hp : ∀ j, p' j = if j = k then true else p j) : FlAt (w.setCell ⟨g, k, none⟩ (.bool true)) g N p' := by
  obtain ⟨arr, h1, h2, h3⟩ := h
  refine ⟨_, heap_setCell_same w g k _ 4 (.bool true) h1, by simp [h2], fun j hj => ?_⟩
  rw [Array.getElem?_setIfInBounds, hp]
  by_cases hjk : k = j
  · subst hjk
    simp [h2, hj]
  · have : ¬ j = k := fun e => hjk e.symm
    simp [hjk, this, h3 j hj]
end Go.Proofs.YtmbjflhhffcjdaaDoor


/- Items copied; those up to the aru: the walks over copyOfItems, store.whole and both Whole. -/
namespace Go.Proofs.YtmbjflhhffcjdaaDoor
open Go.RowKit Pl
set_option linter.unusedVariables false

/-- those up to the aru. -/
def wholeP (ts : List It) : List It := ts.filter fun x => decide (x.1 ≤ (aruP ts : Int))
end Go.Proofs.YtmbjflhhffcjdaaDoor


/- What is given of what is wanted: both Give. -/
namespace Go.Proofs.YtmbjflhhffcjdaaDoor
open Go.RowKit Pl
set_option linter.unusedVariables false

/-- n is one of them. -/
def inB (ws : List Int) (n : Int) : Bool := decide (n ∈ ws)
/-- those of the list that ws has. -/
def giveP (ws : List Int) (ts : List It) : List It := ts.filter fun x => inB ws x.1
end Go.Proofs.YtmbjflhhffcjdaaDoor


/- The search by halves: the walks over cmp.Compare, the closure and slices.BinarySearchFunc. -/
namespace Go.Proofs.YtmbjflhhffcjdaaDoor
open Go.RowKit Pl
set_option linter.unusedVariables false

/-- how two numbers stand. -/
def cmpP (a b : Int) : Int := if a < b then -1 else if b < a then 1 else 0
/-- where a list that ascends parts at n. -/
def Parts (ts : List It) (n : Int) (p : Nat) : Prop := p ≤ ts.length ∧ (∀ x ∈ ts.take p, x.1 < n) ∧ ∀ x ∈ ts.drop p, n ≤ x.1
/-- ascending. -/
def Asc (ts : List It) : Prop := ts.Pairwise fun a b => a.1 < b.1
theorem Asc.at {ts : List It} (h : Asc ts) {i j : Nat} (hij : i < j) (hj : j < ts.length) : (ts[i]'(by omega)).1 < ts[j].1 := List.pairwise_iff_getElem.1 h i j (by omega) hj hij
theorem ahead {ts : List It} (h : Asc ts) {n : Int} {k : Nat} (hk : k < ts.length) (hlt : ts[k].1 < n) : ∀ x ∈ ts.take (k + 1), x.1 < n := by
  intro x hx
  obtain ⟨i, hi, rfl⟩ := List.mem_take_iff_getElem.1 hx
  have hi2 : i < ts.length := by omega
  by_cases hik : i = k
  · subst hik; exact hlt
  · have := h.at (i := i) (j := k) (by omega) hk
    omega
theorem behind {ts : List It} (h : Asc ts) {n : Int} {k : Nat} (hk : k < ts.length) (hge : n ≤ ts[k].1) : ∀ x ∈ ts.drop k, n ≤ x.1 := by
  intro x hx
  obtain ⟨i, hi, rfl⟩ := List.mem_drop_iff_getElem.1 hx
  by_cases hi0 : i = 0
  · subst hi0; simpa using hge
  · have := h.at (i := k) (j := k + i) (by omega) (by omega)
    omega

end Go.Proofs.YtmbjflhhffcjdaaDoor


/- What is missing: the walks over store.missing and over both Missing. -/
namespace Go.Proofs.YtmbjflhhffcjdaaDoor
open Go.RowKit Pl
set_option linter.unusedVariables false

/-- from n on, up to last, twenty at most. -/
def missGo (ts : List It) (last : Int) : Nat → Nat → List Int → List Int
  | 0, _, acc => acc
  | f + 1, n, acc => if (n : Int) ≤ last ∧ acc.length < 20 then missGo ts last f (n + 1) (if hasP ts (n : Int) = true then acc else acc ++ [(n : Int)]) else acc
/-- what is missing. -/
def missP (ts : List It) (u : Int) : List Int := missGo ts (if u ≤ 60 then u else 60) (61 - (aruP ts + 1)) (aruP ts + 1) []
end Go.Proofs.YtmbjflhhffcjdaaDoor


/- The walk over the specification's Missing. -/
namespace Go.Proofs.YtmbjflhhffcjdaaDoor
open Go.RowKit Pl
set_option linter.unusedVariables false
end Go.Proofs.YtmbjflhhffcjdaaDoor


