/- The walks over lists of roads that a law sizes, copies and compares. -/
import Derived.Test.YtlfgglmgajcpoaaR1
import Derived.Laws.MakeOwn
import Derived.Deep.RegionHeld3
namespace Go.Proofs.Ytlfgglmgajcpoaa
open Go.RowKit Pl
set_option linter.unusedVariables false

set_option maxRecDepth 100000 in
set_option maxHeartbeats 1000000 in
theorem szRoads_any (ao : Option Addr) (len cap : Nat) (w : World) (hl : len ≤ 9223372036854775807) :
    Calls Try.prog 22 #[.slice ao len cap, .int .i64 1048576] w fun e w' => (e = .returned (.int .i64 (-1)) ∨ (∃ z : Nat, e = .returned (.int .i64 z) ∧ len ≤ 1048576)) ∧ w' = w := by
  by_cases h1 : 1048576 < len
  · have hd : decide ((1048576 : Int) - (len : Int) < 0) = true := by simp; omega
    go_enter Try.func22, Try.ntmps22
    go_wp2
    go_ret
    exact ⟨.inl rfl, rfl⟩
  · have hd : decide ((1048576 : Int) - (len : Int) < 0) = false := by simp; omega
    obtain ⟨z, hz⟩ : ∃ z : Nat, (1048576 : Int) - (len : Int) = (z : Int) := ⟨1048576 - len, by omega⟩
    rw [hz] at hd
    go_enter Try.func22, Try.ntmps22
    go_wp2
    go_ret
    refine ⟨.inr ⟨z, ?_, by omega⟩, rfl⟩
    first | rfl | (rw [← hz]; rfl)

set_option maxRecDepth 100000 in
set_option maxHeartbeats 1000000 in
theorem toRoad_any (a b c : Int) (w : World) :
    Calls Try.prog 50 #[.agg #[.int .i64 a, .int .i64 b, .int .i64 c]] w fun e w' => e = .returned (.agg #[.int .i64 a, .int .i64 b, .int .i64 c]) ∧ Below w.heap.size w w' := by
  go_enter Try.func50, Try.ntmps50
  go_wp2_with fail
  have P0 : BoxRd (((w.alloc (Obj.cells #[Value.int IntKind.i64 a, Value.int IntKind.i64 b, Value.int IntKind.i64 c] 73)).alloc (Obj.cells #[Value.int IntKind.i64 a, Value.int IntKind.i64 b, Value.int IntKind.i64 c] 31)).alloc (Obj.cells #[Value.int IntKind.i64 a, Value.int IntKind.i64 b, Value.int IntKind.i64 c] 31)) (w.heap.size + 1) ⟨a, b, c⟩ := by
    have h : BoxRd ((w.alloc (Obj.cells #[Value.int IntKind.i64 a, Value.int IntKind.i64 b, Value.int IntKind.i64 c] 73)).alloc (Obj.cells #[Value.int IntKind.i64 a, Value.int IntKind.i64 b, Value.int IntKind.i64 c] 31)) ((w.alloc (Obj.cells #[Value.int IntKind.i64 a, Value.int IntKind.i64 b, Value.int IntKind.i64 c] 73)).heap.size) ⟨a, b, c⟩ := heap_alloc_new _ _
    have h2 := h.stays ((Below.refl _ _).alloc (Nat.le_refl _) (Obj.cells #[Value.int IntKind.i64 a, Value.int IntKind.i64 b, Value.int IntKind.i64 c] 31)) h.lt
    simpa using h2
  obtain ⟨p0, p1, p2⟩ := P0.cells
  refine bodyPost_ret (v := .agg #[.int .i64 a, .int .i64 b, .int .i64 c]) (by simp [results, Try.results50, go_sem, p0, p1, p2]) rfl ?_
  exact ⟨rfl, (((Below.refl _ _).alloc (Nat.le_refl _) _).alloc (by simp) _).alloc (by simp; omega) _⟩

set_option maxRecDepth 100000 in
set_option maxHeartbeats 1000000 in
theorem eqRoad_same (a b c : Int) (w : World) :
    Calls Try.prog 51 #[.agg #[.int .i64 a, .int .i64 b, .int .i64 c], .agg #[.int .i64 a, .int .i64 b, .int .i64 c]] w fun e w' => e = .returned (.bool true) ∧ Below w.heap.size w w' := by
  go_enter Try.func51, Try.ntmps51
  go_wp2
  go_ret
  exact ⟨rfl, ((Below.refl _ _).alloc (Nat.le_refl _) _).alloc (by simp) _⟩

theorem Try.infoRd : (Try.prog.info? 31).map (fun i => (i.zero, i.size, i.bytes)) = some (some (.agg #[.int .i64 0, .int .i64 0, .int .i64 0]), 3, 24) := by kernel_rfl

/-- a row of n roads, whose first k are these. -/
def RowRd (w : World) (g n : Nat) (ts : List Rd) (k : Nat) : Prop :=
  ∃ arr : Array Value, w.heap[g]? = some (.cells arr 31 (0, 0)) ∧ arr.size = n * 3 ∧ ∀ i (h : i < ts.length), i < k → arr[i * 3]? = some (.int .i64 ts[i].a) ∧ arr[i * 3 + 1]? = some (.int .i64 ts[i].b) ∧ arr[i * 3 + 2]? = some (.int .i64 ts[i].c)
theorem RowRd.stays {w w' : World} {B g n k : Nat} {ts : List Rd} (h : RowRd w g n ts k) (hb : Below B w w') (hg : g < B) : RowRd w' g n ts k := by
  obtain ⟨arr, h1, h2⟩ := h
  exact ⟨arr, (hb.block g hg).trans h1, h2⟩
theorem RowRd.lt {w : World} {g n k : Nat} {ts : List Rd} (h : RowRd w g n ts k) : g < w.heap.size := by
  obtain ⟨arr, h1, _⟩ := h
  exact (Array.getElem?_eq_some_iff.1 h1).1
theorem RowRd.cell {w : World} {g n k : Nat} {ts : List Rd} (h : RowRd w g n ts k) (i : Nat) (hi : i < n * 3) : ∃ v, w.cell? ⟨g, i, none⟩ = some v := by
  obtain ⟨arr, h1, h2, _⟩ := h
  refine ⟨arr[i]'(by omega), ?_⟩
  rw [cell_of_row w g i _ 31 (0, 0) h1]
  simp [h2, hi]
theorem RowRd.frozen {w : World} {g n k : Nat} {ts : List Rd} (h : RowRd w g n ts k) (i : Nat) : w.frozen? ⟨g, i, none⟩ = false := by
  obtain ⟨arr, h1, _⟩ := h
  exact frozen_of_row w g i _ 31 h1
theorem RowRd.put {w : World} {g n k : Nat} {ts : List Rd} (h : RowRd w g n ts k) (i : Nat) (v : Value) : RowRd (w.setCell ⟨g, i, none⟩ v) g n ts 0 := by
  obtain ⟨arr, h1, h2, _⟩ := h
  exact ⟨_, heap_setCell_same w g i _ 31 v h1, by simp [h2], fun i _ h => absurd h (by omega)⟩
theorem RowRd.set {w : World} {g k : Nat} {ts : List Rd} (h : RowRd w g ts.length ts k) (hk : k < ts.length) :
    RowRd (((w.setCell ⟨g, k * 3, none⟩ (.int .i64 ts[k].a)).setCell ⟨g, k * 3 + 1, none⟩ (.int .i64 ts[k].b)).setCell ⟨g, k * 3 + 2, none⟩ (.int .i64 ts[k].c)) g ts.length ts (k + 1) := by
  obtain ⟨arr, h1, h2, h3⟩ := h
  have e0 := heap_setCell_same w g (k * 3) _ 31 (.int .i64 ts[k].a) h1
  have e1 := heap_setCell_same _ g (k * 3 + 1) _ 31 (.int .i64 ts[k].b) e0
  have e2 := heap_setCell_same _ g (k * 3 + 2) _ 31 (.int .i64 ts[k].c) e1
  refine ⟨_, e2, by simp [h2], fun i hi hik => ?_⟩
  by_cases hik2 : i = k
  · subst hik2
    refine ⟨?_, ?_, ?_⟩ <;> simp [Array.getElem?_setIfInBounds, h2] <;> omega
  · obtain ⟨x0, x1, x2⟩ := h3 i hi (by omega)
    refine ⟨?_, ?_, ?_⟩
    · rw [Array.getElem?_setIfInBounds_ne (by omega), Array.getElem?_setIfInBounds_ne (by omega), Array.getElem?_setIfInBounds_ne (by omega)]; exact x0
    · rw [Array.getElem?_setIfInBounds_ne (by omega), Array.getElem?_setIfInBounds_ne (by omega), Array.getElem?_setIfInBounds_ne (by omega)]; exact x1
    · rw [Array.getElem?_setIfInBounds_ne (by omega), Array.getElem?_setIfInBounds_ne (by omega), Array.getElem?_setIfInBounds_ne (by omega)]; exact x2
theorem RowRd.roads {w : World} {g n : Nat} {ts : List Rd} (h : RowRd w g n ts ts.length) : RoadsAt w (some ⟨g, 0, none⟩) ts := by
  have hlt := h.lt
  obtain ⟨arr, h1, h2, h3⟩ := h
  intro i hi
  obtain ⟨x0, x1, x2⟩ := h3 i hi hi
  refine ⟨g, 0, rfl, hlt, ?_, ?_, ?_⟩
  · rw [Nat.zero_add, cell_of_row w g _ _ 31 (0, 0) h1]; exact x0
  · rw [Nat.zero_add, cell_of_row w g _ _ 31 (0, 0) h1]; exact x1
  · rw [Nat.zero_add, cell_of_row w g _ _ 31 (0, 0) h1]; exact x2

set_option maxRecDepth 100000 in
set_option maxHeartbeats 1000000 in
theorem toRoads_any (w : World) (ao : Option Addr) (cap : Nat) (ts : List Rd) (hx : Hid (RoadsAt w ao ts)) (hl : ts.length ≤ 1048576) :
    Calls Try.prog 24 #[.slice ao ts.length cap] w fun e w' => ∃ g, e = .returned (.slice (some ⟨g, 0, none⟩) ts.length ts.length) ∧ w.heap.size ≤ g ∧ RowRd w' g ts.length ts ts.length ∧ Below w.heap.size w w' := by
  obtain ⟨i0, hi, hz0, hz1, hz2⟩ := info_parts Try.infoRd
  obtain ⟨A, hA, hAs⟩ : ∃ A : Array Value, A = madeCells (Value.agg #[.int .i64 0, .int .i64 0, .int .i64 0]).cells (ts.length * 3) ∧ A.size = ts.length * 3 := ⟨_, rfl, size_madeCells _ _⟩
  have hmk : ∀ W : World, (Instr.makeSlice 24 (.int .i64 (ts.length : Int)) (.int .i64 (ts.length : Int))).run Try.prog W = .ok (.slice (some ⟨W.heap.size, 0, none⟩) ts.length ts.length) (W.alloc (.cells A 31)) := fun W => by
    have h := run_make (P := Try.prog) W 24 31 i0 _ Try.underlying24 hi hz0 .i64 .i64 (ts.length : Int) (ts.length : Int) (by omega) (by omega) (by rw [hz2]; omega) (by omega)
    rw [hz1, Int.toNat_natCast, ← hA] at h
    simpa using h
  clear hA
  have H0 : Hid (RowRd (w.alloc (.cells A 31)) w.heap.size ts.length ts 0) := ⟨A, heap_alloc_new w _, hAs, fun i _ h => absurd h (by omega)⟩
  clear hAs
  go_enter Try.func24, Try.ntmps24
  go_wp2
  go_loopw [4] (fun i wr => ∃ (k : Nat), k ≤ ts.length ∧ i = .int .i64 k ∧ Hid (RowRd wr w.heap.size ts.length ts k) ∧ Below w.heap.size w wr) (fun i _ => ts.length - (intOf i).toNat)
  case atStart => exact ⟨0, by omega, rfl, H0.out, (Below.refl _ _).alloc (Nat.le_refl _) _⟩
  case round =>
    obtain ⟨k, hk, rfl, hrow, hb⟩ := hrel
    clear H0 hmk hi hz0 hz1 hz2
    by_cases hlt : k < ts.length
    · obtain ⟨b, off, rfl, hbb, h0, h1, h2⟩ := hx.out.stays hb k hlt
      have HP : Hid (∃ x : Rd, x = ts[k]) := ⟨_, rfl⟩
      obtain ⟨⟨q, f, t⟩, hp⟩ := HP.out
      rw [← hp] at h0 h1 h2
      have HQ : Hid ((⟨q, f, t⟩ : Rd) = ts[k]) := hp
      clear hp HP
      dsimp only at h0 h1 h2
      go_wp2_with fail
      refine (toRoad_any q f t _).mono ?_
      rintro e w1 ⟨rfl, hb1⟩
      have R1 : Hid (RowRd w1 w.heap.size ts.length ts k) := hrow.out.stays hb1 hrow.out.lt
      have B1 : Hid (Below w.heap.size w w1) := hb.trans (hb1.mono hb.size)
      obtain ⟨v0, z0⟩ := R1.out.cell (k * 3) (by omega)
      obtain ⟨v1, z1⟩ := R1.out.cell (k * 3 + 1) (by omega)
      obtain ⟨v2, z2⟩ := R1.out.cell (k * 3 + 2) (by omega)
      have f0 := R1.out.frozen (k * 3)
      have f1 := R1.out.frozen (k * 3 + 1)
      have f2 := R1.out.frozen (k * 3 + 2)
      clear hb1 h0 h1 h2 hrow hb
      go_wp2_with fail
      go_roundw
      case rel =>
        have := R1.out.set hlt
        rw [← HQ.out] at this
        exact ⟨k + 1, by omega, by go_num, this, ((B1.out.setCell (Nat.le_refl _) _).setCell (Nat.le_refl _) _).setCell (Nat.le_refl _) _⟩
      case measure => simp [intOf]; omega
    · obtain rfl : k = ts.length := by omega
      go_wp2_with fail
      go_ret
      exact ⟨_, rfl, Nat.le_refl _, hrow.out, hb⟩

set_option maxRecDepth 100000 in
set_option maxHeartbeats 2000000 in
theorem eqRoads_same (a1 a2 : Option Addr) (k1 k2 : Nat) (ps : List Rd) (w : World) (h1 : Hid (RoadsAt w a1 ps)) (h2 : Hid (RoadsAt w a2 ps)) (hl : ps.length ≤ 1048576) :
    Calls Try.prog 25 #[.slice a1 ps.length k1, .slice a2 ps.length k2] w fun e w' => e = .returned (.bool true) ∧ Below w.heap.size w w' := by
  go_enter Try.func25, Try.ntmps25
  go_wp2
  go_loopw [5] (fun i wr => ∃ k : Nat, k ≤ ps.length ∧ i = .int .i64 k ∧ Hid (Below w.heap.size w wr)) (fun i _ => ps.length - (intOf i).toNat)
  case atStart => exact ⟨0, by omega, rfl, Below.refl _ _⟩
  case round =>
    obtain ⟨k, hk, rfl, hb⟩ := hrel
    by_cases hlt : k < ps.length
    · obtain ⟨b1, o1, rfl, hb1, c0, c1, c2⟩ := h1.out.stays hb.out k hlt
      obtain ⟨b2, o2, rfl, hb2, d0, d1, d2⟩ := h2.out.stays hb.out k hlt
      obtain ⟨⟨x, y, t⟩, hx⟩ : ∃ p : Rd, p = ps[k] := ⟨_, rfl⟩
      rw [← hx] at c0 c1 c2 d0 d1 d2
      clear hx
      dsimp only at c0 c1 c2 d0 d1 d2
      have hq1 : (0 : Int) ≤ (k : Int) := by omega
      have hq2 : (k : Int) < (ps.length : Int) := by omega
      go_wp2_with fail
      go_region_held3 (fun w' => w'.cell? ⟨b1, o1 + k * 3, none⟩ = some (.int .i64 x) ∧ w'.cell? ⟨b1, o1 + k * 3 + 1, none⟩ = some (.int .i64 y) ∧ w'.cell? ⟨b1, o1 + k * 3 + 2, none⟩ = some (.int .i64 t) ∧ w'.cell? ⟨b2, o2 + k * 3, none⟩ = some (.int .i64 x) ∧ w'.cell? ⟨b2, o2 + k * 3 + 1, none⟩ = some (.int .i64 y) ∧ w'.cell? ⟨b2, o2 + k * 3 + 2, none⟩ = some (.int .i64 t))
        (first | exact ⟨(hb3.cell (p := ⟨b1, o1 + k * 3, none⟩) hb1).trans c0, (hb3.cell (p := ⟨b1, o1 + k * 3 + 1, none⟩) hb1).trans c1, (hb3.cell (p := ⟨b1, o1 + k * 3 + 2, none⟩) hb1).trans c2, (hb3.cell (p := ⟨b2, o2 + k * 3, none⟩) hb2).trans d0, (hb3.cell (p := ⟨b2, o2 + k * 3 + 1, none⟩) hb2).trans d1, (hb3.cell (p := ⟨b2, o2 + k * 3 + 2, none⟩) hb2).trans d2⟩ | exact ⟨c0, c1, c2, d0, d1, d2⟩)
        (first | (go_at_call 51; refine (eqRoad_same x y t _).mono ?_; rintro e w3 ⟨rfl, hb3⟩))
      have HB3 : Hid (Below w.heap.size w w3) := hb.out.drew.trans (hb3.mono hb.out.size)
      clear hb3 c0 c1 c2 d0 d1 d2
      go_wp2_with fail
      go_roundw
      case rel => exact ⟨k + 1, by omega, by go_num, HB3.out⟩
      case measure => simp [intOf]; omega
    · go_wp2_with fail
      go_ret
      exact ⟨rfl, hb.out⟩

set_option maxRecDepth 100000 in
set_option maxHeartbeats 1000000 in
theorem markRoads_any (g n k0 B : Nat) (ts : List Rd) (w : World) (hx : Hid (RowRd w g n ts 0)) (hl : n ≤ 1048576) (hB : B ≤ g) (hk0 : k0 ≤ 1000) :
    Calls Try.prog 27 #[.slice (some ⟨g, 0, none⟩) n n, .int .i64 k0] w fun e w' => (∃ z : Nat, e = .returned (.int .i64 z)) ∧ Below B w w' := by
  go_enter Try.func27, Try.ntmps27
  go_wp2
  go_loopw [1, 5] (fun z i wr => ∃ (k : Nat), k ≤ n ∧ i = .int .i64 k ∧ z = .int .i64 ((k0 + k * 3 : Nat) : Int) ∧ Hid (RowRd wr g n ts 0) ∧ Hid (Below B w wr)) (fun _ i _ => n - (intOf i).toNat)
  case atStart => exact ⟨0, by omega, rfl, by simp, hx.out, Below.refl _ _⟩
  case round =>
    obtain ⟨k, hk, rfl, rfl, hrow, hb⟩ := hrel
    obtain ⟨z, hz⟩ : ∃ z, z = k0 + k * 3 := ⟨_, rfl⟩
    have HZ : Hid (z = k0 + k * 3) := hz
    rw [← hz]
    have hzl : z ≤ 4000000 := by omega
    clear hz
    by_cases hlt : k < n
    · obtain ⟨v0, z0⟩ := hrow.out.cell (k * 3) (by omega)
      obtain ⟨v1, z1⟩ := hrow.out.cell (k * 3 + 1) (by omega)
      obtain ⟨v2, z2⟩ := hrow.out.cell (k * 3 + 2) (by omega)
      have f0 := hrow.out.frozen (k * 3)
      have f1 := hrow.out.frozen (k * 3 + 1)
      have f2 := hrow.out.frozen (k * 3 + 2)
      have hq1 : (0 : Int) ≤ (k : Int) := by omega
      have hq2 : (k : Int) < (n : Int) := by omega
      go_wp2_with fail
      go_roundw
      case rel =>
        refine ⟨k + 1, by omega, by go_num, ?_, ((hrow.out.put _ _).put _ _).put _ _, ((hb.out.setCell hB _).setCell hB _).setCell hB _⟩
        have := HZ.out
        congr 1
        omega
      case measure => simp [intOf]; omega
    · go_wp2_with fail
      go_ret
      exact ⟨⟨z, rfl⟩, hb.out⟩
end Go.Proofs.Ytlfgglmgajcpoaa
