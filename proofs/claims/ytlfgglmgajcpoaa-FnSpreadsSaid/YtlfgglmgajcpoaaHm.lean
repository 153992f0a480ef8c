/- A heap of pointers in memory: the methods of the program's stops. -/
import Derived.Test.YtlfgglmgajcpoaaRd
import Derived.Test.YtlfgglmgajcpoaaHp
import Derived.Test.YtlfgglmgajcpoaaSl
import Derived.Deep.RegionHeld3
import Derived.Deep.QuietTactic
import Derived.BigQuiet
namespace Go.Proofs.Ytlfgglmgajcpoaa
open Go.RowKit Pl
set_option linter.unusedVariables false

/-- a stop: its block, its site, its cost. -/
abbrev St := Nat × Int × Int
def StAt (w : World) (x : St) : Prop := w.heap[x.1]? = some (.cells #[.int .i64 x.2.1, .int .i64 x.2.2] 58 (0, 0))
def vals (L : List St) : List Value := L.map fun x => Value.pointer (some ⟨x.1, 0, none⟩)
theorem vals_get {L : List St} {i : Nat} {x : St} (h : L[i]? = some x) : (vals L)[i]? = some (.pointer (some ⟨x.1, 0, none⟩)) := by simp [vals, h]

/-- blocks that are neither a row of pointers to stops nor a variable of that kind stay as they are. -/
structure KeepT (w w' : World) : Prop where
  os : w'.os = w.os
  tape : w'.tape = w.tape
  output : w'.output = w.output
  size : w.heap.size ≤ w'.heap.size
  block : ∀ (k : Nat) (arr : Array Value) (t : TypeId), w.heap[k]? = some (.cells arr t (0, 0)) → t ≠ 60 → t ≠ 56 → w'.heap[k]? = w.heap[k]?
theorem KeepT.refl (w : World) : KeepT w w := ⟨rfl, rfl, rfl, Nat.le_refl _, fun _ _ _ _ _ _ => rfl⟩
theorem KeepT.trans {a b c : World} (h : KeepT a b) (k : KeepT b c) : KeepT a c :=
  ⟨k.os.trans h.os, k.tape.trans h.tape, k.output.trans h.output, Nat.le_trans h.size k.size, fun x arr t hx h1 h2 => by
    have e := h.block x arr t hx h1 h2
    rw [k.block x arr t (e.trans hx) h1 h2, e]⟩
theorem KeepT.ofBelow {w w' : World} (h : Below w.heap.size w w') : KeepT w w' := ⟨h.os, h.tape, h.output, h.size, fun k _ _ hk _ _ => h.block k (Array.getElem?_eq_some_iff.1 hk).1⟩
theorem KeepT.drewN {w w' : World} (h : KeepT w w') (n : Nat) : KeepT w (w'.drewN n) := ⟨h.os, h.tape, h.output, h.size, h.block⟩
theorem KeepT.setCell {w w' : World} (h : KeepT w w') {g j : Nat} {u : Value} {arr : Array Value} {t : TypeId} (hg : w'.heap[g]? = some (.cells arr t (0, 0))) (ht : t = 60 ∨ t = 56) : KeepT w (w'.setCell ⟨g, j, none⟩ u) :=
  ⟨h.os, h.tape, h.output, by simpa [World.setCell] using h.size, fun k a s hk h1 h2 => by
    have e := h.block k a s hk h1 h2
    have hne : k ≠ g := by
      rintro rfl
      rw [e.trans hk] at hg
      simp at hg
      rcases ht with ht | ht
      · exact h1 (hg.2.trans ht)
      · exact h2 (hg.2.trans ht)
    rw [← e]
    exact Below.heap_setCell w' ⟨g, j, none⟩ u k hne⟩
theorem StAt.keep {w w' : World} {x : St} (h : StAt w x) (k : KeepT w w') : StAt w' x := (k.block x.1 _ _ h (by decide) (by decide)).trans h
theorem BoxRd.keep {w w' : World} {g : Nat} {x : Rd} (h : BoxRd w g x) (k : KeepT w w') : BoxRd w' g x := (k.block g _ _ h (by decide) (by decide)).trans h
theorem StAt.cells {w : World} {x : St} (h : StAt w x) : w.cell? ⟨x.1, 0, none⟩ = some (.int .i64 x.2.1) ∧ w.cell? ⟨x.1, 1, none⟩ = some (.int .i64 x.2.2) := by
  refine ⟨?_, ?_⟩ <;> (rw [cell_of_row w x.1 _ _ 58 (0, 0) h]; rfl)

/-- the variable at c holds a slice of pointers to these stops. -/
structure HpAt (w : World) (B c : Nat) (v : Value) (L : List St) : Prop where
  var : w.heap[c]? = some (.cells #[v] 60 (0, 0))
  row : Sl w 56 1 B v L.length (vals L)
  st : ∀ x ∈ L, B ≤ x.1 ∧ StAt w x
  bc : B ≤ c

theorem HpAt.drewN {w : World} {B c : Nat} {v : Value} {L : List St} (h : HpAt w B c v L) (n : Nat) : HpAt (w.drewN n) B c v L :=
  ⟨h.var, h.row.keep fun _ _ _ => rfl, h.st, h.bc⟩
theorem HpAt.below {w w' : World} {B c : Nat} {v : Value} {L : List St} (h : HpAt w B c v L) (hb : Below w.heap.size w w') : HpAt w' B c v L :=
  ⟨(hb.block c (Array.getElem?_eq_some_iff.1 h.var).1).trans h.var, h.row.below hb, fun x hx => ⟨(h.st x hx).1, (h.st x hx).2.keep (KeepT.ofBelow hb)⟩, h.bc⟩
theorem HpAt.cell {w : World} {B c : Nat} {v : Value} {L : List St} (h : HpAt w B c v L) : w.cell? ⟨c, 0, none⟩ = some v := by
  rw [cell_of_row w c _ _ 60 (0, 0) h.var]; rfl
theorem HpAt.form {w : World} {B c : Nat} {v : Value} {L : List St} (h : HpAt w B c v L) : ∃ ao cap, v = .slice ao L.length cap := h.row.form

set_option maxRecDepth 100000 in
set_option maxHeartbeats 1000000 in
theorem len_any (ao : Option Addr) (n cap : Nat) (w : World) : Calls Try.prog 101 #[.slice ao n cap] w fun e w' => e = .returned (.int .i64 n) ∧ w' = w := by
  go_enter Try.func101, Try.ntmps101
  go_wp2
  go_ret
  exact ⟨rfl, rfl⟩

set_option maxRecDepth 100000 in
set_option maxHeartbeats 1000000 in
theorem less_any {w : World} {B c : Nat} {v : Value} {L : List St} (h : HpAt w B c v L) (i j : Nat) (x y : St) (hx : L[i]? = some x) (hy : L[j]? = some y) :
    Calls Try.prog 102 #[v, .int .i64 i, .int .i64 j] w fun e w' => e = .returned (.bool (decide (x.2.2 < y.2.2))) ∧ ∃ m, w' = w.drewN m := by
  have hi := (List.getElem?_eq_some_iff.1 hx).1
  have hj := (List.getElem?_eq_some_iff.1 hy).1
  obtain ⟨g, off, cap, rfl, _, _, hr, _⟩ := h.row.read (by omega)
  have h1 := hr i _ (vals_get hx)
  have h2 := hr j _ (vals_get hy)
  obtain ⟨x0, x1⟩ := (h.st x (List.mem_of_getElem? hx)).2.cells
  obtain ⟨y0, y1⟩ := (h.st y (List.mem_of_getElem? hy)).2.cells
  have i0 : (0 : Int) ≤ (i : Int) := by omega
  have i1 : (i : Int) < (L.length : Int) := by omega
  have j0 : (0 : Int) ≤ (j : Int) := by omega
  have j1 : (j : Int) < (L.length : Int) := by omega
  clear hx hy hr
  obtain ⟨xb, xs, xc⟩ := x
  obtain ⟨yb, ys, yc⟩ := y
  dsimp only at *
  go_enter Try.func102, Try.ntmps102
  go_wp2_with fail
  go_quiet (fail)
  go_wp2_with fail
  go_ret
  exact ⟨rfl, _, rfl⟩

theorem vals_set (L : List St) (i : Nat) (x : St) : vals (L.set i x) = (vals L).set i (.pointer (some ⟨x.1, 0, none⟩)) := by simp [vals, List.map_set]

theorem HpAt.heapRow {w : World} {B c : Nat} {L : List St} {g off n cap : Nat} (h : HpAt w B c (.slice (some ⟨g, off, none⟩) n cap) L) : ∃ arr, w.heap[g]? = some (.cells arr 56 (0, 0)) := by
  rcases h.row.2 with ⟨hv, _⟩ | ⟨g', off', cap', cur, hv, _, hg, _⟩
  · simp at hv
  · simp at hv
    exact ⟨cur, by rw [hv.1.1]; exact hg⟩

/-- one cell of the row set. -/
theorem HpAt.put {w : World} {B c : Nat} {L : List St} {g off cap : Nat} (h : HpAt w B c (.slice (some ⟨g, off, none⟩) L.length cap) L) (i : Nat) (x : St) (hx : B ≤ x.1 ∧ StAt w x) :
    HpAt (w.setCell ⟨g, off + i, none⟩ (.pointer (some ⟨x.1, 0, none⟩))) B c (.slice (some ⟨g, off, none⟩) L.length cap) (L.set i x) ∧ KeepT w (w.setCell ⟨g, off + i, none⟩ (.pointer (some ⟨x.1, 0, none⟩))) ∧ Below B w (w.setCell ⟨g, off + i, none⟩ (.pointer (some ⟨x.1, 0, none⟩))) := by
  obtain ⟨arr, hg⟩ := h.heapRow
  have K : KeepT w (w.setCell ⟨g, off + i, none⟩ (.pointer (some ⟨x.1, 0, none⟩))) := (KeepT.refl w).setCell hg (Or.inr rfl)
  have hB : B ≤ g := (h.row.lt g rfl).1
  have hcg : c ≠ g := by
    rintro rfl
    have := h.var
    rw [hg] at this
    simp at this
  refine ⟨⟨?_, ?_, fun y hy => ?_, h.bc⟩, K, (Below.refl _ _).setCell hB _⟩
  · rw [← h.var]
    exact Below.heap_setCell w ⟨g, off + i, none⟩ _ c hcg
  · have := h.row.put i (.pointer (some ⟨x.1, 0, none⟩))
    rw [vals_set, List.length_set]
    exact this
  · rcases List.mem_or_eq_of_mem_set hy with hy | rfl
    · exact ⟨(h.st y hy).1, (h.st y hy).2.keep K⟩
    · exact ⟨hx.1, hx.2.keep K⟩

set_option maxRecDepth 100000 in
set_option maxHeartbeats 2000000 in
theorem swap_any {w : World} {B c : Nat} {v : Value} {L : List St} (h : HpAt w B c v L) (i j : Nat) (x y : St) (hx : L[i]? = some x) (hy : L[j]? = some y) :
    Calls Try.prog 103 #[v, .int .i64 i, .int .i64 j] w fun e w' => (∃ u, e = .returned u) ∧ HpAt w' B c v (swp L i j x y) ∧ KeepT w w' ∧ Below B w w' := by
  have hi := (List.getElem?_eq_some_iff.1 hx).1
  have hj := (List.getElem?_eq_some_iff.1 hy).1
  obtain ⟨g, off, cap, rfl, _, _, hr, hf⟩ := h.row.read (by omega)
  have h1 := hr i _ (vals_get hx)
  have h2 := hr j _ (vals_get hy)
  have f1 := hf (off + i)
  have f2 := hf (off + j)
  have i0 : (0 : Int) ≤ (i : Int) := by omega
  have i1 : (i : Int) < (L.length : Int) := by omega
  have j0 : (0 : Int) ≤ (j : Int) := by omega
  have j1 : (j : Int) < (L.length : Int) := by omega
  have P1 := h.put i y (h.st y (List.mem_of_getElem? hy))
  have hx2 := h.st x (List.mem_of_getElem? hx)
  have P2 := (show HpAt _ B c (.slice (some ⟨g, off, none⟩) (L.set i y).length cap) (L.set i y) by rw [List.length_set]; exact P1.1).put j x ⟨hx2.1, hx2.2.keep P1.2.1⟩
  have hl2 : (L.set i y).length = L.length := List.length_set
  obtain ⟨z, hz⟩ : ∃ z, (L.set i y)[j]? = some z := ⟨_, List.getElem?_eq_getElem (by omega)⟩
  obtain ⟨g', off', cap', hv, _, _, hr2, hf2⟩ := P1.1.row.read (by omega)
  have e3 := hr2 j _ (vals_get hz)
  have f3 := hf2 (off' + j)
  simp at hv
  obtain ⟨⟨rfl, rfl⟩, rfl⟩ := hv
  have HP : Hid (HpAt ((w.setCell ⟨g, off + i, none⟩ (.pointer (some ⟨y.1, 0, none⟩))).setCell ⟨g, off + j, none⟩ (.pointer (some ⟨x.1, 0, none⟩))) B c (.slice (some ⟨g, off, none⟩) L.length cap) (swp L i j x y)) := by
    have := P2.1
    rw [hl2] at this
    exact this
  have HK : Hid (KeepT w ((w.setCell ⟨g, off + i, none⟩ (.pointer (some ⟨y.1, 0, none⟩))).setCell ⟨g, off + j, none⟩ (.pointer (some ⟨x.1, 0, none⟩)))) := P1.2.1.trans P2.2.1
  have HB : Hid (Below B w ((w.setCell ⟨g, off + i, none⟩ (.pointer (some ⟨y.1, 0, none⟩))).setCell ⟨g, off + j, none⟩ (.pointer (some ⟨x.1, 0, none⟩)))) := P1.2.2.trans P2.2.2
  clear hr hf h P1 P2 hr2 hf2 hx2 hl2 hz hx hy
  go_enter Try.func103, Try.ntmps103
  go_region
  go_wp2_with fail
  go_end0
  exact ⟨⟨_, rfl⟩, HP.out.drewN 1, HK.out.drewN 1, ⟨HB.out.os, HB.out.tape, HB.out.output, HB.out.size, HB.out.block⟩⟩
end Go.Proofs.Ytlfgglmgajcpoaa
