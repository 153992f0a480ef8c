/- The walks over lists of items that a law copies, sizes and compares. -/
import Derived.Test.YtlflcjdpdbdbkaaJ2
import Derived.Test.YtlflcjdpdbdbkaaI3
import Derived.Laws.MakeOwn
namespace Go.Proofs.Ytlflcjdpdbdbkaa
open Go.RowKit Pl
set_option linter.unusedVariables false

set_option maxRecDepth 100000 in
set_option maxHeartbeats 1000000 in
theorem szItems_any (ao : Option Addr) (cap : Nat) (ts : List It) (w : World) (hx : Hid (ItemsAt w ao ts)) (hl : ts.length ≤ 9223372036854775807) (hs : Hid (∀ x ∈ ts, x.2.2.2.size ≤ 9223372036854775807)) :
    Calls Try.prog 26 #[.slice ao ts.length cap, .int .i64 1048576] w fun e w' => (e = .returned (.int .i64 (-1)) ∨ (∃ z : Nat, e = .returned (.int .i64 z) ∧ ts.length ≤ 1048576)) ∧ Below w.heap.size w w' := by
  by_cases h1 : 1048576 < ts.length
  · have hd : decide ((1048576 : Int) - (ts.length : Int) < 0) = true := by simp; omega
    go_enter Try.func26, Try.ntmps26
    go_wp2
    go_ret
    exact ⟨.inl rfl, Below.refl _ _⟩
  have hl2 : ts.length ≤ 1048576 := by omega
  have hd : decide ((1048576 : Int) - (ts.length : Int) < 0) = false := by simp; omega
  go_enter Try.func26, Try.ntmps26
  go_wp2
  clear hd
  go_loopw [1, 5] (fun lf i wr => ∃ (k z : Nat), k ≤ ts.length ∧ z ≤ 1048576 ∧ lf = .int .i64 z ∧ i = .int .i64 k ∧ Hid (Below w.heap.size w wr)) (fun _ i _ => ts.length - (intOf i).toNat)
  case atStart => exact ⟨0, 1048576 - ts.length, Nat.zero_le _, by omega, by congr 1; omega, rfl, Below.refl _ _⟩
  case round =>
    obtain ⟨k, z, hk, hz, rfl, rfl, hb⟩ := hrel
    by_cases hlt : k < ts.length
    · obtain ⟨b, off, rfl, hbb, c0, c1, c2, c3⟩ := hx.out.stays hb.out k hlt
      have hsz := hs.out _ (List.getElem_mem hlt)
      have HP : Hid (∃ x : It, x = ts[k]) := ⟨_, rfl⟩
      obtain ⟨⟨q, f, lv, tx⟩, hp⟩ := HP.out
      rw [← hp] at c0 c1 c2 c3 hsz
      clear hp HP
      dsimp only at c0 c1 c2 c3 hsz
      go_wp2_with fail
      by_cases hlong : z < tx.size
      · refine (szItem_long q f lv tx z _ hlong hsz hz).mono ?_
        rintro e w1 ⟨rfl, hb1⟩
        go_wp2_with fail
        go_ret
        exact ⟨.inl rfl, hb.out.trans (hb1.mono hb.out.size)⟩
      · refine (szItem_any q f lv tx z _ (by omega) hz).mono ?_
        rintro e w1 ⟨rfl, hb1⟩
        have B1 : Hid (Below w.heap.size w w1) := hb.out.trans (hb1.mono hb.out.size)
        have hzz : z - tx.size ≤ 1048576 := by omega
        generalize z - tx.size = zz at *
        have hd : decide ((zz : Int) < 0) = false := by simp
        clear hb1 c0 c1 c2 c3
        go_wp2_with fail
        go_roundw
        case rel => exact ⟨k + 1, zz, by omega, hzz, rfl, by go_num, B1.out⟩
        case measure => simp [intOf]; omega
    · go_wp2_with fail
      go_ret
      exact ⟨.inr ⟨z, rfl, hl2⟩, hb.out⟩

theorem Try.infoI : (Try.prog.info? 69).map (fun i => (i.zero, i.size, i.bytes)) = some (some (.agg #[.int .i64 0, .int .i64 0, .int .i64 0, .string ⟨#[]⟩]), 4, 40) := by kernel_rfl

/-- the first k items of a row. -/
def RowIt (w : World) (g n : Nat) (ts : List It) (k : Nat) : Prop :=
  ∃ arr : Array Value, w.heap[g]? = some (.cells arr 69 (0, 0)) ∧ arr.size = n * 4 ∧ ∀ i (h : i < ts.length), i < k → arr[i * 4]? = some (.int .i64 ts[i].1) ∧ arr[i * 4 + 1]? = some (.int .i64 ts[i].2.1) ∧ arr[i * 4 + 2]? = some (.int .i64 ts[i].2.2.1) ∧ arr[i * 4 + 3]? = some (.string ts[i].2.2.2)
theorem RowIt.stays {w w' : World} {B g n k : Nat} {ts : List It} (h : RowIt w g n ts k) (hb : Below B w w') (hg : g < B) : RowIt w' g n ts k := by
  obtain ⟨arr, h1, h2⟩ := h
  exact ⟨arr, (hb.block g hg).trans h1, h2⟩
theorem RowIt.lt {w : World} {g n k : Nat} {ts : List It} (h : RowIt w g n ts k) : g < w.heap.size := by
  obtain ⟨arr, h1, _⟩ := h
  exact (Array.getElem?_eq_some_iff.1 h1).1
theorem RowIt.cell {w : World} {g n k : Nat} {ts : List It} (h : RowIt w g n ts k) (i : Nat) (hi : i < n * 4) : ∃ v, w.cell? ⟨g, i, none⟩ = some v := by
  obtain ⟨arr, h1, h2, _⟩ := h
  refine ⟨arr[i]'(by omega), ?_⟩
  rw [cell_of_row w g i _ 69 (0, 0) h1]
  simp [h2, hi]
theorem RowIt.frozen {w : World} {g n k : Nat} {ts : List It} (h : RowIt w g n ts k) (i : Nat) : w.frozen? ⟨g, i, none⟩ = false := by
  obtain ⟨arr, h1, _⟩ := h
  exact frozen_of_row w g i _ 69 h1
theorem RowIt.set {w : World} {g k : Nat} {ts : List It} (h : RowIt w g ts.length ts k) (hk : k < ts.length) :
    RowIt ((((w.setCell ⟨g, k * 4, none⟩ (.int .i64 ts[k].1)).setCell ⟨g, k * 4 + 1, none⟩ (.int .i64 ts[k].2.1)).setCell ⟨g, k * 4 + 2, none⟩ (.int .i64 ts[k].2.2.1)).setCell ⟨g, k * 4 + 3, none⟩ (.string ts[k].2.2.2)) g ts.length ts (k + 1) := by
  obtain ⟨arr, h1, h2, h3⟩ := h
  have e0 := heap_setCell_same w g (k * 4) _ 69 (.int .i64 ts[k].1) h1
  have e1 := heap_setCell_same _ g (k * 4 + 1) _ 69 (.int .i64 ts[k].2.1) e0
  have e2 := heap_setCell_same _ g (k * 4 + 2) _ 69 (.int .i64 ts[k].2.2.1) e1
  have e3 := heap_setCell_same _ g (k * 4 + 3) _ 69 (.string ts[k].2.2.2) e2
  refine ⟨_, e3, by simp [h2], fun i hi hik => ?_⟩
  by_cases hik2 : i = k
  · subst hik2
    refine ⟨?_, ?_, ?_, ?_⟩ <;> simp [Array.getElem?_setIfInBounds, h2] <;> omega
  · obtain ⟨x0, x1, x2, x3⟩ := h3 i hi (by omega)
    have n0 : ∀ a c, a < 4 → c < 4 → ¬ k * 4 + a = i * 4 + c := fun a c _ _ => by omega
    refine ⟨?_, ?_, ?_, ?_⟩
    · rw [Array.getElem?_setIfInBounds_ne (by omega), Array.getElem?_setIfInBounds_ne (by omega), Array.getElem?_setIfInBounds_ne (by omega), Array.getElem?_setIfInBounds_ne (by omega)]; exact x0
    · rw [Array.getElem?_setIfInBounds_ne (by omega), Array.getElem?_setIfInBounds_ne (by omega), Array.getElem?_setIfInBounds_ne (by omega), Array.getElem?_setIfInBounds_ne (by omega)]; exact x1
    · rw [Array.getElem?_setIfInBounds_ne (by omega), Array.getElem?_setIfInBounds_ne (by omega), Array.getElem?_setIfInBounds_ne (by omega), Array.getElem?_setIfInBounds_ne (by omega)]; exact x2
    · rw [Array.getElem?_setIfInBounds_ne (by omega), Array.getElem?_setIfInBounds_ne (by omega), Array.getElem?_setIfInBounds_ne (by omega), Array.getElem?_setIfInBounds_ne (by omega)]; exact x3
theorem RowIt.items {w : World} {g n : Nat} {ts : List It} (h : RowIt w g n ts ts.length) : ItemsAt w (some ⟨g, 0, none⟩) ts := by
  have hlt := h.lt
  obtain ⟨arr, h1, h2, h3⟩ := h
  intro i hi
  obtain ⟨x0, x1, x2, x3⟩ := h3 i hi hi
  refine ⟨g, 0, rfl, hlt, ?_, ?_, ?_, ?_⟩
  · rw [Nat.zero_add, cell_of_row w g _ _ 69 (0, 0) h1]; exact x0
  · rw [Nat.zero_add, cell_of_row w g _ _ 69 (0, 0) h1]; exact x1
  · rw [Nat.zero_add, cell_of_row w g _ _ 69 (0, 0) h1]; exact x2
  · rw [Nat.zero_add, cell_of_row w g _ _ 69 (0, 0) h1]; exact x3
end Go.Proofs.Ytlflcjdpdbdbkaa
