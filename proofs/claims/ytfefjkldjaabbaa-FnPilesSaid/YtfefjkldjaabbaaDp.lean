/- Drawn texts and numbers of pieces: l01PickInt, l01Long, l12Long, DrawPieces. -/
import Derived.Test.YtfefjkldjaabbaaDO
import Derived.Test.YtfefjkldjaabbaaDT
import Derived.Laws.BytesArg
import Derived.Laws.MakeOwn
import Derived.Test.YtfefjkldjaabbaaIp
namespace Go.Proofs.Ytfefjkldjaabbaa
open Go.RowKit Pl
set_option linter.unusedVariables false

/-- the block b is a row of m numbers, each as P says. -/
def RowZ (P : Int → Prop) (w : World) (b m : Nat) : Prop := ∀ j, j < m → ∃ z : Int, P z ∧ w.cell? ⟨b, j, none⟩ = some (.int .i64 z)
theorem RowZ.stays {P : Int → Prop} {w0 w1 : World} {b g m : Nat} (h : RowZ P w0 b m) (hb : b < w0.heap.size) (hg : b ≠ g) (hk : KeepBut g w0 w1) : RowZ P w1 b m := by
  intro j hj
  obtain ⟨z, h1, h2⟩ := h j hj
  refine ⟨z, h1, ?_⟩
  rw [← h2]
  unfold World.cell?
  rw [hk.block b hb hg]
theorem rowZ_new (P : Int → Prop) (w : World) (ts : List Int) (m : Nat) (hm : m = ts.length) (h : ∀ z ∈ ts, P z) : RowZ P (w.alloc (.cells (ts.map (Value.int .i64)).toArray 3)) w.heap.size m := by
  intro j hj
  subst hm
  refine ⟨ts[j], h _ (List.getElem_mem hj), ?_⟩
  rw [cell_of_row _ w.heap.size j _ 3 (0, 0) (heap_alloc_new w _)]
  simp [hj]

set_option maxRecDepth 100000 in
set_option maxHeartbeats 1000000 in
theorem pickZ_any (P : Int → Prop) (w0 w : World) (B g n cap b m : Nat) (ao : Option Addr) (hn : n ≤ 1048576) (hB : B ≤ g) (hm0 : 0 < m) (hm : m ≤ 256) (hb : b < w.heap.size) (hbg : b ≠ g) (hr : Hid (RowZ P w b m)) (hd : Hid (Drw w0 w B g ao n cap)) :
    Calls Try.prog 34 #[.pointer (some ⟨g, 0, none⟩), .slice (some ⟨b, 0, none⟩) m m] w fun e w' => (∃ z : Int, P z ∧ e = .returned (.int .i64 z)) ∧ Hid (Drw w0 w' B g ao n cap) := by
  have hd0 : Hid (Drw w w B g ao n cap) := Drw.start hd.out.1 hd.out.2.1
  go_enter Try.func34, Try.ntmps34
  go_wp2_with (first | (go_at_call 32; refine (below_small w _ B g n cap m ao hn hB hm0 hm (by assumption)).mono ?_; rintro e w1 ⟨⟨x, hx, rfl⟩, hd1⟩; obtain ⟨z, hPz, hc⟩ := hr.out.stays hb hbg hd1.out.2.2 x hx))
  go_ret
  exact ⟨⟨z, hPz, rfl⟩, show Drw _ _ _ _ _ _ _ from ⟨hd1.out.1, hd1.out.2.1, hd.out.2.2.trans hd1.out.2.2⟩⟩

/-- a row of bytes. -/
def RowB (w : World) (b : Nat) (xs : List Int) : Prop := w.heap[b]? = some (.cells (xs.map (Value.int .u8)).toArray 5 (0, 0))
theorem RowB.cell {w : World} {b : Nat} {xs : List Int} (h : RowB w b xs) (j : Nat) (hj : j < xs.length) : w.cell? ⟨b, j, none⟩ = some (.int .u8 (xs.getD j 0)) := by
  rw [cell_of_row w b j _ 5 (0, 0) h]; simp [hj]
theorem RowB.set {w : World} {b : Nat} {xs : List Int} (h : RowB w b xs) (j : Nat) (z : Int) : RowB (w.setCell ⟨b, j, none⟩ (.int .u8 z)) b (xs.set j z) := by
  have := heap_setCell_same w b j _ 5 (.int .u8 z) h
  unfold RowB; rw [this]; simp [List.map_set]

set_option maxRecDepth 100000 in
set_option maxHeartbeats 1000000 in
theorem longX_any (m : Nat) (x : Int) (w : World) (hm : m ≤ 500) :
    Calls Try.prog 36 #[.int .i64 m, .int .u8 x] w fun e w' => (∃ t : ByteArray, t.size = m ∧ e = .returned (.string t)) ∧ Below w.heap.size w w' := by
  obtain ⟨i0, hi, hz0, hz1, hz2⟩ := info_parts Try.info5'
  have hM : madeCells (Value.int .u8 0).cells m = ((List.replicate m (0 : Int)).map (Value.int .u8)).toArray := by
    apply Array.ext'
    rw [show (Value.int .u8 0).cells = #[Value.int .u8 0] from rfl, toList_madeCells_one]
    simp
  have hmk : ∀ W : World, (Instr.makeSlice 22 (.int .i64 (m : Int)) (.int .i64 (m : Int))).run Try.prog W = .ok (.slice (some ⟨W.heap.size, 0, none⟩) m m) (W.alloc (.cells ((List.replicate m (0 : Int)).map (Value.int .u8)).toArray 5)) := fun W => by
    have h := run_make (P := Try.prog) W 22 5 i0 (.int .u8 0) Try.underlying22 hi hz0 .i64 .i64 (m : Int) (m : Int) (by omega) (by omega) (by rw [hz2]; omega) (by omega)
    rw [hz1, Int.toNat_natCast, Nat.mul_one, hM] at h
    simpa using h
  clear hM
  go_enter Try.func36, Try.ntmps36
  go_wp2
  go_loopw [6] (fun i wr => ∃ (k : Nat) (xs : List Int), i = .int .i64 k ∧ k ≤ m ∧ Hid (xs.length = m) ∧ Hid (RowB wr w.heap.size xs) ∧ Below w.heap.size w wr) (fun i _ => m - (intOf i).toNat)
  case atStart => exact ⟨0, List.replicate m 0, rfl, Nat.zero_le _, List.length_replicate, (by show RowB _ _ _; unfold RowB; rw [heap_alloc_new]; simp), (Below.refl _ _).alloc (Nat.le_refl _) _⟩
  case round =>
    obtain ⟨k, xs, rfl, hk, hxl, hrow, hb⟩ := hrel
    by_cases h1 : k < m
    · have hc := hrow.out.cell k (by rw [hxl.out]; exact h1)
      have hf := frozen_of_row wr w.heap.size k _ 5 hrow.out
      go_wp2
      go_roundw
      case rel =>
        refine ⟨k + 1, xs.set k x, by go_num, by omega, by rw [List.length_set]; exact hxl.out, hrow.out.set k x, ?_⟩
        exact hb.trans (TurnAt.below ((TurnAt.refl w.heap.size wr).setCell k _) (Nat.le_refl _))
      case measure => simp [intOf]; omega
    · have hkm : k = m := by omega
      have hcv := run_convert_bytes_arg (P := Try.prog) wr 22 5 Try.underlying22 Try.underlying5 w.heap.size 0 m m xs hxl.out (fun i hi => by rw [Nat.zero_add]; exact hrow.out.cell i (by rw [hxl.out]; exact hi)) 9 Try.underlying9
      go_wp2
      go_ret
      exact ⟨⟨_, by rw [strOfNums_size]; exact hxl.out, rfl⟩, hb⟩

theorem longX_at (a x : Int) (w : World) (h0 : 0 ≤ a) (h1 : a ≤ 500) :
    Calls Try.prog 36 #[.int .i64 a, .int .u8 x] w fun e w' => (∃ t : ByteArray, t.size ≤ 500 ∧ e = .returned (.string t)) ∧ Below w.heap.size w w' := by
  obtain ⟨m, rfl⟩ : ∃ m : Nat, a = m := ⟨a.toNat, by omega⟩
  exact (longX_any m x w (by omega)).mono fun e w' ⟨⟨t, h, he⟩, hb⟩ => ⟨⟨t, by omega, he⟩, hb⟩

set_option maxRecDepth 100000 in
set_option maxHeartbeats 2000000 in
theorem l12Long_any (w0 w : World) (B g n cap : Nat) (ao : Option Addr) (hn : n ≤ 1048576) (hB : B ≤ g) (hd : Hid (Drw w0 w B g ao n cap)) :
    Calls Try.prog 35 #[.pointer (some ⟨g, 0, none⟩)] w fun e w' => (∃ t : ByteArray, t.size ≤ 500 ∧ e = .returned (.string t)) ∧ Hid (Drw w0 w' B g ao n cap) := by
  have hg := hd.out.lt
  have R0 : Hid (RowZ (fun z => 0 ≤ z ∧ z ≤ 400) (w.alloc (.cells #[.int .i64 0, .int .i64 1, .int .i64 39, .int .i64 40, .int .i64 41, .int .i64 80, .int .i64 95, .int .i64 130, .int .i64 400] 3)) w.heap.size 9) :=
    rowZ_new _ w [0, 1, 39, 40, 41, 80, 95, 130, 400] 9 rfl (by decide)
  have D0 : Hid (Drw w0 (w.alloc (.cells #[.int .i64 0, .int .i64 1, .int .i64 39, .int .i64 40, .int .i64 41, .int .i64 80, .int .i64 95, .int .i64 130, .int .i64 400] 3)) B g ao n cap) := hd.out.alloc hB _
  have hlt : w.heap.size < (w.alloc (.cells #[.int .i64 0, .int .i64 1, .int .i64 39, .int .i64 40, .int .i64 41, .int .i64 80, .int .i64 95, .int .i64 130, .int .i64 400] 3)).heap.size := by simp
  go_enter Try.func35, Try.ntmps35
  go_wp2_with fail
  refine (pickZ_any (fun z => 0 ≤ z ∧ z ≤ 400) w0 _ B g n cap w.heap.size 9 ao hn hB (by omega) (by omega) hlt (by omega) R0 D0).mono ?_
  rintro e w1 ⟨⟨z, hz, rfl⟩, D1⟩
  obtain ⟨m, rfl⟩ : ∃ m : Nat, z = m := ⟨z.toNat, by omega⟩
  have hm : m ≤ 400 := by omega
  clear R0 D0 hlt hz
  go_wp2_with fail
  refine (below_small w0 w1 B g n cap 9 ao hn hB (by omega) (by omega) D1).mono ?_
  rintro e w2 ⟨⟨a, ha, rfl⟩, D2⟩
  go_wp2_with fail
  refine (text_drw w0 w2 B g n cap a ao hn hB (by omega) D2).mono ?_
  rintro e w3 ⟨⟨t, ht, rfl⟩, D3⟩
  go_wp2_with fail
  refine (below_small w0 w3 B g n cap 20 ao hn hB (by omega) (by omega) D3).mono ?_
  rintro e w4 ⟨⟨b, hb, rfl⟩, D4⟩
  have htl : t.size ≤ 8 := by omega
  clear ht ha D1 D2 D3
  go_wp2_with fail
  refine (longX_any m _ w4 (by omega)).mono ?_
  rintro e w5 ⟨⟨u, hu, rfl⟩, hb5⟩
  have hul : u.size ≤ 400 := by omega
  have D5 : Hid (Drw w0 w5 B g ao n cap) := D4.out.step hB hb5
  clear hu D4 hb5
  go_wp2_with fail
  go_ret
  exact ⟨⟨_, by rw [app_size]; omega, rfl⟩, D5⟩

theorem dp_below {w w1 w' : World} {g n cap : Nat} {ao : Option Addr} (hg : w.heap.size = g) (hb : Below g w w1) (h : Drw w1 w' g g ao n cap) : Below g w w' :=
  hb.trans (h.2.2.below (Nat.le_refl _) (by have := hb.size; omega))
set_option maxRecDepth 100000 in
set_option maxHeartbeats 2000000 in
theorem drawPieces (w : World) (n cap : Nat) (ao : Option Addr) (hn : n ≤ 1048576) (hk : Hid (CodeAt w w.heap.size ao n)) :
    Calls Try.prog 10 #[.slice ao n cap] w fun e w' => ∃ (num : Int) (s : ByteArray), e = .returned (.tuple #[.int .i64 num, .string s]) ∧ s.size ≤ 500 ∧ Below w.heap.size w w' := by
  go_enter Try.func10, Try.ntmps10
  go_wp2_with fail
  refine (new_any w n cap ao hn hk).mono ?_
  rintro e w1 ⟨rfl, hc, hb1, hs1⟩
  have D1 : Hid (Drw w1 w1 w.heap.size w.heap.size ao n cap) := Drw.start hc.out (hk.out.stays hb1 (Nat.le_refl _))
  have B1 : Hid (Below w.heap.size w w1) := hb1
  have Z1 : Hid (w1.heap.size = w.heap.size + 1) := hs1
  clear hc hb1 hs1
  generalize hg : w.heap.size = g at *
  have HG : Hid (w.heap.size = g) := hg
  clear hg
  go_wp2_with fail
  refine (below_big w1 w1 g g n cap 300 ao hn (Nat.le_refl _) (by omega) (by omega) D1).mono ?_
  rintro e w2 ⟨⟨num, _, rfl⟩, D2⟩
  go_wp2_with fail
  refine (once_any w1 w2 g g n cap 12 ao hn (Nat.le_refl _) (by omega) (by omega) D2).mono ?_
  rintro e w3 ⟨⟨o, rfl⟩, D3⟩
  clear D1 D2
  cases o with
  | false =>
    go_wp2_with fail
    refine (l12Long_any w1 w3 g g n cap ao hn (Nat.le_refl _) D3).mono ?_
    rintro e w5 ⟨⟨s, hs, rfl⟩, D5⟩
    go_wp2_with fail
    refine (once_any w1 w5 g g n cap 12 ao hn (Nat.le_refl _) (by omega) (by omega) D5).mono ?_
    rintro e w6 ⟨⟨o2, rfl⟩, D6⟩
    clear D3 D5
    cases o2 with
    | false =>
      go_wp2_with fail
      go_ret2
      exact ⟨num, s, rfl, hs, (by have h := dp_below HG.out B1.out D6.out; rw [← HG.out] at h; exact h)⟩
    | true =>
      go_wp2_with fail
      refine (below_small w1 w6 g g n cap 2 ao hn (Nat.le_refl _) (by omega) (by omega) D6).mono ?_
      rintro e w7 ⟨⟨y, hy, rfl⟩, D7⟩
      go_wp2_with fail
      refine (longX_at _ 65 w7 (by omega) (by omega)).mono ?_
      rintro e w8 ⟨⟨u, hu, rfl⟩, hb8⟩
      have D8 : Hid (Drw w1 w8 g g ao n cap) := D7.out.step (Nat.le_refl _) hb8
      clear hb8 D7 D6
      go_wp2_with fail
      go_ret2
      exact ⟨num, u, rfl, hu, (by have h := dp_below HG.out B1.out D8.out; rw [← HG.out] at h; exact h)⟩
  | true =>
    have hlt3 := D3.out.lt
    have R3 : Hid (RowZ (fun _ => True) (w3.alloc (.cells #[.int .i64 (-1), .int .i64 100000, .int .i64 100001] 3)) w3.heap.size 3) := rowZ_new _ w3 [-1, 100000, 100001] 3 rfl (fun _ _ => trivial)
    have E3 : Hid (Drw w1 (w3.alloc (.cells #[.int .i64 (-1), .int .i64 100000, .int .i64 100001] 3)) g g ao n cap) := D3.out.alloc (Nat.le_refl _) _
    have hl3 : w3.heap.size < (w3.alloc (.cells #[.int .i64 (-1), .int .i64 100000, .int .i64 100001] 3)).heap.size := by simp
    go_wp2_with fail
    refine (pickZ_any (fun _ => True) w1 _ g g n cap w3.heap.size 3 ao hn (Nat.le_refl _) (by omega) (by omega) hl3 (by omega) R3 E3).mono ?_
    rintro e w4 ⟨⟨z, _, rfl⟩, D4⟩
    clear R3 E3 hl3 hlt3 D3
    go_wp2_with fail
    refine (l12Long_any w1 w4 g g n cap ao hn (Nat.le_refl _) D4).mono ?_
    rintro e w5 ⟨⟨s, hs, rfl⟩, D5⟩
    go_wp2_with fail
    refine (once_any w1 w5 g g n cap 12 ao hn (Nat.le_refl _) (by omega) (by omega) D5).mono ?_
    rintro e w6 ⟨⟨o2, rfl⟩, D6⟩
    clear D4 D5
    cases o2 with
    | false =>
      go_wp2_with fail
      go_ret2
      exact ⟨z, s, rfl, hs, (by have h := dp_below HG.out B1.out D6.out; rw [← HG.out] at h; exact h)⟩
    | true =>
      go_wp2_with fail
      refine (below_small w1 w6 g g n cap 2 ao hn (Nat.le_refl _) (by omega) (by omega) D6).mono ?_
      rintro e w7 ⟨⟨y, hy, rfl⟩, D7⟩
      go_wp2_with fail
      refine (longX_at _ 65 w7 (by omega) (by omega)).mono ?_
      rintro e w8 ⟨⟨u, hu, rfl⟩, hb8⟩
      have D8 : Hid (Drw w1 w8 g g ao n cap) := D7.out.step (Nat.le_refl _) hb8
      clear hb8 D7 D6
      go_wp2_with fail
      go_ret2
      exact ⟨z, u, rfl, hu, (by have h := dp_below HG.out B1.out D8.out; rw [← HG.out] at h; exact h)⟩
end Go.Proofs.Ytfefjkldjaabbaa
