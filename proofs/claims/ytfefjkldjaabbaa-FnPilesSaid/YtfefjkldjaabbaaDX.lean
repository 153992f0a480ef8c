/- The walks over draws: the test for too many bytes, a drawn text, one of a few numbers, a text with something else in it. -/
import Derived.Test.YtfefjkldjaabbaaD1
import Derived.Test.YtfefjkldjaabbaaOwI
import Derived.Laws.BytesArg
import Derived.Laws.MakeOwn
import Derived.Laws.OwnMore
import Derived.Deep.RegionHeld3
import Derived.Deep.QuietTactic
namespace Go.Proofs.Ytfefjkldjaabbaa
open Go.RowKit Pl
set_option linter.unusedVariables false

set_option maxRecDepth 100000 in
set_option maxHeartbeats 1000000 in
theorem big_any (w : World) (n cap : Nat) (ao : Option Addr) (b : Bool) (hb : decide (1048576 < (n : Int)) = b) :
    Calls Try.prog 9 #[.slice ao n cap] w fun e w' => e = .returned (.bool b) ∧ w' = w := by
  go_enter Try.func9, Try.ntmps9
  go_wp2
  go_ret
  exact ⟨by rw [← hb]; rfl, rfl⟩

theorem keep_then {g : Nat} {a b c : World} (h : KeepBut g a b) (hb : Below a.heap.size b c) : KeepBut g a c :=
  ⟨hb.os.trans h.os, hb.tape.trans h.tape, hb.output.trans h.output, Nat.le_trans h.size hb.size, fun k hk hg => (hb.block k hk).trans (h.block k hk hg)⟩

set_option maxRecDepth 100000 in
set_option maxHeartbeats 1000000 in
theorem text_drw (w0 w : World) (B g n cap N : Nat) (ao : Option Addr) (hn : n ≤ 1048576) (hB : B ≤ g) (hN : N ≤ 5000) (hd : Hid (Drw w0 w B g ao n cap)) :
    Calls Try.prog 50 #[.pointer (some ⟨g, 0, none⟩), .int .i64 N] w fun e w' => (∃ t : ByteArray, t.size = N ∧ e = .returned (.string t)) ∧ Hid (Drw w0 w' B g ao n cap) := by
  have hg := hd.out.lt
  suffices hh : Calls Try.prog 50 #[.pointer (some ⟨g, 0, none⟩), .int .i64 N] w fun e w' => (∃ t : ByteArray, t.size = N ∧ e = .returned (.string t)) ∧ CurAt w' 73 g ao n cap ∧ KeepBut g w w' from
    hh.mono fun e w' h => ⟨h.1, (show Drw _ _ _ _ _ _ _ from ⟨h.2.1, hd.out.2.1.stays (h.2.2.below (Nat.le_refl g) (Nat.le_of_lt hg)) hB, hd.out.2.2.trans h.2.2⟩)⟩
  have hc : Hid (CurAt w 73 g ao n cap) := hd.out.1
  have hk : Hid (CodeAt w B ao n) := hd.out.2.1
  clear hd
  go_enter Try.func50, Try.ntmps50
  go_wp2
  go_loopw [5, 6] (fun v i wr => ∃ (k : Nat) (xs : List Int), i = .int .i64 k ∧ k ≤ N ∧ xs.length = k ∧ Hid (OwnB wr w.heap.size 5 v xs) ∧ Hid (CurAt wr 73 g ao n cap) ∧ Hid (CodeAt wr B ao n) ∧ Hid (KeepBut g w wr)) (fun _ i _ => N - (intOf i).toNat)
  case atStart =>
    have hb : Below w.heap.size w (w.alloc (.cells #[] 5)) := (Below.refl _ _).alloc (Nat.le_refl _) _
    exact ⟨0, [], rfl, by omega, rfl, OwnB.made w _ 5 #[] 0 (Nat.le_refl _) (by decide) rfl, CurAt.stays hc.out hb hg, hk.out.stays hb (by omega), keep_of_below hb⟩
  case round =>
    obtain ⟨k, xs, rfl, hkN, hxl, hown, hcr, hkr, hbr⟩ := hrel
    have hsz := hbr.out.size
    by_cases h1 : k < N
    · have hd := Drw.start hcr.out hkr.out
      go_wp2_with (first | (go_at_call 49; refine (byte_any wr _ B g n cap ao hn hB (by assumption)).mono ?_; rintro e w1 ⟨⟨x, hx, rfl⟩, hd1⟩; have hs1 : w.heap.size ≤ w1.heap.size := Nat.le_trans hsz hd1.out.2.2.size; have hown1 := OwnB_keep hown.out hd1.out.2.2 hg) | (at_builtin; refine wpList_push rfl _ _ 22 5 rfl Try.underlying22 Try.info5' w.heap.size _ xs rfl hown1 _ rfl (by omega) (by omega) ?_; intro v2 w2 hown2 hb2))
      go_roundw
      case rel => exact ⟨k + 1, _, by go_num, by omega, by simp [hxl], hown2, CurAt.stays hd1.out.1 hb2 hg, hd1.out.2.1.stays hb2 (by omega), (show KeepBut g w w2 from keep_then (hbr.out.trans hd1.out.2.2) hb2)⟩
      case measure => simp [intOf]; omega
    · have hkk : k = N := by omega
      have hcv := conv_own Try.underlying22 Try.underlying5 Try.underlying9 hown.out
      go_wp2
      go_ret
      exact ⟨⟨_, by rw [strOfNums_size]; omega, rfl⟩, hcr.out, hbr.out⟩

/-- the block b is a row of ints. -/
def RowI (w : World) (b m : Nat) : Prop := ∀ j, j < m → ∃ z : Int, w.cell? ⟨b, j, none⟩ = some (.int .i64 z)

theorem RowI.stays {w0 w1 : World} {b g m : Nat} (h : RowI w0 b m) (hb : b < w0.heap.size) (hg : b ≠ g) (hk : KeepBut g w0 w1) : RowI w1 b m := by
  intro j hj
  obtain ⟨t, h2⟩ := h j hj
  refine ⟨t, ?_⟩
  rw [← h2]
  simp only [World.cell?]
  rw [hk.block b hb hg]

theorem rowI_new (w : World) (ts : List Int) (m : Nat) (hm : m = ts.length) : RowI (w.alloc (.cells (ts.map (Value.int .i64)).toArray 3)) w.heap.size m := by
  intro j hj
  rw [hm] at hj
  refine ⟨ts[j], ?_⟩
  rw [cell_of_row _ w.heap.size j _ 3 (0, 0) (heap_alloc_new w _)]
  simp [hj]

set_option maxRecDepth 100000 in
set_option maxHeartbeats 1000000 in
theorem pickInt_any (w0 w : World) (B g n cap b m : Nat) (ao : Option Addr) (hn : n ≤ 1048576) (hB : B ≤ g) (hm0 : 0 < m) (hm : m ≤ 256) (hb : b < w.heap.size) (hbg : b ≠ g) (hr : Hid (RowI w b m)) (hd : Hid (Drw w0 w B g ao n cap)) :
    Calls Try.prog 34 #[.pointer (some ⟨g, 0, none⟩), .slice (some ⟨b, 0, none⟩) m m] w fun e w' => (∃ z : Int, e = .returned (.int .i64 z)) ∧ Hid (Drw w0 w' B g ao n cap) := by
  have hd0 : Hid (Drw w w B g ao n cap) := Drw.start hd.out.1 hd.out.2.1
  go_enter Try.func34, Try.ntmps34
  go_wp2_with (first | (go_at_call 32; refine (below_small w _ B g n cap m ao hn hB hm0 hm (by assumption)).mono ?_; rintro e w1 ⟨⟨x, hx, rfl⟩, hd1⟩; obtain ⟨z, hc⟩ := hr.out.stays hb hbg hd1.out.2.2 x hx))
  go_ret
  exact ⟨⟨z, rfl⟩, show Drw _ _ _ _ _ _ _ from ⟨hd1.out.1, hd1.out.2.1, hd.out.2.2.trans hd1.out.2.2⟩⟩


theorem OwnI_keep {w w' : World} {B g : Nat} {v : Value} {ss : List Int} (h : OwnI w B v ss) (hk : KeepBut g w w') (hg : g < B) : OwnI w' B v ss := by
  refine ⟨h.1, ?_⟩
  rcases h.2 with hn | ⟨k, cap, cur, rfl, hbg, hk2, rest⟩
  · exact .inl hn
  · exact .inr ⟨k, cap, cur, rfl, hbg, (hk.block k (Array.getElem?_eq_some_iff.1 hk2).1 (by omega)).trans hk2, rest⟩


set_option maxRecDepth 100000 in
set_option maxHeartbeats 2000000 in
theorem spoilt_any (w0 w : World) (B g n cap : Nat) (ao : Option Addr) (s : ByteArray) (hn : n ≤ 1048576) (hB : B ≤ g) (hs : s.size ≤ 255) (hd : Hid (Drw w0 w B g ao n cap)) :
    Calls Try.prog 60 #[.pointer (some ⟨g, 0, none⟩), .string s] w fun e w' => (∃ t : ByteArray, t.size ≤ 257 ∧ e = .returned (.string t)) ∧ Hid (Drw w0 w' B g ao n cap) := by
  go_enter Try.func60, Try.ntmps60
  go_wp2_with fail
  refine (below_small w0 _ B g n cap 12 ao hn hB (by omega) (by omega) hd).mono ?_
  rintro e w1 ⟨⟨x, hx, rfl⟩, hd1⟩
  clear hd
  by_cases h0 : x = 0
  · subst h0
    go_wp2_with fail
    refine (text_drw w0 _ B g n cap 1 ao hn hB (by omega) hd1).mono ?_
    rintro e w2 ⟨⟨t, ht, rfl⟩, hd2⟩
    clear hd1
    go_wp2_with fail
    go_ret
    exact ⟨⟨_, by rw [ByteArray.size_append]; omega, rfl⟩, hd2⟩
  by_cases h1 : x = 1
  · subst h1
    go_wp2_with fail
    refine (below_small w0 _ B g n cap (s.size + 1) ao hn hB (by omega) (by omega) hd1).mono ?_
    rintro e w2 ⟨⟨y, hy, rfl⟩, hd2⟩
    clear hd1
    have i0 : (0 : Int) ≤ (y : Int) := by omega
    have i1 : (y : Int) ≤ (s.size : Int) := by omega
    go_wp2_with fail
    go_ret
    exact ⟨⟨_, by rw [ByteArray.size_extract]; omega, rfl⟩, hd2⟩
  by_cases h2 : (x = 2 ∨ x = 3) ∧ 0 < s.size
  · obtain ⟨h2, hs0⟩ := h2
    rcases h2 with rfl | rfl
    all_goals
      go_wp2_with fail
      refine (below_small w0 _ B g n cap s.size ao hn hB (by omega) (by omega) hd1).mono ?_
      rintro e w2 ⟨⟨y, hy, rfl⟩, hd2⟩
      have hdd : Hid (Drw w0 w2.drew B g ao n cap) := ⟨hd2.out.1, hd2.out.2.1, hd2.out.2.2.trans ⟨rfl, rfl, rfl, Nat.le_refl _, fun _ _ _ => rfl⟩⟩
      clear hd1
      have i0 : (0 : Int) ≤ (y : Int) := by omega
      have i1 : (y : Int) ≤ (s.size : Int) := by omega
      have i2 : (y : Int) + 1 ≤ (s.size : Int) := by omega
      have i3 : (0 : Int) ≤ (y : Int) + 1 := by omega
      have hw1 : IntKind.i64.wrap ((y : Int) + 1) = (y : Int) + 1 := by rw [IntKind.wrap_i64]; omega
      go_wp2_with fail
      go_region_held3 (fun _ => True) (trivial) (first | (go_at_call 50; refine (text_drw w0 _ B g n cap 1 ao hn hB (by omega) hdd).mono ?_; rintro e w3 ⟨⟨t, ht, rfl⟩, hd3⟩; have z1 : ¬9223372036854775807 < min y s.size + 1 := (by omega); have z2 : ¬9223372036854775807 < min y s.size + 1 + (s.size - (y + 1)) := (by omega)))
      go_wp2_with fail
      go_ret
      exact ⟨⟨_, by rw [ByteArray.size_append, ByteArray.size_append, ByteArray.size_extract, ByteArray.size_extract]; omega, rfl⟩, hd3⟩
  by_cases h3 : x = 2 ∨ x = 3
  · have hs0 : s.size = 0 := by omega
    clear h2
    rcases h3 with rfl | rfl
    all_goals
      go_wp2_with fail
      go_ret
      exact ⟨⟨s, by omega, rfl⟩, hd1⟩
  · have n2 : ¬ x = 2 := by omega
    have n3 : ¬ x = 3 := by omega
    clear h2 h3
    go_wp2_with fail
    go_ret
    exact ⟨⟨s, by omega, rfl⟩, hd1⟩
end Go.Proofs.Ytfefjkldjaabbaa
