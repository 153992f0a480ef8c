/- The walks over a drawn text and drawn places. -/
import Derived.Test.YtjjaklhpdckppaaBg
import Derived.Test.YtjjaklhpdckppaaDO
import Derived.Test.YtjjaklhpdckppaaC5
import Derived.Laws.BytesArg
import Derived.Laws.MakeOwn
import Derived.Laws.OwnMore
namespace Go.Proofs.Ytjjaklhpdckppaa
open Go.RowKit Pl
set_option linter.unusedVariables false

/-- the block b is a row of ints. -/
def RowI (w : World) (b m : Nat) : Prop := ∀ j, j < m → ∃ z : Int, w.cell? ⟨b, j, none⟩ = some (.int .i64 z)

theorem RowI.stays {w0 w1 : World} {b g m : Nat} (h : RowI w0 b m) (hb : b < w0.heap.size) (hg : b ≠ g) (hk : KeepBut g w0 w1) : RowI w1 b m := by
  intro j hj
  obtain ⟨t, h2⟩ := h j hj
  refine ⟨t, ?_⟩
  rw [← h2]
  simp only [World.cell?]
  rw [hk.block b hb hg]

theorem rowI_new (w : World) (ts : List Int) (m : Nat) (hm : m = ts.length) : RowI (w.alloc (.cells (ts.map (Value.int .i64)).toArray 3)) w.heap.size m := by
  intro j hj
  rw [hm] at hj
  refine ⟨ts[j], ?_⟩
  rw [cell_of_row _ w.heap.size j _ 3 (0, 0) (heap_alloc_new w _)]
  simp [hj]

set_option maxRecDepth 100000 in
set_option maxHeartbeats 1000000 in
theorem pickInt_any (w0 w : World) (B g n cap b m : Nat) (ao : Option Addr) (hn : n ≤ 1048576) (hB : B ≤ g) (hm0 : 0 < m) (hm : m ≤ 256) (hb : b < w.heap.size) (hbg : b ≠ g) (hr : Hid (RowI w b m)) (hd : Hid (Drw w0 w B g ao n cap)) :
    Calls Try.prog 25 #[.pointer (some ⟨g, 0, none⟩), .slice (some ⟨b, 0, none⟩) m m] w fun e w' => (∃ z : Int, e = .returned (.int .i64 z)) ∧ Hid (Drw w0 w' B g ao n cap) := by
  have hd0 : Hid (Drw w w B g ao n cap) := Drw.start hd.out.1 hd.out.2.1
  go_enter Try.func25, Try.ntmps25
  go_wp2_with (first | (go_at_call 18; refine (below_small w _ B g n cap m ao hn hB hm0 hm (by assumption)).mono ?_; rintro e w1 ⟨⟨x, hx, rfl⟩, hd1⟩; obtain ⟨z, hc⟩ := hr.out.stays hb hbg hd1.out.2.2 x hx))
  go_ret
  exact ⟨⟨z, rfl⟩, show Drw _ _ _ _ _ _ _ from ⟨hd1.out.1, hd1.out.2.1, hd.out.2.2.trans hd1.out.2.2⟩⟩


set_option maxRecDepth 100000 in
set_option maxHeartbeats 1000000 in
theorem place_any (w0 w : World) (B g n cap : Nat) (ao : Option Addr) (hn : n ≤ 1048576) (hB : B ≤ g) (hd : Hid (Drw w0 w B g ao n cap)) :
    Calls Try.prog 19 #[.pointer (some ⟨g, 0, none⟩), .int .i64 14] w fun e w' => (∃ z : Int, e = .returned (.int .i64 z)) ∧ Hid (Drw w0 w' B g ao n cap) := by
  have hr : ∀ (w : World) (a b c d e : Int), Hid (RowI (w.alloc (.cells #[.int .i64 a, .int .i64 b, .int .i64 c, .int .i64 d, .int .i64 e] 3)) w.heap.size 5) := fun w a b c d e =>
    rowI_new w [a, b, c, d, e] 5 rfl
  go_enter Try.func19, Try.ntmps19
  go_wp2_with (first | (go_at_call 24; refine (once_any w0 _ B g n cap 15 ao hn hB (by omega) (by omega) (by assumption)).mono ?_; rintro e w1 ⟨⟨b, rfl⟩, hd1⟩; have hlt1 := hd1.out.lt; clear hd; cases b) | (go_at_call 18; refine (below_small w0 _ B g n cap 14 ao hn hB (by omega) (by omega) (by assumption)).mono ?_; rintro e w2 ⟨⟨x, hx, rfl⟩, hd2⟩) | (go_at_call 25; refine (pickInt_any w0 _ B g n cap w1.heap.size 5 ao hn hB (by omega) (by omega) (by simp) (by omega) (hr w1 _ _ _ _ _) (show Hid _ from hd1.out.alloc hB _)).mono ?_; rintro e w3 ⟨⟨z, rfl⟩, hd3⟩))
  · go_ret
    exact ⟨⟨_, rfl⟩, hd2⟩
  · go_ret
    exact ⟨⟨_, rfl⟩, hd3⟩


theorem OwnI_keep {w w' : World} {B g : Nat} {v : Value} {ss : List Int} (h : OwnI w B v ss) (hk : KeepBut g w w') (hg : g < B) : OwnI w' B v ss := by
  refine ⟨h.1, ?_⟩
  rcases h.2 with hn | ⟨k, cap, cur, rfl, hbg, hk2, rest⟩
  · exact .inl hn
  · exact .inr ⟨k, cap, cur, rfl, hbg, (hk.block k (Array.getElem?_eq_some_iff.1 hk2).1 (by omega)).trans hk2, rest⟩

set_option maxRecDepth 100000 in
set_option maxHeartbeats 2000000 in
theorem drawCut (w : World) (n cap : Nat) (ao : Option Addr) (hn : n ≤ 1048576) (hk : Hid (CodeAt w w.heap.size ao n)) :
    Calls Try.prog 6 #[.slice ao n cap] w fun e w' => (∃ (t : ByteArray) (v : Value) (ts : List Int), e = .returned (.tuple #[.string t, v]) ∧ t.size < 12 ∧ ts.length ≤ 4 ∧ Hid (OwnI w' (w.heap.size + 1) v ts)) ∧ Below w.heap.size w w' := by
  go_enter Try.func6, Try.ntmps6
  go_wp2_with (first | (go_at_call 16; refine (new_any _ n cap ao hn hk).mono ?_; rintro e w1 ⟨rfl, hc1, hb1, hs1⟩; have hlt1 : w.heap.size + 1 ≤ w1.heap.size := (by omega); have hd1 := Drw.start hc1.out (hk.out.stays hb1 (Nat.le_refl _)); clear hs1) | (go_at_call 18; refine (below_small w1 _ w.heap.size w.heap.size n cap 12 ao hn (Nat.le_refl _) (by omega) (by omega) hd1).mono ?_; rintro e w2 ⟨⟨x, hx, rfl⟩, hd2⟩; have hlt2 : w.heap.size < w2.heap.size := Nat.lt_of_lt_of_le hlt1 hd2.out.2.2.size) | (go_at_call 17; refine (text_any _ w.heap.size w.heap.size n cap x ao hn (Nat.le_refl _) hlt2 (by omega) (show Hid _ from hd2.out.1) (show Hid _ from hd2.out.2.1)).mono ?_; rintro e w3 ⟨⟨t, ht, rfl⟩, hc3, hb3⟩; have hlt3 : w.heap.size + 1 ≤ w3.heap.size := Nat.lt_of_lt_of_le hlt2 hb3.size))
  have hk3 : Hid (CodeAt w3 w.heap.size ao n) := hd2.out.2.1.stays hb3 (Nat.le_refl _)
  have hB3 : Hid (Below w.heap.size w w3) := (hb1.trans (hd2.out.2.2.below (Nat.le_refl _) hb1.size)).trans hb3
  clear hb1 hd1 hd2 hb3 hc1
  go_loopw [6, 7] (fun v i wr => ∃ (k : Nat) (ts : List Int), i = .int .i64 k ∧ k ≤ 3 ∧ ts.length = k ∧ Hid (OwnI wr (w.heap.size + 1) v ts) ∧ Hid (CurAt wr 44 w.heap.size ao n cap) ∧ Hid (CodeAt wr w.heap.size ao n) ∧ Hid (Below w.heap.size w wr) ∧ w.heap.size + 1 ≤ wr.heap.size) (fun _ i _ => 4 - (intOf i).toNat)
  case atStart =>
    have hb4 : Below w3.heap.size w3 (w3.alloc (.cells #[] 3)) := (Below.refl _ _).alloc (Nat.le_refl _) _
    refine ⟨0, [], rfl, by omega, rfl, OwnI.made w3 _ hlt3, CurAt.stays hc3.out hb4 (by omega), hk3.out.stays hb4 (by omega), hB3.out.trans (hb4.mono (by omega)), ?_⟩
    have := hb4.size
    omega
  case round =>
    obtain ⟨k, ts, rfl, hkN, hxl, hown, hcr, hkr, hbr, hsz⟩ := hrel
    have hd := Drw.start hcr.out hkr.out
    go_wp2_with (first | (go_at_call 18; refine (below_small wr _ w.heap.size w.heap.size n cap 4 ao hn (Nat.le_refl _) (by omega) (by omega) (by assumption)).mono ?_; rintro e w4 ⟨⟨y, hy, rfl⟩, hd4⟩; clear hd) | (go_at_call 19; refine (place_any wr _ w.heap.size w.heap.size n cap ao hn (Nat.le_refl _) (by assumption)).mono ?_; rintro e w5 ⟨⟨z, rfl⟩, hd5⟩; have hs5 : w.heap.size + 1 ≤ w5.heap.size := Nat.le_trans hsz hd5.out.2.2.size; have hown5 := OwnI_keep hown.out hd5.out.2.2 (Nat.lt_succ_self _)) | (at_builtin; refine wpList_pushI rfl _ _ 24 rfl Try.underlying24 Try.info3' (w.heap.size + 1) _ ts rfl hown5 _ rfl (by omega) (by omega) ?_; intro v6 w6 hown6 hb6))
    · go_roundw
      case rel =>
        have hb5 : Below w.heap.size wr w5 := hd5.out.2.2.below (Nat.le_refl _) (by omega)
        have hs6 := hb6.size
        exact ⟨k + 1, _, by go_num, by omega, by simp [hxl], hown6, CurAt.stays hd5.out.1 hb6 (Nat.lt_succ_self _), hd5.out.2.1.stays hb6 (by omega), (show Below w.heap.size w w6 from (hbr.out.trans hb5).trans (hb6.mono (by omega))), by omega⟩
      case measure => simp [intOf]; omega
    · go_ret2
      exact ⟨⟨t, _, ts, rfl, by omega, by omega, OwnI_keep hown.out hd4.out.2.2 (Nat.lt_succ_self _)⟩, hbr.out.trans (hd4.out.2.2.below (Nat.le_refl _) (by omega))⟩
end Go.Proofs.Ytjjaklhpdckppaa
