/- The walks over the drawn daemon and name, and over the law on private names. -/
import Derived.Test.YtbdnnmcjnfbloaaDoorD2
import Derived.Test.YtbdnnmcjnfbloaaDoorX3
namespace Go.Proofs.YtbdnnmcjnfbloaaDoor
open Go.RowKit Pl
set_option linter.unusedVariables false

set_option maxRecDepth 100000 in
set_option maxHeartbeats 1000000 in
theorem big_any (w : World) (n cap : Nat) (ao : Option Addr) (b : Bool) (hb : decide (1048576 < (n : Int)) = b) :
    Calls Tryd.prog 6 #[.slice ao n cap] w fun e w' => e = .returned (.bool b) ∧ w' = w := by
  go_enter Tryd.func6, Tryd.ntmps6
  go_wp2
  go_ret
  exact ⟨by rw [← hb]; rfl, rfl⟩

/-- the block b is a row of ints. -/
def RowI (w : World) (b m : Nat) : Prop := ∀ j, j < m → ∃ z : Int, w.cell? ⟨b, j, none⟩ = some (.int .i64 z)

theorem RowI.stays {w0 w1 : World} {b g m : Nat} (h : RowI w0 b m) (hb : b < w0.heap.size) (hg : b ≠ g) (hk : KeepBut g w0 w1) : RowI w1 b m := by
  intro j hj
  obtain ⟨t, h2⟩ := h j hj
  refine ⟨t, ?_⟩
  rw [← h2]
  simp only [World.cell?]
  rw [hk.block b hb hg]

theorem rowI_new (w : World) (ts : List Int) (m : Nat) (hm : m = ts.length) : RowI (w.alloc (.cells (ts.map (Value.int .i64)).toArray 3)) w.heap.size m := by
  intro j hj
  rw [hm] at hj
  refine ⟨ts[j], ?_⟩
  rw [cell_of_row _ w.heap.size j _ 3 (0, 0) (heap_alloc_new w _)]
  simp [hj]

set_option maxRecDepth 100000 in
set_option maxHeartbeats 1000000 in
theorem pickInt_any (w0 w : World) (B g n cap b m : Nat) (ao : Option Addr) (hn : n ≤ 1048576) (hB : B ≤ g) (hm0 : 0 < m) (hm : m ≤ 256) (hb : b < w.heap.size) (hbg : b ≠ g) (hr : Hid (RowI w b m)) (hd : Hid (Drw w0 w B g ao n cap)) :
    Calls Tryd.prog 27 #[.pointer (some ⟨g, 0, none⟩), .slice (some ⟨b, 0, none⟩) m m] w fun e w' => (∃ z : Int, e = .returned (.int .i64 z)) ∧ Hid (Drw w0 w' B g ao n cap) := by
  have hd0 : Hid (Drw w w B g ao n cap) := Drw.start hd.out.1 hd.out.2.1
  go_enter Tryd.func27, Tryd.ntmps27
  go_wp2_with (first | (go_at_call 28; refine (below_small w _ B g n cap m ao hn hB hm0 hm (by assumption)).mono ?_; rintro e w1 ⟨⟨x, hx, rfl⟩, hd1⟩; obtain ⟨z, hc⟩ := hr.out.stays hb hbg hd1.out.2.2 x hx))
  go_ret
  exact ⟨⟨z, rfl⟩, show Drw _ _ _ _ _ _ _ from ⟨hd1.out.1, hd1.out.2.1, hd.out.2.2.trans hd1.out.2.2⟩⟩

set_option maxRecDepth 100000 in
set_option maxHeartbeats 1000000 in
theorem place_any (w0 w : World) (B g n cap : Nat) (ao : Option Addr) (hn : n ≤ 1048576) (hB : B ≤ g) (hd : Hid (Drw w0 w B g ao n cap)) :
    Calls Tryd.prog 15 #[.pointer (some ⟨g, 0, none⟩), .int .i64 10] w fun e w' => (∃ z : Int, e = .returned (.int .i64 z)) ∧ Hid (Drw w0 w' B g ao n cap) := by
  have hr : ∀ (w : World) (a b c d e : Int), Hid (RowI (w.alloc (.cells #[.int .i64 a, .int .i64 b, .int .i64 c, .int .i64 d, .int .i64 e] 3)) w.heap.size 5) := fun w a b c d e =>
    rowI_new w [a, b, c, d, e] 5 rfl
  go_enter Tryd.func15, Tryd.ntmps15
  go_wp2_with (first | (go_at_call 26; refine (once_any w0 _ B g n cap 15 ao hn hB (by omega) (by omega) (by assumption)).mono ?_; rintro e w1 ⟨⟨b, rfl⟩, hd1⟩; have hlt1 := hd1.out.lt; clear hd; cases b) | (go_at_call 28; refine (below_small w0 _ B g n cap 10 ao hn hB (by omega) (by omega) (by assumption)).mono ?_; rintro e w2 ⟨⟨x, hx, rfl⟩, hd2⟩) | (go_at_call 27; refine (pickInt_any w0 _ B g n cap w1.heap.size 5 ao hn hB (by omega) (by omega) (by simp) (by omega) (hr w1 _ _ _ _ _) (show Hid _ from hd1.out.alloc hB _)).mono ?_; rintro e w3 ⟨⟨z, rfl⟩, hd3⟩))
  · go_ret
    exact ⟨⟨_, rfl⟩, hd2⟩
  · go_ret
    exact ⟨⟨_, rfl⟩, hd3⟩

set_option maxRecDepth 100000 in
set_option maxHeartbeats 1000000 in
theorem drawPriv (w : World) (n cap : Nat) (ao : Option Addr) (hn : n ≤ 1048576) (hk : Hid (CodeAt w w.heap.size ao n)) :
    Calls Tryd.prog 7 #[.slice ao n cap] w fun e w' => (∃ (d : Int) (t : ByteArray), t.size ≤ 13 ∧ e = .returned (.tuple #[.int .i64 d, .string t])) ∧ Below w.heap.size w w' := by
  go_enter Tryd.func7, Tryd.ntmps7
  go_wp2_with (first | (go_at_call 14; refine (new_any _ n cap ao hn hk).mono ?_; rintro e w1 ⟨rfl, hc1, hb1, hs1⟩; have hd1 := Drw.start hc1.out (hk.out.stays hb1 (Nat.le_refl _)); clear hs1) | (go_at_call 15; refine (place_any w1 _ w.heap.size w.heap.size n cap ao hn (Nat.le_refl _) hd1).mono ?_; rintro e w2 ⟨⟨d, rfl⟩, hd2⟩) | (go_at_call 16; refine (any_any w1 _ w.heap.size w.heap.size n cap ao hn (Nat.le_refl _) hd2).mono ?_; rintro e w3 ⟨⟨t, ht, rfl⟩, hd3⟩))
  go_ret2
  exact ⟨⟨d, t, ht, rfl⟩, hb1.trans (hd3.out.2.2.below (Nat.le_refl _) hb1.size)⟩

/-- A name is no private name. -/
theorem name_not_priv {s : ByteArray} (h : NmOk s) : ∀ d t, ¬ IsPriv s d t := by
  rintro d t ⟨_, h2, _, rfl⟩
  obtain ⟨k0, _, _, e0, _⟩ := priv_bytes (t := t) h2
  have := h.2.2 0 k0 k0
  unfold NmAt at this
  omega

theorem none_not_priv : ∀ d t, ¬ IsPriv ⟨#[]⟩ d t := by
  rintro d t ⟨_, h2, _, h⟩
  have := priv_size d t
  rw [← h] at this
  have h0 : (⟨#[]⟩ : ByteArray).size = 0 := rfl
  omega

theorem priv_cases (d : Int) (s : ByteArray) : (∃ D : Nat, d = D ∧ Hid (IsPriv (privB D s) D s) ∧ nmB s = true ∧ Hid (∀ d t, ¬ IsPriv s d t) ∧ 1 ≤ D ∧ D ≤ 9) ∨ (privB d s = ⟨#[]⟩ ∧ (nmB s = false ∨ (nmB s = true ∧ d < 1) ∨ (nmB s = true ∧ 1 ≤ d ∧ 9 < d))) := by
  by_cases h : 1 ≤ d ∧ d ≤ 9 ∧ nmB s = true
  · obtain ⟨h1, h2, h3⟩ := h
    refine .inl ⟨d.toNat, by omega, ?_, h3, name_not_priv (nmB_iff.1 h3), by omega, by omega⟩
    show IsPriv _ _ _
    refine ⟨by omega, by omega, nmB_iff.1 h3, ?_⟩
    rw [privB, if_pos ⟨by omega, by omega, h3⟩, Int.toNat_natCast]
  · refine .inr ⟨by rw [privB, if_neg h], ?_⟩
    cases hn : nmB s with
    | false => exact .inl rfl
    | true =>
      right
      simp [hn] at h
      by_cases hd : d < 1
      · exact .inl ⟨rfl, hd⟩
      · exact .inr ⟨rfl, by omega, by omega⟩

set_option maxRecDepth 100000 in
set_option maxHeartbeats 2000000 in
theorem lawPrivates (W : World) (n cap : Nat) (ao : Option Addr) (hk : Hid (CodeAt W W.heap.size ao n)) :
    Calls Tryd.prog 3 #[.slice ao n cap] W fun e w' => e = .returned (.bool true) ∧ Below W.heap.size W w' := by
  by_cases hn : n ≤ 1048576
  · have hbig : decide (1048576 < (n : Int)) = false := by simp; omega
    go_enter Tryd.func3, Tryd.ntmps3
    go_wp2_with (first | (go_at_call 6; refine (big_any _ n cap ao false hbig).mono ?_; rintro e w1 ⟨rfl, rfl⟩) | (go_at_call 7; refine (drawPriv _ n cap ao hn hk).mono ?_; rintro e w2 ⟨⟨d, s, hs, rfl⟩, hb2⟩))
    rcases priv_cases d s with ⟨D, rfl, hp, hnm, hnot, h1, h2⟩ | ⟨he, hcase⟩
    · have X8 := fun w => implPriv D s w
      obtain ⟨P, hP⟩ : ∃ P, P = privB D s := ⟨_, rfl⟩
      rw [← hP] at hp X8
      clear hP
      have X9 := fun w => implSplit_yes P D s w hp.out
      have Y9 := fun w => implSplit_no s w (by omega) hnot
      have X10 := fun w => implName_any s w
      have X11 := fun w => specName_any s w
      rw [hnm] at X10 X11
      clear hp hnot hnm
      have tok1 : True := trivial
      go_wp2_with (first | (go_at_call 8; refine (X8 _).mono ?_; rintro e w3 ⟨rfl, hb3⟩; have hs3 := Nat.le_trans hb2.size hb3.size) | (go_at_call 9; have _t := tok1; refine (X9 _).mono ?_; rintro e w4 ⟨rfl, hb4⟩; have hs4 := Nat.le_trans hs3 hb4.size; clear tok1 _t) | (go_at_call 10; have _t := hs4; refine (X10 _).mono ?_; rintro e w5 ⟨rfl, hb5⟩; have hs5 := Nat.le_trans hs4 hb5.size; have hb45 := hb4.trans (hb5.mono hb4.size); clear hs4 _t) | (go_at_call 10; refine (X10 _).mono ?_; rintro e w6 ⟨rfl, hb6⟩; have hs6 := Nat.le_trans hs5 hb6.size) | (go_at_call 11; refine (X11 _).mono ?_; rintro e w7 ⟨rfl, hb7⟩; have hs7 := Nat.le_trans hs6 hb7.size) | (go_at_call 9; refine (Y9 _).mono ?_; rintro e w8 ⟨rfl, hb8⟩))
      go_ret
      refine ⟨rfl, ?_⟩
      exact ((((((hb2.trans (hb3.mono hb2.size)).trans (hb4.mono hs3)).trans (hb5.mono (Nat.le_trans hs3 hb4.size))).trans (hb6.mono hs5)).trans (hb7.mono hs6)).trans (hb8.mono hs7))
    · have X8 := fun w => implPriv d s w
      rw [he] at X8
      have X9 := fun w => implSplit_no ⟨#[]⟩ w (by decide) none_not_priv
      have X10 := fun w => implName_any s w
      have X11 := fun w => specName_any s w
      rcases hcase with hnm | ⟨hnm, hd⟩ | ⟨hnm, hd, hd9⟩
      all_goals
        rw [hnm] at X10 X11
        clear hnm he
        go_wp2_with (first | (go_at_call 8; refine (X8 _).mono ?_; rintro e w3 ⟨rfl, hb3⟩; have hs3 := Nat.le_trans hb2.size hb3.size) | (go_at_call 9; refine (X9 _).mono ?_; rintro e w4 ⟨rfl, hb4⟩; have hs4 := Nat.le_trans hs3 hb4.size; have hs4' := hs4) | (go_at_call 10; have _t := hs4'; refine (X10 _).mono ?_; rintro e w5 ⟨rfl, hb5⟩; have hs5 := Nat.le_trans hs4 hb5.size; clear hs4' _t) | (go_at_call 10; refine (X10 _).mono ?_; rintro e w6 ⟨rfl, hb6⟩; have hs6 := Nat.le_trans hs5 hb6.size) | (go_at_call 11; refine (X11 _).mono ?_; rintro e w7 ⟨rfl, hb7⟩; have hs7 := Nat.le_trans hs6 hb7.size))
        go_ret
        exact ⟨rfl, ((((hb2.trans (hb3.mono hb2.size)).trans (hb4.mono hs3)).trans (hb5.mono hs4)).trans (hb6.mono hs5)).trans (hb7.mono hs6)⟩
  · have hbig : decide (1048576 < (n : Int)) = true := by simp; omega
    go_enter Tryd.func3, Tryd.ntmps3
    go_wp2_with (first | (go_at_call 6; refine (big_any _ n cap ao true hbig).mono ?_; rintro e w1 ⟨rfl, rfl⟩))
    go_ret
    exact ⟨rfl, Below.refl _ _⟩
end Go.Proofs.YtbdnnmcjnfbloaaDoor
