/- The law on PartsOf. -/
import Derived.Test.YtiebfakfgmckiaaDoorWP4
namespace Go.Proofs.YtiebfakfgmckiaaDoor
open Go.RowKit Pl
set_option linter.unusedVariables false

theorem specP_yes (s : ByteArray) (w : World) (h : PartsOk s) : Calls Tryd.prog 7 #[.string s] w fun e w' => ∃ v, e = .returned (.tuple #[v, .bool true]) ∧ OwnS w' w.heap.size v (fieldsS s) ∧ Below w.heap.size w w' := by
  refine (specP_any s w).mono ?_
  rintro e w' ⟨hb, ⟨_, v, rfl, hown⟩ | ⟨hn, _⟩⟩
  · exact ⟨v, rfl, hown, hb⟩
  · exact absurd h hn
theorem specP_no (s : ByteArray) (w : World) (h : ¬ PartsOk s) : Calls Tryd.prog 7 #[.string s] w fun e w' => ∃ v, e = .returned (.tuple #[v, .bool false]) ∧ OwnS w' w.heap.size v [] ∧ Below w.heap.size w w' := by
  refine (specP_any s w).mono ?_
  rintro e w' ⟨hb, ⟨hy, _⟩ | ⟨_, v, rfl, hown⟩⟩
  · exact absurd hy h
  · exact ⟨v, rfl, hown, hb⟩
theorem implP_yes (s : ByteArray) (w : World) (h : PartsOk s) (htab : Hid (Lib.TabIs Tryd.prog w "strings.asciiSpace" .u8 Lib.asciiSpaceTab)) : Calls Tryd.prog 8 #[.string s] w fun e w' => ∃ v, e = .returned (.tuple #[v, .bool true]) ∧ OwnS w' w.heap.size v (fieldsS s) ∧ Below w.heap.size w w' := by
  refine (implP_any s w htab).mono ?_
  rintro e w' ⟨hb, ⟨_, v, rfl, hown⟩ | ⟨hn, _⟩⟩
  · exact ⟨v, rfl, hown, hb⟩
  · exact absurd h hn
theorem implP_no (s : ByteArray) (w : World) (h : ¬ PartsOk s) (htab : Hid (Lib.TabIs Tryd.prog w "strings.asciiSpace" .u8 Lib.asciiSpaceTab)) : Calls Tryd.prog 8 #[.string s] w fun e w' => ∃ v, e = .returned (.tuple #[v, .bool false]) ∧ OwnS w' w.heap.size v [] ∧ Below w.heap.size w w' := by
  refine (implP_any s w htab).mono ?_
  rintro e w' ⟨hb, ⟨hy, _⟩ | ⟨_, v, rfl, hown⟩⟩
  · exact absurd hy h
  · exact ⟨v, rfl, hown, hb⟩

/-- the table stands in every world in which nothing old has turned. -/
def TabHid (w : World) : Prop := ∀ w', Below w.heap.size w w' → Lib.TabIs Tryd.prog w' "strings.asciiSpace" .u8 Lib.asciiSpaceTab

set_option maxRecDepth 100000 in
set_option maxHeartbeats 1000000 in
theorem lawP_run (s : ByteArray) (w : World) (hs : s.size ≤ 1048576) (ss : List ByteArray) (r : Bool) (hl : ss.length ≤ 10) (htab : Hid (TabHid w))
    (hspec : Hid (∀ w, Calls Tryd.prog 7 #[.string s] w fun e w' => ∃ v, e = .returned (.tuple #[v, .bool r]) ∧ OwnS w' w.heap.size v ss ∧ Below w.heap.size w w'))
    (himpl : Hid (∀ w, Hid (Lib.TabIs Tryd.prog w "strings.asciiSpace" .u8 Lib.asciiSpaceTab) → Calls Tryd.prog 8 #[.string s] w fun e w' => ∃ v, e = .returned (.tuple #[v, .bool r]) ∧ OwnS w' w.heap.size v ss ∧ Below w.heap.size w w')) :
    Calls Tryd.prog 4 #[.string s] w fun e w' => e = .returned (.bool true) ∧ Below w.heap.size w w' := by
  go_enter Tryd.func4, Tryd.ntmps4
  go_wp2_with fail
  refine (hspec.out _).mono ?_
  rintro e w1 ⟨v0, rfl, hown0, hb1⟩
  go_wp2_with fail
  refine (himpl.out _ (htab.out _ hb1)).mono ?_
  rintro e w2 ⟨v1, rfl, hown1, hb2⟩
  have hlt0 := fun k hk => (hown0.lt k hk).2
  have hlt1 := hown1.lt
  have hown02 := hown0.stays hb2 hlt0
  have hb02 : Below w.heap.size w w2 := hb1.trans (hb2.mono hb1.size)
  clear hown0
  go_wp2_with fail
  refine (eqS_same v1 v0 ss _ _ _ hown1 hown02 hl).mono ?_
  rintro e w3 ⟨rfl, hb3⟩
  have hown13 := hown1.stays hb3 (fun k hk => (hlt1 k hk).2)
  have hown03 := hown02.stays hb3 (fun k hk => Nat.lt_of_lt_of_le (hlt0 k hk) hb2.size)
  have hb03 : Below w.heap.size w w3 := hb02.trans (hb3.mono hb02.size)
  clear hown1 hown02
  go_wp2_with fail
  refine (markS_any v1 ss _ _ hown13 hl).mono ?_
  rintro e w4 ⟨rfl, hgr, xs, hxl, hmk, hown14⟩
  have hge1 : ∀ k, v1.ownBlock = some k → w1.heap.size ≤ k ∧ k < w4.heap.size := hown14.lt
  have hown04 : OwnS w4 w.heap.size v0 ss := World.ownsRow.kept hown03 hgr (by
    cases e0 : v0.ownBlock with
    | none => exact .inl rfl
    | some k0 =>
      refine .inr ?_
      cases e1 : v1.ownBlock with
      | none => simp
      | some k1 =>
        have h1 := hlt0 k0 e0
        have h2 := (hge1 k1 e1).1
        simp
        omega)
  have hb04 : Below w.heap.size w w4 := hb03.grown hgr hb03.size (fun k hk => Nat.le_trans hb1.size (hge1 k hk).1)
  have hsz12 : w1.heap.size ≤ w4.heap.size := Nat.le_trans (Nat.le_trans hb2.size hb3.size) hgr.size
  have hmk2 : Hid (Marked xs 1 xs.length) := by rw [hxl]; exact hmk
  have c5 := heldS_any v1 xs _ w4 hown14 (by omega) hmk2
  rw [hxl] at c5
  have HXL : Hid (xs.length = ss.length) := hxl
  clear hown13 hown03 hgr hmk hxl
  go_wp2_with fail
  refine c5.mono ?_
  clear c5
  rintro e w5 ⟨rfl, hb5⟩
  have hown05 := hown04.stays hb5 (fun k hk => Nat.lt_of_lt_of_le (hlt0 k hk) hsz12)
  have hown15 := hown14.stays hb5 (fun k hk => (hge1 k hk).2)
  have hb05 : Below w.heap.size w w5 := hb04.trans (hb5.mono hb04.size)
  clear hown04 hown14
  go_wp2_with fail
  refine (himpl.out _ (htab.out _ hb05)).mono ?_
  rintro e w6 ⟨v2, rfl, hown2, hb6⟩
  have hown06 := hown05.stays hb6 (fun k hk => Nat.lt_of_lt_of_le (hlt0 k hk) (Nat.le_trans hsz12 hb5.size))
  have hown16 := hown15.stays hb6 (fun k hk => Nat.lt_of_lt_of_le (hge1 k hk).2 hb5.size)
  have hb06 : Below w.heap.size w w6 := hb05.trans (hb6.mono hb05.size)
  clear hown05 hown15
  go_wp2_with fail
  refine (eqS_same v2 v0 ss _ _ _ hown2 hown06 hl).mono ?_
  rintro e w7 ⟨rfl, hb7⟩
  have hown17 := hown16.stays hb7 (fun k hk => Nat.lt_of_lt_of_le (hge1 k hk).2 (Nat.le_trans hb5.size hb6.size))
  have hb07 : Below w.heap.size w w7 := hb06.trans (hb7.mono hb06.size)
  clear hown2 hown06 hown16
  have c8 := heldS_any v1 xs _ w7 hown17 (by rw [HXL.out]; exact hl) hmk2
  rw [HXL.out] at c8
  go_wp2_with fail
  refine c8.mono ?_
  clear c8
  rintro e w8 ⟨rfl, hb8⟩
  go_wp2
  go_ret
  exact ⟨rfl, hb07.trans (hb8.mono hb07.size)⟩

set_option maxHeartbeats 400000 in
theorem lawP (s : ByteArray) (w : World) (hs : s.size ≤ maxLen) (htab : Hid (TabHid w)) :
    Calls Tryd.prog 4 #[.string s] w fun e w' => e = .returned (.bool true) ∧ Below w.heap.size w w' := by
  unfold maxLen at hs
  by_cases hl : 1048576 < s.size
  · go_enter Tryd.func4, Tryd.ntmps4
    go_wp2
    go_ret
    exact ⟨rfl, Below.refl _ _⟩
  · by_cases hok : PartsOk s
    · exact lawP_run s w (by omega) (fieldsS s) true hok.2.2 htab (fun w => specP_yes s w hok) (fun w ht => implP_yes s w hok ht)
    · exact lawP_run s w (by omega) [] false (by simp) htab (fun w => specP_no s w hok) (fun w ht => implP_no s w hok ht)
end Go.Proofs.YtiebfakfgmckiaaDoor
