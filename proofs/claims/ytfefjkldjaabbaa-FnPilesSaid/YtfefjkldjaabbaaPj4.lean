/- Joined texts: Sv Sc D1 Bg DO DX. -/
import Derived.Test.YtfefjkldjaabbaaPj3
import Derived.Deep.RegionHeld3
import Derived.Deep.QuietTactic
import Derived.BigQuiet
import Derived.Test.YtfefjkldjaabbaaPj1
import Derived.Test.YtfefjkldjaabbaaChecked
import Derived.WalkKit
import Derived.WalkSpells
import Derived.WalkLawsBesides
import Derived.Laws.BytesArg
import Derived.Laws.MakeOwn
import Derived.Laws.OwnMore
/- The walks over ReadVar of the specification. -/
namespace Go.Proofs.Ytfefjkldjaabbaa
open Go.RowKit Pl
set_option linter.unusedVariables false

set_option maxHeartbeats 400000 in
theorem l01In_yes (x a b : Int) (w : World) (h1 : a ≤ x) (h2 : x ≤ b) :
    Calls Try.prog 41 #[.int .i64 x, .int .i64 a, .int .i64 b] w fun e w' => e = .returned (.bool true) ∧ w' = w := in_is w (by simp; omega)

theorem below_drewN {B : Nat} {a w : World} (h : Below B a w) (n : Nat) : Below B a (w.drewN n) := h.trans ⟨rfl, rfl, rfl, Nat.le_refl _, fun _ _ => rfl⟩

set_option maxRecDepth 100000 in
set_option maxHeartbeats 4000000 in
theorem specRv_in (s : ByteArray) (A : Nat) (w : World) (hs : s.size ≤ 1048576) (hA : A ≤ s.size) :
    Calls Try.prog 62 #[.string s, .int .i64 A] w fun e w' => e = .returned (rvT (rv s A)) ∧ Below w.heap.size w w' := by
  go_enter Try.func62, Try.ntmps62
  go_wp2_with (first | (go_at_call 41; refine (l01In_yes _ _ _ _ (by omega) (by omega)).mono ?_; rintro e w' ⟨rfl, rfl⟩))
  go_loop [7, 8, 9] (fun n sc i => ∃ k m S : Nat, A + k ≤ s.size ∧ n = .int .i64 m ∧ m < S ∧ sc = .int .i64 S ∧ i = .int .i64 ((A + k : Nat) : Int) ∧ PowS k S ∧ Hid (RvSt s A k m S) ∧ Hid (Dig s A k m S)) (fun _ _ i => s.size - (intOf i).toNat)
  case atStart => exact ⟨0, 0, 1, by omega, rfl, by decide, rfl, rfl, .inl ⟨rfl, rfl⟩, rvSt_start s A, dig_start s A⟩
  case round =>
    obtain ⟨k, m, S, hk2, rfl, hm, rfl, rfl, hp, hst, hdg⟩ := hrel
    by_cases hlt : A + k < s.size ∧ k < 5
    · obtain ⟨hlt, hk5⟩ := hlt
      have hb : (s[A + k]'hlt).toNat < 256 := UInt8.toNat_lt _
      rcases hp with ⟨rfl, rfl⟩ | ⟨rfl, rfl⟩ | ⟨rfl, rfl⟩ | ⟨rfl, rfl⟩ | ⟨rfl, rfl⟩ | ⟨rfl, rfl⟩
      · -- digit 0
        simp only [Nat.add_zero] at hb
        by_cases hc : 127 < (s[A]'(show A < s.size by omega)).toNat
        · go_wp2
          go_round
          case rel => exact digNext hst.out hdg.out (by omega) hlt (by first | omega | (simp only [Nat.add_zero]; omega)) hm (by simp [PowS]) (by first | go_num | (simp only [Nat.add_zero]; go_num)) (by go_num) (by go_num)
          case measure => simp [intOf]; omega
        · generalize hcc : (s[A]'(show A < s.size by omega)).toNat = c at *
          have hcd : (s[A + 0]'hlt).toNat = c := hcc
          by_cases hg : 1000000000 < m + c % 128
          · exfalso; omega
          · have hd : decide (1000000000 < (m : Int) + (c : Int) % 128) = false := by simp; omega
            have hw1 : IntKind.i64.wrap ((A : Int) + 1) = (A : Int) + 1 := by rw [IntKind.wrap_i64]; omega
            have hi1 : (A : Int) + 1 ≤ (s.size : Int) := by omega
            have hi2 : (A : Int) ≤ (A : Int) + 1 := by omega
            have hi3 : (0 : Int) ≤ (A : Int) := by omega
            go_wp2
            go_region_held3 (fun _ => True) (trivial) (first | (go_at_call 42; refine (l01Var_at _ _ (by omega) (by omega)).mono ?_; rintro e w1 ⟨rfl, hb1⟩))
            go_wp2
            · have ht : (!(varS ((m : Int) + (c : Int) % 128).toNat).toList == (s.extract A ((A : Int) + 1).toNat).toList) = true := by assumption
              have ht2 := (cmp_test hdg.out hlt hcd (by omega) (by omega) (by omega)).1 ht
              go_ret3
              exact ⟨rvT_bad (rvSt_bad hst.out (by omega) hlt (by rw [hcd]; omega) (.inl (by rw [hcd]; exact ht2))), (Below.refl _ _).drew.trans hb1⟩
            · have ht : (!(varS ((m : Int) + (c : Int) % 128).toNat).toList == (s.extract A ((A : Int) + 1).toNat).toList) = false := by assumption
              have ht2 : ¬ (c = 0 ∧ 0 < 0) := cmp_test_no hdg.out hlt hcd (by omega) (by omega) (by omega) ht
              go_ret3
              exact ⟨rvT_good (rvSt_good hst.out (by omega) hlt (by rw [hcd]; omega) (by rw [hcd]; exact ht2) (by rw [hcd]; omega)) (by rw [hcd]; omega) (by omega), (Below.refl _ _).drew.trans hb1⟩
      · -- digit 1
        by_cases hc : 127 < (s[A + 1]'hlt).toNat
        · go_wp2
          go_round
          case rel => exact digNext hst.out hdg.out (by omega) hlt (by first | omega | (simp only [Nat.add_zero]; omega)) hm (by simp [PowS]) (by first | go_num | (simp only [Nat.add_zero]; go_num)) (by go_num) (by go_num)
          case measure => simp [intOf]; omega
        · generalize hcc : (s[A + 1]'hlt).toNat = c at *
          have hcd : (s[A + 1]'hlt).toNat = c := hcc
          by_cases hg : 1000000000 < m + c % 128 * 128
          · exfalso; omega
          · have hd : decide (1000000000 < (m : Int) + (c : Int) % 128 * 128) = false := by simp; omega
            have hw1 : IntKind.i64.wrap ((A : Int) + 1 + 1) = (A : Int) + 1 + 1 := by rw [IntKind.wrap_i64]; omega
            have hi1 : (A : Int) + 1 + 1 ≤ (s.size : Int) := by omega
            have hi2 : (A : Int) ≤ (A : Int) + 1 + 1 := by omega
            have hi3 : (0 : Int) ≤ (A : Int) := by omega
            go_wp2
            go_region_held3 (fun _ => True) (trivial) (first | (go_at_call 42; refine (l01Var_at _ _ (by omega) (by omega)).mono ?_; rintro e w1 ⟨rfl, hb1⟩))
            go_wp2
            · have ht : (!(varS ((m : Int) + (c : Int) % 128 * 128).toNat).toList == (s.extract A ((A : Int) + 1 + 1).toNat).toList) = true := by assumption
              have ht2 := (cmp_test hdg.out hlt hcd (by omega) (by omega) (by omega)).1 ht
              go_ret3
              exact ⟨rvT_bad (rvSt_bad hst.out (by omega) hlt (by rw [hcd]; omega) (.inl (by rw [hcd]; exact ht2))), (Below.refl _ _).drew.trans hb1⟩
            · have ht : (!(varS ((m : Int) + (c : Int) % 128 * 128).toNat).toList == (s.extract A ((A : Int) + 1 + 1).toNat).toList) = false := by assumption
              have ht2 : ¬ (c = 0 ∧ 0 < 1) := cmp_test_no hdg.out hlt hcd (by omega) (by omega) (by omega) ht
              go_ret3
              exact ⟨rvT_good (rvSt_good hst.out (by omega) hlt (by rw [hcd]; omega) (by rw [hcd]; exact ht2) (by rw [hcd]; omega)) (by rw [hcd]; omega) (by omega), (Below.refl _ _).drew.trans hb1⟩
      · -- digit 2
        by_cases hc : 127 < (s[A + 2]'hlt).toNat
        · go_wp2
          go_round
          case rel => exact digNext hst.out hdg.out (by omega) hlt (by first | omega | (simp only [Nat.add_zero]; omega)) hm (by simp [PowS]) (by first | go_num | (simp only [Nat.add_zero]; go_num)) (by go_num) (by go_num)
          case measure => simp [intOf]; omega
        · generalize hcc : (s[A + 2]'hlt).toNat = c at *
          have hcd : (s[A + 2]'hlt).toNat = c := hcc
          by_cases hg : 1000000000 < m + c % 128 * 16384
          · exfalso; omega
          · have hd : decide (1000000000 < (m : Int) + (c : Int) % 128 * 16384) = false := by simp; omega
            have hw1 : IntKind.i64.wrap ((A : Int) + 2 + 1) = (A : Int) + 2 + 1 := by rw [IntKind.wrap_i64]; omega
            have hi1 : (A : Int) + 2 + 1 ≤ (s.size : Int) := by omega
            have hi2 : (A : Int) ≤ (A : Int) + 2 + 1 := by omega
            have hi3 : (0 : Int) ≤ (A : Int) := by omega
            go_wp2
            go_region_held3 (fun _ => True) (trivial) (first | (go_at_call 42; refine (l01Var_at _ _ (by omega) (by omega)).mono ?_; rintro e w1 ⟨rfl, hb1⟩))
            go_wp2
            · have ht : (!(varS ((m : Int) + (c : Int) % 128 * 16384).toNat).toList == (s.extract A ((A : Int) + 2 + 1).toNat).toList) = true := by assumption
              have ht2 := (cmp_test hdg.out hlt hcd (by omega) (by omega) (by omega)).1 ht
              go_ret3
              exact ⟨rvT_bad (rvSt_bad hst.out (by omega) hlt (by rw [hcd]; omega) (.inl (by rw [hcd]; exact ht2))), (Below.refl _ _).drew.trans hb1⟩
            · have ht : (!(varS ((m : Int) + (c : Int) % 128 * 16384).toNat).toList == (s.extract A ((A : Int) + 2 + 1).toNat).toList) = false := by assumption
              have ht2 : ¬ (c = 0 ∧ 0 < 2) := cmp_test_no hdg.out hlt hcd (by omega) (by omega) (by omega) ht
              go_ret3
              exact ⟨rvT_good (rvSt_good hst.out (by omega) hlt (by rw [hcd]; omega) (by rw [hcd]; exact ht2) (by rw [hcd]; omega)) (by rw [hcd]; omega) (by omega), (Below.refl _ _).drew.trans hb1⟩
      · -- digit 3
        by_cases hc : 127 < (s[A + 3]'hlt).toNat
        · go_wp2
          go_round
          case rel => exact digNext hst.out hdg.out (by omega) hlt (by first | omega | (simp only [Nat.add_zero]; omega)) hm (by simp [PowS]) (by first | go_num | (simp only [Nat.add_zero]; go_num)) (by go_num) (by go_num)
          case measure => simp [intOf]; omega
        · generalize hcc : (s[A + 3]'hlt).toNat = c at *
          have hcd : (s[A + 3]'hlt).toNat = c := hcc
          by_cases hg : 1000000000 < m + c % 128 * 2097152
          · exfalso; omega
          · have hd : decide (1000000000 < (m : Int) + (c : Int) % 128 * 2097152) = false := by simp; omega
            have hw1 : IntKind.i64.wrap ((A : Int) + 3 + 1) = (A : Int) + 3 + 1 := by rw [IntKind.wrap_i64]; omega
            have hi1 : (A : Int) + 3 + 1 ≤ (s.size : Int) := by omega
            have hi2 : (A : Int) ≤ (A : Int) + 3 + 1 := by omega
            have hi3 : (0 : Int) ≤ (A : Int) := by omega
            go_wp2
            go_region_held3 (fun _ => True) (trivial) (first | (go_at_call 42; refine (l01Var_at _ _ (by omega) (by omega)).mono ?_; rintro e w1 ⟨rfl, hb1⟩))
            go_wp2
            · have ht : (!(varS ((m : Int) + (c : Int) % 128 * 2097152).toNat).toList == (s.extract A ((A : Int) + 3 + 1).toNat).toList) = true := by assumption
              have ht2 := (cmp_test hdg.out hlt hcd (by omega) (by omega) (by omega)).1 ht
              go_ret3
              exact ⟨rvT_bad (rvSt_bad hst.out (by omega) hlt (by rw [hcd]; omega) (.inl (by rw [hcd]; exact ht2))), (Below.refl _ _).drew.trans hb1⟩
            · have ht : (!(varS ((m : Int) + (c : Int) % 128 * 2097152).toNat).toList == (s.extract A ((A : Int) + 3 + 1).toNat).toList) = false := by assumption
              have ht2 : ¬ (c = 0 ∧ 0 < 3) := cmp_test_no hdg.out hlt hcd (by omega) (by omega) (by omega) ht
              go_ret3
              exact ⟨rvT_good (rvSt_good hst.out (by omega) hlt (by rw [hcd]; omega) (by rw [hcd]; exact ht2) (by rw [hcd]; omega)) (by rw [hcd]; omega) (by omega), (Below.refl _ _).drew.trans hb1⟩
      · -- digit 4
        by_cases hc : 127 < (s[A + 4]'hlt).toNat
        · go_wp2
          go_round
          case rel => exact digNext hst.out hdg.out (by omega) hlt (by first | omega | (simp only [Nat.add_zero]; omega)) hm (by simp [PowS]) (by first | go_num | (simp only [Nat.add_zero]; go_num)) (by go_num) (by go_num)
          case measure => simp [intOf]; omega
        · generalize hcc : (s[A + 4]'hlt).toNat = c at *
          have hcd : (s[A + 4]'hlt).toNat = c := hcc
          by_cases hg : 1000000000 < m + c % 128 * 268435456
          · have hd : decide (1000000000 < (m : Int) + (c : Int) % 128 * 268435456) = true := by simp; omega
            go_wp2
            go_quiet (fail)
            go_wp2
            go_ret3
            exact ⟨rvT_bad (rvSt_bad hst.out (by omega) hlt (by rw [hcd]; omega) (by rw [hcd]; omega)), below_drewN (Below.refl _ _) _⟩
          · have hd : decide (1000000000 < (m : Int) + (c : Int) % 128 * 268435456) = false := by simp; omega
            have hw1 : IntKind.i64.wrap ((A : Int) + 4 + 1) = (A : Int) + 4 + 1 := by rw [IntKind.wrap_i64]; omega
            have hi1 : (A : Int) + 4 + 1 ≤ (s.size : Int) := by omega
            have hi2 : (A : Int) ≤ (A : Int) + 4 + 1 := by omega
            have hi3 : (0 : Int) ≤ (A : Int) := by omega
            go_wp2
            go_region_held3 (fun _ => True) (trivial) (first | (go_at_call 42; refine (l01Var_at _ _ (by omega) (by omega)).mono ?_; rintro e w1 ⟨rfl, hb1⟩))
            go_wp2
            · have ht : (!(varS ((m : Int) + (c : Int) % 128 * 268435456).toNat).toList == (s.extract A ((A : Int) + 4 + 1).toNat).toList) = true := by assumption
              have ht2 := (cmp_test hdg.out hlt hcd (by omega) (by omega) (by omega)).1 ht
              go_ret3
              exact ⟨rvT_bad (rvSt_bad hst.out (by omega) hlt (by rw [hcd]; omega) (.inl (by rw [hcd]; exact ht2))), (Below.refl _ _).drew.trans hb1⟩
            · have ht : (!(varS ((m : Int) + (c : Int) % 128 * 268435456).toNat).toList == (s.extract A ((A : Int) + 4 + 1).toNat).toList) = false := by assumption
              have ht2 : ¬ (c = 0 ∧ 0 < 4) := cmp_test_no hdg.out hlt hcd (by omega) (by omega) (by omega) ht
              go_ret3
              exact ⟨rvT_good (rvSt_good hst.out (by omega) hlt (by rw [hcd]; omega) (by rw [hcd]; exact ht2) (by rw [hcd]; omega)) (by rw [hcd]; omega) (by omega), (Below.refl _ _).drew.trans hb1⟩
      · exfalso; omega
    · have hend : s.size ≤ A + k ∨ 5 ≤ k := by omega
      unfold PowS at hp
      go_wp2
      all_goals
        go_ret3
        exact ⟨rvT_bad (rvSt_out hst.out (by omega)), Below.refl _ _⟩

theorem specRv_some (s : ByteArray) (A n i : Nat) (w : World) (hs : s.size ≤ 1048576) (hA : A ≤ s.size) (h : rv s A = some (n, i)) :
    Calls Try.prog 62 #[.string s, .int .i64 A] w fun e w' => e = .returned (.tuple #[.int .i64 n, .int .i64 i, .bool true]) ∧ Below w.heap.size w w' := by
  have := specRv_in s A w hs hA
  rw [h] at this
  exact this
theorem specRv_none (s : ByteArray) (A : Nat) (w : World) (hs : s.size ≤ 1048576) (hA : A ≤ s.size) (h : rv s A = none) :
    Calls Try.prog 62 #[.string s, .int .i64 A] w fun e w' => e = .returned (.tuple #[.int .i64 0, .int .i64 0, .bool false]) ∧ Below w.heap.size w w' := by
  have := specRv_in s A w hs hA
  rw [h] at this
  exact this
end Go.Proofs.Ytfefjkldjaabbaa

/- The walks over the specification's reader of a text: a number, so many bytes, one byte. -/
namespace Go.Proofs.Ytfefjkldjaabbaa
open Go.RowKit Pl
set_option linter.unusedVariables false

/-- the block g is a cursor over s at the place A; b: it was not of its form. -/
def PcAt (w : World) (g : Nat) (s : ByteArray) (A : Nat) (b : Bool) : Prop := w.heap[g]? = some (.cells #[.string s, .int .i64 A, .bool b] 70 (0, 0))
theorem PcAt.cells {w : World} {g : Nat} {s : ByteArray} {A : Nat} {b : Bool} (h : PcAt w g s A b) : w.cell? ⟨g, 0, none⟩ = some (.string s) ∧ w.cell? ⟨g, 1, none⟩ = some (.int .i64 A) ∧ w.cell? ⟨g, 2, none⟩ = some (.bool b) ∧ w.frozen? ⟨g, 0, none⟩ = false ∧ w.frozen? ⟨g, 1, none⟩ = false ∧ w.frozen? ⟨g, 2, none⟩ = false :=
  ⟨by rw [cell_of_row w g 0 _ 70 (0, 0) h]; rfl, by rw [cell_of_row w g 1 _ 70 (0, 0) h]; rfl, by rw [cell_of_row w g 2 _ 70 (0, 0) h]; rfl, frozen_of_row w g 0 _ 70 h, frozen_of_row w g 1 _ 70 h, frozen_of_row w g 2 _ 70 h⟩
theorem PcAt.stays {w w' : World} {B g : Nat} {s : ByteArray} {A : Nat} {b : Bool} (h : PcAt w g s A b) (hb : Below B w w') (hg : g < B) : PcAt w' g s A b := (hb.block g hg).trans h
theorem PcAt.keep {w w' : World} {k g : Nat} {s : ByteArray} {A : Nat} {b : Bool} (h : PcAt w g s A b) (hk : TurnAt k w w') (hg : g ≠ k) : PcAt w' g s A b := (hk.block g hg).trans h
theorem PcAt.lt {w : World} {g : Nat} {s : ByteArray} {A : Nat} {b : Bool} (h : PcAt w g s A b) : g < w.heap.size := (Array.getElem?_eq_some_iff.1 h).1
theorem PcAt.set1 {w : World} {g : Nat} {s : ByteArray} {A : Nat} {b : Bool} (h : PcAt w g s A b) (i : Nat) : PcAt (w.setCell ⟨g, 1, none⟩ (.int .i64 i)) g s i b := by
  have h1 := heap_setCell_same w g 1 _ 70 (.int .i64 i) h
  unfold PcAt; rw [h1]; rfl
theorem PcAt.set2 {w : World} {g : Nat} {s : ByteArray} {A : Nat} {b : Bool} (h : PcAt w g s A b) (c : Bool) : PcAt (w.setCell ⟨g, 2, none⟩ (.bool c)) g s A c := by
  have h1 := heap_setCell_same w g 2 _ 70 (.bool c) h
  unfold PcAt; rw [h1]; rfl
theorem PcAt.drewN {w : World} {g : Nat} {s : ByteArray} {A : Nat} {b : Bool} (h : PcAt w g s A b) (n : Nat) : PcAt (w.drewN n) g s A b := h

theorem pc_step {W w w' : World} {g A : Nat} {s : ByteArray} {b : Bool} (h : (w.cell? ⟨g, 0, none⟩ = some (.string s) ∧ w.cell? ⟨g, 1, none⟩ = some (.int .i64 A)) ∧ Hid (Below W.heap.size W w ∧ PcAt w g s A b)) (hb : Below w.heap.size w w') :
    (w'.cell? ⟨g, 0, none⟩ = some (.string s) ∧ w'.cell? ⟨g, 1, none⟩ = some (.int .i64 A)) ∧ Hid (Below W.heap.size W w' ∧ PcAt w' g s A b) := by
  obtain ⟨h1, h2⟩ := h
  obtain ⟨h3, h4⟩ := h2.out
  have h5 := h4.stays hb h4.lt
  exact ⟨⟨h5.cells.1, h5.cells.2.1⟩, ⟨h3.trans (hb.mono h3.size), h5⟩⟩

/-- what a number's reading comes to. -/
def VarF (s : ByteArray) (A : Nat) (b : Bool) (n i : Nat) (b' : Bool) : Prop :=
  (b = false ∧ rv s A = some (n, i) ∧ b' = false) ∨ (n = 0 ∧ i = A ∧ b' = true ∧ (b = true ∨ rv s A = none))

set_option maxRecDepth 100000 in
set_option maxHeartbeats 1000000 in
theorem lvar_good (s : ByteArray) (g A n i : Nat) (w : World) (hp : Hid (PcAt w g s A false)) (hs : s.size ≤ 1048576) (hA : A ≤ s.size) (h : Hid (rv s A = some (n, i))) :
    Calls Try.prog 48 #[.pointer (some ⟨g, 0, none⟩)] w fun e w' => e = .returned (.int .i64 n) ∧ PcAt w' g s i false ∧ KeepBut g w w' := by
  have HI : (w.drew.cell? ⟨g, 0, none⟩ = some (.string s) ∧ w.drew.cell? ⟨g, 1, none⟩ = some (.int .i64 A)) ∧ Hid (Below w.heap.size w w.drew ∧ PcAt w.drew g s A false) :=
    ⟨⟨hp.out.cells.1, hp.out.cells.2.1⟩, (Below.refl _ _).drew, hp.out⟩
  go_enter Try.func48, Try.ntmps48
  go_wp2
  go_region_held3 (fun w' => (w'.cell? ⟨g, 0, none⟩ = some (.string s) ∧ w'.cell? ⟨g, 1, none⟩ = some (.int .i64 A)) ∧ Hid (Below w.heap.size w w' ∧ PcAt w' g s A false)) (first | exact HI | assumption) (first | (go_at_call 62; refine (specRv_some s A n i _ hs hA h.out).mono ?_; rintro e w3 ⟨rfl, hb3⟩; have hk3 := pc_step (W := w) (by assumption) hb3))
  have hk := hk3.2
  obtain ⟨c0, c1, c2, f0, f1, f2⟩ := hk.out.2.cells
  clear HI hk3
  go_wp2
  go_ret
  exact ⟨rfl, hk.out.2.set1 i, (keep_of_below hk.out.1).trans ((TurnAt.refl g w3).setCell 1 _).keep⟩

set_option maxRecDepth 100000 in
set_option maxHeartbeats 1000000 in
theorem lvar_none (s : ByteArray) (g A : Nat) (b : Bool) (w : World) (hp : Hid (PcAt w g s A b)) (hs : s.size ≤ 1048576) (hA : A ≤ s.size) (h : Hid (rv s A = none)) :
    Calls Try.prog 48 #[.pointer (some ⟨g, 0, none⟩)] w fun e w' => e = .returned (.int .i64 0) ∧ PcAt w' g s A true ∧ KeepBut g w w' := by
  have HI : (w.drew.cell? ⟨g, 0, none⟩ = some (.string s) ∧ w.drew.cell? ⟨g, 1, none⟩ = some (.int .i64 A)) ∧ Hid (Below w.heap.size w w.drew ∧ PcAt w.drew g s A b) :=
    ⟨⟨hp.out.cells.1, hp.out.cells.2.1⟩, (Below.refl _ _).drew, hp.out⟩
  go_enter Try.func48, Try.ntmps48
  go_wp2
  go_region_held3 (fun w' => (w'.cell? ⟨g, 0, none⟩ = some (.string s) ∧ w'.cell? ⟨g, 1, none⟩ = some (.int .i64 A)) ∧ Hid (Below w.heap.size w w' ∧ PcAt w' g s A b)) (first | exact HI | assumption) (first | (go_at_call 62; refine (specRv_none s A _ hs hA h.out).mono ?_; rintro e w3 ⟨rfl, hb3⟩; have hk3 := pc_step (W := w) (by assumption) hb3))
  have hk := hk3.2
  obtain ⟨c0, c1, c2, f0, f1, f2⟩ := hk.out.2.cells
  clear HI hk3
  cases b
  all_goals
    go_wp2
    go_ret
    exact ⟨rfl, hk.out.2.set2 true, (keep_of_below hk.out.1).trans ((TurnAt.refl g w3).setCell 2 _).keep⟩

set_option maxRecDepth 100000 in
set_option maxHeartbeats 1000000 in
theorem lvar_bad (s : ByteArray) (g A n i : Nat) (w : World) (hp : Hid (PcAt w g s A true)) (hs : s.size ≤ 1048576) (hA : A ≤ s.size) (h : Hid (rv s A = some (n, i))) :
    Calls Try.prog 48 #[.pointer (some ⟨g, 0, none⟩)] w fun e w' => e = .returned (.int .i64 0) ∧ PcAt w' g s A true ∧ KeepBut g w w' := by
  have HI : (w.drew.cell? ⟨g, 0, none⟩ = some (.string s) ∧ w.drew.cell? ⟨g, 1, none⟩ = some (.int .i64 A)) ∧ Hid (Below w.heap.size w w.drew ∧ PcAt w.drew g s A true) :=
    ⟨⟨hp.out.cells.1, hp.out.cells.2.1⟩, (Below.refl _ _).drew, hp.out⟩
  go_enter Try.func48, Try.ntmps48
  go_wp2
  go_region_held3 (fun w' => (w'.cell? ⟨g, 0, none⟩ = some (.string s) ∧ w'.cell? ⟨g, 1, none⟩ = some (.int .i64 A)) ∧ Hid (Below w.heap.size w w' ∧ PcAt w' g s A true)) (first | exact HI | assumption) (first | (go_at_call 62; refine (specRv_some s A n i _ hs hA h.out).mono ?_; rintro e w3 ⟨rfl, hb3⟩; have hk3 := pc_step (W := w) (by assumption) hb3))
  have hk := hk3.2
  obtain ⟨c0, c1, c2, f0, f1, f2⟩ := hk.out.2.cells
  clear HI hk3
  go_wp2
  go_ret
  exact ⟨rfl, hk.out.2.set2 true, (keep_of_below hk.out.1).trans ((TurnAt.refl g w3).setCell 2 _).keep⟩

theorem lvar_any (s : ByteArray) (g A : Nat) (b : Bool) (w : World) (hp : Hid (PcAt w g s A b)) (hs : s.size ≤ 1048576) (hA : A ≤ s.size) :
    Calls Try.prog 48 #[.pointer (some ⟨g, 0, none⟩)] w fun e w' => ∃ (n i : Nat) (b' : Bool), e = .returned (.int .i64 n) ∧ n ≤ 1000000000 ∧ i ≤ s.size ∧ PcAt w' g s i b' ∧ KeepBut g w w' ∧ VarF s A b n i b' := by
  rcases h0 : rv s A with _ | ⟨n, i⟩
  · exact (lvar_none s g A b w hp hs hA h0).mono fun e w' ⟨h1, h2, h3⟩ => ⟨0, A, true, h1, by omega, hA, h2, h3, .inr ⟨rfl, rfl, rfl, .inr h0⟩⟩
  · cases b with
    | true => exact (lvar_bad s g A n i w hp hs hA h0).mono fun e w' ⟨h1, h2, h3⟩ => ⟨0, A, true, h1, by omega, hA, h2, h3, .inr ⟨rfl, rfl, rfl, .inl rfl⟩⟩
    | false =>
      obtain ⟨b1, b2⟩ := rv_le hA h0
      exact (lvar_good s g A n i w hp hs hA h0).mono fun e w' ⟨h1, h2, h3⟩ => ⟨n, i, false, h1, b1, b2, h2, h3, .inl ⟨rfl, h0, rfl⟩⟩

/-- what the taking of k bytes comes to. -/
def TakeF (s : ByteArray) (A k : Nat) (b : Bool) (t : ByteArray) (i : Nat) (b' : Bool) : Prop :=
  (b = false ∧ A + k ≤ s.size ∧ t = s.extract A (A + k) ∧ i = A + k ∧ b' = false) ∨ (t = ByteArray.empty ∧ i = A ∧ b' = true ∧ (b = true ∨ s.size < A + k))

/-- what the taking of one byte comes to. -/
def OneF (s : ByteArray) (A : Nat) (b : Bool) (n i : Nat) (b' : Bool) : Prop :=
  (b = false ∧ oneP s A = some (n, i) ∧ b' = false) ∨ (n = 0 ∧ i = A ∧ b' = true ∧ (b = true ∨ oneP s A = none))

theorem byte_of {s : ByteArray} {A : Nat} (h : A < s.size) : (s.extract A (A + 1)).size = 1 ∧ ∀ h0 : 0 < (s.extract A (A + 1)).size, ((s.extract A (A + 1))[0]'h0).toNat = (s[A]'h).toNat := by
  refine ⟨by rw [ByteArray.size_extract]; omega, fun h0 => ?_⟩
  congr 1
  rw [ByteArray.getElem_extract]
  congr 1

end Go.Proofs.Ytfefjkldjaabbaa

/- The walks over the draws: a byte, a number below another, a text, the cursor made; a drawn text and drawn places. -/
namespace Go.Proofs.Ytfefjkldjaabbaa
open Go.RowKit Pl
set_option linter.unusedVariables false

theorem cur_cells {w : World} {T : TypeId} {g i n cap : Nat} {h : Int} {ao : Option Addr} (hg : w.heap[g]? = some (.cells #[.slice ao n cap, .int .i64 i, .int .i64 h] T (0, 0))) :
    w.cell? ⟨g, 0, none⟩ = some (.slice ao n cap) ∧ w.cell? ⟨g, 1, none⟩ = some (.int .i64 i) ∧ w.cell? ⟨g, 2, none⟩ = some (.int .i64 h) ∧ (∀ j, w.frozen? ⟨g, j, none⟩ = false) := by
  refine ⟨?_, ?_, ?_, fun j => frozen_of_row w g j _ T hg⟩ <;> rw [cell_of_row w g _ _ T (0, 0) hg] <;> rfl


theorem nat_ret {v : Int} {m : Nat} (h0 : 0 ≤ v) (h1 : v < m) : ∃ x : Nat, x < m ∧ Ending.returned (.int .i64 v) = .returned (.int .i64 x) :=
  ⟨v.toNat, by omega, by rw [Int.toNat_of_nonneg h0]⟩
theorem Try.info5' : (Try.prog.info? 5).map (fun i => (i.zero, i.size, i.bytes)) = some (some (.int .u8 0), 1, 1) := by kernel_rfl

/-- the cursor g over that slice lies ready in w, and since w0 it alone has turned. -/
def Drw (w0 w : World) (B g : Nat) (ao : Option Addr) (n cap : Nat) : Prop := CurAt w 73 g ao n cap ∧ CodeAt w B ao n ∧ KeepBut g w0 w

theorem Drw.start {w : World} {B g n cap : Nat} {ao : Option Addr} (hc : CurAt w 73 g ao n cap) (hk : CodeAt w B ao n) : Hid (Drw w w B g ao n cap) := ⟨hc, hk, KeepBut.refl g w⟩

theorem CurAt.stays {w w' : World} {B T g n cap : Nat} {ao : Option Addr} (h : CurAt w T g ao n cap) (hb : Below B w w') (hB : g < B) : CurAt w' T g ao n cap := by
  obtain ⟨i, k, h1, h2⟩ := h
  exact ⟨i, k, h1, (hb.block g hB).trans h2⟩

set_option maxRecDepth 100000 in
set_option maxHeartbeats 1000000 in
theorem byte_any (w0 w : World) (B g n cap : Nat) (ao : Option Addr) (hn : n ≤ 1048576) (hB : B ≤ g) (hd : Hid (Drw w0 w B g ao n cap)) :
    Calls Try.prog 49 #[.pointer (some ⟨g, 0, none⟩)] w fun e w' => (∃ x : Nat, x < 256 ∧ e = .returned (.int .i64 x)) ∧ Hid (Drw w0 w' B g ao n cap) := by
  suffices hh : Calls Try.prog 49 #[.pointer (some ⟨g, 0, none⟩)] w fun e w' => (∃ x : Nat, x < 256 ∧ e = .returned (.int .i64 x)) ∧ CurAt w' 73 g ao n cap ∧ TurnAt g w w' from
    hh.mono fun e w' h => ⟨h.1, (show Drw _ _ _ _ _ _ _ from ⟨h.2.1, hd.out.2.1.stays (h.2.2.below hB) (Nat.le_refl _), hd.out.2.2.trans h.2.2.keep⟩)⟩
  obtain ⟨i, h, hi, hg⟩ := hd.out.1
  obtain ⟨c0, c1, c2, cf⟩ := cur_cells hg
  have hk : Hid (CodeAt w B ao n) := hd.out.2.1
  have cf0 := cf 0
  have cf1 := cf 1
  have cf2 := cf 2
  have HG : Hid (w.heap[g]? = some (.cells #[.slice ao n cap, .int .i64 i, .int .i64 h] 73 (0, 0))) := hg
  clear hg cf hd
  by_cases h1 : i < n
  · obtain ⟨b, off, z, rfl, hb, hz, hz0, hz1⟩ := hk.out i h1
    clear hk
    go_enter Try.func49, Try.ntmps49
    go_wp2
    generalize wrap64 (wrap64 (h * 6364136223846793005) + 1442695040888963407) = h'
    have HG1 := heap_setCell_same w g 2 _ 73 (Value.int IntKind.i64 h') HG.out
    have HT1 := (TurnAt.refl g w).setCell 2 (Value.int IntKind.i64 h')
    have hz' := (HT1.below (B := g) (Nat.le_refl _)).cell (p := ⟨b, off + i, none⟩) (show b < g by omega)
    rw [hz] at hz'
    generalize w.setCell ⟨g, 2, none⟩ (Value.int IntKind.i64 h') = W at *
    obtain ⟨d0, d1, d2, df⟩ := cur_cells HG1
    have df1 := df 1
    have HG2 : Hid _ := HG1
    have HT2 : Hid _ := HT1
    clear c0 c1 c2 cf0 cf1 cf2 HG hz HG1 HT1 df
    go_quiet (fail)
    go_wp2
    obtain ⟨x, hx1, hx⟩ := and255 (bits BinOp.xor IntKind.i64 (h' / 8589934592) (h' / 35184372088832))
    rw [hx]
    clear hx
    have hlt : decide ((i : Int) < (n : Int)) = true := by simp; omega
    have hi0 : (0 : Int) ≤ (i : Int) := by omega
    have hi1 : (i : Int) < (n : Int) := by omega
    have hwx : IntKind.i64.wrap ((x : Int) + z) = (x : Int) + z := by rw [IntKind.wrap_i64]; omega
    go_quiet (fail)
    go_wp2
    go_quiet (fail)
    go_wp2
    go_ret
    obtain ⟨y, hy1, hy⟩ := and255 ((x : Int) + z)
    refine ⟨⟨y, hy1, by rw [← hy]; rfl⟩, ⟨i + 1, h', by omega, ?_⟩, (HT2.out.drewN _).setCell 1 _⟩
    exact heap_setCell_same (W.drewN _) g 1 _ 73 (Value.int IntKind.i64 ((i : Int) + 1)) HG2.out
  · clear hk
    go_enter Try.func49, Try.ntmps49
    go_wp2
    generalize wrap64 (wrap64 (h * 6364136223846793005) + 1442695040888963407) = h'
    have HG1 := heap_setCell_same w g 2 _ 73 (Value.int IntKind.i64 h') HG.out
    have HT1 := (TurnAt.refl g w).setCell 2 (Value.int IntKind.i64 h')
    generalize w.setCell ⟨g, 2, none⟩ (Value.int IntKind.i64 h') = W at *
    obtain ⟨d0, d1, d2, df⟩ := cur_cells HG1
    have HG2 : Hid _ := HG1
    have HT2 : Hid _ := HT1
    clear c0 c1 c2 cf0 cf1 cf2 HG HG1 HT1 df
    go_quiet (fail)
    go_wp2
    obtain ⟨x, hx1, hx⟩ := and255 (bits BinOp.xor IntKind.i64 (h' / 8589934592) (h' / 35184372088832))
    rw [hx]
    clear hx
    have hlt : decide ((i : Int) < (n : Int)) = false := by simp; omega
    go_quiet (fail)
    go_wp2
    go_ret
    exact ⟨⟨x, hx1, rfl⟩, ⟨i, h', hi, HG2.out⟩, (HT2.out.drewN _).drewN _⟩

set_option maxRecDepth 100000 in
set_option maxHeartbeats 1000000 in
theorem below_small (w0 w : World) (B g n cap m : Nat) (ao : Option Addr) (hn : n ≤ 1048576) (hB : B ≤ g) (hm0 : 0 < m) (hm : m ≤ 256) (hd : Hid (Drw w0 w B g ao n cap)) :
    Calls Try.prog 32 #[.pointer (some ⟨g, 0, none⟩), .int .i64 m] w fun e w' => (∃ x : Nat, x < m ∧ e = .returned (.int .i64 x)) ∧ Hid (Drw w0 w' B g ao n cap) := by
  go_enter Try.func32, Try.ntmps32
  go_wp2_with (first | (go_at_call 49; refine (byte_any w0 _ B g n cap ao hn hB (by assumption)).mono ?_; rintro e w1 ⟨⟨x, hx, rfl⟩, hd1⟩))
  go_ret
  exact ⟨⟨x % m, Nat.mod_lt _ hm0, rfl⟩, hd1⟩

set_option maxRecDepth 100000 in
set_option maxHeartbeats 1000000 in
theorem new_any (w : World) (n cap : Nat) (ao : Option Addr) (hn : n ≤ 1048576) (hk : Hid (CodeAt w w.heap.size ao n)) :
    Calls Try.prog 31 #[.slice ao n cap] w fun e w' => e = .returned (.pointer (some ⟨w.heap.size, 0, none⟩)) ∧ Hid (CurAt w' 73 w.heap.size ao n cap) ∧ Below w.heap.size w w' ∧ w'.heap.size = w.heap.size + 1 := by
  go_enter Try.func31, Try.ntmps31
  go_wp2
  go_loop [3, 4] (fun v i => ∃ (h : Int) (k : Nat), v = .int .i64 h ∧ i = .int .i64 k ∧ k ≤ n) (fun _ i => n - (intOf i).toNat)
  case atStart => exact ⟨_, 0, rfl, rfl, by omega⟩
  case round =>
    obtain ⟨h, k, rfl, rfl, hkn⟩ := hrel
    by_cases h1 : k < n
    · by_cases h2 : k < 4000
      · obtain ⟨b, off, z, rfl, hb, hz, hz0, hz1⟩ := hk.out k h1
        go_wp2
        go_round
        case rel => exact ⟨_, k + 1, rfl, by go_num, by omega⟩
        case measure => simp [intOf]; omega
      · go_wp2
        go_ret
        exact ⟨rfl, (show CurAt _ _ _ _ _ _ from ⟨0, h, by omega, heap_alloc_new w _⟩), (Below.refl _ _).alloc (Nat.le_refl _) _, by simp⟩
    · go_wp2
      go_ret
      exact ⟨rfl, (show CurAt _ _ _ _ _ _ from ⟨0, h, by omega, heap_alloc_new w _⟩), (Below.refl _ _).alloc (Nat.le_refl _) _, by simp⟩

theorem Drw.lt {w0 w : World} {B g n cap : Nat} {ao : Option Addr} (h : Drw w0 w B g ao n cap) : g < w.heap.size := by
  obtain ⟨i, k, _, h2⟩ := h.1
  exact (Array.getElem?_eq_some_iff.1 h2).1

/-- A call that only lays new blocks leaves the cursor as it is. -/
theorem Drw.step {w0 w w' : World} {B g n cap : Nat} {ao : Option Addr} (h : Drw w0 w B g ao n cap) (hB : B ≤ g) (hb : Below w.heap.size w w') : Drw w0 w' B g ao n cap :=
  have hlt := h.lt
  ⟨CurAt.stays h.1 hb hlt, h.2.1.stays hb (by omega), h.2.2.trans (keep_of_below hb)⟩

theorem Drw.alloc {w0 w : World} {B g n cap : Nat} {ao : Option Addr} (h : Drw w0 w B g ao n cap) (hB : B ≤ g) (o : Obj) : Drw w0 (w.alloc o) B g ao n cap := h.step hB ((Below.refl _ _).alloc (Nat.le_refl _) _)

theorem OwnB_keep {w w' : World} {B g : Nat} {e : TypeId} {v : Value} {xs : List Int} (h : OwnB w B e v xs) (hk : KeepBut g w w') (hg : g < B) : OwnB w' B e v xs := by
  refine ⟨h.1, ?_⟩
  rcases h.2 with hn | ⟨k, cap, cur, rfl, hbg, hk2, rest⟩
  · exact .inl hn
  · exact .inr ⟨k, cap, cur, rfl, hbg, (hk.block k (Array.getElem?_eq_some_iff.1 hk2).1 (by omega)).trans hk2, rest⟩

set_option maxRecDepth 100000 in
set_option maxHeartbeats 1000000 in
theorem below_big (w0 w : World) (B g n cap m : Nat) (ao : Option Addr) (hn : n ≤ 1048576) (hB : B ≤ g) (hm0 : 256 < m) (hm : m ≤ 4294967296) (hd : Hid (Drw w0 w B g ao n cap)) :
    Calls Try.prog 32 #[.pointer (some ⟨g, 0, none⟩), .int .i64 m] w fun e w' => (∃ x : Nat, x < m ∧ e = .returned (.int .i64 x)) ∧ Hid (Drw w0 w' B g ao n cap) := by
  go_enter Try.func32, Try.ntmps32
  go_wp2_with (first | (go_at_call 49; refine (byte_any w0 _ B g n cap ao hn hB (by assumption)).mono ?_; rintro e w1 ⟨⟨x, hx, rfl⟩, hd1⟩))
  go_ret
  exact ⟨nat_ret (Int.emod_nonneg _ (by omega)) (Int.emod_lt_of_pos _ (by omega)), hd1⟩

end Go.Proofs.Ytfefjkldjaabbaa

/- The walks over the test for too many drawn bytes and over two lists of texts compared. -/
namespace Go.Proofs.Ytfefjkldjaabbaa
open Go.RowKit Pl
set_option linter.unusedVariables false

set_option maxRecDepth 100000 in
set_option maxHeartbeats 1000000 in
theorem big_any (w : World) (n cap : Nat) (ao : Option Addr) (b : Bool) (hb : decide (1048576 < (n : Int)) = b) :
    Calls Try.prog 9 #[.slice ao n cap] w fun e w' => e = .returned (.bool b) ∧ w' = w := by
  go_enter Try.func9, Try.ntmps9
  go_wp2
  go_ret
  exact ⟨by rw [← hb]; rfl, rfl⟩

set_option maxRecDepth 100000 in
set_option maxHeartbeats 1000000 in
theorem sameT_any (a1 a2 : Option Addr) (c1 c2 : Nat) (ss : List ByteArray) (w : World) (h1 : Hid (TextsAt w a1 ss)) (h2 : Hid (TextsAt w a2 ss)) (hl : ss.length ≤ 1048577) :
    Calls Try.prog 14 #[.slice a1 ss.length c1, .slice a2 ss.length c2] w fun e w' => e = .returned (.bool true) ∧ Below w.heap.size w w' := by
  go_enter Try.func14, Try.ntmps14
  go_wp2
  go_loopw [5] (fun i wr => ∃ k : Nat, k ≤ ss.length ∧ i = .int .i64 k ∧ Below w.heap.size w wr) (fun i _ => ss.length - (intOf i).toNat)
  case atStart => exact ⟨0, by omega, rfl, Below.refl _ _⟩
  case round =>
    obtain ⟨k, hk, rfl, hb⟩ := hrel
    by_cases hlt : k < ss.length
    · obtain ⟨b1, o1, rfl, hb1, hc1⟩ := h1.out.stays hb k hlt
      obtain ⟨b2, o2, rfl, hb2, hc2⟩ := h2.out.stays hb k hlt
      have hq1 : (0 : Int) ≤ (k : Int) := by omega
      have hq2 : (k : Int) < (ss.length : Int) := by omega
      go_wp2
      go_quiet (fail)
      go_wp2
      go_roundw
      case rel => exact ⟨k + 1, by omega, by go_num, below_drewN hb _⟩
      case measure => simp [intOf]; omega
    · go_wp2
      go_ret
      exact ⟨rfl, hb⟩
end Go.Proofs.Ytfefjkldjaabbaa

/- The walk over a draw that is met once in so many. -/
namespace Go.Proofs.Ytfefjkldjaabbaa
open Go.RowKit Pl
set_option linter.unusedVariables false

set_option maxRecDepth 100000 in
set_option maxHeartbeats 1000000 in
theorem once_any (w0 w : World) (B g n cap m : Nat) (ao : Option Addr) (hn : n ≤ 1048576) (hB : B ≤ g) (hm0 : 0 < m) (hm : m ≤ 256) (hd : Hid (Drw w0 w B g ao n cap)) :
    Calls Try.prog 33 #[.pointer (some ⟨g, 0, none⟩), .int .i64 m] w fun e w' => (∃ b : Bool, e = .returned (.bool b)) ∧ Hid (Drw w0 w' B g ao n cap) := by
  go_enter Try.func33, Try.ntmps33
  go_wp2_with (first | (go_at_call 32; refine (below_small w0 _ B g n cap m ao hn hB hm0 hm (by assumption)).mono ?_; rintro e w1 ⟨⟨x, hx, rfl⟩, hd1⟩))
  go_ret
  exact ⟨⟨_, rfl⟩, hd1⟩

end Go.Proofs.Ytfefjkldjaabbaa

/- The walks over draws: the test for too many bytes, a drawn text, one of a few numbers, a text with something else in it. -/
namespace Go.Proofs.Ytfefjkldjaabbaa
open Go.RowKit Pl
set_option linter.unusedVariables false
theorem keep_then {g : Nat} {a b c : World} (h : KeepBut g a b) (hb : Below a.heap.size b c) : KeepBut g a c :=
  ⟨hb.os.trans h.os, hb.tape.trans h.tape, hb.output.trans h.output, Nat.le_trans h.size hb.size, fun k hk hg => (hb.block k hk).trans (h.block k hk hg)⟩

set_option maxRecDepth 100000 in
set_option maxHeartbeats 1000000 in
theorem text_drw (w0 w : World) (B g n cap N : Nat) (ao : Option Addr) (hn : n ≤ 1048576) (hB : B ≤ g) (hN : N ≤ 5000) (hd : Hid (Drw w0 w B g ao n cap)) :
    Calls Try.prog 50 #[.pointer (some ⟨g, 0, none⟩), .int .i64 N] w fun e w' => (∃ t : ByteArray, t.size = N ∧ e = .returned (.string t)) ∧ Hid (Drw w0 w' B g ao n cap) := by
  have hg := hd.out.lt
  suffices hh : Calls Try.prog 50 #[.pointer (some ⟨g, 0, none⟩), .int .i64 N] w fun e w' => (∃ t : ByteArray, t.size = N ∧ e = .returned (.string t)) ∧ CurAt w' 73 g ao n cap ∧ KeepBut g w w' from
    hh.mono fun e w' h => ⟨h.1, (show Drw _ _ _ _ _ _ _ from ⟨h.2.1, hd.out.2.1.stays (h.2.2.below (Nat.le_refl g) (Nat.le_of_lt hg)) hB, hd.out.2.2.trans h.2.2⟩)⟩
  have hc : Hid (CurAt w 73 g ao n cap) := hd.out.1
  have hk : Hid (CodeAt w B ao n) := hd.out.2.1
  clear hd
  go_enter Try.func50, Try.ntmps50
  go_wp2
  go_loopw [5, 6] (fun v i wr => ∃ (k : Nat) (xs : List Int), i = .int .i64 k ∧ k ≤ N ∧ xs.length = k ∧ Hid (OwnB wr w.heap.size 5 v xs) ∧ Hid (CurAt wr 73 g ao n cap) ∧ Hid (CodeAt wr B ao n) ∧ Hid (KeepBut g w wr)) (fun _ i _ => N - (intOf i).toNat)
  case atStart =>
    have hb : Below w.heap.size w (w.alloc (.cells #[] 5)) := (Below.refl _ _).alloc (Nat.le_refl _) _
    exact ⟨0, [], rfl, by omega, rfl, OwnB.made w _ 5 #[] 0 (Nat.le_refl _) (by decide) rfl, CurAt.stays hc.out hb hg, hk.out.stays hb (by omega), keep_of_below hb⟩
  case round =>
    obtain ⟨k, xs, rfl, hkN, hxl, hown, hcr, hkr, hbr⟩ := hrel
    have hsz := hbr.out.size
    by_cases h1 : k < N
    · have hd := Drw.start hcr.out hkr.out
      go_wp2_with (first | (go_at_call 49; refine (byte_any wr _ B g n cap ao hn hB (by assumption)).mono ?_; rintro e w1 ⟨⟨x, hx, rfl⟩, hd1⟩; have hs1 : w.heap.size ≤ w1.heap.size := Nat.le_trans hsz hd1.out.2.2.size; have hown1 := OwnB_keep hown.out hd1.out.2.2 hg) | (at_builtin; refine wpList_push rfl _ _ 22 5 rfl Try.underlying22 Try.info5' w.heap.size _ xs rfl hown1 _ rfl (by omega) (by omega) ?_; intro v2 w2 hown2 hb2))
      go_roundw
      case rel => exact ⟨k + 1, _, by go_num, by omega, by simp [hxl], hown2, CurAt.stays hd1.out.1 hb2 hg, hd1.out.2.1.stays hb2 (by omega), (show KeepBut g w w2 from keep_then (hbr.out.trans hd1.out.2.2) hb2)⟩
      case measure => simp [intOf]; omega
    · have hkk : k = N := by omega
      have hcv := conv_own Try.underlying22 Try.underlying5 Try.underlying9 hown.out
      go_wp2
      go_ret
      exact ⟨⟨_, by rw [strOfNums_size]; omega, rfl⟩, hcr.out, hbr.out⟩

/-- the block b is a row of ints. -/
def RowI (w : World) (b m : Nat) : Prop := ∀ j, j < m → ∃ z : Int, w.cell? ⟨b, j, none⟩ = some (.int .i64 z)

theorem RowI.stays {w0 w1 : World} {b g m : Nat} (h : RowI w0 b m) (hb : b < w0.heap.size) (hg : b ≠ g) (hk : KeepBut g w0 w1) : RowI w1 b m := by
  intro j hj
  obtain ⟨t, h2⟩ := h j hj
  refine ⟨t, ?_⟩
  rw [← h2]
  simp only [World.cell?]
  rw [hk.block b hb hg]

theorem rowI_new (w : World) (ts : List Int) (m : Nat) (hm : m = ts.length) : RowI (w.alloc (.cells (ts.map (Value.int .i64)).toArray 3)) w.heap.size m := by
  intro j hj
  rw [hm] at hj
  refine ⟨ts[j], ?_⟩
  rw [cell_of_row _ w.heap.size j _ 3 (0, 0) (heap_alloc_new w _)]
  simp [hj]

set_option maxRecDepth 100000 in
set_option maxHeartbeats 1000000 in
theorem pickInt_any (w0 w : World) (B g n cap b m : Nat) (ao : Option Addr) (hn : n ≤ 1048576) (hB : B ≤ g) (hm0 : 0 < m) (hm : m ≤ 256) (hb : b < w.heap.size) (hbg : b ≠ g) (hr : Hid (RowI w b m)) (hd : Hid (Drw w0 w B g ao n cap)) :
    Calls Try.prog 34 #[.pointer (some ⟨g, 0, none⟩), .slice (some ⟨b, 0, none⟩) m m] w fun e w' => (∃ z : Int, e = .returned (.int .i64 z)) ∧ Hid (Drw w0 w' B g ao n cap) := by
  have hd0 : Hid (Drw w w B g ao n cap) := Drw.start hd.out.1 hd.out.2.1
  go_enter Try.func34, Try.ntmps34
  go_wp2_with (first | (go_at_call 32; refine (below_small w _ B g n cap m ao hn hB hm0 hm (by assumption)).mono ?_; rintro e w1 ⟨⟨x, hx, rfl⟩, hd1⟩; obtain ⟨z, hc⟩ := hr.out.stays hb hbg hd1.out.2.2 x hx))
  go_ret
  exact ⟨⟨z, rfl⟩, show Drw _ _ _ _ _ _ _ from ⟨hd1.out.1, hd1.out.2.1, hd.out.2.2.trans hd1.out.2.2⟩⟩


theorem OwnI_keep {w w' : World} {B g : Nat} {v : Value} {ss : List Int} (h : OwnI w B v ss) (hk : KeepBut g w w') (hg : g < B) : OwnI w' B v ss := by
  refine ⟨h.1, ?_⟩
  rcases h.2 with hn | ⟨k, cap, cur, rfl, hbg, hk2, rest⟩
  · exact .inl hn
  · exact .inr ⟨k, cap, cur, rfl, hbg, (hk.block k (Array.getElem?_eq_some_iff.1 hk2).1 (by omega)).trans hk2, rest⟩


set_option maxRecDepth 100000 in
set_option maxHeartbeats 2000000 in
theorem spoilt_any (w0 w : World) (B g n cap : Nat) (ao : Option Addr) (s : ByteArray) (hn : n ≤ 1048576) (hB : B ≤ g) (hs : s.size ≤ 255) (hd : Hid (Drw w0 w B g ao n cap)) :
    Calls Try.prog 60 #[.pointer (some ⟨g, 0, none⟩), .string s] w fun e w' => (∃ t : ByteArray, t.size ≤ 257 ∧ e = .returned (.string t)) ∧ Hid (Drw w0 w' B g ao n cap) := by
  go_enter Try.func60, Try.ntmps60
  go_wp2_with fail
  refine (below_small w0 _ B g n cap 12 ao hn hB (by omega) (by omega) hd).mono ?_
  rintro e w1 ⟨⟨x, hx, rfl⟩, hd1⟩
  clear hd
  by_cases h0 : x = 0
  · subst h0
    go_wp2_with fail
    refine (text_drw w0 _ B g n cap 1 ao hn hB (by omega) hd1).mono ?_
    rintro e w2 ⟨⟨t, ht, rfl⟩, hd2⟩
    clear hd1
    go_wp2_with fail
    go_ret
    exact ⟨⟨_, by rw [ByteArray.size_append]; omega, rfl⟩, hd2⟩
  by_cases h1 : x = 1
  · subst h1
    go_wp2_with fail
    refine (below_small w0 _ B g n cap (s.size + 1) ao hn hB (by omega) (by omega) hd1).mono ?_
    rintro e w2 ⟨⟨y, hy, rfl⟩, hd2⟩
    clear hd1
    have i0 : (0 : Int) ≤ (y : Int) := by omega
    have i1 : (y : Int) ≤ (s.size : Int) := by omega
    go_wp2_with fail
    go_ret
    exact ⟨⟨_, by rw [ByteArray.size_extract]; omega, rfl⟩, hd2⟩
  by_cases h2 : (x = 2 ∨ x = 3) ∧ 0 < s.size
  · obtain ⟨h2, hs0⟩ := h2
    rcases h2 with rfl | rfl
    all_goals
      go_wp2_with fail
      refine (below_small w0 _ B g n cap s.size ao hn hB (by omega) (by omega) hd1).mono ?_
      rintro e w2 ⟨⟨y, hy, rfl⟩, hd2⟩
      have hdd : Hid (Drw w0 w2.drew B g ao n cap) := ⟨hd2.out.1, hd2.out.2.1, hd2.out.2.2.trans ⟨rfl, rfl, rfl, Nat.le_refl _, fun _ _ _ => rfl⟩⟩
      clear hd1
      have i0 : (0 : Int) ≤ (y : Int) := by omega
      have i1 : (y : Int) ≤ (s.size : Int) := by omega
      have i2 : (y : Int) + 1 ≤ (s.size : Int) := by omega
      have i3 : (0 : Int) ≤ (y : Int) + 1 := by omega
      have hw1 : IntKind.i64.wrap ((y : Int) + 1) = (y : Int) + 1 := by rw [IntKind.wrap_i64]; omega
      go_wp2_with fail
      go_region_held3 (fun _ => True) (trivial) (first | (go_at_call 50; refine (text_drw w0 _ B g n cap 1 ao hn hB (by omega) hdd).mono ?_; rintro e w3 ⟨⟨t, ht, rfl⟩, hd3⟩; have z1 : ¬9223372036854775807 < min y s.size + 1 := (by omega); have z2 : ¬9223372036854775807 < min y s.size + 1 + (s.size - (y + 1)) := (by omega)))
      go_wp2_with fail
      go_ret
      exact ⟨⟨_, by rw [ByteArray.size_append, ByteArray.size_append, ByteArray.size_extract, ByteArray.size_extract]; omega, rfl⟩, hd3⟩
  by_cases h3 : x = 2 ∨ x = 3
  · have hs0 : s.size = 0 := by omega
    clear h2
    rcases h3 with rfl | rfl
    all_goals
      go_wp2_with fail
      go_ret
      exact ⟨⟨s, by omega, rfl⟩, hd1⟩
  · have n2 : ¬ x = 2 := by omega
    have n3 : ¬ x = 3 := by omega
    clear h2 h3
    go_wp2_with fail
    go_ret
    exact ⟨⟨s, by omega, rfl⟩, hd1⟩
end Go.Proofs.Ytfefjkldjaabbaa

