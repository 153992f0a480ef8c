/- Joined texts: CXtp CXct. -/
import Derived.Test.YtmbjflhhffcjdaaDoorWsq15
import Derived.Lib.Walk
import Derived.Lib.Strings
import Derived.BigCall
import Derived.BigGuard
import Derived.Deep.QuietTactic
import Derived.BigQuiet
/- The walks over strings.TrimPrefix and strings.Cut at the mark. -/
namespace Go.Proofs.YtmbjflhhffcjdaaDoor
open Go.RowKit
set_option linter.unusedVariables false

set_option maxHeartbeats 1000000 in
set_option maxRecDepth 100000 in
theorem indexByte_any (s : ByteArray) (w : World) :
    Calls Tryd.prog 125 #[.string s, .int .u8 35] w fun e w' => e = .returned (.int .i64 (Lib.indexByte s.data.toList 35)) ∧ w' = w := by
  go_enter Tryd.func125, Tryd.ntmps125
  go_wp2
  rw [run_callFunc_extern Tryd.func131 (by kernel_rfl) (by kernel_rfl) (by kernel_rfl) (e := Extern.BytealgIndexByte.indexByte) (by kernel_rfl), Lib.run_indexByteString]
  simp only [Result.andThen]
  rw [Oper.upon_value]
  go_wp2
  go_ret
  exact ⟨rfl, rfl⟩

set_option maxHeartbeats 2000000 in
set_option maxRecDepth 100000 in
theorem index_any (s : ByteArray) (w : World) :
    Calls Tryd.prog 120 #[.string s, .string ⟨#[35]⟩] w fun e w' => e = .returned (.int .i64 (Lib.indexByte s.data.toList 35)) ∧ w' = w := by
  go_enter Tryd.func120, Tryd.ntmps120
  go_wp2_with (go_at_call 125; refine (indexByte_any _ _).mono ?_; rintro e w' ⟨rfl, rfl⟩)
  · have h : ([35] == s.toList) = true := by assumption
    go_ret
    refine ⟨?_, rfl⟩
    have e : s.data.toList = [35] := by rw [← Lib.toList_data]; exact (beq_iff_eq.1 h).symm
    rw [e]
    simp [Lib.indexByte]
  · go_ret
    exact ⟨rfl, rfl⟩
end Go.Proofs.YtmbjflhhffcjdaaDoor


/- The walks over strings.TrimPrefix and strings.Cut at the mark. -/
namespace Go.Proofs.YtmbjflhhffcjdaaDoor
open Go.RowKit
set_option linter.unusedVariables false

set_option maxHeartbeats 1000000 in
set_option maxRecDepth 100000 in
theorem has_big (s : ByteArray) (w : World) (h : 1 ≤ s.size) :
    Calls Tryd.prog 121 #[.string s, .string ⟨#[35]⟩] w fun e w' => e = .returned (.bool ((s.extract 0 1).toList == [35])) ∧ w' = w := by
  go_enter Tryd.func121, Tryd.ntmps121
  go_wp2
  go_ret
  exact ⟨rfl, rfl⟩

set_option maxHeartbeats 1000000 in
set_option maxRecDepth 100000 in
theorem cut_miss (s : ByteArray) (w : World) (h : Lib.indexByte s.data.toList 35 = -1) :
    Calls Tryd.prog 112 #[.string s, .string ⟨#[35]⟩] w fun e w' => e = .returned (.tuple #[.string s, .string ⟨#[]⟩, .bool false]) ∧ w' = w := by
  have hx := fun w => index_any s w
  rw [h] at hx
  go_enter Tryd.func112, Tryd.ntmps112
  go_wp2_with (go_at_call 120; refine (hx _).mono ?_; rintro e w' ⟨rfl, rfl⟩)
  go_ret3
  exact ⟨rfl, rfl⟩

set_option maxHeartbeats 1000000 in
set_option maxRecDepth 100000 in
theorem cut_hit (s : ByteArray) (w : World) (k : Nat) (hk : k < s.size) (hl : s.size ≤ maxLen) (h : Lib.indexByte s.data.toList 35 = (k : Int)) :
    Calls Tryd.prog 112 #[.string s, .string ⟨#[35]⟩] w fun e w' => e = .returned (.tuple #[.string (s.extract 0 k), .string (s.extract (k + 1) s.size), .bool true]) ∧ ∃ n, w' = w.drewN n := by
  have hx := fun w => index_any s w
  rw [h] at hx
  have c1 : (0 : Int) ≤ ↑k := by omega
  have c2 : (↑k : Int) ≤ ↑s.size := by omega
  have c3 : (0 : Int) ≤ ↑k + 1 := by omega
  have c4 : (↑k + 1 : Int) ≤ ↑s.size := by omega
  go_enter Tryd.func112, Tryd.ntmps112
  go_wp2_with (go_at_call 120; refine (hx _).mono ?_; rintro e w' ⟨rfl, rfl⟩)
  have hwk : IntKind.i64.wrap ((k : Int) + 1) = (k : Int) + 1 := by rw [IntKind.wrap_i64]; unfold maxLen at hl; omega
  go_region
  go_wp2
  go_ret3
  exact ⟨rfl, 1, rfl⟩

theorem has_none (w : World) :
    Calls Tryd.prog 121 #[.string ⟨#[]⟩, .string ⟨#[35]⟩] w fun e w' => e = .returned (.bool false) ∧ w' = w := by
  go_enter Tryd.func121, Tryd.ntmps121
  go_wp2
  go_ret
  exact ⟨rfl, rfl⟩

set_option maxHeartbeats 1000000 in
theorem trim_yes (s : ByteArray) (w : World) (h : 1 ≤ s.size) (hc : ((s.extract 0 1).toList == [35]) = true) :
    Calls Tryd.prog 113 #[.string s, .string ⟨#[35]⟩] w fun e w' => e = .returned (.string (s.extract 1 s.size)) ∧ w' = w := by
  have hx := fun w => has_big s w h
  rw [hc] at hx
  clear hc
  go_enter Tryd.func113, Tryd.ntmps113
  go_wp2_with (go_at_call 121; refine (hx _).mono ?_; rintro e w' ⟨rfl, rfl⟩)
  go_ret
  exact ⟨rfl, rfl⟩

set_option maxHeartbeats 1000000 in
theorem trim_no (s : ByteArray) (w : World) (h : 1 ≤ s.size) (hc : ((s.extract 0 1).toList == [35]) = false) :
    Calls Tryd.prog 113 #[.string s, .string ⟨#[35]⟩] w fun e w' => e = .returned (.string s) ∧ w' = w := by
  have hx := fun w => has_big s w h
  rw [hc] at hx
  clear hc
  go_enter Tryd.func113, Tryd.ntmps113
  go_wp2_with (go_at_call 121; refine (hx _).mono ?_; rintro e w' ⟨rfl, rfl⟩)
  go_ret
  exact ⟨rfl, rfl⟩

theorem trim_none (w : World) :
    Calls Tryd.prog 113 #[.string ⟨#[]⟩, .string ⟨#[35]⟩] w fun e w' => e = .returned (.string ⟨#[]⟩) ∧ w' = w := by
  go_enter Tryd.func113, Tryd.ntmps113
  go_wp2_with (go_at_call 121; refine (has_none _).mono ?_; rintro e w' ⟨rfl, rfl⟩)
  go_ret
  exact ⟨rfl, rfl⟩

theorem trimLite_any (s : ByteArray) (w : World) :
    Calls Tryd.prog 113 #[.string s, .string ⟨#[35]⟩] w fun e w' => ∃ u : ByteArray, (e = .returned (.string u) ∧ w' = w) ∧ u.size ≤ s.size := by
  by_cases h : 1 ≤ s.size
  · cases hc : ((s.extract 0 1).toList == [35]) with
    | true =>
      refine (trim_yes s w h hc).mono fun e w' he => ⟨_, he, ?_⟩
      rw [ByteArray.size_extract]; omega
    | false => exact (trim_no s w h hc).mono fun e w' he => ⟨_, he, Nat.le_refl _⟩
  · obtain rfl : s = ⟨#[]⟩ := ByteArray.ext (Array.eq_empty_of_size_eq_zero (Nat.eq_zero_of_not_pos h))
    exact (trim_none w).mono fun e w' he => ⟨_, he, Nat.le_refl _⟩

/-- strings.TrimPrefix at whatever text. -/
theorem trim_any (s : ByteArray) (w : World) :
    Calls Tryd.prog 101 #[.string s, .string ⟨#[35]⟩] w fun e w' => ∃ u : ByteArray, e = .returned (.string u) ∧ w' = w ∧ u.size ≤ s.size := by
  go_enter Tryd.func101, Tryd.ntmps101
  go_wp2_with (go_at_call 113; refine (trimLite_any s _).mono ?_; rintro e w' ⟨u, ⟨rfl, rfl⟩, hu⟩)
  go_ret
  exact ⟨_, rfl, rfl, hu⟩

/-- strings.TrimPrefix at a text that begins with the mark. -/
theorem trim_mark (s : ByteArray) (w : World) (h : 1 ≤ s.size) (hc : ((s.extract 0 1).toList == [35]) = true) :
    Calls Tryd.prog 101 #[.string s, .string ⟨#[35]⟩] w fun e w' => e = .returned (.string (s.extract 1 s.size)) ∧ w' = w := by
  have hx := fun w => trim_yes s w h hc
  clear hc
  go_enter Tryd.func101, Tryd.ntmps101
  go_wp2_with (go_at_call 113; refine (hx _).mono ?_; rintro e w' ⟨rfl, rfl⟩)
  go_ret
  exact ⟨rfl, rfl⟩

theorem cutLite_any (s : ByteArray) (w : World) (hl : s.size ≤ maxLen) :
    Calls Tryd.prog 112 #[.string s, .string ⟨#[35]⟩] w fun e w' => ∃ (f n : ByteArray) (b : Bool) (nq : Nat), (e = .returned (.tuple #[.string f, .string n, .bool b]) ∧ w' = w.drewN nq) ∧ f.size ≤ s.size ∧ n.size ≤ s.size := by
  by_cases h : Lib.indexByte s.data.toList 35 = -1
  · refine (cut_miss s w h).mono fun e w' he => ⟨_, _, _, 0, he, Nat.le_refl _, Nat.zero_le _⟩
  · have hge := Lib.indexByte_ge s.data.toList 35
    obtain ⟨k, hk⟩ : ∃ k : Nat, Lib.indexByte s.data.toList 35 = (k : Int) := ⟨(Lib.indexByte s.data.toList 35).toNat, by omega⟩
    obtain ⟨h1, _⟩ := Lib.indexByte_some hk
    obtain ⟨h2, _⟩ := get_at' h1
    refine (cut_hit s w k h2 hl hk).mono ?_
    rintro e w' ⟨he, n, hn⟩
    refine ⟨_, _, _, n, ⟨he, hn⟩, ?_, ?_⟩ <;> rw [ByteArray.size_extract] <;> omega

/-- strings.Cut at whatever text. -/
theorem cut_any (s : ByteArray) (w : World) (hl : s.size ≤ maxLen) :
    Calls Tryd.prog 100 #[.string s, .string ⟨#[35]⟩] w fun e w' => ∃ (f n : ByteArray) (b : Bool), e = .returned (.tuple #[.string f, .string n, .bool b]) ∧ (∃ nq, w' = w.drewN nq) ∧ f.size ≤ s.size ∧ n.size ≤ s.size := by
  go_enter Tryd.func100, Tryd.ntmps100
  go_wp2_with (go_at_call 112; refine (cutLite_any s _ hl).mono ?_; rintro e w' ⟨f, n, b, nq, ⟨rfl, rfl⟩, h1, h2⟩)
  go_ret3
  exact ⟨_, _, _, rfl, ⟨_, rfl⟩, h1, h2⟩

/-- strings.Cut at a text whose mark is known. -/
theorem cut_at (s : ByteArray) (w : World) (k : Nat) (hk : k < s.size) (hl : s.size ≤ maxLen) (h : Lib.indexByte s.data.toList 35 = (k : Int)) :
    Calls Tryd.prog 100 #[.string s, .string ⟨#[35]⟩] w fun e w' => e = .returned (.tuple #[.string (s.extract 0 k), .string (s.extract (k + 1) s.size), .bool true]) ∧ ∃ n, w' = w.drewN n := by
  have hx := fun w => cut_hit s w k hk hl h
  clear h
  go_enter Tryd.func100, Tryd.ntmps100
  go_wp2_with (go_at_call 112; refine (hx _).mono ?_; rintro e w' ⟨rfl, n, rfl⟩)
  go_ret3
  exact ⟨rfl, _, rfl⟩
end Go.Proofs.YtmbjflhhffcjdaaDoor


