/- Joined texts: S1. -/
import Derived.Test.YtlflcjdpdbdbkaaDoorChecked
import Derived.Test.YtlflcjdpdbdbkaaDoorBj15
import Derived.Test.YtlflcjdpdbdbkaaDoorBj16
import Derived.Lib.LaidTab
import Derived.Lib.SmallJoins
import Derived.WalkKit
import Derived.WalkSpells
import Derived.WalkLawsBesides
/- The walks over one byte taken into a sum, over SumMore and SumOf, of the program and of the specification. -/
namespace Go.Proofs.YtlflcjdpdbdbkaaDoor
open Go.RowKit Pl
set_option linter.unusedVariables false

theorem gTab : Tryd.prog.globalNamed "loop.example/g00183/impl.halvedFour" = some 0 := by kernel_rfl
/-- the program's table, as the row lists it. -/
def TabV (w : World) : Prop := Lib.TabIs Tryd.prog w "loop.example/g00183/impl.halvedFour" .u32 (tab4.map fun n : Nat => (n : Int))
/-- the program's table holds what four halvings make. -/
def Tab (w : World) : Prop := ∀ i, i < 16 → w.cell? ⟨0, i, none⟩ = some (.int .u32 (tab4.getD i 0 : Nat))

theorem TabV.tab {w : World} (h : TabV w) : Tab w := by
  intro i hi
  have hl : tab4.length = 16 := rfl
  have h1 := Lib.TabIs.cell h gTab i (by rw [List.length_map, hl]; exact hi)
  rw [h1]
  simp [List.getD, hl, hi]
theorem Tab.pos {w : World} (h : Tab w) : 0 < w.heap.size := by
  have h1 := h 0 (by decide)
  rcases Nat.lt_or_ge 0 w.heap.size with h2 | h2
  · exact h2
  · exact absurd h1 (by simp [World.cell?, Array.getElem?_eq_none h2])
theorem Tab.keep {w w' : World} {B : Nat} (h : Tab w) (hb : Below B w w') (hB : 0 < B) : Tab w' := fun i hi => (hb.cell (p := ⟨0, i, none⟩) hB).trans (h i hi)
theorem Tab.below {w w' : World} (h : Tab w) (hb : Below w.heap.size w w') : Tab w' := h.keep hb h.pos
theorem Tab.drew {w : World} (h : Tab w) : Tab w.drew := h
theorem Tab.at {w : World} (h : Tab w) (i : Nat) (hi : i < 16) : w.cell? ⟨0, i, none⟩ = some (.int .u32 (tab4.getD i 0 : Nat)) := h i hi

theorem tab4_lt : ∀ j, j < 16 → tab4.getD j 0 < 4294967296 := by decide

set_option maxHeartbeats 1000000 in
theorem with_any (s b : Nat) (w : World) (hs : s < 4294967296) (hb : b < 256) (ht : Hid (Tab w)) :
    Calls Tryd.prog 92 #[.int .u32 s, .int .u8 b] w fun e w' => e = .returned (.int .u32 (stepS s b : Nat)) ∧ w' = w := by
  obtain ⟨x, hx⟩ : ∃ x, x = s ^^^ b := ⟨_, rfl⟩
  have hxl : x < 4294967296 := by rw [hx]; exact xor_lt32 hs (by omega)
  obtain ⟨y, hy⟩ : ∃ y, y = x / 16 ^^^ tab4.getD (x % 16) 0 := ⟨_, rfl⟩
  have ty := tab4_lt (x % 16) (Nat.mod_lt _ (by decide))
  have hyl : y < 4294967296 := by rw [hy]; exact xor_lt32 (by omega) ty
  obtain ⟨z, hz⟩ : ∃ z, z = y / 16 ^^^ tab4.getD (y % 16) 0 := ⟨_, rfl⟩
  have tz := tab4_lt (y % 16) (Nat.mod_lt _ (by decide))
  have e1 : bits .xor .u32 (s : Int) (b : Int) = (x : Int) := by rw [u32_xor_nat s b hs (by omega), hx]
  have e2 : bits .xor .u32 ((x : Int) / 16) ((tab4.getD (x % 16) 0 : Nat) : Int) = (y : Int) := by
    rw [show ((x : Int) / 16) = ((x / 16 : Nat) : Int) from rfl, u32_xor_nat _ _ (by omega) ty, hy]
  have e3 : bits .xor .u32 ((y : Int) / 16) ((tab4.getD (y % 16) 0 : Nat) : Int) = (z : Int) := by
    rw [show ((y : Int) / 16) = ((y / 16 : Nat) : Int) from rfl, u32_xor_nat _ _ (by omega) tz, hz]
  have c1 := ht.out.at (x % 16) (Nat.mod_lt _ (by decide))
  have c2 := ht.out.at (y % 16) (Nat.mod_lt _ (by decide))
  have ez : stepS s b = z := by
    show halves (4 + 4) (s ^^^ b) = z
    rw [halves_add, ← hx, halves4 x, ← hy, halves4 y, ← hz]
  rw [ez]
  clear hx hy hz ez
  generalize tab4.getD (x % 16) 0 = T1 at e2 c1 ty
  generalize tab4.getD (y % 16) 0 = T2 at e3 c2 tz
  go_enter Tryd.func92, Tryd.ntmps92
  go_wp2
  go_ret
  exact ⟨rfl, rfl⟩

theorem idx_byte (t : ByteArray) (k : Nat) (hk : k < t.size) : (t.data.toList.take (k + 1)) = t.data.toList.take k ++ [t[k]] := by
  rw [List.take_succ_eq_append_getElem (by simpa using hk)]; rfl

theorem sumL_next (s : Nat) (t : ByteArray) (k : Nat) (hk : k < t.size) : sumL s (t.data.toList.take (k + 1)) = stepS (sumL s (t.data.toList.take k)) (t[k]'hk).toNat := by
  rw [idx_byte t k hk, sumL_append]; rfl

set_option maxRecDepth 100000 in
set_option maxHeartbeats 1000000 in
theorem implMore (s : Nat) (t : ByteArray) (w : World) (hs : s < 4294967296) (hl : t.size ≤ 1048577) (ht : Hid (Tab w)) :
    Calls Tryd.prog 82 #[.int .u32 s, .string t] w fun e w' => e = .returned (.int .u32 (sumL s t.data.toList : Nat)) ∧ w' = w := by
  go_enter Tryd.func82, Tryd.ntmps82
  go_wp2
  go_loop [5, 6] (fun v i => ∃ (m k : Nat), v = .int .u32 m ∧ i = .int .i64 k ∧ k ≤ t.size ∧ m < 4294967296 ∧ Hid (m = sumL s (t.data.toList.take k))) (fun _ i => t.size - (intOf i).toNat)
  case atStart => exact ⟨s, 0, rfl, rfl, by omega, hs, rfl⟩
  case round =>
    obtain ⟨m, k, rfl, rfl, hk, hm, hst⟩ := hrel
    by_cases h1 : k < t.size
    · have hb8 : (t[k]'h1).toNat < 256 := UInt8.toNat_lt _
      have hst2 : Hid (stepS m (t[k]'h1).toNat = sumL s (t.data.toList.take (k + 1))) := by
        show _ = _
        rw [sumL_next s t k h1, ← hst.out]
      have hlt := stepS_lt hm hb8
      go_wp2_with (first | (go_at_call 92; refine (with_any m _ _ hm hb8 ht).mono ?_; rintro e w1 ⟨rfl, rfl⟩))
      go_round
      case rel => exact ⟨_, k + 1, rfl, by go_num, by omega, hlt, hst2⟩
      case measure => simp [intOf]; omega
    · have hke : k = t.size := by omega
      go_wp2
      go_ret
      have : m = sumL s t.data.toList := by
        rw [hst.out, List.take_of_length_le (by rw [size_list]; omega)]
      exact ⟨by rw [this]; rfl, rfl⟩

set_option maxRecDepth 100000 in
set_option maxHeartbeats 1000000 in
theorem specMore (s : Nat) (t : ByteArray) (w : World) (hs : s < 4294967296) (hl : t.size ≤ 1048577) :
    Calls Tryd.prog 88 #[.int .u32 s, .string t] w fun e w' => e = .returned (.int .u32 (sumL s t.data.toList : Nat)) ∧ w' = w := by
  go_enter Tryd.func88, Tryd.ntmps88
  go_wp2
  go_loop [0, 5, 6, 7] (fun v i _ _ => ∃ (m k : Nat), v = .int .u32 m ∧ i = .int .i64 k ∧ k ≤ t.size ∧ m < 4294967296 ∧ Hid (m = sumL s (t.data.toList.take k))) (fun _ i _ _ => t.size - (intOf i).toNat)
  case atStart => exact ⟨s, 0, rfl, rfl, by omega, hs, rfl⟩
  case round =>
    obtain ⟨m, k, rfl, rfl, hk, hm, hst⟩ := hrel
    by_cases h1 : k < t.size
    · have hb8 : (t[k]'h1).toNat < 256 := UInt8.toNat_lt _
      obtain ⟨x, hx⟩ : ∃ x, x = m ^^^ (t[k]'h1).toNat := ⟨_, rfl⟩
      have hxl : x < 4294967296 := by rw [hx]; exact xor_lt32 hm (by omega)
      have e1 : bits .xor .u32 (m : Int) ((t[k]'h1).toNat : Int) = (x : Int) := by rw [u32_xor_nat m _ hm (by omega), hx]
      have hst2 : Hid (halves 8 x = sumL s (t.data.toList.take (k + 1))) := by
        show _ = _
        rw [sumL_next s t k h1, ← hst.out, stepS, hx]
      clear hx
      go_wp2
      go_loop [0, 6, 7] (fun v i _ => ∃ (n j : Nat), v = .int .u32 n ∧ i = .int .i64 j ∧ j ≤ 8 ∧ n < 4294967296 ∧ Hid (n = halves j x)) (fun _ i _ => 8 - (intOf i).toNat)
      case atStart => exact ⟨x, 0, rfl, rfl, by omega, hxl, rfl⟩
      case round =>
        obtain ⟨n, j, rfl, rfl, hj, hn, hsj⟩ := hrel
        by_cases h2 : j < 8
        · by_cases h3 : n % 2 = 1
          · obtain ⟨y, hy⟩ : ∃ y, y = n / 2 ^^^ poly := ⟨_, rfl⟩
            have e2 : bits .xor .u32 ((n : Int) / 2) 3558460437 = (y : Int) := by
              rw [show ((n : Int) / 2) = ((n / 2 : Nat) : Int) from rfl, show (3558460437 : Int) = ((3558460437 : Nat) : Int) from rfl, u32_xor_nat _ _ (by omega) (by omega), hy]; rfl
            have hyh : y = half n := by rw [hy, half, if_pos h3]
            have hsy : Hid (y = halves (j + 1) x) := by
              show _ = _
              rw [hyh, hsj.out, halves_succ]
            have hyl : y < 4294967296 := by rw [hyh]; exact half_lt hn
            clear hy hyh
            go_wp2
            go_round
            case rel => exact ⟨y, j + 1, rfl, by go_num, by omega, hyl, hsy⟩
            case measure => simp [intOf]; omega
          · have hsy : Hid (n / 2 = halves (j + 1) x) := by
              show _ = _
              rw [halves_succ, ← hsj.out, half, if_neg h3]
            go_wp2
            go_round
            case rel => exact ⟨n / 2, j + 1, by go_num, by go_num, by omega, by omega, hsy⟩
            case measure => simp [intOf]; omega
        · have hj8 : j = 8 := by omega
          subst hj8
          go_wp2
          go_round
          case rel => exact ⟨n, k + 1, rfl, by go_num, by omega, hn, (show n = _ from hsj.out.trans hst2.out)⟩
          case measure => simp [intOf]; omega
    · have hke : k = t.size := by omega
      go_wp2
      go_ret
      have : m = sumL s t.data.toList := by
        rw [hst.out, List.take_of_length_le (by rw [size_list]; omega)]
      exact ⟨by rw [this]; rfl, rfl⟩

set_option maxHeartbeats 400000 in
theorem implOf (t : ByteArray) (w : World) (hl : t.size ≤ 1048577) (ht : Hid (Tab w)) :
    Calls Tryd.prog 57 #[.string t] w fun e w' => e = .returned (.int .u32 (sumT t : Nat)) ∧ w' = w := by
  go_enter Tryd.func57, Tryd.ntmps57
  go_wp2_with (first | (go_at_call 82; refine (implMore 4294967295 t _ (by omega) hl ht).mono ?_; rintro e w1 ⟨rfl, rfl⟩))
  go_ret
  exact ⟨rfl, rfl⟩

set_option maxHeartbeats 400000 in
theorem specOf (t : ByteArray) (w : World) (hl : t.size ≤ 1048577) :
    Calls Tryd.prog 69 #[.string t] w fun e w' => e = .returned (.int .u32 (sumT t : Nat)) ∧ w' = w := by
  go_enter Tryd.func69, Tryd.ntmps69
  go_wp2_with (first | (go_at_call 88; refine (specMore 4294967295 t _ (by omega) hl).mono ?_; rintro e w1 ⟨rfl, rfl⟩))
  go_ret
  exact ⟨rfl, rfl⟩

end Go.Proofs.YtlflcjdpdbdbkaaDoor

