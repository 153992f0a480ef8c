/- The walks over PrivateName, of the program and of the specification. -/
import Derived.Test.YtbdnnmcjnfbloaaDoorN1
import Derived.Deep.RegionHeld3
import Derived.Laws.BytesArg
namespace Go.Proofs.YtbdnnmcjnfbloaaDoor
open Go.RowKit
set_option linter.unusedVariables false

def figS (d : Nat) : ByteArray := ⟨#[UInt8.ofNat (48 + d)]⟩
/-- The private name of daemon d and s. -/
def privS (d : Nat) (s : ByteArray) : ByteArray := ((⟨#[35]⟩ ++ figS d) ++ ⟨#[35]⟩) ++ s

set_option maxHeartbeats 1000000 in
theorem small_any (d : Nat) (w : World) (h1 : 1 ≤ d) (h2 : d ≤ 9) :
    Calls Tryd.prog 47 #[.int .i64 d] w fun e w' => e = .returned (.string (figS d)) ∧ w' = w := by
  rcases (show d = 1 ∨ d = 2 ∨ d = 3 ∨ d = 4 ∨ d = 5 ∨ d = 6 ∨ d = 7 ∨ d = 8 ∨ d = 9 by omega) with rfl | rfl | rfl | rfl | rfl | rfl | rfl | rfl | rfl
  all_goals
    go_enter Tryd.func47, Tryd.ntmps47
    go_wp2
    go_ret
    exact ⟨rfl, rfl⟩

set_option maxHeartbeats 1000000 in
theorem fmt_any (d : Nat) (w : World) (h1 : 1 ≤ d) (h2 : d ≤ 9) :
    Calls Tryd.prog 42 #[.int .i64 d, .int .i64 10] w fun e w' => e = .returned (.string (figS d)) ∧ w' = w := by
  go_enter Tryd.func42, Tryd.ntmps42
  go_wp2_with (first | (go_at_call 47; refine (small_any d _ h1 h2).mono ?_; rintro e w1 ⟨rfl, rfl⟩))
  go_ret
  exact ⟨rfl, rfl⟩

theorem itoa_in (d : Nat) (w : World) (h1 : 1 ≤ d) (h2 : d ≤ 9) :
    Calls Tryd.prog 39 #[.int .i64 d] w fun e w' => e = .returned (.string (figS d)) ∧ w' = w := by
  go_enter Tryd.func39, Tryd.ntmps39
  go_wp2_with (first | (go_at_call 42; refine (fmt_any d _ h1 h2).mono ?_; rintro e w1 ⟨rfl, rfl⟩))
  go_ret
  exact ⟨rfl, rfl⟩

theorem itoa_any (d : Nat) (w : World) (h1 : 1 ≤ d) (h2 : d ≤ 9) :
    Calls Tryd.prog 32 #[.int .i64 d] w fun e w' => e = .returned (.string (figS d)) ∧ w' = w := by
  go_enter Tryd.func32, Tryd.ntmps32
  go_wp2_with (first | (go_at_call 39; refine (itoa_in d _ h1 h2).mono ?_; rintro e w1 ⟨rfl, rfl⟩))
  go_ret
  exact ⟨rfl, rfl⟩

theorem implDec (d : Nat) (w : World) (h1 : 1 ≤ d) (h2 : d ≤ 9) :
    Calls Tryd.prog 17 #[.int .i64 d] w fun e w' => e = .returned (.string (figS d)) ∧ w' = w := by
  go_enter Tryd.func17, Tryd.ntmps17
  go_wp2_with (first | (go_at_call 32; refine (itoa_any d _ h1 h2).mono ?_; rintro e w1 ⟨rfl, rfl⟩))
  go_ret
  exact ⟨rfl, rfl⟩

theorem specFig (d : Nat) (w : World) (h1 : 1 ≤ d) (h2 : d ≤ 9) :
    Calls Tryd.prog 37 #[.int .i64 d] w fun e w' => e = .returned (.int .u8 (48 + d)) ∧ w' = w := by
  go_enter Tryd.func37, Tryd.ntmps37
  go_wp2
  go_ret
  exact ⟨by first | rfl | (simp; done), rfl⟩

theorem strOf_one {w : World} {b : Int} : (convert 22 9 (.slice (some ⟨w.heap.size, 0, none⟩) 1 1)).run Tryd.prog (w.alloc (.cells #[.int .u8 b] 5)) = .ok (.string (strOfNums [b])) (w.alloc (.cells #[.int .u8 b] 5)) := by
  refine run_convert_bytes_arg _ 22 5 Tryd.underlying22 Tryd.underlying5 w.heap.size 0 1 1 [b] rfl ?_ 9 Tryd.underlying9
  intro i hi
  obtain rfl : i = 0 := by omega
  simp

theorem figS_eq (d : Nat) (h2 : d ≤ 9) : strOfNums [(48 : Int) + d] ++ ⟨#[]⟩ = figS d := by
  have hd : d = 0 ∨ d = 1 ∨ d = 2 ∨ d = 3 ∨ d = 4 ∨ d = 5 ∨ d = 6 ∨ d = 7 ∨ d = 8 ∨ d = 9 := by omega
  rcases hd with rfl | rfl | rfl | rfl | rfl | rfl | rfl | rfl | rfl | rfl <;> rfl

set_option maxRecDepth 100000 in
set_option maxHeartbeats 1000000 in
theorem specDec (d : Nat) (w : World) (h1 : 1 ≤ d) (h2 : d ≤ 9) :
    Calls Tryd.prog 25 #[.int .i64 d] w fun e w' => e = .returned (.string (figS d)) ∧ Below w.heap.size w w' := by
  have hN0 : ((d : Int) == 0) = false := by simp; omega
  have hN1 : decide ((d : Int) < 0) = false := by simp
  have HF := figS_eq d h2
  have HF' : Hid (strOfNums [(48 : Int) + d] ++ ⟨#[]⟩ = figS d) := HF
  clear HF
  go_enter Tryd.func25, Tryd.ntmps25
  go_wp2
  go_loopw [0, 4] (fun n v wr => (∃ (m : Nat) (s : ByteArray), n = .int .i64 m ∧ v = .string s ∧ Hid ((m = d ∧ s = ⟨#[]⟩) ∨ (m = 0 ∧ s = figS d))) ∧ Below w.heap.size w wr) (fun n _ _ => (intOf n).toNat)
  case atStart => exact ⟨⟨d, _, rfl, rfl, Or.inl ⟨rfl, rfl⟩⟩, Below.refl _ _⟩
  case round =>
    obtain ⟨⟨m, s, rfl, rfl, hst⟩, hb⟩ := hrel
    have hsz := hb.size
    rcases hst.out with ⟨rfl, rfl⟩ | ⟨rfl, rfl⟩
    · have hmod : Int.tmod (m : Int) 10 = (m : Int) := by rw [Int.tmod_eq_emod_of_nonneg (by omega)]; omega
      have hdiv : Int.tdiv (m : Int) 10 = 0 := by rw [Int.tdiv_eq_ediv_of_nonneg (by omega)]; omega
      have hone := fun b => strOf_one (w := wr) (b := b)
      go_wp2_with (first | (go_at_call 37; refine (specFig _ _ h1 h2).mono ?_; rintro e w1 ⟨rfl, rfl⟩))
      go_roundw
      case rel => exact ⟨⟨0, _, by go_num, rfl, Or.inr ⟨rfl, HF'.out⟩⟩, hb.alloc hsz _⟩
      case measure => simp [intOf]; omega
    · go_wp2
      go_ret
      exact ⟨rfl, hb⟩
end Go.Proofs.YtbdnnmcjnfbloaaDoor
