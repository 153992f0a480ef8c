/- Joined texts: CPdc CPpn. -/
import Derived.Test.YtmbjflhhffcjdaaDoorWsq3
import Derived.Deep.RegionHeld3
import Derived.Laws.BytesArg
/- The walks over PrivateName, of the program and of the specification. -/
namespace Go.Proofs.YtmbjflhhffcjdaaDoor
open Go.RowKit
set_option linter.unusedVariables false

def figS (d : Nat) : ByteArray := ⟨#[UInt8.ofNat (48 + d)]⟩
/-- The private name of daemon d and s. -/
def privS (d : Nat) (s : ByteArray) : ByteArray := ((⟨#[35]⟩ ++ figS d) ++ ⟨#[35]⟩) ++ s

set_option maxHeartbeats 1000000 in
theorem small_any (d : Nat) (w : World) (h1 : 1 ≤ d) (h2 : d ≤ 9) :
    Calls Tryd.prog 134 #[.int .i64 d] w fun e w' => e = .returned (.string (figS d)) ∧ w' = w := by
  rcases (show d = 1 ∨ d = 2 ∨ d = 3 ∨ d = 4 ∨ d = 5 ∨ d = 6 ∨ d = 7 ∨ d = 8 ∨ d = 9 by omega) with rfl | rfl | rfl | rfl | rfl | rfl | rfl | rfl | rfl
  all_goals
    go_enter Tryd.func134, Tryd.ntmps134
    go_wp2
    go_ret
    exact ⟨rfl, rfl⟩

set_option maxHeartbeats 1000000 in
theorem fmt_any (d : Nat) (w : World) (h1 : 1 ≤ d) (h2 : d ≤ 9) :
    Calls Tryd.prog 133 #[.int .i64 d, .int .i64 10] w fun e w' => e = .returned (.string (figS d)) ∧ w' = w := by
  go_enter Tryd.func133, Tryd.ntmps133
  go_wp2_with (first | (go_at_call 134; refine (small_any d _ h1 h2).mono ?_; rintro e w1 ⟨rfl, rfl⟩))
  go_ret
  exact ⟨rfl, rfl⟩

theorem itoa_in (d : Nat) (w : World) (h1 : 1 ≤ d) (h2 : d ≤ 9) :
    Calls Tryd.prog 129 #[.int .i64 d] w fun e w' => e = .returned (.string (figS d)) ∧ w' = w := by
  go_enter Tryd.func129, Tryd.ntmps129
  go_wp2_with (first | (go_at_call 133; refine (fmt_any d _ h1 h2).mono ?_; rintro e w1 ⟨rfl, rfl⟩))
  go_ret
  exact ⟨rfl, rfl⟩

theorem itoa_any (d : Nat) (w : World) (h1 : 1 ≤ d) (h2 : d ≤ 9) :
    Calls Tryd.prog 122 #[.int .i64 d] w fun e w' => e = .returned (.string (figS d)) ∧ w' = w := by
  go_enter Tryd.func122, Tryd.ntmps122
  go_wp2_with (first | (go_at_call 129; refine (itoa_in d _ h1 h2).mono ?_; rintro e w1 ⟨rfl, rfl⟩))
  go_ret
  exact ⟨rfl, rfl⟩

theorem implDec (d : Nat) (w : World) (h1 : 1 ≤ d) (h2 : d ≤ 9) :
    Calls Tryd.prog 115 #[.int .i64 d] w fun e w' => e = .returned (.string (figS d)) ∧ w' = w := by
  go_enter Tryd.func115, Tryd.ntmps115
  go_wp2_with (first | (go_at_call 122; refine (itoa_any d _ h1 h2).mono ?_; rintro e w1 ⟨rfl, rfl⟩))
  go_ret
  exact ⟨rfl, rfl⟩

theorem specFig (d : Nat) (w : World) (h1 : 1 ≤ d) (h2 : d ≤ 9) :
    Calls Tryd.prog 130 #[.int .i64 d] w fun e w' => e = .returned (.int .u8 (48 + d)) ∧ w' = w := by
  go_enter Tryd.func130, Tryd.ntmps130
  go_wp2
  go_ret
  exact ⟨by first | rfl | (simp; done), rfl⟩

theorem strOf_one {w : World} {b : Int} : (convert 22 9 (.slice (some ⟨w.heap.size, 0, none⟩) 1 1)).run Tryd.prog (w.alloc (.cells #[.int .u8 b] 5)) = .ok (.string (strOfNums [b])) (w.alloc (.cells #[.int .u8 b] 5)) := by
  refine run_convert_bytes_arg _ 22 5 Tryd.underlying22 Tryd.underlying5 w.heap.size 0 1 1 [b] rfl ?_ 9 Tryd.underlying9
  intro i hi
  obtain rfl : i = 0 := by omega
  simp

theorem figS_eq (d : Nat) (h2 : d ≤ 9) : strOfNums [(48 : Int) + d] ++ ⟨#[]⟩ = figS d := by
  have hd : d = 0 ∨ d = 1 ∨ d = 2 ∨ d = 3 ∨ d = 4 ∨ d = 5 ∨ d = 6 ∨ d = 7 ∨ d = 8 ∨ d = 9 := by omega
  rcases hd with rfl | rfl | rfl | rfl | rfl | rfl | rfl | rfl | rfl | rfl <;> rfl

set_option maxRecDepth 100000 in
set_option maxHeartbeats 1000000 in
theorem specDec (d : Nat) (w : World) (h1 : 1 ≤ d) (h2 : d ≤ 9) :
    Calls Tryd.prog 123 #[.int .i64 d] w fun e w' => e = .returned (.string (figS d)) ∧ Below w.heap.size w w' := by
  have hN0 : ((d : Int) == 0) = false := by simp; omega
  have hN1 : decide ((d : Int) < 0) = false := by simp
  have HF := figS_eq d h2
  have HF' : Hid (strOfNums [(48 : Int) + d] ++ ⟨#[]⟩ = figS d) := HF
  clear HF
  go_enter Tryd.func123, Tryd.ntmps123
  go_wp2
  go_loopw [0, 4] (fun n v wr => (∃ (m : Nat) (s : ByteArray), n = .int .i64 m ∧ v = .string s ∧ Hid ((m = d ∧ s = ⟨#[]⟩) ∨ (m = 0 ∧ s = figS d))) ∧ Below w.heap.size w wr) (fun n _ _ => (intOf n).toNat)
  case atStart => exact ⟨⟨d, _, rfl, rfl, Or.inl ⟨rfl, rfl⟩⟩, Below.refl _ _⟩
  case round =>
    obtain ⟨⟨m, s, rfl, rfl, hst⟩, hb⟩ := hrel
    have hsz := hb.size
    rcases hst.out with ⟨rfl, rfl⟩ | ⟨rfl, rfl⟩
    · have hmod : Int.tmod (m : Int) 10 = (m : Int) := by rw [Int.tmod_eq_emod_of_nonneg (by omega)]; omega
      have hdiv : Int.tdiv (m : Int) 10 = 0 := by rw [Int.tdiv_eq_ediv_of_nonneg (by omega)]; omega
      have hone := fun b => strOf_one (w := wr) (b := b)
      go_wp2_with (first | (go_at_call 130; refine (specFig _ _ h1 h2).mono ?_; rintro e w1 ⟨rfl, rfl⟩))
      go_roundw
      case rel => exact ⟨⟨0, _, by go_num, rfl, Or.inr ⟨rfl, HF'.out⟩⟩, hb.alloc hsz _⟩
      case measure => simp [intOf]; omega
    · go_wp2
      go_ret
      exact ⟨rfl, hb⟩
end Go.Proofs.YtmbjflhhffcjdaaDoor


/- The walks over PrivateName, of the program and of the specification, and the law on it. -/
namespace Go.Proofs.YtmbjflhhffcjdaaDoor
open Go.RowKit
set_option linter.unusedVariables false

/-- What PrivateName answers. -/
def privB (d : Int) (s : ByteArray) : ByteArray := if 1 ≤ d ∧ d ≤ 9 ∧ nmB s = true then privS d.toNat s else ⟨#[]⟩

set_option maxRecDepth 100000 in
set_option maxHeartbeats 1000000 in
theorem specPriv (d : Int) (s : ByteArray) (w : World) :
    Calls Tryd.prog 117 #[.int .i64 d, .string s] w fun e w' => e = .returned (.string (privB d s)) ∧ Below w.heap.size w w' := by
  by_cases h : 1 ≤ d ∧ d ≤ 9
  · have hin : decide ((1 : Int) ≤ d ∧ d ≤ 9) = true := by simp; omega
    obtain ⟨h1, h2⟩ := h
    cases hn : nmB s with
    | true =>
      have e1 : privB d s = privS d.toNat s := by rw [privB, if_pos ⟨h1, h2, hn⟩]
      have hz : Hid (NmOk s) := nmB_iff.1 hn
      have hz1 : s.size ≤ 12 := hz.out.2.1
      have hc := fun w => specName_any s w
      rw [hn] at hc
      clear hn
      obtain ⟨n, rfl⟩ : ∃ n : Nat, d = n := ⟨d.toNat, by omega⟩
      rw [e1, Int.toNat_natCast, privS]
      clear e1
      have hfs : (figS n).size = 1 := rfl
      obtain ⟨F, hF⟩ : ∃ F, F = figS n := ⟨_, rfl⟩
      have hdc := fun w => specDec n w (by omega) (by omega)
      rw [← hF] at hdc hfs ⊢
      clear hF
      go_enter Tryd.func117, Tryd.ntmps117
      go_wp2_with (first | (go_at_call 46; refine (in_any _ _ _ _).mono ?_; rintro e w1 ⟨rfl, rfl⟩; rw [hin]) | (go_at_call 66; refine (hc _).mono ?_; rintro e w2 ⟨rfl, hb2⟩) | (go_at_call 123; refine (hdc _).mono ?_; rintro e w3 ⟨rfl, hb3⟩))
      go_ret
      exact ⟨rfl, hb2.trans (hb3.mono hb2.size)⟩
    | false =>
      have e1 : privB d s = ⟨#[]⟩ := by rw [privB, if_neg (by simp [hn])]
      have hc := fun w => specName_any s w
      rw [hn] at hc
      rw [e1]
      clear hn e1
      go_enter Tryd.func117, Tryd.ntmps117
      go_wp2_with (first | (go_at_call 46; refine (in_any _ _ _ _).mono ?_; rintro e w1 ⟨rfl, rfl⟩; rw [hin]) | (go_at_call 66; refine (hc _).mono ?_; rintro e w2 ⟨rfl, hb2⟩))
      go_ret
      exact ⟨rfl, hb2⟩
  · have hin : decide ((1 : Int) ≤ d ∧ d ≤ 9) = false := by simp; omega
    have e1 : privB d s = ⟨#[]⟩ := by rw [privB, if_neg (by omega)]
    rw [e1]
    clear h e1
    go_enter Tryd.func117, Tryd.ntmps117
    go_wp2_with (first | (go_at_call 46; refine (in_any _ _ _ _).mono ?_; rintro e w1 ⟨rfl, rfl⟩; rw [hin]))
    go_ret
    exact ⟨rfl, Below.refl _ _⟩

set_option maxRecDepth 100000 in
set_option maxHeartbeats 1000000 in
theorem implPriv (d : Int) (s : ByteArray) (w : World) :
    Calls Tryd.prog 103 #[.int .i64 d, .string s] w fun e w' => e = .returned (.string (privB d s)) ∧ Below w.heap.size w w' := by
  by_cases h : 1 ≤ d ∧ d ≤ 9
  · obtain ⟨h1, h2⟩ := h
    cases hn : nmB s with
    | true =>
      have e1 : privB d s = privS d.toNat s := by rw [privB, if_pos ⟨h1, h2, hn⟩]
      have hz : Hid (NmOk s) := nmB_iff.1 hn
      have hz1 : s.size ≤ 12 := hz.out.2.1
      have hc := fun w => implName_any s w
      rw [hn] at hc
      clear hn
      obtain ⟨n, rfl⟩ : ∃ n : Nat, d = n := ⟨d.toNat, by omega⟩
      rw [e1, Int.toNat_natCast, privS]
      clear e1
      have hfs : (figS n).size = 1 := rfl
      obtain ⟨F, hF⟩ : ∃ F, F = figS n := ⟨_, rfl⟩
      have hdc := fun w => implDec n w (by omega) (by omega)
      rw [← hF] at hdc hfs ⊢
      clear hF
      go_enter Tryd.func103, Tryd.ntmps103
      go_wp2_with (first | (go_at_call 52; refine (hc _).mono ?_; rintro e w2 ⟨rfl, hb2⟩) | (go_at_call 115; refine (hdc _).mono ?_; rintro e w3 ⟨rfl, rfl⟩))
      go_ret
      exact ⟨rfl, hb2⟩
    | false =>
      have e1 : privB d s = ⟨#[]⟩ := by rw [privB, if_neg (by simp [hn])]
      have hc := fun w => implName_any s w
      rw [hn] at hc
      rw [e1]
      clear hn e1
      go_enter Tryd.func103, Tryd.ntmps103
      go_wp2_with (first | (go_at_call 52; refine (hc _).mono ?_; rintro e w2 ⟨rfl, hb2⟩))
      go_ret
      exact ⟨rfl, hb2⟩
  · have e1 : privB d s = ⟨#[]⟩ := by rw [privB, if_neg (by omega)]
    rw [e1]
    clear e1
    rcases (show d < 1 ∨ 9 < d by omega) with h1 | h1
    · clear h
      go_enter Tryd.func103, Tryd.ntmps103
      go_wp2
      go_ret
      exact ⟨rfl, Below.refl _ _⟩
    · have h2 : ¬ d < 1 := by omega
      clear h
      go_enter Tryd.func103, Tryd.ntmps103
      go_wp2
      go_ret
      exact ⟨rfl, Below.refl _ _⟩

end Go.Proofs.YtmbjflhhffcjdaaDoor


