/- The walks over PrivateName, of the program and of the specification, and the law on it. -/
import Derived.Test.YtbdnnmcjnfbloaaDoorP1
namespace Go.Proofs.YtbdnnmcjnfbloaaDoor
open Go.RowKit
set_option linter.unusedVariables false

/-- What PrivateName answers. -/
def privB (d : Int) (s : ByteArray) : ByteArray := if 1 ≤ d ∧ d ≤ 9 ∧ nmB s = true then privS d.toNat s else ⟨#[]⟩

set_option maxRecDepth 100000 in
set_option maxHeartbeats 1000000 in
theorem specPriv (d : Int) (s : ByteArray) (w : World) :
    Calls Tryd.prog 12 #[.int .i64 d, .string s] w fun e w' => e = .returned (.string (privB d s)) ∧ Below w.heap.size w w' := by
  by_cases h : 1 ≤ d ∧ d ≤ 9
  · have hin : decide ((1 : Int) ≤ d ∧ d ≤ 9) = true := by simp; omega
    obtain ⟨h1, h2⟩ := h
    cases hn : nmB s with
    | true =>
      have e1 : privB d s = privS d.toNat s := by rw [privB, if_pos ⟨h1, h2, hn⟩]
      have hz : Hid (NmOk s) := nmB_iff.1 hn
      have hz1 : s.size ≤ 12 := hz.out.2.1
      have hc := fun w => specName_any s w
      rw [hn] at hc
      clear hn
      obtain ⟨n, rfl⟩ : ∃ n : Nat, d = n := ⟨d.toNat, by omega⟩
      rw [e1, Int.toNat_natCast, privS]
      clear e1
      have hfs : (figS n).size = 1 := rfl
      obtain ⟨F, hF⟩ : ∃ F, F = figS n := ⟨_, rfl⟩
      have hdc := fun w => specDec n w (by omega) (by omega)
      rw [← hF] at hdc hfs ⊢
      clear hF
      go_enter Tryd.func12, Tryd.ntmps12
      go_wp2_with (first | (go_at_call 24; refine (in_any _ _ _ _).mono ?_; rintro e w1 ⟨rfl, rfl⟩; rw [hin]) | (go_at_call 11; refine (hc _).mono ?_; rintro e w2 ⟨rfl, hb2⟩) | (go_at_call 25; refine (hdc _).mono ?_; rintro e w3 ⟨rfl, hb3⟩))
      go_ret
      exact ⟨rfl, hb2.trans (hb3.mono hb2.size)⟩
    | false =>
      have e1 : privB d s = ⟨#[]⟩ := by rw [privB, if_neg (by simp [hn])]
      have hc := fun w => specName_any s w
      rw [hn] at hc
      rw [e1]
      clear hn e1
      go_enter Tryd.func12, Tryd.ntmps12
      go_wp2_with (first | (go_at_call 24; refine (in_any _ _ _ _).mono ?_; rintro e w1 ⟨rfl, rfl⟩; rw [hin]) | (go_at_call 11; refine (hc _).mono ?_; rintro e w2 ⟨rfl, hb2⟩))
      go_ret
      exact ⟨rfl, hb2⟩
  · have hin : decide ((1 : Int) ≤ d ∧ d ≤ 9) = false := by simp; omega
    have e1 : privB d s = ⟨#[]⟩ := by rw [privB, if_neg (by omega)]
    rw [e1]
    clear h e1
    go_enter Tryd.func12, Tryd.ntmps12
    go_wp2_with (first | (go_at_call 24; refine (in_any _ _ _ _).mono ?_; rintro e w1 ⟨rfl, rfl⟩; rw [hin]))
    go_ret
    exact ⟨rfl, Below.refl _ _⟩

set_option maxRecDepth 100000 in
set_option maxHeartbeats 1000000 in
theorem implPriv (d : Int) (s : ByteArray) (w : World) :
    Calls Tryd.prog 8 #[.int .i64 d, .string s] w fun e w' => e = .returned (.string (privB d s)) ∧ Below w.heap.size w w' := by
  by_cases h : 1 ≤ d ∧ d ≤ 9
  · obtain ⟨h1, h2⟩ := h
    cases hn : nmB s with
    | true =>
      have e1 : privB d s = privS d.toNat s := by rw [privB, if_pos ⟨h1, h2, hn⟩]
      have hz : Hid (NmOk s) := nmB_iff.1 hn
      have hz1 : s.size ≤ 12 := hz.out.2.1
      have hc := fun w => implName_any s w
      rw [hn] at hc
      clear hn
      obtain ⟨n, rfl⟩ : ∃ n : Nat, d = n := ⟨d.toNat, by omega⟩
      rw [e1, Int.toNat_natCast, privS]
      clear e1
      have hfs : (figS n).size = 1 := rfl
      obtain ⟨F, hF⟩ : ∃ F, F = figS n := ⟨_, rfl⟩
      have hdc := fun w => implDec n w (by omega) (by omega)
      rw [← hF] at hdc hfs ⊢
      clear hF
      go_enter Tryd.func8, Tryd.ntmps8
      go_wp2_with (first | (go_at_call 10; refine (hc _).mono ?_; rintro e w2 ⟨rfl, hb2⟩) | (go_at_call 17; refine (hdc _).mono ?_; rintro e w3 ⟨rfl, rfl⟩))
      go_ret
      exact ⟨rfl, hb2⟩
    | false =>
      have e1 : privB d s = ⟨#[]⟩ := by rw [privB, if_neg (by simp [hn])]
      have hc := fun w => implName_any s w
      rw [hn] at hc
      rw [e1]
      clear hn e1
      go_enter Tryd.func8, Tryd.ntmps8
      go_wp2_with (first | (go_at_call 10; refine (hc _).mono ?_; rintro e w2 ⟨rfl, hb2⟩))
      go_ret
      exact ⟨rfl, hb2⟩
  · have e1 : privB d s = ⟨#[]⟩ := by rw [privB, if_neg (by omega)]
    rw [e1]
    clear e1
    rcases (show d < 1 ∨ 9 < d by omega) with h1 | h1
    · clear h
      go_enter Tryd.func8, Tryd.ntmps8
      go_wp2
      go_ret
      exact ⟨rfl, Below.refl _ _⟩
    · have h2 : ¬ d < 1 := by omega
      clear h
      go_enter Tryd.func8, Tryd.ntmps8
      go_wp2
      go_ret
      exact ⟨rfl, Below.refl _ _⟩

set_option maxRecDepth 100000 in
set_option maxHeartbeats 1000000 in
theorem lawPriv (d : Int) (s : ByteArray) (w : World) :
    Calls Tryd.prog 4 #[.int .i64 d, .string s] w fun e w' => e = .returned (.bool true) ∧ Below w.heap.size w w' := by
  by_cases h : s.size ≤ 1048576
  · obtain ⟨g, hg⟩ : ∃ g, g = privB d s := ⟨_, rfl⟩
    have h1 := fun w => specPriv d s w
    have h2 := fun w => implPriv d s w
    rw [← hg] at h1 h2
    clear hg
    go_enter Tryd.func4, Tryd.ntmps4
    go_wp2_with (first | (go_at_call 12; refine (h1 _).mono ?_; rintro e w1 ⟨rfl, hb1⟩) | (go_at_call 8; refine (h2 _).mono ?_; rintro e w2 ⟨rfl, hb2⟩))
    go_ret
    exact ⟨rfl, hb1.trans (hb2.mono hb1.size)⟩
  · have h' : 1048576 < s.size := by omega
    clear h
    go_enter Tryd.func4, Tryd.ntmps4
    go_wp2
    go_ret
    exact ⟨rfl, Below.refl _ _⟩
end Go.Proofs.YtbdnnmcjnfbloaaDoor
