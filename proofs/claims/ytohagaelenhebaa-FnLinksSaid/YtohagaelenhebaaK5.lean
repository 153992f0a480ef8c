/- The walks over whether a talk may be held. -/
import Derived.Test.YtohagaelenhebaaTk
import Derived.Test.YtohagaelenhebaaE1
import Derived.Test.YtohagaelenhebaaOwI
namespace Go.Proofs.Ytohagaelenhebaa
open Go.RowKit Pl
set_option linter.unusedVariables false

theorem pos_bad {ps : List Int} {k : Nat} (hk : k < ps.length) (h : ps[k] < 0) : (ps.all fun x => decide (0 ≤ x)) = false := by
  cases hh : ps.all fun x => decide (0 ≤ x) with
  | false => rfl
  | true =>
    have := List.all_eq_true.1 hh _ (List.getElem_mem hk)
    simp at this
    omega
theorem pos_all {ps : List Int} {k : Nat} (h : ∀ x ∈ ps.take k, 0 ≤ x) (hk : ps.length ≤ k) : (ps.all fun x => decide (0 ≤ x)) = true := by
  rw [List.take_of_length_le hk] at h
  exact List.all_eq_true.2 fun x hx => by simpa using h x hx
theorem pos_step {ps : List Int} {k : Nat} (h : ∀ x ∈ ps.take k, 0 ≤ x) (hk : k < ps.length) (hs : 0 ≤ ps[k]) : ∀ x ∈ ps.take (k + 1), 0 ≤ x := by
  intro t ht
  rw [List.take_succ_eq_append_getElem hk] at ht
  rcases List.mem_append.1 ht with h1 | h1
  · exact h t h1
  · simp at h1; subst h1; exact hs

set_option maxRecDepth 100000 in
set_option maxHeartbeats 2000000 in
theorem talkOk_any (ao io : Option Addr) (ac ic : Nat) (ts : List ByteArray) (ps : List Int) (w : World) (hx : Hid (TextsAt w ao ts)) (hy : Hid (IntsAt w io ps)) (hl : ts.length ≤ 1048576) (hm : ps.length ≤ 1048576) :
    Calls Try.prog 50 #[.slice ao ts.length ac, .slice io ps.length ic] w fun e w' => e = .returned (.bool (talkB ts ps)) ∧ w' = w := by
  by_cases h20 : 20 < ts.length
  · have hd : decide (20 < (ts.length : Int)) = true := by simp; omega
    have hT : Hid (talkB ts ps = false) := by show talkB ts ps = false; unfold talkB; simp; omega
    go_enter Try.func50, Try.ntmps50
    go_wp2
    go_ret
    exact ⟨by rw [hT.out]; rfl, rfl⟩
  have hd : decide (20 < (ts.length : Int)) = false := by simp; omega
  by_cases h200 : 200 < ps.length
  · have hd2 : decide (200 < (ps.length : Int)) = true := by simp; omega
    have hT : Hid (talkB ts ps = false) := by show talkB ts ps = false; unfold talkB; simp; omega
    go_enter Try.func50, Try.ntmps50
    go_wp2
    go_ret
    exact ⟨by rw [hT.out]; rfl, rfl⟩
  have hd2 : decide (200 < (ps.length : Int)) = false := by simp; omega
  have hT0 : Hid (talkB ts ps = (fitB ts && ps.all fun x => decide (0 ≤ x))) := by show talkB ts ps = _; unfold talkB; rw [show decide (ts.length ≤ 20) = true by simp; omega, show decide (ps.length ≤ 200) = true by simp; omega]; rfl
  cases hf : fitB ts with
  | false =>
    have hT : Hid (talkB ts ps = false) := hT0.out.trans (by rw [hf]; rfl)
    go_enter Try.func50, Try.ntmps50
    go_wp2_with fail
    refine (fits_is w hx hl hf).mono ?_
    rintro e w1 ⟨rfl, rfl⟩
    go_wp2_with fail
    go_ret
    exact ⟨by rw [hT.out]; rfl, rfl⟩
  | true =>
    have hT1 : Hid (talkB ts ps = ps.all fun x => decide (0 ≤ x)) := hT0.out.trans (by rw [hf]; rfl)
    go_enter Try.func50, Try.ntmps50
    go_wp2_with fail
    refine (fits_is w hx hl hf).mono ?_
    rintro e w1 ⟨rfl, rfl⟩
    go_wp2_with fail
    go_loop [22] (fun i => ∃ k : Nat, k ≤ ps.length ∧ i = .int .i64 k ∧ Hid (∀ x ∈ ps.take k, 0 ≤ x)) (fun i => ps.length - (intOf i).toNat)
    case atStart => exact ⟨0, Nat.zero_le _, rfl, fun t ht => by simp at ht⟩
    case round =>
      obtain ⟨k, hk, rfl, hst⟩ := hrel
      by_cases hlt : k < ps.length
      · obtain ⟨b, off, rfl, hbb, hc⟩ := hy.out k hlt
        obtain ⟨x, ht⟩ : ∃ x, x = ps[k] := ⟨_, rfl⟩
        rw [← ht] at hc
        have HT : Hid (x = ps[k]) := ht
        clear ht
        by_cases h1 : x < 0
        · have hd : decide (x < 0) = true := by simp; omega
          go_wp2
          go_ret
          exact ⟨by rw [hT1.out, pos_bad hlt (by rw [← HT.out]; exact h1)]; rfl, rfl⟩
        · have hd : decide (x < 0) = false := by simp; omega
          go_wp2
          go_round
          case rel => exact ⟨k + 1, by omega, by go_num, pos_step hst.out hlt (by rw [← HT.out]; omega)⟩
          case measure => simp [intOf]; omega
      · go_wp2
        go_ret
        exact ⟨by rw [hT1.out, pos_all hst.out (by omega)]; rfl, rfl⟩

set_option maxRecDepth 100000 in
set_option maxHeartbeats 2000000 in
theorem spTalkOk_any (ao io : Option Addr) (ac ic : Nat) (ts : List ByteArray) (ps : List Int) (w : World) (hx : Hid (TextsAt w ao ts)) (hy : Hid (IntsAt w io ps)) (hl : ts.length ≤ 1048576) (hm : ps.length ≤ 1048576) :
    Calls Try.prog 54 #[.slice ao ts.length ac, .slice io ps.length ic] w fun e w' => e = .returned (.bool (talkB ts ps)) ∧ w' = w := by
  by_cases h20 : 20 < ts.length
  · have hd : decide (20 < (ts.length : Int)) = true := by simp; omega
    have hT : Hid (talkB ts ps = false) := by show talkB ts ps = false; unfold talkB; simp; omega
    go_enter Try.func54, Try.ntmps54
    go_wp2
    go_ret
    exact ⟨by rw [hT.out]; rfl, rfl⟩
  have hd : decide (20 < (ts.length : Int)) = false := by simp; omega
  by_cases h200 : 200 < ps.length
  · have hd2 : decide (200 < (ps.length : Int)) = true := by simp; omega
    have hT : Hid (talkB ts ps = false) := by show talkB ts ps = false; unfold talkB; simp; omega
    go_enter Try.func54, Try.ntmps54
    go_wp2
    go_ret
    exact ⟨by rw [hT.out]; rfl, rfl⟩
  have hd2 : decide (200 < (ps.length : Int)) = false := by simp; omega
  have hT0 : Hid (talkB ts ps = (fitB ts && ps.all fun x => decide (0 ≤ x))) := by show talkB ts ps = _; unfold talkB; rw [show decide (ts.length ≤ 20) = true by simp; omega, show decide (ps.length ≤ 200) = true by simp; omega]; rfl
  go_enter Try.func54, Try.ntmps54
  go_wp2
  go_loop [5] (fun i => ∃ k : Nat, k ≤ ts.length ∧ i = .int .i64 k ∧ Hid (∀ t ∈ ts.take k, t.size ≤ 60)) (fun i => ts.length - (intOf i).toNat)
  case atStart => exact ⟨0, Nat.zero_le _, rfl, fun t ht => by simp at ht⟩
  case round =>
    obtain ⟨k, hk, rfl, hst⟩ := hrel
    by_cases hlt : k < ts.length
    · obtain ⟨b, off, rfl, hbb, hc⟩ := hx.out k hlt
      obtain ⟨x, ht⟩ : ∃ x, x = ts[k] := ⟨_, rfl⟩
      rw [← ht] at hc
      have HT : Hid (x = ts[k]) := ht
      clear ht
      by_cases h1 : 60 < x.size
      · have hd : decide (60 < (x.size : Int)) = true := by simp; omega
        go_wp2
        go_ret
        exact ⟨by rw [hT0.out, fitB_bad hlt (by rw [← HT.out]; exact h1)]; rfl, rfl⟩
      · have hd : decide (60 < (x.size : Int)) = false := by simp; omega
        go_wp2
        go_round
        case rel => exact ⟨k + 1, by omega, by go_num, fitB_step hst.out hlt (by rw [← HT.out]; omega)⟩
        case measure => simp [intOf]; omega
    · have hT1 : Hid (talkB ts ps = ps.all fun x => decide (0 ≤ x)) := hT0.out.trans (by rw [fitB_all hst.out (by omega)]; rfl)
      go_wp2
      go_loop [6] (fun i => ∃ k : Nat, k ≤ ps.length ∧ i = .int .i64 k ∧ Hid (∀ x ∈ ps.take k, 0 ≤ x)) (fun i => ps.length - (intOf i).toNat)
      case atStart => exact ⟨0, Nat.zero_le _, rfl, fun t ht => by simp at ht⟩
      case round =>
        obtain ⟨k, hk, rfl, hst⟩ := hrel
        by_cases hlt : k < ps.length
        · obtain ⟨b, off, rfl, hbb, hc⟩ := hy.out k hlt
          obtain ⟨x, ht⟩ : ∃ x, x = ps[k] := ⟨_, rfl⟩
          rw [← ht] at hc
          have HT : Hid (x = ps[k]) := ht
          clear ht
          by_cases h1 : x < 0
          · have hd : decide (x < 0) = true := by simp; omega
            go_wp2
            go_ret
            exact ⟨by rw [hT1.out, pos_bad hlt (by rw [← HT.out]; exact h1)]; rfl, rfl⟩
          · have hd : decide (x < 0) = false := by simp; omega
            go_wp2
            go_round
            case rel => exact ⟨k + 1, by omega, by go_num, pos_step hst.out hlt (by rw [← HT.out]; omega)⟩
            case measure => simp [intOf]; omega
        · go_wp2
          go_ret
          exact ⟨by rw [hT1.out, pos_all hst.out (by omega)]; rfl, rfl⟩
end Go.Proofs.Ytohagaelenhebaa
