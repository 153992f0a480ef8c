/- The walk over the specification's RingOk. -/
import Derived.Test.YthdjkkiegecgnaaRg
import Derived.BigQuiet
namespace Go.Proofs.Ythdjkkiegecgnaa
open Go.RowKit Pl
set_option linter.unusedVariables false

set_option maxRecDepth 100000 in
set_option maxHeartbeats 4000000 in
theorem spRingOk_2 (i : Int) (ao : Option Addr) (cap : Nat) (ws : List Int) (w : World) (hx : Hid (IntsAt w ao ws)) (h20 : ws.length ≤ 5) (h1 : decide (1 ≤ i ∧ i ≤ 9) = true) (h2 : decide (1 ≤ (ws.length : Int) ∧ (ws.length : Int) ≤ 5) = true) :
    Calls Try.prog 78 #[.agg #[.int .i64 i, .slice ao ws.length cap]] w fun e w' => e = .returned (.bool (wGo 0 5 ws)) ∧ Below w.heap.size w w' := by
  have HB : ∀ o : Obj, Hid (Below w.heap.size w (w.alloc o)) := fun o => (Below.refl _ _).alloc (Nat.le_refl _) _
  have HX : ∀ o, Hid (IntsAt (w.alloc o) ao ws) := fun o => hx.out.stays (HB o).out
  have HT : Hid (RgAt (w.alloc (.cells #[.int .i64 i, .slice ao ws.length cap] 26)) w.heap.size i (.slice ao ws.length cap)) := heap_alloc_new w _
  have hB := HB (.cells #[.int .i64 i, .slice ao ws.length cap] 26)
  have hX := HX (.cells #[.int .i64 i, .slice ao ws.length cap] 26)
  clear HB HX hx
  go_enter Try.func78, Try.ntmps78
  go_wp2_with fail
  refine (in_is _ h1).mono ?_
  rintro e w1 ⟨rfl, rfl⟩
  go_wp2_with fail
  refine (in_is _ h2).mono ?_
  rintro e w1 ⟨rfl, rfl⟩
  go_wp2_with fail
  generalize w.alloc (.cells #[.int .i64 i, .slice ao ws.length cap] 26) = W at *
  go_loopw [3] (fun ix wr => ∃ (k : Nat) (l : Int), k ≤ ws.length ∧ ix = .int .i64 k ∧ Hid (WSt ws 5 k l) ∧ Hid (RgAt wr w.heap.size i (.slice ao ws.length cap)) ∧ Hid (IntsAt wr ao ws) ∧ Hid (Below w.heap.size w wr)) (fun ix _ => ws.length - (intOf ix).toNat)
  case atStart => exact ⟨0, 0, Nat.zero_le _, rfl, wSt_start ws 5, HT.out, hX.out, hB.out⟩
  case round =>
    clear HT hX hB h1 h2
    obtain ⟨k, l, hk, rfl, hst, HT, hX, hB⟩ := hrel
    obtain ⟨c0, c5⟩ := HT.out.cells
    clear c0
    by_cases hlt : k < ws.length
    · obtain ⟨bb, off, hao, hbb, hc⟩ := hX.out k hlt
      obtain ⟨x, ht⟩ : ∃ x, x = ws[k] := ⟨_, rfl⟩
      rw [← ht] at hc
      have HV : Hid (x = ws[k]) := ht
      have i0 : (0 : Int) ≤ (k : Int) := by omega
      have i1 : (k : Int) < (ws.length : Int) := by omega
      have hc' : wr.cell? ⟨bb, off + (k : Int).toNat, none⟩ = some (.int .i64 x) := by rw [Int.toNat_natCast]; exact hc
      by_cases h0 : k = 0
      · have HL : Hid (l = 0) := hst.out.2.2.1 h0
        have hk0 : ¬ 0 < k := by omega
        subst hao
        clear h0 ht
        cases hi : decide (1 ≤ x ∧ x ≤ 5) with
        | false =>
          go_wp2_with fail
          go_quiet (first | (go_at_call 79; exact Calls.quiet_of_same (in_is _ hi)))
          go_wp2_with fail
          go_ret
          have hbad : x ≤ l ∨ 5 < x := by have := HL.out; simp at hi; omega
          exact ⟨by rw [wSt_bad hst.out hlt HV.out hbad]; rfl, below_drewK hB.out _⟩
        | true =>
          go_wp2_with fail
          go_quiet (first | (go_at_call 79; exact Calls.quiet_of_same (in_is _ hi)))
          go_wp2_with fail
          go_roundw
          case rel => exact ⟨k + 1, x, by omega, by go_num, wSt_next hst.out hlt HV.out (by have := HL.out; simp at hi; omega) (by simp at hi; omega), HT.out, hX.out, below_drewK hB.out _⟩
          case measure => simp [intOf]; omega
      · obtain ⟨j, hj⟩ : ∃ j, k = j + 1 := ⟨k - 1, by omega⟩
        have hlj : j < ws.length := by omega
        have HL : Hid (l = ws[j]'hlj ∧ 0 ≤ l) := ⟨hst.out.2.2.2 j hlj hj, hst.out.2.1⟩
        obtain ⟨b2, off2, hao2, _, hc2⟩ := hX.out j hlj
        obtain ⟨rfl, rfl⟩ : b2 = bb ∧ off2 = off := by rw [hao] at hao2; simp at hao2; exact ⟨hao2.1.symm, hao2.2.symm⟩
        rw [← HL.out.1] at hc2
        have hk0 : 0 < k := by omega
        have hw1 : IntKind.i64.wrap ((k : Int) - 1) = (j : Int) := by rw [IntKind.wrap_i64]; omega
        have i2 : (0 : Int) ≤ (j : Int) := by omega
        have i3 : (j : Int) < (ws.length : Int) := by omega
        have hc3 : wr.cell? ⟨b2, off2 + (j : Int).toNat, none⟩ = some (.int .i64 l) := by rw [Int.toNat_natCast]; exact hc2
        subst hao
        have HJ : Hid (k = j + 1) := hj
        clear h0 ht hj hao2
        cases hi : decide (1 ≤ x ∧ x ≤ 5) with
        | false =>
          go_wp2_with fail
          go_quiet (first | (go_at_call 79; exact Calls.quiet_of_same (in_is _ hi)))
          go_wp2_with fail
          go_ret
          have hbad : x ≤ l ∨ 5 < x := by have := HL.out.2; simp at hi; omega
          exact ⟨by rw [wSt_bad hst.out hlt HV.out hbad]; rfl, below_drewK hB.out _⟩
        | true =>
          by_cases hp : x ≤ l
          ·
            go_wp2_with fail
            go_quiet (first | (go_at_call 79; exact Calls.quiet_of_same (in_is _ hi)))
            go_wp2_with fail
            go_ret
            have hbad : x ≤ l ∨ 5 < x := by exact .inl hp
            exact ⟨by rw [wSt_bad hst.out hlt HV.out hbad]; rfl, below_drewK hB.out _⟩
          ·
            go_wp2_with fail
            go_quiet (first | (go_at_call 79; exact Calls.quiet_of_same (in_is _ hi)))
            go_wp2_with fail
            go_roundw
            case rel => exact ⟨k + 1, x, by omega, by go_num, wSt_next hst.out hlt HV.out (by omega) (by simp at hi; omega), HT.out, hX.out, below_drewK hB.out _⟩
            case measure => simp [intOf]; omega
    · go_wp2_with fail
      go_ret
      exact ⟨by rw [wSt_end hst.out (by omega)]; rfl, hB.out⟩

theorem wGo_long {ws : List Int} (h : 5 < ws.length) : wGo 0 5 ws = false := by
  cases hg : wGo 0 5 ws with
  | false => rfl
  | true => have := wGo_len ws 0 hg (by omega); omega

set_option maxRecDepth 100000 in
set_option maxHeartbeats 1000000 in
theorem spRingOk_any (i : Int) (ao : Option Addr) (cap : Nat) (ws : List Int) (w : World) (hx : Hid (IntsAt w ao ws)) (hl : ws.length ≤ 1048576) :
    Calls Try.prog 78 #[.agg #[.int .i64 i, .slice ao ws.length cap]] w fun e w' => e = .returned (.bool (ringB i ws)) ∧ Below w.heap.size w w' := by
  unfold ringB
  cases h1 : decide (1 ≤ i ∧ i ≤ 9) with
  | false =>
    go_enter Try.func78, Try.ntmps78
    go_wp2_with fail
    refine (in_is _ h1).mono ?_
    rintro e w1 ⟨rfl, rfl⟩
    go_wp2_with fail
    go_ret
    exact ⟨rfl, (Below.refl _ _).alloc (Nat.le_refl _) _⟩
  | true =>
    cases h2 : decide (1 ≤ (ws.length : Int) ∧ (ws.length : Int) ≤ 5) with
    | true =>
      have h3 : decide (0 < ws.length) = true := by simp at h2 ⊢; omega
      rw [h3]
      exact spRingOk_2 i ao cap ws w hx (by simp at h2; omega) h1 h2
    | false =>
      have h3 : (decide (0 < ws.length) && wGo 0 5 ws) = false := by
        by_cases h0 : 0 < ws.length
        · rw [wGo_long (by simp at h2; omega)]; simp
        · rw [decide_eq_false h0]; rfl
      rw [h3]
      go_enter Try.func78, Try.ntmps78
      go_wp2_with fail
      refine (in_is _ h1).mono ?_
      rintro e w1 ⟨rfl, rfl⟩
      go_wp2_with fail
      refine (in_is _ h2).mono ?_
      rintro e w1 ⟨rfl, rfl⟩
      go_wp2_with fail
      go_ret
      exact ⟨rfl, (Below.refl _ _).alloc (Nat.le_refl _) _⟩
end Go.Proofs.Ythdjkkiegecgnaa
