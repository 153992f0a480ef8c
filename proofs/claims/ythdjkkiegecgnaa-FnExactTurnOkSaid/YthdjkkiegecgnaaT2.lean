/- The walk over the specification's TokenOk. -/
import Derived.Test.YthdjkkiegecgnaaT1
import Derived.BigQuiet
namespace Go.Proofs.Ythdjkkiegecgnaa
open Go.RowKit Pl
set_option linter.unusedVariables false

set_option maxRecDepth 100000 in
set_option maxHeartbeats 4000000 in
theorem spTokenOk_7 (c r q a b : Int) (ao : Option Addr) (cap : Nat) (ws : List Int) (w : World) (hx : Hid (IntsAt w ao ws)) (h20 : ws.length ≤ 20) (h1 : decide (1 ≤ c ∧ c ≤ 9) = true) (h2 : decide (1 ≤ r ∧ r ≤ 1000000000) = true) (h3 : decide (0 ≤ q ∧ q ≤ 60) = true) (h4 : decide (0 ≤ a ∧ a ≤ q) = true) (h5 : decide (0 ≤ b ∧ b ≤ 5) = true) :
    Calls Try.prog 120 #[.agg #[.int .i64 c, .int .i64 r, .int .i64 q, .int .i64 a, .int .i64 b, .slice ao ws.length cap]] w fun e w' => e = .returned (.bool (wGo 0 q ws)) ∧ Below w.heap.size w w' := by
  have HB : ∀ o : Obj, Hid (Below w.heap.size w (w.alloc o)) := fun o => (Below.refl _ _).alloc (Nat.le_refl _) _
  have HX : ∀ o, Hid (IntsAt (w.alloc o) ao ws) := fun o => hx.out.stays (HB o).out
  have HT : Hid (TokAt (w.alloc (.cells #[.int .i64 c, .int .i64 r, .int .i64 q, .int .i64 a, .int .i64 b, .slice ao ws.length cap] 30)) w.heap.size c r q a b (.slice ao ws.length cap)) := heap_alloc_new w _
  have hB := HB (.cells #[.int .i64 c, .int .i64 r, .int .i64 q, .int .i64 a, .int .i64 b, .slice ao ws.length cap] 30)
  have hX := HX (.cells #[.int .i64 c, .int .i64 r, .int .i64 q, .int .i64 a, .int .i64 b, .slice ao ws.length cap] 30)
  clear HB HX hx
  go_enter Try.func120, Try.ntmps120
  go_wp2_with fail
  refine (in_is _ h1).mono ?_
  rintro e w1 ⟨rfl, rfl⟩
  go_wp2_with fail
  refine (in_is _ h2).mono ?_
  rintro e w1 ⟨rfl, rfl⟩
  go_wp2_with fail
  refine (in_is _ h3).mono ?_
  rintro e w1 ⟨rfl, rfl⟩
  go_wp2_with fail
  refine (in_is _ h4).mono ?_
  rintro e w1 ⟨rfl, rfl⟩
  go_wp2_with fail
  refine (in_is _ h5).mono ?_
  rintro e w1 ⟨rfl, rfl⟩
  go_wp2_with fail
  generalize w.alloc (.cells #[.int .i64 c, .int .i64 r, .int .i64 q, .int .i64 a, .int .i64 b, .slice ao ws.length cap] 30) = W at *
  go_loopw [3] (fun i wr => ∃ (k : Nat) (l : Int), k ≤ ws.length ∧ i = .int .i64 k ∧ Hid (WSt ws q k l) ∧ Hid (TokAt wr w.heap.size c r q a b (.slice ao ws.length cap)) ∧ Hid (IntsAt wr ao ws) ∧ Hid (Below w.heap.size w wr)) (fun i _ => ws.length - (intOf i).toNat)
  case atStart => exact ⟨0, 0, Nat.zero_le _, rfl, wSt_start ws q, HT.out, hX.out, hB.out⟩
  case round =>
    clear HT hX hB h1 h2 h3 h4 h5
    obtain ⟨k, l, hk, rfl, hst, HT, hX, hB⟩ := hrel
    obtain ⟨c0, c1, c2, c3, c4, c5⟩ := HT.out.cells
    clear c0 c1 c3 c4
    by_cases hlt : k < ws.length
    · obtain ⟨bb, off, hao, hbb, hc⟩ := hX.out k hlt
      obtain ⟨x, ht⟩ : ∃ x, x = ws[k] := ⟨_, rfl⟩
      rw [← ht] at hc
      have HV : Hid (x = ws[k]) := ht
      have i0 : (0 : Int) ≤ (k : Int) := by omega
      have i1 : (k : Int) < (ws.length : Int) := by omega
      have hc' : wr.cell? ⟨bb, off + (k : Int).toNat, none⟩ = some (.int .i64 x) := by rw [Int.toNat_natCast]; exact hc
      by_cases h0 : k = 0
      · have HL : Hid (l = 0) := hst.out.2.2.1 h0
        have hk0 : ¬ 0 < k := by omega
        subst hao
        clear h0 ht
        cases hi : decide (1 ≤ x ∧ x ≤ q) with
        | false =>
          go_wp2_with fail
          go_quiet (first | (go_at_call 79; exact Calls.quiet_of_same (in_is _ hi)))
          go_wp2_with fail
          go_ret
          have hbad : x ≤ l ∨ q < x := by have := HL.out; simp at hi; omega
          exact ⟨by rw [wSt_bad hst.out hlt HV.out hbad]; rfl, below_drewK hB.out _⟩
        | true =>
          go_wp2_with fail
          go_quiet (first | (go_at_call 79; exact Calls.quiet_of_same (in_is _ hi)))
          go_wp2_with fail
          go_roundw
          case rel => exact ⟨k + 1, x, by omega, by go_num, wSt_next hst.out hlt HV.out (by have := HL.out; simp at hi; omega) (by simp at hi; omega), HT.out, hX.out, below_drewK hB.out _⟩
          case measure => simp [intOf]; omega
      · obtain ⟨j, hj⟩ : ∃ j, k = j + 1 := ⟨k - 1, by omega⟩
        have hlj : j < ws.length := by omega
        have HL : Hid (l = ws[j]'hlj ∧ 0 ≤ l) := ⟨hst.out.2.2.2 j hlj hj, hst.out.2.1⟩
        obtain ⟨b2, off2, hao2, _, hc2⟩ := hX.out j hlj
        obtain ⟨rfl, rfl⟩ : b2 = bb ∧ off2 = off := by rw [hao] at hao2; simp at hao2; exact ⟨hao2.1.symm, hao2.2.symm⟩
        rw [← HL.out.1] at hc2
        have hk0 : 0 < k := by omega
        have hw1 : IntKind.i64.wrap ((k : Int) - 1) = (j : Int) := by rw [IntKind.wrap_i64]; omega
        have i2 : (0 : Int) ≤ (j : Int) := by omega
        have i3 : (j : Int) < (ws.length : Int) := by omega
        have hc3 : wr.cell? ⟨b2, off2 + (j : Int).toNat, none⟩ = some (.int .i64 l) := by rw [Int.toNat_natCast]; exact hc2
        subst hao
        have HJ : Hid (k = j + 1) := hj
        clear h0 ht hj hao2
        cases hi : decide (1 ≤ x ∧ x ≤ q) with
        | false =>
          go_wp2_with fail
          go_quiet (first | (go_at_call 79; exact Calls.quiet_of_same (in_is _ hi)))
          go_wp2_with fail
          go_ret
          have hbad : x ≤ l ∨ q < x := by have := HL.out.2; simp at hi; omega
          exact ⟨by rw [wSt_bad hst.out hlt HV.out hbad]; rfl, below_drewK hB.out _⟩
        | true =>
          by_cases hp : x ≤ l
          ·
            go_wp2_with fail
            go_quiet (first | (go_at_call 79; exact Calls.quiet_of_same (in_is _ hi)))
            go_wp2_with fail
            go_ret
            have hbad : x ≤ l ∨ q < x := by exact .inl hp
            exact ⟨by rw [wSt_bad hst.out hlt HV.out hbad]; rfl, below_drewK hB.out _⟩
          ·
            go_wp2_with fail
            go_quiet (first | (go_at_call 79; exact Calls.quiet_of_same (in_is _ hi)))
            go_wp2_with fail
            go_roundw
            case rel => exact ⟨k + 1, x, by omega, by go_num, wSt_next hst.out hlt HV.out (by omega) (by simp at hi; omega), HT.out, hX.out, below_drewK hB.out _⟩
            case measure => simp [intOf]; omega
    · go_wp2_with fail
      go_ret
      exact ⟨by rw [wSt_end hst.out (by omega)]; rfl, hB.out⟩

theorem spTokenOk_5 (c r q a b : Int) (ao : Option Addr) (cap : Nat) (ws : List Int) (w : World) (hx : Hid (IntsAt w ao ws)) (hl : ws.length ≤ 1048576) (h1 : decide (1 ≤ c ∧ c ≤ 9) = true) (h2 : decide (1 ≤ r ∧ r ≤ 1000000000) = true) (h3 : decide (0 ≤ q ∧ q ≤ 60) = true) (h4 : decide (0 ≤ a ∧ a ≤ q) = true) (h5 : decide (0 ≤ b ∧ b ≤ 5) = true) :
    Calls Try.prog 120 #[.agg #[.int .i64 c, .int .i64 r, .int .i64 q, .int .i64 a, .int .i64 b, .slice ao ws.length cap]] w fun e w' => e = .returned (.bool (wB ws q)) ∧ Below w.heap.size w w' := by
  unfold wB
  by_cases h20 : 20 < ws.length
  · have hd : decide ((ws.length : Int) ≤ 20) = false := by simp; omega
    rw [hd]
    exact spTokenOk_6 c r q a b ao cap ws w h20 h1 h2 h3 h4 h5
  · have hd : decide ((ws.length : Int) ≤ 20) = true := by simp; omega
    rw [hd, Bool.true_and]
    exact spTokenOk_7 c r q a b ao cap ws w hx (by omega) h1 h2 h3 h4 h5

theorem spTokenOk_any (c r q a b : Int) (ao : Option Addr) (cap : Nat) (ws : List Int) (w : World) (hx : Hid (IntsAt w ao ws)) (hl : ws.length ≤ 1048576) :
    Calls Try.prog 120 #[.agg #[.int .i64 c, .int .i64 r, .int .i64 q, .int .i64 a, .int .i64 b, .slice ao ws.length cap]] w fun e w' => e = .returned (.bool (tkB c r q a b ws)) ∧ Below w.heap.size w w' := by
  unfold tkB
  cases h1 : decide (1 ≤ c ∧ c ≤ 9) with
  | false => exact spTokenOk_0 c r q a b ao cap ws w h1
  | true =>
    cases h2 : decide (1 ≤ r ∧ r ≤ 1000000000) with
    | false => exact spTokenOk_1 c r q a b ao cap ws w h1 h2
    | true =>
      cases h3 : decide (0 ≤ q ∧ q ≤ 60) with
      | false => exact spTokenOk_2 c r q a b ao cap ws w h1 h2 h3
      | true =>
        cases h4 : decide (0 ≤ a ∧ a ≤ q) with
        | false => exact spTokenOk_3 c r q a b ao cap ws w h1 h2 h3 h4
        | true =>
          cases h5 : decide (0 ≤ b ∧ b ≤ 5) with
          | false => exact spTokenOk_4 c r q a b ao cap ws w h1 h2 h3 h4 h5
          | true => exact spTokenOk_5 c r q a b ao cap ws w hx hl h1 h2 h3 h4 h5
end Go.Proofs.Ythdjkkiegecgnaa
