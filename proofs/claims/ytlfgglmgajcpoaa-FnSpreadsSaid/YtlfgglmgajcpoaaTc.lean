/- The walk over the specification's l07Cost and TreeOf. -/
import Derived.Test.YtlfgglmgajcpoaaTb
namespace Go.Proofs.Ytlfgglmgajcpoaa
open Go.RowKit Pl
set_option linter.unusedVariables false

set_option maxRecDepth 100000 in
set_option maxHeartbeats 2000000 in
theorem spCost_any (ao : Option Addr) (cap : Nat) (ts : List Rd) (u v : Int) (w : World) (hx : Hid (RoadsAt w ao ts)) (hl : ts.length ≤ 1048576) :
    Calls Try.prog 42 #[.slice ao ts.length cap, .int .i64 u, .int .i64 v] w fun e w' => e = .returned (.int .i64 (costI ts u v)) ∧ Below w.heap.size w w' := by
  go_enter Try.func42, Try.ntmps42
  go_wp2_with fail
  go_loopw [7] (fun i wr => ∃ (k : Nat), k ≤ ts.length ∧ i = .int .i64 k ∧ Hid (costI (ts.drop k) u v = costI ts u v) ∧ Hid (Below w.heap.size w wr)) (fun i _ => ts.length - (intOf i).toNat)
  case atStart => exact ⟨0, Nat.zero_le _, rfl, rfl, Below.refl _ _⟩
  case round =>
    obtain ⟨k, hk, rfl, hst, hb⟩ := hrel
    by_cases hlt : k < ts.length
    · have XR := hx.out.stays hb.out
      obtain ⟨b, off, hao, hbb, h0, h1, h2⟩ := XR k hlt
      have HP : Hid (∃ x : Rd, x = ts[k]) := ⟨_, rfl⟩
      obtain ⟨⟨q, f, t⟩, hp⟩ := HP.out
      rw [← hp] at h0 h1 h2
      have HQ : Hid ((⟨q, f, t⟩ : Rd) = ts[k]) := hp
      clear hp HP
      dsimp only at h0 h1 h2
      have I0 : Hid (BoxRd (wr.alloc (.cells #[.int .i64 q, .int .i64 f, .int .i64 t] 31)) wr.heap.size ⟨q, f, t⟩) := heap_alloc_new wr _
      have B0 : Hid (Below w.heap.size w (wr.alloc (.cells #[.int .i64 q, .int .i64 f, .int .i64 t] 31))) := hb.out.alloc hb.out.size _
      have i0 : (0 : Int) ≤ (k : Int) := by omega
      have i1 : (k : Int) < (ts.length : Int) := by omega
      subst hao
      clear XR
      by_cases e1 : q = u
      · by_cases e2 : f = v
        · have d1 : (q == u) = true := by simp [e1]
          have d2 : (f == v) = true := by simp [e2]
          have HC : Hid (costI ts u v = t) := by
            have := hst.out
            rw [costI_drop hlt, ← HQ.out, if_pos (by unfold Links; simp only; omega)] at this
            exact this.symm
          clear e1 e2
          go_wp2_with fail
          go_ret
          exact ⟨by rw [HC.out]; rfl, B0.out⟩
        · have d1 : (q == u) = true := by simp [e1]
          have d2 : (f == v) = false := by simp [e2]
          by_cases e3 : q = v
          · by_cases e4 : f = u
            · have d3 : (q == v) = true := by simp [e3]
              have d4 : (f == u) = true := by simp [e4]
              have HC : Hid (costI ts u v = t) := by
                have := hst.out
                rw [costI_drop hlt, ← HQ.out, if_pos (by unfold Links; simp only; omega)] at this
                exact this.symm
              clear e1 e2 e3 e4
              go_wp2_with fail
              go_ret
              exact ⟨by rw [HC.out]; rfl, B0.out⟩
            · have d3 : (q == v) = true := by simp [e3]
              have d4 : (f == u) = false := by simp [e4]
              have HN : Hid (costI (ts.drop (k + 1)) u v = costI ts u v) := by
                have := hst.out
                rw [costI_drop hlt, ← HQ.out, if_neg (by unfold Links; simp only; omega)] at this
                exact this
              clear e1 e2 e3 e4
              go_wp2_with fail
              go_roundw
              case rel => exact ⟨k + 1, by omega, by go_num, HN, B0⟩
              case measure => simp [intOf]; omega
          · have d3 : (q == v) = false := by simp [e3]
            have HN : Hid (costI (ts.drop (k + 1)) u v = costI ts u v) := by
              have := hst.out
              rw [costI_drop hlt, ← HQ.out, if_neg (by unfold Links; simp only; omega)] at this
              exact this
            clear e1 e2 e3
            go_wp2_with fail
            go_roundw
            case rel => exact ⟨k + 1, by omega, by go_num, HN, B0⟩
            case measure => simp [intOf]; omega
      · have d1 : (q == u) = false := by simp [e1]
        by_cases e3 : q = v
        · by_cases e4 : f = u
          · have d3 : (q == v) = true := by simp [e3]
            have d4 : (f == u) = true := by simp [e4]
            have HC : Hid (costI ts u v = t) := by
              have := hst.out
              rw [costI_drop hlt, ← HQ.out, if_pos (by unfold Links; simp only; omega)] at this
              exact this.symm
            clear e1 e3 e4
            go_wp2_with fail
            go_ret
            exact ⟨by rw [HC.out]; rfl, B0.out⟩
          · have d3 : (q == v) = true := by simp [e3]
            have d4 : (f == u) = false := by simp [e4]
            have HN : Hid (costI (ts.drop (k + 1)) u v = costI ts u v) := by
              have := hst.out
              rw [costI_drop hlt, ← HQ.out, if_neg (by unfold Links; simp only; omega)] at this
              exact this
            clear e1 e3 e4
            go_wp2_with fail
            go_roundw
            case rel => exact ⟨k + 1, by omega, by go_num, HN, B0⟩
            case measure => simp [intOf]; omega
        · have d3 : (q == v) = false := by simp [e3]
          have HN : Hid (costI (ts.drop (k + 1)) u v = costI ts u v) := by
            have := hst.out
            rw [costI_drop hlt, ← HQ.out, if_neg (by unfold Links; simp only; omega)] at this
            exact this
          clear e1 e3
          go_wp2_with fail
          go_roundw
          case rel => exact ⟨k + 1, by omega, by go_num, HN, B0⟩
          case measure => simp [intOf]; omega
    · have HC : Hid (costI ts u v = 0) := by
        have := hst.out
        rw [List.drop_eq_nil_of_le (by omega)] at this
        exact this.symm
      go_wp2_with fail
      go_ret
      exact ⟨by rw [HC.out]; rfl, hb.out⟩
end Go.Proofs.Ytlfgglmgajcpoaa
