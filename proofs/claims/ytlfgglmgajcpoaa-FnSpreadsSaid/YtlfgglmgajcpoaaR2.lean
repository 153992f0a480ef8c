/- The walk over the specification's RoadsOk. -/
import Derived.Test.YtlfgglmgajcpoaaR1
import Derived.Deep.QuietTactic
import Derived.BigQuiet
namespace Go.Proofs.Ytlfgglmgajcpoaa
open Go.RowKit Pl
set_option linter.unusedVariables false

theorem below_drewN {B : Nat} {w w' : World} (h : Below B w w') (n : Nat) : Below B w (w'.drewN n) := ⟨h.os, h.tape, h.output, h.size, h.block⟩

set_option maxRecDepth 100000 in
set_option maxHeartbeats 1000000 in
theorem spRoadsOk_any (n : Int) (ao : Option Addr) (cap : Nat) (ts : List Rd) (w : World) (hx : Hid (RoadsAt w ao ts)) (hl : ts.length ≤ 1048576) :
    Calls Try.prog 23 #[.int .i64 n, .slice ao ts.length cap] w fun e w' => e = .returned (.bool (roadsB n ts)) ∧ Below w.heap.size w w' := by
  by_cases hn : 1 ≤ n ∧ n ≤ 6
  case neg =>
    have HB : Hid (roadsB n ts = false) := roadsB_false (fun hp => hn ⟨hp.1, hp.2.1⟩)
    have hd : decide (1 ≤ n ∧ n ≤ 6) = false := decide_eq_false hn
    go_enter Try.func23, Try.ntmps23
    go_wp2_with (go_at_call 47; refine (in_any _ _ _ _).mono ?_; rw [hd]; rintro e w' ⟨rfl, hw⟩; obtain rfl := hw.symm)
    go_ret
    exact ⟨by rw [HB.out]; rfl, Below.refl _ _⟩
  have hd : decide (1 ≤ n ∧ n ≤ 6) = true := decide_eq_true hn
  by_cases hm : ts.length ≤ 12
  case neg =>
    have HB : Hid (roadsB n ts = false) := roadsB_false (fun hp => hm hp.2.2.1)
    have hd2 : decide ((12 : Int) < (ts.length : Int)) = true := decide_eq_true (by omega)
    go_enter Try.func23, Try.ntmps23
    go_wp2_with (go_at_call 47; refine (in_any _ _ _ _).mono ?_; rw [hd]; rintro e w' ⟨rfl, hw⟩; obtain rfl := hw.symm)
    go_ret
    exact ⟨by rw [HB.out]; rfl, Below.refl _ _⟩
  have hd2 : decide ((12 : Int) < (ts.length : Int)) = false := decide_eq_false (by omega)
  go_enter Try.func23, Try.ntmps23
  go_wp2_with (go_at_call 47; refine (in_any _ _ _ _).mono ?_; rw [hd]; rintro e w' ⟨rfl, hw⟩; obtain rfl := hw.symm)
  clear hd hd2
  go_loopw [5] (fun i wr => ∃ (k : Nat), k ≤ ts.length ∧ i = .int .i64 k ∧ Hid (RSt n ts k) ∧ Hid (Below w.heap.size w wr)) (fun i _ => ts.length - (intOf i).toNat)
  case atStart => exact ⟨0, Nat.zero_le _, rfl, fun i hi => absurd hi (by omega), Below.refl _ _⟩
  case round =>
    obtain ⟨k, hk, rfl, hst, hb⟩ := hrel
    by_cases hlt : k < ts.length
    · have XR := hx.out.stays hb.out
      obtain ⟨b, off, hao, hbb, h0, h1, h2⟩ := XR k hlt
      have HP : Hid (∃ x : Rd, x = ts[k]) := ⟨_, rfl⟩
      obtain ⟨⟨q, f, t⟩, hp⟩ := HP.out
      rw [← hp] at h0 h1 h2
      have HQ : Hid ((⟨q, f, t⟩ : Rd) = ts[k]) := hp
      clear hp HP
      dsimp only at h0 h1 h2
      have I0 : Hid (BoxRd (wr.alloc (.cells #[.int .i64 q, .int .i64 f, .int .i64 t] 31)) wr.heap.size ⟨q, f, t⟩) := heap_alloc_new wr _
      have B0 : Hid (Below w.heap.size w (wr.alloc (.cells #[.int .i64 q, .int .i64 f, .int .i64 t] 31))) := hb.out.alloc hb.out.size _
      have X0 : Hid (RoadsAt (wr.alloc (.cells #[.int .i64 q, .int .i64 f, .int .i64 t] 31)) ao ts) := XR.stays ((Below.refl _ _).alloc (Nat.le_refl _) _)
      have hsz : wr.heap.size < (wr.alloc (.cells #[.int .i64 q, .int .i64 f, .int .i64 t] 31)).heap.size := by simp
      have i0 : (0 : Int) ≤ (k : Int) := by omega
      have i1 : (k : Int) < (ts.length : Int) := by omega
      subst hao
      go_wp2_with fail
      generalize wr.alloc (.cells #[.int .i64 q, .int .i64 f, .int .i64 t] 31) = W0 at *
      clear h0 h1 h2 XR
      obtain ⟨g0, g1, g2⟩ := I0.out.cells
      dsimp only at g0 g1 g2
      have hw0 : IntKind.i64.wrap (n - 1) = n - 1 := by rw [IntKind.wrap_i64]; omega
      have hbb : b < W0.heap.size := by omega
      by_cases c1 : 0 ≤ q ∧ q ≤ n - 1
      case neg =>
        have d1 : decide (0 ≤ q ∧ q ≤ n - 1) = false := decide_eq_false (by omega)
        have d2 := d1
        have d3 := d1
        have HBAD : Hid (roadsB n ts = false) := rd_bad hlt (fun ⟨_, h, _⟩ => by rw [← HQ.out] at h; unfold fitP at h; simp only at h; omega)
        go_quiet (first | (go_at_call 47; exact Calls.quiet_of_same (in_is _ d1)) | (go_at_call 47; exact Calls.quiet_of_same (in_is _ d2)) | (go_at_call 47; exact Calls.quiet_of_same (in_is _ d3)))
        go_wp2_with fail
        go_ret
        exact ⟨by rw [HBAD.out]; rfl, below_drewN B0.out _⟩
      by_cases c2 : 0 ≤ f ∧ f ≤ n - 1
      case neg =>
        have d1 : decide (0 ≤ q ∧ q ≤ n - 1) = true := decide_eq_true (by omega)
        have d2 : decide (0 ≤ f ∧ f ≤ n - 1) = false := decide_eq_false (by omega)
        have d3 := d1
        have HBAD : Hid (roadsB n ts = false) := rd_bad hlt (fun ⟨_, h, _⟩ => by rw [← HQ.out] at h; unfold fitP at h; simp only at h; omega)
        go_quiet (first | (go_at_call 47; exact Calls.quiet_of_same (in_is _ d1)) | (go_at_call 47; exact Calls.quiet_of_same (in_is _ d2)) | (go_at_call 47; exact Calls.quiet_of_same (in_is _ d3)))
        go_wp2_with fail
        go_ret
        exact ⟨by rw [HBAD.out]; rfl, below_drewN B0.out _⟩
      by_cases c3 : q < f
      case neg =>
        have c3' : f ≤ q := by omega
        have d1 : decide (0 ≤ q ∧ q ≤ n - 1) = true := decide_eq_true (by omega)
        have d2 : decide (0 ≤ f ∧ f ≤ n - 1) = true := decide_eq_true (by omega)
        have d3 := d1
        have HBAD : Hid (roadsB n ts = false) := rd_bad hlt (fun ⟨_, h, _⟩ => by rw [← HQ.out] at h; unfold fitP at h; simp only at h; omega)
        go_quiet (first | (go_at_call 47; exact Calls.quiet_of_same (in_is _ d1)) | (go_at_call 47; exact Calls.quiet_of_same (in_is _ d2)) | (go_at_call 47; exact Calls.quiet_of_same (in_is _ d3)))
        go_wp2_with fail
        go_ret
        exact ⟨by rw [HBAD.out]; rfl, below_drewN B0.out _⟩
      have c3' : ¬ f ≤ q := by omega
      by_cases c4 : 1 ≤ t ∧ t ≤ 100
      case neg =>
        have d1 : decide (0 ≤ q ∧ q ≤ n - 1) = true := decide_eq_true (by omega)
        have d2 : decide (0 ≤ f ∧ f ≤ n - 1) = true := decide_eq_true (by omega)
        have d3 : decide (1 ≤ t ∧ t ≤ 100) = false := decide_eq_false (by omega)
        have HBAD : Hid (roadsB n ts = false) := rd_bad hlt (fun ⟨_, h, _⟩ => by rw [← HQ.out] at h; unfold fitP at h; simp only at h; omega)
        go_quiet (first | (go_at_call 47; exact Calls.quiet_of_same (in_is _ d1)) | (go_at_call 47; exact Calls.quiet_of_same (in_is _ d2)) | (go_at_call 47; exact Calls.quiet_of_same (in_is _ d3)))
        go_wp2_with fail
        go_ret
        exact ⟨by rw [HBAD.out]; rfl, below_drewN B0.out _⟩
      have d1 : decide (0 ≤ q ∧ q ≤ n - 1) = true := decide_eq_true (by omega)
      have d2 : decide (0 ≤ f ∧ f ≤ n - 1) = true := decide_eq_true (by omega)
      have d3 : decide (1 ≤ t ∧ t ≤ 100) = true := decide_eq_true (by omega)
      by_cases k0 : k = 0
      · have hk0 : ¬ 0 < k := by omega
        have HN : Hid (RSt n ts (k + 1)) := hst.out.next ⟨hlt, by rw [← HQ.out]; unfold fitP; simp only; omega, fun j _ h => by omega⟩
        clear k0
        go_quiet (first | (go_at_call 47; exact Calls.quiet_of_same (in_is _ d1)) | (go_at_call 47; exact Calls.quiet_of_same (in_is _ d2)) | (go_at_call 47; exact Calls.quiet_of_same (in_is _ d3)))
        go_wp2_with fail
        go_roundw
        case rel => exact ⟨k + 1, by omega, by go_num, HN.out, below_drewN B0.out _⟩
        case measure => simp [intOf]; omega
      · obtain ⟨j, hj⟩ : ∃ j, k = j + 1 := ⟨k - 1, by omega⟩
        have hlj : j < ts.length := by omega
        obtain ⟨b2, off2, hao2, _, hp0, hp1, hp2⟩ := X0.out j hlj
        obtain ⟨rfl, rfl⟩ : b = b2 ∧ off = off2 := by simp at hao2; exact hao2
        have HP : Hid (∃ x : Rd, x = ts[j]) := ⟨_, rfl⟩
        obtain ⟨⟨q0, f0, t0⟩, hp⟩ := HP.out
        rw [← hp] at hp0 hp1 hp2
        have HR : Hid ((⟨q0, f0, t0⟩ : Rd) = ts[j]) := hp
        clear hp HP
        dsimp only at hp0 hp1 hp2
        have hk0 : 0 < k := by omega
        have hw1 : IntKind.i64.wrap ((k : Int) - 1) = (j : Int) := by rw [IntKind.wrap_i64]; omega
        have i2 : (0 : Int) ≤ (j : Int) := by omega
        have i3 : (j : Int) < (ts.length : Int) := by omega
        have hbad : ∀ h : ¬ ahP ⟨q0, f0, t0⟩ ⟨q, f, t⟩, roadsB n ts = false := fun h => rd_bad hlt (fun ⟨_, _, h2⟩ => by have h2 := h2 j hlj hj; rw [← HQ.out, ← HR.out] at h2; exact h h2)
        have HB2 : Hid (∀ h : ¬ ahP ⟨q0, f0, t0⟩ ⟨q, f, t⟩, roadsB n ts = false) := hbad
        have HN2 : Hid (∀ h : ahP ⟨q0, f0, t0⟩ ⟨q, f, t⟩, RSt n ts (k + 1)) := fun h => hst.out.next ⟨hlt, by rw [← HQ.out]; unfold fitP; simp only; omega, fun j' hj' he => (by have he2 : j' = j := (by omega); subst he2; rw [← HQ.out, ← HR.out]; exact h)⟩
        clear hbad hao2 hj
        by_cases e1 : q < q0
        · have HBAD : Hid (roadsB n ts = false) := HB2.out (by unfold ahP; simp only; omega)
          go_quiet (first | (go_at_call 47; exact Calls.quiet_of_same (in_is _ d1)) | (go_at_call 47; exact Calls.quiet_of_same (in_is _ d2)) | (go_at_call 47; exact Calls.quiet_of_same (in_is _ d3)))
          go_wp2_with fail
          go_ret
          exact ⟨by rw [HBAD.out]; rfl, below_drewN B0.out _⟩
        by_cases e2 : q0 = q
        · subst e2
          by_cases e3 : f ≤ f0
          · have HBAD : Hid (roadsB n ts = false) := HB2.out (by unfold ahP; simp only; omega)
            go_quiet (first | (go_at_call 47; exact Calls.quiet_of_same (in_is _ d1)) | (go_at_call 47; exact Calls.quiet_of_same (in_is _ d2)) | (go_at_call 47; exact Calls.quiet_of_same (in_is _ d3)))
            go_wp2_with fail
            go_ret
            exact ⟨by rw [HBAD.out]; rfl, below_drewN B0.out _⟩
          · have HN : Hid (RSt n ts (k + 1)) := HN2.out (Or.inr ⟨rfl, by show f0 < f; omega⟩)
            go_quiet (first | (go_at_call 47; exact Calls.quiet_of_same (in_is _ d1)) | (go_at_call 47; exact Calls.quiet_of_same (in_is _ d2)) | (go_at_call 47; exact Calls.quiet_of_same (in_is _ d3)))
            go_wp2_with fail
            go_roundw
            case rel => exact ⟨k + 1, by omega, by go_num, HN.out, below_drewN B0.out _⟩
            case measure => simp [intOf]; omega
        · have HN : Hid (RSt n ts (k + 1)) := HN2.out (Or.inl (show q0 < q by omega))
          go_quiet (first | (go_at_call 47; exact Calls.quiet_of_same (in_is _ d1)) | (go_at_call 47; exact Calls.quiet_of_same (in_is _ d2)) | (go_at_call 47; exact Calls.quiet_of_same (in_is _ d3)))
          go_wp2_with fail
          go_roundw
          case rel => exact ⟨k + 1, by omega, by go_num, HN.out, below_drewN B0.out _⟩
          case measure => simp [intOf]; omega
    · go_wp2_with fail
      go_ret
      exact ⟨by rw [rd_end hst.out (by omega) hn hm]; rfl, hb.out⟩
end Go.Proofs.Ytlfgglmgajcpoaa
