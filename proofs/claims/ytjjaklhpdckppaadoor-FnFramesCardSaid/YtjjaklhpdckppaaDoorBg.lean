/- The walks over the test for too many drawn bytes and over two lists of texts compared. -/
import Derived.Test.YtjjaklhpdckppaaDoorD1
import Derived.Test.YtjjaklhpdckppaaDoorOwS
namespace Go.Proofs.YtjjaklhpdckppaaDoor
open Go.RowKit Pl
set_option linter.unusedVariables false

set_option maxRecDepth 100000 in
set_option maxHeartbeats 1000000 in
theorem big_any (w : World) (n cap : Nat) (ao : Option Addr) (b : Bool) (hb : decide (1048576 < (n : Int)) = b) :
    Calls Tryd.prog 7 #[.slice ao n cap] w fun e w' => e = .returned (.bool b) ∧ w' = w := by
  go_enter Tryd.func7, Tryd.ntmps7
  go_wp2
  go_ret
  exact ⟨by rw [← hb]; rfl, rfl⟩

set_option maxRecDepth 100000 in
set_option maxHeartbeats 1000000 in
theorem same_same (v1 v2 : Value) (ss : List ByteArray) (B1 B2 : Nat) (w : World) (h1 : OwnS w B1 v1 ss) (h2 : OwnS w B2 v2 ss) (hl : ss.length ≤ 1048576) :
    Calls Tryd.prog 13 #[v1, v2] w fun e w' => e = .returned (.bool true) ∧ Below w.heap.size w w' := by
  by_cases h0 : ss.length = 0
  · obtain ⟨ao1, cap1, rfl⟩ := h1.form
    obtain ⟨ao2, cap2, rfl⟩ := h2.form
    rw [h0]
    clear h1 h2
    go_enter Tryd.func13, Tryd.ntmps13
    go_wp2
    refine wp_loop_rounds 1 ?_
    rw [rounds_succ]
    go_wp2
    go_ret
    exact ⟨rfl, Below.refl _ _⟩
  · obtain ⟨g1, cap1, rfl, _, hg1, hc1, _⟩ := h1.some (by omega)
    obtain ⟨g2, cap2, rfl, _, hg2, hc2, _⟩ := h2.some (by omega)
    clear h1 h2
    go_enter Tryd.func13, Tryd.ntmps13
    go_wp2
    go_loopw [5] (fun i wr => ∃ k : Nat, k ≤ ss.length ∧ i = .int .i64 k ∧ Below w.heap.size w wr) (fun i _ => ss.length - (intOf i).toNat)
    case atStart => exact ⟨0, by omega, rfl, Below.refl _ _⟩
    case round =>
      obtain ⟨k, hk, rfl, hb⟩ := hrel
      by_cases hlt : k < ss.length
      · have hce1 : wr.cell? ⟨g1, k, none⟩ = some (.string ss[k]) := (hb.cell (p := ⟨g1, k, none⟩) hg1).trans (hc1 k hlt)
        have hce2 : wr.cell? ⟨g2, k, none⟩ = some (.string ss[k]) := (hb.cell (p := ⟨g2, k, none⟩) hg2).trans (hc2 k hlt)
        have hq1 : (0 : Int) ≤ (k : Int) := by omega
        have hq2 : (k : Int) < (ss.length : Int) := by omega
        clear hc1 hc2
        go_wp2
        go_quiet (fail)
        go_wp2
        go_roundw
        case rel => exact ⟨k + 1, by omega, by go_num, below_drewN hb _⟩
        case measure => simp [intOf]; omega
      · go_wp2
        go_ret
        exact ⟨rfl, hb⟩


end Go.Proofs.YtjjaklhpdckppaaDoor
