/- The walk over the specification's SortNames. -/
import Derived.Test.YtbdnnmcjnfbloaaT2
namespace Go.Proofs.Ytbdnnmcjnfbloaa
open Go.RowKit Pl
set_option linter.unusedVariables false

set_option maxRecDepth 100000 in
set_option maxHeartbeats 2000000 in
theorem specSort (w : World) (ao : Option Addr) (cap : Nat) (ts : List ByteArray) (hx : Hid (TextsAt w ao ts)) (hl : ts.length ≤ 1048576) :
    Calls Try.prog 14 #[.slice ao ts.length cap] w fun e w' => ∃ v us, e = .returned v ∧ SetOf ts us ∧ us.length ≤ ts.length ∧ OwnS w' w.heap.size v us ∧ Below w.heap.size w w' := by
  go_enter Try.func14, Try.ntmps14
  go_wp2
  go_loopw [3, 4] (fun v i wr => ∃ (k : Nat) (us : List ByteArray), k ≤ ts.length ∧ i = .int .i64 k ∧ Hid (SetOf (ts.take k) us) ∧ us.length ≤ k ∧ Hid (OwnS wr w.heap.size v us) ∧ Below w.heap.size w wr) (fun _ i _ => ts.length - (intOf i).toNat)
  case atStart => exact ⟨0, [], by omega, rfl, setOf_nil, by simp, OwnS.made w _ (Nat.le_refl _), (Below.refl _ _).alloc (Nat.le_refl _) _⟩
  case round =>
    obtain ⟨k, us, hk, rfl, hst, hul, hown, hb⟩ := hrel
    have hsz := hb.size
    obtain ⟨ao1, cap1, rfl, htx⟩ := hown.out.texts
    by_cases hlt : k < ts.length
    · obtain ⟨b, off, rfl, hbb, hc⟩ := hx.out k hlt
      have hc' : wr.cell? ⟨b, off + k, none⟩ = some (.string ts[k]) := (hb.cell (p := ⟨b, off + k, none⟩) hbb).trans hc
      obtain ⟨t, ht⟩ : ∃ t, t = ts[k] := ⟨_, rfl⟩
      rw [← ht] at hc'
      have HT : Hid (SetOf (ts.take (k + 1)) (ins us t)) := by
        show SetOf _ _
        rw [List.take_succ_eq_append_getElem hlt, ← ht]
        exact setOf_step hst.out t
      have HI := ins_length us t
      clear ht hc
      have HX : Hid (TextsAt wr ao1 us) := htx
      clear htx
      go_wp2_with (first | (go_at_call 27; refine (ins_any _ ao1 cap1 us t HX (by omega)).mono ?_; rintro e w1 ⟨v1, rfl, hown1, hb1⟩))
      go_roundw
      case rel => exact ⟨k + 1, ins us t, by omega, by go_num, HT, by omega, hown1.down hsz, hb.trans (hb1.mono hsz)⟩
      case measure => simp [intOf]; omega
    · obtain rfl : k = ts.length := by omega
      clear htx
      go_wp2
      go_ret
      refine ⟨_, us, rfl, ?_, hul, hown.out, hb⟩
      have := hst.out
      rwa [List.take_length] at this
end Go.Proofs.Ytbdnnmcjnfbloaa
