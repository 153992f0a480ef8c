/- Joined texts: Ct1. -/
import Derived.Test.YtfefjkldjaabbaaPj13
import Derived.Test.YtfefjkldjaabbaaPj6
import Derived.Laws.MakeOwn
/- Texts copied: the walk over copyOfTexts. -/
namespace Go.Proofs.Ytfefjkldjaabbaa
open Go.RowKit Pl
set_option linter.unusedVariables false

theorem grown_below {a b : World} (h : a.grownBy b none) : Below a.heap.size a b := ⟨h.os, h.tape, h.output, h.size, fun k hk => h.block k hk (by simp)⟩

set_option maxRecDepth 100000 in
set_option maxHeartbeats 1000000 in
theorem copyTexts_any (ao : Option Addr) (cap : Nat) (ts : List ByteArray) (w : World) (hx : Hid (TextsAt w ao ts)) (hl : ts.length ≤ 1048576) (hs : Hid (∀ x ∈ ts, x.size ≤ 1048576)) :
    Calls Try.prog 46 #[.slice ao ts.length cap] w fun e w' => ∃ v, e = .returned v ∧ OwnS w' w.heap.size v ts ∧ Below w.heap.size w w' := by
  obtain ⟨i0, hi, hz0, hz1, hz2⟩ := info_parts Try.info9
  obtain ⟨W, hmk, own, hgr⟩ := run_make_own (P := Try.prog) w w.heap.size 26 9 i0 _ 1 Try.underlying26 hi hz0 hz1 .i64 .i64 ts.length (by rw [hz2]; omega) (by unfold maxLen; omega) (Nat.le_refl _)
  have S0 : Hid (OwnS W w.heap.size (.slice (some ⟨w.heap.size, 0, none⟩) 0 ts.length) []) := own
  have B0 : Hid (Below w.heap.size w W) := grown_below hgr
  clear own hgr hi hz0 hz1 hz2
  go_enter Try.func46, Try.ntmps46
  go_wp2
  go_loopw [3, 11] (fun v i wr => ∃ (k : Nat), k ≤ ts.length ∧ i = .int .i64 k ∧ Hid (OwnS wr w.heap.size v (ts.take k)) ∧ Hid (Below w.heap.size w wr)) (fun _ i _ => ts.length - (intOf i).toNat)
  case atStart => exact ⟨0, Nat.zero_le _, rfl, S0, B0⟩
  case round =>
    clear S0 B0 hmk
    obtain ⟨k, hk, rfl, hS, hb⟩ := hrel
    by_cases hlt : k < ts.length
    · obtain ⟨b, off, rfl, hbb, h0⟩ := hx.out.stays hb.out k hlt
      have hsz := hs.out _ (List.getElem_mem hlt)
      have HP : Hid (∃ x : ByteArray, x = ts[k]) := ⟨_, rfl⟩
      obtain ⟨tx, hp⟩ := HP.out
      rw [← hp] at h0 hsz
      have HQ : Hid (tx = ts[k]) := hp
      clear hp HP
      go_wp2_with fail
      clear h0
      refine (clone_any tx _ hsz).mono ?_
      rintro e w1 ⟨rfl, hb1⟩
      have S1 : OwnS w1 w.heap.size u3 (ts.take k) := ownS_later hS.out hb1
      have B1 : Below w.heap.size w w1 := hb.out.trans (hb1.mono hb.out.size)
      have z1 : w.heap.size ≤ w1.heap.size := B1.size
      have hlk : (ts.take k).length < 4000000 := by rw [List.length_take]; omega
      clear hb1 hS
      go_wp2_with (at_builtin; refine wpList_pushS rfl _ _ 26 rfl Try.underlying26 Try.info9 w.heap.size u3 (ts.take k) rfl S1 tx rfl hlk z1 ?_; intro v2 w2 S2 b2)
      have S2 : Hid (OwnS w2 w.heap.size v2 (ts.take (k + 1))) := by
        rw [List.take_succ_eq_append_getElem hlt, ← HQ.out]
        exact S2
      have B2 : Hid (Below w.heap.size w w2) := B1.trans b2
      go_roundw
      case rel => exact ⟨k + 1, by omega, by go_num, S2, B2⟩
      case measure => simp [intOf]; omega
    · obtain rfl : k = ts.length := by omega
      go_wp2_with fail
      go_ret
      exact ⟨_, rfl, by have := hS.out; rwa [List.take_length] at this, hb.out⟩
end Go.Proofs.Ytfefjkldjaabbaa

