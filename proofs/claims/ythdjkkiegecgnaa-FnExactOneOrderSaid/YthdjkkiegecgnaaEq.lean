/- Two lists of lists of items compared. -/
import Derived.Test.YthdjkkiegecgnaaSs
import Derived.BigQuiet
namespace Go.Proofs.Ythdjkkiegecgnaa
open Go.RowKit Pl
set_option linter.unusedVariables false

set_option maxRecDepth 100000 in
set_option maxHeartbeats 2000000 in
theorem eqSs_same (g1 g2 E1 E2 n : Nat) (ls : List (List It)) (w : World) (h1 : Hid (RowSs w g1 E1 n ls n)) (h2 : Hid (RowSs w g2 E2 n ls n)) (hn : Hid (ls.length = n)) (hl : n ≤ 1048576) (hm : Hid (∀ l ∈ ls, l.length ≤ 1048576)) :
    Calls Try.prog 39 #[.slice (some ⟨g1, 0, none⟩) n n, .slice (some ⟨g2, 0, none⟩) n n] w fun e w' => e = .returned (.bool true) ∧ Below w.heap.size w w' := by
  go_enter Try.func39, Try.ntmps39
  go_wp2_with fail
  go_loopw [5] (fun i wr => ∃ k : Nat, k ≤ n ∧ i = .int .i64 k ∧ Hid (Below w.heap.size w wr)) (fun i _ => n - (intOf i).toNat)
  case atStart => exact ⟨0, by omega, rfl, Below.refl _ _⟩
  case round =>
    obtain ⟨k, hk, rfl, hb⟩ := hrel
    by_cases hlt : k < n
    · have hkl : k < ls.length := by rw [hn.out]; exact hlt
      have R1 : RowSs wr g1 E1 n ls n := h1.out.below hb.out
      have R2 : RowSs wr g2 E2 n ls n := h2.out.below hb.out
      have hg1 := R1.lt
      have hg2 := R2.lt
      obtain ⟨v1, c1, O1⟩ := R1.read k hkl hlt
      obtain ⟨v2, c2, O2⟩ := R2.read k hkl hlt
      have hlm : ls[k].length ≤ 1048576 := hm.out _ (List.getElem_mem hkl)
      obtain ⟨l, hll⟩ : ∃ l, l = ls[k] := ⟨_, rfl⟩
      rw [← hll] at O1 O2 hlm
      have O1 : Hid (SlI wr (g1 + 1) v1 l) := O1
      have O2 : Hid (SlI wr (g2 + 1) v2 l) := O2
      have i0 : (0 : Int) ≤ (k : Int) := by omega
      have i1 : (k : Int) < (n : Int) := by omega
      clear hll R1 R2
      go_wp2_with fail
      refine quietC (C := (fun w' => (w'.cell? ⟨g1, k, none⟩ = some v1 ∧ w'.cell? ⟨g2, k, none⟩ = some v2) ∧ Hid (Below wr.heap.size wr w'))) (by kernel_rfl) (by kernel_rfl) ⟨⟨c1, c2⟩, (Below.refl _ _).drew⟩ ?_
      go_big_quiet_want
      go_big_quiet_op
      go_big_quiet_on
      go_big_quiet_want
      go_big_quiet_op
      go_big_quiet_on
      go_big_quiet_want
      refine q_val (.pointer (some ⟨g1, k, none⟩)) (fun w' hw' => by go_simp) ?_
      go_big_quiet_on
      simp only [Act.put, List.setIfInBounds_toArray, List.set_cons_zero, List.set_cons_succ]
      go_big_quiet_want
      refine q_val v1 (fun w' hw' => by obtain ⟨⟨j0, j1⟩, _⟩ := hw'; go_simp) ?_
      go_big_quiet_on
      simp only [Act.put, List.setIfInBounds_toArray, List.set_cons_zero, List.set_cons_succ]
      go_big_quiet_want
      go_big_quiet_op
      go_big_quiet_on
      go_big_quiet_want
      go_big_quiet_op
      go_big_quiet_on
      go_big_quiet_want
      refine q_val (.pointer (some ⟨g2, k, none⟩)) (fun w' hw' => by go_simp) ?_
      go_big_quiet_on
      simp only [Act.put, List.setIfInBounds_toArray, List.set_cons_zero, List.set_cons_succ]
      go_big_quiet_want
      refine q_val v2 (fun w' hw' => by obtain ⟨⟨j0, j1⟩, _⟩ := hw'; go_simp) ?_
      go_big_quiet_on
      simp only [Act.put, List.setIfInBounds_toArray, List.set_cons_zero, List.set_cons_succ]
      go_big_quiet_want
      refine q_call (.bool true) 88 #[v1, v2] (fun w' hw' => by go_simp) (fun w' hw' => (eqItems_sl v1 v2 l _ _ w' (O1.out.below hw'.2.out) (O2.out.below hw'.2.out) hlm).mono fun e w'' ⟨he, hb1⟩ => ⟨he, ⟨(hb1.cell (p := ⟨g1, k, none⟩) (Nat.lt_of_lt_of_le hg1 hw'.2.out.size)).trans hw'.1.1, (hb1.cell (p := ⟨g2, k, none⟩) (Nat.lt_of_lt_of_le hg2 hw'.2.out.size)).trans hw'.1.2⟩, hw'.2.out.trans (hb1.mono hw'.2.out.size)⟩) ?_
      go_big_quiet_on
      simp only [Act.put, List.setIfInBounds_toArray, List.set_cons_zero, List.set_cons_succ]
      go_big_quiet_want
      refine q_val (.bool false) (fun w' hw' => by go_simp) ?_
      go_big_quiet_on
      simp only [Act.put, List.setIfInBounds_toArray, List.set_cons_zero, List.set_cons_succ]
      refine wpQuiet_nil ?_
      intro w1 hcw
      have B1 : Hid (Below w.heap.size w w1) := hb.out.trans (hcw.2.out.mono hb.out.size)
      clear hcw c1 c2
      go_wp2_with fail
      go_roundw
      case rel => exact ⟨k + 1, by omega, by go_num, B1⟩
      case measure => simp [intOf]; omega
    · go_wp2_with fail
      go_ret
      exact ⟨rfl, hb.out⟩
end Go.Proofs.Ythdjkkiegecgnaa
