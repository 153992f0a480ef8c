/- Items copied; those up to the aru: the walks over copyOfItems, store.whole and both Whole. -/
import Derived.Test.YthdjkkiegecgnaaA3
import Derived.Test.YthdjkkiegecgnaaSz
namespace Go.Proofs.Ythdjkkiegecgnaa
open Go.RowKit Pl
set_option linter.unusedVariables false

theorem grown_below {a b : World} (h : a.grownBy b none) : Below a.heap.size a b := ⟨h.os, h.tape, h.output, h.size, fun k hk => h.block k hk (by simp)⟩

set_option maxRecDepth 100000 in
set_option maxHeartbeats 1000000 in
theorem copyItems_any (ao : Option Addr) (cap : Nat) (ts : List It) (w : World) (hx : Hid (ItemsAt w ao ts)) (hl : ts.length ≤ 1048576) (hs : Hid (∀ x ∈ ts, x.2.2.2.size ≤ 1048576)) :
    Calls Try.prog 111 #[.slice ao ts.length cap] w fun e w' => ∃ v, e = .returned v ∧ SlI w' w.heap.size v ts ∧ Below w.heap.size w w' := by
  obtain ⟨i0, hi, hz0, hz1, hz2⟩ := info_parts Try.infoI
  obtain ⟨W, hmk, own, hgr⟩ := run_make_own (P := Try.prog) w w.heap.size 113 38 i0 _ 4 Try.underlying113 hi hz0 hz1 .i64 .i64 ts.length (by rw [hz2]; omega) (by unfold maxLen; omega) (Nat.le_refl _)
  have S0 : Hid (SlI W w.heap.size (.slice (some ⟨w.heap.size, 0, none⟩) 0 ts.length) []) := Sl.ofOwn own
  have B0 : Hid (Below w.heap.size w W) := grown_below hgr
  clear own hgr hi hz0 hz1 hz2
  go_enter Try.func111, Try.ntmps111
  go_wp2
  go_loopw [3, 11] (fun v i wr => ∃ (k : Nat), k ≤ ts.length ∧ i = .int .i64 k ∧ Hid (SlI wr w.heap.size v (ts.take k)) ∧ Hid (Below w.heap.size w wr)) (fun _ i _ => ts.length - (intOf i).toNat)
  case atStart => exact ⟨0, Nat.zero_le _, rfl, S0, B0⟩
  case round =>
    clear S0 B0 hmk
    obtain ⟨k, hk, rfl, hS, hb⟩ := hrel
    by_cases hlt : k < ts.length
    · obtain ⟨b, off, rfl, hbb, h0, h1, h2, h3⟩ := hx.out.stays hb.out k hlt
      have hsz := hs.out _ (List.getElem_mem hlt)
      have HP : Hid (∃ x : It, x = ts[k]) := ⟨_, rfl⟩
      obtain ⟨⟨q, f, lv, tx⟩, hp⟩ := HP.out
      rw [← hp] at h0 h1 h2 h3 hsz
      have HQ : Hid ((q, f, lv, tx) = ts[k]) := hp
      clear hp HP
      dsimp only at h0 h1 h2 h3 hsz
      have S0 : Hid (SlI (wr.alloc (.cells #[.int .i64 q, .int .i64 f, .int .i64 lv, .string tx] 38)) w.heap.size u3 (ts.take k)) := hS.out.below ((Below.refl _ _).alloc (Nat.le_refl _) _)
      have B0 : Hid (Below w.heap.size w (wr.alloc (.cells #[.int .i64 q, .int .i64 f, .int .i64 lv, .string tx] 38))) := hb.out.alloc hb.out.size _
      go_wp2_with fail
      generalize wr.alloc (.cells #[.int .i64 q, .int .i64 f, .int .i64 lv, .string tx] 38) = W0 at *
      clear h0 h1 h2 h3
      refine (copyItem_any q f lv tx _ hsz).mono ?_
      rintro e w1 ⟨rfl, hb1⟩
      have S1 : SlI w1 w.heap.size u3 (ts.take k) := S0.out.below hb1
      have B1 : Below w.heap.size w w1 := B0.out.trans (hb1.mono B0.out.size)
      have z1 : w.heap.size ≤ w1.heap.size := B1.size
      have hlk : (ts.take k).length ≤ 1048576 := by rw [List.length_take]; omega
      clear hb1 S0 B0 hS
      go_wp2_with (at_builtin; refine wpList_pushIt rfl _ _ 113 rfl Try.underlying113 w.heap.size u3 (ts.take k) rfl S1 (q, f, lv, tx) rfl hlk z1 ?_; intro v2 w2 S2 g2 b2 _)
      have S2 : Hid (SlI w2 w.heap.size v2 (ts.take (k + 1))) := by
        rw [List.take_succ_eq_append_getElem hlt, ← HQ.out]
        exact S2
      have B2 : Hid (Below w.heap.size w w2) := B1.trans b2
      go_roundw
      case rel => exact ⟨k + 1, by omega, by go_num, S2, B2⟩
      case measure => simp [intOf]; omega
    · obtain rfl : k = ts.length := by omega
      go_wp2_with fail
      go_ret
      exact ⟨_, rfl, by have := hS.out; rwa [List.take_length] at this, hb.out⟩

/-- those up to the aru. -/
def wholeP (ts : List It) : List It := ts.filter fun x => decide (x.1 ≤ (aruP ts : Int))
theorem filter_step {ts : List It} {k : Nat} {a : Int} (hk : k < ts.length) : (ts.take (k + 1)).filter (fun x => decide (x.1 ≤ a)) = (ts.take k).filter (fun x => decide (x.1 ≤ a)) ++ if ts[k].1 ≤ a then [ts[k]] else [] := by
  rw [List.take_succ_eq_append_getElem hk, List.filter_append]
  congr 1
  by_cases h : ts[k].1 ≤ a <;> simp [h]
theorem filter_len (ts : List It) (k : Nat) (a : Int) : ((ts.take k).filter (fun x => decide (x.1 ≤ a))).length ≤ ts.length :=
  Nat.le_trans (List.length_filter_le _ _) (by rw [List.length_take]; omega)

end Go.Proofs.Ythdjkkiegecgnaa
