/- Items copied; those up to the aru: the walks over copyOfItems, store.whole and both Whole. -/
import Derived.Test.YtjijpcfdkmbgpaaA3
import Derived.Test.YtjijpcfdkmbgpaaSz
namespace Go.Proofs.Ytjijpcfdkmbgpaa
open Go.RowKit Pl
set_option linter.unusedVariables false

theorem grown_below {a b : World} (h : a.grownBy b none) : Below a.heap.size a b := ⟨h.os, h.tape, h.output, h.size, fun k hk => h.block k hk (by simp)⟩

set_option maxRecDepth 100000 in
set_option maxHeartbeats 1000000 in
theorem copyItems_any (ao : Option Addr) (cap : Nat) (ts : List It) (w : World) (hx : Hid (ItemsAt w ao ts)) (hl : ts.length ≤ 1048576) (hs : Hid (∀ x ∈ ts, x.2.2.2.size ≤ 1048576)) :
    Calls Try.prog 53 #[.slice ao ts.length cap] w fun e w' => ∃ v, e = .returned v ∧ SlI w' w.heap.size v ts ∧ Below w.heap.size w w' := by
  obtain ⟨i0, hi, hz0, hz1, hz2⟩ := info_parts Try.infoI
  obtain ⟨W, hmk, own, hgr⟩ := run_make_own (P := Try.prog) w w.heap.size 69 26 i0 _ 4 Try.underlying69 hi hz0 hz1 .i64 .i64 ts.length (by rw [hz2]; omega) (by unfold maxLen; omega) (Nat.le_refl _)
  have S0 : Hid (SlI W w.heap.size (.slice (some ⟨w.heap.size, 0, none⟩) 0 ts.length) []) := Sl.ofOwn own
  have B0 : Hid (Below w.heap.size w W) := grown_below hgr
  clear own hgr hi hz0 hz1 hz2
  go_enter Try.func53, Try.ntmps53
  go_wp2
  go_loopw [3, 11] (fun v i wr => ∃ (k : Nat), k ≤ ts.length ∧ i = .int .i64 k ∧ Hid (SlI wr w.heap.size v (ts.take k)) ∧ Hid (Below w.heap.size w wr)) (fun _ i _ => ts.length - (intOf i).toNat)
  case atStart => exact ⟨0, Nat.zero_le _, rfl, S0, B0⟩
  case round =>
    clear S0 B0 hmk
    obtain ⟨k, hk, rfl, hS, hb⟩ := hrel
    by_cases hlt : k < ts.length
    · obtain ⟨b, off, rfl, hbb, h0, h1, h2, h3⟩ := hx.out.stays hb.out k hlt
      have hsz := hs.out _ (List.getElem_mem hlt)
      have HP : Hid (∃ x : It, x = ts[k]) := ⟨_, rfl⟩
      obtain ⟨⟨q, f, lv, tx⟩, hp⟩ := HP.out
      rw [← hp] at h0 h1 h2 h3 hsz
      have HQ : Hid ((q, f, lv, tx) = ts[k]) := hp
      clear hp HP
      dsimp only at h0 h1 h2 h3 hsz
      have S0 : Hid (SlI (wr.alloc (.cells #[.int .i64 q, .int .i64 f, .int .i64 lv, .string tx] 26)) w.heap.size u3 (ts.take k)) := hS.out.below ((Below.refl _ _).alloc (Nat.le_refl _) _)
      have B0 : Hid (Below w.heap.size w (wr.alloc (.cells #[.int .i64 q, .int .i64 f, .int .i64 lv, .string tx] 26))) := hb.out.alloc hb.out.size _
      go_wp2_with fail
      generalize wr.alloc (.cells #[.int .i64 q, .int .i64 f, .int .i64 lv, .string tx] 26) = W0 at *
      clear h0 h1 h2 h3
      refine (copyItem_any q f lv tx _ hsz).mono ?_
      rintro e w1 ⟨rfl, hb1⟩
      have S1 : SlI w1 w.heap.size u3 (ts.take k) := S0.out.below hb1
      have B1 : Below w.heap.size w w1 := B0.out.trans (hb1.mono B0.out.size)
      have z1 : w.heap.size ≤ w1.heap.size := B1.size
      have hlk : (ts.take k).length ≤ 1048576 := by rw [List.length_take]; omega
      clear hb1 S0 B0 hS
      go_wp2_with (at_builtin; refine wpList_pushIt rfl _ _ 69 rfl Try.underlying69 w.heap.size u3 (ts.take k) rfl S1 (q, f, lv, tx) rfl hlk z1 ?_; intro v2 w2 S2 g2 b2 _)
      have S2 : Hid (SlI w2 w.heap.size v2 (ts.take (k + 1))) := by
        rw [List.take_succ_eq_append_getElem hlt, ← HQ.out]
        exact S2
      have B2 : Hid (Below w.heap.size w w2) := B1.trans b2
      go_roundw
      case rel => exact ⟨k + 1, by omega, by go_num, S2, B2⟩
      case measure => simp [intOf]; omega
    · obtain rfl : k = ts.length := by omega
      go_wp2_with fail
      go_ret
      exact ⟨_, rfl, by have := hS.out; rwa [List.take_length] at this, hb.out⟩

/-- those up to the aru. -/
def wholeP (ts : List It) : List It := ts.filter fun x => decide (x.1 ≤ (aruP ts : Int))
theorem filter_step {ts : List It} {k : Nat} {a : Int} (hk : k < ts.length) : (ts.take (k + 1)).filter (fun x => decide (x.1 ≤ a)) = (ts.take k).filter (fun x => decide (x.1 ≤ a)) ++ if ts[k].1 ≤ a then [ts[k]] else [] := by
  rw [List.take_succ_eq_append_getElem hk, List.filter_append]
  congr 1
  by_cases h : ts[k].1 ≤ a <;> simp [h]
theorem filter_len (ts : List It) (k : Nat) (a : Int) : ((ts.take k).filter (fun x => decide (x.1 ≤ a))).length ≤ ts.length :=
  Nat.le_trans (List.length_filter_le _ _) (by rw [List.length_take]; omega)

set_option maxRecDepth 100000 in
set_option maxHeartbeats 1000000 in
theorem swhole_any (ao : Option Addr) (cap : Nat) (ts : List It) (w : World) (hx : Hid (ItemsAt w ao ts)) (hl : ts.length ≤ 1048576) :
    Calls Try.prog 60 #[.slice ao ts.length cap] w fun e w' => ∃ v, e = .returned v ∧ SlI w' w.heap.size v (wholeP ts) ∧ Below w.heap.size w w' := by
  obtain ⟨A, hA⟩ : ∃ A : Nat, A = aruP ts := ⟨_, rfl⟩
  have HA : Hid (A = aruP ts) := hA
  have AR := aru_any ao cap ts w hx hl
  rw [← hA] at AR
  have AR : Hid _ := AR
  clear hA
  go_enter Try.func60, Try.ntmps60
  go_wp2_with fail
  refine (show Calls _ _ _ _ _ from AR.out).mono ?_
  rintro e w1 ⟨rfl, B1⟩
  have z1 : w.heap.size ≤ w1.heap.size := B1.size
  have S0 : Hid (SlI (w1.alloc (.cells #[] 26)) w.heap.size (.slice (some ⟨w1.heap.size, 0, none⟩) 0 0) []) := SlI.made w1 w.heap.size z1
  have B0 : Hid (Below w.heap.size w (w1.alloc (.cells #[] 26))) := B1.alloc z1 _
  clear AR
  go_wp2
  go_loopw [4, 12] (fun v i wr => ∃ (k : Nat), k ≤ ts.length ∧ i = .int .i64 k ∧ Hid (SlI wr w.heap.size v ((ts.take k).filter fun x => decide (x.1 ≤ (A : Int)))) ∧ Hid (Below w.heap.size w wr)) (fun _ i _ => ts.length - (intOf i).toNat)
  case atStart => exact ⟨0, Nat.zero_le _, rfl, S0, B0⟩
  case round =>
    clear S0 B0 B1 z1
    obtain ⟨k, hk, rfl, hS, hb⟩ := hrel
    by_cases hlt : k < ts.length
    · obtain ⟨b, off, rfl, hbb, h0, h1, h2, h3⟩ := hx.out.stays hb.out k hlt
      have HP : Hid (∃ x : It, x = ts[k]) := ⟨_, rfl⟩
      obtain ⟨⟨q, f, lv, tx⟩, hp⟩ := HP.out
      rw [← hp] at h0 h1 h2 h3
      have HQ : Hid ((q, f, lv, tx) = ts[k]) := hp
      have hst := filter_step (a := (A : Int)) hlt
      rw [← hp] at hst
      have HST : Hid _ := hst
      clear hp HP hst
      dsimp only at h0 h1 h2 h3
      have S0 : Hid (SlI (wr.alloc (.cells #[.int .i64 q, .int .i64 f, .int .i64 lv, .string tx] 26)) w.heap.size u4 ((ts.take k).filter fun x => decide (x.1 ≤ (A : Int)))) := hS.out.below ((Below.refl _ _).alloc (Nat.le_refl _) _)
      have I0 : Hid (ItAt (wr.alloc (.cells #[.int .i64 q, .int .i64 f, .int .i64 lv, .string tx] 26)) wr.heap.size q f lv tx) := heap_alloc_new wr _
      have B0 : Hid (Below w.heap.size w (wr.alloc (.cells #[.int .i64 q, .int .i64 f, .int .i64 lv, .string tx] 26))) := hb.out.alloc hb.out.size _
      have mn := mNum (wr.alloc (.cells #[.int .i64 q, .int .i64 f, .int .i64 lv, .string tx] 26)) (.agg #[.int .i64 q, .int .i64 f, .int .i64 lv, .string tx])
      go_wp2_with fail
      clear mn
      generalize wr.alloc (.cells #[.int .i64 q, .int .i64 f, .int .i64 lv, .string tx] 26) = W0 at *
      clear h0 h1 h2 h3
      refine (number_any q f lv tx _).mono ?_
      rintro e w1 ⟨rfl, hb1⟩
      have S1 : Hid (SlI w1 w.heap.size u4 ((ts.take k).filter fun x => decide (x.1 ≤ (A : Int)))) := S0.out.below hb1
      have I1 := I0.out.stays hb1 I0.out.lt
      obtain ⟨c0, c1, c2, c3⟩ := I1.cells
      have B1 : Below w.heap.size w w1 := B0.out.trans (hb1.mono B0.out.size)
      have z1 : w.heap.size ≤ w1.heap.size := B1.size
      have hlk : ((ts.take k).filter fun x => decide (x.1 ≤ (A : Int))).length ≤ 1048576 := Nat.le_trans (filter_len ts k A) hl
      clear hb1 S0 B0 hS I0 I1
      by_cases hq : q ≤ (A : Int)
      · have HLS : Hid ((ts.take (k + 1)).filter (fun x => decide (x.1 ≤ (A : Int))) = (ts.take k).filter (fun x => decide (x.1 ≤ (A : Int))) ++ [(q, f, lv, tx)]) := by
          have := HST.out
          rwa [if_pos (show (q, f, lv, tx).1 ≤ (A : Int) from hq)] at this
        clear HST
        go_wp2_with (at_builtin; refine wpList_pushIt rfl _ _ 69 rfl Try.underlying69 w.heap.size u4 _ rfl S1.out (q, f, lv, tx) rfl hlk z1 ?_; intro v2 w2 S2 g2 b2 _)
        have S2 : Hid (SlI w2 w.heap.size v2 ((ts.take (k + 1)).filter fun x => decide (x.1 ≤ (A : Int)))) := by
          rw [HLS.out]
          exact S2
        have B2 : Hid (Below w.heap.size w w2) := B1.trans b2
        go_roundw
        case rel => exact ⟨k + 1, by omega, by go_num, S2, B2⟩
        case measure => simp [intOf]; omega
      · have HLS : Hid ((ts.take (k + 1)).filter (fun x => decide (x.1 ≤ (A : Int))) = (ts.take k).filter (fun x => decide (x.1 ≤ (A : Int)))) := by
          have := HST.out
          rwa [if_neg (show ¬ (q, f, lv, tx).1 ≤ (A : Int) from hq), List.append_nil] at this
        clear HST
        have S2 : Hid (SlI w1 w.heap.size u4 ((ts.take (k + 1)).filter fun x => decide (x.1 ≤ (A : Int)))) := by
          rw [HLS.out]
          exact S1
        have B2 : Hid (Below w.heap.size w w1) := B1
        go_wp2_with fail
        go_roundw
        case rel => exact ⟨k + 1, by omega, by go_num, S2, B2⟩
        case measure => simp [intOf]; omega
    · obtain rfl : k = ts.length := by omega
      go_wp2_with fail
      go_ret
      exact ⟨_, rfl, by have := hS.out; rw [List.take_length] at this; unfold wholeP; rw [← HA.out]; exact this, hb.out⟩

set_option maxRecDepth 100000 in
set_option maxHeartbeats 1000000 in
theorem whole_any (ao : Option Addr) (cap : Nat) (ts : List It) (w : World) (hx : Hid (ItemsAt w ao ts)) (hl : ts.length ≤ 1048576) (hs : Hid (∀ x ∈ ts, x.2.2.2.size ≤ 1048576)) :
    Calls Try.prog 22 #[.slice ao ts.length cap] w fun e w' => ∃ v, e = .returned v ∧ SlI w' w.heap.size v (wholeP ts) ∧ Below w.heap.size w w' := by
  go_enter Try.func22, Try.ntmps22
  go_wp2_with fail
  refine (swhole_any ao cap ts w hx hl).mono ?_
  rintro e w1 ⟨v, rfl, S1, B1⟩
  have z1 : w.heap.size ≤ w1.heap.size := B1.size
  obtain ⟨vo, vc, rfl, Y1⟩ := S1.items
  have Y1 : Hid (ItemsAt w1 vo (wholeP ts)) := Y1
  have hlw : (wholeP ts).length ≤ 1048576 := Nat.le_trans (List.length_filter_le _ _) hl
  have HSW : Hid (∀ x ∈ wholeP ts, x.2.2.2.size ≤ 1048576) := fun x hx => hs.out x (List.mem_filter.1 hx).1
  clear S1 hs hx
  go_wp2_with fail
  refine (copyItems_any vo vc (wholeP ts) w1 Y1 hlw HSW).mono ?_
  rintro e w2 ⟨v2, rfl, S2, B2⟩
  go_wp2_with fail
  go_ret
  exact ⟨_, rfl, S2.down z1, B1.trans (B2.mono z1)⟩

set_option maxRecDepth 100000 in
set_option maxHeartbeats 1000000 in
theorem spWhole_any (ao : Option Addr) (cap : Nat) (ts : List It) (w : World) (hx : Hid (ItemsAt w ao ts)) (hl : ts.length ≤ 1048576) :
    Calls Try.prog 49 #[.slice ao ts.length cap] w fun e w' => ∃ v, e = .returned v ∧ SlI w' w.heap.size v (wholeP ts) ∧ Below w.heap.size w w' := by
  obtain ⟨A, hA⟩ : ∃ A : Nat, A = aruP ts := ⟨_, rfl⟩
  have HA : Hid (A = aruP ts) := hA
  have X0 : Hid (ItemsAt (w.alloc (.cells #[] 26)) ao ts) := hx.out.stays ((Below.refl _ _).alloc (Nat.le_refl _) _)
  have AR := spAru_any ao cap ts _ X0 hl
  rw [← hA] at AR
  have AR : Hid _ := AR
  have S0 : Hid (SlI (w.alloc (.cells #[] 26)) w.heap.size (.slice (some ⟨w.heap.size, 0, none⟩) 0 0) []) := SlI.made w w.heap.size (Nat.le_refl _)
  have B0 : Hid (Below w.heap.size w (w.alloc (.cells #[] 26))) := (Below.refl _ _).alloc (Nat.le_refl _) _
  clear hA
  go_enter Try.func49, Try.ntmps49
  go_wp2_with fail
  generalize w.alloc (.cells #[] 26) = W0 at *
  refine (show Calls _ _ _ _ _ from AR.out).mono ?_
  rintro e w1 ⟨rfl, b1⟩
  have S1 : Hid (SlI w1 w.heap.size (.slice (some ⟨w.heap.size, 0, none⟩) 0 0) []) := S0.out.below b1
  have B1 : Hid (Below w.heap.size w w1) := B0.out.trans (b1.mono B0.out.size)
  clear AR S0 B0 b1 X0
  go_wp2
  go_loopw [3, 5] (fun v i wr => ∃ (k : Nat), k ≤ ts.length ∧ i = .int .i64 k ∧ Hid (SlI wr w.heap.size v ((ts.take k).filter fun x => decide (x.1 ≤ (A : Int)))) ∧ Hid (Below w.heap.size w wr)) (fun _ i _ => ts.length - (intOf i).toNat)
  case atStart => exact ⟨0, Nat.zero_le _, rfl, S1, B1⟩
  case round =>
    clear S1 B1
    obtain ⟨k, hk, rfl, hS, hb⟩ := hrel
    by_cases hlt : k < ts.length
    · obtain ⟨b, off, rfl, hbb, h0, h1, h2, h3⟩ := hx.out.stays hb.out k hlt
      have HP : Hid (∃ x : It, x = ts[k]) := ⟨_, rfl⟩
      obtain ⟨⟨q, f, lv, tx⟩, hp⟩ := HP.out
      rw [← hp] at h0 h1 h2 h3
      have hst := filter_step (a := (A : Int)) hlt
      rw [← hp] at hst
      have HST : Hid _ := hst
      clear hp HP hst
      dsimp only at h0 h1 h2 h3
      have z1 : w.heap.size ≤ wr.heap.size := hb.out.size
      have hlk : ((ts.take k).filter fun x => decide (x.1 ≤ (A : Int))).length ≤ 1048576 := Nat.le_trans (filter_len ts k A) hl
      by_cases hq : q ≤ (A : Int)
      · have HLS : Hid ((ts.take (k + 1)).filter (fun x => decide (x.1 ≤ (A : Int))) = (ts.take k).filter (fun x => decide (x.1 ≤ (A : Int))) ++ [(q, f, lv, tx)]) := by
          have := HST.out
          rwa [if_pos (show (q, f, lv, tx).1 ≤ (A : Int) from hq)] at this
        clear HST
        go_wp2_with (at_builtin; refine wpList_pushIt rfl _ _ 24 rfl Try.underlying24 w.heap.size u3 _ rfl hS.out (q, f, lv, tx) rfl hlk z1 ?_; intro v2 w2 S2 g2 b2 _)
        have S2 : Hid (SlI w2 w.heap.size v2 ((ts.take (k + 1)).filter fun x => decide (x.1 ≤ (A : Int)))) := by
          rw [HLS.out]
          exact S2
        have B2 : Hid (Below w.heap.size w w2) := hb.out.trans b2
        go_roundw
        case rel => exact ⟨k + 1, by omega, by go_num, S2, B2⟩
        case measure => simp [intOf]; omega
      · have HLS : Hid ((ts.take (k + 1)).filter (fun x => decide (x.1 ≤ (A : Int))) = (ts.take k).filter (fun x => decide (x.1 ≤ (A : Int)))) := by
          have := HST.out
          rwa [if_neg (show ¬ (q, f, lv, tx).1 ≤ (A : Int) from hq), List.append_nil] at this
        clear HST
        have S2 : Hid (SlI wr w.heap.size u3 ((ts.take (k + 1)).filter fun x => decide (x.1 ≤ (A : Int)))) := by
          rw [HLS.out]
          exact hS
        go_wp2_with fail
        go_roundw
        case rel => exact ⟨k + 1, by omega, by go_num, S2, hb⟩
        case measure => simp [intOf]; omega
    · obtain rfl : k = ts.length := by omega
      go_wp2_with fail
      go_ret
      exact ⟨_, rfl, by have := hS.out; rw [List.take_length] at this; unfold wholeP; rw [← HA.out]; exact this, hb.out⟩
end Go.Proofs.Ytjijpcfdkmbgpaa
