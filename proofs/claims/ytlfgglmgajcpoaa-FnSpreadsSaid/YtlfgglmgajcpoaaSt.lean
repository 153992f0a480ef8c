/- The walks over lists of lists of ints. -/
import Derived.Test.YtlfgglmgajcpoaaSs
import Derived.Test.YtlfgglmgajcpoaaPg
namespace Go.Proofs.Ytlfgglmgajcpoaa
open Go.RowKit Pl
set_option linter.unusedVariables false

set_option maxRecDepth 100000 in
set_option maxHeartbeats 1000000 in
theorem toI_any (w : World) (ao : Option Addr) (cap : Nat) (ts : List Int) (hx : Hid (IntsAt w ao ts)) (hl : ts.length ≤ 1048576) :
    Calls Try.prog 55 #[.slice ao ts.length cap] w fun e w' => ∃ v, e = .returned v ∧ OwnI w' w.heap.size v ts ∧ Below w.heap.size w w' := by
  obtain ⟨i0, hi, hz0, hz1, hz2⟩ := info_parts Try.info3i
  have hM : madeCells (Value.int .i64 0).cells ts.length = ((List.replicate ts.length (0 : Int)).map (Value.int .i64)).toArray := by
    apply Array.ext'
    rw [show (Value.int .i64 0).cells = #[Value.int .i64 0] from rfl, toList_madeCells_one]
    simp
  have hmk : ∀ W : World, (Instr.makeSlice 27 (.int .i64 (ts.length : Int)) (.int .i64 (ts.length : Int))).run Try.prog W = .ok (.slice (some ⟨W.heap.size, 0, none⟩) ts.length ts.length) (W.alloc (.cells ((List.replicate ts.length (0 : Int)).map (Value.int .i64)).toArray 3)) := fun W => by
    have h := run_make (P := Try.prog) W 27 3 i0 (.int .i64 0) Try.underlying27 hi hz0 .i64 .i64 (ts.length : Int) (ts.length : Int) (by omega) (by omega) (by rw [hz2]; omega) (by omega)
    rw [hz1, Int.toNat_natCast, Nat.mul_one, hM] at h
    simpa using h
  clear hM
  have H0 : Hid (OwnI (w.alloc (.cells ((List.replicate ts.length (0 : Int)).map (Value.int .i64)).toArray 3)) w.heap.size (.slice (some ⟨w.heap.size, 0, none⟩) ts.length ts.length) (List.replicate ts.length 0)) := by
    have := OwnI.lit w w.heap.size (List.replicate ts.length 0) (Nat.le_refl _) (by rw [List.length_replicate]; omega)
    rw [List.length_replicate] at this
    exact this
  generalize hA : ((List.replicate ts.length (0 : Int)).map (Value.int .i64)).toArray = A at hmk H0
  clear hA
  go_enter Try.func55, Try.ntmps55
  go_wp2
  go_loopw [4] (fun i wr => ∃ (k : Nat) (xs : List Int), k ≤ ts.length ∧ i = .int .i64 k ∧ Hid (xs.length = ts.length) ∧ Hid (xs.take k = ts.take k) ∧ Hid (OwnI wr w.heap.size (.slice (some ⟨w.heap.size, 0, none⟩) ts.length ts.length) xs) ∧ w.heap.size < wr.heap.size ∧ Below w.heap.size w wr) (fun i _ => ts.length - (intOf i).toNat)
  case atStart => exact ⟨0, _, by omega, rfl, List.length_replicate, rfl, H0.out, by simp, (Below.refl _ _).alloc (Nat.le_refl _) _⟩
  case round =>
    obtain ⟨k, xs, hk, rfl, hxl, htk, hown, hsz, hb⟩ := hrel
    by_cases hlt : k < ts.length
    · obtain ⟨b, off, rfl, hbb, hc⟩ := hx.out k hlt
      have hc' : wr.cell? ⟨b, off + k, none⟩ = some (.int .i64 ts[k]) := (hb.cell (p := ⟨b, off + k, none⟩) hbb).trans hc
      obtain ⟨t, ht⟩ : ∃ t, t = ts[k] := ⟨_, rfl⟩
      rw [← ht] at hc'
      have HT : Hid (t = ts[k]) := ht
      clear ht hc
      have hown2 : OwnI wr w.heap.size (.slice (some ⟨w.heap.size, 0, none⟩) xs.length ts.length) xs := by rw [hxl.out]; exact hown.out
      obtain ⟨x, hce⟩ : ∃ x, wr.cell? ⟨w.heap.size, k, none⟩ = some (.int .i64 x) := ⟨xs[k]'(by rw [hxl.out]; exact hlt), by
        have := World.ownsRow.cellAt hown2 k (by rw [hxl.out]; omega)
        rw [this]
        simp [hxl.out, hlt]⟩
      have hfz : wr.frozen? ⟨w.heap.size, k, none⟩ = false := World.ownsRow.frozenAt hown2 k
      have HO : Hid _ := hown2.store k t
      clear hown2
      go_wp2
      go_roundw
      case rel =>
        refine ⟨k + 1, xs.set k t, by omega, by go_num, by rw [List.length_set]; exact hxl.out, ?_, ?_, ?_, hb.setCell (Nat.le_refl _) _⟩
        · show (xs.set k t).take (k + 1) = ts.take (k + 1)
          have hkx : k < xs.length := by rw [hxl.out]; exact hlt
          rw [List.take_succ_eq_append_getElem (by rw [List.length_set]; exact hkx), List.take_succ_eq_append_getElem hlt, List.take_set_of_le (Nat.le_refl _), htk.out, HT.out]
          simp
        · show OwnI _ _ _ _
          have := HO.out.1
          rw [hxl.out] at this
          exact this
        · have := HO.out.2.size
          omega
      case measure => simp [intOf]; omega
    · obtain rfl : k = ts.length := by omega
      go_wp2
      go_ret
      refine ⟨_, rfl, ?_, hb⟩
      have e : xs = ts := by
        have := htk.out
        rwa [List.take_of_length_le (by rw [hxl.out]; exact Nat.le_refl _), List.take_of_length_le (Nat.le_refl _)] at this
      rw [← e, hxl.out]
      exact hown.out

set_option maxRecDepth 100000 in
set_option maxHeartbeats 1000000 in
theorem markI_big (v : Value) (ss : List Int) (B K : Nat) (w : World) (h1 : OwnI w B v ss) (hl : K + ss.length ≤ 4611686018427387904) (hK : 0 < K) :
    Calls Try.prog 28 #[v, .int .i64 K] w fun e w' => e = .returned (.int .i64 ((K + ss.length : Nat) : Int)) ∧ OwnI w' B v (marks K ss.length) ∧ w.grownBy w' v.ownBlock := by
  by_cases h0 : ss.length = 0
  · have HN : Hid (OwnI w B v (marks K ss.length)) := by
      have e : ss = [] := List.eq_nil_of_length_eq_zero h0
      subst e
      exact h1
    obtain ⟨ao1, cap1, rfl⟩ := h1.form
    clear h1
    rw [h0] at HN ⊢
    go_enter Try.func28, Try.ntmps28
    go_wp2
    refine wp_loop_rounds 1 ?_
    rw [rounds_succ]
    go_wp2
    go_ret
    exact ⟨rfl, HN.out, World.grownBy.refl _ _⟩
  · obtain ⟨g, cap, rfl, hB, hg, hc, hf⟩ := h1.some (by omega)
    clear hc hf
    have HOWN : Hid (OwnI w B (.slice (some ⟨g, 0, none⟩) ss.length cap) ss) := h1
    clear h1
    go_enter Try.func28, Try.ntmps28
    go_wp2
    go_loopw [1, 5] (fun kk i wr => ∃ (j : Nat) (xs : List Int), j ≤ ss.length ∧ i = .int .i64 j ∧ kk = .int .i64 ((K + j : Nat) : Int) ∧ Hid (xs.length = ss.length) ∧ Hid (∀ t, t < j → xs[t]? = some ((K + t : Nat) : Int)) ∧ OwnI wr B (.slice (some ⟨g, 0, none⟩) ss.length cap) xs ∧ Hid (w.grownBy wr (some g))) (fun _ i _ => ss.length - (intOf i).toNat)
    case atStart => exact ⟨0, ss, by omega, rfl, rfl, rfl, (fun t ht => absurd ht (by omega)), HOWN.out, World.grownBy.refl _ _⟩
    case round =>
      obtain ⟨j, xs, hj, rfl, rfl, hxl, hmk, hown, hgr⟩ := hrel
      by_cases hlt : j < ss.length
      · have hxl' := hxl.out
        have hown' : OwnI wr B (.slice (some ⟨g, 0, none⟩) xs.length cap) xs := by rw [hxl']; exact hown
        have hjx : j < xs.length := by omega
        obtain ⟨x, hce⟩ : ∃ x, wr.cell? ⟨g, j, none⟩ = some (.int .i64 x) := ⟨xs[j], by
          have := World.ownsRow.cellAt hown' j (by omega)
          rw [this]
          simp [hjx]⟩
        have hfz : wr.frozen? ⟨g, j, none⟩ = false := World.ownsRow.frozenAt hown' j
        have HO : Hid _ := hown'.store j (K + j : Nat)
        clear hxl' hown'
        go_wp2
        go_roundw
        case rel =>
          have hs1 := HO.out.1
          rw [hxl.out] at hs1
          exact ⟨j + 1, xs.set j (K + j : Nat), by omega, by go_num, by go_num, (show (xs.set j _).length = ss.length by rw [List.length_set]; exact hxl.out), (fun t ht => by
            by_cases e : t = j
            · subst e; rw [List.getElem?_set_self (by have := hxl.out; omega)]
            · rw [List.getElem?_set_ne (fun h => e h.symm)]; exact hmk.out t (by omega)), hs1, grown_trans hgr.out HO.out.2⟩
        case measure => simp [intOf]; omega
      · obtain rfl : j = ss.length := by omega
        go_wp2
        go_ret
        exact ⟨ret_int' (by omega), (by rw [← marks_eq hxl.out hmk.out, ← hxl.out] at *; rw [hxl.out]; exact hown), hgr.out⟩

set_option maxRecDepth 100000 in
set_option maxHeartbeats 1000000 in
theorem markRoads_bd (g n k0 : Nat) (ts : List Rd) (w : World) (hx : Hid (RowRd w g n ts 0)) (hl : n ≤ 1048576) (hk0 : k0 ≤ 1000) (hk1 : 0 < k0) :
    Calls Try.prog 27 #[.slice (some ⟨g, 0, none⟩) n n, .int .i64 k0] w fun e w' => (∃ z : Nat, e = .returned (.int .i64 z) ∧ z ≤ 4000000 ∧ 0 < z) ∧ w.grownBy w' (some g) := by
  go_enter Try.func27, Try.ntmps27
  go_wp2
  go_loopw [1, 5] (fun z i wr => ∃ (k : Nat), k ≤ n ∧ i = .int .i64 k ∧ z = .int .i64 ((k0 + k * 3 : Nat) : Int) ∧ Hid (RowRd wr g n ts 0) ∧ Hid (w.grownBy wr (some g))) (fun _ i _ => n - (intOf i).toNat)
  case atStart => exact ⟨0, by omega, rfl, by simp, hx.out, World.grownBy.refl _ _⟩
  case round =>
    obtain ⟨k, hk, rfl, rfl, hrow, hb⟩ := hrel
    obtain ⟨z, hz⟩ : ∃ z, z = k0 + k * 3 := ⟨_, rfl⟩
    have HZ : Hid (z = k0 + k * 3) := hz
    rw [← hz]
    have hzl : z ≤ 4000000 := by omega
    clear hz
    by_cases hlt : k < n
    · obtain ⟨v0, z0⟩ := hrow.out.cell (k * 3) (by omega)
      obtain ⟨v1, z1⟩ := hrow.out.cell (k * 3 + 1) (by omega)
      obtain ⟨v2, z2⟩ := hrow.out.cell (k * 3 + 2) (by omega)
      have f0 := hrow.out.frozen (k * 3)
      have f1 := hrow.out.frozen (k * 3 + 1)
      have f2 := hrow.out.frozen (k * 3 + 2)
      have hq1 : (0 : Int) ≤ (k : Int) := by omega
      have hq2 : (k : Int) < (n : Int) := by omega
      go_wp2_with fail
      go_roundw
      case rel =>
        refine ⟨k + 1, by omega, by go_num, ?_, ((hrow.out.put _ _).put _ _).put _ _, grown_trans (grown_trans (grown_trans hb.out (grown_cell _ g _ _)) (grown_cell _ g _ _)) (grown_cell _ g _ _)⟩
        have := HZ.out
        congr 1
        omega
      case measure => simp [intOf]; omega
    · go_wp2_with fail
      go_ret
      exact ⟨⟨z, rfl, hzl, by have := HZ.out; omega⟩, hb.out⟩
set_option maxRecDepth 100000 in
set_option maxHeartbeats 1000000 in
theorem eqI_q (v1 v2 : Value) (ss : List Int) (B1 B2 : Nat) (w : World) (h1 : OwnI w B1 v1 ss) (h2 : OwnI w B2 v2 ss) (hl : ss.length ≤ 1048576) :
    Calls Try.prog 26 #[v1, v2] w fun e w' => e = .returned (.bool true) ∧ ∃ m, w' = w.drewN m := by
  by_cases h0 : ss.length = 0
  · obtain ⟨ao1, cap1, rfl⟩ := h1.form
    obtain ⟨ao2, cap2, rfl⟩ := h2.form
    rw [h0]
    clear h1 h2
    go_enter Try.func26, Try.ntmps26
    go_wp2
    refine wp_loop_rounds 1 ?_
    rw [rounds_succ]
    go_wp2
    go_ret
    exact ⟨rfl, 0, rfl⟩
  · obtain ⟨g1, cap1, rfl, _, hg1, hc1, _⟩ := h1.some (by omega)
    obtain ⟨g2, cap2, rfl, _, hg2, hc2, _⟩ := h2.some (by omega)
    clear h1 h2
    go_enter Try.func26, Try.ntmps26
    go_wp2
    go_loopw [5] (fun i wr => ∃ k : Nat, k ≤ ss.length ∧ i = .int .i64 k ∧ Hid (∃ m, wr = w.drewN m)) (fun i _ => ss.length - (intOf i).toNat)
    case atStart => exact ⟨0, by omega, rfl, ⟨0, rfl⟩⟩
    case round =>
      obtain ⟨k, hk, rfl, hb⟩ := hrel
      by_cases hlt : k < ss.length
      · have hce1 : wr.cell? ⟨g1, k, none⟩ = some (.int .i64 ss[k]) := by obtain ⟨m, rfl⟩ := hb.out; exact hc1 k hlt
        have hce2 : wr.cell? ⟨g2, k, none⟩ = some (.int .i64 ss[k]) := by obtain ⟨m, rfl⟩ := hb.out; exact hc2 k hlt
        have hq1 : (0 : Int) ≤ (k : Int) := by omega
        have hq2 : (k : Int) < (ss.length : Int) := by omega
        clear hc1 hc2
        go_wp2
        go_quiet (fail)
        go_wp2
        go_roundw
        case rel => exact ⟨k + 1, by omega, by go_num, (by obtain ⟨m, rfl⟩ := hb.out; exact ⟨m + nq, World.drewN_drewN ..⟩)⟩
        case measure => simp [intOf]; omega
      · go_wp2
        go_ret
        exact ⟨rfl, hb.out⟩

set_option maxRecDepth 100000 in
set_option maxHeartbeats 1000000 in
theorem szI_any (ao : Option Addr) (len cap left : Nat) (w : World) (hl : len ≤ 9223372036854775807) (hz : left ≤ 1048576) :
    Calls Try.prog 52 #[.slice ao len cap, .int .i64 left] w fun e w' => (e = .returned (.int .i64 (-1)) ∨ (∃ z : Nat, e = .returned (.int .i64 z) ∧ len ≤ 1048576 ∧ z ≤ 1048576)) ∧ w' = w := by
  by_cases h1 : left < len
  · have hd : decide ((left : Int) - (len : Int) < 0) = true := by simp; omega
    go_enter Try.func52, Try.ntmps52
    go_wp2
    go_ret
    exact ⟨.inl rfl, rfl⟩
  · have hd : decide ((left : Int) - (len : Int) < 0) = false := by simp; omega
    obtain ⟨z, hz⟩ : ∃ z : Nat, (left : Int) - (len : Int) = (z : Int) := ⟨left - len, by omega⟩
    rw [hz] at hd
    go_enter Try.func52, Try.ntmps52
    go_wp2
    go_ret
    refine ⟨.inr ⟨z, ?_, by omega, by omega⟩, rfl⟩
    first | rfl | (rw [← hz]; rfl)

set_option maxRecDepth 100000 in
set_option maxHeartbeats 1000000 in
theorem szSs_any (ao : Option Addr) (cap left : Nat) (ls : List (List Int)) (w : World) (hx : Hid (LsAt w ao ls)) (hl : ls.length ≤ 9223372036854775807) (hz : left ≤ 1048576) :
    Calls Try.prog 30 #[.slice ao ls.length cap, .int .i64 left] w fun e w' => (e = .returned (.int .i64 (-1)) ∨ (∃ z : Nat, e = .returned (.int .i64 z) ∧ ls.length ≤ 1048576 ∧ ∀ l ∈ ls, l.length ≤ 1048576)) ∧ w' = w := by
  by_cases h1 : left < ls.length
  · have hd : decide ((left : Int) - (ls.length : Int) < 0) = true := by simp; omega
    go_enter Try.func30, Try.ntmps30
    go_wp2
    go_ret
    exact ⟨.inl rfl, rfl⟩
  · have hd : decide ((left : Int) - (ls.length : Int) < 0) = false := by simp; omega
    obtain ⟨z, hzz⟩ : ∃ z : Nat, (left : Int) - (ls.length : Int) = (z : Int) := ⟨left - ls.length, by omega⟩
    rw [hzz] at hd
    have hz1 : z ≤ 1048576 := by omega
    have hl2 : ls.length ≤ 1048576 := by omega
    go_enter Try.func30, Try.ntmps30
    go_wp2_with fail
    clear hzz hd h1
    go_loopw [1, 5] (fun lf i wr => ∃ (k z : Nat), k ≤ ls.length ∧ i = .int .i64 k ∧ lf = .int .i64 z ∧ z ≤ 1048576 ∧ Hid (∀ i (h : i < ls.length), i < k → ls[i].length ≤ 1048576) ∧ wr = w) (fun _ i _ => ls.length - (intOf i).toNat)
    case atStart => exact ⟨0, z, Nat.zero_le _, rfl, rfl, hz1, (fun i _ h => absurd h (by omega)), rfl⟩
    case round =>
      obtain ⟨k, z, hk, rfl, rfl, hz1, hall, hwr⟩ := hrel
      subst hwr
      by_cases hlt : k < ls.length
      · obtain ⟨b, off, ia, ic, rfl, hbb, hc, _, hm⟩ := hx.out k hlt
        obtain ⟨n, hn⟩ : ∃ n, n = ls[k].length := ⟨_, rfl⟩
        rw [← hn] at hc hm
        have HN : Hid (n = ls[k].length) := hn
        clear hn
        have i0 : (0 : Int) ≤ (k : Int) := by omega
        have i1 : (k : Int) < (ls.length : Int) := by omega
        go_wp2_with fail
        refine (szI_any ia n ic z wr hm hz1).mono ?_
        rintro e w1 ⟨rfl | ⟨z2, rfl, hn2, hz2⟩, hw⟩
        · obtain rfl := hw.symm
          clear hw
          go_wp2_with fail
          go_ret
          exact ⟨.inl rfl, rfl⟩
        · obtain rfl := hw.symm
          have hz3 : decide ((z2 : Int) < 0) = false := by simp
          clear hw
          go_wp2_with fail
          go_roundw
          case rel => exact ⟨k + 1, z2, by omega, by go_num, rfl, hz2, (fun i hi hik => by
            by_cases e : i = k
            · subst e; rw [← HN.out]; exact hn2
            · exact hall.out i hi (by omega)), (by first | rfl | trivial)⟩
          case measure => simp [intOf]; omega
      · obtain rfl : k = ls.length := by omega
        go_wp2_with fail
        go_ret
        exact ⟨.inr ⟨z, rfl, hl2, fun l hm => by obtain ⟨i, hi, rfl⟩ := List.mem_iff_getElem.1 hm; exact hall.out i hi hi⟩, rfl⟩

set_option maxRecDepth 100000 in
set_option maxHeartbeats 1000000 in
theorem toSs_any (w : World) (ao : Option Addr) (cap : Nat) (ls : List (List Int)) (hx : Hid (LsAt w ao ls)) (hl : ls.length ≤ 1048576) (hm : Hid (∀ l ∈ ls, l.length ≤ 1048576)) :
    Calls Try.prog 32 #[.slice ao ls.length cap] w fun e w' => ∃ g, e = .returned (.slice (some ⟨g, 0, none⟩) ls.length ls.length) ∧ w.heap.size ≤ g ∧ RowSs w' g w'.heap.size ls.length ls ls.length ∧ Below w.heap.size w w' := by
  obtain ⟨i0, hi, hz0, hz1, hz2⟩ := info_parts Try.infoIs
  obtain ⟨A, hA, hAs⟩ : ∃ A : Array Value, A = madeCells (Value.slice none 0 0).cells ls.length ∧ A.size = ls.length := ⟨_, rfl, size_madeCells _ _⟩
  have hmk : ∀ W : World, (Instr.makeSlice 36 (.int .i64 (ls.length : Int)) (.int .i64 (ls.length : Int))).run Try.prog W = .ok (.slice (some ⟨W.heap.size, 0, none⟩) ls.length ls.length) (W.alloc (.cells A 27)) := fun W => by
    have h := run_make (P := Try.prog) W 36 27 i0 _ Try.underlying36 hi hz0 .i64 .i64 (ls.length : Int) (ls.length : Int) (by omega) (by omega) (by rw [hz2]; omega) (by omega)
    rw [hz1, Int.toNat_natCast, Nat.mul_one, ← hA] at h
    simpa using h
  clear hA
  have H0 : Hid (RowSs (w.alloc (.cells A 27)) w.heap.size (w.alloc (.cells A 27)).heap.size ls.length ls 0) := ⟨A, fun _ => .slice none 0 0, heap_alloc_new w _, hAs, fun i _ h => absurd h (by omega), fun i j b _ h => absurd h (by omega)⟩
  clear hAs
  go_enter Try.func32, Try.ntmps32
  go_wp2_with fail
  go_loopw [4] (fun i wr => ∃ (k : Nat), k ≤ ls.length ∧ i = .int .i64 k ∧ Hid (RowSs wr w.heap.size wr.heap.size ls.length ls k) ∧ Below w.heap.size w wr) (fun i _ => ls.length - (intOf i).toNat)
  case atStart => exact ⟨0, by omega, rfl, H0.out, (Below.refl _ _).alloc (Nat.le_refl _) _⟩
  case round =>
    obtain ⟨k, hk, rfl, hrow, hb⟩ := hrel
    clear H0 hmk hi hz0 hz1 hz2
    by_cases hlt : k < ls.length
    · obtain ⟨b, off, ia, ic, rfl, hbb, hc, hia, _⟩ := hx.out.stays hb k hlt
      have hlm : ls[k].length ≤ 1048576 := hm.out _ (List.getElem_mem hlt)
      obtain ⟨l, hll⟩ : ∃ l, l = ls[k] := ⟨_, rfl⟩
      rw [← hll] at hc hia hlm
      have HL : Hid (l = ls[k]) := hll
      clear hll
      have HI : Hid (IntsAt wr ia l) := hia
      have i0 : (0 : Int) ≤ (k : Int) := by omega
      have i1 : (k : Int) < (ls.length : Int) := by omega
      clear hia
      go_wp2_with fail
      refine (toI_any wr ia ic l HI hlm).mono ?_
      rintro e w1 ⟨v, rfl, O1, hb1⟩
      obtain ⟨va, vc, rfl⟩ := O1.form
      have R1 : Hid (RowSs w1 w.heap.size wr.heap.size ls.length ls k) := hrow.out.below hb1
      have B1 : Hid (Below w.heap.size w w1) := hb.trans (hb1.mono hb.size)
      have O1 : Hid (OwnI w1 wr.heap.size (.slice va l.length vc) l) := O1
      have HS1 : Hid (wr.heap.size ≤ w1.heap.size) := hb1.size
      have HS0 : Hid (w.heap.size < wr.heap.size) := hrow.out.lt
      obtain ⟨v0, z0⟩ := R1.out.cell k hlt
      have f0 := R1.out.frozen k
      clear hb1 hc hrow hb
      go_wp2_with fail
      go_roundw
      case rel =>
        have := R1.out.set (E' := w1.heap.size) hlt rfl (v := .slice va l.length vc) (by rw [← HL.out]; exact O1.out.down HS0.out) (fun b hb => O1.out.lt b hb) HS1.out
        exact ⟨k + 1, by omega, by go_num, (by show RowSs _ _ _ _ _ _; simpa [World.setCell] using this), B1.out.setCell (Nat.le_refl _) _⟩
      case measure => simp [intOf]; omega
    · obtain rfl : k = ls.length := by omega
      go_wp2_with fail
      go_ret
      exact ⟨_, rfl, Nat.le_refl _, hrow.out, hb⟩

set_option maxRecDepth 100000 in
set_option maxHeartbeats 2000000 in
theorem eqSs_same (g1 g2 E1 E2 n : Nat) (ls : List (List Int)) (w : World) (h1 : Hid (RowSs w g1 E1 n ls n)) (h2 : Hid (RowSs w g2 E2 n ls n)) (hn : Hid (ls.length = n)) (hl : n ≤ 1048576) (hm : Hid (∀ l ∈ ls, l.length ≤ 1048576)) :
    Calls Try.prog 33 #[.slice (some ⟨g1, 0, none⟩) n n, .slice (some ⟨g2, 0, none⟩) n n] w fun e w' => e = .returned (.bool true) ∧ ∃ m, w' = w.drewN m := by
  go_enter Try.func33, Try.ntmps33
  go_wp2_with fail
  go_loopw [5] (fun i wr => ∃ k : Nat, k ≤ n ∧ i = .int .i64 k ∧ Hid (∃ m, wr = w.drewN m)) (fun i _ => n - (intOf i).toNat)
  case atStart => exact ⟨0, by omega, rfl, ⟨0, rfl⟩⟩
  case round =>
    obtain ⟨k, hk, rfl, hb⟩ := hrel
    by_cases hlt : k < n
    · have hkl : k < ls.length := by rw [hn.out]; exact hlt
      obtain ⟨m, hwr⟩ := hb.out
      have R1 : RowSs wr g1 E1 n ls n := by rw [hwr]; exact h1.out.drewN m
      have R2 : RowSs wr g2 E2 n ls n := by rw [hwr]; exact h2.out.drewN m
      obtain ⟨v1, c1, O1⟩ := R1.read k hkl hlt
      obtain ⟨v2, c2, O2⟩ := R2.read k hkl hlt
      have hlm : ls[k].length ≤ 1048576 := hm.out _ (List.getElem_mem hkl)
      obtain ⟨l, hll⟩ : ∃ l, l = ls[k] := ⟨_, rfl⟩
      rw [← hll] at O1 O2 hlm
      have O1 : Hid (OwnI wr (g1 + 1) v1 l) := O1
      have O2 : Hid (OwnI wr (g2 + 1) v2 l) := O2
      have i0 : (0 : Int) ≤ (k : Int) := by omega
      have i1 : (k : Int) < (n : Int) := by omega
      clear hll R1 R2 hwr
      go_wp2_with fail
      go_quiet (first | (go_at_call 26; exact Calls.quiet_of (eqI_q v1 v2 l _ _ _ (O1.out.drewn _) (O2.out.drewn _) hlm)))
      go_wp2_with fail
      go_roundw
      case rel => exact ⟨k + 1, by omega, by go_num, (by obtain ⟨m, rfl⟩ := hb.out; exact ⟨m + nq, World.drewN_drewN ..⟩)⟩
      case measure => simp [intOf]; omega
    · go_wp2_with fail
      go_ret
      exact ⟨rfl, hb.out⟩

set_option maxRecDepth 100000 in
set_option maxHeartbeats 2000000 in
theorem markSs_any (g E n K : Nat) (ls : List (List Int)) (w : World) (h1 : Hid (RowSs w g E n ls n)) (hn : Hid (ls.length = n)) (hl : n ≤ 1048576) (hm : Hid (∀ l ∈ ls, l.length ≤ 1048576)) (hK : 0 < K) (hK2 : K ≤ 4000000) :
    Calls Try.prog 34 #[.slice (some ⟨g, 0, none⟩) n n, .int .i64 K] w fun e w' => (∃ z : Nat, e = .returned (.int .i64 z)) ∧ Gr (fun k => g < k ∧ k < E) w w' := by
  go_enter Try.func34, Try.ntmps34
  go_wp2_with fail
  go_loopw [1, 5] (fun kk i wr => ∃ (j K' : Nat) (xs : List (List Int)), j ≤ n ∧ i = .int .i64 j ∧ kk = .int .i64 (K' : Nat) ∧ 0 < K' ∧ K' ≤ 4000000 + j * 1048576 ∧ Hid (xs.length = n) ∧ Hid (∀ l ∈ xs, l.length ≤ 1048576) ∧ Hid (RowSs wr g E n xs n) ∧ Hid (Gr (fun k => g < k ∧ k < E) w wr)) (fun _ i _ => n - (intOf i).toNat)
  case atStart => exact ⟨0, K, ls, by omega, rfl, rfl, hK, by omega, hn, hm, h1, Gr.refl _ _⟩
  case round =>
    obtain ⟨j, K', xs, hj, rfl, rfl, hK0, hKb, hxl, hxm, hrow, hgr⟩ := hrel
    by_cases hlt : j < n
    · have hkl : j < xs.length := by rw [hxl.out]; exact hlt
      obtain ⟨v1, c1, O1⟩ := hrow.out.read j hkl hlt
      have hlm : xs[j].length ≤ 1048576 := hxm.out _ (List.getElem_mem hkl)
      obtain ⟨l, hll⟩ : ∃ l, l = xs[j] := ⟨_, rfl⟩
      rw [← hll] at O1 hlm
      have O1 : Hid (OwnI wr (g + 1) v1 l) := O1
      have HC : Hid (wr.cell? ⟨g, j, none⟩ = some v1) := c1
      have HE : Hid (∀ b, v1.ownBlock = some b → g < b ∧ b < E) := fun b hb => by
        have h2 := (O1.out.lt b hb).1
        obtain ⟨arr, vs, r1, r2, r3, _⟩ := hrow.out
        obtain ⟨x1, _, x3⟩ := r3 j hkl hlt
        rw [cell_of_row wr g j _ 27 (0, 0) r1, x1] at c1
        have e : vs j = v1 := by simpa using c1
        rw [e] at x3
        exact ⟨by omega, x3 b hb⟩
      have i0 : (0 : Int) ≤ (j : Int) := by omega
      have i1 : (j : Int) < (n : Int) := by omega
      have hKB : K' + l.length ≤ 4611686018427387904 := by omega
      clear hll
      go_wp2_with fail
      refine (markI_big v1 l (g + 1) K' wr O1.out hKB hK0).mono ?_
      rintro e w2 ⟨rfl, O2, G2⟩
      have R2 : Hid (RowSs w2 g E n (xs.set j (marks K' l.length)) n) := hrow.out.turn hxl.out hlt HC.out G2 O2
      have HG : Hid (Gr (fun k => g < k ∧ k < E) w w2) := hgr.out.trans (Gr.ofGrown G2 HE.out)
      clear c1 G2 O2
      go_wp2_with fail
      go_roundw
      case rel =>
        refine ⟨j + 1, K' + l.length, xs.set j (marks K' l.length), by omega, by go_num, (by first | rfl | (congr 1; omega)), by omega, by omega, (by show _ = _; rw [List.length_set]; exact hxl.out), (fun l' hl' => ?_), R2, HG⟩
        rcases List.mem_or_eq_of_mem_set hl' with h | h
        · exact hxm.out l' h
        · rw [h, marks_length]; exact hlm
      case measure => simp [intOf]; omega
    · go_wp2_with fail
      go_ret
      exact ⟨⟨K', rfl⟩, hgr.out⟩

set_option maxRecDepth 100000 in
set_option maxHeartbeats 1000000 in
theorem szRoads_bd (ao : Option Addr) (len cap : Nat) (w : World) (hl : len ≤ 9223372036854775807) :
    Calls Try.prog 22 #[.slice ao len cap, .int .i64 1048576] w fun e w' => (e = .returned (.int .i64 (-1)) ∨ (∃ z : Nat, e = .returned (.int .i64 z) ∧ len ≤ 1048576 ∧ z ≤ 1048576)) ∧ w' = w := by
  by_cases h1 : 1048576 < len
  · have hd : decide ((1048576 : Int) - (len : Int) < 0) = true := by simp; omega
    go_enter Try.func22, Try.ntmps22
    go_wp2
    go_ret
    exact ⟨.inl rfl, rfl⟩
  · have hd : decide ((1048576 : Int) - (len : Int) < 0) = false := by simp; omega
    obtain ⟨z, hz⟩ : ∃ z : Nat, (1048576 : Int) - (len : Int) = (z : Int) := ⟨1048576 - len, by omega⟩
    rw [hz] at hd
    go_enter Try.func22, Try.ntmps22
    go_wp2
    go_ret
    refine ⟨.inr ⟨z, ?_, by omega, by omega⟩, rfl⟩
    first | rfl | (rw [← hz]; rfl)

end Go.Proofs.Ytlfgglmgajcpoaa
