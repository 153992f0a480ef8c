/- The walks over what the law on Talk uses of ints: copied, compared, written over. -/
import Derived.Test.YtohagaelenhebaaE3
import Derived.Test.YtohagaelenhebaaOwI
namespace Go.Proofs.Ytohagaelenhebaa
open Go.RowKit Pl
set_option linter.unusedVariables false

theorem Try.info3' : (Try.prog.info? 3).map (fun i => (i.zero, i.size, i.bytes)) = some (some (.int .i64 0), 1, 8) := by kernel_rfl

set_option maxRecDepth 100000 in
set_option maxHeartbeats 1000000 in
theorem toI_any (w : World) (ao : Option Addr) (cap : Nat) (ts : List Int) (hx : Hid (IntsAt w ao ts)) (hl : ts.length ≤ 1048576) :
    Calls Try.prog 40 #[.slice ao ts.length cap] w fun e w' => ∃ v, e = .returned v ∧ OwnI w' w.heap.size v ts ∧ Below w.heap.size w w' := by
  obtain ⟨i0, hi, hz0, hz1, hz2⟩ := info_parts Try.info3'
  have hM : madeCells (Value.int .i64 0).cells ts.length = ((List.replicate ts.length (0 : Int)).map (Value.int .i64)).toArray := by
    apply Array.ext'
    rw [show (Value.int .i64 0).cells = #[Value.int .i64 0] from rfl, toList_madeCells_one]
    simp
  have hmk : ∀ W : World, (Instr.makeSlice 25 (.int .i64 (ts.length : Int)) (.int .i64 (ts.length : Int))).run Try.prog W = .ok (.slice (some ⟨W.heap.size, 0, none⟩) ts.length ts.length) (W.alloc (.cells ((List.replicate ts.length (0 : Int)).map (Value.int .i64)).toArray 3)) := fun W => by
    have h := run_make (P := Try.prog) W 25 3 i0 (.int .i64 0) Try.underlying25 hi hz0 .i64 .i64 (ts.length : Int) (ts.length : Int) (by omega) (by omega) (by rw [hz2]; omega) (by omega)
    rw [hz1, Int.toNat_natCast, Nat.mul_one, hM] at h
    simpa using h
  clear hM
  have H0 : Hid (OwnI (w.alloc (.cells ((List.replicate ts.length (0 : Int)).map (Value.int .i64)).toArray 3)) w.heap.size (.slice (some ⟨w.heap.size, 0, none⟩) ts.length ts.length) (List.replicate ts.length 0)) := by
    have := OwnI.lit w w.heap.size (List.replicate ts.length 0) (Nat.le_refl _) (by rw [List.length_replicate]; omega)
    rw [List.length_replicate] at this
    exact this
  generalize hA : ((List.replicate ts.length (0 : Int)).map (Value.int .i64)).toArray = A at hmk H0
  clear hA
  go_enter Try.func40, Try.ntmps40
  go_wp2
  go_loopw [4] (fun i wr => ∃ (k : Nat) (xs : List Int), k ≤ ts.length ∧ i = .int .i64 k ∧ Hid (xs.length = ts.length) ∧ Hid (xs.take k = ts.take k) ∧ Hid (OwnI wr w.heap.size (.slice (some ⟨w.heap.size, 0, none⟩) ts.length ts.length) xs) ∧ w.heap.size < wr.heap.size ∧ Below w.heap.size w wr) (fun i _ => ts.length - (intOf i).toNat)
  case atStart => exact ⟨0, _, by omega, rfl, List.length_replicate, rfl, H0.out, by simp, (Below.refl _ _).alloc (Nat.le_refl _) _⟩
  case round =>
    obtain ⟨k, xs, hk, rfl, hxl, htk, hown, hsz, hb⟩ := hrel
    by_cases hlt : k < ts.length
    · obtain ⟨b, off, rfl, hbb, hc⟩ := hx.out k hlt
      have hc' : wr.cell? ⟨b, off + k, none⟩ = some (.int .i64 ts[k]) := (hb.cell (p := ⟨b, off + k, none⟩) hbb).trans hc
      obtain ⟨t, ht⟩ : ∃ t, t = ts[k] := ⟨_, rfl⟩
      rw [← ht] at hc'
      have HT : Hid (t = ts[k]) := ht
      clear ht hc
      have hown2 : OwnI wr w.heap.size (.slice (some ⟨w.heap.size, 0, none⟩) xs.length ts.length) xs := by rw [hxl.out]; exact hown.out
      obtain ⟨x, hce⟩ : ∃ x, wr.cell? ⟨w.heap.size, k, none⟩ = some (.int .i64 x) := ⟨xs[k]'(by rw [hxl.out]; exact hlt), by
        have := World.ownsRow.cellAt hown2 k (by rw [hxl.out]; omega)
        rw [this]
        simp [hxl.out, hlt]⟩
      have hfz : wr.frozen? ⟨w.heap.size, k, none⟩ = false := World.ownsRow.frozenAt hown2 k
      have HO : Hid _ := hown2.store k t
      clear hown2
      go_wp2
      go_roundw
      case rel =>
        refine ⟨k + 1, xs.set k t, by omega, by go_num, by rw [List.length_set]; exact hxl.out, ?_, ?_, ?_, hb.setCell (Nat.le_refl _) _⟩
        · show (xs.set k t).take (k + 1) = ts.take (k + 1)
          have hkx : k < xs.length := by rw [hxl.out]; exact hlt
          rw [List.take_succ_eq_append_getElem (by rw [List.length_set]; exact hkx), List.take_succ_eq_append_getElem hlt, List.take_set_of_le (Nat.le_refl _), htk.out, HT.out]
          simp
        · show OwnI _ _ _ _
          have := HO.out.1
          rw [hxl.out] at this
          exact this
        · have := HO.out.2.size
          omega
      case measure => simp [intOf]; omega
    · obtain rfl : k = ts.length := by omega
      go_wp2
      go_ret
      refine ⟨_, rfl, ?_, hb⟩
      have e : xs = ts := by
        have := htk.out
        rwa [List.take_of_length_le (by rw [hxl.out]; exact Nat.le_refl _), List.take_of_length_le (Nat.le_refl _)] at this
      rw [← e, hxl.out]
      exact hown.out

set_option maxRecDepth 100000 in
set_option maxHeartbeats 1000000 in
theorem eqI_same (v1 v2 : Value) (ss : List Int) (B1 B2 : Nat) (w : World) (h1 : OwnI w B1 v1 ss) (h2 : OwnI w B2 v2 ss) (hl : ss.length ≤ 1048576) :
    Calls Try.prog 42 #[v1, v2] w fun e w' => e = .returned (.bool true) ∧ Below w.heap.size w w' := by
  by_cases h0 : ss.length = 0
  · obtain ⟨ao1, cap1, rfl⟩ := h1.form
    obtain ⟨ao2, cap2, rfl⟩ := h2.form
    rw [h0]
    clear h1 h2
    go_enter Try.func42, Try.ntmps42
    go_wp2
    refine wp_loop_rounds 1 ?_
    rw [rounds_succ]
    go_wp2
    go_ret
    exact ⟨rfl, Below.refl _ _⟩
  · obtain ⟨g1, cap1, rfl, _, hg1, hc1, _⟩ := h1.some (by omega)
    obtain ⟨g2, cap2, rfl, _, hg2, hc2, _⟩ := h2.some (by omega)
    clear h1 h2
    go_enter Try.func42, Try.ntmps42
    go_wp2
    go_loopw [5] (fun i wr => ∃ k : Nat, k ≤ ss.length ∧ i = .int .i64 k ∧ Below w.heap.size w wr) (fun i _ => ss.length - (intOf i).toNat)
    case atStart => exact ⟨0, by omega, rfl, Below.refl _ _⟩
    case round =>
      obtain ⟨k, hk, rfl, hb⟩ := hrel
      by_cases hlt : k < ss.length
      · have hce1 : wr.cell? ⟨g1, k, none⟩ = some (.int .i64 ss[k]) := (hb.cell (p := ⟨g1, k, none⟩) hg1).trans (hc1 k hlt)
        have hce2 : wr.cell? ⟨g2, k, none⟩ = some (.int .i64 ss[k]) := (hb.cell (p := ⟨g2, k, none⟩) hg2).trans (hc2 k hlt)
        have hq1 : (0 : Int) ≤ (k : Int) := by omega
        have hq2 : (k : Int) < (ss.length : Int) := by omega
        clear hc1 hc2
        go_wp2
        go_quiet (fail)
        go_wp2
        go_roundw
        case rel => exact ⟨k + 1, by omega, by go_num, below_drewN hb _⟩
        case measure => simp [intOf]; omega
      · go_wp2
        go_ret
        exact ⟨rfl, hb⟩

set_option maxRecDepth 100000 in
set_option maxHeartbeats 1000000 in
theorem markI_any (v : Value) (ss : List Int) (B K : Nat) (w : World) (h1 : OwnI w B v ss) (hl : K + ss.length ≤ 4000000) (hK : 0 < K) :
    Calls Try.prog 44 #[v, .int .i64 K] w fun e w' => e = .returned (.int .i64 ((K + ss.length : Nat) : Int)) ∧ w.grownBy w' v.ownBlock := by
  by_cases h0 : ss.length = 0
  · obtain ⟨ao1, cap1, rfl⟩ := h1.form
    clear h1
    rw [h0]
    go_enter Try.func44, Try.ntmps44
    go_wp2
    refine wp_loop_rounds 1 ?_
    rw [rounds_succ]
    go_wp2
    go_ret
    exact ⟨rfl, World.grownBy.refl _ _⟩
  · obtain ⟨g, cap, rfl, hB, hg, hc, hf⟩ := h1.some (by omega)
    clear hc hf
    have HOWN : Hid (OwnI w B (.slice (some ⟨g, 0, none⟩) ss.length cap) ss) := h1
    clear h1
    go_enter Try.func44, Try.ntmps44
    go_wp2
    go_loopw [1, 5] (fun kk i wr => ∃ (j : Nat) (xs : List Int), j ≤ ss.length ∧ i = .int .i64 j ∧ kk = .int .i64 ((K + j : Nat) : Int) ∧ Hid (xs.length = ss.length) ∧ OwnI wr B (.slice (some ⟨g, 0, none⟩) ss.length cap) xs ∧ Hid (w.grownBy wr (some g))) (fun _ i _ => ss.length - (intOf i).toNat)
    case atStart => exact ⟨0, ss, by omega, rfl, rfl, rfl, HOWN.out, World.grownBy.refl _ _⟩
    case round =>
      obtain ⟨j, xs, hj, rfl, rfl, hxl, hown, hgr⟩ := hrel
      by_cases hlt : j < ss.length
      · have hxl' := hxl.out
        have hown' : OwnI wr B (.slice (some ⟨g, 0, none⟩) xs.length cap) xs := by rw [hxl']; exact hown
        have hjx : j < xs.length := by omega
        obtain ⟨x, hce⟩ : ∃ x, wr.cell? ⟨g, j, none⟩ = some (.int .i64 x) := ⟨xs[j], by
          have := World.ownsRow.cellAt hown' j (by omega)
          rw [this]
          simp [hjx]⟩
        have hfz : wr.frozen? ⟨g, j, none⟩ = false := World.ownsRow.frozenAt hown' j
        have HO : Hid _ := hown'.store j (K + j : Nat)
        clear hxl' hown'
        go_wp2
        go_roundw
        case rel =>
          have hs1 := HO.out.1
          rw [hxl.out] at hs1
          exact ⟨j + 1, xs.set j (K + j : Nat), by omega, by go_num, by go_num, (show (xs.set j _).length = ss.length by rw [List.length_set]; exact hxl.out), hs1, grown_trans hgr.out HO.out.2⟩
        case measure => simp [intOf]; omega
      · obtain rfl : j = ss.length := by omega
        go_wp2
        go_ret
        exact ⟨ret_int' (by omega), hgr.out⟩
end Go.Proofs.Ytohagaelenhebaa
