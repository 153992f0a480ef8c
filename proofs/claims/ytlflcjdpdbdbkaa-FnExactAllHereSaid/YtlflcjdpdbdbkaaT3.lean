/- The walks over lists of ints and tokens that a law copies, sizes and compares. -/
import Derived.Test.YtlflcjdpdbdbkaaT1
import Derived.Laws.MakeOwn
namespace Go.Proofs.Ytlflcjdpdbdbkaa
open Go.RowKit Pl
set_option linter.unusedVariables false

theorem Try.info3' : (Try.prog.info? 3).map (fun i => (i.zero, i.size, i.bytes)) = some (some (.int .i64 0), 1, 8) := by kernel_rfl

set_option maxRecDepth 100000 in
set_option maxHeartbeats 1000000 in
theorem toI_any (w : World) (ao : Option Addr) (cap : Nat) (ts : List Int) (hx : Hid (IntsAt w ao ts)) (hl : ts.length ≤ 1048576) :
    Calls Try.prog 34 #[.slice ao ts.length cap] w fun e w' => ∃ v, e = .returned v ∧ OwnI w' w.heap.size v ts ∧ Below w.heap.size w w' := by
  obtain ⟨i0, hi, hz0, hz1, hz2⟩ := info_parts Try.info3'
  have hM : madeCells (Value.int .i64 0).cells ts.length = ((List.replicate ts.length (0 : Int)).map (Value.int .i64)).toArray := by
    apply Array.ext'
    rw [show (Value.int .i64 0).cells = #[Value.int .i64 0] from rfl, toList_madeCells_one]
    simp
  have hmk : ∀ W : World, (Instr.makeSlice 33 (.int .i64 (ts.length : Int)) (.int .i64 (ts.length : Int))).run Try.prog W = .ok (.slice (some ⟨W.heap.size, 0, none⟩) ts.length ts.length) (W.alloc (.cells ((List.replicate ts.length (0 : Int)).map (Value.int .i64)).toArray 3)) := fun W => by
    have h := run_make (P := Try.prog) W 33 3 i0 (.int .i64 0) Try.underlying33 hi hz0 .i64 .i64 (ts.length : Int) (ts.length : Int) (by omega) (by omega) (by rw [hz2]; omega) (by omega)
    rw [hz1, Int.toNat_natCast, Nat.mul_one, hM] at h
    simpa using h
  clear hM
  have H0 : Hid (OwnI (w.alloc (.cells ((List.replicate ts.length (0 : Int)).map (Value.int .i64)).toArray 3)) w.heap.size (.slice (some ⟨w.heap.size, 0, none⟩) ts.length ts.length) (List.replicate ts.length 0)) := by
    have := OwnI.lit w w.heap.size (List.replicate ts.length 0) (Nat.le_refl _) (by rw [List.length_replicate]; omega)
    rw [List.length_replicate] at this
    exact this
  generalize hA : ((List.replicate ts.length (0 : Int)).map (Value.int .i64)).toArray = A at hmk H0
  clear hA
  go_enter Try.func34, Try.ntmps34
  go_wp2
  go_loopw [4] (fun i wr => ∃ (k : Nat) (xs : List Int), k ≤ ts.length ∧ i = .int .i64 k ∧ Hid (xs.length = ts.length) ∧ Hid (xs.take k = ts.take k) ∧ Hid (OwnI wr w.heap.size (.slice (some ⟨w.heap.size, 0, none⟩) ts.length ts.length) xs) ∧ w.heap.size < wr.heap.size ∧ Below w.heap.size w wr) (fun i _ => ts.length - (intOf i).toNat)
  case atStart => exact ⟨0, _, by omega, rfl, List.length_replicate, rfl, H0.out, by simp, (Below.refl _ _).alloc (Nat.le_refl _) _⟩
  case round =>
    obtain ⟨k, xs, hk, rfl, hxl, htk, hown, hsz, hb⟩ := hrel
    by_cases hlt : k < ts.length
    · obtain ⟨b, off, rfl, hbb, hc⟩ := hx.out k hlt
      have hc' : wr.cell? ⟨b, off + k, none⟩ = some (.int .i64 ts[k]) := (hb.cell (p := ⟨b, off + k, none⟩) hbb).trans hc
      obtain ⟨t, ht⟩ : ∃ t, t = ts[k] := ⟨_, rfl⟩
      rw [← ht] at hc'
      have HT : Hid (t = ts[k]) := ht
      clear ht hc
      have hown2 : OwnI wr w.heap.size (.slice (some ⟨w.heap.size, 0, none⟩) xs.length ts.length) xs := by rw [hxl.out]; exact hown.out
      obtain ⟨x, hce⟩ : ∃ x, wr.cell? ⟨w.heap.size, k, none⟩ = some (.int .i64 x) := ⟨xs[k]'(by rw [hxl.out]; exact hlt), by
        have := World.ownsRow.cellAt hown2 k (by rw [hxl.out]; omega)
        rw [this]
        simp [hxl.out, hlt]⟩
      have hfz : wr.frozen? ⟨w.heap.size, k, none⟩ = false := World.ownsRow.frozenAt hown2 k
      have HO : Hid _ := hown2.store k t
      clear hown2
      go_wp2
      go_roundw
      case rel =>
        refine ⟨k + 1, xs.set k t, by omega, by go_num, by rw [List.length_set]; exact hxl.out, ?_, ?_, ?_, hb.setCell (Nat.le_refl _) _⟩
        · show (xs.set k t).take (k + 1) = ts.take (k + 1)
          have hkx : k < xs.length := by rw [hxl.out]; exact hlt
          rw [List.take_succ_eq_append_getElem (by rw [List.length_set]; exact hkx), List.take_succ_eq_append_getElem hlt, List.take_set_of_le (Nat.le_refl _), htk.out, HT.out]
          simp
        · show OwnI _ _ _ _
          have := HO.out.1
          rw [hxl.out] at this
          exact this
        · have := HO.out.2.size
          omega
      case measure => simp [intOf]; omega
    · obtain rfl : k = ts.length := by omega
      go_wp2
      go_ret
      refine ⟨_, rfl, ?_, hb⟩
      have e : xs = ts := by
        have := htk.out
        rwa [List.take_of_length_le (by rw [hxl.out]; exact Nat.le_refl _), List.take_of_length_le (Nat.le_refl _)] at this
      rw [← e, hxl.out]
      exact hown.out

set_option maxRecDepth 100000 in
set_option maxHeartbeats 1000000 in
theorem eqI_same (v1 v2 : Value) (ss : List Int) (B1 B2 : Nat) (w : World) (h1 : OwnI w B1 v1 ss) (h2 : OwnI w B2 v2 ss) (hl : ss.length ≤ 1048576) :
    Calls Try.prog 37 #[v1, v2] w fun e w' => e = .returned (.bool true) ∧ Below w.heap.size w w' := by
  by_cases h0 : ss.length = 0
  · obtain ⟨ao1, cap1, rfl⟩ := h1.form
    obtain ⟨ao2, cap2, rfl⟩ := h2.form
    rw [h0]
    clear h1 h2
    go_enter Try.func37, Try.ntmps37
    go_wp2
    refine wp_loop_rounds 1 ?_
    rw [rounds_succ]
    go_wp2
    go_ret
    exact ⟨rfl, Below.refl _ _⟩
  · obtain ⟨g1, cap1, rfl, _, hg1, hc1, _⟩ := h1.some (by omega)
    obtain ⟨g2, cap2, rfl, _, hg2, hc2, _⟩ := h2.some (by omega)
    clear h1 h2
    go_enter Try.func37, Try.ntmps37
    go_wp2
    go_loopw [5] (fun i wr => ∃ k : Nat, k ≤ ss.length ∧ i = .int .i64 k ∧ Below w.heap.size w wr) (fun i _ => ss.length - (intOf i).toNat)
    case atStart => exact ⟨0, by omega, rfl, Below.refl _ _⟩
    case round =>
      obtain ⟨k, hk, rfl, hb⟩ := hrel
      by_cases hlt : k < ss.length
      · have hce1 : wr.cell? ⟨g1, k, none⟩ = some (.int .i64 ss[k]) := (hb.cell (p := ⟨g1, k, none⟩) hg1).trans (hc1 k hlt)
        have hce2 : wr.cell? ⟨g2, k, none⟩ = some (.int .i64 ss[k]) := (hb.cell (p := ⟨g2, k, none⟩) hg2).trans (hc2 k hlt)
        have hq1 : (0 : Int) ≤ (k : Int) := by omega
        have hq2 : (k : Int) < (ss.length : Int) := by omega
        clear hc1 hc2
        go_wp2
        go_quiet (fail)
        go_wp2
        go_roundw
        case rel => exact ⟨k + 1, by omega, by go_num, below_drewK hb _⟩
        case measure => simp [intOf]; omega
      · go_wp2
        go_ret
        exact ⟨rfl, hb⟩


set_option maxRecDepth 100000 in
set_option maxHeartbeats 1000000 in
theorem szI_long (ao : Option Addr) (n cap : Nat) (w : World) (h : 1048576 < n) (h2 : n ≤ 9223372036854775807) :
    Calls Try.prog 32 #[.slice ao n cap, .int .i64 1048576] w fun e w' => e = .returned (.int .i64 (-1)) ∧ w' = w := by
  have hd : decide ((1048576 : Int) - (n : Int) < 0) = true := by simp; omega
  go_enter Try.func32, Try.ntmps32
  go_wp2
  go_ret
  exact ⟨rfl, rfl⟩
set_option maxRecDepth 100000 in
set_option maxHeartbeats 1000000 in
theorem szI_any (ao : Option Addr) (n cap : Nat) (w : World) (h : n ≤ 1048576) :
    Calls Try.prog 32 #[.slice ao n cap, .int .i64 1048576] w fun e w' => e = .returned (.int .i64 ((1048576 - n : Nat) : Int)) ∧ w' = w := by
  have hd : decide ((1048576 : Int) - (n : Int) < 0) = false := by simp; omega
  go_enter Try.func32, Try.ntmps32
  go_wp2
  go_ret
  refine ⟨?_, rfl⟩
  rw [show ((1048576 - n : Nat) : Int) = 1048576 - (n : Int) by omega]
  rfl
end Go.Proofs.Ytlflcjdpdbdbkaa
