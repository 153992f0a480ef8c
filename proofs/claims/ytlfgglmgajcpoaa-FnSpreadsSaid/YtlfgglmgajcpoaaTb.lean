/- The walk over the program's TreeOf. -/
import Derived.Test.YtlfgglmgajcpoaaTa
import Derived.Test.YtlfgglmgajcpoaaC4
namespace Go.Proofs.Ytlfgglmgajcpoaa
open Go.RowKit Pl
set_option linter.unusedVariables false

theorem dists_le' (n : Int) (ts : List Rd) (s : Int) : (dists n ts s).length ≤ 6 := by
  unfold dists
  split
  · rename_i h
    rw [distL_length]
    have := (roadsB_iff.1 h.1).2.1
    omega
  · simp
theorem trees_le (n : Int) (ts : List Rd) (s : Int) : (trees n ts s).length ≤ 6 := by rw [trees_length]; exact dists_le' n ts s
theorem dists_some {n s : Int} {ts : List Rd} (h : 0 < (dists n ts s).length) : RoadsP n ts ∧ 0 ≤ s ∧ s ≤ n - 1 := by
  by_cases hh : RoadsP n ts ∧ 0 ≤ s ∧ s ≤ n - 1
  · exact hh
  · rw [dists_no hh] at h; simp at h
theorem trees_take {n s : Int} {ts : List Rd} {k : Nat} (h : k < (dists n ts s).length) : (trees n ts s).take (k + 1) = (trees n ts s).take k ++ [ahd (dists n ts s) ts k] := by
  rw [List.take_succ_eq_append_getElem (by rw [trees_length]; exact h)]
  simp [trees]

set_option maxRecDepth 100000 in
set_option maxHeartbeats 4000000 in
theorem tree_any (n s : Int) (ao : Option Addr) (cap : Nat) (ts : List Rd) (w : World) (hx : Hid (RoadsAt w ao ts)) (hl : ts.length ≤ 1048576) :
    Calls Try.prog 12 #[.int .i64 n, .slice ao ts.length cap, .int .i64 s] w fun e w' => (∃ v, e = .returned v ∧ OwnI w' w.heap.size v (trees n ts s)) ∧ Below w.heap.size w w' ∧ True := by
  go_enter Try.func12, Try.ntmps12
  go_wp2_with fail
  refine (dist_any n s ao cap ts w hx hl).mono ?_
  rintro e w1 ⟨⟨v1, rfl, O1⟩, b1, _⟩
  obtain ⟨da, dc, rfl⟩ := O1.form
  have HO1 : Hid (OwnI w1 w.heap.size (.slice da (dists n ts s).length dc) (dists n ts s)) := O1
  obtain ⟨N, hN⟩ : ∃ N, N = (dists n ts s).length := ⟨_, rfl⟩
  have HN : Hid (N = (dists n ts s).length) := hN
  have hN6 : N ≤ 6 := by have := dists_le' n ts s; omega
  rw [← hN] at HO1 ⊢
  clear O1 hN
  obtain ⟨i0, hi, hz0, hz1, hz2⟩ := info_parts Try.info3i
  obtain ⟨A, hA, hAs⟩ : ∃ A : Array Value, A = madeCells (Value.int .i64 0).cells N ∧ A.size = N := ⟨_, rfl, size_madeCells _ _⟩
  have hmk : (Instr.makeSlice 27 (.int .i64 0) (.int .i64 (N : Int))).run Try.prog w1 = .ok (.slice (some ⟨w1.heap.size, 0, none⟩) 0 N) (w1.alloc (.cells A 3)) := by
    have h := run_make (P := Try.prog) w1 27 3 i0 _ Try.underlying27 hi hz0 .i64 .i64 0 (N : Int) (by omega) (by omega) (by rw [hz2]; omega) (by omega)
    rw [hz1, Int.toNat_natCast, Nat.mul_one, ← hA] at h
    simpa using h
  have O2 : Hid (OwnI (w1.alloc (.cells A 3)) w1.heap.size (.slice (some ⟨w1.heap.size, 0, none⟩) 0 N) []) := ⟨rfl, .inr ⟨w1.heap.size, N, A, rfl, Nat.le_refl _, heap_alloc_new w1 _, Nat.zero_le _, by unfold maxLen; omega, by omega, by simp⟩⟩
  have B2 : Hid (Below w1.heap.size w1 (w1.alloc (.cells A 3))) := (Below.refl _ _).alloc (Nat.le_refl _) _
  have HB1 : Hid (Below w.heap.size w w1) := b1
  clear hA hAs hi hz0 hz1 hz2 b1
  go_wp2_with fail
  clear hmk
  generalize w1.alloc (.cells A 3) = W2 at *
  go_loopw [8, 19] (fun v i wr => ∃ (k : Nat), k ≤ N ∧ i = .int .i64 k ∧ Hid (OwnI wr w1.heap.size v ((trees n ts s).take k)) ∧ Hid (Below w1.heap.size w1 wr)) (fun _ i _ => N - (intOf i).toNat)
  case atStart => exact ⟨0, by omega, rfl, O2, B2⟩
  case round =>
    obtain ⟨k, hk, rfl, hO, hb⟩ := hrel
    clear O2 B2
    by_cases hlt : k < N
    · have OD : OwnI wr w.heap.size (.slice da N dc) (dists n ts s) := HO1.out.stays hb.out (fun k hk => (HO1.out.lt k hk).2)
      obtain ⟨g, cp, hv, _, _, _, _⟩ := OD.some (by rw [← HN.out]; omega)
      rw [← HN.out] at hv
      simp at hv
      obtain ⟨rfl, rfl⟩ := hv
      have HOD : Hid (OwnI wr w.heap.size (.slice (some ⟨g, 0, none⟩) N dc) (dists n ts s)) := OD
      clear OD
      obtain ⟨hok, hs0, hs1⟩ := dists_some (n := n) (s := s) (ts := ts) (by rw [← HN.out]; omega)
      have hl12 : ts.length ≤ 12 := hok.2.2.1
      have HF6 : Hid (Fits 6 ts) := fun r hr => by have := hok.fits r hr; have := hok.2.1; omega
      have X3 : Hid (RoadsAt wr ao ts) := hx.out.stays (HB1.out.trans (hb.out.mono HB1.out.size))
      clear hok hs0 hs1
      go_wp2_with fail
      refine (site_any k N g dc cap w.heap.size (dists n ts s) ao ts wr HOD HN.out.symm hN6 hlt (fun x => dists_bd x) X3 hl12 HF6).mono ?_
      rintro e w3 ⟨rfl, b3⟩
      have O3 : Hid (OwnI w3 w1.heap.size _ ((trees n ts s).take k)) := hO.out.stays b3 (fun k hk => (hO.out.lt k hk).2)
      have B3 : Hid (Below w1.heap.size w1 w3) := hb.out.trans (b3.mono hb.out.size)
      have hB3 : w1.heap.size ≤ w3.heap.size := B3.out.size
      obtain ⟨z, hz⟩ : ∃ z, z = ahd (dists n ts s) ts k := ⟨_, rfl⟩
      have HZ : Hid (z = ahd (dists n ts s) ts k) := hz
      rw [← hz]
      clear hO hb b3 hz X3 HOD
      go_wp2_with (at_builtin; refine wpList_pushI rfl _ _ 27 rfl Try.underlying27 Try.info3i w1.heap.size _ ((trees n ts s).take k) rfl O3.out z rfl (by rw [List.length_take]; omega) hB3 ?_; intro v6 w6 hown6 hb6)
      go_roundw
      case rel =>
        refine ⟨k + 1, by omega, by go_num, ?_, B3.out.trans hb6⟩
        show OwnI _ _ _ _
        rw [trees_take (by rw [← HN.out]; exact hlt), ← HZ.out]
        exact hown6
      case measure => simp [intOf]; omega
    · obtain rfl : k = N := by omega
      have HT : Hid ((trees n ts s).take k = trees n ts s) := List.take_of_length_le (by rw [trees_length, ← HN.out]; exact Nat.le_refl _)
      go_wp2_with fail
      go_ret
      refine ⟨⟨_, rfl, ?_⟩, HB1.out.trans (hb.out.mono HB1.out.size), trivial⟩
      have := hO.out
      rw [HT.out] at this
      exact this.down HB1.out.size
end Go.Proofs.Ytlfgglmgajcpoaa
