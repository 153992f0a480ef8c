/- slices.Repeat over a list of one number. -/
import Derived.Test.YtlfgglmgajcpoaaPp
import Derived.Laws.CopyRow
import Derived.Laws.MakeOwn
namespace Go.Proofs.Ytlfgglmgajcpoaa
open Go.RowKit Pl
set_option linter.unusedVariables false

set_option maxRecDepth 100000 in
set_option maxHeartbeats 1000000 in
theorem mul64_any (n : Nat) (hn : n ≤ 6) (w : World) : Calls Try.prog 65 #[.int .u64 1, .int .u64 n] w fun e w' => e = .returned (.tuple #[.int .u64 0, .int .u64 n]) ∧ w' = w := by
  have h : n = 0 ∨ n = 1 ∨ n = 2 ∨ n = 3 ∨ n = 4 ∨ n = 5 ∨ n = 6 := by omega
  rcases h with rfl | rfl | rfl | rfl | rfl | rfl | rfl <;>
  · go_enter Try.func65, Try.ntmps65
    go_wp2
    go_ret2
    exact ⟨rfl, rfl⟩

set_option maxRecDepth 100000 in
set_option maxHeartbeats 1000000 in
theorem mul_any (n : Nat) (hn : n ≤ 6) (w : World) : Calls Try.prog 57 #[.int .u64 1, .int .u64 n] w fun e w' => e = .returned (.tuple #[.int .u64 0, .int .u64 n]) ∧ w' = w := by
  go_enter Try.func57, Try.ntmps57
  go_wp2_with (go_at_call 65; refine (mul64_any n hn _).mono ?_; rintro e w' ⟨rfl, hw⟩; obtain rfl := hw.symm)
  go_ret2
  exact ⟨rfl, rfl⟩

theorem Try.info3i : (Try.prog.info? 3).map (fun i => (i.zero, i.size, i.bytes)) = some (some (.int .i64 0), 1, 8) := by kernel_rfl
theorem below_setRow {B g : Nat} {w w' : World} (h : Below B w w') (hg : B ≤ g) (arr : Array Value) : Below B w (w'.setRow g arr) := ⟨h.os, h.tape, h.output, by have := h.size; simpa [World.setRow] using this, fun k hk => (setRow_other w' g k arr (by omega)).trans (h.block k hk)⟩
def rep (n k : Nat) : List Value := List.replicate k (.int .i64 (-1)) ++ List.replicate (n - k) (.int .i64 0)
theorem rep_length {n k : Nat} (h : k ≤ n) : (rep n k).length = n := by simp [rep]; omega

set_option maxRecDepth 100000 in
set_option maxHeartbeats 2000000 in
theorem repeat_any (n g0 : Nat) (hn : 1 ≤ n ∧ n ≤ 6) (w : World) (h0 : w.cell? ⟨g0, 0, none⟩ = some (.int .i64 (-1))) :
    Calls Try.prog 38 #[.slice (some ⟨g0, 0, none⟩) 1 1, .int .i64 n] w fun e w' => ∃ g, e = .returned (.slice (some ⟨g, 0, none⟩) n n) ∧ w.heap.size ≤ g ∧ w'.heap[g]? = some (.cells (rep n n).toArray 3 (0, 0)) ∧ Below w.heap.size w w' := by
  have hg0 : g0 < w.heap.size := by
    rcases Nat.lt_or_ge g0 w.heap.size with h | h
    · exact h
    · exact absurd (by simp [World.cell?, Array.getElem?_eq_none h]) (by rw [h0]; simp : w.cell? ⟨g0, 0, none⟩ ≠ none)
  have hc1 : IntKind.u64.wrap (n : Int) = (n : Int) := by rw [IntKind.wrap_u64]; omega
  have hc2 : IntKind.i64.wrap (n : Int) = (n : Int) := by rw [IntKind.wrap_i64]; omega
  have hc3 : ¬ (9223372036854775807 : Int) < (n : Int) := by omega
  have hc4 : ¬ (n : Int) < 0 := by omega
  obtain ⟨i0, hi, hz0, hz1, hz2⟩ := info_parts Try.info3i
  have hmk : (Instr.makeSlice 27 (.int .i64 (n : Int)) (.int .i64 (n : Int))).run Try.prog w = .ok (.slice (some ⟨w.heap.size, 0, none⟩) n n) (w.alloc (.cells (rep n 0).toArray 3)) := by
    have h := run_make (P := Try.prog) w 27 3 i0 _ Try.underlying27 hi hz0 .i64 .i64 (n : Int) (n : Int) (by omega) (by omega) (by rw [hz2]; omega) (by omega)
    rw [hz1, Int.toNat_natCast] at h
    have e : madeCells (Value.int .i64 0).cells (n * 1) = (rep n 0).toArray := by
      apply Array.ext'
      rw [show (Value.int .i64 0).cells = #[Value.int .i64 0] from rfl, toList_madeCells_one]
      simp [rep]
    rw [e] at h
    exact h
  have hcp : (Builtin.copy_ #[27, 27] 3 #[.slice (some ⟨w.heap.size, 0, none⟩) n n, .slice (some ⟨g0, 0, none⟩) 1 1]).run Try.prog (w.alloc (.cells (rep n 0).toArray 3)) = .ok (.int .i64 1) ((w.alloc (.cells (rep n 0).toArray 3)).setRow w.heap.size (rep n 1).toArray) := by
    have h := run_copy_row (P := Try.prog) (w.alloc (.cells (rep n 0).toArray 3)) 27 27 3 3 w.heap.size 0 n n ⟨g0, 0, none⟩ 1 1 (rep n 0).toArray 3 [.int .i64 (-1)] Try.underlying27 (by kernel_rfl) (heap_alloc_new w _) (by show 1 = min 1 n; omega) (fun j v hj => by
      have hj0 : j = 0 := by have := (List.getElem?_eq_some_iff.1 hj).1; simp at this; exact this
      subst hj0
      simp at hj
      subst hj
      have : (⟨g0, 0, none⟩ : Addr).add 0 = ⟨g0, 0, none⟩ := rfl
      rw [this, ← h0]
      simp only [World.cell?]
      rw [heap_alloc_old w _ hg0]) (by simp [rep]; omega) (fun v hv => by simp at hv; subst hv; rfl)
    rw [h]
    congr 2
    have h : n = 1 ∨ n = 2 ∨ n = 3 ∨ n = 4 ∨ n = 5 ∨ n = 6 := by omega
    rcases h with rfl | rfl | rfl | rfl | rfl | rfl <;> rfl
  have H1 : Hid (((w.alloc (.cells (rep n 0).toArray 3)).setRow w.heap.size (rep n 1).toArray).heap[w.heap.size]? = some (.cells (rep n 1).toArray 3 (0, 0))) := setRow_heap _ _ _ _ 3 (0, 0) (heap_alloc_new w _)
  have B1 : Hid (Below w.heap.size w ((w.alloc (.cells (rep n 0).toArray 3)).setRow w.heap.size (rep n 1).toArray)) := below_setRow ((Below.refl _ _).alloc (Nat.le_refl _) _) (Nat.le_refl _) _
  go_enter Try.func38, Try.ntmps38
  go_wp2_with (go_at_call 57; refine (mul_any n hn.2 _).mono ?_; rintro e w' ⟨rfl, hw⟩; obtain rfl := hw.symm)
  clear hcp hmk
  generalize (w.alloc (.cells (rep n 0).toArray 3)).setRow w.heap.size (rep n 1).toArray = W1 at *
  go_loopw [8] (fun i wr => ∃ (k : Nat), 1 ≤ k ∧ k ≤ n ∧ i = .int .i64 k ∧ Hid (wr.heap[w.heap.size]? = some (.cells (rep n k).toArray 3 (0, 0))) ∧ Hid (Below w.heap.size w wr)) (fun i _ => n - (intOf i).toNat)
  case atStart => exact ⟨1, by omega, by omega, rfl, H1.out, B1.out⟩
  case round =>
    obtain ⟨k, hk1, hkn, rfl, hr, hb⟩ := hrel
    clear H1 B1 hc1 hc2 hc3 hc4
    by_cases hlt : k < n
    · obtain ⟨m, hm⟩ : ∃ m, m = min k (n - k) := ⟨_, rfl⟩
      have hcp : ∀ c1 c2, (Builtin.copy_ #[27, 27] 3 #[.slice (some ⟨w.heap.size, k, none⟩) (n - k) c1, .slice (some ⟨w.heap.size, 0, none⟩) k c2]).run Try.prog wr.drew = .ok (.int .i64 m) (wr.drew.setRow w.heap.size (rep n (k + m)).toArray) := by
        intro c1 c2
        have h := run_copy_row (P := Try.prog) wr.drew 27 27 3 3 w.heap.size k (n - k) c1 ⟨w.heap.size, 0, none⟩ k c2 (rep n k).toArray 3 (List.replicate m (.int .i64 (-1))) Try.underlying27 (by kernel_rfl) hr.out (by simp; exact hm) (fun j v hj => by
          have hjm : j < m := by have := (List.getElem?_eq_some_iff.1 hj).1; simpa using this
          rw [List.getElem?_replicate, if_pos hjm] at hj
          have ha : (⟨w.heap.size, 0, none⟩ : Addr).add j = ⟨w.heap.size, j, none⟩ := by unfold Addr.add; split <;> simp_all
          rw [ha, cell_of_row wr.drew w.heap.size j _ 3 (0, 0) hr.out, ← hj]
          have : j < k := by omega
          simp [rep, List.getElem?_append, this]) (by simp [rep]; omega) (fun v hv => by have := List.eq_of_mem_replicate hv; subst this; rfl)
        rw [h]
        congr 2
        · simp
        · have h : n = 1 ∨ n = 2 ∨ n = 3 ∨ n = 4 ∨ n = 5 ∨ n = 6 := by omega
          have h2 : k = 1 ∨ k = 2 ∨ k = 3 ∨ k = 4 ∨ k = 5 := by omega
          rcases h with rfl | rfl | rfl | rfl | rfl | rfl <;> rcases h2 with rfl | rfl | rfl | rfl | rfl <;> first | (subst hm; rfl) | omega
      have hw1 : IntKind.i64.wrap ((k : Int) + (m : Int)) = ((k + m : Nat) : Int) := by rw [IntKind.wrap_i64]; omega
      have hkk : ((k : Int)) ≤ (n : Int) := by omega
      have HR : Hid ((wr.drew.setRow w.heap.size (rep n (k + m)).toArray).heap[w.heap.size]? = some (.cells (rep n (k + m)).toArray 3 (0, 0))) := setRow_heap _ _ _ _ 3 (0, 0) hr.out
      have HB : Hid (Below w.heap.size w (wr.drew.setRow w.heap.size (rep n (k + m)).toArray)) := below_setRow hb.out.drew (Nat.le_refl _) _
      have HM : Hid (1 ≤ m ∧ k + m ≤ n) := by show 1 ≤ m ∧ k + m ≤ n; omega
      clear hr hb hm
      go_wp2_with fail
      go_region
      go_wp2_with fail
      go_roundw
      case rel => exact ⟨k + m, by omega, HM.out.2, by simp, HR.out, HB.out⟩
      case measure => have := HM.out; simp [intOf]; omega
    · obtain rfl : k = n := by omega
      go_wp2_with fail
      go_ret
      exact ⟨_, rfl, Nat.le_refl _, hr.out, hb.out⟩
end Go.Proofs.Ytlfgglmgajcpoaa
