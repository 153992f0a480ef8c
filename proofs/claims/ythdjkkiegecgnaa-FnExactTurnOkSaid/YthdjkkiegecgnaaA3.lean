/- Up to which number none is missing: the walks over store.aru and over both AruOf. -/
import Derived.Test.YthdjkkiegecgnaaA2
import Derived.Laws.MakeOwn
namespace Go.Proofs.Ythdjkkiegecgnaa
open Go.RowKit Pl
set_option linter.unusedVariables false

/-- from n on, as long as there is the next one. -/
def aruGo (ts : List It) : Nat → Nat → Nat
  | 0, n => n
  | f + 1, n => if hasP ts ((n + 1 : Nat) : Int) = true then aruGo ts f (n + 1) else n
/-- the greatest number up to which none is missing. -/
def aruP (ts : List It) : Nat := aruGo ts ts.length 0
theorem aruGo_on {ts : List It} {n : Nat} (h : n < ts.length) (hh : hasP ts ((n + 1 : Nat) : Int) = true) : aruGo ts (ts.length - n) n = aruGo ts (ts.length - (n + 1)) (n + 1) := by
  rw [show ts.length - n = (ts.length - (n + 1)) + 1 by omega, aruGo, if_pos hh]
theorem aruGo_off {ts : List It} {n : Nat} (h : n < ts.length) (hh : hasP ts ((n + 1 : Nat) : Int) = false) : aruGo ts (ts.length - n) n = n := by
  rw [show ts.length - n = (ts.length - (n + 1)) + 1 by omega, aruGo, if_neg (by rw [hh]; simp)]
theorem aruGo_end {ts : List It} {n : Nat} (h : ts.length ≤ n) : aruGo ts (ts.length - n) n = n := by
  rw [show ts.length - n = 0 by omega, aruGo]
theorem aruGo_le (ts : List It) : ∀ f n, aruGo ts f n ≤ n + f
  | 0, n => by rw [aruGo]; omega
  | f + 1, n => by
    rw [aruGo]
    split
    · have := aruGo_le ts f (n + 1); omega
    · omega
theorem aruP_le (ts : List It) : aruP ts ≤ ts.length := by have := aruGo_le ts ts.length 0; unfold aruP; omega

/-- which numbers are marked behind the first k items. -/
def flg (ts : List It) (k j : Nat) : Bool := decide (1 ≤ j ∧ j ≤ ts.length) && (ts.take k).any fun x => decide (x.1 = (j : Int))
theorem flg_zero (ts : List It) (j : Nat) : flg ts 0 j = false := by simp [flg]
theorem flg_end (ts : List It) {j : Nat} (h1 : 1 ≤ j) (h2 : j ≤ ts.length) : flg ts ts.length j = hasP ts (j : Int) := by
  unfold flg hasP atP
  rw [List.take_length, decide_eq_true (by omega), Bool.true_and, Bool.eq_iff_iff]
  simp
theorem flg_out (ts : List It) (k : Nat) {j : Nat} (h : ¬ (1 ≤ j ∧ j ≤ ts.length)) : flg ts k j = false := by
  unfold flg
  rw [decide_eq_false h, Bool.false_and]
theorem flg_in {ts : List It} {k : Nat} (hk : k < ts.length) {q : Nat} (h1 : 1 ≤ q) (h2 : q ≤ ts.length) (e : ts[k].1 = (q : Int)) (j : Nat) : flg ts (k + 1) j = if j = q then true else flg ts k j := by
  unfold flg
  rw [List.take_succ_eq_append_getElem hk, List.any_append]
  by_cases hj : j = q
  · subst hj
    simp [e, h1, h2]
  · rw [if_neg hj]
    have : ¬ (q : Int) = (j : Int) := by omega
    simp [e, this]
theorem flg_no {ts : List It} {k : Nat} (hk : k < ts.length) (h : ¬ (1 ≤ ts[k].1 ∧ ts[k].1 ≤ (ts.length : Int))) (j : Nat) : flg ts (k + 1) j = flg ts k j := by
  unfold flg
  rw [List.take_succ_eq_append_getElem hk, List.any_append]
  by_cases hj : 1 ≤ j ∧ j ≤ ts.length
  · have : ¬ ts[k].1 = (j : Int) := by omega
    simp [this]
  · rw [decide_eq_false hj, Bool.false_and, Bool.false_and]

/-- a row of N flags. -/
def FlAt (w : World) (g N : Nat) (p : Nat → Bool) : Prop := ∃ arr : Array Value, w.heap[g]? = some (.cells arr 4 (0, 0)) ∧ arr.size = N ∧ ∀ j, j < N → arr[j]? = some (.bool (p j))
theorem FlAt.lt {w : World} {g N : Nat} {p : Nat → Bool} (h : FlAt w g N p) : g < w.heap.size := by
  obtain ⟨arr, h1, _⟩ := h
  exact (Array.getElem?_eq_some_iff.1 h1).1
theorem FlAt.below {w w' : World} {g N : Nat} {p : Nat → Bool} (h : FlAt w g N p) (hb : Below w.heap.size w w') : FlAt w' g N p := by
  have := h.lt
  obtain ⟨arr, h1, h2⟩ := h
  exact ⟨arr, (hb.block g this).trans h1, h2⟩
theorem FlAt.cell {w : World} {g N : Nat} {p : Nat → Bool} (h : FlAt w g N p) {j : Nat} (hj : j < N) : w.cell? ⟨g, j, none⟩ = some (.bool (p j)) ∧ w.frozen? ⟨g, j, none⟩ = false := by
  obtain ⟨arr, h1, h2, h3⟩ := h
  exact ⟨by rw [cell_of_row w g j _ 4 (0, 0) h1]; exact h3 j hj, frozen_of_row w g j _ 4 h1⟩
theorem FlAt.set {w : World} {g N : Nat} {p p' : Nat → Bool} (h : FlAt w g N p) (k : Nat) (hp : ∀ j, p' j = if j = k then true else p j) : FlAt (w.setCell ⟨g, k, none⟩ (.bool true)) g N p' := by
  obtain ⟨arr, h1, h2, h3⟩ := h
  refine ⟨_, heap_setCell_same w g k _ 4 (.bool true) h1, by simp [h2], fun j hj => ?_⟩
  rw [Array.getElem?_setIfInBounds, hp]
  by_cases hjk : k = j
  · subst hjk
    simp [h2, hj]
  · have : ¬ j = k := fun e => hjk e.symm
    simp [hjk, this, h3 j hj]
theorem FlAt.eq {w : World} {g N : Nat} {p p' : Nat → Bool} (h : FlAt w g N p) (hp : ∀ j, p' j = p j) : FlAt w g N p' := by
  obtain ⟨arr, h1, h2, h3⟩ := h
  exact ⟨arr, h1, h2, fun j hj => by rw [hp]; exact h3 j hj⟩

theorem Try.info4b : (Try.prog.info? 4).map (fun i => (i.zero, i.size, i.bytes)) = some (some (.bool false), 1, 1) := by kernel_rfl

set_option maxRecDepth 100000 in
set_option maxHeartbeats 2000000 in
theorem aru_any (ao : Option Addr) (cap : Nat) (ts : List It) (w : World) (hx : Hid (ItemsAt w ao ts)) (hl : ts.length ≤ 1048576) :
    Calls Try.prog 75 #[.slice ao ts.length cap] w fun e w' => e = .returned (.int .i64 (aruP ts : Nat)) ∧ Below w.heap.size w w' := by
  obtain ⟨i0, hi, hz0, hz1, hz2⟩ := info_parts Try.info4b
  obtain ⟨N, hN⟩ : ∃ N, N = ts.length + 2 := ⟨_, rfl⟩
  obtain ⟨A, hA, hAs⟩ : ∃ A : Array Value, A = madeCells (Value.bool false).cells (N * 1) ∧ A.size = N := ⟨_, rfl, by rw [size_madeCells]; omega⟩
  have hmk : (Instr.makeSlice 169 (.int .i64 ((ts.length : Int) + 2)) (.int .i64 ((ts.length : Int) + 2))).run Try.prog w = .ok (.slice (some ⟨w.heap.size, 0, none⟩) N N) (w.alloc (.cells A 4)) := by
    have h := run_make (P := Try.prog) w 169 4 i0 _ Try.underlying169 hi hz0 .i64 .i64 (N : Int) (N : Int) (by omega) (by omega) (by rw [hz2]; omega) (by omega)
    rw [hz1, Int.toNat_natCast, ← hA] at h
    rw [show (ts.length : Int) + 2 = (N : Int) by omega]
    simpa using h
  have H0 : Hid (FlAt (w.alloc (.cells A 4)) w.heap.size N (flg ts 0)) := ⟨A, heap_alloc_new w _, hAs, fun j hj => by
    have e : madeCells (Value.bool false).cells (N * 1) = ((List.replicate N false).map Value.bool).toArray := by
      apply Array.ext'
      rw [show (Value.bool false).cells = #[Value.bool false] from rfl, Nat.mul_one, toList_madeCells_one]
      simp
    rw [hA, flg_zero, e]
    simp [hj]⟩
  have B0 : Hid (Below w.heap.size w (w.alloc (.cells A 4))) := (Below.refl _ _).alloc (Nat.le_refl _) _
  clear hA hAs hi hz0 hz1 hz2
  go_enter Try.func75, Try.ntmps75
  go_wp2
  go_loopw [13] (fun i wr => ∃ (k : Nat), k ≤ ts.length ∧ i = .int .i64 k ∧ Hid (FlAt wr w.heap.size N (flg ts k)) ∧ Hid (Below w.heap.size w wr)) (fun i _ => ts.length - (intOf i).toNat)
  case atStart => exact ⟨0, Nat.zero_le _, rfl, H0, B0⟩
  case round =>
    clear H0 B0 hmk
    obtain ⟨k, hk, rfl, hf, hb⟩ := hrel
    by_cases hlt : k < ts.length
    · obtain ⟨b, off, rfl, hbb, h0, h1, h2, h3⟩ := hx.out.stays hb.out k hlt
      have HP : Hid (∃ x : It, x = ts[k]) := ⟨_, rfl⟩
      obtain ⟨⟨q, f, lv, tx⟩, hp⟩ := HP.out
      rw [← hp] at h0 h1 h2 h3
      have HQ : Hid ((q, f, lv, tx) = ts[k]) := hp
      clear hp HP
      dsimp only at h0 h1 h2 h3
      have I0 : Hid (ItAt (wr.alloc (.cells #[.int .i64 q, .int .i64 f, .int .i64 lv, .string tx] 38)) wr.heap.size q f lv tx) := heap_alloc_new wr _
      have B0 : Hid (Below w.heap.size w (wr.alloc (.cells #[.int .i64 q, .int .i64 f, .int .i64 lv, .string tx] 38))) := hb.out.alloc hb.out.size _
      have F0 : Hid (FlAt (wr.alloc (.cells #[.int .i64 q, .int .i64 f, .int .i64 lv, .string tx] 38)) w.heap.size N (flg ts k)) := hf.out.below ((Below.refl _ _).alloc (Nat.le_refl _) _)
      have mn := mNum (wr.alloc (.cells #[.int .i64 q, .int .i64 f, .int .i64 lv, .string tx] 38)) (.agg #[.int .i64 q, .int .i64 f, .int .i64 lv, .string tx])
      go_wp2_with fail
      clear mn
      generalize wr.alloc (.cells #[.int .i64 q, .int .i64 f, .int .i64 lv, .string tx] 38) = W0 at *
      clear h0 h1 h2 h3
      refine (number_any q f lv tx _).mono ?_
      rintro e w1 ⟨rfl, hb1⟩
      have I1 : Hid (ItAt w1 wr.heap.size q f lv tx) := I0.out.stays hb1 I0.out.lt
      have F1 : Hid (FlAt w1 w.heap.size N (flg ts k)) := F0.out.below hb1
      have B1 : Hid (Below w.heap.size w w1) := B0.out.trans (hb1.mono B0.out.size)
      clear hb1 I0 B0 F0 hf
      go_wp2_with fail
      by_cases hq : 1 ≤ q ∧ q ≤ (ts.length : Int)
      · refine (within_is _ (decide_eq_true hq)).mono ?_
        rintro e w2 ⟨rfl, hw2⟩
        obtain rfl := hw2.symm
        clear hw2
        obtain ⟨c0, c1, c2, c3⟩ := I1.out.cells
        have mn := mNum w1 (.agg #[.int .i64 q, .int .i64 f, .int .i64 lv, .string tx])
        go_wp2_with fail
        clear mn
        refine (number_any q f lv tx _).mono ?_
        rintro e w3 ⟨rfl, hb3⟩
        have F3 : Hid (FlAt w3 w.heap.size N (flg ts k)) := F1.out.below hb3
        have B3 : Hid (Below w.heap.size w w3) := B1.out.trans (hb3.mono B1.out.size)
        clear hb3 c0 c1 c2 c3 I1 F1 B1
        obtain ⟨m, rfl⟩ : ∃ m : Nat, q = (m : Int) := ⟨q.toNat, by omega⟩
        obtain ⟨c0, f0⟩ := F3.out.cell (j := m) (by omega)
        have hmN : (m : Int) < (N : Int) := by omega
        have F4 : Hid (FlAt (w3.setCell ⟨w.heap.size, m, none⟩ (.bool true)) w.heap.size N (flg ts (k + 1))) := F3.out.set m (flg_in hlt (by omega) (by omega) (by rw [← HQ.out]))
        have B4 : Hid (Below w.heap.size w (w3.setCell ⟨w.heap.size, m, none⟩ (.bool true))) := B3.out.setCell (Nat.le_refl _) _
        go_wp2_with fail
        go_roundw
        case rel => exact ⟨k + 1, by omega, by go_num, F4, B4⟩
        case measure => simp [intOf]; omega
      · refine (within_is _ (decide_eq_false hq)).mono ?_
        rintro e w2 ⟨rfl, hw2⟩
        obtain rfl := hw2.symm
        clear hw2
        have F4 : Hid (FlAt w1 w.heap.size N (flg ts (k + 1))) := F1.out.eq (flg_no hlt (by rw [← HQ.out]; exact hq))
        go_wp2_with fail
        go_roundw
        case rel => exact ⟨k + 1, by omega, by go_num, F4, B1⟩
        case measure => simp [intOf]; omega
    · obtain rfl : k = ts.length := by omega
      go_wp2
      go_loopw [6] (fun i wr' => ∃ (n : Nat), n ≤ ts.length ∧ i = .int .i64 n ∧ wr' = wr ∧ Hid (aruGo ts (ts.length - n) n = aruP ts)) (fun i _ => ts.length + 1 - (intOf i).toNat)
      case atStart => exact ⟨0, Nat.zero_le _, rfl, rfl, (rfl : aruGo ts (ts.length - 0) 0 = aruP ts)⟩
      case round =>
        obtain ⟨n, hn, rfl, rfl, hg⟩ := hrel
        obtain ⟨c0, f0⟩ := hf.out.cell (j := n + 1) (by omega)
        have hwn : IntKind.i64.wrap ((n : Int) + 1) = ((n + 1 : Nat) : Int) := by rw [IntKind.wrap_i64]; omega
        have hnN : ((n + 1 : Nat) : Int) < (N : Int) := by omega
        by_cases hlt2 : n < ts.length
        · rw [flg_end ts (by omega) (by omega)] at c0
          cases hh : hasP ts ((n + 1 : Nat) : Int) with
          | true =>
            rw [hh] at c0
            have HN : Hid (aruGo ts (ts.length - (n + 1)) (n + 1) = aruP ts) := by
              have := hg.out
              rwa [aruGo_on hlt2 hh] at this
            clear hh
            go_wp2_with fail
            go_roundw
            case rel => exact ⟨n + 1, by omega, by go_num, by simp, HN⟩
            case measure => simp [intOf]; omega
          | false =>
            rw [hh] at c0
            have HN : Hid (n = aruP ts) := by
              have := hg.out
              rwa [aruGo_off hlt2 hh] at this
            clear hh
            go_wp2_with fail
            go_ret
            exact ⟨by rw [← HN.out]; rfl, hb.out⟩
        · rw [flg_out ts _ (by omega)] at c0
          have HN : Hid (n = aruP ts) := by
            have := hg.out
            rwa [aruGo_end (by omega)] at this
          go_wp2_with fail
          go_ret
          exact ⟨by rw [← HN.out]; rfl, hb.out⟩

set_option maxRecDepth 100000 in
set_option maxHeartbeats 1000000 in
theorem aruOf_any (ao : Option Addr) (cap : Nat) (ts : List It) (w : World) (hx : Hid (ItemsAt w ao ts)) (hl : ts.length ≤ 1048576) :
    Calls Try.prog 56 #[.slice ao ts.length cap] w fun e w' => e = .returned (.int .i64 (aruP ts : Nat)) ∧ Below w.heap.size w w' := by
  go_enter Try.func56, Try.ntmps56
  go_wp2_with fail
  refine (aru_any ao cap ts w hx hl).mono ?_
  rintro e w1 ⟨rfl, hb1⟩
  go_wp2_with fail
  go_ret
  exact ⟨rfl, hb1⟩

set_option maxRecDepth 100000 in
set_option maxHeartbeats 1000000 in
theorem spAru_any (ao : Option Addr) (cap : Nat) (ts : List It) (w : World) (hx : Hid (ItemsAt w ao ts)) (hl : ts.length ≤ 1048576) :
    Calls Try.prog 54 #[.slice ao ts.length cap] w fun e w' => e = .returned (.int .i64 (aruP ts : Nat)) ∧ Below w.heap.size w w' := by
  go_enter Try.func54, Try.ntmps54
  go_wp2
  go_loopw [3, 4] (fun n i wr => ∃ (k : Nat), k ≤ ts.length ∧ n = .int .i64 k ∧ i = .int .i64 k ∧ Hid (aruGo ts (ts.length - k) k = aruP ts) ∧ Hid (Below w.heap.size w wr)) (fun _ i _ => ts.length - (intOf i).toNat)
  case atStart => exact ⟨0, Nat.zero_le _, rfl, rfl, (rfl : aruGo ts (ts.length - 0) 0 = aruP ts), Below.refl _ _⟩
  case round =>
    obtain ⟨k, hk, rfl, rfl, hg, hb⟩ := hrel
    by_cases hlt : k < ts.length
    · have X0 : Hid (ItemsAt wr ao ts) := hx.out.stays hb.out
      have hwn : IntKind.i64.wrap ((k : Int) + 1) = ((k + 1 : Nat) : Int) := by rw [IntKind.wrap_i64]; omega
      have A := spAt_any ao cap ts ((k + 1 : Nat) : Int) wr X0 hl
      generalize (atP ts ((k + 1 : Nat) : Int)).getD zIt = y at A
      obtain ⟨q, f, l, t⟩ := y
      cases hh : hasP ts ((k + 1 : Nat) : Int) with
      | true =>
        rw [hh] at A
        have A : Hid _ := A
        have HN : Hid (aruGo ts (ts.length - (k + 1)) (k + 1) = aruP ts) := by
          have := hg.out
          rwa [aruGo_on hlt hh] at this
        clear hh
        go_wp2_with fail
        refine (show Calls _ _ _ _ _ from A.out).mono ?_
        rintro e w1 ⟨rfl, hb1⟩
        have B1 : Hid (Below w.heap.size w (w1.alloc (.cells #[.int .i64 q, .int .i64 f, .int .i64 l, .string t] 38))) := (hb.out.trans (hb1.mono hb.out.size)).alloc (hb.out.trans (hb1.mono hb.out.size)).size _
        clear A hb1
        unfold agg
        go_wp2_with fail
        go_roundw
        case rel => exact ⟨k + 1, by omega, rfl, rfl, HN, B1⟩
        case measure => simp [intOf]; omega
      | false =>
        rw [hh] at A
        have A : Hid _ := A
        have HN : Hid (k = aruP ts) := by
          have := hg.out
          rwa [aruGo_off hlt hh] at this
        clear hh
        go_wp2_with fail
        refine (show Calls _ _ _ _ _ from A.out).mono ?_
        rintro e w1 ⟨rfl, hb1⟩
        have B1 : Hid (Below w.heap.size w (w1.alloc (.cells #[.int .i64 q, .int .i64 f, .int .i64 l, .string t] 38))) := (hb.out.trans (hb1.mono hb.out.size)).alloc (hb.out.trans (hb1.mono hb.out.size)).size _
        clear A hb1
        unfold agg
        go_wp2_with fail
        go_ret
        exact ⟨by rw [← HN.out]; rfl, B1.out⟩
    · have HN : Hid (k = aruP ts) := by
        have := hg.out
        rwa [aruGo_end (by omega)] at this
      go_wp2_with fail
      go_ret
      exact ⟨by rw [← HN.out]; rfl, hb.out⟩
end Go.Proofs.Ythdjkkiegecgnaa
