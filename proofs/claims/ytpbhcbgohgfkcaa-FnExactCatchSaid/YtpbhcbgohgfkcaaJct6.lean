/- Joined texts: A2 A3 A4 Gv Pe Mt. -/
import Derived.Test.YtpbhcbgohgfkcaaJct1
import Derived.Test.YtpbhcbgohgfkcaaJct2
import Derived.Test.YtpbhcbgohgfkcaaJct3
import Derived.Test.YtpbhcbgohgfkcaaJct4
import Derived.Test.YtpbhcbgohgfkcaaJct5
import Derived.Laws.MakeOwn
import Derived.BigQuiet
import Derived.Deep.RegionLaw
/- The walks over both ItemAt, over one item copied. -/
namespace Go.Proofs.Ytpbhcbgohgfkcaa
open Go.RowKit Pl
set_option linter.unusedVariables false

set_option maxRecDepth 100000 in
set_option maxHeartbeats 1000000 in
theorem spAt_any (ao : Option Addr) (cap : Nat) (ts : List It) (n : Int) (w : World) (hx : Hid (ItemsAt w ao ts)) (hl : ts.length ≤ 1048576) :
    Calls Try.prog 25 #[.slice ao ts.length cap, .int .i64 n] w fun e w' => e = .returned (.tuple #[agg ((atP ts n).getD zIt), .bool (hasP ts n)]) ∧ Below w.heap.size w w' := by
  have HZ : Hid (ItAt (w.alloc (.cells #[.int .i64 0, .int .i64 0, .int .i64 0, .string ⟨#[]⟩] 38)) w.heap.size 0 0 0 ⟨#[]⟩) := zt w
  have HB : Hid (Below w.heap.size w (w.alloc (.cells #[.int .i64 0, .int .i64 0, .int .i64 0, .string ⟨#[]⟩] 38))) := (Below.refl _ _).alloc (Nat.le_refl _) _
  go_enter Try.func25, Try.ntmps25
  go_wp2
  go_loopw [6] (fun i wr => ∃ (k : Nat), k ≤ ts.length ∧ i = .int .i64 k ∧ Hid (∀ x ∈ ts.take k, ¬ x.1 = n) ∧ Hid (Below w.heap.size w wr) ∧ Hid (ItAt wr w.heap.size 0 0 0 ⟨#[]⟩)) (fun i _ => ts.length - (intOf i).toNat)
  case atStart => exact ⟨0, Nat.zero_le _, rfl, (fun x hx => by simp at hx : ∀ x ∈ ts.take 0, ¬ x.1 = n), HB, HZ⟩
  case round =>
    clear HZ HB
    obtain ⟨k, hk, rfl, hst, hb, hz⟩ := hrel
    by_cases hlt : k < ts.length
    · obtain ⟨b, off, rfl, hbb, h0, h1, h2, h3⟩ := hx.out.stays hb.out k hlt
      have HP : Hid (∃ x : It, x = ts[k]) := ⟨_, rfl⟩
      obtain ⟨⟨q, f, lv, tx⟩, hp⟩ := HP.out
      rw [← hp] at h0 h1 h2 h3
      have HQ : Hid ((q, f, lv, tx) = ts[k]) := hp
      clear hp HP
      dsimp only at h0 h1 h2 h3
      by_cases hn : q = n
      · have HR : Hid (atP ts n = some (q, f, lv, tx)) := by
          rw [HQ.out]
          exact atP_here hlt (by rw [← HQ.out]; exact hn) hst.out
        subst hn
        obtain ⟨d0, d1, d2, d3⟩ := hz.out.cells
        have f0 := hz.out.frozen 0
        have f1 := hz.out.frozen 1
        have f2 := hz.out.frozen 2
        have f3 := hz.out.frozen 3
        obtain ⟨r0, r1, r2, r3⟩ := (hz.out.put4 (q' := q) (f' := f) (l' := lv) (t' := tx)).cells
        go_wp2_with fail
        refine bodyPost_ret (v := .tuple #[.agg #[.int .i64 q, .int .i64 f, .int .i64 lv, .string tx], .bool true]) (by simp [results, Try.results25, go_sem, r0, r1, r2, r3]) rfl ⟨?_, ?_⟩
        · unfold hasP
          rw [HR.out]; rfl
        · exact (((hb.out.setCell (Nat.le_refl _) _).setCell (Nat.le_refl _) _).setCell (Nat.le_refl _) _).setCell (Nat.le_refl _) _
      · have HN : Hid (∀ x ∈ ts.take (k + 1), ¬ x.1 = n) := take_step hlt hst.out (by rw [← HQ.out]; exact hn)
        go_wp2_with fail
        go_roundw
        case rel => exact ⟨k + 1, by omega, by go_num, HN, hb, hz⟩
        case measure => simp [intOf]; omega
    · have HR : Hid (atP ts n = none) := atP_none (by have := hst.out; rwa [List.take_of_length_le (by omega)] at this)
      obtain ⟨d0, d1, d2, d3⟩ := hz.out.cells
      have f0 := hz.out.frozen 0
      have f1 := hz.out.frozen 1
      have f2 := hz.out.frozen 2
      have f3 := hz.out.frozen 3
      obtain ⟨r0, r1, r2, r3⟩ := (hz.out.put4 (q' := 0) (f' := 0) (l' := 0) (t' := ⟨#[]⟩)).cells
      go_wp2_with fail
      refine bodyPost_ret (v := .tuple #[.agg #[.int .i64 0, .int .i64 0, .int .i64 0, .string ⟨#[]⟩], .bool false]) (by simp [results, Try.results25, go_sem, r0, r1, r2, r3]) rfl ⟨?_, ?_⟩
      · unfold hasP
        rw [HR.out]; rfl
      · exact (((hb.out.setCell (Nat.le_refl _) _).setCell (Nat.le_refl _) _).setCell (Nat.le_refl _) _).setCell (Nat.le_refl _) _

set_option maxRecDepth 100000 in
set_option maxHeartbeats 1000000 in
theorem copyItem_any (q f l : Int) (t : ByteArray) (w : World) (ht : t.size ≤ 1048576) :
    Calls Try.prog 112 #[.agg #[.int .i64 q, .int .i64 f, .int .i64 l, .string t]] w fun e w' => e = .returned (.agg #[.int .i64 q, .int .i64 f, .int .i64 l, .string t]) ∧ Below w.heap.size w w' := by
  obtain ⟨W, hW⟩ : ∃ W, W = (w.alloc (.cells #[.int .i64 q, .int .i64 f, .int .i64 l, .string t] 38)).alloc (.cells #[.int .i64 0, .int .i64 0, .int .i64 0, .string ⟨#[]⟩] 38) := ⟨_, rfl⟩
  have I0 : Hid (ItAt W w.heap.size q f l t) := by
    rw [hW]
    exact ItAt.stays (show ItAt (w.alloc (.cells #[.int .i64 q, .int .i64 f, .int .i64 l, .string t] 38)) w.heap.size q f l t from heap_alloc_new w _) ((Below.refl _ _).alloc (Nat.le_refl _) _) (by simp)
  have Z0 : Hid (ItAt W (w.heap.size + 1) 0 0 0 ⟨#[]⟩) := by
    rw [hW]
    have h := zt (w.alloc (.cells #[.int .i64 q, .int .i64 f, .int .i64 l, .string t] 38))
    rw [show (w.alloc (.cells #[.int .i64 q, .int .i64 f, .int .i64 l, .string t] 38)).heap.size = w.heap.size + 1 by simp] at h
    exact h
  have B0 : Hid (Below w.heap.size w W) := by
    rw [hW]
    exact ((Below.refl _ _).alloc (Nat.le_refl _) _).alloc (by simp) _
  have HW : Hid (W = (w.alloc (.cells #[.int .i64 q, .int .i64 f, .int .i64 l, .string t] 38)).alloc (.cells #[.int .i64 0, .int .i64 0, .int .i64 0, .string ⟨#[]⟩] 38)) := hW
  clear hW
  go_enter Try.func112, Try.ntmps112
  go_wp2_with fail
  rw [← HW.out]
  clear HW
  refine (clone_any t _ ht).mono ?_
  rintro e w1 ⟨rfl, hb1⟩
  have I1 : Hid (ItAt w1 w.heap.size q f l t) := I0.out.stays hb1 I0.out.lt
  have Z1 : Hid (ItAt w1 (w.heap.size + 1) 0 0 0 ⟨#[]⟩) := Z0.out.stays hb1 Z0.out.lt
  have B1 : Hid (Below w.heap.size w w1) := B0.out.trans (hb1.mono B0.out.size)
  clear I0 Z0 B0 hb1
  obtain ⟨c0, c1, c2, c3⟩ := I1.out.cells
  have g3 := I1.out.frozen 3
  have I2 : Hid (ItAt (w1.setCell ⟨w.heap.size, 3, none⟩ (.string t)) w.heap.size q f l t) := heap_setCell_same w1 w.heap.size 3 _ 38 (.string t) I1.out
  have Z2 : Hid (ItAt (w1.setCell ⟨w.heap.size, 3, none⟩ (.string t)) (w.heap.size + 1) 0 0 0 ⟨#[]⟩) := (Below.heap_setCell w1 ⟨w.heap.size, 3, none⟩ _ (w.heap.size + 1) (by simp)).trans Z1.out
  have B2 : Hid (Below w.heap.size w (w1.setCell ⟨w.heap.size, 3, none⟩ (.string t))) := B1.out.setCell (Nat.le_refl _) _
  obtain ⟨e0, e1, e2, e3⟩ := I2.out.cells
  obtain ⟨d0, d1, d2, d3⟩ := Z2.out.cells
  have f0 := Z2.out.frozen 0
  have f1 := Z2.out.frozen 1
  have f2 := Z2.out.frozen 2
  have f3 := Z2.out.frozen 3
  obtain ⟨r0, r1, r2, r3⟩ := (Z2.out.put4 (q' := q) (f' := f) (l' := l) (t' := t)).cells
  go_wp2_with fail
  refine bodyPost_ret (v := .agg #[.int .i64 q, .int .i64 f, .int .i64 l, .string t]) (by simp [results, Try.results112, go_sem, r0, r1, r2, r3]) rfl ⟨rfl, ?_⟩
  exact (((B2.out.setCell (by simp) _).setCell (by simp) _).setCell (by simp) _).setCell (by simp) _

end Go.Proofs.Ytpbhcbgohgfkcaa

/- Up to which number none is missing: the walks over store.aru and over both AruOf. -/
namespace Go.Proofs.Ytpbhcbgohgfkcaa
open Go.RowKit Pl
set_option linter.unusedVariables false

/-- from n on, as long as there is the next one. -/
def aruGo (ts : List It) : Nat → Nat → Nat
  | 0, n => n
  | f + 1, n => if hasP ts ((n + 1 : Nat) : Int) = true then aruGo ts f (n + 1) else n
/-- the greatest number up to which none is missing. -/
def aruP (ts : List It) : Nat := aruGo ts ts.length 0
theorem aruGo_on {ts : List It} {n : Nat} (h : n < ts.length) (hh : hasP ts ((n + 1 : Nat) : Int) = true) : aruGo ts (ts.length - n) n = aruGo ts (ts.length - (n + 1)) (n + 1) := by
  rw [show ts.length - n = (ts.length - (n + 1)) + 1 by omega, aruGo, if_pos hh]
theorem aruGo_off {ts : List It} {n : Nat} (h : n < ts.length) (hh : hasP ts ((n + 1 : Nat) : Int) = false) : aruGo ts (ts.length - n) n = n := by
  rw [show ts.length - n = (ts.length - (n + 1)) + 1 by omega, aruGo, if_neg (by rw [hh]; simp)]
theorem aruGo_end {ts : List It} {n : Nat} (h : ts.length ≤ n) : aruGo ts (ts.length - n) n = n := by
  rw [show ts.length - n = 0 by omega, aruGo]
theorem aruGo_le (ts : List It) : ∀ f n, aruGo ts f n ≤ n + f
  | 0, n => by rw [aruGo]; omega
  | f + 1, n => by
    rw [aruGo]
    split
    · have := aruGo_le ts f (n + 1); omega
    · omega
theorem aruP_le (ts : List It) : aruP ts ≤ ts.length := by have := aruGo_le ts ts.length 0; unfold aruP; omega

/-- which numbers are marked behind the first k items. -/
def flg (ts : List It) (k j : Nat) : Bool := decide (1 ≤ j ∧ j ≤ ts.length) && (ts.take k).any fun x => decide (x.1 = (j : Int))
theorem flg_zero (ts : List It) (j : Nat) : flg ts 0 j = false := by simp [flg]
theorem flg_end (ts : List It) {j : Nat} (h1 : 1 ≤ j) (h2 : j ≤ ts.length) : flg ts ts.length j = hasP ts (j : Int) := by
  unfold flg hasP atP
  rw [List.take_length, decide_eq_true (by omega), Bool.true_and, Bool.eq_iff_iff]
  simp
theorem flg_out (ts : List It) (k : Nat) {j : Nat} (h : ¬ (1 ≤ j ∧ j ≤ ts.length)) : flg ts k j = false := by
  unfold flg
  rw [decide_eq_false h, Bool.false_and]
theorem flg_in {ts : List It} {k : Nat} (hk : k < ts.length) {q : Nat} (h1 : 1 ≤ q) (h2 : q ≤ ts.length) (e : ts[k].1 = (q : Int)) (j : Nat) : flg ts (k + 1) j = if j = q then true else flg ts k j := by
  unfold flg
  rw [List.take_succ_eq_append_getElem hk, List.any_append]
  by_cases hj : j = q
  · subst hj
    simp [e, h1, h2]
  · rw [if_neg hj]
    have : ¬ (q : Int) = (j : Int) := by omega
    simp [e, this]
theorem flg_no {ts : List It} {k : Nat} (hk : k < ts.length) (h : ¬ (1 ≤ ts[k].1 ∧ ts[k].1 ≤ (ts.length : Int))) (j : Nat) : flg ts (k + 1) j = flg ts k j := by
  unfold flg
  rw [List.take_succ_eq_append_getElem hk, List.any_append]
  by_cases hj : 1 ≤ j ∧ j ≤ ts.length
  · have : ¬ ts[k].1 = (j : Int) := by omega
    simp [this]
  · rw [decide_eq_false hj, Bool.false_and, Bool.false_and]

/-- a row of N flags. -/
def FlAt (w : World) (g N : Nat) (p : Nat → Bool) : Prop := ∃ arr : Array Value, w.heap[g]? = some (.cells arr 4 (0, 0)) ∧ arr.size = N ∧ ∀ j, j < N → arr[j]? = some (.bool (p j))
theorem FlAt.lt {w : World} {g N : Nat} {p : Nat → Bool} (h : FlAt w g N p) : g < w.heap.size := by
  obtain ⟨arr, h1, _⟩ := h
  exact (Array.getElem?_eq_some_iff.1 h1).1
theorem FlAt.below {w w' : World} {g N : Nat} {p : Nat → Bool} (h : FlAt w g N p) (hb : Below w.heap.size w w') : FlAt w' g N p := by
  have := h.lt
  obtain ⟨arr, h1, h2⟩ := h
  exact ⟨arr, (hb.block g this).trans h1, h2⟩
theorem FlAt.cell {w : World} {g N : Nat} {p : Nat → Bool} (h : FlAt w g N p) {j : Nat} (hj : j < N) : w.cell? ⟨g, j, none⟩ = some (.bool (p j)) ∧ w.frozen? ⟨g, j, none⟩ = false := by
  obtain ⟨arr, h1, h2, h3⟩ := h
  exact ⟨by rw [cell_of_row w g j _ 4 (0, 0) h1]; exact h3 j hj, frozen_of_row w g j _ 4 h1⟩
theorem FlAt.set {w : World} {g N : Nat} {p p' : Nat → Bool} (h : FlAt w g N p) (k : Nat) (hp : ∀ j, p' j = if j = k then true else p j) : FlAt (w.setCell ⟨g, k, none⟩ (.bool true)) g N p' := by
  obtain ⟨arr, h1, h2, h3⟩ := h
  refine ⟨_, heap_setCell_same w g k _ 4 (.bool true) h1, by simp [h2], fun j hj => ?_⟩
  rw [Array.getElem?_setIfInBounds, hp]
  by_cases hjk : k = j
  · subst hjk
    simp [h2, hj]
  · have : ¬ j = k := fun e => hjk e.symm
    simp [hjk, this, h3 j hj]
theorem FlAt.eq {w : World} {g N : Nat} {p p' : Nat → Bool} (h : FlAt w g N p) (hp : ∀ j, p' j = p j) : FlAt w g N p' := by
  obtain ⟨arr, h1, h2, h3⟩ := h
  exact ⟨arr, h1, h2, fun j hj => by rw [hp]; exact h3 j hj⟩

theorem Try.info4b : (Try.prog.info? 4).map (fun i => (i.zero, i.size, i.bytes)) = some (some (.bool false), 1, 1) := by kernel_rfl

set_option maxRecDepth 100000 in
set_option maxHeartbeats 2000000 in
theorem aru_any (ao : Option Addr) (cap : Nat) (ts : List It) (w : World) (hx : Hid (ItemsAt w ao ts)) (hl : ts.length ≤ 1048576) :
    Calls Try.prog 71 #[.slice ao ts.length cap] w fun e w' => e = .returned (.int .i64 (aruP ts : Nat)) ∧ Below w.heap.size w w' := by
  obtain ⟨i0, hi, hz0, hz1, hz2⟩ := info_parts Try.info4b
  obtain ⟨N, hN⟩ : ∃ N, N = ts.length + 2 := ⟨_, rfl⟩
  obtain ⟨A, hA, hAs⟩ : ∃ A : Array Value, A = madeCells (Value.bool false).cells (N * 1) ∧ A.size = N := ⟨_, rfl, by rw [size_madeCells]; omega⟩
  have hmk : (Instr.makeSlice 157 (.int .i64 ((ts.length : Int) + 2)) (.int .i64 ((ts.length : Int) + 2))).run Try.prog w = .ok (.slice (some ⟨w.heap.size, 0, none⟩) N N) (w.alloc (.cells A 4)) := by
    have h := run_make (P := Try.prog) w 157 4 i0 _ Try.underlying157 hi hz0 .i64 .i64 (N : Int) (N : Int) (by omega) (by omega) (by rw [hz2]; omega) (by omega)
    rw [hz1, Int.toNat_natCast, ← hA] at h
    rw [show (ts.length : Int) + 2 = (N : Int) by omega]
    simpa using h
  have H0 : Hid (FlAt (w.alloc (.cells A 4)) w.heap.size N (flg ts 0)) := ⟨A, heap_alloc_new w _, hAs, fun j hj => by
    have e : madeCells (Value.bool false).cells (N * 1) = ((List.replicate N false).map Value.bool).toArray := by
      apply Array.ext'
      rw [show (Value.bool false).cells = #[Value.bool false] from rfl, Nat.mul_one, toList_madeCells_one]
      simp
    rw [hA, flg_zero, e]
    simp [hj]⟩
  have B0 : Hid (Below w.heap.size w (w.alloc (.cells A 4))) := (Below.refl _ _).alloc (Nat.le_refl _) _
  clear hA hAs hi hz0 hz1 hz2
  go_enter Try.func71, Try.ntmps71
  go_wp2
  go_loopw [13] (fun i wr => ∃ (k : Nat), k ≤ ts.length ∧ i = .int .i64 k ∧ Hid (FlAt wr w.heap.size N (flg ts k)) ∧ Hid (Below w.heap.size w wr)) (fun i _ => ts.length - (intOf i).toNat)
  case atStart => exact ⟨0, Nat.zero_le _, rfl, H0, B0⟩
  case round =>
    clear H0 B0 hmk
    obtain ⟨k, hk, rfl, hf, hb⟩ := hrel
    by_cases hlt : k < ts.length
    · obtain ⟨b, off, rfl, hbb, h0, h1, h2, h3⟩ := hx.out.stays hb.out k hlt
      have HP : Hid (∃ x : It, x = ts[k]) := ⟨_, rfl⟩
      obtain ⟨⟨q, f, lv, tx⟩, hp⟩ := HP.out
      rw [← hp] at h0 h1 h2 h3
      have HQ : Hid ((q, f, lv, tx) = ts[k]) := hp
      clear hp HP
      dsimp only at h0 h1 h2 h3
      have I0 : Hid (ItAt (wr.alloc (.cells #[.int .i64 q, .int .i64 f, .int .i64 lv, .string tx] 38)) wr.heap.size q f lv tx) := heap_alloc_new wr _
      have B0 : Hid (Below w.heap.size w (wr.alloc (.cells #[.int .i64 q, .int .i64 f, .int .i64 lv, .string tx] 38))) := hb.out.alloc hb.out.size _
      have F0 : Hid (FlAt (wr.alloc (.cells #[.int .i64 q, .int .i64 f, .int .i64 lv, .string tx] 38)) w.heap.size N (flg ts k)) := hf.out.below ((Below.refl _ _).alloc (Nat.le_refl _) _)
      have mn := mNum (wr.alloc (.cells #[.int .i64 q, .int .i64 f, .int .i64 lv, .string tx] 38)) (.agg #[.int .i64 q, .int .i64 f, .int .i64 lv, .string tx])
      go_wp2_with fail
      clear mn
      generalize wr.alloc (.cells #[.int .i64 q, .int .i64 f, .int .i64 lv, .string tx] 38) = W0 at *
      clear h0 h1 h2 h3
      refine (number_any q f lv tx _).mono ?_
      rintro e w1 ⟨rfl, hb1⟩
      have I1 : Hid (ItAt w1 wr.heap.size q f lv tx) := I0.out.stays hb1 I0.out.lt
      have F1 : Hid (FlAt w1 w.heap.size N (flg ts k)) := F0.out.below hb1
      have B1 : Hid (Below w.heap.size w w1) := B0.out.trans (hb1.mono B0.out.size)
      clear hb1 I0 B0 F0 hf
      go_wp2_with fail
      by_cases hq : 1 ≤ q ∧ q ≤ (ts.length : Int)
      · refine (within_is _ (decide_eq_true hq)).mono ?_
        rintro e w2 ⟨rfl, hw2⟩
        obtain rfl := hw2.symm
        clear hw2
        obtain ⟨c0, c1, c2, c3⟩ := I1.out.cells
        have mn := mNum w1 (.agg #[.int .i64 q, .int .i64 f, .int .i64 lv, .string tx])
        go_wp2_with fail
        clear mn
        refine (number_any q f lv tx _).mono ?_
        rintro e w3 ⟨rfl, hb3⟩
        have F3 : Hid (FlAt w3 w.heap.size N (flg ts k)) := F1.out.below hb3
        have B3 : Hid (Below w.heap.size w w3) := B1.out.trans (hb3.mono B1.out.size)
        clear hb3 c0 c1 c2 c3 I1 F1 B1
        obtain ⟨m, rfl⟩ : ∃ m : Nat, q = (m : Int) := ⟨q.toNat, by omega⟩
        obtain ⟨c0, f0⟩ := F3.out.cell (j := m) (by omega)
        have hmN : (m : Int) < (N : Int) := by omega
        have F4 : Hid (FlAt (w3.setCell ⟨w.heap.size, m, none⟩ (.bool true)) w.heap.size N (flg ts (k + 1))) := F3.out.set m (flg_in hlt (by omega) (by omega) (by rw [← HQ.out]))
        have B4 : Hid (Below w.heap.size w (w3.setCell ⟨w.heap.size, m, none⟩ (.bool true))) := B3.out.setCell (Nat.le_refl _) _
        go_wp2_with fail
        go_roundw
        case rel => exact ⟨k + 1, by omega, by go_num, F4, B4⟩
        case measure => simp [intOf]; omega
      · refine (within_is _ (decide_eq_false hq)).mono ?_
        rintro e w2 ⟨rfl, hw2⟩
        obtain rfl := hw2.symm
        clear hw2
        have F4 : Hid (FlAt w1 w.heap.size N (flg ts (k + 1))) := F1.out.eq (flg_no hlt (by rw [← HQ.out]; exact hq))
        go_wp2_with fail
        go_roundw
        case rel => exact ⟨k + 1, by omega, by go_num, F4, B1⟩
        case measure => simp [intOf]; omega
    · obtain rfl : k = ts.length := by omega
      go_wp2
      go_loopw [6] (fun i wr' => ∃ (n : Nat), n ≤ ts.length ∧ i = .int .i64 n ∧ wr' = wr ∧ Hid (aruGo ts (ts.length - n) n = aruP ts)) (fun i _ => ts.length + 1 - (intOf i).toNat)
      case atStart => exact ⟨0, Nat.zero_le _, rfl, rfl, (rfl : aruGo ts (ts.length - 0) 0 = aruP ts)⟩
      case round =>
        obtain ⟨n, hn, rfl, rfl, hg⟩ := hrel
        obtain ⟨c0, f0⟩ := hf.out.cell (j := n + 1) (by omega)
        have hwn : IntKind.i64.wrap ((n : Int) + 1) = ((n + 1 : Nat) : Int) := by rw [IntKind.wrap_i64]; omega
        have hnN : ((n + 1 : Nat) : Int) < (N : Int) := by omega
        by_cases hlt2 : n < ts.length
        · rw [flg_end ts (by omega) (by omega)] at c0
          cases hh : hasP ts ((n + 1 : Nat) : Int) with
          | true =>
            rw [hh] at c0
            have HN : Hid (aruGo ts (ts.length - (n + 1)) (n + 1) = aruP ts) := by
              have := hg.out
              rwa [aruGo_on hlt2 hh] at this
            clear hh
            go_wp2_with fail
            go_roundw
            case rel => exact ⟨n + 1, by omega, by go_num, by simp, HN⟩
            case measure => simp [intOf]; omega
          | false =>
            rw [hh] at c0
            have HN : Hid (n = aruP ts) := by
              have := hg.out
              rwa [aruGo_off hlt2 hh] at this
            clear hh
            go_wp2_with fail
            go_ret
            exact ⟨by rw [← HN.out]; rfl, hb.out⟩
        · rw [flg_out ts _ (by omega)] at c0
          have HN : Hid (n = aruP ts) := by
            have := hg.out
            rwa [aruGo_end (by omega)] at this
          go_wp2_with fail
          go_ret
          exact ⟨by rw [← HN.out]; rfl, hb.out⟩

set_option maxRecDepth 100000 in
set_option maxHeartbeats 1000000 in
theorem aruOf_any (ao : Option Addr) (cap : Nat) (ts : List It) (w : World) (hx : Hid (ItemsAt w ao ts)) (hl : ts.length ≤ 1048576) :
    Calls Try.prog 52 #[.slice ao ts.length cap] w fun e w' => e = .returned (.int .i64 (aruP ts : Nat)) ∧ Below w.heap.size w w' := by
  go_enter Try.func52, Try.ntmps52
  go_wp2_with fail
  refine (aru_any ao cap ts w hx hl).mono ?_
  rintro e w1 ⟨rfl, hb1⟩
  go_wp2_with fail
  go_ret
  exact ⟨rfl, hb1⟩

set_option maxRecDepth 100000 in
set_option maxHeartbeats 1000000 in
theorem spAru_any (ao : Option Addr) (cap : Nat) (ts : List It) (w : World) (hx : Hid (ItemsAt w ao ts)) (hl : ts.length ≤ 1048576) :
    Calls Try.prog 51 #[.slice ao ts.length cap] w fun e w' => e = .returned (.int .i64 (aruP ts : Nat)) ∧ Below w.heap.size w w' := by
  go_enter Try.func51, Try.ntmps51
  go_wp2
  go_loopw [3, 4] (fun n i wr => ∃ (k : Nat), k ≤ ts.length ∧ n = .int .i64 k ∧ i = .int .i64 k ∧ Hid (aruGo ts (ts.length - k) k = aruP ts) ∧ Hid (Below w.heap.size w wr)) (fun _ i _ => ts.length - (intOf i).toNat)
  case atStart => exact ⟨0, Nat.zero_le _, rfl, rfl, (rfl : aruGo ts (ts.length - 0) 0 = aruP ts), Below.refl _ _⟩
  case round =>
    obtain ⟨k, hk, rfl, rfl, hg, hb⟩ := hrel
    by_cases hlt : k < ts.length
    · have X0 : Hid (ItemsAt wr ao ts) := hx.out.stays hb.out
      have hwn : IntKind.i64.wrap ((k : Int) + 1) = ((k + 1 : Nat) : Int) := by rw [IntKind.wrap_i64]; omega
      have A := spAt_any ao cap ts ((k + 1 : Nat) : Int) wr X0 hl
      generalize (atP ts ((k + 1 : Nat) : Int)).getD zIt = y at A
      obtain ⟨q, f, l, t⟩ := y
      cases hh : hasP ts ((k + 1 : Nat) : Int) with
      | true =>
        rw [hh] at A
        have A : Hid _ := A
        have HN : Hid (aruGo ts (ts.length - (k + 1)) (k + 1) = aruP ts) := by
          have := hg.out
          rwa [aruGo_on hlt hh] at this
        clear hh
        go_wp2_with fail
        refine (show Calls _ _ _ _ _ from A.out).mono ?_
        rintro e w1 ⟨rfl, hb1⟩
        have B1 : Hid (Below w.heap.size w (w1.alloc (.cells #[.int .i64 q, .int .i64 f, .int .i64 l, .string t] 38))) := (hb.out.trans (hb1.mono hb.out.size)).alloc (hb.out.trans (hb1.mono hb.out.size)).size _
        clear A hb1
        unfold agg
        go_wp2_with fail
        go_roundw
        case rel => exact ⟨k + 1, by omega, rfl, rfl, HN, B1⟩
        case measure => simp [intOf]; omega
      | false =>
        rw [hh] at A
        have A : Hid _ := A
        have HN : Hid (k = aruP ts) := by
          have := hg.out
          rwa [aruGo_off hlt hh] at this
        clear hh
        go_wp2_with fail
        refine (show Calls _ _ _ _ _ from A.out).mono ?_
        rintro e w1 ⟨rfl, hb1⟩
        have B1 : Hid (Below w.heap.size w (w1.alloc (.cells #[.int .i64 q, .int .i64 f, .int .i64 l, .string t] 38))) := (hb.out.trans (hb1.mono hb.out.size)).alloc (hb.out.trans (hb1.mono hb.out.size)).size _
        clear A hb1
        unfold agg
        go_wp2_with fail
        go_ret
        exact ⟨by rw [← HN.out]; rfl, B1.out⟩
    · have HN : Hid (k = aruP ts) := by
        have := hg.out
        rwa [aruGo_end (by omega)] at this
      go_wp2_with fail
      go_ret
      exact ⟨by rw [← HN.out]; rfl, hb.out⟩
end Go.Proofs.Ytpbhcbgohgfkcaa

/- Items copied; those up to the aru: the walks over copyOfItems, store.whole and both Whole. -/
namespace Go.Proofs.Ytpbhcbgohgfkcaa
open Go.RowKit Pl
set_option linter.unusedVariables false

theorem grown_below {a b : World} (h : a.grownBy b none) : Below a.heap.size a b := ⟨h.os, h.tape, h.output, h.size, fun k hk => h.block k hk (by simp)⟩

set_option maxRecDepth 100000 in
set_option maxHeartbeats 1000000 in
theorem copyItems_any (ao : Option Addr) (cap : Nat) (ts : List It) (w : World) (hx : Hid (ItemsAt w ao ts)) (hl : ts.length ≤ 1048576) (hs : Hid (∀ x ∈ ts, x.2.2.2.size ≤ 1048576)) :
    Calls Try.prog 108 #[.slice ao ts.length cap] w fun e w' => ∃ v, e = .returned v ∧ SlI w' w.heap.size v ts ∧ Below w.heap.size w w' := by
  obtain ⟨i0, hi, hz0, hz1, hz2⟩ := info_parts Try.infoI
  obtain ⟨W, hmk, own, hgr⟩ := run_make_own (P := Try.prog) w w.heap.size 105 38 i0 _ 4 Try.underlying105 hi hz0 hz1 .i64 .i64 ts.length (by rw [hz2]; omega) (by unfold maxLen; omega) (Nat.le_refl _)
  have S0 : Hid (SlI W w.heap.size (.slice (some ⟨w.heap.size, 0, none⟩) 0 ts.length) []) := Sl.ofOwn own
  have B0 : Hid (Below w.heap.size w W) := grown_below hgr
  clear own hgr hi hz0 hz1 hz2
  go_enter Try.func108, Try.ntmps108
  go_wp2
  go_loopw [3, 11] (fun v i wr => ∃ (k : Nat), k ≤ ts.length ∧ i = .int .i64 k ∧ Hid (SlI wr w.heap.size v (ts.take k)) ∧ Hid (Below w.heap.size w wr)) (fun _ i _ => ts.length - (intOf i).toNat)
  case atStart => exact ⟨0, Nat.zero_le _, rfl, S0, B0⟩
  case round =>
    clear S0 B0 hmk
    obtain ⟨k, hk, rfl, hS, hb⟩ := hrel
    by_cases hlt : k < ts.length
    · obtain ⟨b, off, rfl, hbb, h0, h1, h2, h3⟩ := hx.out.stays hb.out k hlt
      have hsz := hs.out _ (List.getElem_mem hlt)
      have HP : Hid (∃ x : It, x = ts[k]) := ⟨_, rfl⟩
      obtain ⟨⟨q, f, lv, tx⟩, hp⟩ := HP.out
      rw [← hp] at h0 h1 h2 h3 hsz
      have HQ : Hid ((q, f, lv, tx) = ts[k]) := hp
      clear hp HP
      dsimp only at h0 h1 h2 h3 hsz
      have S0 : Hid (SlI (wr.alloc (.cells #[.int .i64 q, .int .i64 f, .int .i64 lv, .string tx] 38)) w.heap.size u3 (ts.take k)) := hS.out.below ((Below.refl _ _).alloc (Nat.le_refl _) _)
      have B0 : Hid (Below w.heap.size w (wr.alloc (.cells #[.int .i64 q, .int .i64 f, .int .i64 lv, .string tx] 38))) := hb.out.alloc hb.out.size _
      go_wp2_with fail
      generalize wr.alloc (.cells #[.int .i64 q, .int .i64 f, .int .i64 lv, .string tx] 38) = W0 at *
      clear h0 h1 h2 h3
      refine (copyItem_any q f lv tx _ hsz).mono ?_
      rintro e w1 ⟨rfl, hb1⟩
      have S1 : SlI w1 w.heap.size u3 (ts.take k) := S0.out.below hb1
      have B1 : Below w.heap.size w w1 := B0.out.trans (hb1.mono B0.out.size)
      have z1 : w.heap.size ≤ w1.heap.size := B1.size
      have hlk : (ts.take k).length ≤ 1048576 := by rw [List.length_take]; omega
      clear hb1 S0 B0 hS
      go_wp2_with (at_builtin; refine wpList_pushIt rfl _ _ 105 rfl Try.underlying105 w.heap.size u3 (ts.take k) rfl S1 (q, f, lv, tx) rfl hlk z1 ?_; intro v2 w2 S2 g2 b2 _)
      have S2 : Hid (SlI w2 w.heap.size v2 (ts.take (k + 1))) := by
        rw [List.take_succ_eq_append_getElem hlt, ← HQ.out]
        exact S2
      have B2 : Hid (Below w.heap.size w w2) := B1.trans b2
      go_roundw
      case rel => exact ⟨k + 1, by omega, by go_num, S2, B2⟩
      case measure => simp [intOf]; omega
    · obtain rfl : k = ts.length := by omega
      go_wp2_with fail
      go_ret
      exact ⟨_, rfl, by have := hS.out; rwa [List.take_length] at this, hb.out⟩

/-- those up to the aru. -/
def wholeP (ts : List It) : List It := ts.filter fun x => decide (x.1 ≤ (aruP ts : Int))
theorem filter_step {ts : List It} {k : Nat} {a : Int} (hk : k < ts.length) : (ts.take (k + 1)).filter (fun x => decide (x.1 ≤ a)) = (ts.take k).filter (fun x => decide (x.1 ≤ a)) ++ if ts[k].1 ≤ a then [ts[k]] else [] := by
  rw [List.take_succ_eq_append_getElem hk, List.filter_append]
  congr 1
  by_cases h : ts[k].1 ≤ a <;> simp [h]
theorem filter_len (ts : List It) (k : Nat) (a : Int) : ((ts.take k).filter (fun x => decide (x.1 ≤ a))).length ≤ ts.length :=
  Nat.le_trans (List.length_filter_le _ _) (by rw [List.length_take]; omega)

end Go.Proofs.Ytpbhcbgohgfkcaa

/- What is given of what is wanted: both Give. -/
namespace Go.Proofs.Ytpbhcbgohgfkcaa
open Go.RowKit Pl
set_option linter.unusedVariables false

/-- n is one of them. -/
def inB (ws : List Int) (n : Int) : Bool := decide (n ∈ ws)
theorem inB_first {ws : List Int} {n : Int} {k : Nat} (h : FirstAt ws n k) : inB ws n = true := by
  obtain ⟨hk, he, _⟩ := h
  unfold inB
  simp only [decide_eq_true_eq]
  rw [← he]
  exact List.getElem_mem hk
theorem inB_none {ws : List Int} {n : Int} (h : NoneUpto ws n ws.length) : inB ws n = false := by
  unfold inB
  simp only [decide_eq_false_iff_not]
  intro hm
  obtain ⟨j, hj, he⟩ := List.getElem_of_mem hm
  exact h j hj hj he

set_option maxRecDepth 100000 in
set_option maxHeartbeats 1000000 in
theorem contains_any (ao : Option Addr) (cap : Nat) (ws : List Int) (d : Int) (w : World) (hx : Hid (IntsAt w ao ws)) (hl : ws.length ≤ 1048576) :
    Calls Try.prog 114 #[.slice ao ws.length cap, .int .i64 d] w fun e w' => e = .returned (.bool (inB ws d)) ∧ w' = w := by
  rcases first_or_none ws d with ⟨k, hk⟩ | hn
  · rw [inB_first hk]
    have HK : Hid (FirstAt ws d k) := hk
    have h0 : (0 : Int) ≤ (k : Int) := by omega
    clear hk
    go_enter Try.func114, Try.ntmps114
    go_wp2_with fail
    refine (index_at ao cap ws d k w hx hl HK).mono ?_
    rintro e w1 ⟨rfl, rfl⟩
    go_wp2_with fail
    go_ret
    exact ⟨by simp, rfl⟩
  · rw [inB_none hn]
    have HN : Hid (NoneUpto ws d ws.length) := hn
    clear hn
    go_enter Try.func114, Try.ntmps114
    go_wp2_with fail
    refine (index_none ao cap ws d w hx hl HN).mono ?_
    rintro e w1 ⟨rfl, rfl⟩
    go_wp2_with fail
    go_ret
    exact ⟨rfl, rfl⟩

set_option maxRecDepth 100000 in
set_option maxHeartbeats 1000000 in
theorem lin_any (ao : Option Addr) (cap : Nat) (ws : List Int) (d : Int) (w : World) (hx : Hid (IntsAt w ao ws)) (hl : ws.length ≤ 1048576) :
    Calls Try.prog 79 #[.slice ao ws.length cap, .int .i64 d] w fun e w' => e = .returned (.bool (inB ws d)) ∧ w' = w := by
  go_enter Try.func79, Try.ntmps79
  go_wp2
  go_loop [5] (fun i => ∃ (k : Nat), k ≤ ws.length ∧ i = .int .i64 k ∧ Hid (NoneUpto ws d k)) (fun i => ws.length - (intOf i).toNat)
  case atStart => exact ⟨0, Nat.zero_le _, rfl, fun j _ h => by omega⟩
  case round =>
    obtain ⟨k, hk, rfl, hnu⟩ := hrel
    by_cases hlt : k < ws.length
    · obtain ⟨b, off, rfl, hbb, hc⟩ := hx.out k hlt
      obtain ⟨x, ht⟩ : ∃ x, x = ws[k] := ⟨_, rfl⟩
      rw [← ht] at hc
      have HT : Hid (x = ws[k]) := ht
      clear ht
      by_cases h1 : x = d
      · have HF : Hid (FirstAt ws d k) := ⟨hlt, by rw [← HT.out]; exact h1, fun j hj => hnu.out j (by omega) hj⟩
        go_wp2
        go_ret
        exact ⟨by rw [inB_first HF.out]; rfl, rfl⟩
      · have HE : Hid (¬ x = d) := h1
        go_wp2
        go_round
        case rel => exact ⟨k + 1, by omega, by go_num, (fun j hj h => by
            by_cases e : j = k
            · subst e; rw [← HT.out]; exact HE.out
            · exact hnu.out j hj (by omega))⟩
        case measure => simp [intOf]; omega
    · obtain rfl : k = ws.length := by omega
      go_wp2
      go_ret
      exact ⟨by rw [inB_none hnu.out]; rfl, rfl⟩

set_option maxRecDepth 100000 in
set_option maxHeartbeats 1000000 in
theorem asks_any (c r q a b : Int) (ao : Option Addr) (cap : Nat) (ws : List Int) (n f l : Int) (t : ByteArray) (w : World) (hx : Hid (IntsAt w ao ws)) (hl : ws.length ≤ 1048576) :
    Calls Try.prog 121 #[.agg #[.int .i64 c, .int .i64 r, .int .i64 q, .int .i64 a, .int .i64 b, .slice ao ws.length cap], .agg #[.int .i64 n, .int .i64 f, .int .i64 l, .string t]] w fun e w' => e = .returned (.bool (inB ws n)) ∧ Below w.heap.size w w' := by
  have HB : Hid (Below w.heap.size w ((w.alloc (.cells #[.int .i64 c, .int .i64 r, .int .i64 q, .int .i64 a, .int .i64 b, .slice ao ws.length cap] 30)).alloc (.cells #[.int .i64 n, .int .i64 f, .int .i64 l, .string t] 38))) := ((Below.refl _ _).alloc (Nat.le_refl _) _).alloc (by simp) _
  have HX : Hid (IntsAt ((w.alloc (.cells #[.int .i64 c, .int .i64 r, .int .i64 q, .int .i64 a, .int .i64 b, .slice ao ws.length cap] 30)).alloc (.cells #[.int .i64 n, .int .i64 f, .int .i64 l, .string t] 38)) ao ws) := hx.out.stays HB.out
  clear hx
  go_enter Try.func121, Try.ntmps121
  go_wp2_with fail
  generalize ((w.alloc (.cells #[.int .i64 c, .int .i64 r, .int .i64 q, .int .i64 a, .int .i64 b, .slice ao ws.length cap] 30)).alloc (.cells #[.int .i64 n, .int .i64 f, .int .i64 l, .string t] 38)) = W at *
  refine (contains_any ao cap ws n W HX hl).mono ?_
  rintro e w1 ⟨rfl, rfl⟩
  go_wp2_with fail
  go_ret
  exact ⟨rfl, HB.out⟩

/-- those of the list that ws has. -/
def giveP (ws : List Int) (ts : List It) : List It := ts.filter fun x => inB ws x.1
theorem give_step {ws : List Int} {ts : List It} {k : Nat} (hk : k < ts.length) : giveP ws (ts.take (k + 1)) = giveP ws (ts.take k) ++ if inB ws ts[k].1 then [ts[k]] else [] := by
  unfold giveP
  rw [List.take_succ_eq_append_getElem hk, List.filter_append]
  congr 1
  cases h : inB ws ts[k].1 <;> simp [h]
theorem give_len (ws : List Int) (ts : List It) (k : Nat) : (giveP ws (ts.take k)).length ≤ ts.length :=
  Nat.le_trans (List.length_filter_le _ _) (by rw [List.length_take]; omega)

set_option maxRecDepth 100000 in
set_option maxHeartbeats 1000000 in
theorem kept_any (c r q a b : Int) (aw : Option Addr) (cw : Nat) (ws : List Int) (ao : Option Addr) (cap : Nat) (ts : List It) (w : World) (hy : Hid (IntsAt w aw ws)) (hx : Hid (ItemsAt w ao ts)) (hl : ts.length ≤ 1048576) (hw : ws.length ≤ 1048576) :
    Calls Try.prog 120 #[.slice ao ts.length cap, .func (Fn.func 121) #[.agg #[.int .i64 c, .int .i64 r, .int .i64 q, .int .i64 a, .int .i64 b, .slice aw ws.length cw]] #[]] w fun e w' => ∃ v, e = .returned v ∧ SlI w' w.heap.size v (giveP ws ts) ∧ Below w.heap.size w w' := by
  have S0 : Hid (SlI (w.alloc (.cells #[] 38)) w.heap.size (.slice (some ⟨w.heap.size, 0, none⟩) 0 0) []) := SlI.made w w.heap.size (Nat.le_refl _)
  have B0 : Hid (Below w.heap.size w (w.alloc (.cells #[] 38))) := (Below.refl _ _).alloc (Nat.le_refl _) _
  go_enter Try.func120, Try.ntmps120
  go_wp2
  go_loopw [5, 11] (fun v i wr => ∃ (k : Nat), k ≤ ts.length ∧ i = .int .i64 k ∧ Hid (SlI wr w.heap.size v (giveP ws (ts.take k))) ∧ Hid (Below w.heap.size w wr)) (fun _ i _ => ts.length - (intOf i).toNat)
  case atStart => exact ⟨0, Nat.zero_le _, rfl, S0, B0⟩
  case round =>
    clear S0 B0
    obtain ⟨k, hk, rfl, hS, hb⟩ := hrel
    by_cases hlt : k < ts.length
    · obtain ⟨bb, off, rfl, hbb, h0, h1, h2, h3⟩ := hx.out.stays hb.out k hlt
      have HP : Hid (∃ x : It, x = ts[k]) := ⟨_, rfl⟩
      obtain ⟨⟨n, f, lv, tx⟩, hp⟩ := HP.out
      rw [← hp] at h0 h1 h2 h3
      have hst := give_step (ws := ws) hlt
      rw [← hp] at hst
      have HST : Hid _ := hst
      clear hp HP hst
      dsimp only at h0 h1 h2 h3
      have S0 : Hid (SlI (wr.alloc (.cells #[.int .i64 n, .int .i64 f, .int .i64 lv, .string tx] 38)) w.heap.size u5 (giveP ws (ts.take k))) := hS.out.below ((Below.refl _ _).alloc (Nat.le_refl _) _)
      have I0 : Hid (ItAt (wr.alloc (.cells #[.int .i64 n, .int .i64 f, .int .i64 lv, .string tx] 38)) wr.heap.size n f lv tx) := heap_alloc_new wr _
      have B0 : Hid (Below w.heap.size w (wr.alloc (.cells #[.int .i64 n, .int .i64 f, .int .i64 lv, .string tx] 38))) := hb.out.alloc hb.out.size _
      have Y0 : Hid (IntsAt (wr.alloc (.cells #[.int .i64 n, .int .i64 f, .int .i64 lv, .string tx] 38)) aw ws) := hy.out.stays B0.out
      go_wp2_with fail
      generalize wr.alloc (.cells #[.int .i64 n, .int .i64 f, .int .i64 lv, .string tx] 38) = W0 at *
      clear h0 h1 h2 h3
      refine (asks_any c r q a b aw cw ws n f lv tx _ Y0 hw).mono ?_
      rintro e w1 ⟨rfl, hb1⟩
      have S1 : Hid (SlI w1 w.heap.size u5 (giveP ws (ts.take k))) := S0.out.below hb1
      have I1 := I0.out.stays hb1 I0.out.lt
      obtain ⟨c0, c1, c2, c3⟩ := I1.cells
      have B1 : Below w.heap.size w w1 := B0.out.trans (hb1.mono B0.out.size)
      have z1 : w.heap.size ≤ w1.heap.size := B1.size
      have hlk : (giveP ws (ts.take k)).length ≤ 1048576 := Nat.le_trans (give_len ws ts k) hl
      clear hb1 S0 B0 hS I0 I1 Y0
      cases hq : inB ws n with
      | true =>
        have HLS : Hid (giveP ws (ts.take (k + 1)) = giveP ws (ts.take k) ++ [(n, f, lv, tx)]) := by
          have := HST.out
          rwa [if_pos (show inB ws (n, f, lv, tx).1 = true from hq)] at this
        clear HST
        go_wp2_with (at_builtin; refine wpList_pushIt rfl _ _ 27 rfl Try.underlying27 w.heap.size u5 _ rfl S1.out (n, f, lv, tx) rfl hlk z1 ?_; intro v2 w2 S2 g2 b2 _)
        have S2 : Hid (SlI w2 w.heap.size v2 (giveP ws (ts.take (k + 1)))) := by
          rw [HLS.out]
          exact S2
        have B2 : Hid (Below w.heap.size w w2) := B1.trans b2
        go_roundw
        case rel => exact ⟨k + 1, by omega, by go_num, S2, B2⟩
        case measure => simp [intOf]; omega
      | false =>
        have HLS : Hid (giveP ws (ts.take (k + 1)) = giveP ws (ts.take k)) := by
          have := HST.out
          rwa [if_neg (show ¬ inB ws (n, f, lv, tx).1 = true by simp [hq]), List.append_nil] at this
        clear HST
        have S2 : Hid (SlI w1 w.heap.size u5 (giveP ws (ts.take (k + 1)))) := by
          rw [HLS.out]
          exact S1
        have B2 : Hid (Below w.heap.size w w1) := B1
        go_wp2_with fail
        go_roundw
        case rel => exact ⟨k + 1, by omega, by go_num, S2, B2⟩
        case measure => simp [intOf]; omega
    · obtain rfl : k = ts.length := by omega
      go_wp2_with fail
      go_ret
      exact ⟨_, rfl, by have := hS.out; rw [List.take_length] at this; exact this, hb.out⟩

set_option maxRecDepth 100000 in
set_option maxHeartbeats 1000000 in
theorem give_any (c r q a b : Int) (aw : Option Addr) (cw : Nat) (ws : List Int) (ao : Option Addr) (cap : Nat) (ts : List It) (w : World) (hy : Hid (IntsAt w aw ws)) (hx : Hid (ItemsAt w ao ts)) (hl : ts.length ≤ 1048576) (hw : ws.length ≤ 1048576) (hs : Hid (∀ x ∈ ts, x.2.2.2.size ≤ 1048576)) :
    Calls Try.prog 66 #[.agg #[.int .i64 c, .int .i64 r, .int .i64 q, .int .i64 a, .int .i64 b, .slice aw ws.length cw], .slice ao ts.length cap] w fun e w' => ∃ v, e = .returned v ∧ SlI w' w.heap.size v (giveP ws ts) ∧ Below w.heap.size w w' := by
  have HB : Hid (Below w.heap.size w (w.alloc (.cells #[.int .i64 c, .int .i64 r, .int .i64 q, .int .i64 a, .int .i64 b, .slice aw ws.length cw] 30))) := (Below.refl _ _).alloc (Nat.le_refl _) _
  have HY : Hid (IntsAt (w.alloc (.cells #[.int .i64 c, .int .i64 r, .int .i64 q, .int .i64 a, .int .i64 b, .slice aw ws.length cw] 30)) aw ws) := hy.out.stays HB.out
  have HX : Hid (ItemsAt (w.alloc (.cells #[.int .i64 c, .int .i64 r, .int .i64 q, .int .i64 a, .int .i64 b, .slice aw ws.length cw] 30)) ao ts) := hx.out.stays HB.out
  clear hx hy
  go_enter Try.func66, Try.ntmps66
  go_wp2_with fail
  generalize w.alloc (.cells #[.int .i64 c, .int .i64 r, .int .i64 q, .int .i64 a, .int .i64 b, .slice aw ws.length cw] 30) = W at *
  refine (kept_any c r q a b aw cw ws ao cap ts W HY HX hl hw).mono ?_
  rintro e w1 ⟨v, rfl, S1, b1⟩
  have B1 : Below w.heap.size w w1 := HB.out.trans (b1.mono HB.out.size)
  have z1 : w.heap.size ≤ w1.heap.size := B1.size
  obtain ⟨vo, vc, rfl, Y1⟩ := S1.items
  have Y1 : Hid (ItemsAt w1 vo (giveP ws ts)) := Y1
  have hlw : (giveP ws ts).length ≤ 1048576 := Nat.le_trans (List.length_filter_le _ _) hl
  have HSW : Hid (∀ x ∈ giveP ws ts, x.2.2.2.size ≤ 1048576) := fun x hx => hs.out x (List.mem_filter.1 hx).1
  clear S1 hs HX HY b1
  go_wp2_with fail
  refine (copyItems_any vo vc (giveP ws ts) w1 Y1 hlw HSW).mono ?_
  rintro e w2 ⟨v2, rfl, S2, B2⟩
  go_wp2_with fail
  go_ret
  exact ⟨_, rfl, S2.down z1, B1.trans (B2.mono z1)⟩
end Go.Proofs.Ytpbhcbgohgfkcaa

/- One item put behind a slice, at a step of a statement that leaves its order open. -/
namespace Go.Proofs.Ytpbhcbgohgfkcaa.Pl
open Go Go.RowKit
set_option linter.unusedVariables false

theorem src_new {P : Program} {W : World} {e e' tx : TypeId} {size H : Nat} (hk : P.underlying tx = some (.slice e')) (hH : W.heap.size = H) (news : List Value) (hl : news.length = size) (h1 : ∀ u ∈ news, u.oneCell' = true) :
    Src P size tx (.slice (some ⟨H, 0, none⟩) 1 1) 1 news (W.alloc (.cells news.toArray e)) := by
  subst hH
  refine Src.ofSlice _ hk ⟨W.heap.size, 0, none⟩ 1 1 news (by rw [hl, Nat.one_mul]) (fun j u hu => ?_) h1
  have ha : (⟨W.heap.size, 0, none⟩ : Addr).add j = ⟨W.heap.size, j, none⟩ := by unfold Addr.add; split <;> simp_all
  rw [ha, cell_of_row _ W.heap.size j _ e (0, 0) (heap_alloc_new W _)]
  simpa using hu

theorem grown_after {W w' : World} {o : Obj} {row : Option Nat} (h : (W.alloc o).grownBy w' row) : W.grownBy w' row := by
  have h1 : W.grownBy (W.alloc o) row := World.grownBy_alloc W o row
  exact ⟨h.os.trans h1.os, h.tape.trans h1.tape, h.output.trans h1.output, Nat.le_trans h1.size h.size, fun k hk hne => (h.block k (Nat.lt_of_lt_of_le hk h1.size) hne).trans (h1.block k hk hne)⟩

section
variable {P : Program} {W : World} {B H : Nat} {v : Value} {ops : Array Oper} {rest : List Oper} {o : Oper} {a : Act} {Q : Exit → Act → World → Prop}
theorem wp_pushE {e t : TypeId} {size n : Nat} {xs : List Value} {K : Act → World → Prop} (s x : Operand) (ho : o.op = .call { callee := .builtin .append, args := #[s, x], argTypes := #[t, t] }) (z : Value) (bytes : Nat)
    (ht : P.underlying t = some (.slice e)) (hinfo : (P.info? e).map (fun i => (i.zero, i.size, i.bytes)) = some (some z, size, bytes)) (hzs : z.cells.size = size) (hs : a.eval s = v) (h : Sl W e size B v n xs) (news : List Value) (hnl : news.length = size) (h1 : ∀ u ∈ news, u.oneCell' = true)
    (hH : W.heap.size = H) (hx : a.eval x = .slice (some ⟨H, 0, none⟩) 1 1) (hn : n < 4000000) (hby : bytes ≤ 1000) (hB : B ≤ W.heap.size)
    (hh : ∀ v' w', Sl w' e size B v' (n + 1) (xs ++ news) → W.grownBy w' v.ownBlock → K (a.put o.dst v') w') : o.wp P a (W.alloc (.cells news.toArray e)) K Q := by
  refine wp_appendS s x t ho z bytes ht hinfo hzs hs (h.alloc _) _ 1 news hx (src_new ht hH news hnl h1) (by unfold maxLen; omega) ?_ (by simp; omega) ?_
  · have : (n + 1) * bytes ≤ 4000000 * 1000 := Nat.mul_le_mul (by omega) hby
    omega
  · intro v' w' h2 h3 h4
    exact hh v' w' h2 (grown_after h3)
end
end Go.Proofs.Ytpbhcbgohgfkcaa.Pl
namespace Go.Proofs.Ytpbhcbgohgfkcaa
open Go.RowKit Pl
set_option linter.unusedVariables false

theorem step_pushIt {W : World} {B H : Nat} {v : Value} {ops : Array Oper} {o : Oper} {a : Act} {Q : Exit → Act → World → Prop} {K : Act → World → Prop} {E : Prop} (hgd : o.guard = none) (s x : Operand) (t : TypeId) (ho : o.op = .call { callee := .builtin .append, args := #[s, x], argTypes := #[t, t] })
    (ht : Try.prog.underlying t = some (.slice 38)) (ts : List It) (hs : a.eval s = v) (h : SlI W B v ts) (y : It)
    (hH : W.heap.size = H) (hx : a.eval x = .slice (some ⟨H, 0, none⟩) 1 1) (hn : ts.length < 4000000) (hB : B ≤ W.heap.size)
    (hh : ∀ v' w', SlI w' B v' (ts ++ [y]) → W.grownBy w' v.ownBlock → K (a.put o.dst v') w') :
    if Region.wanted o (yielded ops a.tmps) = true then Oper.wp Try.prog o a (W.alloc (.cells #[.int .i64 y.1, .int .i64 y.2.1, .int .i64 y.2.2.1, .string y.2.2.2] 38)) K Q else E := by
  rw [if_pos (by simp [Region.wanted, hgd])]
  refine wp_pushE s x ho (.agg #[.int .i64 0, .int .i64 0, .int .i64 0, .string ⟨#[]⟩]) 40 ht Try.infoI rfl hs h (cels [y]) rfl cels_one hH hx hn (by omega) hB fun v' w' h2 h3 => hh v' w' ?_ h3
  unfold SlI
  rw [List.length_append, cels_append]
  exact h2
/-- a token's block is no list's. -/
theorem sl_tokne {w : World} {B g : Nat} {v : Value} {ts : List It} {cs : Array Value} {T : TypeId} (h : SlI w B v ts) (hu : w.heap[g]? = some (.cells cs T (0, 0))) (hT : T ≠ 38) : v.ownBlock ≠ some g := by
  intro e
  rcases h.2 with ⟨hn, _⟩ | ⟨k, off, cap, cur, rfl, hbg, hk, rest⟩
  · subst hn; cases e
  · cases e
    rw [hk] at hu
    simp at hu
    exact hT hu.2.symm
theorem sl_own_ne {w : World} {B B' : Nat} {v u : Value} {ts : List It} {xs : List Int} (h : SlI w B v ts) (hu : OwnI w B' u xs) : ∀ k, u.ownBlock = some k → v.ownBlock ≠ some k := by
  intro k e
  rcases hu.2 with ⟨hn, _⟩ | ⟨g, cap, cur, rfl, hbg, hg, rest⟩
  · subst hn; cases e
  · cases e
    exact sl_tokne h hg (by decide)
end Go.Proofs.Ytpbhcbgohgfkcaa

/- Members of a ring in plain words, and where they lie. -/
namespace Go.Proofs.Ytpbhcbgohgfkcaa
open Go.RowKit Pl
set_option linter.unusedVariables false

/-- a token, plain. -/
structure Tok where
  c : Int
  r : Int
  q : Int
  a : Int
  b : Int
  ws : List Int
/-- a member, plain. -/
structure Mt where
  id : Int
  rid : Int
  ms : List Int
  its : List It
  lv : List Int
  tx : List ByteArray
  rd : Int
  se : Int
  li : Int
  he : Int
  la : Tok
/-- a slice. -/
structure Sv where
  a : Option Addr
  n : Nat
  c : Nat
def Sv.v (s : Sv) : Value := .slice s.a s.n s.c
/-- a member's lists, as slices. -/
structure Mv where
  ms : Sv
  its : Sv
  lv : Sv
  tx : Sv
  ws : Sv
def zTok : Tok := ⟨0, 0, 0, 0, 0, []⟩
def zMt : Mt := ⟨0, 0, [], [], [], [], 0, 0, 0, 0, zTok⟩
def zSv : Sv := ⟨none, 0, 0⟩
def zMv : Mv := ⟨zSv, zSv, zSv, zSv, zSv⟩

/-- the block g holds these cells. -/
def Bx (w : World) (g : Nat) (T : TypeId) (cs : List Value) : Prop := w.heap[g]? = some (.cells cs.toArray T (0, 0))
section
variable {w w' : World} {g T : Nat} {cs : List Value}
theorem Bx.new (w : World) (T : TypeId) (cs : List Value) : Bx (w.alloc (.cells cs.toArray T)) w.heap.size T cs := heap_alloc_new w _
theorem Bx.cell (h : Bx w g T cs) (k : Nat) : w.cell? ⟨g, k, none⟩ = cs[k]? := by
  rw [cell_of_row w g k _ T (0, 0) h]; simp
theorem Bx.frozen (h : Bx w g T cs) (k : Nat) : w.frozen? ⟨g, k, none⟩ = false := frozen_of_row w g k _ T h
theorem Bx.lt (h : Bx w g T cs) : g < w.heap.size := (Array.getElem?_eq_some_iff.1 h).1
theorem Bx.stays {B : Nat} (h : Bx w g T cs) (hb : Below B w w') (hg : g < B) : Bx w' g T cs := (hb.block g hg).trans h
theorem Bx.later (h : Bx w g T cs) (hb : Below w.heap.size w w') : Bx w' g T cs := h.stays hb h.lt
theorem Bx.set (h : Bx w g T cs) (k : Nat) (u : Value) : Bx (w.setCell ⟨g, k, none⟩ u) g T (cs.set k u) := by
  have := heap_setCell_same w g k _ T u h
  simpa [Bx] using this
theorem Bx.turn {k : Nat} (h : Bx w g T cs) (ht : TurnAt k w w') (hne : g ≠ k) : Bx w' g T cs := (ht.block g hne).trans h
theorem Bx.other {k j : Nat} {u : Value} (h : Bx w g T cs) (hne : g ≠ k) : Bx (w.setCell ⟨k, j, none⟩ u) g T cs := (Below.heap_setCell w ⟨k, j, none⟩ u g hne).trans h
theorem Bx.grown {row : Option Nat} (h : Bx w g T cs) (hg : w.grownBy w' row) (hne : some g ≠ row) : Bx w' g T cs := (hg.block g h.lt hne).trans h
end

/-- lists that are read. -/
def RI (w : World) (v : Value) (xs : List Int) : Prop := ∃ ao cap, v = .slice ao xs.length cap ∧ IntsAt w ao xs
def RT (w : World) (v : Value) (xs : List ByteArray) : Prop := ∃ ao cap, v = .slice ao xs.length cap ∧ TextsAt w ao xs
def RIt (w : World) (v : Value) (xs : List It) : Prop := ∃ ao cap, v = .slice ao xs.length cap ∧ ItemsAt w ao xs
section
variable {w w' : World} {v : Value}
theorem RI.stays {xs : List Int} (h : RI w v xs) (hb : Below w.heap.size w w') : RI w' v xs := by obtain ⟨a, c, h1, h2⟩ := h; exact ⟨a, c, h1, h2.stays hb⟩
theorem RT.stays {xs : List ByteArray} (h : RT w v xs) (hb : Below w.heap.size w w') : RT w' v xs := by obtain ⟨a, c, h1, h2⟩ := h; exact ⟨a, c, h1, h2.stays hb⟩
theorem RIt.stays {xs : List It} (h : RIt w v xs) (hb : Below w.heap.size w w') : RIt w' v xs := by obtain ⟨a, c, h1, h2⟩ := h; exact ⟨a, c, h1, h2.stays hb⟩
theorem Pl.OwnI.ri {B : Nat} {xs : List Int} (h : OwnI w B v xs) : RI w v xs := h.ints
theorem Pl.OwnS.rt {B : Nat} {xs : List ByteArray} (h : OwnS w B v xs) : RT w v xs := h.texts
theorem SlI.rit {B : Nat} {xs : List It} (h : SlI w B v xs) : RIt w v xs := h.items
end
/-- a member's lists are read. -/
structure MtR (w : World) (m : Mt) (v : Mv) : Prop where
  ms : RI w v.ms.v m.ms
  its : RIt w v.its.v m.its
  lv : RI w v.lv.v m.lv
  tx : RT w v.tx.v m.tx
  ws : RI w v.ws.v m.la.ws
theorem MtR.stays {w w' : World} {m : Mt} {v : Mv} (h : MtR w m v) (hb : Below w.heap.size w w') : MtR w' m v := ⟨h.ms.stays hb, h.its.stays hb, h.lv.stays hb, h.tx.stays hb, h.ws.stays hb⟩
/-- .. and are not too long. -/
structure MtS (m : Mt) : Prop where
  ms : m.ms.length ≤ 1048576
  its : m.its.length ≤ 1048576
  lv : m.lv.length ≤ 1048576
  tx : m.tx.length ≤ 1048576
  ws : m.la.ws.length ≤ 1048576
  it : ∀ x ∈ m.its, x.2.2.2.size ≤ 1048576
  te : ∀ x ∈ m.tx, x.size ≤ 1048576
  all : m.ms.length + m.its.length + m.lv.length + m.tx.length + m.la.ws.length ≤ 1048576

/-- two values that don't share a block. -/
def Ap (a b : Value) : Prop := ∀ k, a.ownBlock = some k → b.ownBlock ≠ some k
theorem Ap.symm {a b : Value} (h : Ap a b) : Ap b a := fun k hb ha => h k ha hb
theorem ap_none (b : Value) (n c : Nat) : Ap (.slice none n c) b := fun k h => by cases h
theorem ap_none' (a : Value) (n c : Nat) : Ap a (.slice none n c) := (ap_none a n c).symm
/-- the one lies below, the other one behind. -/
theorem ap_lt {a b : Value} {B : Nat} (ha : ∀ k, a.ownBlock = some k → k < B) (hb : ∀ k, b.ownBlock = some k → B ≤ k) : Ap a b := fun k h1 h2 => by have := ha k h1; have := hb k h2; omega
theorem own_is_i {w : World} {B : Nat} {v : Value} {xs : List Int} (h : OwnI w B v xs) {k : Nat} (hk : v.ownBlock = some k) : ∃ cs, w.heap[k]? = some (.cells cs 3 (0, 0)) := by
  rcases h.2 with ⟨rfl, _⟩ | ⟨g, cap, cur, rfl, _, hg, _⟩
  · cases hk
  · cases hk; exact ⟨_, hg⟩
theorem own_is_s {w : World} {B : Nat} {v : Value} {xs : List ByteArray} (h : OwnS w B v xs) {k : Nat} (hk : v.ownBlock = some k) : ∃ cs, w.heap[k]? = some (.cells cs 9 (0, 0)) := by
  rcases h.2 with ⟨rfl, _⟩ | ⟨g, cap, cur, rfl, _, hg, _⟩
  · cases hk
  · cases hk; exact ⟨_, hg⟩
theorem own_is_it {w : World} {B : Nat} {v : Value} {xs : List It} (h : SlI w B v xs) {k : Nat} (hk : v.ownBlock = some k) : ∃ cs, w.heap[k]? = some (.cells cs 38 (0, 0)) := by
  rcases h.2 with ⟨rfl, _⟩ | ⟨g, off, cap, cur, rfl, _, hg, _⟩
  · cases hk
  · cases hk; exact ⟨_, hg⟩
theorem ap_i_s {w : World} {B B' : Nat} {a b : Value} {xs : List Int} {ys : List ByteArray} (h : OwnI w B a xs) (k : OwnS w B' b ys) : Ap a b := fun n h1 h2 => by
  obtain ⟨_, e1⟩ := own_is_i h h1; obtain ⟨_, e2⟩ := own_is_s k h2; rw [e1] at e2; simp at e2
theorem ap_i_it {w : World} {B B' : Nat} {a b : Value} {xs : List Int} {ys : List It} (h : OwnI w B a xs) (k : SlI w B' b ys) : Ap a b := fun n h1 h2 => by
  obtain ⟨_, e1⟩ := own_is_i h h1; obtain ⟨_, e2⟩ := own_is_it k h2; rw [e1] at e2; simp at e2
theorem ap_s_it {w : World} {B B' : Nat} {a b : Value} {xs : List ByteArray} {ys : List It} (h : OwnS w B a xs) (k : SlI w B' b ys) : Ap a b := fun n h1 h2 => by
  obtain ⟨_, e1⟩ := own_is_s h h1; obtain ⟨_, e2⟩ := own_is_it k h2; rw [e1] at e2; simp at e2
theorem bx_i_ne {w : World} {B g T : Nat} {a : Value} {xs : List Int} {cs : List Value} (h : OwnI w B a xs) (k : Bx w g T cs) (hT : T ≠ 3) : a.ownBlock ≠ some g := fun h1 => by
  obtain ⟨_, e1⟩ := own_is_i h h1; unfold Bx at k; rw [e1] at k; simp at k; exact hT k.2.symm
theorem bx_s_ne {w : World} {B g T : Nat} {a : Value} {xs : List ByteArray} {cs : List Value} (h : OwnS w B a xs) (k : Bx w g T cs) (hT : T ≠ 9) : a.ownBlock ≠ some g := fun h1 => by
  obtain ⟨_, e1⟩ := own_is_s h h1; unfold Bx at k; rw [e1] at k; simp at k; exact hT k.2.symm
theorem bx_it_ne {w : World} {B g T : Nat} {a : Value} {xs : List It} {cs : List Value} (h : SlI w B a xs) (k : Bx w g T cs) (hT : T ≠ 38) : a.ownBlock ≠ some g := fun h1 => by
  obtain ⟨_, e1⟩ := own_is_it h h1; unfold Bx at k; rw [e1] at k; simp at k; exact hT k.2.symm

/-- a member's lists are its own, each apart. -/
structure MtO (w : World) (B : Nat) (m : Mt) (v : Mv) : Prop where
  ms : OwnI w B v.ms.v m.ms
  its : SlI w B v.its.v m.its
  lv : OwnI w B v.lv.v m.lv
  tx : OwnS w B v.tx.v m.tx
  ws : OwnI w B v.ws.v m.la.ws
  a1 : Ap v.ms.v v.lv.v
  a2 : Ap v.ms.v v.ws.v
  a3 : Ap v.lv.v v.ws.v
/-- the blocks of a member's lists. -/
def Mv.own (v : Mv) (k : Nat) : Prop := v.ms.v.ownBlock = some k ∨ v.its.v.ownBlock = some k ∨ v.lv.v.ownBlock = some k ∨ v.tx.v.ownBlock = some k ∨ v.ws.v.ownBlock = some k
section
variable {w w' : World} {B : Nat} {m : Mt} {v : Mv}
theorem MtO.r (h : MtO w B m v) : MtR w m v := ⟨h.ms.ri, h.its.rit, h.lv.ri, h.tx.rt, h.ws.ri⟩
theorem MtO.lt (h : MtO w B m v) {k : Nat} (hk : v.own k) : B ≤ k ∧ k < w.heap.size := by
  rcases hk with h1 | h1 | h1 | h1 | h1
  · exact h.ms.lt k h1
  · exact h.its.lt k h1
  · exact h.lv.lt k h1
  · exact h.tx.lt k h1
  · exact h.ws.lt k h1
theorem Pl.OwnS.keep' {w w' : World} {B : Nat} {v : Value} {ss : List ByteArray} (h : OwnS w B v ss) (hk : ∀ k, v.ownBlock = Option.some k → k < w.heap.size → w'.heap[k]? = w.heap[k]?) : OwnS w' B v ss := by
  refine ⟨h.1, ?_⟩
  rcases h.2 with hn | ⟨g, cap, cur, rfl, hbg, hg, rest⟩
  · exact .inl hn
  · exact .inr ⟨g, cap, cur, rfl, hbg, (hk g rfl (Array.getElem?_eq_some_iff.1 hg).1).trans hg, rest⟩
theorem MtO.keep (h : MtO w B m v) (hk : ∀ k, v.own k → k < w.heap.size → w'.heap[k]? = w.heap[k]?) : MtO w' B m v :=
  ⟨h.ms.keep fun k a b => hk k (.inl a) b, h.its.keep fun k a b => hk k (.inr (.inl a)) b, h.lv.keep fun k a b => hk k (.inr (.inr (.inl a))) b, h.tx.keep' fun k a b => hk k (.inr (.inr (.inr (.inl a)))) b, h.ws.keep fun k a b => hk k (.inr (.inr (.inr (.inr a)))) b, h.a1, h.a2, h.a3⟩
theorem MtO.later (h : MtO w B m v) (hb : Below w.heap.size w w') : MtO w' B m v := h.keep fun k _ hk => hb.block k hk
theorem MtO.down {B' : Nat} (h : MtO w B m v) (hB : B' ≤ B) : MtO w B' m v := ⟨h.ms.down hB, h.its.down hB, h.lv.down hB, h.tx.down hB, h.ws.down hB, h.a1, h.a2, h.a3⟩
end

/-- the block g is a member. -/
def MtB (w : World) (g T : Nat) (m : Mt) (v : Mv) : Prop := Bx w g T [.int .i64 m.id, .int .i64 m.rid, .slice v.ms.a v.ms.n v.ms.c, .slice v.its.a v.its.n v.its.c, .slice v.lv.a v.lv.n v.lv.c, .slice v.tx.a v.tx.n v.tx.c, .int .i64 m.rd, .int .i64 m.se, .int .i64 m.li, .int .i64 m.he, .int .i64 m.la.c, .int .i64 m.la.r, .int .i64 m.la.q, .int .i64 m.la.a, .int .i64 m.la.b, .slice v.ws.a v.ws.n v.ws.c]
theorem MtB.cells {w : World} {g T : Nat} {m : Mt} {v : Mv} (h : MtB w g T m v) :
    (w.cell? ⟨g, 0, none⟩ = some (.int .i64 m.id) ∧ w.cell? ⟨g, 1, none⟩ = some (.int .i64 m.rid) ∧ w.cell? ⟨g, 2, none⟩ = some (.slice v.ms.a v.ms.n v.ms.c) ∧ w.cell? ⟨g, 3, none⟩ = some (.slice v.its.a v.its.n v.its.c) ∧ w.cell? ⟨g, 4, none⟩ = some (.slice v.lv.a v.lv.n v.lv.c) ∧ w.cell? ⟨g, 5, none⟩ = some (.slice v.tx.a v.tx.n v.tx.c)) ∧
    (w.cell? ⟨g, 6, none⟩ = some (.int .i64 m.rd) ∧ w.cell? ⟨g, 7, none⟩ = some (.int .i64 m.se) ∧ w.cell? ⟨g, 8, none⟩ = some (.int .i64 m.li) ∧ w.cell? ⟨g, 9, none⟩ = some (.int .i64 m.he)) ∧
    (w.cell? ⟨g, 10, none⟩ = some (.int .i64 m.la.c) ∧ w.cell? ⟨g, 11, none⟩ = some (.int .i64 m.la.r) ∧ w.cell? ⟨g, 12, none⟩ = some (.int .i64 m.la.q) ∧ w.cell? ⟨g, 13, none⟩ = some (.int .i64 m.la.a) ∧ w.cell? ⟨g, 14, none⟩ = some (.int .i64 m.la.b) ∧ w.cell? ⟨g, 15, none⟩ = some (.slice v.ws.a v.ws.n v.ws.c)) :=
  ⟨⟨Bx.cell h 0, Bx.cell h 1, Bx.cell h 2, Bx.cell h 3, Bx.cell h 4, Bx.cell h 5⟩, ⟨Bx.cell h 6, Bx.cell h 7, Bx.cell h 8, Bx.cell h 9⟩, Bx.cell h 10, Bx.cell h 11, Bx.cell h 12, Bx.cell h 13, Bx.cell h 14, Bx.cell h 15⟩
end Go.Proofs.Ytpbhcbgohgfkcaa

