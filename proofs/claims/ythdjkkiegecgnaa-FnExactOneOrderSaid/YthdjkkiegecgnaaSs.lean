/- Lists of lists of items: measured, copied, compared, written over. -/
import Derived.Test.YthdjkkiegecgnaaMk
import Derived.Test.YthdjkkiegecgnaaEs
import Derived.Test.YthdjkkiegecgnaaOp
namespace Go.Proofs.Ythdjkkiegecgnaa
open Go.RowKit Pl
set_option linter.unusedVariables false

/-- of what was there the blocks of S alone may have turned. -/
structure Gr (S : Nat → Prop) (w w' : World) : Prop where
  os : w'.os = w.os
  tape : w'.tape = w.tape
  output : w'.output = w.output
  size : w.heap.size ≤ w'.heap.size
  block : ∀ k, k < w.heap.size → ¬ S k → w'.heap[k]? = w.heap[k]?
theorem Gr.refl (S : Nat → Prop) (w : World) : Gr S w w := ⟨rfl, rfl, rfl, Nat.le_refl _, fun _ _ _ => rfl⟩
theorem Gr.trans {S : Nat → Prop} {a b c : World} (h : Gr S a b) (k : Gr S b c) : Gr S a c :=
  ⟨k.os.trans h.os, k.tape.trans h.tape, k.output.trans h.output, Nat.le_trans h.size k.size, fun i hi hs => (k.block i (Nat.lt_of_lt_of_le hi h.size) hs).trans (h.block i hi hs)⟩
theorem Gr.ofGrown {S : Nat → Prop} {a b : World} {row : Option Nat} (h : a.grownBy b row) (hs : ∀ k, row = some k → S k) : Gr S a b := ⟨h.os, h.tape, h.output, h.size, fun k hk hn => h.block k hk (fun he => hn (hs k he.symm))⟩
theorem Gr.below {S : Nat → Prop} {a b : World} {B : Nat} (h : Gr S a b) (hs : ∀ k, S k → B ≤ k) (hB : B ≤ a.heap.size) : Below B a b := ⟨h.os, h.tape, h.output, h.size, fun k hk => h.block k (by omega) (fun h1 => by have := hs k h1; omega)⟩
/-- a row of n lists of items of the call's own, whose first k are these; they lie behind the row, below E, and apart. -/
def RowSs (w : World) (g E n : Nat) (ls : List (List It)) (k : Nat) : Prop :=
  ∃ (arr : Array Value) (vs : Nat → Value), w.heap[g]? = some (.cells arr 27 (0, 0)) ∧ arr.size = n ∧
    (∀ i (h : i < ls.length), i < k → arr[i]? = some (vs i) ∧ SlI w (g + 1) (vs i) ls[i] ∧ ∀ b, (vs i).ownBlock = some b → b < E) ∧
    ∀ i j b, i < j → j < k → (vs i).ownBlock = some b → (vs j).ownBlock ≠ some b
theorem RowSs.lt {w : World} {g E n k : Nat} {ls : List (List It)} (h : RowSs w g E n ls k) : g < w.heap.size := by
  obtain ⟨arr, vs, h1, _⟩ := h
  exact (Array.getElem?_eq_some_iff.1 h1).1
theorem RowSs.gr {S : Nat → Prop} {w w' : World} {g E n k : Nat} {ls : List (List It)} (h : RowSs w g E n ls k) (hg : Gr S w w') (hn : ∀ b, g ≤ b → b < E → ¬ S b) (hE : g < E) : RowSs w' g E n ls k := by
  have hl := h.lt
  obtain ⟨arr, vs, h1, h2, h3, h4⟩ := h
  refine ⟨arr, vs, (hg.block g hl (hn g (Nat.le_refl _) hE)).trans h1, h2, fun i hi hk => ?_, h4⟩
  obtain ⟨x1, x2, x3⟩ := h3 i hi hk
  exact ⟨x1, x2.keep (fun b hb hlt => hg.block b hlt (hn b (by have := (x2.lt b hb).1; omega) (x3 b hb))), x3⟩
theorem RowSs.below {w w' : World} {g E n k : Nat} {ls : List (List It)} (h : RowSs w g E n ls k) (hb : Below w.heap.size w w') : RowSs w' g E n ls k := by
  have hl := h.lt
  obtain ⟨arr, vs, h1, h2, h3, h4⟩ := h
  refine ⟨arr, vs, (hb.block g hl).trans h1, h2, fun i hi hk => ?_, h4⟩
  obtain ⟨x1, x2, x3⟩ := h3 i hi hk
  exact ⟨x1, x2.below hb, x3⟩
theorem RowSs.drewN {w : World} {g E n k : Nat} {ls : List (List It)} (h : RowSs w g E n ls k) (m : Nat) : RowSs (w.drewN m) g E n ls k := by
  obtain ⟨arr, vs, h1, h2, h3, h4⟩ := h
  refine ⟨arr, vs, by rw [World.heap_drewN]; exact h1, h2, fun i hi hk => ?_, h4⟩
  obtain ⟨x1, x2, x3⟩ := h3 i hi hk
  exact ⟨x1, x2.drewN m, x3⟩
theorem RowSs.frozen {w : World} {g E n k : Nat} {ls : List (List It)} (h : RowSs w g E n ls k) (i : Nat) : w.frozen? ⟨g, i, none⟩ = false := by
  obtain ⟨arr, vs, h1, _⟩ := h
  exact frozen_of_row w g i _ 27 h1
theorem RowSs.cell {w : World} {g E n k : Nat} {ls : List (List It)} (h : RowSs w g E n ls k) (i : Nat) (hi : i < n) : ∃ v, w.cell? ⟨g, i, none⟩ = some v := by
  obtain ⟨arr, vs, h1, h2, _⟩ := h
  refine ⟨arr[i]'(by omega), ?_⟩
  rw [cell_of_row w g i _ 27 (0, 0) h1]
  simp [h2, hi]
theorem RowSs.read {w : World} {g E n k : Nat} {ls : List (List It)} (h : RowSs w g E n ls k) (i : Nat) (hi : i < ls.length) (hk : i < k) : ∃ v, w.cell? ⟨g, i, none⟩ = some v ∧ SlI w (g + 1) v ls[i] := by
  obtain ⟨arr, vs, h1, h2, h3, _⟩ := h
  obtain ⟨x1, x2, _⟩ := h3 i hi hk
  exact ⟨vs i, by rw [cell_of_row w g i _ 27 (0, 0) h1]; exact x1, x2⟩
theorem RowSs.set {w : World} {g E E' n k : Nat} {ls : List (List It)} (h : RowSs w g E n ls k) (hk : k < ls.length) (hn : ls.length = n) {v : Value} (hv : SlI w (g + 1) v ls[k]) (h0 : ∀ b, v.ownBlock = some b → E ≤ b ∧ b < E') (hE : E ≤ E') :
    RowSs (w.setCell ⟨g, k, none⟩ v) g E' n ls (k + 1) := by
  obtain ⟨arr, vs, h1, h2, h3, h4⟩ := h
  refine ⟨_, fun i => if i = k then v else vs i, heap_setCell_same w g k _ 27 v h1, by simp [h2], fun i hi hik => ?_, fun i j b hij hj hb => ?_⟩
  · by_cases e : i = k
    · subst e
      simp only [↓reduceIte]
      refine ⟨by simp [Array.getElem?_setIfInBounds, h2]; omega, hv.keep (fun b hb hlt => ?_), fun b hb => (h0 b hb).2⟩
      exact Below.heap_setCell w ⟨g, i, none⟩ v b (fun he => by have := (hv.lt b hb).1; simp at he; omega)
    · simp only [if_neg e]
      obtain ⟨x1, x2, x3⟩ := h3 i hi (by omega)
      refine ⟨by rw [Array.getElem?_setIfInBounds_ne (by omega)]; exact x1, x2.keep (fun b hb hlt => ?_), fun b hb => Nat.lt_of_lt_of_le (x3 b hb) hE⟩
      exact Below.heap_setCell w ⟨g, k, none⟩ v b (fun he => by have := (x2.lt b hb).1; simp at he; omega)
  · dsimp only at hb ⊢
    rw [if_neg (show ¬ i = k by omega)] at hb
    by_cases e : j = k
    · rw [if_pos e]
      intro hv2
      have := (h0 b hv2).1
      have := (h3 i (by omega) (by omega)).2.2 b hb
      omega
    · rw [if_neg e]
      exact h4 i j b hij (by omega) hb
theorem RowSs.ls {w : World} {g E n : Nat} {ls : List (List It)} (h : RowSs w g E n ls n) (hn : ls.length = n) (hm : ∀ l ∈ ls, l.length ≤ 1048576 ∧ ∀ y ∈ l, y.2.2.2.size ≤ 1048576) : IsAt w (some ⟨g, 0, none⟩) ls := by
  have hl := h.lt
  intro i hi
  obtain ⟨v, h1, h2⟩ := h.read i hi (by omega)
  obtain ⟨ao, cap, rfl, h3⟩ := h2.items
  obtain ⟨m1, m2⟩ := hm _ (List.getElem_mem hi)
  exact ⟨g, 0, ao, cap, rfl, hl, by rw [Nat.zero_add]; exact h1, h3, by unfold maxLen; omega, fun y hy => by have := m2 y hy; unfold maxLen; omega⟩
/-- one of them written over. -/
theorem RowSs.turn {w w' : World} {g E n k : Nat} {ls : List (List It)} {xs : List It} {v : Value} (h : RowSs w g E n ls n) (hn : ls.length = n) (hk : k < n) (hc : w.cell? ⟨g, k, none⟩ = some v) (hg : w.grownBy w' v.ownBlock) (hv : SlI w' (g + 1) v xs) : RowSs w' g E n (ls.set k xs) n := by
  have hl := h.lt
  obtain ⟨arr, vs, h1, h2, h3, h4⟩ := h
  have hvk : v = vs k := by
    have x1 := (h3 k (by omega) hk).1
    rw [cell_of_row w g k _ 27 (0, 0) h1, x1] at hc
    simpa using hc.symm
  subst hvk
  have hgn : some g ≠ (vs k).ownBlock := fun he => by have := ((h3 k (by omega) hk).2.1.lt g he.symm).1; omega
  refine ⟨arr, vs, (hg.block g hl hgn).trans h1, h2, fun i hi hik => ?_, h4⟩
  rw [List.length_set] at hi
  obtain ⟨x1, x2, x3⟩ := h3 i hi hik
  refine ⟨x1, ?_, x3⟩
  by_cases e : k = i
  · subst e
    rw [List.getElem_set_self]
    exact hv
  · rw [List.getElem_set_ne e]
    refine x2.kept hg (fun b hb he => ?_)
    rcases Nat.lt_or_ge i k with hlt | hge
    · exact h4 i k b hlt hk hb he.symm
    · exact h4 k i b (by omega) hik he.symm hb
theorem Try.infoIs : (Try.prog.info? 27).map (fun i => (i.zero, i.size, i.bytes)) = some (some (.slice none 0 0), 1, 24) := by kernel_rfl
/-- how many there are in all. -/
def tot (ls : List (List It)) : Nat := (ls.map List.length).sum
theorem tot_step {ls : List (List It)} {k : Nat} (hk : k < ls.length) : tot (ls.take (k + 1)) = tot (ls.take k) + ls[k].length := by
  unfold tot
  rw [List.take_succ_eq_append_getElem hk, List.map_append, List.sum_append]
  simp
theorem tot_take (ls : List (List It)) (k : Nat) : tot (ls.take k) ≤ tot ls := by
  have e : tot ls = tot (ls.take k) + tot (ls.drop k) := by
    unfold tot
    rw [← List.sum_append, ← List.map_append, List.take_append_drop]
  omega
theorem tot_mem {ls : List (List It)} {l : List It} (h : l ∈ ls) : l.length ≤ tot ls := by
  obtain ⟨i, hi, rfl⟩ := List.mem_iff_getElem.1 h
  have h1 := tot_step hi
  have h2 := tot_take ls (i + 1)
  omega

set_option maxRecDepth 100000 in
set_option maxHeartbeats 1000000 in
theorem szSs_any (ao : Option Addr) (cap : Nat) (ls : List (List It)) (w : World) (hx : Hid (IsAt w ao ls)) (hl : ls.length ≤ 9223372036854775807) :
    Calls Try.prog 35 #[.slice ao ls.length cap, .int .i64 1048576] w fun e w' => (e = .returned (.int .i64 (-1)) ∨ (∃ z : Nat, e = .returned (.int .i64 z) ∧ ls.length + tot ls ≤ 1048576 ∧ ∀ l ∈ ls, ∀ y ∈ l, y.2.2.2.size ≤ 1048576)) ∧ Below w.heap.size w w' := by
  by_cases h1 : 1048576 < ls.length
  · have hd : decide ((1048576 : Int) - (ls.length : Int) < 0) = true := by simp; omega
    go_enter Try.func35, Try.ntmps35
    go_wp2
    go_ret
    exact ⟨.inl rfl, Below.refl _ _⟩
  · have hd : decide ((1048576 : Int) - (ls.length : Int) < 0) = false := by simp; omega
    obtain ⟨z, hzz⟩ : ∃ z : Nat, (1048576 : Int) - (ls.length : Int) = (z : Int) := ⟨1048576 - ls.length, by omega⟩
    rw [hzz] at hd
    have hz1 : z + ls.length = 1048576 := by omega
    go_enter Try.func35, Try.ntmps35
    go_wp2_with fail
    clear hzz hd h1
    go_loopw [1, 5] (fun lf i wr => ∃ (k z : Nat), k ≤ ls.length ∧ i = .int .i64 k ∧ lf = .int .i64 z ∧ z + tot (ls.take k) + ls.length ≤ 1048576 ∧ Hid (∀ i (h : i < ls.length), i < k → ∀ y ∈ ls[i], y.2.2.2.size ≤ 1048576) ∧ Hid (Below w.heap.size w wr)) (fun _ i _ => ls.length - (intOf i).toNat)
    case atStart => exact ⟨0, z, Nat.zero_le _, rfl, rfl, (by show z + 0 + ls.length ≤ _; omega), (fun i _ h => absurd h (by omega)), Below.refl _ _⟩
    case round =>
      obtain ⟨k, z, hk, rfl, rfl, hz1, hall, hb⟩ := hrel
      by_cases hlt : k < ls.length
      · obtain ⟨b, off, ia, ic, rfl, hbb, hc, hit, hm, hms⟩ := hx.out.stays hb.out k hlt
        have hts := tot_step hlt
        obtain ⟨l, hn⟩ : ∃ l, l = ls[k] := ⟨_, rfl⟩
        rw [← hn] at hc hm hit hms hts
        have HN : Hid (l = ls[k]) := hn
        have HI : Hid (ItemsAt wr ia l) := hit
        have HM : Hid (∀ x ∈ l, x.2.2.2.size ≤ 9223372036854775807) := fun x hx => by have := hms x hx; unfold maxLen at this; exact this
        have hlm : l.length ≤ 9223372036854775807 := by unfold maxLen at hm; exact hm
        clear hn hit hms hm
        have i0 : (0 : Int) ≤ (k : Int) := by omega
        have i1 : (k : Int) < (ls.length : Int) := by omega
        go_wp2_with fail
        refine (szItems_left z (by omega) ia ic l wr HI hlm HM).mono ?_
        rintro e w1 ⟨rfl | ⟨z2, rfl, hz2, hs2⟩, hb1⟩
        · have B1 : Hid (Below w.heap.size w w1) := hb.out.trans (hb1.mono hb.out.size)
          clear hb1
          go_wp2_with fail
          go_ret
          exact ⟨.inl rfl, B1.out⟩
        · have B1 : Hid (Below w.heap.size w w1) := hb.out.trans (hb1.mono hb.out.size)
          have HS2 : Hid (∀ x ∈ l, x.2.2.2.size ≤ 1048576) := hs2
          clear hb1 hs2
          have hz3 : decide ((z2 : Int) < 0) = false := by simp
          go_wp2_with fail
          go_roundw
          case rel => exact ⟨k + 1, z2, by omega, by go_num, rfl, (by rw [hts]; omega), (fun i hi hik => by
            by_cases e : i = k
            · subst e; rw [← HN.out]; exact HS2.out
            · exact hall.out i hi (by omega)), B1⟩
          case measure => simp [intOf]; omega
      · obtain rfl : k = ls.length := by omega
        go_wp2_with fail
        go_ret
        exact ⟨.inr ⟨z, rfl, (by rw [List.take_length] at hz1; omega), fun l hm => by obtain ⟨i, hi, rfl⟩ := List.mem_iff_getElem.1 hm; exact hall.out i hi hi⟩, hb.out⟩

set_option maxRecDepth 100000 in
set_option maxHeartbeats 1000000 in
theorem toSs_any (w : World) (ao : Option Addr) (cap : Nat) (ls : List (List It)) (hx : Hid (IsAt w ao ls)) (hl : ls.length ≤ 1048576) (hm : Hid (∀ l ∈ ls, l.length ≤ 1048576)) :
    Calls Try.prog 37 #[.slice ao ls.length cap] w fun e w' => e = .returned (.slice (some ⟨w.heap.size, 0, none⟩) ls.length ls.length) ∧ RowSs w' w.heap.size w'.heap.size ls.length ls ls.length ∧ Below w.heap.size w w' := by
  obtain ⟨i0, hi, hz0, hz1, hz2⟩ := info_parts Try.infoIs
  obtain ⟨A, hA, hAs⟩ : ∃ A : Array Value, A = madeCells (Value.slice none 0 0).cells ls.length ∧ A.size = ls.length := ⟨_, rfl, size_madeCells _ _⟩
  have hmk : ∀ W : World, (Instr.makeSlice 63 (.int .i64 (ls.length : Int)) (.int .i64 (ls.length : Int))).run Try.prog W = .ok (.slice (some ⟨W.heap.size, 0, none⟩) ls.length ls.length) (W.alloc (.cells A 27)) := fun W => by
    have h := run_make (P := Try.prog) W 63 27 i0 _ Try.underlying63 hi hz0 .i64 .i64 (ls.length : Int) (ls.length : Int) (by omega) (by omega) (by rw [hz2]; omega) (by omega)
    rw [hz1, Int.toNat_natCast, Nat.mul_one, ← hA] at h
    simpa using h
  clear hA
  have H0 : Hid (RowSs (w.alloc (.cells A 27)) w.heap.size (w.alloc (.cells A 27)).heap.size ls.length ls 0) := ⟨A, fun _ => .slice none 0 0, heap_alloc_new w _, hAs, fun i _ h => absurd h (by omega), fun i j b _ h => absurd h (by omega)⟩
  clear hAs
  go_enter Try.func37, Try.ntmps37
  go_wp2_with fail
  go_loopw [4] (fun i wr => ∃ (k : Nat), k ≤ ls.length ∧ i = .int .i64 k ∧ Hid (RowSs wr w.heap.size wr.heap.size ls.length ls k) ∧ Hid (Below w.heap.size w wr)) (fun i _ => ls.length - (intOf i).toNat)
  case atStart => exact ⟨0, by omega, rfl, H0.out, (Below.refl _ _).alloc (Nat.le_refl _) _⟩
  case round =>
    obtain ⟨k, hk, rfl, hrow, hb⟩ := hrel
    clear H0 hmk hi hz0 hz1 hz2
    by_cases hlt : k < ls.length
    · obtain ⟨b, off, ia, ic, rfl, hbb, hc, hia, _, _⟩ := hx.out.stays hb.out k hlt
      have hlm : ls[k].length ≤ 1048576 := hm.out _ (List.getElem_mem hlt)
      obtain ⟨l, hll⟩ : ∃ l, l = ls[k] := ⟨_, rfl⟩
      rw [← hll] at hc hia hlm
      have HL : Hid (l = ls[k]) := hll
      clear hll
      have HI : Hid (ItemsAt wr ia l) := hia
      have i0 : (0 : Int) ≤ (k : Int) := by omega
      have i1 : (k : Int) < (ls.length : Int) := by omega
      clear hia
      go_wp2_with fail
      refine (toItems_sl wr ia ic l HI hlm).mono ?_
      rintro e w1 ⟨rfl, O1, _, hb1⟩
      have R1 : Hid (RowSs w1 w.heap.size wr.heap.size ls.length ls k) := hrow.out.below hb1
      have B1 : Hid (Below w.heap.size w w1) := hb.out.trans (hb1.mono hb.out.size)
      have O1 : Hid (SlI w1 wr.heap.size (.slice (some ⟨wr.heap.size, 0, none⟩) l.length l.length) l) := O1
      have HS1 : Hid (wr.heap.size ≤ w1.heap.size) := hb1.size
      have HS0 : Hid (w.heap.size < wr.heap.size) := hrow.out.lt
      obtain ⟨v0, z0⟩ := R1.out.cell k hlt
      have f0 := R1.out.frozen k
      clear hb1 hc hrow hb
      go_wp2_with fail
      go_roundw
      case rel =>
        have := R1.out.set (E' := w1.heap.size) hlt rfl (v := .slice (some ⟨wr.heap.size, 0, none⟩) l.length l.length) (by rw [← HL.out]; exact O1.out.down HS0.out) (fun b hb => O1.out.lt b hb) HS1.out
        exact ⟨k + 1, by omega, by go_num, (by show RowSs _ _ _ _ _ _; simpa [World.setCell] using this), (B1.out.setCell (Nat.le_refl _) _ : Below _ _ _)⟩
      case measure => simp [intOf]; omega
    · obtain rfl : k = ls.length := by omega
      go_wp2_with fail
      go_ret
      exact ⟨rfl, hrow.out, hb.out⟩

set_option maxRecDepth 100000 in
set_option maxHeartbeats 2000000 in
theorem markSs_any (g E n : Nat) (ls : List (List It)) (w : World) (h1 : Hid (RowSs w g E n ls n)) (hn : Hid (ls.length = n)) (hl : n ≤ 1048576) (hm : tot ls ≤ 1048576) :
    Calls Try.prog 92 #[.slice (some ⟨g, 0, none⟩) n n, .int .i64 1] w fun e w' => (∃ z : Nat, e = .returned (.int .i64 z)) ∧ Gr (fun k => g < k ∧ k < E) w w' := by
  go_enter Try.func92, Try.ntmps92
  go_wp2_with fail
  go_loopw [1, 5] (fun kk i wr => ∃ (j : Nat) (xs : List (List It)), j ≤ n ∧ i = .int .i64 j ∧ kk = .int .i64 ((1 + 4 * tot (ls.take j) : Nat) : Int) ∧ Hid (xs.length = n) ∧ Hid (∀ i (h1 : i < xs.length) (h2 : i < ls.length), xs[i].length = ls[i].length) ∧ Hid (RowSs wr g E n xs n) ∧ Hid (Gr (fun k => g < k ∧ k < E) w wr)) (fun _ i _ => n - (intOf i).toNat)
  case atStart => exact ⟨0, ls, by omega, rfl, rfl, hn, (fun i _ _ => rfl : ∀ i (h1 : i < ls.length) (h2 : i < ls.length), ls[i].length = ls[i].length), h1, Gr.refl _ _⟩
  case round =>
    obtain ⟨j, xs, hj, rfl, rfl, hxl, hxm, hrow, hgr⟩ := hrel
    by_cases hlt : j < n
    · have hkl : j < xs.length := by rw [hxl.out]; exact hlt
      have hkl2 : j < ls.length := by rw [hn.out]; exact hlt
      obtain ⟨v1, c1, O1⟩ := hrow.out.read j hkl hlt
      have hts := tot_step hkl2
      have htt := tot_take ls (j + 1)
      rw [← hxm.out j hkl hkl2] at hts
      obtain ⟨l, hll⟩ : ∃ l, l = xs[j] := ⟨_, rfl⟩
      rw [← hll] at O1 hts
      have HLL : Hid (l = xs[j]) := hll
      have O1 : Hid (SlI wr (g + 1) v1 l) := O1
      have HC : Hid (wr.cell? ⟨g, j, none⟩ = some v1) := c1
      have HE : Hid (∀ b, v1.ownBlock = some b → g < b ∧ b < E) := fun b hb => by
        have h2 := (O1.out.lt b hb).1
        obtain ⟨arr, vs, r1, r2, r3, _⟩ := hrow.out
        obtain ⟨x1, _, x3⟩ := r3 j hkl hlt
        rw [cell_of_row wr g j _ 27 (0, 0) r1, x1] at c1
        have e : vs j = v1 := by simpa using c1
        rw [e] at x3
        exact ⟨by omega, x3 b hb⟩
      have i0 : (0 : Int) ≤ (j : Int) := by omega
      have i1 : (j : Int) < (n : Int) := by omega
      obtain ⟨K', hK'⟩ : ∃ K', K' = 1 + 4 * tot (ls.take j) := ⟨_, rfl⟩
      rw [← hK']
      have HK : Hid (K' + 4 * l.length = 1 + 4 * tot (ls.take (j + 1))) := by show _ = _; omega
      have hKB : K' + 4 * l.length ≤ 4999990 := by omega
      have hK0 : 0 < K' := by omega
      clear hll hts htt hK'
      go_wp2_with fail
      refine (markItems_any v1 l (g + 1) K' wr O1 hKB hK0).mono ?_
      rintro e w2 ⟨rfl, O2, G2⟩
      have R2 : Hid (RowSs w2 g E n (xs.set j (mkI K' l.length)) n) := hrow.out.turn hxl.out hlt HC.out G2 O2
      have HG : Hid (Gr (fun k => g < k ∧ k < E) w w2) := hgr.out.trans (Gr.ofGrown G2 HE.out)
      rw [HK.out]
      clear c1 G2 O2
      go_wp2_with fail
      go_roundw
      case rel =>
        refine ⟨j + 1, xs.set j (mkI K' l.length), by omega, by go_num, rfl, (by show _ = _; rw [List.length_set]; exact hxl.out), (fun i h1 h2 => ?_), R2, HG⟩
        rw [List.length_set] at h1
        by_cases e : j = i
        · subst e
          rw [List.getElem_set_self, mkI_length, HLL.out]
          exact hxm.out j h1 h2
        · rw [List.getElem_set_ne e]
          exact hxm.out i h1 h2
      case measure => simp [intOf]; omega
    · go_wp2_with fail
      go_ret
      exact ⟨⟨_, rfl⟩, hgr.out⟩
end Go.Proofs.Ythdjkkiegecgnaa
