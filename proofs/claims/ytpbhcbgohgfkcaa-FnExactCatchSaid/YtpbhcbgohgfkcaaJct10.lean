/- Joined texts: Ia Bs Pu Pu2 Rl1. -/
import Derived.Test.YtpbhcbgohgfkcaaJct1
import Derived.Test.YtpbhcbgohgfkcaaJct2
import Derived.Test.YtpbhcbgohgfkcaaJct3
import Derived.Test.YtpbhcbgohgfkcaaJct4
import Derived.Test.YtpbhcbgohgfkcaaJct5
import Derived.Test.YtpbhcbgohgfkcaaJct6
import Derived.Test.YtpbhcbgohgfkcaaJct7
import Derived.Test.YtpbhcbgohgfkcaaJct8
import Derived.Test.YtpbhcbgohgfkcaaJct9
import Derived.Deep.RegionHeld3
/- Something put into a slice of items, wherever: slices.Insert. -/
namespace Go.Proofs.Ytpbhcbgohgfkcaa
open Go.RowKit Pl
set_option linter.unusedVariables false

theorem setCells_all : ∀ (vs : List Value) (w : World) (g o : Nat) (cur : Array Value) (e : TypeId), w.heap[g]? = some (.cells cur e (0, 0)) → o + vs.length ≤ cur.size →
    ∃ cur' : Array Value, (w.setCells g o vs).heap[g]? = some (.cells cur' e (0, 0)) ∧ cur'.size = cur.size ∧ ∀ j, cur'[j]? = if o ≤ j ∧ j < o + vs.length then vs[j - o]? else cur[j]? := by
  intro vs
  induction vs with
  | nil => intro w g o cur e hg _; exact ⟨cur, hg, rfl, fun j => by rw [if_neg (by simp only [List.length_nil]; omega)]⟩
  | cons x vs ih =>
    intro w g o cur e hg hs
    simp only [List.length_cons] at hs
    have h1 := heap_setCell_same w g o _ e x hg
    obtain ⟨cur', h2, h3, h4⟩ := ih (w.setCell ⟨g, o, none⟩ x) g (o + 1) _ e h1 (by simp; omega)
    refine ⟨cur', h2, by rw [h3]; simp, fun j => ?_⟩
    rw [h4, Array.getElem?_setIfInBounds]
    by_cases hj : j = o
    · subst hj
      have hjs : j < cur.size := by omega
      rw [if_neg (by omega), if_pos (by simp)]
      simp [hjs]
    · by_cases hj2 : o + 1 ≤ j ∧ j < o + 1 + vs.length
      · rw [if_pos hj2, if_pos (by simp only [List.length_cons]; omega), show j - o = (j - (o + 1)) + 1 by omega, List.getElem?_cons_succ]
      · rw [if_neg hj2, if_neg (fun h => hj h.symm), if_neg (by simp only [List.length_cons]; omega)]

theorem wpList_appendT {P : Program} {w : World} {e : TypeId} {size B n : Nat} {v : Value} {xs : List Value} {ops : Array Oper} {rest : List Oper} {o : Oper} {a : Act} {Q : Exit → Act → World → Prop} (hgd : o.guard = none) (s x : Operand) (t tx : TypeId)
    (ho : o.op = .call { callee := .builtin .append, args := #[s, x], argTypes := #[t, tx] }) (z : Value) (bytes : Nat) (ht : P.underlying t = some (.slice e)) (hinfo : (P.info? e).map (fun i => (i.zero, i.size, i.bytes)) = some (some z, size, bytes))
    (hzs : z.cells.size = size) (hs : a.eval s = v) (h : Sl w e size B v n xs) (u : Value) (m : Nat) (news : List Value) (hx : a.eval x = u) (hsrc : Src P size tx u m news w)
    (h63 : n + m ≤ maxLen) (hbytes : (n + m) * bytes ≤ 140737488355328) (hB : B ≤ w.heap.size)
    (hh : ∀ v' w', Sl w' e size B v' (n + m) (xs ++ news) → w.grownBy w' v.ownBlock → (v'.ownBlock = v.ownBlock ∨ v'.ownBlock = some w.heap.size) → wpList P ops Q rest (a.put o.dst v') w') : wpList P ops Q (o :: rest) a w := by
  refine wpList_plain hgd fun _ hK => ?_
  obtain ⟨i0, hi, hz0, hz1, hz2⟩ := info_parts hinfo
  obtain ⟨v', w', hr, h2, h3, h4⟩ := run_appendS (P := P) t tx o.type i0 z bytes ht hi hz0 hz1 hz2 hzs h u m news hsrc h63 hbytes hB
  unfold Oper.wp execOp
  simp only [ho, resolve, invoke, builtin, Sem.run_bind, Sem.run_pure, Result.andThen_ok, List.map_toArray, List.map_cons, List.map_nil, hs, hx, hr]
  exact hK _ _ (hh v' w' h2 h3 h4)

theorem ItAt.cellsL {w : World} {g : Nat} {y : It} (h : ItAt w g y.1 y.2.1 y.2.2.1 y.2.2.2) : ∀ j v, (cels [y])[j]? = some v → w.cell? ⟨g, j, none⟩ = some v := by
  intro j v hj
  have hl : j < 4 := (List.getElem?_eq_some_iff.1 hj).1
  obtain ⟨c0, c1, c2, c3⟩ := h.cells
  match j, hl with
  | 0, _ => rw [c0, ← hj]; rfl
  | 1, _ => rw [c1, ← hj]; rfl
  | 2, _ => rw [c2, ← hj]; rfl
  | 3, _ => rw [c3, ← hj]; rfl

/-- what putting in leaves. -/
def InsPost (w : World) (B : Nat) (v : Value) (ls : List It) (e : Ending) (w' : World) : Prop :=
  ∃ v', e = .returned v' ∧ SlI w' B v' ls ∧ w.grownBy w' v.ownBlock ∧ (v'.ownBlock = v.ownBlock ∨ ∃ nb, v'.ownBlock = some nb ∧ w.heap.size ≤ nb)

set_option maxRecDepth 100000 in
set_option maxHeartbeats 1000000 in
theorem insert_end (v : Value) (ts : List It) (y : It) (B vb : Nat) (w : World) (hS : SlI w B v ts) (hy : ItAt w vb y.1 y.2.1 y.2.2.1 y.2.2.2) (hl : ts.length ≤ 1048576) (hB : B ≤ w.heap.size) :
    Calls Try.prog 152 #[v, .int .i64 (ts.length : Int), .slice (some ⟨vb, 0, none⟩) 1 1] w (InsPost w B v (ts ++ [y])) := by
  obtain ⟨ao, cap, rfl⟩ := Sl.form hS
  have hsrc : Src Try.prog 4 27 (.slice (some ⟨vb, 0, none⟩) 1 1) 1 (cels [y]) w := Src.ofSlice w Try.underlying27 ⟨vb, 0, none⟩ 1 1 (cels [y]) rfl (fun j u hj => by rw [Addr.add_lit, Nat.zero_add]; exact hy.cellsL j u hj) cels_one
  have HS : Hid (SlI w B (.slice ao ts.length cap) ts) := hS
  have HSR : Hid (Src Try.prog 4 27 (.slice (some ⟨vb, 0, none⟩) 1 1) 1 (cels [y]) w) := hsrc
  have hcap : ts.length ≤ cap := by
    rcases hS.2 with ⟨hv, hn⟩ | ⟨g, off, cap', cur, hv, hb, hg, hc, _⟩
    · omega
    · simp at hv; omega
  clear hS hsrc hy
  go_enter Try.func152, Try.ntmps152
  by_cases hcc : cap = ts.length
  · go_wp2_with (at_builtin; refine wpList_appendT rfl _ _ 105 27 rfl _ 40 Try.underlying105 Try.infoI rfl rfl HS.out _ 1 (cels [y]) rfl HSR.out (by unfold maxLen; omega) (by omega) hB ?_; intro v2 w2 S2 g2 o2)
    go_ret
    refine ⟨_, rfl, ?_, g2, o2.imp id (fun h => ⟨_, h, Nat.le_refl _⟩)⟩
    unfold SlI
    rw [List.length_append, cels_append]
    exact S2
  · go_wp2_with (at_builtin; refine wpList_appendT rfl _ _ 105 27 rfl _ 40 Try.underlying105 Try.infoI rfl rfl HS.out _ 1 (cels [y]) rfl HSR.out (by unfold maxLen; omega) (by omega) hB ?_; intro v2 w2 S2 g2 o2)
    go_ret
    refine ⟨_, rfl, ?_, g2, o2.imp id (fun h => ⟨_, h, Nat.le_refl _⟩)⟩
    unfold SlI
    rw [List.length_append, cels_append]
    exact S2

theorem take_drop_cels (ts : List It) (y : It) (p : Nat) (hp : p ≤ ts.length) (j : Nat) : (cels (ts.take p ++ y :: ts.drop p))[j]? = if j < p * 4 then (cels ts)[j]? else if j < (p + 1) * 4 then (cels [y])[j - p * 4]? else (cels ts)[j - 4]? := by
  have hl : (cels (ts.take p)).length = p * 4 := by rw [cels_length, List.length_take, Nat.min_eq_left hp]
  rw [cels_append, show y :: ts.drop p = [y] ++ ts.drop p from rfl, cels_append, List.getElem?_append, hl]
  by_cases h1 : j < p * 4
  · rw [if_pos h1, if_pos h1, ← cels_take, List.getElem?_take, if_pos h1]
  · rw [if_neg h1, if_neg h1, List.getElem?_append]
    have hy : (cels [y]).length = 4 := rfl
    rw [hy]
    by_cases h2 : j < (p + 1) * 4
    · rw [if_pos h2, if_pos (by omega)]
    · rw [if_neg h2, if_neg (by omega), ← cels_drop, List.getElem?_drop]
      congr 1
      omega

theorem shift_cells {cur c1 c2 : Array Value} {ts : List It} {y : It} {p off k : Nat} (hp : p ≤ ts.length) (htk : ∀ j, j < p * 4 → cur[k + j]? = (cels ts)[j]?)
    (q3 : ∀ j, c1[j]? = if k + (p + 1) * 4 ≤ j ∧ j < k + (p + 1) * 4 + ((cels ts).drop (p * 4)).length then ((cels ts).drop (p * 4))[j - (k + (p + 1) * 4)]? else cur[j]?)
    (r3 : ∀ j, c2[j]? = if k + p * 4 ≤ j ∧ j < k + p * 4 + (cels [y]).length then (cels [y])[j - (k + p * 4)]? else c1[j]?) (j : Nat) (hj : j < (ts.length + 1) * 4) :
    c2[k + j]? = (cels (ts.take p ++ y :: ts.drop p))[j]? := by
  have hcl := cels_length ts
  have hy4 : (cels [y]).length = 4 := rfl
  rw [r3, q3, take_drop_cels ts y p hp, List.length_drop, hy4]
  by_cases h1 : j < p * 4
  · rw [if_neg (by omega), if_neg (by omega), if_pos h1, htk j h1]
  · rw [if_neg h1]
    by_cases h2 : j < (p + 1) * 4
    · rw [if_pos (by omega), if_pos h2, show k + j - (k + p * 4) = j - p * 4 by omega]
    · rw [if_neg (by omega), if_pos (by omega), if_neg h2, List.getElem?_drop, show p * 4 + (k + j - (k + (p + 1) * 4)) = j - 4 by omega]
theorem grown_tr2 {a b c : World} {row : Option Nat} (h : a.grownBy b row) (k : b.grownBy c row) : a.grownBy c row :=
  ⟨k.os.trans h.os, k.tape.trans h.tape, k.output.trans h.output, Nat.le_trans h.size k.size, fun i hi hn => (k.block i (Nat.lt_of_lt_of_le hi h.size) hn).trans (h.block i hi hn)⟩
theorem grown_drew {a b : World} {row : Option Nat} (h : a.drew.grownBy b row) : a.grownBy b row := ⟨h.os, h.tape, h.output, h.size, fun i hi hn => h.block i hi hn⟩
theorem drew_grown {a b : World} {row : Option Nat} (h : a.grownBy b row) : a.grownBy b.drew row := ⟨h.os, h.tape, h.output, h.size, fun i hi hn => h.block i hi hn⟩

set_option maxHeartbeats 2000000 in
theorem insert_any (v : Value) (ts : List It) (p : Nat) (y : It) (B vb : Nat) (w : World) (hS : SlI w B v ts) (hy : ItAt w vb y.1 y.2.1 y.2.2.1 y.2.2.2) (hne : ∀ k, v.ownBlock = some k → k ≠ vb) (hl : ts.length ≤ 1048576) (hB : B ≤ w.heap.size) (hp : p ≤ ts.length) :
    Calls Try.prog 152 #[v, .int .i64 (p : Int), .slice (some ⟨vb, 0, none⟩) 1 1] w (InsPost w B v (ts.take p ++ y :: ts.drop p)) := by
  by_cases hpe : p = ts.length
  · subst hpe
    rw [List.take_length, List.drop_length]
    exact insert_end v ts y B vb w hS hy hl hB
  have hpl : p < ts.length := by omega
  have hlen : (ts.take p ++ y :: ts.drop p).length = ts.length + 1 := by simp; omega
  rcases hS.2 with ⟨hv, hn⟩ | ⟨g, off, cap, cur, rfl, hb, hg, hc, hm, hcs, htk⟩
  · omega
  have hgl : g < w.heap.size := (Array.getElem?_eq_some_iff.1 hg).1
  have hcl := cels_length ts
  have hcell : ∀ j u, (cels ts)[j]? = some u → w.cell? ⟨g, off + j, none⟩ = some u := fun j u hj => by
    rw [cell_of_row w g _ _ 38 (0, 0) hg, htk j (by rw [← hcl]; exact (List.getElem?_eq_some_iff.1 hj).1), hj]
  have hm' : cap ≤ 9223372036854775807 := by unfold maxLen at hm; omega
  by_cases hroom : ts.length + 1 ≤ cap
  · refine (insert_shift g off ts.length cap p vb (cels ts) (cels [y]) w hpl hroom hm' (fun e => hne g rfl e.symm) hcl rfl hcell
      (fun j hj => by
        rw [cell_of_row w g _ _ 38 (0, 0) hg, Array.getElem?_eq_getElem (by omega)]; rfl)
      (fun j => frozen_of_row w g j _ 38 hg) hy.cellsL cels_one cels_one 38 38 cur.size ?_ ?_ (by omega) (fun j => frozen_of_row w vb j _ 38 hy)).mono ?_
    · simp [World.shape?, show w.heap[vb]? = _ from hy]
    · simp [World.shape?, hg]
    · rintro e w' ⟨rfl, rfl⟩
      obtain ⟨c1, q1, q2, q3⟩ := setCells_all ((cels ts).drop (p * 4)) w.drew g (off + (p + 1) * 4) cur 38 hg (by rw [List.length_drop]; omega)
      obtain ⟨c2, r1, r2, r3⟩ := setCells_all (cels [y]) _ g (off + p * 4) c1 38 q1 (by show off + p * 4 + 4 ≤ _; omega)
      refine ⟨_, rfl, ⟨by rw [cels_length], .inr ⟨g, off, cap, c2, by rw [hlen], hb, r1, by rw [hlen]; omega, hm, by omega, fun j hj => ?_⟩⟩, ?_, .inl rfl⟩
      · rw [hlen] at hj
        exact shift_cells (off := off) hp (fun j hj => htk j (by omega)) q3 r3 j hj
      · exact grown_tr2 (grown_drew (setCells_grown ((cels ts).drop (p * 4)) w.drew g _)) (setCells_grown _ _ _ _)
  · refine (insert_grow g off ts.length cap p vb (cels ts) (cels [y]) w hpl hc (by omega) hl hcl rfl hcell hy.cellsL cels_one cels_one).mono ?_
    rintro e w' ⟨rfl, rfl⟩
    obtain ⟨ROW, hROW⟩ : ∃ ROW : Array Value, ROW = ((cels ts).take (p * 4)).toArray ++ Builtin.zeroCells zc.cells (ts.length + 1 - p) ++ Builtin.zeroCells zc.cells (grownCap w (ts.length + 1) cap 38 - (ts.length + 1)) := ⟨_, rfl⟩
    rw [← hROW]
    have hGn : ts.length + 1 ≤ grownCap w (ts.length + 1) cap 38 := grownCap_ge w _ _ _
    have hG63 : grownCap w (ts.length + 1) cap 38 ≤ maxLen := grownCap_le_maxLen w (ts.length + 1) cap 38 (by unfold maxLen; omega)
    generalize grownCap w (ts.length + 1) cap 38 = G at *
    have hRl : ROW.size = G * 4 := by
      rw [hROW]
      simp only [Array.size_append, List.size_toArray, size_zeroCells, List.length_take]
      have hzz : zc.cells.size = 4 := rfl
      rw [hzz]
      omega
    have hRc : ∀ j, j < p * 4 → ROW[0 + j]? = (cels ts)[j]? := fun j hj => by
      rw [hROW, Nat.zero_add, Array.append_assoc, Array.getElem?_append_left (by simp; omega)]
      simp [hj]
    have h0 : ((w.alloc (.cells ROW 38)).drew).heap[w.heap.size]? = some (.cells ROW 38 (0, 0)) := heap_alloc_new w _
    obtain ⟨c1, q1, q2, q3⟩ := setCells_all (cels [y]) _ w.heap.size (p * 4) ROW 38 h0 (by show p * 4 + 4 ≤ _; omega)
    have q1' : ((((w.alloc (.cells ROW 38)).drew).setCells w.heap.size (p * 4) (cels [y])).drew).heap[w.heap.size]? = some (.cells c1 38 (0, 0)) := q1
    obtain ⟨c2, r1, r2, r3⟩ := setCells_all ((cels ts).drop (p * 4)) _ w.heap.size ((p + 1) * 4) c1 38 q1' (by rw [List.length_drop]; omega)
    refine ⟨_, rfl, ⟨by rw [cels_length], .inr ⟨w.heap.size, 0, G, c2, by rw [hlen], hB, r1, by rw [hlen]; exact hGn, hG63, by omega, fun j hj => ?_⟩⟩, ?_, .inr ⟨_, rfl, Nat.le_refl _⟩⟩
    · rw [hlen] at hj
      rw [Nat.zero_add]
      have hy4 : (cels [y]).length = 4 := rfl
      rw [r3, q3, take_drop_cels ts y p hp, List.length_drop, hy4]
      by_cases h1 : j < p * 4
      · rw [if_neg (by omega), if_neg (by omega), if_pos h1]
        have := hRc j h1
        rwa [Nat.zero_add] at this
      · rw [if_neg h1]
        by_cases h2 : j < (p + 1) * 4
        · rw [if_neg (by omega), if_pos (by omega), if_pos h2]
        · rw [if_pos (by omega), if_neg h2, List.getElem?_drop, show p * 4 + (j - (p + 1) * 4) = j - 4 by omega]
    · have G1 := setCells_grown (cels [y]) (w.alloc (.cells ROW 38)).drew w.heap.size (p * 4)
      have G2 := setCells_grown ((cels ts).drop (p * 4)) (((w.alloc (.cells ROW 38)).drew).setCells w.heap.size (p * 4) (cels [y])).drew w.heap.size ((p + 1) * 4)
      have hsz : (w.alloc (.cells ROW 38)).drew.heap.size = w.heap.size + 1 := by show (w.alloc (.cells ROW 38)).heap.size = _; simp
      have z1 : w.heap.size + 1 ≤ (((w.alloc (.cells ROW 38)).drew).setCells w.heap.size (p * 4) (cels [y])).heap.size := by rw [← hsz]; exact G1.size
      have z2 : w.heap.size + 1 ≤ ((((w.alloc (.cells ROW 38)).drew).setCells w.heap.size (p * 4) (cels [y])).drew.setCells w.heap.size ((p + 1) * 4) ((cels ts).drop (p * 4))).heap.size := Nat.le_trans z1 G2.size
      refine ⟨G2.os.trans G1.os, G2.tape.trans G1.tape, G2.output.trans G1.output, by omega, fun k hk hne => ?_⟩
      have hkn : some k ≠ some w.heap.size := by intro h; simp at h; omega
      refine (G2.block k (Nat.lt_of_lt_of_le (by omega : k < w.heap.size + 1) z1) hkn).trans ?_
      refine (G1.block k (by omega) hkn).trans ?_
      exact heap_alloc_old w _ hk
end Go.Proofs.Ytpbhcbgohgfkcaa

/- The search by halves: the walks over cmp.Compare, the closure and slices.BinarySearchFunc. -/
namespace Go.Proofs.Ytpbhcbgohgfkcaa
open Go.RowKit Pl
set_option linter.unusedVariables false

/-- how two numbers stand. -/
def cmpP (a b : Int) : Int := if a < b then -1 else if b < a then 1 else 0
theorem cmpP_neg {a b : Int} : cmpP a b < 0 ↔ a < b := by
  unfold cmpP
  split
  · simp_all
  · split <;> simp_all
theorem cmpP_zero {a b : Int} : cmpP a b = 0 ↔ a = b := by
  unfold cmpP
  split
  · simp; omega
  · split
    · simp; omega
    · simp; omega

set_option maxRecDepth 100000 in
set_option maxHeartbeats 1000000 in
theorem isNaN_any (a : Int) (w : World) : Calls Try.prog 171 #[.int .i64 a] w fun e w' => e = .returned (.bool false) ∧ w' = w := by
  go_enter Try.func171, Try.ntmps171
  go_wp2_with fail
  go_ret
  exact ⟨rfl, rfl⟩
set_option maxRecDepth 100000 in
set_option maxHeartbeats 1000000 in
theorem cmp_any (a b : Int) (w : World) : Calls Try.prog 151 #[.int .i64 a, .int .i64 b] w fun e w' => e = .returned (.int .i64 (cmpP a b)) ∧ w' = w := by
  go_enter Try.func151, Try.ntmps151
  go_wp2_with fail
  refine (isNaN_any a w).mono ?_
  rintro e w1 ⟨rfl, h1⟩
  obtain rfl := h1.symm
  go_wp2_with fail
  refine (isNaN_any b w).mono ?_
  rintro e w2 ⟨rfl, h2⟩
  obtain rfl := h2.symm
  by_cases hab : a < b
  · have HC : Hid (cmpP a b = -1) := (by unfold cmpP; rw [if_pos hab] : cmpP a b = -1)
    go_wp2_with fail
    go_ret
    exact ⟨by rw [HC.out]; rfl, rfl⟩
  · by_cases hba : b < a
    · have HC : Hid (cmpP a b = 1) := (by unfold cmpP; rw [if_neg hab, if_pos hba] : cmpP a b = 1)
      go_wp2_with fail
      go_ret
      exact ⟨by rw [HC.out]; rfl, rfl⟩
    · have HC : Hid (cmpP a b = 0) := (by unfold cmpP; rw [if_neg hab, if_neg hba] : cmpP a b = 0)
      go_wp2_with fail
      go_ret
      exact ⟨by rw [HC.out]; rfl, rfl⟩

set_option maxRecDepth 100000 in
set_option maxHeartbeats 1000000 in
theorem putc_any (q f l : Int) (t : ByteArray) (n : Int) (w : World) :
    Calls Try.prog 150 #[.agg #[.int .i64 q, .int .i64 f, .int .i64 l, .string t], .int .i64 n] w fun e w' => e = .returned (.int .i64 (cmpP q n)) ∧ Below w.heap.size w w' := by
  have B0 : Hid (Below w.heap.size w (w.alloc (.cells #[.int .i64 q, .int .i64 f, .int .i64 l, .string t] 38))) := (Below.refl _ _).alloc (Nat.le_refl _) _
  have mn := mNum (w.alloc (.cells #[.int .i64 q, .int .i64 f, .int .i64 l, .string t] 38)) (.agg #[.int .i64 q, .int .i64 f, .int .i64 l, .string t])
  go_enter Try.func150, Try.ntmps150
  go_wp2_with fail
  clear mn
  generalize w.alloc (.cells #[.int .i64 q, .int .i64 f, .int .i64 l, .string t] 38) = W0 at *
  refine (number_any q f l t W0).mono ?_
  rintro e w1 ⟨rfl, b1⟩
  have B1 : Hid (Below w.heap.size w w1) := B0.out.trans (b1.mono B0.out.size)
  clear b1 B0
  go_wp2_with fail
  refine (cmp_any q n w1).mono ?_
  rintro e w2 ⟨rfl, h2⟩
  obtain rfl := h2.symm
  go_wp2_with fail
  go_ret
  exact ⟨rfl, B1.out⟩

/-- where a list that ascends parts at n. -/
def Parts (ts : List It) (n : Int) (p : Nat) : Prop := p ≤ ts.length ∧ (∀ x ∈ ts.take p, x.1 < n) ∧ ∀ x ∈ ts.drop p, n ≤ x.1
/-- ascending. -/
def Asc (ts : List It) : Prop := ts.Pairwise fun a b => a.1 < b.1
theorem Asc.at {ts : List It} (h : Asc ts) {i j : Nat} (hij : i < j) (hj : j < ts.length) : (ts[i]'(by omega)).1 < ts[j].1 := List.pairwise_iff_getElem.1 h i j (by omega) hj hij
theorem ahead {ts : List It} (h : Asc ts) {n : Int} {k : Nat} (hk : k < ts.length) (hlt : ts[k].1 < n) : ∀ x ∈ ts.take (k + 1), x.1 < n := by
  intro x hx
  obtain ⟨i, hi, rfl⟩ := List.mem_take_iff_getElem.1 hx
  have hi2 : i < ts.length := by omega
  by_cases hik : i = k
  · subst hik; exact hlt
  · have := h.at (i := i) (j := k) (by omega) hk
    omega
theorem behind {ts : List It} (h : Asc ts) {n : Int} {k : Nat} (hk : k < ts.length) (hge : n ≤ ts[k].1) : ∀ x ∈ ts.drop k, n ≤ x.1 := by
  intro x hx
  obtain ⟨i, hi, rfl⟩ := List.mem_drop_iff_getElem.1 hx
  by_cases hi0 : i = 0
  · subst hi0; simpa using hge
  · have := h.at (i := k) (j := k + i) (by omega) (by omega)
    omega

set_option maxRecDepth 100000 in
set_option maxHeartbeats 2000000 in
theorem bsf_any (ao : Option Addr) (cap : Nat) (ts : List It) (n : Int) (w : World) (hx : Hid (ItemsAt w ao ts)) (hl : ts.length ≤ 1048576) (ha : Hid (Asc ts)) :
    Calls Try.prog 149 #[.slice ao ts.length cap, .int .i64 n, .func (Fn.func 150) #[] #[]] w fun e w' => (∃ (p : Nat), Parts ts n p ∧ e = .returned (.tuple #[.int .i64 (p : Int), .bool (decide (∃ h : p < ts.length, ts[p].1 = n))])) ∧ Below w.heap.size w w' := by
  go_enter Try.func149, Try.ntmps149
  go_wp2
  go_loopw [9, 10] (fun a b wr => ∃ (i j : Nat), i ≤ j ∧ j ≤ ts.length ∧ a = .int .i64 i ∧ b = .int .i64 j ∧ Hid (∀ x ∈ ts.take i, x.1 < n) ∧ Hid (∀ x ∈ ts.drop j, n ≤ x.1) ∧ Hid (Below w.heap.size w wr)) (fun a b _ => (intOf b).toNat - (intOf a).toNat)
  case atStart => exact ⟨0, ts.length, Nat.zero_le _, Nat.le_refl _, rfl, rfl, (fun x hx => by simp at hx : ∀ x ∈ ts.take 0, x.1 < n), (fun x hx => by simp at hx : ∀ x ∈ ts.drop ts.length, n ≤ x.1), Below.refl _ _⟩
  case round =>
    obtain ⟨i, j, hij, hj, rfl, rfl, h1, h2, hb⟩ := hrel
    by_cases hlt : i < j
    · have hi1 : i ≤ (i + j) / 2 := by omega
      have hi2 : (i + j) / 2 < j := by omega
      have hi3 : (i + j) / 2 < ts.length := by omega
      obtain ⟨b, off, rfl, hbb, c0, c1, c2, c3⟩ := hx.out.stays hb.out ((i + j) / 2) hi3
      have HP : Hid (∃ x : It, x = ts[(i + j) / 2]) := ⟨_, rfl⟩
      obtain ⟨⟨q, f, lv, tx⟩, hp⟩ := HP.out
      rw [← hp] at c0 c1 c2 c3
      have HQ : Hid ((q, f, lv, tx) = ts[(i + j) / 2]) := hp
      clear hp HP
      dsimp only at c0 c1 c2 c3
      go_wp2_with fail
      refine (putc_any q f lv tx n wr).mono ?_
      rintro e w1 ⟨rfl, hb1⟩
      have B1 : Hid (Below w.heap.size w w1) := hb.out.trans (hb1.mono hb.out.size)
      clear hb1 c0 c1 c2 c3
      by_cases hq : q < n
      · have hc : cmpP q n < 0 := cmpP_neg.2 hq
        have H1 : Hid (∀ x ∈ ts.take ((i + j) / 2 + 1), x.1 < n) := ahead ha.out hi3 (by rw [← HQ.out]; exact hq)
        go_wp2_with fail
        go_roundw
        case rel => exact ⟨(i + j) / 2 + 1, j, by omega, hj, by go_num, rfl, H1, h2, B1⟩
        case measure => simp [intOf]; omega
      · have hc : ¬ cmpP q n < 0 := fun h => hq (cmpP_neg.1 h)
        have H2 : Hid (∀ x ∈ ts.drop ((i + j) / 2), n ≤ x.1) := behind ha.out hi3 (by rw [← HQ.out]; show n ≤ q; omega)
        go_wp2_with fail
        go_roundw
        case rel => exact ⟨i, (i + j) / 2, by omega, by omega, rfl, by go_num, h1, H2, B1⟩
        case measure => simp [intOf]; omega
    · obtain rfl : i = j := by omega
      have HPa : Hid (Parts ts n i) := (⟨hj, h1.out, h2.out⟩ : Parts ts n i)
      by_cases hlt2 : i < ts.length
      · obtain ⟨b, off, rfl, hbb, c0, c1, c2, c3⟩ := hx.out.stays hb.out i hlt2
        have HP : Hid (∃ x : It, x = ts[i]) := ⟨_, rfl⟩
        obtain ⟨⟨q, f, lv, tx⟩, hp⟩ := HP.out
        rw [← hp] at c0 c1 c2 c3
        have HQ : Hid ((q, f, lv, tx) = ts[i]) := hp
        clear hp HP
        dsimp only at c0 c1 c2 c3
        have HD : Hid (decide (∃ h : i < ts.length, ts[i].1 = n) = decide (cmpP q n = 0)) := by
          have e : (∃ h : i < ts.length, ts[i].1 = n) ↔ cmpP q n = 0 := by
            rw [cmpP_zero]
            constructor
            · rintro ⟨_, e⟩; rw [← HQ.out] at e; exact e
            · intro e; exact ⟨hlt2, by rw [← HQ.out]; exact e⟩
          show decide _ = decide _
          exact decide_eq_decide.2 e
        go_wp2_with fail
        refine (putc_any q f lv tx n wr).mono ?_
        rintro e w1 ⟨rfl, hb1⟩
        have B1 : Hid (Below w.heap.size w w1) := hb.out.trans (hb1.mono hb.out.size)
        clear hb1 c0 c1 c2 c3
        go_wp2_with fail
        refine bodyPost_ret (v := .tuple #[.int .i64 (i : Int), .bool (decide (cmpP q n = 0))]) (by simp [results, Try.results149, go_sem]; rfl) rfl ⟨?_, ?_⟩
        · exact ⟨i, HPa.out, by rw [HD.out]⟩
        · exact B1.out
      · have HD : Hid (decide (∃ h : i < ts.length, ts[i].1 = n) = false) := (decide_eq_false (fun ⟨h, _⟩ => hlt2 h) : decide (∃ h : i < ts.length, ts[i].1 = n) = false)
        go_wp2_with fail
        refine bodyPost_ret (v := .tuple #[.int .i64 (i : Int), .bool false]) (by simp [results, Try.results149, go_sem]) rfl ⟨?_, ?_⟩
        · exact ⟨i, HPa.out, by rw [HD.out]⟩
        · exact hb.out
end Go.Proofs.Ytpbhcbgohgfkcaa

/- An item put into a list that ascends, in plain words; the walk over store.put. -/
namespace Go.Proofs.Ytpbhcbgohgfkcaa
open Go.RowKit Pl
set_option linter.unusedVariables false

/-- the item in its place, where none has its number. -/
def ins1 (ts : List It) (y : It) : List It := if hasP ts y.1 = true then ts else ts.filter (fun x => decide (x.1 < y.1)) ++ y :: ts.filter (fun x => decide (y.1 < x.1))
theorem hasP_false {ts : List It} {n : Int} : hasP ts n = false ↔ ∀ x ∈ ts, ¬ x.1 = n := by
  constructor
  · intro h x hx he
    have := hasP_iff.2 ⟨x, hx, he⟩
    rw [h] at this
    cases this
  · intro h
    cases hh : hasP ts n with
    | false => rfl
    | true =>
      obtain ⟨x, hx, he⟩ := hasP_iff.1 hh
      exact absurd he (h x hx)
theorem parts_has {ts : List It} {n : Int} {p : Nat} (h : Asc ts) (hp : Parts ts n p) : hasP ts n = decide (∃ h : p < ts.length, ts[p].1 = n) := by
  obtain ⟨h1, h2, h3⟩ := hp
  rw [Bool.eq_iff_iff, hasP_iff, decide_eq_true_iff]
  constructor
  · rintro ⟨x, hx, he⟩
    rw [← List.take_append_drop p ts] at hx
    rcases List.mem_append.1 hx with h4 | h4
    · have := h2 x h4; omega
    · obtain ⟨i, hi, rfl⟩ := List.mem_drop_iff_getElem.1 h4
      have hpl : p < ts.length := by omega
      refine ⟨hpl, ?_⟩
      by_cases hi0 : i = 0
      · subst hi0; simpa using he
      · have h5 := h.at (i := p) (j := p + i) (by omega) (by omega)
        have h6 := h3 ts[p] (List.mem_drop_iff_getElem.2 ⟨0, by omega, by simp⟩)
        omega
  · rintro ⟨hl, he⟩
    exact ⟨_, List.getElem_mem hl, he⟩
theorem parts_lt {ts : List It} {n : Int} {p : Nat} (hp : Parts ts n p) : ts.filter (fun x => decide (x.1 < n)) = ts.take p := by
  obtain ⟨h1, h2, h3⟩ := hp
  have e : ts.filter (fun x => decide (x.1 < n)) = (ts.take p ++ ts.drop p).filter (fun x => decide (x.1 < n)) := by rw [List.take_append_drop]
  rw [e, List.filter_append, List.filter_eq_self.2 (fun x hx => by simpa using h2 x hx), List.filter_eq_nil_iff.2 (fun x hx => by have := h3 x hx; simp; omega), List.append_nil]
theorem parts_gt {ts : List It} {n : Int} {p : Nat} (hp : Parts ts n p) (hh : hasP ts n = false) : ts.filter (fun x => decide (n < x.1)) = ts.drop p := by
  obtain ⟨h1, h2, h3⟩ := hp
  have e : ts.filter (fun x => decide (n < x.1)) = (ts.take p ++ ts.drop p).filter (fun x => decide (n < x.1)) := by rw [List.take_append_drop]
  rw [e, List.filter_append, List.filter_eq_nil_iff.2 (fun x hx => by have := h2 x hx; simp; omega), List.filter_eq_self.2 (fun x hx => by
    have h4 := h3 x hx
    have h5 := hasP_false.1 hh x (List.mem_of_mem_drop hx)
    simp; omega), List.nil_append]
theorem ins1_has {ts : List It} {y : It} (h : hasP ts y.1 = true) : ins1 ts y = ts := by unfold ins1; rw [if_pos h]
theorem ins1_not {ts : List It} {y : It} {p : Nat} (hp : Parts ts y.1 p) (h : hasP ts y.1 = false) : ins1 ts y = ts.take p ++ y :: ts.drop p := by
  unfold ins1
  rw [if_neg (by rw [h]; simp), parts_lt hp, parts_gt hp h]
theorem ins1_asc {ts : List It} {y : It} (h : Asc ts) : Asc (ins1 ts y) := by
  unfold ins1
  split
  · exact h
  · unfold Asc
    rw [List.pairwise_append]
    refine ⟨h.filter _, ?_, ?_⟩
    · rw [List.pairwise_cons]
      exact ⟨fun x hx => by simpa using (List.mem_filter.1 hx).2, h.filter _⟩
    · intro a ha b hb
      have h1 : a.1 < y.1 := by simpa using (List.mem_filter.1 ha).2
      rcases List.mem_cons.1 hb with rfl | hb
      · exact h1
      · have h2 : y.1 < b.1 := by simpa using (List.mem_filter.1 hb).2
        omega
theorem ins1_len (ts : List It) (y : It) (h : Asc ts) : (ins1 ts y).length ≤ ts.length + 1 := by
  unfold ins1
  split
  · omega
  · have h2 : ∀ l : List It, (l.filter (fun x => decide (x.1 < y.1))).length + (l.filter (fun x => decide (y.1 < x.1))).length ≤ l.length := by
      intro l
      induction l with
      | nil => simp
      | cons a l ih =>
        rw [List.filter_cons, List.filter_cons]
        by_cases h1 : a.1 < y.1
        · have : ¬ y.1 < a.1 := by omega
          simp [h1, this]; omega
        · by_cases h2 : y.1 < a.1
          · simp [h1, h2]; omega
          · simp [h1, h2]; omega
    have := h2 ts
    simp; omega
/-- items put one behind the other. -/
def putAll (ts xs : List It) : List It := xs.foldl ins1 ts
theorem putAll_asc : ∀ (xs ts : List It), Asc ts → Asc (putAll ts xs)
  | [], _, h => h
  | x :: xs, ts, h => putAll_asc xs (ins1 ts x) (ins1_asc h)
theorem putAll_len : ∀ (xs ts : List It), Asc ts → (putAll ts xs).length ≤ ts.length + xs.length
  | [], _, _ => by simp [putAll]
  | x :: xs, ts, h => by
    have h1 := putAll_len xs (ins1 ts x) (ins1_asc h)
    have h2 := ins1_len ts x h
    show (putAll (ins1 ts x) xs).length ≤ _
    simp only [List.length_cons]
    omega
theorem putAll_step {ts xs : List It} {k : Nat} (hk : k < xs.length) : putAll ts (xs.take (k + 1)) = ins1 (putAll ts (xs.take k)) xs[k] := by
  unfold putAll
  rw [List.take_succ_eq_append_getElem hk, List.foldl_append]
  rfl

theorem ItemsAt.kept {w w' : World} {row : Option Nat} {ao : Option Addr} {ts : List It} (h : ItemsAt w ao ts) (hg : w.grownBy w' row) (hne : ∀ b off, ao = some ⟨b, off, none⟩ → some b ≠ row) : ItemsAt w' ao ts := by
  intro i hi
  obtain ⟨b, off, h1, h2, h3, h4, h5, h6⟩ := h i hi
  have e := hg.block b h2 (hne b off h1)
  have ec : ∀ o, w'.cell? ⟨b, o, none⟩ = w.cell? ⟨b, o, none⟩ := fun o => by simp only [World.cell?, e]
  exact ⟨b, off, h1, Nat.lt_of_lt_of_le h2 hg.size, (ec _).trans h3, (ec _).trans h4, (ec _).trans h5, (ec _).trans h6⟩
/-- a slice lies in another block than a list. -/
def Apart (v : Value) (ao : Option Addr) : Prop := ∀ k b off, v.ownBlock = some k → ao = some ⟨b, off, none⟩ → k ≠ b

set_option maxRecDepth 100000 in
set_option maxHeartbeats 2000000 in
theorem put_any (v : Value) (ts : List It) (lo : Option Addr) (lc : Nat) (xs : List It) (B : Nat) (w : World) (hS : Hid (SlI w B v ts)) (hA : Hid (Asc ts)) (hx : Hid (ItemsAt w lo xs)) (hap : Hid (Apart v lo)) (hB : B ≤ w.heap.size) (hl : ts.length + xs.length ≤ 1048576) :
    Calls Try.prog 133 #[v, .slice lo xs.length lc] w fun e w' => ∃ v', e = .returned v' ∧ SlI w' B v' (putAll ts xs) ∧ Below B w w' := by
  go_enter Try.func133, Try.ntmps133
  go_wp2
  go_loopw [0, 11] (fun u i wr => ∃ (k : Nat), k ≤ xs.length ∧ i = .int .i64 k ∧ Hid (SlI wr B u (putAll ts (xs.take k))) ∧ Hid (ItemsAt wr lo xs) ∧ Hid (Apart u lo) ∧ Hid (Below B w wr)) (fun _ i _ => xs.length - (intOf i).toNat)
  case atStart => exact ⟨0, Nat.zero_le _, rfl, hS, hx, hap, Below.refl _ _⟩
  case round =>
    clear hS hx hap
    obtain ⟨k, hk, rfl, hS, hx, hap, hb⟩ := hrel
    by_cases hlt : k < xs.length
    · obtain ⟨L, hL⟩ : ∃ L : List It, L = putAll ts (xs.take k) := ⟨_, rfl⟩
      have HL : Hid (putAll ts (xs.take (k + 1)) = ins1 L xs[k]) := by rw [hL]; exact putAll_step hlt
      have HA : Hid (Asc L) := by rw [hL]; exact putAll_asc _ _ hA.out
      have hll : L.length ≤ 1048575 := by
        rw [hL]
        have := putAll_len (xs.take k) ts hA.out
        rw [List.length_take] at this
        omega
      rw [← hL] at hS
      clear hL
      obtain ⟨b, off, hlo, hbb, h0, h1, h2, h3⟩ := hx.out k hlt
      subst hlo
      have HP : Hid (∃ x : It, x = xs[k]) := ⟨_, rfl⟩
      obtain ⟨⟨q, f, lv, tx⟩, hp⟩ := HP.out
      rw [← hp] at h0 h1 h2 h3
      have HQ : Hid ((q, f, lv, tx) = xs[k]) := hp
      clear hp HP
      dsimp only at h0 h1 h2 h3
      have zB : B ≤ wr.heap.size := Nat.le_trans hB hb.out.size
      have b0 : Below wr.heap.size wr (wr.alloc (.cells #[.int .i64 q, .int .i64 f, .int .i64 lv, .string tx] 38)) := (Below.refl _ _).alloc (Nat.le_refl _) _
      have S0 : Hid (SlI (wr.alloc (.cells #[.int .i64 q, .int .i64 f, .int .i64 lv, .string tx] 38)) B u0 L) := hS.out.below b0
      have X0 : Hid (ItemsAt (wr.alloc (.cells #[.int .i64 q, .int .i64 f, .int .i64 lv, .string tx] 38)) (some ⟨b, off, none⟩) xs) := hx.out.stays b0
      have I0 : Hid (ItAt (wr.alloc (.cells #[.int .i64 q, .int .i64 f, .int .i64 lv, .string tx] 38)) wr.heap.size q f lv tx) := heap_alloc_new wr _
      have B0 : Hid (Below B w (wr.alloc (.cells #[.int .i64 q, .int .i64 f, .int .i64 lv, .string tx] 38))) := hb.out.trans (b0.mono zB)
      have mn := mNum (wr.alloc (.cells #[.int .i64 q, .int .i64 f, .int .i64 lv, .string tx] 38)) (.agg #[.int .i64 q, .int .i64 f, .int .i64 lv, .string tx])
      clear b0
      go_wp2_with fail
      clear mn
      have z0 : wr.heap.size < (wr.alloc (.cells #[.int .i64 q, .int .i64 f, .int .i64 lv, .string tx] 38)).heap.size := by simp
      generalize wr.alloc (.cells #[.int .i64 q, .int .i64 f, .int .i64 lv, .string tx] 38) = W0 at *
      clear h0 h1 h2 h3
      refine (number_any q f lv tx _).mono ?_
      rintro e w1 ⟨rfl, b1⟩
      have S1 : SlI w1 B u0 L := S0.out.below b1
      have X1 : Hid (ItemsAt w1 (some ⟨b, off, none⟩) xs) := X0.out.stays b1
      have I1 : Hid (ItAt w1 wr.heap.size q f lv tx) := I0.out.stays b1 I0.out.lt
      have B1 : Hid (Below B w w1) := B0.out.trans (b1.mono (by omega))
      have z1 : W0.heap.size ≤ w1.heap.size := b1.size
      clear b1 S0 X0 I0 B0 hS hx hb
      obtain ⟨uo, uc, rfl, Y1⟩ := S1.items
      have S1 : Hid (SlI w1 B (.slice uo L.length uc) L) := S1
      have Y1 : Hid (ItemsAt w1 uo L) := Y1
      go_wp2_with fail
      refine (bsf_any uo uc L q w1 Y1 (by omega) HA).mono ?_
      rintro e w2 ⟨⟨p, hpp, rfl⟩, b2⟩
      have HPP : Hid (Parts L q p) := hpp
      have hpl : p ≤ L.length := hpp.1
      have HHA : Hid (hasP L q = decide (∃ h : p < L.length, L[p].1 = q)) := parts_has HA.out hpp
      have S2 : Hid (SlI w2 B (.slice uo L.length uc) L) := S1.out.below b2
      have X2 : Hid (ItemsAt w2 (some ⟨b, off, none⟩) xs) := X1.out.stays b2
      have I2 : Hid (ItAt w2 wr.heap.size q f lv tx) := I1.out.stays b2 I1.out.lt
      have B2 : Hid (Below B w w2) := B1.out.trans (b2.mono (by omega))
      have z2 : w1.heap.size ≤ w2.heap.size := b2.size
      clear b2 S1 X1 I1 B1 Y1 hpp
      cases hh : decide (∃ h : p < L.length, L[p].1 = q) with
      | true =>
        have HN : Hid (putAll ts (xs.take (k + 1)) = L) := by
          show _ = _
          rw [HL.out, ← HQ.out, ins1_has (by show hasP L q = true; rw [HHA.out, hh])]
        clear hh HHA
        go_wp2_with fail
        go_roundw
        case rel => exact ⟨k + 1, by omega, by go_num, by rw [HN.out]; exact S2, X2, hap, B2⟩
        case measure => simp [intOf]; omega
      | false =>
        have HN : Hid (putAll ts (xs.take (k + 1)) = L.take p ++ (q, f, lv, tx) :: L.drop p) := by
          show _ = _
          rw [HL.out, ← HQ.out, ins1_not (y := (q, f, lv, tx)) HPP.out (by show hasP L q = false; rw [HHA.out, hh])]
        clear hh HHA
        obtain ⟨c0, c1, c2, c3⟩ := I2.out.cells
        have b3 : Below w2.heap.size w2 (w2.alloc (.cells #[.int .i64 q, .int .i64 f, .int .i64 lv, .string tx] 38)) := (Below.refl _ _).alloc (Nat.le_refl _) _
        have S3 : Hid (SlI (w2.alloc (.cells #[.int .i64 q, .int .i64 f, .int .i64 lv, .string tx] 38)) B (.slice uo L.length uc) L) := S2.out.below b3
        have X3 : Hid (ItemsAt (w2.alloc (.cells #[.int .i64 q, .int .i64 f, .int .i64 lv, .string tx] 38)) (some ⟨b, off, none⟩) xs) := X2.out.stays b3
        have I3 : Hid (ItAt (w2.alloc (.cells #[.int .i64 q, .int .i64 f, .int .i64 lv, .string tx] 38)) w2.heap.size q f lv tx) := heap_alloc_new w2 _
        have B3 : Hid (Below B w (w2.alloc (.cells #[.int .i64 q, .int .i64 f, .int .i64 lv, .string tx] 38))) := B2.out.trans (b3.mono (by omega))
        have z3 : w2.heap.size ≤ (w2.alloc (.cells #[.int .i64 q, .int .i64 f, .int .i64 lv, .string tx] 38)).heap.size := b3.size
        have N3 : Hid (∀ k, (Value.slice uo L.length uc).ownBlock = some k → k ≠ w2.heap.size) := fun k hk => by have := (S2.out.lt k hk).2; omega
        clear b3 S2 X2 B2
        go_wp2_with fail
        generalize w2.alloc (.cells #[.int .i64 q, .int .i64 f, .int .i64 lv, .string tx] 38) = W3 at *
        clear c0 c1 c2 c3
        refine (insert_any (.slice uo L.length uc) L p (q, f, lv, tx) B w2.heap.size W3 S3.out I3.out N3.out (by omega) (by omega) hpl).mono ?_
        rintro e w4 ⟨v4, rfl, S4, G4, O4⟩
        have S4 : Hid (SlI w4 B v4 (putAll ts (xs.take (k + 1)))) := by rw [HN.out]; exact S4
        have X4 : Hid (ItemsAt w4 (some ⟨b, off, none⟩) xs) := X3.out.kept G4 (fun b' off' e he => hap.out b' b' off' he.symm e rfl)
        have A4 : Hid (Apart v4 (some ⟨b, off, none⟩)) := fun k' b' off' hk' e => by
          rcases O4 with h | ⟨nb, h, hnb⟩
          · exact hap.out k' b' off' (h ▸ hk') e
          · rw [h] at hk'
            simp at hk' e
            omega
        have B4 : Hid (Below B w w4) := B3.out.grown G4 (by omega) (fun k' hk' => (S3.out.lt k' hk').1)
        clear S3 X3 I3 B3 G4 O4 N3
        go_wp2_with fail
        go_roundw
        case rel => exact ⟨k + 1, by omega, by go_num, S4, X4, A4, B4⟩
        case measure => simp [intOf]; omega
    · obtain rfl : k = xs.length := by omega
      go_wp2_with fail
      go_ret
      exact ⟨_, rfl, by have := hS.out; rwa [List.take_length] at this, hb.out⟩
end Go.Proofs.Ytpbhcbgohgfkcaa

/- put, with all that it leaves as it was: only the row that the store lies in may turn. -/
namespace Go.Proofs.Ytpbhcbgohgfkcaa
open Go.RowKit Pl
set_option linter.unusedVariables false

/-- what stays while a store v turns into u. -/
structure PutK (w : World) (v u : Value) (w' : World) : Prop where
  g : w.grownBy w' v.ownBlock
  o : u.ownBlock = v.ownBlock ∨ ∃ nb, u.ownBlock = some nb ∧ w.heap.size ≤ nb
theorem PutK.refl (w : World) (v : Value) : PutK w v v w := ⟨⟨rfl, rfl, rfl, Nat.le_refl _, fun _ _ _ => rfl⟩, .inl rfl⟩
theorem PutK.later {w a b : World} {v u : Value} (h : PutK w v u a) (k : Below a.heap.size a b) : PutK w v u b :=
  ⟨⟨k.os.trans h.g.os, k.tape.trans h.g.tape, k.output.trans h.g.output, Nat.le_trans h.g.size k.size, fun i hi hn => (k.block i (Nat.lt_of_lt_of_le hi h.g.size)).trans (h.g.block i hi hn)⟩, h.o⟩
theorem PutK.put {w a b : World} {v u x : Value} (h : PutK w v u a) (k : a.grownBy b u.ownBlock) (o : x.ownBlock = u.ownBlock ∨ ∃ nb, x.ownBlock = some nb ∧ a.heap.size ≤ nb) : PutK w v x b := by
  refine ⟨⟨k.os.trans h.g.os, k.tape.trans h.g.tape, k.output.trans h.g.output, Nat.le_trans h.g.size k.size, fun i hi hn => (k.block i (Nat.lt_of_lt_of_le hi h.g.size) ?_).trans (h.g.block i hi hn)⟩, ?_⟩
  · rcases h.o with e | ⟨nb, e, z⟩
    · rw [e]; exact hn
    · rw [e]; intro e2; cases e2; omega
  · rcases o with e | ⟨nb, e, z⟩
    · rcases h.o with e2 | ⟨nb, e2, z⟩
      · exact .inl (e.trans e2)
      · exact .inr ⟨nb, e.trans e2, z⟩
    · exact .inr ⟨nb, e, Nat.le_trans h.g.size z⟩

set_option maxRecDepth 100000 in
set_option maxHeartbeats 2000000 in
theorem put2_any (v : Value) (ts : List It) (lo : Option Addr) (lc : Nat) (xs : List It) (B : Nat) (w : World) (hS : Hid (SlI w B v ts)) (hA : Hid (Asc ts)) (hx : Hid (ItemsAt w lo xs)) (hap : Hid (Apart v lo)) (hB : B ≤ w.heap.size) (hl : ts.length + xs.length ≤ 1048576) :
    Calls Try.prog 133 #[v, .slice lo xs.length lc] w fun e w' => ∃ v', e = .returned v' ∧ SlI w' B v' (putAll ts xs) ∧ PutK w v v' w' := by
  go_enter Try.func133, Try.ntmps133
  go_wp2
  go_loopw [0, 11] (fun u i wr => ∃ (k : Nat), k ≤ xs.length ∧ i = .int .i64 k ∧ Hid (SlI wr B u (putAll ts (xs.take k))) ∧ Hid (ItemsAt wr lo xs) ∧ Hid (Apart u lo) ∧ Hid (PutK w v u wr)) (fun _ i _ => xs.length - (intOf i).toNat)
  case atStart => exact ⟨0, Nat.zero_le _, rfl, hS, hx, hap, PutK.refl _ _⟩
  case round =>
    clear hS hx hap
    obtain ⟨k, hk, rfl, hS, hx, hap, hb⟩ := hrel
    by_cases hlt : k < xs.length
    · obtain ⟨L, hL⟩ : ∃ L : List It, L = putAll ts (xs.take k) := ⟨_, rfl⟩
      have HL : Hid (putAll ts (xs.take (k + 1)) = ins1 L xs[k]) := by rw [hL]; exact putAll_step hlt
      have HA : Hid (Asc L) := by rw [hL]; exact putAll_asc _ _ hA.out
      have hll : L.length ≤ 1048575 := by
        rw [hL]
        have := putAll_len (xs.take k) ts hA.out
        rw [List.length_take] at this
        omega
      rw [← hL] at hS
      clear hL
      obtain ⟨b, off, hlo, hbb, h0, h1, h2, h3⟩ := hx.out k hlt
      subst hlo
      have HP : Hid (∃ x : It, x = xs[k]) := ⟨_, rfl⟩
      obtain ⟨⟨q, f, lv, tx⟩, hp⟩ := HP.out
      rw [← hp] at h0 h1 h2 h3
      have HQ : Hid ((q, f, lv, tx) = xs[k]) := hp
      clear hp HP
      dsimp only at h0 h1 h2 h3
      have zB : B ≤ wr.heap.size := Nat.le_trans hB hb.out.g.size
      have b0 : Below wr.heap.size wr (wr.alloc (.cells #[.int .i64 q, .int .i64 f, .int .i64 lv, .string tx] 38)) := (Below.refl _ _).alloc (Nat.le_refl _) _
      have S0 : Hid (SlI (wr.alloc (.cells #[.int .i64 q, .int .i64 f, .int .i64 lv, .string tx] 38)) B u0 L) := hS.out.below b0
      have X0 : Hid (ItemsAt (wr.alloc (.cells #[.int .i64 q, .int .i64 f, .int .i64 lv, .string tx] 38)) (some ⟨b, off, none⟩) xs) := hx.out.stays b0
      have I0 : Hid (ItAt (wr.alloc (.cells #[.int .i64 q, .int .i64 f, .int .i64 lv, .string tx] 38)) wr.heap.size q f lv tx) := heap_alloc_new wr _
      have B0 : Hid (PutK w v u0 (wr.alloc (.cells #[.int .i64 q, .int .i64 f, .int .i64 lv, .string tx] 38))) := hb.out.later b0
      have mn := mNum (wr.alloc (.cells #[.int .i64 q, .int .i64 f, .int .i64 lv, .string tx] 38)) (.agg #[.int .i64 q, .int .i64 f, .int .i64 lv, .string tx])
      clear b0
      go_wp2_with fail
      clear mn
      have z0 : wr.heap.size < (wr.alloc (.cells #[.int .i64 q, .int .i64 f, .int .i64 lv, .string tx] 38)).heap.size := by simp
      generalize wr.alloc (.cells #[.int .i64 q, .int .i64 f, .int .i64 lv, .string tx] 38) = W0 at *
      clear h0 h1 h2 h3
      refine (number_any q f lv tx _).mono ?_
      rintro e w1 ⟨rfl, b1⟩
      have S1 : SlI w1 B u0 L := S0.out.below b1
      have X1 : Hid (ItemsAt w1 (some ⟨b, off, none⟩) xs) := X0.out.stays b1
      have I1 : Hid (ItAt w1 wr.heap.size q f lv tx) := I0.out.stays b1 I0.out.lt
      have B1 : Hid (PutK w v u0 w1) := B0.out.later b1
      have z1 : W0.heap.size ≤ w1.heap.size := b1.size
      clear b1 S0 X0 I0 B0 hS hx hb
      obtain ⟨uo, uc, rfl, Y1⟩ := S1.items
      have S1 : Hid (SlI w1 B (.slice uo L.length uc) L) := S1
      have Y1 : Hid (ItemsAt w1 uo L) := Y1
      go_wp2_with fail
      refine (bsf_any uo uc L q w1 Y1 (by omega) HA).mono ?_
      rintro e w2 ⟨⟨p, hpp, rfl⟩, b2⟩
      have HPP : Hid (Parts L q p) := hpp
      have hpl : p ≤ L.length := hpp.1
      have HHA : Hid (hasP L q = decide (∃ h : p < L.length, L[p].1 = q)) := parts_has HA.out hpp
      have S2 : Hid (SlI w2 B (.slice uo L.length uc) L) := S1.out.below b2
      have X2 : Hid (ItemsAt w2 (some ⟨b, off, none⟩) xs) := X1.out.stays b2
      have I2 : Hid (ItAt w2 wr.heap.size q f lv tx) := I1.out.stays b2 I1.out.lt
      have B2 : Hid (PutK w v (.slice uo L.length uc) w2) := B1.out.later b2
      have z2 : w1.heap.size ≤ w2.heap.size := b2.size
      clear b2 S1 X1 I1 B1 Y1 hpp
      cases hh : decide (∃ h : p < L.length, L[p].1 = q) with
      | true =>
        have HN : Hid (putAll ts (xs.take (k + 1)) = L) := by
          show _ = _
          rw [HL.out, ← HQ.out, ins1_has (by show hasP L q = true; rw [HHA.out, hh])]
        clear hh HHA
        go_wp2_with fail
        go_roundw
        case rel => exact ⟨k + 1, by omega, by go_num, by rw [HN.out]; exact S2, X2, hap, B2⟩
        case measure => simp [intOf]; omega
      | false =>
        have HN : Hid (putAll ts (xs.take (k + 1)) = L.take p ++ (q, f, lv, tx) :: L.drop p) := by
          show _ = _
          rw [HL.out, ← HQ.out, ins1_not (y := (q, f, lv, tx)) HPP.out (by show hasP L q = false; rw [HHA.out, hh])]
        clear hh HHA
        obtain ⟨c0, c1, c2, c3⟩ := I2.out.cells
        have b3 : Below w2.heap.size w2 (w2.alloc (.cells #[.int .i64 q, .int .i64 f, .int .i64 lv, .string tx] 38)) := (Below.refl _ _).alloc (Nat.le_refl _) _
        have S3 : Hid (SlI (w2.alloc (.cells #[.int .i64 q, .int .i64 f, .int .i64 lv, .string tx] 38)) B (.slice uo L.length uc) L) := S2.out.below b3
        have X3 : Hid (ItemsAt (w2.alloc (.cells #[.int .i64 q, .int .i64 f, .int .i64 lv, .string tx] 38)) (some ⟨b, off, none⟩) xs) := X2.out.stays b3
        have I3 : Hid (ItAt (w2.alloc (.cells #[.int .i64 q, .int .i64 f, .int .i64 lv, .string tx] 38)) w2.heap.size q f lv tx) := heap_alloc_new w2 _
        have B3 : Hid (PutK w v (.slice uo L.length uc) (w2.alloc (.cells #[.int .i64 q, .int .i64 f, .int .i64 lv, .string tx] 38))) := B2.out.later b3
        have z3 : w2.heap.size ≤ (w2.alloc (.cells #[.int .i64 q, .int .i64 f, .int .i64 lv, .string tx] 38)).heap.size := b3.size
        have N3 : Hid (∀ k, (Value.slice uo L.length uc).ownBlock = some k → k ≠ w2.heap.size) := fun k hk => by have := (S2.out.lt k hk).2; omega
        clear b3 S2 X2 B2
        go_wp2_with fail
        generalize w2.alloc (.cells #[.int .i64 q, .int .i64 f, .int .i64 lv, .string tx] 38) = W3 at *
        clear c0 c1 c2 c3
        refine (insert_any (.slice uo L.length uc) L p (q, f, lv, tx) B w2.heap.size W3 S3.out I3.out N3.out (by omega) (by omega) hpl).mono ?_
        rintro e w4 ⟨v4, rfl, S4, G4, O4⟩
        have S4 : Hid (SlI w4 B v4 (putAll ts (xs.take (k + 1)))) := by rw [HN.out]; exact S4
        have X4 : Hid (ItemsAt w4 (some ⟨b, off, none⟩) xs) := X3.out.kept G4 (fun b' off' e he => hap.out b' b' off' he.symm e rfl)
        have A4 : Hid (Apart v4 (some ⟨b, off, none⟩)) := fun k' b' off' hk' e => by
          rcases O4 with h | ⟨nb, h, hnb⟩
          · exact hap.out k' b' off' (h ▸ hk') e
          · rw [h] at hk'
            simp at hk' e
            omega
        have B4 : Hid (PutK w v v4 w4) := B3.out.put G4 O4
        clear S3 X3 I3 B3 G4 O4 N3
        go_wp2_with fail
        go_roundw
        case rel => exact ⟨k + 1, by omega, by go_num, S4, X4, A4, B4⟩
        case measure => simp [intOf]; omega
    · obtain rfl : k = xs.length := by omega
      go_wp2_with fail
      go_ret
      exact ⟨_, rfl, by have := hS.out; rwa [List.take_length] at this, hb.out⟩
end Go.Proofs.Ytpbhcbgohgfkcaa

/- A statement that leaves its order open, walked with a condition on the worlds that it passes through, its last operation apart: that one waits for all others, and the condition need not hold behind it. -/
namespace Go.Proofs.Ytpbhcbgohgfkcaa.Pl
open Go Go.RowKit
set_option linter.unusedVariables false

section
variable {P : Program} {ops : Array Oper} {Q : Exit → Act → World → Prop} {a : Act} {w : World}
/-! ### a statement that leaves its order open, its last operation apart -/
/-- i comes, by edges, ahead of j. -/
def reachB (ops : Array Oper) : Nat → Nat → Nat → Bool
  | 0, _, _ => false
  | f + 1, j, i => ((ops[j]?).map (fun o => o.after.any fun e => Region.binds .any e && (e.on == i || reachB ops f e.on i))).getD false
/-- every edge goes back. -/
def backB (ops : Array Oper) : Bool := (List.range ops.size).all fun i => ((ops[i]?).map (fun o => o.after.all fun e => !Region.binds .any e || decide (e.on < i))).getD true

def DownL (ops : Array Oper) (listed : Array Bool) : Prop := ∀ i o, ops[i]? = some o → listed.getD i false = true → ∀ e ∈ o.after, Region.binds .any e = true → listed.getD e.on false = true

theorem reach_listed {listed : Array Bool} (hd : DownL ops listed) : ∀ (f j i : Nat), reachB ops f j i = true → (∀ o, ops[j]? = some o → ∀ e ∈ o.after, Region.binds .any e = true → listed.getD e.on false = true) → listed.getD i false = true
  | 0, j, i, h, _ => by simp [reachB] at h
  | f + 1, j, i, h, hj => by
    unfold reachB at h
    cases ho : ops[j]? with
    | none => simp [ho] at h
    | some o =>
      simp only [ho, Option.map_some, Option.getD_some] at h
      obtain ⟨e, he, hb⟩ := Array.any_eq_true'.1 h
      simp only [Bool.and_eq_true, Bool.or_eq_true, beq_iff_eq] at hb
      have hl := hj o ho e he hb.1
      rcases hb.2 with rfl | hr
      · exact hl
      · exact reach_listed hd f e.on i hr (fun o' ho' e' he' hb' => hd e.on o' ho' hl e' he' hb')

theorem ready_some {listed : Array Bool} (hs : listed.size = ops.size) (hb : backB ops = true) {j : Nat} (hj : j < ops.size) (hu : listed.getD j false = false) : Region.ready .any ops listed ≠ [] := by
  have key : ∀ n j, j ≤ n → j < ops.size → listed.getD j false = false → ∃ i, i ∈ Region.ready .any ops listed := by
    intro n
    induction n with
    | zero =>
      intro j hj0 hj hu
      obtain rfl : j = 0 := by omega
      refine ⟨0, mem_ready.2 ⟨?_, ops[0], Array.getElem?_eq_getElem hj, fun e he hbe => ?_⟩⟩
      · have : 0 < listed.size := by omega
        simpa [this] using hu
      · have := List.all_eq_true.1 hb 0 (List.mem_range.2 hj)
        rw [Array.getElem?_eq_getElem hj] at this
        simp only [Option.map_some, Option.getD_some] at this
        have := Array.all_eq_true_iff_forall_mem.1 this e he
        simp [hbe] at this
    | succ n ih =>
      intro j hjn hj hu
      by_cases hall : ∀ e ∈ ops[j].after, Region.binds .any e = true → listed.getD e.on false = true
      · refine ⟨j, mem_ready.2 ⟨?_, ops[j], Array.getElem?_eq_getElem hj, hall⟩⟩
        have : j < listed.size := by omega
        simpa [this] using hu
      · simp only [Classical.not_forall] at hall
        obtain ⟨e, he, hbe, hne⟩ := hall
        have h1 := List.all_eq_true.1 hb j (List.mem_range.2 hj)
        rw [Array.getElem?_eq_getElem hj] at h1
        simp only [Option.map_some, Option.getD_some] at h1
        have h2 := Array.all_eq_true_iff_forall_mem.1 h1 e he
        simp [hbe] at h2
        exact ih e.on (by omega) (by omega) (by simpa using hne)
  obtain ⟨i, hi⟩ := key j j (Nat.le_refl _) hj hu
  intro h0
  rw [h0] at hi
  cases hi

theorem down_set {listed : Array Bool} (hd : DownL ops listed) {i : Nat} (hi : i ∈ Region.ready .any ops listed) : DownL ops (listed.setIfInBounds i true) := by
  obtain ⟨_, oi, hoi, hall⟩ := mem_ready.1 hi
  intro k o ho hk e he hb
  by_cases hki : k = i
  · subst hki
    rw [hoi] at ho
    cases ho
    exact getD_set_true (hall e he hb)
  · rw [getD_set_ne false (Ne.symm hki)] at hk
    exact getD_set_true (hd k o ho hk e he hb)

theorem ready_like {ops' : Array Oper} (hsz : ops'.size = ops.size) (ha : ∀ i : Nat, (ops'[i]?).map Oper.after = (ops[i]?).map Oper.after) (listed : Array Bool) : Region.ready .any ops' listed = Region.ready .any ops listed := by
  unfold Region.ready
  rw [hsz]
  refine congrArg (fun f => List.filter f (List.range ops.size)) (funext fun i => ?_)
  have h := ha i
  have e1 : ∀ x : Option Oper, (x.map (fun o => o.after.all fun e => !Region.binds .any e || listed.getD e.on false)) = (x.map Oper.after).map (fun s => s.all fun e => !Region.binds .any e || listed.getD e.on false) := fun x => by cases x <;> rfl
  rw [e1, e1, h]

theorem all_listed {listed : Array Bool} (hs : listed.size = ops.size) (h : ∀ j, j < ops.size → listed.getD j false = true) : Region.ready .any ops listed = [] := by
  cases hr : Region.ready .any ops listed with
  | nil => rfl
  | cons x xs =>
    have hx : x ∈ Region.ready .any ops listed := by rw [hr]; exact List.mem_cons_self ..
    obtain ⟨h0, o, ho, _⟩ := mem_ready.1 hx
    have hlt : x < ops.size := (Array.getElem?_eq_some_iff.1 ho).1
    have h1 := h x hlt
    have : x < listed.size := by omega
    simp [this] at h0 h1
    rw [h0] at h1
    cases h1

end
section
variable {P : Program} {Q : Exit → Act → World → Prop} {S : World → Prop}
/-- Q, but behind all the others: the last operation. -/
def LastQ (P : Program) (ops : Array Oper) (Q : Exit → Act → World → Prop) (m : Nat) : Exit → Act → World → Prop
  | .normal, a, w => wpOp P ops Q m (fun a' w' => Q .normal a' w') a w
  | e, a, w => Q e a w

theorem letsOut_last {ops : Array Oper} {m : Nat} : LetsOut (LastQ P ops Q m) = LetsOut Q := rfl
theorem upon_last {ops : Array Oper} {m : Nat} {o : Oper} {a : Act} {K : Act → World → Prop} (r : Result Next) : o.upon P a K (LastQ P ops Q m) r = o.upon P a K Q r := by
  cases r with
  | ok n w' => cases n <;> rfl
  | _ => rfl
theorem wpOp_last {ops ops' : Array Oper} {m i : Nat} {K : Act → World → Prop} {a : Act} {w : World} (hs : ops'[i]? = ops[i]?) (hy : ∀ tmps, yielded ops' tmps = yielded ops tmps) (h : wpOp P ops' (LastQ P ops Q m) i K a w) : wpOp P ops Q i K a w := by
  unfold wpOp at h ⊢
  rw [hs] at h
  cases ho : ops[i]? with
  | none => simpa [ho] using h
  | some o =>
    simp only [ho, hy] at h ⊢
    unfold Oper.wp at h ⊢
    rw [upon_last, letsOut_last] at h
    exact h

theorem any_last {ops ops' : Array Oper} {m : Nat} (hm : ops.size = m + 1) (hsz : ops'.size = ops.size) (hsame : ∀ i : Nat, i ≠ m → ops'[i]? = ops[i]?) {o' : Oper} (ho' : ops'[m]? = some o') (ha : ∀ i : Nat, (ops'[i]?).map Oper.after = (ops[i]?).map Oper.after)
    (hop : o'.op = .move (.const undef)) (hdst : o'.dst = none) (hgd : o'.guard = none) (hy : ∀ tmps, yielded ops' tmps = yielded ops tmps) (hback : backB ops = true) (hreach : (List.range m).all (fun i => reachB ops (m + 1) m i) = true) :
    ∀ (fuel : Nat) (listed : Array Bool) (a : Act) (w : World), listed.size = ops.size → DownL ops listed → listed.getD m false = false → wpAnyH P .any ops' (LastQ P ops Q m) S fuel listed a w → wpAny P .any ops Q fuel listed a w := by
  intro fuel
  induction fuel with
  | zero =>
    intro listed a w hs hd hu h
    have h0 := h.1
    rw [ready_like hsz ha] at h0
    exact absurd h0 (ready_some hs hback (by omega) hu)
  | succ fuel ih =>
    intro listed a w hs hd hu h
    obtain ⟨_, h1⟩ := h
    rw [ready_like hsz ha] at h1
    have hne := ready_some hs hback (j := m) (by omega) hu
    refine ⟨fun h0 => absurd h0 hne, fun i hir => ?_⟩
    have hq := h1 i hir
    by_cases him : i = m
    · subst him
      obtain ⟨_, oi, hoi, hall⟩ := mem_ready.1 hir
      have hl : ∀ j, j < ops.size → (listed.setIfInBounds i true).getD j false = true := by
        intro j hj
        by_cases hji : j = i
        · subst hji
          have : j < listed.size := by omega
          simp [this]
        · refine getD_set_true (reach_listed hd (i + 1) i j (List.all_eq_true.1 hreach j (List.mem_range.2 (by omega))) (fun o ho e he hb => ?_))
          rw [hoi] at ho
          cases ho
          exact hall e he hb
      have hr0 := all_listed (ops := ops) (listed := listed.setIfInBounds i true) (by simpa using hs) hl
      have hr0' : Region.ready .any ops' (listed.setIfInBounds i true) = [] := by rw [ready_like hsz ha]; exact hr0
      have hk : LastQ P ops Q i .normal a w := by
        unfold wpOp at hq
        simp only [ho'] at hq
        rw [if_pos (by simp [Region.wanted, hgd])] at hq
        have hk' : wpAnyH P .any ops' (LastQ P ops Q i) S fuel (listed.setIfInBounds i true) a w := by
          rcases hq with hq | ⟨hq, _⟩
          · have : (execOp a.eval o').run P w = .ok (.value undef) w := by simp [execOp, hop, Act.eval]
            unfold Oper.wp at hq
            rw [this] at hq
            simpa [Oper.upon, hdst, Act.put] using hq.2
          · exfalso
            simp [Oper.asks, execOp, hop] at hq
            have e : Sem.events P (pure (Next.value (a.eval (Operand.const undef)))) w #[] = #[] := rfl
            rw [e] at hq
            simp at hq
        cases fuel with
        | zero => exact hk'.2
        | succ f => exact hk'.1 hr0'
      refine wpOp_mono (fun a' w' hq' => ?_) (show wpOp P ops Q i (fun a' w' => Q .normal a' w') a w from hk)
      cases fuel with
      | zero => exact ⟨hr0, hq'⟩
      | succ f => exact ⟨fun _ => hq', by rw [hr0]; intro j hj; cases hj⟩
    · exact wpOp_mono (fun a' w' hh => ih _ a' w' (by simpa using hs) (down_set hd hir) (by rw [getD_set_ne false him]; exact hu) hh.2) (wpOp_last (hsame i him) hy hq)

/-- the beginning. -/
theorem wp_region_heldL {id : Nat} {a : Act} {w : World} (pre : List Oper) (o : Oper) (hmx : P.follows .mixedOrders = true) (hdst : o.dst = none) (hgd : o.guard = none) (hback : backB (pre ++ [o]).toArray = true) (hreach : (List.range pre.length).all (fun i => reachB (pre ++ [o]).toArray (pre.length + 1) pre.length i) = true)
    (h : wpAnyH P .any (pre ++ [{ o with op := .move (.const undef) }]).toArray (LastQ P (pre ++ [o]).toArray Q pre.length) S (pre.length + 1) (Array.replicate (pre.length + 1) false) a w.drew) : (Code.region id (pre ++ [o]).toArray true).wp P Q a w := by
  generalize ho' : ({ o with op := .move (.const undef) } : Oper) = o' at h
  have hgl : (pre ++ [o]).toArray[pre.length]? = some o := by simp
  have hgl' : (pre ++ [o']).toArray[pre.length]? = some o' := by simp
  have hget : ∀ i : Nat, i ≠ pre.length → (pre ++ [o']).toArray[i]? = (pre ++ [o]).toArray[i]? := by
    intro i hi
    by_cases h1 : i < pre.length
    · simp [List.getElem?_append_left h1]
    · have : pre.length + 1 ≤ i := by omega
      simp [this]
  have ha : ∀ i : Nat, ((pre ++ [o']).toArray[i]?).map Oper.after = ((pre ++ [o]).toArray[i]?).map Oper.after := by
    intro i
    by_cases hi : i = pre.length
    · subst hi; rw [hgl, hgl', ← ho']; rfl
    · rw [hget i hi]
  have hy : ∀ tmps, yielded (pre ++ [o']).toArray tmps = yielded (pre ++ [o]).toArray tmps := by
    intro tmps
    funext g
    have : ((pre ++ [o']).toArray[g]?).bind Oper.dst = ((pre ++ [o]).toArray[g]?).bind Oper.dst := by
      by_cases hi : g = pre.length
      · subst hi; rw [hgl, hgl', ← ho']; rfl
      · rw [hget g hi]
    unfold yielded
    rw [this]
  refine wp_region_any hmx ?_
  have := any_last (P := P) (Q := Q) (S := S) (ops := (pre ++ [o]).toArray) (ops' := (pre ++ [o']).toArray) (m := pre.length) (by simp) (by simp) hget hgl' ha (by rw [← ho']) (by rw [← ho']; exact hdst) (by rw [← ho']; exact hgd) hy hback hreach (pre.length + 1) (Array.replicate (pre.length + 1) false) a w.drew (by simp)
    (fun i o ho hli => by simp [Array.getElem?_replicate] at hli; split at hli <;> simp at hli) (by simp) h
  simpa using this
/-- the same, the list given whole. -/
theorem wp_region_heldLast {id : Nat} {a : Act} {w : World} (l : List Oper) (hne : l ≠ []) (hmx : P.follows .mixedOrders = true) (hdst : (l.getLast hne).dst = none) (hgd : (l.getLast hne).guard = none) (hback : backB l.toArray = true) (hreach : (List.range l.dropLast.length).all (fun i => reachB l.toArray (l.dropLast.length + 1) l.dropLast.length i) = true)
    (hS : S w.drew) (h : S w.drew → wpAnyH P .any (l.dropLast ++ [{ l.getLast hne with op := .move (.const undef) }]).toArray (LastQ P l.toArray Q l.dropLast.length) S (l.dropLast.length + 1) (Array.replicate (l.dropLast.length + 1) false) a w.drew) : (Code.region id l.toArray true).wp P Q a w := by
  have e := List.dropLast_concat_getLast hne
  have := wp_region_heldL (P := P) (Q := Q) (S := S) (id := id) (a := a) (w := w) l.dropLast (l.getLast hne) hmx hdst hgd (by rw [e]; exact hback) (by rw [e]; exact hreach) (by rw [e]; exact h hS)
  rw [e] at this
  exact this
end
theorem wpOp_of {P : Program} {ops : Array Oper} {Q : Exit → Act → World → Prop} {i : Nat} {K : Act → World → Prop} {a : Act} {w : World} {o : Oper} (ho : ops[i]? = some o) (hg : o.guard = none) (h : o.wp P a w K Q) : wpOp P ops Q i K a w := by
  unfold wpOp
  simp only [ho]
  rw [if_pos (by simp [Region.wanted, hg])]
  exact .inl h
theorem lastQ_of {P : Program} {ops : Array Oper} {Q : Exit → Act → World → Prop} {m : Nat} {a : Act} {w : World} {o : Oper} (ho : ops[m]? = some o) (hg : o.guard = none) (h : o.wp P a w (fun a' w' => Q .normal a' w') Q) : LastQ P ops Q m .normal a w := wpOp_of ho hg h
end Go.Proofs.Ytpbhcbgohgfkcaa.Pl

