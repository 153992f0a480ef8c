/- Something put into a slice of items, wherever: slices.Insert. -/
import Derived.Test.YtjijpcfdkmbgpaaIn
namespace Go.Proofs.Ytjijpcfdkmbgpaa
open Go.RowKit Pl
set_option linter.unusedVariables false

theorem setCells_all : ∀ (vs : List Value) (w : World) (g o : Nat) (cur : Array Value) (e : TypeId), w.heap[g]? = some (.cells cur e (0, 0)) → o + vs.length ≤ cur.size →
    ∃ cur' : Array Value, (w.setCells g o vs).heap[g]? = some (.cells cur' e (0, 0)) ∧ cur'.size = cur.size ∧ ∀ j, cur'[j]? = if o ≤ j ∧ j < o + vs.length then vs[j - o]? else cur[j]? := by
  intro vs
  induction vs with
  | nil => intro w g o cur e hg _; exact ⟨cur, hg, rfl, fun j => by rw [if_neg (by simp only [List.length_nil]; omega)]⟩
  | cons x vs ih =>
    intro w g o cur e hg hs
    simp only [List.length_cons] at hs
    have h1 := heap_setCell_same w g o _ e x hg
    obtain ⟨cur', h2, h3, h4⟩ := ih (w.setCell ⟨g, o, none⟩ x) g (o + 1) _ e h1 (by simp; omega)
    refine ⟨cur', h2, by rw [h3]; simp, fun j => ?_⟩
    rw [h4, Array.getElem?_setIfInBounds]
    by_cases hj : j = o
    · subst hj
      have hjs : j < cur.size := by omega
      rw [if_neg (by omega), if_pos (by simp)]
      simp [hjs]
    · by_cases hj2 : o + 1 ≤ j ∧ j < o + 1 + vs.length
      · rw [if_pos hj2, if_pos (by simp only [List.length_cons]; omega), show j - o = (j - (o + 1)) + 1 by omega, List.getElem?_cons_succ]
      · rw [if_neg hj2, if_neg (fun h => hj h.symm), if_neg (by simp only [List.length_cons]; omega)]

theorem wpList_appendT {P : Program} {w : World} {e : TypeId} {size B n : Nat} {v : Value} {xs : List Value} {ops : Array Oper} {rest : List Oper} {o : Oper} {a : Act} {Q : Exit → Act → World → Prop} (hgd : o.guard = none) (s x : Operand) (t tx : TypeId)
    (ho : o.op = .call { callee := .builtin .append, args := #[s, x], argTypes := #[t, tx] }) (z : Value) (bytes : Nat) (ht : P.underlying t = some (.slice e)) (hinfo : (P.info? e).map (fun i => (i.zero, i.size, i.bytes)) = some (some z, size, bytes))
    (hzs : z.cells.size = size) (hs : a.eval s = v) (h : Sl w e size B v n xs) (u : Value) (m : Nat) (news : List Value) (hx : a.eval x = u) (hsrc : Src P size tx u m news w)
    (h63 : n + m ≤ maxLen) (hbytes : (n + m) * bytes ≤ 140737488355328) (hB : B ≤ w.heap.size)
    (hh : ∀ v' w', Sl w' e size B v' (n + m) (xs ++ news) → w.grownBy w' v.ownBlock → (v'.ownBlock = v.ownBlock ∨ v'.ownBlock = some w.heap.size) → wpList P ops Q rest (a.put o.dst v') w') : wpList P ops Q (o :: rest) a w := by
  refine wpList_plain hgd fun _ hK => ?_
  obtain ⟨i0, hi, hz0, hz1, hz2⟩ := info_parts hinfo
  obtain ⟨v', w', hr, h2, h3, h4⟩ := run_appendS (P := P) t tx o.type i0 z bytes ht hi hz0 hz1 hz2 hzs h u m news hsrc h63 hbytes hB
  unfold Oper.wp execOp
  simp only [ho, resolve, invoke, builtin, Sem.run_bind, Sem.run_pure, Result.andThen_ok, List.map_toArray, List.map_cons, List.map_nil, hs, hx, hr]
  exact hK _ _ (hh v' w' h2 h3 h4)

theorem ItAt.cellsL {w : World} {g : Nat} {y : It} (h : ItAt w g y.1 y.2.1 y.2.2.1 y.2.2.2) : ∀ j v, (cels [y])[j]? = some v → w.cell? ⟨g, j, none⟩ = some v := by
  intro j v hj
  have hl : j < 4 := (List.getElem?_eq_some_iff.1 hj).1
  obtain ⟨c0, c1, c2, c3⟩ := h.cells
  match j, hl with
  | 0, _ => rw [c0, ← hj]; rfl
  | 1, _ => rw [c1, ← hj]; rfl
  | 2, _ => rw [c2, ← hj]; rfl
  | 3, _ => rw [c3, ← hj]; rfl

/-- what putting in leaves. -/
def InsPost (w : World) (B : Nat) (v : Value) (ls : List It) (e : Ending) (w' : World) : Prop :=
  ∃ v', e = .returned v' ∧ SlI w' B v' ls ∧ w.grownBy w' v.ownBlock ∧ (v'.ownBlock = v.ownBlock ∨ ∃ nb, v'.ownBlock = some nb ∧ w.heap.size ≤ nb)

set_option maxRecDepth 100000 in
set_option maxHeartbeats 1000000 in
theorem insert_end (v : Value) (ts : List It) (y : It) (B vb : Nat) (w : World) (hS : SlI w B v ts) (hy : ItAt w vb y.1 y.2.1 y.2.2.1 y.2.2.2) (hl : ts.length ≤ 1048576) (hB : B ≤ w.heap.size) :
    Calls Try.prog 73 #[v, .int .i64 (ts.length : Int), .slice (some ⟨vb, 0, none⟩) 1 1] w (InsPost w B v (ts ++ [y])) := by
  obtain ⟨ao, cap, rfl⟩ := Sl.form hS
  have hsrc : Src Try.prog 4 24 (.slice (some ⟨vb, 0, none⟩) 1 1) 1 (cels [y]) w := Src.ofSlice w Try.underlying24 ⟨vb, 0, none⟩ 1 1 (cels [y]) rfl (fun j u hj => by rw [Addr.add_lit, Nat.zero_add]; exact hy.cellsL j u hj) cels_one
  have HS : Hid (SlI w B (.slice ao ts.length cap) ts) := hS
  have HSR : Hid (Src Try.prog 4 24 (.slice (some ⟨vb, 0, none⟩) 1 1) 1 (cels [y]) w) := hsrc
  have hcap : ts.length ≤ cap := by
    rcases hS.2 with ⟨hv, hn⟩ | ⟨g, off, cap', cur, hv, hb, hg, hc, _⟩
    · omega
    · simp at hv; omega
  clear hS hsrc hy
  go_enter Try.func73, Try.ntmps73
  by_cases hcc : cap = ts.length
  · go_wp2_with (at_builtin; refine wpList_appendT rfl _ _ 69 24 rfl _ 40 Try.underlying69 Try.infoI rfl rfl HS.out _ 1 (cels [y]) rfl HSR.out (by unfold maxLen; omega) (by omega) hB ?_; intro v2 w2 S2 g2 o2)
    go_ret
    refine ⟨_, rfl, ?_, g2, o2.imp id (fun h => ⟨_, h, Nat.le_refl _⟩)⟩
    unfold SlI
    rw [List.length_append, cels_append]
    exact S2
  · go_wp2_with (at_builtin; refine wpList_appendT rfl _ _ 69 24 rfl _ 40 Try.underlying69 Try.infoI rfl rfl HS.out _ 1 (cels [y]) rfl HSR.out (by unfold maxLen; omega) (by omega) hB ?_; intro v2 w2 S2 g2 o2)
    go_ret
    refine ⟨_, rfl, ?_, g2, o2.imp id (fun h => ⟨_, h, Nat.le_refl _⟩)⟩
    unfold SlI
    rw [List.length_append, cels_append]
    exact S2

theorem take_drop_cels (ts : List It) (y : It) (p : Nat) (hp : p ≤ ts.length) (j : Nat) : (cels (ts.take p ++ y :: ts.drop p))[j]? = if j < p * 4 then (cels ts)[j]? else if j < (p + 1) * 4 then (cels [y])[j - p * 4]? else (cels ts)[j - 4]? := by
  have hl : (cels (ts.take p)).length = p * 4 := by rw [cels_length, List.length_take, Nat.min_eq_left hp]
  rw [cels_append, show y :: ts.drop p = [y] ++ ts.drop p from rfl, cels_append, List.getElem?_append, hl]
  by_cases h1 : j < p * 4
  · rw [if_pos h1, if_pos h1, ← cels_take, List.getElem?_take, if_pos h1]
  · rw [if_neg h1, if_neg h1, List.getElem?_append]
    have hy : (cels [y]).length = 4 := rfl
    rw [hy]
    by_cases h2 : j < (p + 1) * 4
    · rw [if_pos h2, if_pos (by omega)]
    · rw [if_neg h2, if_neg (by omega), ← cels_drop, List.getElem?_drop]
      congr 1
      omega

theorem shift_cells {cur c1 c2 : Array Value} {ts : List It} {y : It} {p off k : Nat} (hp : p ≤ ts.length) (htk : ∀ j, j < p * 4 → cur[k + j]? = (cels ts)[j]?)
    (q3 : ∀ j, c1[j]? = if k + (p + 1) * 4 ≤ j ∧ j < k + (p + 1) * 4 + ((cels ts).drop (p * 4)).length then ((cels ts).drop (p * 4))[j - (k + (p + 1) * 4)]? else cur[j]?)
    (r3 : ∀ j, c2[j]? = if k + p * 4 ≤ j ∧ j < k + p * 4 + (cels [y]).length then (cels [y])[j - (k + p * 4)]? else c1[j]?) (j : Nat) (hj : j < (ts.length + 1) * 4) :
    c2[k + j]? = (cels (ts.take p ++ y :: ts.drop p))[j]? := by
  have hcl := cels_length ts
  have hy4 : (cels [y]).length = 4 := rfl
  rw [r3, q3, take_drop_cels ts y p hp, List.length_drop, hy4]
  by_cases h1 : j < p * 4
  · rw [if_neg (by omega), if_neg (by omega), if_pos h1, htk j h1]
  · rw [if_neg h1]
    by_cases h2 : j < (p + 1) * 4
    · rw [if_pos (by omega), if_pos h2, show k + j - (k + p * 4) = j - p * 4 by omega]
    · rw [if_neg (by omega), if_pos (by omega), if_neg h2, List.getElem?_drop, show p * 4 + (k + j - (k + (p + 1) * 4)) = j - 4 by omega]
theorem grown_tr2 {a b c : World} {row : Option Nat} (h : a.grownBy b row) (k : b.grownBy c row) : a.grownBy c row :=
  ⟨k.os.trans h.os, k.tape.trans h.tape, k.output.trans h.output, Nat.le_trans h.size k.size, fun i hi hn => (k.block i (Nat.lt_of_lt_of_le hi h.size) hn).trans (h.block i hi hn)⟩
theorem grown_drew {a b : World} {row : Option Nat} (h : a.drew.grownBy b row) : a.grownBy b row := ⟨h.os, h.tape, h.output, h.size, fun i hi hn => h.block i hi hn⟩
theorem drew_grown {a b : World} {row : Option Nat} (h : a.grownBy b row) : a.grownBy b.drew row := ⟨h.os, h.tape, h.output, h.size, fun i hi hn => h.block i hi hn⟩

set_option maxHeartbeats 2000000 in
theorem insert_any (v : Value) (ts : List It) (p : Nat) (y : It) (B vb : Nat) (w : World) (hS : SlI w B v ts) (hy : ItAt w vb y.1 y.2.1 y.2.2.1 y.2.2.2) (hne : ∀ k, v.ownBlock = some k → k ≠ vb) (hl : ts.length ≤ 1048576) (hB : B ≤ w.heap.size) (hp : p ≤ ts.length) :
    Calls Try.prog 73 #[v, .int .i64 (p : Int), .slice (some ⟨vb, 0, none⟩) 1 1] w (InsPost w B v (ts.take p ++ y :: ts.drop p)) := by
  by_cases hpe : p = ts.length
  · subst hpe
    rw [List.take_length, List.drop_length]
    exact insert_end v ts y B vb w hS hy hl hB
  have hpl : p < ts.length := by omega
  have hlen : (ts.take p ++ y :: ts.drop p).length = ts.length + 1 := by simp; omega
  rcases hS.2 with ⟨hv, hn⟩ | ⟨g, off, cap, cur, rfl, hb, hg, hc, hm, hcs, htk⟩
  · omega
  have hgl : g < w.heap.size := (Array.getElem?_eq_some_iff.1 hg).1
  have hcl := cels_length ts
  have hcell : ∀ j u, (cels ts)[j]? = some u → w.cell? ⟨g, off + j, none⟩ = some u := fun j u hj => by
    rw [cell_of_row w g _ _ 26 (0, 0) hg, htk j (by rw [← hcl]; exact (List.getElem?_eq_some_iff.1 hj).1), hj]
  have hm' : cap ≤ 9223372036854775807 := by unfold maxLen at hm; omega
  by_cases hroom : ts.length + 1 ≤ cap
  · refine (insert_shift g off ts.length cap p vb (cels ts) (cels [y]) w hpl hroom hm' (fun e => hne g rfl e.symm) hcl rfl hcell
      (fun j hj => by
        rw [cell_of_row w g _ _ 26 (0, 0) hg, Array.getElem?_eq_getElem (by omega)]; rfl)
      (fun j => frozen_of_row w g j _ 26 hg) hy.cellsL cels_one cels_one 26 26 cur.size ?_ ?_ (by omega) (fun j => frozen_of_row w vb j _ 26 hy)).mono ?_
    · simp [World.shape?, show w.heap[vb]? = _ from hy]
    · simp [World.shape?, hg]
    · rintro e w' ⟨rfl, rfl⟩
      obtain ⟨c1, q1, q2, q3⟩ := setCells_all ((cels ts).drop (p * 4)) w.drew g (off + (p + 1) * 4) cur 26 hg (by rw [List.length_drop]; omega)
      obtain ⟨c2, r1, r2, r3⟩ := setCells_all (cels [y]) _ g (off + p * 4) c1 26 q1 (by show off + p * 4 + 4 ≤ _; omega)
      refine ⟨_, rfl, ⟨by rw [cels_length], .inr ⟨g, off, cap, c2, by rw [hlen], hb, r1, by rw [hlen]; omega, hm, by omega, fun j hj => ?_⟩⟩, ?_, .inl rfl⟩
      · rw [hlen] at hj
        exact shift_cells (off := off) hp (fun j hj => htk j (by omega)) q3 r3 j hj
      · exact grown_tr2 (grown_drew (setCells_grown ((cels ts).drop (p * 4)) w.drew g _)) (setCells_grown _ _ _ _)
  · refine (insert_grow g off ts.length cap p vb (cels ts) (cels [y]) w hpl hc (by omega) hl hcl rfl hcell hy.cellsL cels_one cels_one).mono ?_
    rintro e w' ⟨rfl, rfl⟩
    obtain ⟨ROW, hROW⟩ : ∃ ROW : Array Value, ROW = ((cels ts).take (p * 4)).toArray ++ Builtin.zeroCells zc.cells (ts.length + 1 - p) ++ Builtin.zeroCells zc.cells (grownCap w (ts.length + 1) cap 26 - (ts.length + 1)) := ⟨_, rfl⟩
    rw [← hROW]
    have hGn : ts.length + 1 ≤ grownCap w (ts.length + 1) cap 26 := grownCap_ge w _ _ _
    have hG63 : grownCap w (ts.length + 1) cap 26 ≤ maxLen := grownCap_le_maxLen w (ts.length + 1) cap 26 (by unfold maxLen; omega)
    generalize grownCap w (ts.length + 1) cap 26 = G at *
    have hRl : ROW.size = G * 4 := by
      rw [hROW]
      simp only [Array.size_append, List.size_toArray, size_zeroCells, List.length_take]
      have hzz : zc.cells.size = 4 := rfl
      rw [hzz]
      omega
    have hRc : ∀ j, j < p * 4 → ROW[0 + j]? = (cels ts)[j]? := fun j hj => by
      rw [hROW, Nat.zero_add, Array.append_assoc, Array.getElem?_append_left (by simp; omega)]
      simp [hj]
    have h0 : ((w.alloc (.cells ROW 26)).drew).heap[w.heap.size]? = some (.cells ROW 26 (0, 0)) := heap_alloc_new w _
    obtain ⟨c1, q1, q2, q3⟩ := setCells_all (cels [y]) _ w.heap.size (p * 4) ROW 26 h0 (by show p * 4 + 4 ≤ _; omega)
    have q1' : ((((w.alloc (.cells ROW 26)).drew).setCells w.heap.size (p * 4) (cels [y])).drew).heap[w.heap.size]? = some (.cells c1 26 (0, 0)) := q1
    obtain ⟨c2, r1, r2, r3⟩ := setCells_all ((cels ts).drop (p * 4)) _ w.heap.size ((p + 1) * 4) c1 26 q1' (by rw [List.length_drop]; omega)
    refine ⟨_, rfl, ⟨by rw [cels_length], .inr ⟨w.heap.size, 0, G, c2, by rw [hlen], hB, r1, by rw [hlen]; exact hGn, hG63, by omega, fun j hj => ?_⟩⟩, ?_, .inr ⟨_, rfl, Nat.le_refl _⟩⟩
    · rw [hlen] at hj
      rw [Nat.zero_add]
      have hy4 : (cels [y]).length = 4 := rfl
      rw [r3, q3, take_drop_cels ts y p hp, List.length_drop, hy4]
      by_cases h1 : j < p * 4
      · rw [if_neg (by omega), if_neg (by omega), if_pos h1]
        have := hRc j h1
        rwa [Nat.zero_add] at this
      · rw [if_neg h1]
        by_cases h2 : j < (p + 1) * 4
        · rw [if_neg (by omega), if_pos (by omega), if_pos h2]
        · rw [if_pos (by omega), if_neg h2, List.getElem?_drop, show p * 4 + (j - (p + 1) * 4) = j - 4 by omega]
    · have G1 := setCells_grown (cels [y]) (w.alloc (.cells ROW 26)).drew w.heap.size (p * 4)
      have G2 := setCells_grown ((cels ts).drop (p * 4)) (((w.alloc (.cells ROW 26)).drew).setCells w.heap.size (p * 4) (cels [y])).drew w.heap.size ((p + 1) * 4)
      have hsz : (w.alloc (.cells ROW 26)).drew.heap.size = w.heap.size + 1 := by show (w.alloc (.cells ROW 26)).heap.size = _; simp
      have z1 : w.heap.size + 1 ≤ (((w.alloc (.cells ROW 26)).drew).setCells w.heap.size (p * 4) (cels [y])).heap.size := by rw [← hsz]; exact G1.size
      have z2 : w.heap.size + 1 ≤ ((((w.alloc (.cells ROW 26)).drew).setCells w.heap.size (p * 4) (cels [y])).drew.setCells w.heap.size ((p + 1) * 4) ((cels ts).drop (p * 4))).heap.size := Nat.le_trans z1 G2.size
      refine ⟨G2.os.trans G1.os, G2.tape.trans G1.tape, G2.output.trans G1.output, by omega, fun k hk hne => ?_⟩
      have hkn : some k ≠ some w.heap.size := by intro h; simp at h; omega
      refine (G2.block k (Nat.lt_of_lt_of_le (by omega : k < w.heap.size + 1) z1) hkn).trans ?_
      refine (G1.block k (by omega) hkn).trans ?_
      exact heap_alloc_old w _ hk
end Go.Proofs.Ytjijpcfdkmbgpaa
