/- One int put behind an own slice: which block it lies in then; an own slice sorted. -/
import Derived.Test.YtlfgglmgajcpoaaPp
import Derived.Test.YtlfgglmgajcpoaaOwI
import Derived.Test.YtlfgglmgajcpoaaSrt
import Derived.Sort.OwnSortedInts
import Derived.Test.YtlfgglmgajcpoaaDl
namespace Go.Proofs.Ytlfgglmgajcpoaa
open Go.RowKit Pl
set_option linter.unusedVariables false

theorem wpList_pushIg {P : Program} {w : World} {ops : Array Oper} {rest : List Oper} {o : Oper} {a : Act} {Q : Exit → Act → World → Prop}
    (hgd : o.guard = none) (s x : Operand) (t : TypeId) (ho : o.op = .call { callee := .builtin .append, args := #[s, x], argTypes := #[t, t] })
    (ht : P.underlying t = some (.slice 3)) (hinfo : (P.info? 3).map (fun i => (i.zero, i.size, i.bytes)) = some (some (.int .i64 0), 1, 8))
    (B : Nat) (v : Value) (xs : List Int) (hs : a.eval s = v) (hown : OwnI w B v xs) (b : Int)
    (hx : a.eval x = .slice (some ⟨w.heap.size, 0, none⟩) 1 1) (hn : xs.length < 4000000) (hB : B ≤ w.heap.size)
    (h : ∀ v' w', OwnI w' B v' (xs ++ [b]) → w.grownBy w' v.ownBlock → (v'.ownBlock = v.ownBlock ∨ v'.ownBlock = some (w.heap.size + 1)) → wpList P ops Q rest (a.put o.dst v') w') :
    wpList P ops Q (o :: rest) a (w.alloc (.cells #[.int .i64 b] 3)) := by
  obtain ⟨i0, hi, hz0, hz1, hz2⟩ := info_parts hinfo
  have hsrc : Src P 1 t (.slice (some ⟨w.heap.size, 0, none⟩) 1 1) 1 [.int .i64 b] (w.alloc (.cells #[.int .i64 b] 3)) := src_new ht rfl [.int .i64 b] rfl (fun u hu => by simp at hu; subst hu; rfl)
  obtain ⟨v1, w1, hr1, _, hg1, hb1⟩ := run_appendS (P := P) t t o.type i0 (.int .i64 0) 8 ht hi hz0 hz1 hz2 rfl (Sl.ofOwn (World.ownsRow.alloc hown _)) (.slice (some ⟨w.heap.size, 0, none⟩) 1 1) 1 [.int .i64 b] hsrc (by unfold maxLen; omega) (by omega) (show B ≤ (w.alloc (.cells #[.int .i64 b] 3)).heap.size by simp; omega)
  obtain ⟨v2, w2, hr2, hO2, _, _⟩ := run_append_own (P := P) (w.alloc (.cells #[.int .i64 b] 3)) B t o.type 3 i0 (.int .i64 0) 1 8 ht hi hz0 hz1 hz2 rfl (by decide) v xs.length (xs.map (Value.int .i64)) (World.ownsRow.alloc hown _) ⟨w.heap.size, 0, none⟩ 1 1 [.int .i64 b] rfl (fun j u hj => by
    match j, hj with
    | 0, hj => simp at hj; subst hj; simp [Addr.add]) (fun u hu => by simp at hu; subst hu; rfl) (by unfold maxLen; omega) (by omega) (by simp; omega)
  rw [hr1] at hr2
  injection hr2 with e1 e2
  subst e1
  subst e2
  refine wpList_plain hgd fun K hK => ?_
  unfold Oper.wp execOp
  simp only [ho, resolve, invoke, builtin, Sem.run_bind, Sem.run_pure, Result.andThen_ok, List.map_toArray, List.map_cons, List.map_nil, hs, hx, hr1]
  refine hK _ _ (h v1 w1 ?_ (grown_after hg1) ?_)
  · simpa [OwnI] using hO2
  · rcases hb1 with hb1 | hb1
    · exact .inl hb1
    · exact .inr (by rw [hb1]; simp)

theorem sortOwn (B g n cap : Nat) (zs : List Int) (w : World) (h : OwnI w B (.slice (some ⟨g, 0, none⟩) n cap) zs) (hn : zs.length = n) (hl : n ≤ 1000) :
    Calls Try.prog 49 #[.slice (some ⟨g, 0, none⟩) n cap] w fun e w' => (∃ u, e = .returned u) ∧ OwnI w' B (.slice (some ⟨g, 0, none⟩) n cap) (zs.mergeSort fun x y => decide (x ≤ y)) ∧ w.grownBy w' (some g) := by
  subst hn
  rcases h.2 with ⟨hnil, _⟩ | ⟨g', cap2, cur, hv, hbase, hbk, h1, h2, h3, h4⟩
  · simp at hnil
  simp at hv
  obtain ⟨rfl, rfl⟩ := hv
  have hH : Go.Sort.Holds (Value.int .i64) w g 0 zs.toArray := Go.holds_of_blockI hbk (by rw [Nat.mul_one] at h4; exact h4)
  refine (sort_any g 0 cap zs w hH (Array.getElem?_eq_some_iff.1 hbk).1 (by omega)).mono ?_
  rintro e w3 ⟨rfl, nn, os, rfl⟩
  have hml : (zs.mergeSort fun x y => decide (x ≤ y)).length = zs.length := by rw [List.length_mergeSort]
  refine ⟨⟨_, rfl⟩, ?_, Go.grownBy_sortedI _⟩
  have := Go.ownsRow_sortedI (n := nn) (os := os) (ts := zs.mergeSort fun x y => decide (x ≤ y)) (ss := zs) hml hbase hbk h1 h2 h3
  unfold OwnI
  rw [hml]
  exact this
end Go.Proofs.Ytlfgglmgajcpoaa
