/- One element put behind a slice. -/
import Derived.Test.YtohagaelenhebaaLk
namespace Go.Proofs.Ytohagaelenhebaa.Pl
open Go Go.RowKit
set_option linter.unusedVariables false

theorem src_new {P : Program} {W : World} {e e' tx : TypeId} {size H : Nat} (hk : P.underlying tx = some (.slice e')) (hH : W.heap.size = H) (news : List Value) (hl : news.length = size) (h1 : ∀ u ∈ news, u.oneCell' = true) :
    Src P size tx (.slice (some ⟨H, 0, none⟩) 1 1) 1 news (W.alloc (.cells news.toArray e)) := by
  subst hH
  refine Src.ofSlice _ hk ⟨W.heap.size, 0, none⟩ 1 1 news (by rw [hl, Nat.one_mul]) (fun j u hu => ?_) h1
  have ha : (⟨W.heap.size, 0, none⟩ : Addr).add j = ⟨W.heap.size, j, none⟩ := by unfold Addr.add; split <;> simp_all
  rw [ha, cell_of_row _ W.heap.size j _ e (0, 0) (heap_alloc_new W _)]
  simpa using hu

theorem grown_after {W w' : World} {o : Obj} {row : Option Nat} (h : (W.alloc o).grownBy w' row) : W.grownBy w' row := by
  have h1 : W.grownBy (W.alloc o) row := World.grownBy_alloc W o row
  exact ⟨h.os.trans h1.os, h.tape.trans h1.tape, h.output.trans h1.output, Nat.le_trans h1.size h.size, fun k hk hne => (h.block k (Nat.lt_of_lt_of_le hk h1.size) hne).trans (h1.block k hk hne)⟩

section
variable {P : Program} {W : World} {B H : Nat} {v : Value} {ops : Array Oper} {rest : List Oper} {o : Oper} {a : Act} {Q : Exit → Act → World → Prop}
/-- one element: what is asked and what is had, at 'Oper.wp'. -/
theorem wp_pushE {e t : TypeId} {size n : Nat} {xs : List Value} {K : Act → World → Prop} (s x : Operand) (ho : o.op = .call { callee := .builtin .append, args := #[s, x], argTypes := #[t, t] }) (z : Value) (bytes : Nat)
    (ht : P.underlying t = some (.slice e)) (hinfo : (P.info? e).map (fun i => (i.zero, i.size, i.bytes)) = some (some z, size, bytes)) (hzs : z.cells.size = size) (hs : a.eval s = v) (h : Sl W e size B v n xs) (news : List Value) (hnl : news.length = size) (h1 : ∀ u ∈ news, u.oneCell' = true)
    (hH : W.heap.size = H) (hx : a.eval x = .slice (some ⟨H, 0, none⟩) 1 1) (hn : n < 4000000) (hby : bytes ≤ 1000) (hB : B ≤ W.heap.size)
    (hh : ∀ v' w', Sl w' e size B v' (n + 1) (xs ++ news) → W.grownBy w' v.ownBlock → W.heap.size + 1 ≤ w'.heap.size → (v'.ownBlock = v.ownBlock ∨ v'.ownBlock = some (H + 1)) → K (a.put o.dst v') w') : o.wp P a (W.alloc (.cells news.toArray e)) K Q := by
  refine wp_appendS s x t ho z bytes ht hinfo hzs hs (h.alloc _) _ 1 news hx (src_new ht hH news hnl h1) (by unfold maxLen; omega) ?_ (by simp; omega) ?_
  · have : (n + 1) * bytes ≤ 4000000 * 1000 := Nat.mul_le_mul (by omega) hby
    omega
  · intro v' w' h2 h3 h4
    refine hh v' w' h2 (grown_after h3) (by have := h3.size; simpa using this) ?_
    rcases h4 with h4 | h4
    · exact .inl h4
    · exact .inr (by rw [h4, ← hH]; simp)

theorem wpList_pushT {ss : List ByteArray} (hgd : o.guard = none) (s x : Operand) (t : TypeId) (ho : o.op = .call { callee := .builtin .append, args := #[s, x], argTypes := #[t, t] })
    (ht : P.underlying t = some (.slice 9)) (hinfo : (P.info? 9).map (fun i => (i.zero, i.size, i.bytes)) = some (some (.string ⟨#[]⟩), 1, 16)) (hs : a.eval s = v) (h : SlT W B v ss) (b : ByteArray)
    (hH : W.heap.size = H) (hx : a.eval x = .slice (some ⟨H, 0, none⟩) 1 1) (hn : ss.length < 4000000) (hB : B ≤ W.heap.size)
    (hh : ∀ v' w', SlT w' B v' (ss ++ [b]) → W.grownBy w' v.ownBlock → W.heap.size + 1 ≤ w'.heap.size → (v'.ownBlock = v.ownBlock ∨ v'.ownBlock = some (H + 1)) → wpList P ops Q rest (a.put o.dst v') w') : wpList P ops Q (o :: rest) a (W.alloc (.cells #[.string b] 9)) := by
  refine wpList_plain hgd fun _ hK => wp_pushE s x ho (.string ⟨#[]⟩) 16 ht hinfo rfl hs h [.string b] rfl (fun u hu => by simp at hu; subst hu; rfl) hH hx hn (by omega) hB fun v' w' h2 h3 h4 h5 => hK _ _ (hh v' w' ?_ h3 h4 h5)
  unfold SlT
  simpa using h2

theorem wpList_pushP {ps : List Pc} (hgd : o.guard = none) (s x : Operand) (t : TypeId) (ho : o.op = .call { callee := .builtin .append, args := #[s, x], argTypes := #[t, t] })
    (ht : P.underlying t = some (.slice 41)) (hinfo : (P.info? 41).map (fun i => (i.zero, i.size, i.bytes)) = some (some (.agg #[.int .i64 0, .int .i64 0, .string ⟨#[]⟩]), 3, 32)) (hs : a.eval s = v) (h : SlP W B v ps) (p : Pc)
    (hH : W.heap.size = H) (hx : a.eval x = .slice (some ⟨H, 0, none⟩) 1 1) (hn : ps.length < 4000000) (hB : B ≤ W.heap.size)
    (hh : ∀ v' w', SlP w' B v' (ps ++ [p]) → W.grownBy w' v.ownBlock → W.heap.size + 1 ≤ w'.heap.size → (v'.ownBlock = v.ownBlock ∨ v'.ownBlock = some (H + 1)) → wpList P ops Q rest (a.put o.dst v') w') : wpList P ops Q (o :: rest) a (W.alloc (.cells #[.int .i64 p.1, .int .i64 p.2.1, .string p.2.2] 41)) := by
  refine wpList_plain hgd fun _ hK => wp_pushE s x ho (.agg #[.int .i64 0, .int .i64 0, .string ⟨#[]⟩]) 32 ht hinfo rfl hs h [.int .i64 p.1, .int .i64 p.2.1, .string p.2.2] rfl (fun u hu => by simp at hu; rcases hu with rfl | rfl | rfl <;> rfl) hH hx hn (by omega) hB fun v' w' h2 h3 h4 h5 => hK _ _ (hh v' w' ?_ h3 h4 h5)
  unfold SlP
  rw [cellsP_append, List.length_append]
  simpa [cellsP] using h2

/-- .. at a step of a statement that leaves its order open. -/
theorem step_pushT {ss : List ByteArray} {K : Act → World → Prop} {E : Prop} (hgd : o.guard = none) (s x : Operand) (t : TypeId) (ho : o.op = .call { callee := .builtin .append, args := #[s, x], argTypes := #[t, t] })
    (ht : P.underlying t = some (.slice 9)) (hinfo : (P.info? 9).map (fun i => (i.zero, i.size, i.bytes)) = some (some (.string ⟨#[]⟩), 1, 16)) (hs : a.eval s = v) (h : SlT W B v ss) (b : ByteArray)
    (hH : W.heap.size = H) (hx : a.eval x = .slice (some ⟨H, 0, none⟩) 1 1) (hn : ss.length < 4000000) (hB : B ≤ W.heap.size)
    (hh : ∀ v' w', SlT w' B v' (ss ++ [b]) → W.grownBy w' v.ownBlock → W.heap.size + 1 ≤ w'.heap.size → (v'.ownBlock = v.ownBlock ∨ v'.ownBlock = some (H + 1)) → K (a.put o.dst v') w') :
    if Region.wanted o (yielded ops a.tmps) = true then Oper.wp P o a (W.alloc (.cells #[.string b] 9)) K Q else E := by
  rw [if_pos (by simp [Region.wanted, hgd])]
  refine wp_pushE s x ho (.string ⟨#[]⟩) 16 ht hinfo rfl hs h [.string b] rfl (fun u hu => by simp at hu; subst hu; rfl) hH hx hn (by omega) hB fun v' w' h2 h3 h4 h5 => hh v' w' ?_ h3 h4 h5
  unfold SlT
  simpa using h2
theorem step_pushP {ps : List Pc} {K : Act → World → Prop} {E : Prop} (hgd : o.guard = none) (s x : Operand) (t : TypeId) (ho : o.op = .call { callee := .builtin .append, args := #[s, x], argTypes := #[t, t] })
    (ht : P.underlying t = some (.slice 41)) (hinfo : (P.info? 41).map (fun i => (i.zero, i.size, i.bytes)) = some (some (.agg #[.int .i64 0, .int .i64 0, .string ⟨#[]⟩]), 3, 32)) (hs : a.eval s = v) (h : SlP W B v ps) (p : Pc)
    (hH : W.heap.size = H) (hx : a.eval x = .slice (some ⟨H, 0, none⟩) 1 1) (hn : ps.length < 4000000) (hB : B ≤ W.heap.size)
    (hh : ∀ v' w', SlP w' B v' (ps ++ [p]) → W.grownBy w' v.ownBlock → W.heap.size + 1 ≤ w'.heap.size → (v'.ownBlock = v.ownBlock ∨ v'.ownBlock = some (H + 1)) → K (a.put o.dst v') w') :
    if Region.wanted o (yielded ops a.tmps) = true then Oper.wp P o a (W.alloc (.cells #[.int .i64 p.1, .int .i64 p.2.1, .string p.2.2] 41)) K Q else E := by
  rw [if_pos (by simp [Region.wanted, hgd])]
  refine wp_pushE s x ho (.agg #[.int .i64 0, .int .i64 0, .string ⟨#[]⟩]) 32 ht hinfo rfl hs h [.int .i64 p.1, .int .i64 p.2.1, .string p.2.2] rfl (fun u hu => by simp at hu; rcases hu with rfl | rfl | rfl <;> rfl) hH hx hn (by omega) hB fun v' w' h2 h3 h4 h5 => hh v' w' ?_ h3 h4 h5
  unfold SlP
  rw [cellsP_append, List.length_append]
  simpa [cellsP] using h2
end
end Go.Proofs.Ytohagaelenhebaa.Pl
