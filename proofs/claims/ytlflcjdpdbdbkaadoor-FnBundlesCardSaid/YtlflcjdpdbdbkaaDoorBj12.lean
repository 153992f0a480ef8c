/- Joined texts: Bx. -/
import Derived.Test.YtlflcjdpdbdbkaaDoorChecked
import Derived.Test.YtlflcjdpdbdbkaaDoorBj2
import Derived.Test.YtlflcjdpdbdbkaaDoorBj9
import Derived.Deep.MidRow
/- Structs that lie in blocks of their own: what they hold, what is stored into them, what leaves them. -/
namespace Go.Proofs.YtlflcjdpdbdbkaaDoor
open Go.RowKit Pl
set_option linter.unusedVariables false

/-- a slice. -/
structure Sv where
  a : Option Addr
  n : Nat
  c : Nat
def Sv.v (s : Sv) : Value := .slice s.a s.n s.c
/-- the block g holds these cells. -/
def Bx (w : World) (g : Nat) (T : TypeId) (cs : List Value) : Prop := w.heap[g]? = some (.cells cs.toArray T (0, 0))
section
variable {w w' : World} {g T : Nat} {cs : List Value}
theorem Bx.new (w : World) (T : TypeId) (cs : List Value) : Bx (w.alloc (.cells cs.toArray T)) w.heap.size T cs := heap_alloc_new w _
theorem Bx.cell (h : Bx w g T cs) (k : Nat) : w.cell? ⟨g, k, none⟩ = cs[k]? := by
  rw [cell_of_row w g k _ T (0, 0) h]; simp
theorem Bx.frozen (h : Bx w g T cs) (k : Nat) : w.frozen? ⟨g, k, none⟩ = false := frozen_of_row w g k _ T h
theorem Bx.lt (h : Bx w g T cs) : g < w.heap.size := (Array.getElem?_eq_some_iff.1 h).1
theorem Bx.stays {B : Nat} (h : Bx w g T cs) (hb : Below B w w') (hg : g < B) : Bx w' g T cs := (hb.block g hg).trans h
theorem Bx.later (h : Bx w g T cs) (hb : Below w.heap.size w w') : Bx w' g T cs := h.stays hb h.lt
theorem Bx.set (h : Bx w g T cs) (k : Nat) (u : Value) : Bx (w.setCell ⟨g, k, none⟩ u) g T (cs.set k u) := by
  have := heap_setCell_same w g k _ T u h
  simpa [Bx] using this
theorem Bx.turn {k : Nat} (h : Bx w g T cs) (ht : TurnAt k w w') (hne : g ≠ k) : Bx w' g T cs := (ht.block g hne).trans h
theorem Bx.other {k j : Nat} {u : Value} (h : Bx w g T cs) (hne : g ≠ k) : Bx (w.setCell ⟨k, j, none⟩ u) g T cs := (Below.heap_setCell w ⟨k, j, none⟩ u g hne).trans h
theorem Bx.grown {row : Option Nat} (h : Bx w g T cs) (hg : w.grownBy w' row) (hne : some g ≠ row) : Bx w' g T cs := (hg.block g h.lt hne).trans h
end

def RT (w : World) (v : Value) (xs : List ByteArray) : Prop := ∃ ao cap, v = .slice ao xs.length cap ∧ TextsAt w ao xs
section
variable {w w' : World} {v : Value}
theorem RT.stays {xs : List ByteArray} (h : RT w v xs) (hb : Below w.heap.size w w') : RT w' v xs := by obtain ⟨a, c, h1, h2⟩ := h; exact ⟨a, c, h1, h2.stays hb⟩
theorem Pl.OwnS.rt {B : Nat} {xs : List ByteArray} (h : OwnS w B v xs) : RT w v xs := h.texts
/-- two values that don't share a block. -/
def Ap (a b : Value) : Prop := ∀ k, a.ownBlock = some k → b.ownBlock ≠ some k
theorem Ap.symm {a b : Value} (h : Ap a b) : Ap b a := fun k hb ha => h k ha hb
theorem ap_none (b : Value) (n c : Nat) : Ap (.slice none n c) b := fun k h => by cases h
theorem ap_none' (a : Value) (n c : Nat) : Ap a (.slice none n c) := (ap_none a n c).symm
/-- the one lies below, the other one behind. -/
theorem ap_lt {a b : Value} {B : Nat} (ha : ∀ k, a.ownBlock = some k → k < B) (hb : ∀ k, b.ownBlock = some k → B ≤ k) : Ap a b := fun k h1 h2 => by have := ha k h1; have := hb k h2; omega
theorem own_is_s {w : World} {B : Nat} {v : Value} {xs : List ByteArray} (h : OwnS w B v xs) {k : Nat} (hk : v.ownBlock = some k) : ∃ cs, w.heap[k]? = some (.cells cs 9 (0, 0)) := by
  rcases h.2 with ⟨rfl, _⟩ | ⟨g, cap, cur, rfl, _, hg, _⟩
  · cases hk
  · cases hk; exact ⟨_, hg⟩
theorem bx_s_ne {w : World} {B g T : Nat} {a : Value} {xs : List ByteArray} {cs : List Value} (h : OwnS w B a xs) (k : Bx w g T cs) (hT : T ≠ 9) : a.ownBlock ≠ some g := fun h1 => by
  obtain ⟨_, e1⟩ := own_is_s h h1; unfold Bx at k; rw [e1] at k; simp at k; exact hT k.2.symm
end
section
theorem Pl.OwnS.keep' {w w' : World} {B : Nat} {v : Value} {ss : List ByteArray} (h : OwnS w B v ss) (hk : ∀ k, v.ownBlock = Option.some k → k < w.heap.size → w'.heap[k]? = w.heap[k]?) : OwnS w' B v ss := by
  refine ⟨h.1, ?_⟩
  rcases h.2 with hn | ⟨g, cap, cur, rfl, hbg, hg, rest⟩
  · exact .inl hn
  · exact .inr ⟨g, cap, cur, rfl, hbg, (hk g rfl (Array.getElem?_eq_some_iff.1 hg).1).trans hg, rest⟩
end

section
variable {P : Program} {ops : Array Oper} {rest : List Oper} {o : Oper} {a : Act} {w : World} {Q : Exit → Act → World → Prop}
theorem Bx.range {g T : Nat} {all : List Value} (h : Bx w g T all) (off : Nat) (cs : List Value) (hp : (all.drop off).take cs.length = cs) : w.rangeAt g off cs := by
  intro j v hv
  rw [h.cell]
  have hj : j < cs.length := (List.getElem?_eq_some_iff.1 hv).1
  rw [← hp, List.getElem?_take, if_pos hj, List.getElem?_drop] at hv
  exact hv
theorem Bx.there {g T : Nat} {all : List Value} (h : Bx w g T all) (off n : Nat) (hn : off + n ≤ all.length) : w.there g off n := fun j hj => by
  refine ⟨?_, h.frozen _⟩
  rw [h.cell, List.getElem?_eq_getElem (by omega)]
  rfl
theorem setCells_list : ∀ (vs : List Value) (w : World) (g o T : Nat) (all : List Value), Bx w g T all → o + vs.length ≤ all.length → Bx (w.setCells g o vs) g T (all.take o ++ vs ++ all.drop (o + vs.length)) := by
  intro vs
  induction vs with
  | nil => intro w g o T all h _; simpa [World.setCells] using h
  | cons x vs ih =>
    intro w g o T all h hl
    simp only [List.length_cons] at hl
    have h1 := h.set o x
    have h2 := ih _ g (o + 1) T _ h1 (by simp; omega)
    rw [World.setCells]
    have e : (all.set o x).take (o + 1) ++ vs ++ (all.set o x).drop (o + 1 + vs.length) = all.take o ++ x :: vs ++ all.drop (o + (x :: vs).length) := by
      rw [List.drop_set, if_pos (by omega), List.take_set]
      have e1 : (all.take (o + 1)).set o x = all.take o ++ [x] := by
        rw [List.take_succ_eq_append_getElem (by omega), List.set_append, if_neg (by rw [List.length_take]; omega)]
        simp [List.length_take, Nat.min_eq_left (show o ≤ all.length by omega)]
      rw [e1]
      simp [Nat.add_assoc, Nat.add_comm 1 vs.length]
    rw [e] at h2
    exact h2
theorem setCells_turn : ∀ (vs : List Value) (w : World) (g o : Nat), TurnAt g w (w.setCells g o vs) := by
  intro vs
  induction vs with
  | nil => intro w g o; exact TurnAt.refl _ _
  | cons x vs ih =>
    intro w g o
    rw [World.setCells]
    exact ((TurnAt.refl g w).setCell o x).trans (ih _ g (o + 1))

/-- a struct in a box, or a part of it, is loaded. -/
theorem wpList_ldB (hgd : o.guard = none) (ty : TypeId) (x : Operand) (ho : o.op = .load ty x) (g off : Nat) (hx : a.eval x = .pointer (some ⟨g, off, none⟩)) (T : Nat) (all : List Value) (hB : Bx w g T all) (cs : List Value) (hp : (all.drop off).take cs.length = cs)
    (d : TypeDesc) (hu : P.underlying ty = some d) (hd : d.isRow = true) (hi : (P.info? ty).map (·.size) = some cs.length)
    (h : wpList P ops Q rest (a.put o.dst (.agg cs.toArray)) w) : wpList P ops Q (o :: rest) a w :=
  wpList_load_mid hgd ty x ho g off hx cs d (hB.range off cs hp) hu hd hi h

theorem wp_stB {K : Act → World → Prop} (ty : TypeId) (x y : Operand) (ho : o.op = .store ty x y) (g off : Nat) (hx : a.eval x = .pointer (some ⟨g, off, none⟩)) (T : Nat) (all : List Value) (hB : Bx w g T all) (cs : List Value) (hy : a.eval y = .agg cs.toArray)
    (hl : off + cs.length ≤ all.length) (hi : (P.info? ty).map (·.size) = some cs.length) (h1 : cs.all (·.oneCell') = true) (all' : List Value) (he : all.take off ++ cs ++ all.drop (off + cs.length) = all')
    (h : ∀ w', Bx w' g T all' → TurnAt g w w' → K (a.put o.dst undef) w') : o.wp P a w K Q := by
  refine wp_store_mid ty x y ho g off cs.toArray hx hy (by simpa using hB.there off cs.length hl) (by simpa using hi) (all_oneCell_toArray (List.all_eq_true.1 h1)) ?_
  subst he
  exact h _ (by simpa using setCells_list cs w g off T all hB hl) (by simpa using setCells_turn cs w g off)
/-- one cell of a box is loaded. -/
theorem run_ld1 {P : Program} {w : World} {g T : Nat} {all : List Value} (hB : Bx w g T all) (off : Nat) (u : Value) (hu : all[off]? = some u) (ty : TypeId) (d : TypeDesc) (ht : P.underlying ty = some d) (hd : d.isRow = false) : (Instr.loadAt ty (.pointer (some ⟨g, off, none⟩))).run P w = .ok u w := by
  have hc : w.cell? ⟨g, off, none⟩ = some u := by rw [hB.cell, hu]
  have hagg : (isAgg ty).run P w = .ok false w := by
    unfold isAgg
    rw [Sem.run_bind, run_underlying ht w]
    cases d <;> simp_all
  simp [Instr.loadAt, Instr.sureAddr, loadVar, Sem.run_bind, hagg, hc]
theorem wpList_ld1 (hw : Region.wanted o (yielded ops a.tmps) = true) (ty : TypeId) (x : Operand) (ho : o.op = .load ty x) (g off : Nat) (hx : a.eval x = .pointer (some ⟨g, off, none⟩)) (T : Nat) (all : List Value) (hB : Bx w g T all) (u : Value) (hu : all[off]? = some u)
    (d : TypeDesc) (ht : P.underlying ty = some d) (hd : d.isRow = false) (h : wpList P ops Q rest (a.put o.dst u) w) : wpList P ops Q (o :: rest) a w :=
  wpList_step fun K hK => by
    rw [if_pos hw]
    unfold Oper.wp execOp
    simp only [ho, hx, Sem.run_bind, run_ld1 hB off u hu ty d ht hd, Result.andThen_ok, Sem.run_pure]
    exact hK _ _ h
/-- one cell of a box is stored. -/
theorem run_st1 {P : Program} {w : World} {g T : Nat} {all : List Value} (hB : Bx w g T all) (off : Nat) (u : Value) (hl : off < all.length) (h1 : u.oneCell' = true) (ty : TypeId) (hi : (P.info? ty).map (·.size) = some 1) : (Instr.storeAt ty (.pointer (some ⟨g, off, none⟩)) u).run P w = .ok () (w.setCell ⟨g, off, none⟩ u) := by
  have hc : w.cell? ⟨g, off, none⟩ = some all[off] := by rw [hB.cell, List.getElem?_eq_getElem hl]
  have hf := hB.frozen off
  have hcs : u.cells = #[u] := by cases u <;> first | rfl | (simp [Value.oneCell'] at h1)
  cases hq : P.info? ty with
  | none => simp [hq] at hi
  | some i =>
    have hs : i.size = 1 := by simpa [hq] using hi
    have ha : (⟨g, off, none⟩ : Addr).add 0 = ⟨g, off, none⟩ := by unfold Addr.add; split <;> simp_all
    have hst := run_store P w ⟨g, off, none⟩ u .plain h1
    rw [hc, hf] at hst
    simp [Instr.storeAt, Instr.sureAddr, storeVar, sizeOf, typeInfo, hq, hs, hcs, storeCells, ha]
    simpa using hst
theorem wpList_st1 (hgd : o.guard = none) (ty : TypeId) (x y : Operand) (ho : o.op = .store ty x y) (g off : Nat) (hx : a.eval x = .pointer (some ⟨g, off, none⟩)) (T : Nat) (all : List Value) (hB : Bx w g T all) (u : Value) (hy : a.eval y = u) (hl : off < all.length) (h1 : u.oneCell' = true)
    (hi : (P.info? ty).map (·.size) = some 1) (all' : List Value) (he : all.set off u = all') (h : ∀ w', Bx w' g T all' → TurnAt g w w' → wpList P ops Q rest (a.put o.dst undef) w') : wpList P ops Q (o :: rest) a w :=
  wpList_plain hgd fun K hK => by
    unfold Oper.wp execOp
    simp only [ho, hx, hy, Sem.run_bind, run_st1 hB off u hl h1 ty hi, Result.andThen_ok, Sem.run_pure]
    subst he
    exact hK _ _ (h _ (hB.set off u) ((TurnAt.refl g w).setCell off u))
theorem wp_st1 {K : Act → World → Prop} (ty : TypeId) (x y : Operand) (ho : o.op = .store ty x y) (g off : Nat) (hx : a.eval x = .pointer (some ⟨g, off, none⟩)) (T : Nat) (all : List Value) (hB : Bx w g T all) (u : Value) (hy : a.eval y = u) (hl : off < all.length) (h1 : u.oneCell' = true)
    (hi : (P.info? ty).map (·.size) = some 1) (all' : List Value) (he : all.set off u = all') (h : ∀ w', Bx w' g T all' → TurnAt g w w' → K (a.put o.dst undef) w') : o.wp P a w K Q := by
  unfold Oper.wp execOp
  simp only [ho, hx, hy, Sem.run_bind, run_st1 hB off u hl h1 ty hi, Result.andThen_ok, Sem.run_pure]
  subst he
  exact h _ (hB.set off u) ((TurnAt.refl g w).setCell off u)
theorem ld1_yield {S : World → Prop} (hw : Region.wanted o (yielded ops a.tmps) = true) (ty : TypeId) (x : Operand) (ho : o.op = .load ty x) (g off : Nat) (hx : a.eval x = .pointer (some ⟨g, off, none⟩)) (T : Nat) (all : List Value) (hS : ∀ w, S w → Bx w g T all) (u : Value) (hu : all[off]? = some u)
    (d : TypeDesc) (ht : P.underlying ty = some d) (hd : d.isRow = false) : YieldsIf P ops S o u a :=
  .inl ⟨hw, fun w hw' => by
    unfold execOp
    simp only [ho, hx, Sem.run_bind, run_ld1 (hS w hw') off u hu ty d ht hd, Result.andThen_ok, Sem.run_pure]⟩
/-- a load out of a box, in a statement that leaves its order open. -/
theorem ld_yield {S : World → Prop} (hw : Region.wanted o (yielded ops a.tmps) = true) (ty : TypeId) (x : Operand) (ho : o.op = .load ty x) (g off : Nat) (hx : a.eval x = .pointer (some ⟨g, off, none⟩)) (T : Nat) (all : List Value) (hS : ∀ w, S w → Bx w g T all) (cs : List Value) (hp : (all.drop off).take cs.length = cs)
    (d : TypeDesc) (hu : P.underlying ty = some d) (hd : d.isRow = true) (hi : (P.info? ty).map (·.size) = some cs.length) : YieldsIf P ops S o (.agg cs.toArray) a :=
  yieldsIf_load_mid hw ty x ho g off hx cs d (fun w h => (hS w h).range off cs hp) hu hd hi
/-- what a store into a box leaves. -/
theorem Bx.store {g T : Nat} {all : List Value} (hB : Bx w g T all) (P : Program) (ty : TypeId) (off : Nat) (cs : List Value) (hl : off + cs.length ≤ all.length) (hi : (P.info? ty).map (·.size) = some cs.length) (h1 : cs.all (·.oneCell') = true) (all' : List Value) (he : all.take off ++ cs ++ all.drop (off + cs.length) = all') :
    ∃ w', (storeVar ty ⟨g, off, none⟩ (.agg cs.toArray)).run P w = .ok () w' ∧ Bx w' g T all' ∧ TurnAt g w w' := by
  subst he
  exact ⟨_, run_storeVar_mid w g off ty cs.toArray (by simpa using hB.there off cs.length hl) (by simpa using hi) (all_oneCell_toArray (List.all_eq_true.1 h1)), by simpa using setCells_list cs w g off T all hB hl, by simpa using setCells_turn cs w g off⟩
/-- .. in an operation that is guarded, and wanted. -/
theorem wpList_ldG (hw : Region.wanted o (yielded ops a.tmps) = true) (ty : TypeId) (x : Operand) (ho : o.op = .load ty x) (g off : Nat) (hx : a.eval x = .pointer (some ⟨g, off, none⟩)) (T : Nat) (all : List Value) (hB : Bx w g T all) (cs : List Value) (hp : (all.drop off).take cs.length = cs)
    (d : TypeDesc) (hu : P.underlying ty = some d) (hd : d.isRow = true) (hi : (P.info? ty).map (·.size) = some cs.length)
    (h : wpList P ops Q rest (a.put o.dst (.agg cs.toArray)) w) : wpList P ops Q (o :: rest) a w :=
  wpList_step fun K hK => by
    rw [if_pos hw]
    exact wp_load_mid ty x ho g off hx cs d (hB.range off cs hp) hu hd hi (hK _ _ h)
/-- a struct is stored into a box, or into a part of it. -/
theorem wpList_stB (hgd : o.guard = none) (ty : TypeId) (x y : Operand) (ho : o.op = .store ty x y) (g off : Nat) (hx : a.eval x = .pointer (some ⟨g, off, none⟩)) (T : Nat) (all : List Value) (hB : Bx w g T all) (cs : List Value) (hy : a.eval y = .agg cs.toArray)
    (hl : off + cs.length ≤ all.length) (hi : (P.info? ty).map (·.size) = some cs.length) (h1 : cs.all (·.oneCell') = true) (all' : List Value) (he : all.take off ++ cs ++ all.drop (off + cs.length) = all')
    (h : ∀ w', Bx w' g T all' → TurnAt g w w' → wpList P ops Q rest (a.put o.dst undef) w') : wpList P ops Q (o :: rest) a w := by
  refine wpList_store_mid hgd ty x y ho g off cs.toArray hx hy (by simpa using hB.there off cs.length hl) (by simpa using hi) (all_oneCell_toArray (List.all_eq_true.1 h1)) ?_
  subst he
  exact h _ (by simpa using setCells_list cs w g off T all hB hl) (by simpa using setCells_turn cs w g off)
end

theorem Pl.OwnS.keepb {w w' : World} {B g T : Nat} {v : Value} {xs : List ByteArray} {cs : List Value} (h : OwnS w B v xs) (hB : Bx w g T cs) (ht : KeepBut g w w') (hT : T ≠ 9) : OwnS w' B v xs := h.keep' fun k hk hl => ht.block k hl (fun e => bx_s_ne h hB hT (e ▸ hk))
theorem keepBut_grown {g : Nat} {a c : World} {o : Obj} (h : (a.alloc o).grownBy c (some a.heap.size)) : KeepBut g a c :=
  ⟨h.os, h.tape, h.output, Nat.le_trans (by simp) h.size, fun k hk _ => (h.block k (by simp; omega) (fun e => by cases e; omega)).trans (heap_alloc_old a o hk)⟩
theorem Bx.keepb {w w' : World} {g g' T : Nat} {cs : List Value} (h : Bx w g T cs) (k : KeepBut g' w w') (hne : g ≠ g') : Bx w' g T cs := (k.block g h.lt hne).trans h
theorem Bx.afterGrown {g T : Nat} {a c : World} {o : Obj} {cs : List Value} (h : Bx a g T cs) (hg : (a.alloc o).grownBy c (some a.heap.size)) : Bx c g T cs := (hg.block g (by simp; have := h.lt; omega) (fun e => by cases e; have := h.lt; omega)).trans ((heap_alloc_old a o h.lt).trans h)
theorem below_grown {B : Nat} {w a c : World} {o : Obj} (h : Below B w a) (hB : B ≤ a.heap.size) (hg : (a.alloc o).grownBy c (some a.heap.size)) : Below B w c := (h.alloc hB o).grown hg (by simp; omega) (fun k hk => by cases hk; exact hB)
theorem Pl.OwnS.past {w w' : World} {B g T : Nat} {v : Value} {xs : List ByteArray} {cs : List Value} (h : OwnS w B v xs) (hB : Bx w g T cs) (ht : TurnAt g w w') (hT : T ≠ 9) : OwnS w' B v xs := h.keep' fun k hk _ => ht.block k (fun e => bx_s_ne h hB hT (e ▸ hk))
section
variable {P : Program} {w : World} {fn : Func} {tmps : Array Value}
/-- what a call hands back: a box, and a slot. -/
theorem results_bt {p q : Tmp} {ty : TypeId} (h : fn.results = #[.cell p ty, .tmp q]) (g T : Nat) (cs : List Value) (d : TypeDesc) (hp : tmps.getD p undef = .pointer (some ⟨g, 0, none⟩)) (hB : Bx w g T cs)
    (hu : P.underlying ty = some d) (hd : d.isRow = true) (hi : (P.info? ty).map (·.size) = some cs.length) : (results fn tmps).run P w = .ok (.tuple #[.agg cs.toArray, tmps.getD q undef]) w := by
  have hl := run_loadVar_mid (P := P) w g 0 ty cs d (hB.range 0 cs (by simp)) hu hd hi
  have hp' : tmps[p]?.getD undef = .pointer (some ⟨g, 0, none⟩) := by simpa using hp
  simp [results, h, hp', asAddr, hl]
theorem results_b {p : Tmp} {ty : TypeId} (h : fn.results = #[.cell p ty]) (g T : Nat) (cs : List Value) (d : TypeDesc) (hp : tmps.getD p undef = .pointer (some ⟨g, 0, none⟩)) (hB : Bx w g T cs)
    (hu : P.underlying ty = some d) (hd : d.isRow = true) (hi : (P.info? ty).map (·.size) = some cs.length) : (results fn tmps).run P w = .ok (.agg cs.toArray) w := by
  have hl := run_loadVar_mid (P := P) w g 0 ty cs d (hB.range 0 cs (by simp)) hu hd hi
  have hp' : tmps[p]?.getD undef = .pointer (some ⟨g, 0, none⟩) := by simpa using hp
  simp [results, h, hp', asAddr, hl]
end
theorem Tryd.size3 : (Tryd.prog.info? 3).map (·.size) = some 1 := by kernel_rfl
theorem Tryd.sizeNs : (Tryd.prog.info? 73).map (·.size) = some 1 := by kernel_rfl
theorem Tryd.sizeTs : (Tryd.prog.info? 114).map (·.size) = some 1 := by kernel_rfl
end Go.Proofs.YtlflcjdpdbdbkaaDoor

