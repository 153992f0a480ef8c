/- Numbers of items, by the interface; slices of items. -/
import Derived.Test.YtlflcjdpdbdbkaaJ4
import Derived.Test.YtlflcjdpdbdbkaaSl
import Derived.Test.YtlflcjdpdbdbkaaOwI
import Derived.Test.YtlflcjdpdbdbkaaCl
namespace Go.Proofs.Ytlflcjdpdbdbkaa
open Go.RowKit Pl
set_option linter.unusedVariables false

/-- an item as a value. -/
def agg (x : It) : Value := .agg #[.int .i64 x.1, .int .i64 x.2.1, .int .i64 x.2.2.1, .string x.2.2.2]
/-- the item of which all is zero. -/
def zIt : It := (0, 0, 0, ⟨#[]⟩)
/-- an item's cells. -/
def cel (x : It) : List Value := [.int .i64 x.1, .int .i64 x.2.1, .int .i64 x.2.2.1, .string x.2.2.2]
/-- items' cells. -/
def cels (ts : List It) : List Value := ts.flatMap cel
theorem cels_nil : cels [] = [] := rfl
theorem cels_cons (x : It) (ts : List It) : cels (x :: ts) = cel x ++ cels ts := rfl
theorem cels_append (a b : List It) : cels (a ++ b) = cels a ++ cels b := by simp [cels]
theorem cels_length : ∀ (ts : List It), (cels ts).length = ts.length * 4
  | [] => rfl
  | x :: ts => by rw [cels_cons, List.length_append, cels_length ts, List.length_cons]; show 4 + ts.length * 4 = _; omega
theorem cels_drop : ∀ (ts : List It) (k : Nat), (cels ts).drop (k * 4) = cels (ts.drop k)
  | ts, 0 => by simp
  | [], k + 1 => by simp [cels]
  | x :: ts, k + 1 => by
    rw [cels_cons, show (k + 1) * 4 = 4 + k * 4 by omega, ← List.drop_drop, List.drop_succ_cons, ← cels_drop ts k]
    rfl
theorem cels_take : ∀ (ts : List It) (k : Nat), (cels ts).take (k * 4) = cels (ts.take k)
  | ts, 0 => by simp [cels]
  | [], k + 1 => by simp [cels]
  | x :: ts, k + 1 => by
    rw [cels_cons, show (k + 1) * 4 = k * 4 + 1 + 1 + 1 + 1 by omega, List.take_succ_cons, cels_cons, ← cels_take ts k]
    rfl
theorem cels_at {ts : List It} {i : Nat} (h : i < ts.length) : (cels ts)[i * 4]? = some (.int .i64 ts[i].1) ∧ (cels ts)[i * 4 + 1]? = some (.int .i64 ts[i].2.1) ∧ (cels ts)[i * 4 + 2]? = some (.int .i64 ts[i].2.2.1) ∧ (cels ts)[i * 4 + 3]? = some (.string ts[i].2.2.2) := by
  have e : ∀ j, (cels ts)[i * 4 + j]? = (cels (ts.drop i))[j]? := fun j => by rw [← cels_drop, List.getElem?_drop]
  have e0 := e 0
  rw [Nat.add_zero] at e0
  rw [e0, e 1, e 2, e 3, List.drop_eq_getElem_cons h, cels_cons]
  exact ⟨rfl, rfl, rfl, rfl⟩
theorem cels_one {ts : List It} : ∀ u ∈ cels ts, u.oneCell' = true := by
  intro u hu
  obtain ⟨x, _, hx⟩ := List.mem_flatMap.1 hu
  simp [cel] at hx
  rcases hx with rfl | rfl | rfl | rfl <;> rfl
theorem cels_inj : ∀ {a b : List It}, cels a = cels b → a = b
  | [], [], _ => rfl
  | [], _ :: _, h => by simp [cels, cel] at h
  | _ :: _, [], h => by simp [cels, cel] at h
  | x :: a, y :: b, h => by
    rw [cels_cons, cels_cons] at h
    obtain ⟨x0, x1, x2, x3⟩ := x
    obtain ⟨y0, y1, y2, y3⟩ := y
    simp [cel] at h
    obtain ⟨rfl, rfl, rfl, rfl, h⟩ := h
    rw [cels_inj h]

/-- the slice v lies in a block from B on and holds the items ts. -/
def SlI (w : World) (B : Nat) (v : Value) (ts : List It) : Prop := Sl w 69 4 B v ts.length (cels ts)
section
variable {w w' : World} {B : Nat} {v : Value} {ts : List It}
theorem SlI.lt (h : SlI w B v ts) : ∀ k, v.ownBlock = some k → B ≤ k ∧ k < w.heap.size := Sl.lt h
theorem SlI.keep (h : SlI w B v ts) (hk : ∀ k, v.ownBlock = some k → k < w.heap.size → w'.heap[k]? = w.heap[k]?) : SlI w' B v ts := Sl.keep h hk
theorem SlI.below (h : SlI w B v ts) (hb : Below w.heap.size w w') : SlI w' B v ts := Sl.below h hb
theorem SlI.down {B' : Nat} (h : SlI w B v ts) (hB : B' ≤ B) : SlI w B' v ts := Sl.down h hB
theorem SlI.kept {row : Option Nat} (h : SlI w B v ts) (hg : w.grownBy w' row) (hne : ∀ k, v.ownBlock = some k → some k ≠ row) : SlI w' B v ts := Sl.kept h hg hne
theorem SlI.drew (h : SlI w B v ts) : SlI w.drew B v ts := Sl.keep h fun _ _ _ => rfl
theorem SlI.drewN (h : SlI w B v ts) (m : Nat) : SlI (w.drewN m) B v ts := Sl.keep h fun _ _ _ => by rw [World.heap_drewN]
theorem SlI.made (w : World) (B : Nat) (hb : B ≤ w.heap.size) : SlI (w.alloc (.cells #[] 69)) B (.slice (some ⟨w.heap.size, 0, none⟩) 0 0) [] := Sl.made w 69 4 B hb
/-- it is read as a list that was handed in. -/
theorem SlI.items (h : SlI w B v ts) : ∃ ao cap, v = .slice ao ts.length cap ∧ ItemsAt w ao ts := by
  by_cases h0 : 0 < ts.length
  · obtain ⟨g, off, cap, rfl, h1, h2, h3, h4⟩ := Sl.read h h0
    refine ⟨_, cap, rfl, fun i hi => ⟨g, off, rfl, h2, ?_⟩⟩
    obtain ⟨c0, c1, c2, c3⟩ := cels_at hi
    refine ⟨h3 _ _ c0, ?_, ?_, ?_⟩
    · rw [Nat.add_assoc]; exact h3 _ _ c1
    · rw [Nat.add_assoc]; exact h3 _ _ c2
    · rw [Nat.add_assoc]; exact h3 _ _ c3
  · obtain ⟨ao, cap, rfl⟩ := Sl.form h
    exact ⟨ao, cap, rfl, fun i hi => by omega⟩
end
/-- a row of items is a slice. -/
theorem RowIt.sl {w : World} {g n B : Nat} {ts : List It} (h : RowIt w g n ts n) (hn : ts.length = n) (hm : n ≤ 1048576) (hB : B ≤ g) : SlI w B (.slice (some ⟨g, 0, none⟩) n n) ts := by
  obtain ⟨arr, h1, h2, h3⟩ := h
  subst hn
  refine ⟨cels_length ts, .inr ⟨g, 0, ts.length, arr, rfl, hB, h1, Nat.le_refl _, by unfold maxLen; omega, by omega, fun j hj => ?_⟩⟩
  rw [Nat.zero_add]
  obtain ⟨i, r, hr, rfl⟩ : ∃ i r, r < 4 ∧ j = i * 4 + r := ⟨j / 4, j % 4, by omega, by omega⟩
  have hi : i < ts.length := by omega
  obtain ⟨a0, a1, a2, a3⟩ := h3 i hi hi
  obtain ⟨c0, c1, c2, c3⟩ := cels_at hi
  match r, hr with
  | 0, _ => rw [Nat.add_zero, a0, c0]
  | 1, _ => rw [a1, c1]
  | 2, _ => rw [a2, c2]
  | 3, _ => rw [a3, c3]

/-- what an append takes: a slice of one item, new. -/
theorem src_one (w : World) (t : TypeId) (ht : Try.prog.underlying t = some (.slice 69)) (x : It) : Src Try.prog 4 t (.slice (some ⟨w.heap.size, 0, none⟩) 1 1) 1 (cels [x]) (w.alloc (.cells #[.int .i64 x.1, .int .i64 x.2.1, .int .i64 x.2.2.1, .string x.2.2.2] 69)) := by
  refine Src.ofSlice _ ht ⟨w.heap.size, 0, none⟩ 1 1 (cels [x]) rfl (fun j u hu => ?_) cels_one
  rw [Addr.add_lit, Nat.zero_add, cell_of_row _ _ _ _ 69 (0, 0) (heap_alloc_new w _), ← hu]
  have hj : j < 4 := (List.getElem?_eq_some_iff.1 hu).1
  match j, hj with
  | 0, _ => rfl
  | 1, _ => rfl
  | 2, _ => rfl
  | 3, _ => rfl
/-- .. and of items that lie there. -/
theorem src_items {w : World} {ao : Option Addr} {ts : List It} (t : TypeId) (ht : Try.prog.underlying t = some (.slice 69)) (cap : Nat) (h : ItemsAt w ao ts) : Src Try.prog 4 t (.slice ao ts.length cap) ts.length (cels ts) w := by
  by_cases h0 : 0 < ts.length
  · obtain ⟨b, off, rfl, _⟩ := h 0 h0
    refine Src.ofSlice _ ht ⟨b, off, none⟩ ts.length cap (cels ts) (cels_length ts) (fun j u hu => ?_) cels_one
    have hj : j < ts.length * 4 := by rw [← cels_length]; exact (List.getElem?_eq_some_iff.1 hu).1
    obtain ⟨i, r, hr, rfl⟩ : ∃ i r, r < 4 ∧ j = i * 4 + r := ⟨j / 4, j % 4, by omega, by omega⟩
    have hi : i < ts.length := by omega
    obtain ⟨b', off', e, _, a0, a1, a2, a3⟩ := h i hi
    simp at e
    obtain ⟨rfl, rfl⟩ := e
    obtain ⟨c0, c1, c2, c3⟩ := cels_at hi
    rw [Addr.add_lit, ← hu]
    match r, hr with
    | 0, _ => rw [Nat.add_zero, a0, c0]
    | 1, _ => rw [← Nat.add_assoc, a1, c1]
    | 2, _ => rw [← Nat.add_assoc, a2, c2]
    | 3, _ => rw [← Nat.add_assoc, a3, c3]
  · have : ts = [] := List.eq_nil_of_length_eq_zero (by omega)
    subst this
    cases ao with
    | none => exact Src.ofNil _ ht cap
    | some a => exact Src.ofSlice _ ht a 0 cap [] rfl (fun j u hu => by simp at hu) (fun u hu => by simp at hu)

theorem wpList_pushIt {w : World} {ops : Array Oper} {rest : List Oper} {o : Oper} {a : Act} {Q : Exit → Act → World → Prop}
    (hgd : o.guard = none) (s x : Operand) (t : TypeId) (ho : o.op = .call { callee := .builtin .append, args := #[s, x], argTypes := #[t, t] })
    (ht : Try.prog.underlying t = some (.slice 69)) (B : Nat) (v : Value) (ts : List It) (hs : a.eval s = v) (hown : SlI w B v ts) (y : It)
    (hx : a.eval x = .slice (some ⟨w.heap.size, 0, none⟩) 1 1) (hn : ts.length ≤ 1048576) (hB : B ≤ w.heap.size)
    (h : ∀ v' w', SlI w' B v' (ts ++ [y]) → w.grownBy w' v.ownBlock → Below B w w' → (v'.ownBlock = v.ownBlock ∨ v'.ownBlock = some (w.heap.size + 1)) → wpList Try.prog ops Q rest (a.put o.dst v') w') :
    wpList Try.prog ops Q (o :: rest) a (w.alloc (.cells #[.int .i64 y.1, .int .i64 y.2.1, .int .i64 y.2.2.1, .string y.2.2.2] 69)) := by
  refine wpList_appendS hgd s x t ho _ 40 ht Try.infoI rfl hs (Sl.alloc hown _) _ 1 (cels [y]) hx (src_one w t ht y) (by unfold maxLen; omega) (by omega) (by simp; omega) ?_
  intro v' w' h1 h2 h3
  have hg : w.grownBy w' v.ownBlock := ⟨h2.os, h2.tape, h2.output, Nat.le_trans (by simp) h2.size, fun k hk hne => (h2.block k (by simp; omega) hne).trans (heap_alloc_old w _ hk)⟩
  refine h v' w' ?_ hg ?_ ?_
  · unfold SlI
    rw [List.length_append, cels_append]
    exact h1
  · exact ((Below.refl B w).alloc hB _).grown h2 (by simp; omega) (fun k hk => (Sl.lt hown k hk).1)
  · simpa using h3
end Go.Proofs.Ytlflcjdpdbdbkaa
