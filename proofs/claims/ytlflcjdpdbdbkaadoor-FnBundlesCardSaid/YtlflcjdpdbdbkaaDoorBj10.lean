/- Joined texts: Nu A1 Dy13 Di13 Rd13 Spo Sz Es. -/
import Derived.Test.YtlflcjdpdbdbkaaDoorBj8
import Derived.Test.YtlflcjdpdbdbkaaDoorBj9
import Derived.Test.YtlflcjdpdbdbkaaDoorBj2
import Derived.Test.YtlflcjdpdbdbkaaDoorBj6
import Derived.Test.YtlflcjdpdbdbkaaDoorBj7
import Derived.Test.YtlflcjdpdbdbkaaDoorBj5
import Derived.Test.YtlflcjdpdbdbkaaDoorBj4
import Derived.Laws.MakeOwn
/- Numbers of items, by the interface; slices of items. -/
namespace Go.Proofs.YtlflcjdpdbdbkaaDoor
open Go.RowKit Pl
set_option linter.unusedVariables false

/-- an item as a value. -/
def agg (x : It) : Value := .agg #[.int .i64 x.1, .int .i64 x.2.1, .int .i64 x.2.2.1, .string x.2.2.2]
/-- the item of which all is zero. -/
def zIt : It := (0, 0, 0, ⟨#[]⟩)
/-- an item's cells. -/
def cel (x : It) : List Value := [.int .i64 x.1, .int .i64 x.2.1, .int .i64 x.2.2.1, .string x.2.2.2]
/-- items' cells. -/
def cels (ts : List It) : List Value := ts.flatMap cel
theorem cels_nil : cels [] = [] := rfl
theorem cels_cons (x : It) (ts : List It) : cels (x :: ts) = cel x ++ cels ts := rfl
theorem cels_append (a b : List It) : cels (a ++ b) = cels a ++ cels b := by simp [cels]
theorem cels_length : ∀ (ts : List It), (cels ts).length = ts.length * 4
  | [] => rfl
  | x :: ts => by rw [cels_cons, List.length_append, cels_length ts, List.length_cons]; show 4 + ts.length * 4 = _; omega
theorem cels_drop : ∀ (ts : List It) (k : Nat), (cels ts).drop (k * 4) = cels (ts.drop k)
  | ts, 0 => by simp
  | [], k + 1 => by simp [cels]
  | x :: ts, k + 1 => by
    rw [cels_cons, show (k + 1) * 4 = 4 + k * 4 by omega, ← List.drop_drop, List.drop_succ_cons, ← cels_drop ts k]
    rfl
theorem cels_take : ∀ (ts : List It) (k : Nat), (cels ts).take (k * 4) = cels (ts.take k)
  | ts, 0 => by simp [cels]
  | [], k + 1 => by simp [cels]
  | x :: ts, k + 1 => by
    rw [cels_cons, show (k + 1) * 4 = k * 4 + 1 + 1 + 1 + 1 by omega, List.take_succ_cons, cels_cons, ← cels_take ts k]
    rfl
theorem cels_at {ts : List It} {i : Nat} (h : i < ts.length) : (cels ts)[i * 4]? = some (.int .i64 ts[i].1) ∧ (cels ts)[i * 4 + 1]? = some (.int .i64 ts[i].2.1) ∧ (cels ts)[i * 4 + 2]? = some (.int .i64 ts[i].2.2.1) ∧ (cels ts)[i * 4 + 3]? = some (.string ts[i].2.2.2) := by
  have e : ∀ j, (cels ts)[i * 4 + j]? = (cels (ts.drop i))[j]? := fun j => by rw [← cels_drop, List.getElem?_drop]
  have e0 := e 0
  rw [Nat.add_zero] at e0
  rw [e0, e 1, e 2, e 3, List.drop_eq_getElem_cons h, cels_cons]
  exact ⟨rfl, rfl, rfl, rfl⟩
theorem cels_one {ts : List It} : ∀ u ∈ cels ts, u.oneCell' = true := by
  intro u hu
  obtain ⟨x, _, hx⟩ := List.mem_flatMap.1 hu
  simp [cel] at hx
  rcases hx with rfl | rfl | rfl | rfl <;> rfl
theorem cels_inj : ∀ {a b : List It}, cels a = cels b → a = b
  | [], [], _ => rfl
  | [], _ :: _, h => by simp [cels, cel] at h
  | _ :: _, [], h => by simp [cels, cel] at h
  | x :: a, y :: b, h => by
    rw [cels_cons, cels_cons] at h
    obtain ⟨x0, x1, x2, x3⟩ := x
    obtain ⟨y0, y1, y2, y3⟩ := y
    simp [cel] at h
    obtain ⟨rfl, rfl, rfl, rfl, h⟩ := h
    rw [cels_inj h]

/-- the slice v lies in a block from B on and holds the items ts. -/
def SlI (w : World) (B : Nat) (v : Value) (ts : List It) : Prop := Sl w 57 4 B v ts.length (cels ts)
section
variable {w w' : World} {B : Nat} {v : Value} {ts : List It}
theorem SlI.lt (h : SlI w B v ts) : ∀ k, v.ownBlock = some k → B ≤ k ∧ k < w.heap.size := Sl.lt h
theorem SlI.keep (h : SlI w B v ts) (hk : ∀ k, v.ownBlock = some k → k < w.heap.size → w'.heap[k]? = w.heap[k]?) : SlI w' B v ts := Sl.keep h hk
theorem SlI.below (h : SlI w B v ts) (hb : Below w.heap.size w w') : SlI w' B v ts := Sl.below h hb
theorem SlI.down {B' : Nat} (h : SlI w B v ts) (hB : B' ≤ B) : SlI w B' v ts := Sl.down h hB
theorem SlI.kept {row : Option Nat} (h : SlI w B v ts) (hg : w.grownBy w' row) (hne : ∀ k, v.ownBlock = some k → some k ≠ row) : SlI w' B v ts := Sl.kept h hg hne
theorem SlI.drew (h : SlI w B v ts) : SlI w.drew B v ts := Sl.keep h fun _ _ _ => rfl
theorem SlI.drewN (h : SlI w B v ts) (m : Nat) : SlI (w.drewN m) B v ts := Sl.keep h fun _ _ _ => by rw [World.heap_drewN]
theorem SlI.made (w : World) (B : Nat) (hb : B ≤ w.heap.size) : SlI (w.alloc (.cells #[] 57)) B (.slice (some ⟨w.heap.size, 0, none⟩) 0 0) [] := Sl.made w 57 4 B hb
/-- it is read as a list that was handed in. -/
theorem SlI.items (h : SlI w B v ts) : ∃ ao cap, v = .slice ao ts.length cap ∧ ItemsAt w ao ts := by
  by_cases h0 : 0 < ts.length
  · obtain ⟨g, off, cap, rfl, h1, h2, h3, h4⟩ := Sl.read h h0
    refine ⟨_, cap, rfl, fun i hi => ⟨g, off, rfl, h2, ?_⟩⟩
    obtain ⟨c0, c1, c2, c3⟩ := cels_at hi
    refine ⟨h3 _ _ c0, ?_, ?_, ?_⟩
    · rw [Nat.add_assoc]; exact h3 _ _ c1
    · rw [Nat.add_assoc]; exact h3 _ _ c2
    · rw [Nat.add_assoc]; exact h3 _ _ c3
  · obtain ⟨ao, cap, rfl⟩ := Sl.form h
    exact ⟨ao, cap, rfl, fun i hi => by omega⟩
end
/-- a row of items is a slice. -/
theorem RowIt.sl {w : World} {g n B : Nat} {ts : List It} (h : RowIt w g n ts n) (hn : ts.length = n) (hm : n ≤ 1048576) (hB : B ≤ g) : SlI w B (.slice (some ⟨g, 0, none⟩) n n) ts := by
  obtain ⟨arr, h1, h2, h3⟩ := h
  subst hn
  refine ⟨cels_length ts, .inr ⟨g, 0, ts.length, arr, rfl, hB, h1, Nat.le_refl _, by unfold maxLen; omega, by omega, fun j hj => ?_⟩⟩
  rw [Nat.zero_add]
  obtain ⟨i, r, hr, rfl⟩ : ∃ i r, r < 4 ∧ j = i * 4 + r := ⟨j / 4, j % 4, by omega, by omega⟩
  have hi : i < ts.length := by omega
  obtain ⟨a0, a1, a2, a3⟩ := h3 i hi hi
  obtain ⟨c0, c1, c2, c3⟩ := cels_at hi
  match r, hr with
  | 0, _ => rw [Nat.add_zero, a0, c0]
  | 1, _ => rw [a1, c1]
  | 2, _ => rw [a2, c2]
  | 3, _ => rw [a3, c3]

/-- what an append takes: a slice of one item, new. -/
theorem src_one (w : World) (t : TypeId) (ht : Tryd.prog.underlying t = some (.slice 57)) (x : It) : Src Tryd.prog 4 t (.slice (some ⟨w.heap.size, 0, none⟩) 1 1) 1 (cels [x]) (w.alloc (.cells #[.int .i64 x.1, .int .i64 x.2.1, .int .i64 x.2.2.1, .string x.2.2.2] 57)) := by
  refine Src.ofSlice _ ht ⟨w.heap.size, 0, none⟩ 1 1 (cels [x]) rfl (fun j u hu => ?_) cels_one
  rw [Addr.add_lit, Nat.zero_add, cell_of_row _ _ _ _ 57 (0, 0) (heap_alloc_new w _), ← hu]
  have hj : j < 4 := (List.getElem?_eq_some_iff.1 hu).1
  match j, hj with
  | 0, _ => rfl
  | 1, _ => rfl
  | 2, _ => rfl
  | 3, _ => rfl
/-- .. and of items that lie there. -/
theorem src_items {w : World} {ao : Option Addr} {ts : List It} (t : TypeId) (ht : Tryd.prog.underlying t = some (.slice 57)) (cap : Nat) (h : ItemsAt w ao ts) : Src Tryd.prog 4 t (.slice ao ts.length cap) ts.length (cels ts) w := by
  by_cases h0 : 0 < ts.length
  · obtain ⟨b, off, rfl, _⟩ := h 0 h0
    refine Src.ofSlice _ ht ⟨b, off, none⟩ ts.length cap (cels ts) (cels_length ts) (fun j u hu => ?_) cels_one
    have hj : j < ts.length * 4 := by rw [← cels_length]; exact (List.getElem?_eq_some_iff.1 hu).1
    obtain ⟨i, r, hr, rfl⟩ : ∃ i r, r < 4 ∧ j = i * 4 + r := ⟨j / 4, j % 4, by omega, by omega⟩
    have hi : i < ts.length := by omega
    obtain ⟨b', off', e, _, a0, a1, a2, a3⟩ := h i hi
    simp at e
    obtain ⟨rfl, rfl⟩ := e
    obtain ⟨c0, c1, c2, c3⟩ := cels_at hi
    rw [Addr.add_lit, ← hu]
    match r, hr with
    | 0, _ => rw [Nat.add_zero, a0, c0]
    | 1, _ => rw [← Nat.add_assoc, a1, c1]
    | 2, _ => rw [← Nat.add_assoc, a2, c2]
    | 3, _ => rw [← Nat.add_assoc, a3, c3]
  · have : ts = [] := List.eq_nil_of_length_eq_zero (by omega)
    subst this
    cases ao with
    | none => exact Src.ofNil _ ht cap
    | some a => exact Src.ofSlice _ ht a 0 cap [] rfl (fun j u hu => by simp at hu) (fun u hu => by simp at hu)

theorem wpList_pushIt {w : World} {ops : Array Oper} {rest : List Oper} {o : Oper} {a : Act} {Q : Exit → Act → World → Prop}
    (hgd : o.guard = none) (s x : Operand) (t : TypeId) (ho : o.op = .call { callee := .builtin .append, args := #[s, x], argTypes := #[t, t] })
    (ht : Tryd.prog.underlying t = some (.slice 57)) (B : Nat) (v : Value) (ts : List It) (hs : a.eval s = v) (hown : SlI w B v ts) (y : It)
    (hx : a.eval x = .slice (some ⟨w.heap.size, 0, none⟩) 1 1) (hn : ts.length ≤ 1048576) (hB : B ≤ w.heap.size)
    (h : ∀ v' w', SlI w' B v' (ts ++ [y]) → w.grownBy w' v.ownBlock → Below B w w' → (v'.ownBlock = v.ownBlock ∨ v'.ownBlock = some (w.heap.size + 1)) → wpList Tryd.prog ops Q rest (a.put o.dst v') w') :
    wpList Tryd.prog ops Q (o :: rest) a (w.alloc (.cells #[.int .i64 y.1, .int .i64 y.2.1, .int .i64 y.2.2.1, .string y.2.2.2] 57)) := by
  refine wpList_appendS hgd s x t ho _ 40 ht Tryd.infoI rfl hs (Sl.alloc hown _) _ 1 (cels [y]) hx (src_one w t ht y) (by unfold maxLen; omega) (by omega) (by simp; omega) ?_
  intro v' w' h1 h2 h3
  have hg : w.grownBy w' v.ownBlock := ⟨h2.os, h2.tape, h2.output, Nat.le_trans (by simp) h2.size, fun k hk hne => (h2.block k (by simp; omega) hne).trans (heap_alloc_old w _ hk)⟩
  refine h v' w' ?_ hg ?_ ?_
  · unfold SlI
    rw [List.length_append, cels_append]
    exact h1
  · exact ((Below.refl B w).alloc hB _).grown h2 (by simp; omega) (fun k hk => (Sl.lt hown k hk).1)
  · simpa using h3
end Go.Proofs.YtlflcjdpdbdbkaaDoor

/- The item that has a number: the walks over store.at and over both ItemAt. -/
namespace Go.Proofs.YtlflcjdpdbdbkaaDoor
open Go.RowKit Pl
set_option linter.unusedVariables false

/-- the first item that has the number n. -/
def atP (ts : List It) (n : Int) : Option It := ts.find? fun x => decide (x.1 = n)
/-- whether one has it. -/
def hasP (ts : List It) (n : Int) : Bool := (atP ts n).isSome
theorem atP_here {ts : List It} {n : Int} {k : Nat} (hk : k < ts.length) (hn : ts[k].1 = n) (h : ∀ x ∈ ts.take k, ¬ x.1 = n) : atP ts n = some ts[k] := by
  unfold atP
  have e : ts.find? (fun x => decide (x.1 = n)) = (ts.take k ++ ts.drop k).find? (fun x => decide (x.1 = n)) := by rw [List.take_append_drop]
  rw [e, List.find?_append, List.find?_eq_none.2 (fun x hx => by simpa using h x hx), List.drop_eq_getElem_cons hk, List.find?_cons_of_pos (by simpa using hn)]
  rfl
theorem atP_none {ts : List It} {n : Int} (h : ∀ x ∈ ts, ¬ x.1 = n) : atP ts n = none := by
  unfold atP
  exact List.find?_eq_none.2 fun x hx => by simpa using h x hx
theorem hasP_iff {ts : List It} {n : Int} : hasP ts n = true ↔ ∃ x ∈ ts, x.1 = n := by
  unfold hasP atP
  simp
theorem take_step {ts : List It} {n : Int} {k : Nat} (hk : k < ts.length) (h : ∀ x ∈ ts.take k, ¬ x.1 = n) (hn : ¬ ts[k].1 = n) : ∀ x ∈ ts.take (k + 1), ¬ x.1 = n := by
  intro x hx
  rw [List.take_succ_eq_append_getElem hk] at hx
  rcases List.mem_append.1 hx with h1 | h1
  · exact h x h1
  · rw [List.mem_singleton.1 h1]; exact hn

theorem zt (w : World) : ItAt (w.alloc (.cells #[.int .i64 0, .int .i64 0, .int .i64 0, .string ⟨#[]⟩] 57)) w.heap.size 0 0 0 ⟨#[]⟩ := heap_alloc_new w _
/-- four cells stored. -/
theorem ItAt.put4 {w : World} {g : Nat} {q f l q' f' l' : Int} {t t' : ByteArray} (h : ItAt w g q f l t) :
    ItAt ((((w.setCell ⟨g, 0, none⟩ (.int .i64 q')).setCell ⟨g, 1, none⟩ (.int .i64 f')).setCell ⟨g, 2, none⟩ (.int .i64 l')).setCell ⟨g, 3, none⟩ (.string t')) g q' f' l' t' := by
  have e0 := heap_setCell_same w g 0 _ 57 (.int .i64 q') h
  have e1 := heap_setCell_same _ g 1 _ 57 (.int .i64 f') e0
  have e2 := heap_setCell_same _ g 2 _ 57 (.int .i64 l') e1
  exact heap_setCell_same _ g 3 _ 57 (.string t') e2
end Go.Proofs.YtlflcjdpdbdbkaaDoor

/- The walks over drawn items (stage 13). -/
namespace Go.Proofs.YtlflcjdpdbdbkaaDoor
open Go.RowKit Pl
set_option linter.unusedVariables false

/-- the block b is a row of bytes. -/
def RowB (w : World) (b : Nat) (xs : List Int) : Prop := w.heap[b]? = some (.cells (xs.map (Value.int .u8)).toArray 5 (0, 0))

theorem RowB.cell {w : World} {b : Nat} {xs : List Int} (h : RowB w b xs) (j : Nat) (hj : j < xs.length) : w.cell? ⟨b, j, none⟩ = some (.int .u8 (xs.getD j 0)) := by
  rw [cell_of_row w b j _ 5 (0, 0) h]
  simp [hj]
theorem RowB.set {w : World} {b : Nat} {xs : List Int} (h : RowB w b xs) (j : Nat) (z : Int) : RowB (w.setCell ⟨b, j, none⟩ (.int .u8 z)) b (xs.set j z) := by
  have := heap_setCell_same w b j _ 5 (.int .u8 z) h
  unfold RowB
  rw [this]
  simp [List.map_set]

set_option maxRecDepth 100000 in
set_option maxHeartbeats 1000000 in
theorem long_any (m : Nat) (w : World) (hm : m ≤ 61) :
    Calls Tryd.prog 91 #[.int .i64 m, .int .u8 65] w fun e w' => (∃ t : ByteArray, t.size = m ∧ e = .returned (.string t)) ∧ Below w.heap.size w w' := by
  obtain ⟨i0, hi, hz0, hz1, hz2⟩ := info_parts Tryd.info5'
  have hM : madeCells (Value.int .u8 0).cells m = ((List.replicate m (0 : Int)).map (Value.int .u8)).toArray := by
    apply Array.ext'
    rw [show (Value.int .u8 0).cells = #[Value.int .u8 0] from rfl, toList_madeCells_one]
    simp
  have hmk : ∀ W : World, (Instr.makeSlice 22 (.int .i64 (m : Int)) (.int .i64 (m : Int))).run Tryd.prog W = .ok (.slice (some ⟨W.heap.size, 0, none⟩) m m) (W.alloc (.cells ((List.replicate m (0 : Int)).map (Value.int .u8)).toArray 5)) := fun W => by
    have h := run_make (P := Tryd.prog) W 22 5 i0 (.int .u8 0) Tryd.underlying22 hi hz0 .i64 .i64 (m : Int) (m : Int) (by omega) (by omega) (by rw [hz2]; omega) (by omega)
    rw [hz1, Int.toNat_natCast, Nat.mul_one, hM] at h
    simpa using h
  clear hM
  go_enter Tryd.func91, Tryd.ntmps91
  go_wp2
  go_loopw [6] (fun i wr => ∃ (k : Nat) (xs : List Int), i = .int .i64 k ∧ k ≤ m ∧ Hid (xs.length = m) ∧ Hid (RowB wr w.heap.size xs) ∧ Below w.heap.size w wr) (fun i _ => m - (intOf i).toNat)
  case atStart => exact ⟨0, List.replicate m 0, rfl, Nat.zero_le _, List.length_replicate, (by show RowB _ _ _; unfold RowB; rw [heap_alloc_new]; simp), (Below.refl _ _).alloc (Nat.le_refl _) _⟩
  case round =>
    obtain ⟨k, xs, rfl, hk, hxl, hrow, hb⟩ := hrel
    by_cases h1 : k < m
    · have hc := hrow.out.cell k (by rw [hxl.out]; exact h1)
      have hf := frozen_of_row wr w.heap.size k _ 5 hrow.out
      go_wp2
      go_roundw
      case rel =>
        refine ⟨k + 1, xs.set k 65, by go_num, by omega, by rw [List.length_set]; exact hxl.out, hrow.out.set k 65, ?_⟩
        exact hb.trans (TurnAt.below ((TurnAt.refl w.heap.size wr).setCell k _) (Nat.le_refl _))
      case measure => simp [intOf]; omega
    · have hkm : k = m := by omega
      have hcv := run_convert_bytes_arg (P := Tryd.prog) wr 22 5 Tryd.underlying22 Tryd.underlying5 w.heap.size 0 m m xs hxl.out (fun i hi => by rw [Nat.zero_add]; exact hrow.out.cell i (by rw [hxl.out]; exact hi)) 9 Tryd.underlying9
      go_wp2
      go_ret
      exact ⟨⟨_, by rw [strOfNums_size]; exact hxl.out, rfl⟩, hb⟩

/-- the block b is a row of short texts. -/
def RowS (w : World) (b m : Nat) : Prop := ∀ j, j < m → ∃ t : ByteArray, t.size ≤ 13 ∧ w.cell? ⟨b, j, none⟩ = some (.string t)

theorem RowS.stays {w0 w1 : World} {b g m : Nat} (h : RowS w0 b m) (hb : b < w0.heap.size) (hg : b ≠ g) (hk : KeepBut g w0 w1) : RowS w1 b m := by
  intro j hj
  obtain ⟨t, h1, h2⟩ := h j hj
  refine ⟨t, h1, ?_⟩
  rw [← h2]
  simp only [World.cell?]
  rw [hk.block b hb hg]

set_option maxRecDepth 100000 in
set_option maxHeartbeats 1000000 in
theorem pick_any (w0 w : World) (B g n cap b m : Nat) (ao : Option Addr) (hn : n ≤ 1048576) (hB : B ≤ g) (hm0 : 0 < m) (hm : m ≤ 256) (hb : b < w.heap.size) (hbg : b ≠ g) (hr : Hid (RowS w b m)) (hd : Hid (Drw w0 w B g ao n cap)) :
    Calls Tryd.prog 93 #[.pointer (some ⟨g, 0, none⟩), .slice (some ⟨b, 0, none⟩) m m] w fun e w' => (∃ t : ByteArray, t.size ≤ 13 ∧ e = .returned (.string t)) ∧ Hid (Drw w0 w' B g ao n cap) := by
  have hd0 : Hid (Drw w w B g ao n cap) := Drw.start hd.out.1 hd.out.2.1
  go_enter Tryd.func93, Tryd.ntmps93
  go_wp2_with (first | (go_at_call 53; refine (below_small w _ B g n cap m ao hn hB hm0 hm (by assumption)).mono ?_; rintro e w1 ⟨⟨x, hx, rfl⟩, hd1⟩; obtain ⟨t, ht, hc⟩ := hr.out.stays hb hbg hd1.out.2.2 x hx))
  go_ret
  exact ⟨⟨t, ht, rfl⟩, show Drw _ _ _ _ _ _ _ from ⟨hd1.out.1, hd1.out.2.1, hd.out.2.2.trans hd1.out.2.2⟩⟩

theorem rowS_new (w : World) (ts : List ByteArray) (m : Nat) (hm : m = ts.length) (h : ∀ t ∈ ts, t.size ≤ 13) : RowS (w.alloc (.cells (ts.map Value.string).toArray 9)) w.heap.size m := by
  intro j hj
  rw [hm] at hj
  refine ⟨ts[j], h _ (List.getElem_mem hj), ?_⟩
  rw [cell_of_row _ w.heap.size j _ 9 (0, 0) (heap_alloc_new w _)]
  simp [hj]


/-- seen from where we are. -/
theorem Drw.here {w0 w : World} {B g n cap : Nat} {ao : Option Addr} (h : Drw w0 w B g ao n cap) : Hid (Drw w w B g ao n cap) := Drw.start h.1 h.2.1
theorem Drw.back {w0 w w' : World} {B g n cap : Nat} {ao : Option Addr} (h : Drw w0 w B g ao n cap) (h' : Drw w w' B g ao n cap) : Hid (Drw w0 w' B g ao n cap) := ⟨h'.1, h'.2.1, h.2.2.trans h'.2.2⟩
/-- a block that is no cursor's is turned. -/
theorem Drw.other {w0 w w' : World} {B g k n cap : Nat} {ao : Option Addr} (h : Drw w0 w B g ao n cap) (hB : B ≤ k) (ht : TurnAt k w w') (hk : w0.heap.size ≤ k) (hg : g ≠ k) : Hid (Drw w0 w' B g ao n cap) := by
  obtain ⟨⟨i, z, h1, h2⟩, h3, h4⟩ := h
  exact ⟨⟨i, z, h1, (ht.block g hg).trans h2⟩, h3.stays (ht.below hB) (Nat.le_refl _), ⟨ht.os.trans h4.os, ht.tape.trans h4.tape, ht.output.trans h4.output, by rw [ht.size]; exact h4.size, fun m hm hmg => (ht.block m (by omega)).trans (h4.block m hm hmg)⟩⟩
theorem Drw.drew {w0 w : World} {B g n cap : Nat} {ao : Option Addr} (h : Drw w0 w B g ao n cap) : Hid (Drw w0 w.drew B g ao n cap) := ⟨h.1, h.2.1, h.2.2.trans ⟨rfl, rfl, rfl, Nat.le_refl _, fun _ _ _ => rfl⟩⟩

theorem it_turn {w : World} {g : Nat} (q f l : Int) (t : ByteArray) : TurnAt g w ((((w.setCell ⟨g, 0, none⟩ (.int .i64 q)).setCell ⟨g, 1, none⟩ (.int .i64 f)).setCell ⟨g, 2, none⟩ (.int .i64 l)).setCell ⟨g, 3, none⟩ (.string t)) :=
  ((((TurnAt.refl g w).setCell 0 _).setCell 1 _).setCell 2 _).setCell 3 _

set_option maxRecDepth 100000 in
set_option maxHeartbeats 2000000 in
theorem of_two (w0 w : World) (B g n cap : Nat) (ao : Option Addr) (x : Nat) (hn : n ≤ 1048576) (hB : B ≤ g) (hx : x ≤ 20) (hd : Hid (Drw w0 w B g ao n cap)) :
    Calls Tryd.prog 90 #[.pointer (some ⟨g, 0, none⟩), .int .i64 x] w fun e w' => (∃ (y : Nat) (t : ByteArray), y < 2 ∧ t.size ≤ 13 ∧ e = .returned (.agg #[.int .i64 (x : Int), .int .i64 (1 + (x : Int) % 3), .int .i64 (1 + (y : Int)), .string t])) ∧ Hid (Drw w0 w' B g ao n cap) := by
  have hg := hd.out.lt
  have hw0 := hd.out.2.2.size
  have D0 : Hid (Drw w0 (w.alloc (.cells #[.int .i64 0, .int .i64 0, .int .i64 0, .string ⟨#[]⟩] 57)) B g ao n cap) := hd.out.alloc hB _
  have D1 := D0.out.here
  have I0 : Hid (ItAt (w.alloc (.cells #[.int .i64 0, .int .i64 0, .int .i64 0, .string ⟨#[]⟩] 57)) w.heap.size 0 0 0 ByteArray.empty) := heap_alloc_new w _
  go_enter Tryd.func90, Tryd.ntmps90
  go_wp2_with fail
  generalize w.alloc (.cells #[.int .i64 0, .int .i64 0, .int .i64 0, .string ⟨#[]⟩] 57) = W0 at *
  refine (below_small W0 _ B g n cap 2 ao hn hB (by omega) (by omega) D1).mono ?_
  rintro e w1 ⟨⟨y, hy, rfl⟩, hd1⟩
  clear hd D1
  have hg1 := hd1.out.lt
  have D2 : Hid (Drw W0 (w1.alloc (.cells #[.string ⟨#[]⟩, .string ⟨#[120]⟩, .string ⟨#[121, 121]⟩, .string ⟨#[122, 122, 122]⟩] 9)) B g ao n cap) := hd1.out.alloc hB _
  have R2 : Hid (RowS (w1.alloc (.cells #[.string ⟨#[]⟩, .string ⟨#[120]⟩, .string ⟨#[121, 121]⟩, .string ⟨#[122, 122, 122]⟩] 9)) w1.heap.size 4) :=
    rowS_new w1 [⟨#[]⟩, ⟨#[120]⟩, ⟨#[121, 121]⟩, ⟨#[122, 122, 122]⟩] 4 rfl (by simp; decide)
  have hS : w1.heap.size < (w1.alloc (.cells #[.string ⟨#[]⟩, .string ⟨#[120]⟩, .string ⟨#[121, 121]⟩, .string ⟨#[122, 122, 122]⟩] 9)).heap.size := by simp
  go_wp2_with fail
  generalize w1.alloc (.cells #[.string ⟨#[]⟩, .string ⟨#[120]⟩, .string ⟨#[121, 121]⟩, .string ⟨#[122, 122, 122]⟩] 9) = W1 at *
  refine (pick_any W0 _ B g n cap w1.heap.size 4 ao hn hB (by omega) (by omega) hS (by omega) R2 D2).mono ?_
  rintro e w2 ⟨⟨t, ht, rfl⟩, hd2⟩
  have I2 : Hid (ItAt w2 w.heap.size 0 0 0 ByteArray.empty) := I0.out.keep hd2.out.2.2 (by omega)
  have D3 := D0.out.back hd2.out
  clear hd2 D2 R2 hd1 D0 I0
  obtain ⟨c0, c1, c2, c3⟩ := I2.out.cells
  have z0 := I2.out.frozen 0
  have z1 := I2.out.frozen 1
  have z2 := I2.out.frozen 2
  have z3 := I2.out.frozen 3
  go_wp2_with fail
  have I3 := I2.out.agg (x : Int) (1 + (x : Int) % 3) (1 + (y : Int)) t
  have D4 := D3.out.other (k := w.heap.size) (by omega) (it_turn (x : Int) (1 + (x : Int) % 3) (1 + (y : Int)) t) hw0 (by omega)
  generalize ((((w2.setCell ⟨w.heap.size, 0, none⟩ (.int .i64 (x : Int))).setCell ⟨w.heap.size, 1, none⟩ (.int .i64 (1 + (x : Int) % 3))).setCell ⟨w.heap.size, 2, none⟩ (.int .i64 (1 + (y : Int)))).setCell ⟨w.heap.size, 3, none⟩ (.string t)) = W3 at *
  obtain ⟨q0, q1, q2, q3⟩ := I3.cells
  refine bodyPost_ret (v := .agg #[.int .i64 (x : Int), .int .i64 (1 + (x : Int) % 3), .int .i64 (1 + (y : Int)), .string t]) (by simp [results, Tryd.results90, go_sem, q0, q1, q2, q3]) rfl ?_
  exact ⟨⟨y, t, hy, ht, rfl⟩, D4⟩

theorem of_any (w0 w : World) (B g n cap : Nat) (ao : Option Addr) (x : Nat) (hn : n ≤ 1048576) (hB : B ≤ g) (hx : x ≤ 20) (hd : Hid (Drw w0 w B g ao n cap)) :
    Calls Tryd.prog 90 #[.pointer (some ⟨g, 0, none⟩), .int .i64 x] w fun e w' => (∃ (q f l : Int) (t : ByteArray), t.size ≤ 61 ∧ e = .returned (.agg #[.int .i64 q, .int .i64 f, .int .i64 l, .string t])) ∧ Hid (Drw w0 w' B g ao n cap) :=
  (of_two w0 w B g n cap ao x hn hB hx hd).mono fun e w' ⟨⟨y, t, _, ht, he⟩, h⟩ => ⟨⟨_, _, _, t, by omega, he⟩, h⟩

set_option maxRecDepth 100000 in
set_option maxHeartbeats 4000000 in
theorem anyItem_any (w0 w : World) (B g n cap : Nat) (ao : Option Addr) (hn : n ≤ 1048576) (hB : B ≤ g) (hd : Hid (Drw w0 w B g ao n cap)) :
    Calls Tryd.prog 81 #[.pointer (some ⟨g, 0, none⟩)] w fun e w' => (∃ (q f l : Int) (t : ByteArray), t.size ≤ 61 ∧ e = .returned (.agg #[.int .i64 q, .int .i64 f, .int .i64 l, .string t])) ∧ Hid (Drw w0 w' B g ao n cap) := by
  have hr4 : ∀ (w : World) (a b c d : Int), Hid (RowI (w.alloc (.cells #[.int .i64 a, .int .i64 b, .int .i64 c, .int .i64 d] 3)) w.heap.size 4) := fun w a b c d => rowI_new w [a, b, c, d] 4 rfl
  have hr3 : ∀ (w : World) (a b c : Int), Hid (RowI (w.alloc (.cells #[.int .i64 a, .int .i64 b, .int .i64 c] 3)) w.heap.size 3) := fun w a b c => rowI_new w [a, b, c] 3 rfl
  have hr2 : ∀ (w : World) (a b : Int), Hid (RowI (w.alloc (.cells #[.int .i64 a, .int .i64 b] 3)) w.heap.size 2) := fun w a b => rowI_new w [a, b] 2 rfl
  have hg := hd.out.lt
  have hw0 := hd.out.2.2.size
  have D0 : Hid (Drw w0 (w.alloc (.cells #[.int .i64 0, .int .i64 0, .int .i64 0, .string ⟨#[]⟩] 57)) B g ao n cap) := hd.out.alloc hB _
  have D1 := D0.out.here
  have I0 : Hid (ItAt (w.alloc (.cells #[.int .i64 0, .int .i64 0, .int .i64 0, .string ⟨#[]⟩] 57)) w.heap.size 0 0 0 ByteArray.empty) := heap_alloc_new w _
  go_enter Tryd.func81, Tryd.ntmps81
  go_wp2_with fail
  generalize w.alloc (.cells #[.int .i64 0, .int .i64 0, .int .i64 0, .string ⟨#[]⟩] 57) = W0 at *
  have hW0 := I0.out.lt
  refine (below_small W0 _ B g n cap 12 ao hn hB (by omega) (by omega) D1).mono ?_
  rintro e w1 ⟨⟨x, hx, rfl⟩, hd1⟩
  clear hd D1
  go_wp2_with fail
  have e1 : (1 : Int) + (x : Int) = ((1 + x : Nat) : Int) := by omega
  rw [e1]
  refine (of_any W0 _ B g n cap ao (1 + x) hn hB (by omega) hd1).mono ?_
  rintro e w2 ⟨⟨q, f, l, t, ht, rfl⟩, hd2⟩
  clear hd1 e1
  have hg2 := hd2.out.lt
  have hs2 := hd2.out.2.2.size
  have D2 : Hid (Drw W0 (w2.alloc (.cells #[.int .i64 q, .int .i64 f, .int .i64 l, .string t] 57)) B g ao n cap) := hd2.out.alloc hB _
  have M2 : Hid (ItAt (w2.alloc (.cells #[.int .i64 q, .int .i64 f, .int .i64 l, .string t] 57)) w2.heap.size q f l t) := heap_alloc_new w2 _
  go_wp2_with fail
  generalize w2.alloc (.cells #[.int .i64 q, .int .i64 f, .int .i64 l, .string t] 57) = W2 at *
  generalize w2.heap.size = gm at *
  have D2b := D0.out.back D2.out
  have I2 : Hid (ItAt W2 w.heap.size 0 0 0 ByteArray.empty) := I0.out.keep D2.out.2.2 (by omega)
  clear hd2 D0 I0 D2
  refine (below_small W2 _ B g n cap 16 ao hn hB (by omega) (by omega) D2b.out.here).mono ?_
  rintro e w3 ⟨⟨y, hy, rfl⟩, hd3⟩
  have I3 : Hid (ItAt w3 w.heap.size 0 0 0 ByteArray.empty) := I2.out.keep hd3.out.2.2 (by omega)
  have M3 : Hid (ItAt w3 gm q f l t) := M2.out.keep hd3.out.2.2 (by omega)
  have D3 := D2b.out.back hd3.out
  have hg3 := hd3.out.lt
  have hm3 := M3.out.lt
  clear hd3 D2b I2 M2
  by_cases y0 : y = 0
  · subst y0
    have D3a : Hid (Drw w0 (w3.alloc (.cells #[.int .i64 0, .int .i64 (-1), .int .i64 60, .int .i64 61] 3)) B g ao n cap) := D3.out.alloc hB _
    have hb3 : Below w3.heap.size w3 (w3.alloc (.cells #[.int .i64 0, .int .i64 (-1), .int .i64 60, .int .i64 61] 3)) := (Below.refl _ _).alloc (Nat.le_refl _) _
    have I3a : Hid (ItAt (w3.alloc (.cells #[.int .i64 0, .int .i64 (-1), .int .i64 60, .int .i64 61] 3)) w.heap.size 0 0 0 ByteArray.empty) := I3.out.stays hb3 I3.out.lt
    have M3a : Hid (ItAt (w3.alloc (.cells #[.int .i64 0, .int .i64 (-1), .int .i64 60, .int .i64 61] 3)) gm q f l t) := M3.out.stays hb3 M3.out.lt
    have R3a := hr4 w3 (0) (-1) (60) (61)
    have hS : w3.heap.size < (w3.alloc (.cells #[.int .i64 0, .int .i64 (-1), .int .i64 60, .int .i64 61] 3)).heap.size := by simp
    clear hb3
    go_wp2_with fail
    generalize w3.alloc (.cells #[.int .i64 0, .int .i64 (-1), .int .i64 60, .int .i64 61] 3) = W3 at *
    refine (pickInt_any W3 _ B g n cap w3.heap.size 4 ao hn hB (by omega) (by omega) hS (by omega) R3a D3a.out.here).mono ?_
    rintro e w4 ⟨⟨z, rfl⟩, hd4⟩
    have I4a : Hid (ItAt w4 w.heap.size 0 0 0 ByteArray.empty) := I3a.out.keep hd4.out.2.2 (by omega)
    have M4a : Hid (ItAt w4 gm q f l t) := M3a.out.keep hd4.out.2.2 (by omega)
    have D4a := D3a.out.back hd4.out
    have s0 := M4a.out.cells.1
    have y0 := M4a.out.frozen 0
    clear hd4 D3a I3a M3a R3a hS
    have T4 := (TurnAt.refl gm w4).setCell 0 (.int .i64 z)
    have I4 : Hid (ItAt (w4.setCell ⟨gm, 0, none⟩ (.int .i64 z)) w.heap.size 0 0 0 ByteArray.empty) := I4a.out.keep T4.keep (by omega)
    have M4 : Hid (ItAt (w4.setCell ⟨gm, 0, none⟩ (.int .i64 z)) gm z f l t) := M4a.out.set0 z
    have D4 : Hid (Drw w0 (w4.setCell ⟨gm, 0, none⟩ (.int .i64 z)) B g ao n cap) := D4a.out.other (by omega) T4 (by omega) (by omega)
    clear I4a M4a D4a T4
    obtain ⟨m0, m1, m2, m3⟩ := M4.out.cells
    obtain ⟨c0, c1, c2, c3⟩ := I4.out.cells
    have z0 := I4.out.frozen 0
    have z1 := I4.out.frozen 1
    have z2 := I4.out.frozen 2
    have z3 := I4.out.frozen 3
    go_wp2_with fail
    have I5 := I4.out.agg z f l t
    have D5 := D4.out.other (k := w.heap.size) (by omega) (it_turn z f l t) hw0 (by omega)
    generalize (((((w4.setCell ⟨gm, 0, none⟩ (.int .i64 z)).setCell ⟨w.heap.size, 0, none⟩ (.int .i64 z)).setCell ⟨w.heap.size, 1, none⟩ (.int .i64 f)).setCell ⟨w.heap.size, 2, none⟩ (.int .i64 l)).setCell ⟨w.heap.size, 3, none⟩ (.string t)) = W5 at *
    obtain ⟨q0, q1, q2, q3⟩ := I5.cells
    refine bodyPost_ret (v := .agg #[.int .i64 z, .int .i64 f, .int .i64 l, .string t]) (by simp [results, Tryd.results81, go_sem, q0, q1, q2, q3]) rfl ?_
    exact ⟨⟨_, _, _, t, by omega, rfl⟩, D5⟩
  by_cases y1 : y = 1
  · subst y1
    have D3a : Hid (Drw w0 (w3.alloc (.cells #[.int .i64 0, .int .i64 5, .int .i64 6] 3)) B g ao n cap) := D3.out.alloc hB _
    have hb3 : Below w3.heap.size w3 (w3.alloc (.cells #[.int .i64 0, .int .i64 5, .int .i64 6] 3)) := (Below.refl _ _).alloc (Nat.le_refl _) _
    have I3a : Hid (ItAt (w3.alloc (.cells #[.int .i64 0, .int .i64 5, .int .i64 6] 3)) w.heap.size 0 0 0 ByteArray.empty) := I3.out.stays hb3 I3.out.lt
    have M3a : Hid (ItAt (w3.alloc (.cells #[.int .i64 0, .int .i64 5, .int .i64 6] 3)) gm q f l t) := M3.out.stays hb3 M3.out.lt
    have R3a := hr3 w3 (0) (5) (6)
    have hS : w3.heap.size < (w3.alloc (.cells #[.int .i64 0, .int .i64 5, .int .i64 6] 3)).heap.size := by simp
    clear hb3
    go_wp2_with fail
    generalize w3.alloc (.cells #[.int .i64 0, .int .i64 5, .int .i64 6] 3) = W3 at *
    refine (pickInt_any W3 _ B g n cap w3.heap.size 3 ao hn hB (by omega) (by omega) hS (by omega) R3a D3a.out.here).mono ?_
    rintro e w4 ⟨⟨z, rfl⟩, hd4⟩
    have I4a : Hid (ItAt w4 w.heap.size 0 0 0 ByteArray.empty) := I3a.out.keep hd4.out.2.2 (by omega)
    have M4a : Hid (ItAt w4 gm q f l t) := M3a.out.keep hd4.out.2.2 (by omega)
    have D4a := D3a.out.back hd4.out
    have s0 := M4a.out.cells.2.1
    have y0 := M4a.out.frozen 1
    clear hd4 D3a I3a M3a R3a hS
    have T4 := (TurnAt.refl gm w4).setCell 1 (.int .i64 z)
    have I4 : Hid (ItAt (w4.setCell ⟨gm, 1, none⟩ (.int .i64 z)) w.heap.size 0 0 0 ByteArray.empty) := I4a.out.keep T4.keep (by omega)
    have M4 : Hid (ItAt (w4.setCell ⟨gm, 1, none⟩ (.int .i64 z)) gm q z l t) := M4a.out.set1 z
    have D4 : Hid (Drw w0 (w4.setCell ⟨gm, 1, none⟩ (.int .i64 z)) B g ao n cap) := D4a.out.other (by omega) T4 (by omega) (by omega)
    clear I4a M4a D4a T4
    obtain ⟨m0, m1, m2, m3⟩ := M4.out.cells
    obtain ⟨c0, c1, c2, c3⟩ := I4.out.cells
    have z0 := I4.out.frozen 0
    have z1 := I4.out.frozen 1
    have z2 := I4.out.frozen 2
    have z3 := I4.out.frozen 3
    go_wp2_with fail
    have I5 := I4.out.agg q z l t
    have D5 := D4.out.other (k := w.heap.size) (by omega) (it_turn q z l t) hw0 (by omega)
    generalize (((((w4.setCell ⟨gm, 1, none⟩ (.int .i64 z)).setCell ⟨w.heap.size, 0, none⟩ (.int .i64 q)).setCell ⟨w.heap.size, 1, none⟩ (.int .i64 z)).setCell ⟨w.heap.size, 2, none⟩ (.int .i64 l)).setCell ⟨w.heap.size, 3, none⟩ (.string t)) = W5 at *
    obtain ⟨q0, q1, q2, q3⟩ := I5.cells
    refine bodyPost_ret (v := .agg #[.int .i64 q, .int .i64 z, .int .i64 l, .string t]) (by simp [results, Tryd.results81, go_sem, q0, q1, q2, q3]) rfl ?_
    exact ⟨⟨_, _, _, t, by omega, rfl⟩, D5⟩
  by_cases y2 : y = 2
  · subst y2
    have D3a : Hid (Drw w0 (w3.alloc (.cells #[.int .i64 0, .int .i64 3] 3)) B g ao n cap) := D3.out.alloc hB _
    have hb3 : Below w3.heap.size w3 (w3.alloc (.cells #[.int .i64 0, .int .i64 3] 3)) := (Below.refl _ _).alloc (Nat.le_refl _) _
    have I3a : Hid (ItAt (w3.alloc (.cells #[.int .i64 0, .int .i64 3] 3)) w.heap.size 0 0 0 ByteArray.empty) := I3.out.stays hb3 I3.out.lt
    have M3a : Hid (ItAt (w3.alloc (.cells #[.int .i64 0, .int .i64 3] 3)) gm q f l t) := M3.out.stays hb3 M3.out.lt
    have R3a := hr2 w3 (0) (3)
    have hS : w3.heap.size < (w3.alloc (.cells #[.int .i64 0, .int .i64 3] 3)).heap.size := by simp
    clear hb3
    go_wp2_with fail
    generalize w3.alloc (.cells #[.int .i64 0, .int .i64 3] 3) = W3 at *
    refine (pickInt_any W3 _ B g n cap w3.heap.size 2 ao hn hB (by omega) (by omega) hS (by omega) R3a D3a.out.here).mono ?_
    rintro e w4 ⟨⟨z, rfl⟩, hd4⟩
    have I4a : Hid (ItAt w4 w.heap.size 0 0 0 ByteArray.empty) := I3a.out.keep hd4.out.2.2 (by omega)
    have M4a : Hid (ItAt w4 gm q f l t) := M3a.out.keep hd4.out.2.2 (by omega)
    have D4a := D3a.out.back hd4.out
    have s0 := M4a.out.cells.2.2.1
    have y0 := M4a.out.frozen 2
    clear hd4 D3a I3a M3a R3a hS
    have T4 := (TurnAt.refl gm w4).setCell 2 (.int .i64 z)
    have I4 : Hid (ItAt (w4.setCell ⟨gm, 2, none⟩ (.int .i64 z)) w.heap.size 0 0 0 ByteArray.empty) := I4a.out.keep T4.keep (by omega)
    have M4 : Hid (ItAt (w4.setCell ⟨gm, 2, none⟩ (.int .i64 z)) gm q f z t) := M4a.out.set2 z
    have D4 : Hid (Drw w0 (w4.setCell ⟨gm, 2, none⟩ (.int .i64 z)) B g ao n cap) := D4a.out.other (by omega) T4 (by omega) (by omega)
    clear I4a M4a D4a T4
    obtain ⟨m0, m1, m2, m3⟩ := M4.out.cells
    obtain ⟨c0, c1, c2, c3⟩ := I4.out.cells
    have z0 := I4.out.frozen 0
    have z1 := I4.out.frozen 1
    have z2 := I4.out.frozen 2
    have z3 := I4.out.frozen 3
    go_wp2_with fail
    have I5 := I4.out.agg q f z t
    have D5 := D4.out.other (k := w.heap.size) (by omega) (it_turn q f z t) hw0 (by omega)
    generalize (((((w4.setCell ⟨gm, 2, none⟩ (.int .i64 z)).setCell ⟨w.heap.size, 0, none⟩ (.int .i64 q)).setCell ⟨w.heap.size, 1, none⟩ (.int .i64 f)).setCell ⟨w.heap.size, 2, none⟩ (.int .i64 z)).setCell ⟨w.heap.size, 3, none⟩ (.string t)) = W5 at *
    obtain ⟨q0, q1, q2, q3⟩ := I5.cells
    refine bodyPost_ret (v := .agg #[.int .i64 q, .int .i64 f, .int .i64 z, .string t]) (by simp [results, Tryd.results81, go_sem, q0, q1, q2, q3]) rfl ?_
    exact ⟨⟨_, _, _, t, by omega, rfl⟩, D5⟩
  by_cases y3 : y = 3
  · subst y3
    go_wp2_with fail
    refine (below_small w3 _ B g n cap 2 ao hn hB (by omega) (by omega) D3.out.here).mono ?_
    rintro e w4 ⟨⟨v, hv, rfl⟩, hd4⟩
    have I4b : Hid (ItAt w4 w.heap.size 0 0 0 ByteArray.empty) := I3.out.keep hd4.out.2.2 (by omega)
    have M4b : Hid (ItAt w4 gm q f l t) := M3.out.keep hd4.out.2.2 (by omega)
    have D4b := D3.out.back hd4.out
    clear hd4
    go_wp2_with fail
    have e1 : (60 : Int) + (v : Int) = ((60 + v : Nat) : Int) := by omega
    rw [e1]
    refine (long_any (60 + v) _ (by omega)).mono ?_
    rintro e w5 ⟨⟨u, hu, rfl⟩, hb5⟩
    have I4a : Hid (ItAt w5 w.heap.size 0 0 0 ByteArray.empty) := I4b.out.stays hb5 I4b.out.lt
    have M4a : Hid (ItAt w5 gm q f l t) := M4b.out.stays hb5 M4b.out.lt
    have D4a : Hid (Drw w0 w5 B g ao n cap) := D4b.out.step hB hb5
    have s0 := M4a.out.cells.2.2.2
    have y0 := M4a.out.frozen 3
    clear I4b M4b D4b hb5 e1
    have T4 := (TurnAt.refl gm w5).setCell 3 (.string u)
    have I4 : Hid (ItAt (w5.setCell ⟨gm, 3, none⟩ (.string u)) w.heap.size 0 0 0 ByteArray.empty) := I4a.out.keep T4.keep (by omega)
    have M4 : Hid (ItAt (w5.setCell ⟨gm, 3, none⟩ (.string u)) gm q f l u) := M4a.out.set3 u
    have D4 : Hid (Drw w0 (w5.setCell ⟨gm, 3, none⟩ (.string u)) B g ao n cap) := D4a.out.other (by omega) T4 (by omega) (by omega)
    clear I4a M4a D4a T4
    obtain ⟨m0, m1, m2, m3⟩ := M4.out.cells
    obtain ⟨c0, c1, c2, c3⟩ := I4.out.cells
    have z0 := I4.out.frozen 0
    have z1 := I4.out.frozen 1
    have z2 := I4.out.frozen 2
    have z3 := I4.out.frozen 3
    go_wp2_with fail
    have I5 := I4.out.agg q f l u
    have D5 := D4.out.other (k := w.heap.size) (by omega) (it_turn q f l u) hw0 (by omega)
    generalize (((((w5.setCell ⟨gm, 3, none⟩ (.string u)).setCell ⟨w.heap.size, 0, none⟩ (.int .i64 q)).setCell ⟨w.heap.size, 1, none⟩ (.int .i64 f)).setCell ⟨w.heap.size, 2, none⟩ (.int .i64 l)).setCell ⟨w.heap.size, 3, none⟩ (.string u)) = W5 at *
    obtain ⟨q0, q1, q2, q3⟩ := I5.cells
    refine bodyPost_ret (v := .agg #[.int .i64 q, .int .i64 f, .int .i64 l, .string u]) (by simp [results, Tryd.results81, go_sem, q0, q1, q2, q3]) rfl ?_
    exact ⟨⟨_, _, _, u, by omega, rfl⟩, D5⟩
  · have I4 := I3
    have M4 := M3
    have D4 := D3
    clear I3 M3 D3
    obtain ⟨m0, m1, m2, m3⟩ := M4.out.cells
    obtain ⟨c0, c1, c2, c3⟩ := I4.out.cells
    have z0 := I4.out.frozen 0
    have z1 := I4.out.frozen 1
    have z2 := I4.out.frozen 2
    have z3 := I4.out.frozen 3
    go_wp2_with fail
    have I5 := I4.out.agg q f l t
    have D5 := D4.out.other (k := w.heap.size) (by omega) (it_turn q f l t) hw0 (by omega)
    generalize ((((w3.setCell ⟨w.heap.size, 0, none⟩ (.int .i64 q)).setCell ⟨w.heap.size, 1, none⟩ (.int .i64 f)).setCell ⟨w.heap.size, 2, none⟩ (.int .i64 l)).setCell ⟨w.heap.size, 3, none⟩ (.string t)) = W5 at *
    obtain ⟨q0, q1, q2, q3⟩ := I5.cells
    refine bodyPost_ret (v := .agg #[.int .i64 q, .int .i64 f, .int .i64 l, .string t]) (by simp [results, Tryd.results81, go_sem, q0, q1, q2, q3]) rfl ?_
    exact ⟨⟨_, _, _, t, by omega, rfl⟩, D5⟩
end Go.Proofs.YtlflcjdpdbdbkaaDoor

/- The walks over drawn lists of items. -/
namespace Go.Proofs.YtlflcjdpdbdbkaaDoor
open Go.RowKit Pl
set_option linter.unusedVariables false

theorem SlI.but {w w' : World} {B g : Nat} {v : Value} {ts : List It} (h : SlI w B v ts) (hk : KeepBut g w w') (hg : g < B) : SlI w' B v ts :=
  h.keep fun k hb hl => hk.block k hl (by have := (h.lt k hb).1; omega)
/-- what lies behind the beginning has turned. -/
theorem Drw.push {w0 w w' : World} {B g n cap : Nat} {ao : Option Addr} (h : Drw w0 w B g ao n cap) (hb : Below w0.heap.size w w') (hg : g < w0.heap.size) (hB : B ≤ g) : Hid (Drw w0 w' B g ao n cap) :=
  ⟨CurAt.stays h.1 hb hg, h.2.1.stays hb (by omega), ⟨hb.os.trans h.2.2.os, hb.tape.trans h.2.2.tape, hb.output.trans h.2.2.output, Nat.le_trans h.2.2.size hb.size, fun k hk hkg => (hb.block k hk).trans (h.2.2.block k hk hkg)⟩⟩
theorem iGo_snoc {ts : List It} {y : It} (h : iGo 0 ts = true) (hlt : ∀ x ∈ ts, x.1 < y.1) (hy : itB y.1 y.2.1 y.2.2.1 y.2.2.2 = true) : iGo 0 (ts ++ [y]) = true := by
  obtain ⟨ha, hb⟩ := iGo_asc ts 0 h
  refine iGo_of _ 0 ?_ fun x hx => ?_
  · unfold Asc
    rw [List.pairwise_append]
    refine ⟨ha, List.pairwise_singleton _ _, fun a ha' b hb' => ?_⟩
    rw [List.mem_singleton.1 hb']
    exact hlt a ha'
  · rcases List.mem_append.1 hx with h1 | h1
    · exact hb x h1
    · rw [List.mem_singleton.1 h1]
      have := itB_range hy
      exact ⟨by omega, hy⟩
/-- what is drawn up to i. -/
def UptoI (ts : List It) (i : Nat) : Prop := iGo 0 ts = true ∧ (∀ x ∈ ts, x.1 < (i : Int)) ∧ ts.length < i ∧ ∀ x ∈ ts, x.2.2.2.size ≤ 13
theorem upto_next {ts : List It} {i : Nat} (h : UptoI ts i) : UptoI ts (i + 1) := ⟨h.1, fun x hx => by have := h.2.1 x hx; omega, by have := h.2.2.1; omega, h.2.2.2⟩
theorem upto_push {ts : List It} {i y : Nat} {t : ByteArray} (h : UptoI ts i) (h1 : 1 ≤ i) (h2 : i ≤ 9) (hy : y < 2) (ht : t.size ≤ 13) : UptoI (ts ++ [((i : Int), 1 + (i : Int) % 3, 1 + (y : Int), t)]) (i + 1) := by
  refine ⟨iGo_snoc h.1 h.2.1 (itB_yes ?_), fun x hx => ?_, by have := h.2.2.1; simp; omega, fun x hx => ?_⟩
  · unfold ItOk
    refine ⟨by dsimp only; omega, by dsimp only; omega, by dsimp only; omega, by dsimp only; omega⟩
  · rcases List.mem_append.1 hx with h3 | h3
    · have := h.2.1 x h3; omega
    · rw [List.mem_singleton.1 h3]; show (i : Int) < _; omega
  · rcases List.mem_append.1 hx with h3 | h3
    · exact h.2.2.2 x h3
    · rw [List.mem_singleton.1 h3]; exact ht

set_option maxRecDepth 100000 in
set_option maxHeartbeats 2000000 in
theorem drawItems_any (w0 w : World) (B g n cap : Nat) (ao : Option Addr) (hn : n ≤ 1048576) (hB : B ≤ g) (hd : Hid (Drw w0 w B g ao n cap)) :
    Calls Tryd.prog 80 #[.pointer (some ⟨g, 0, none⟩)] w fun e w' => (∃ v ts, e = .returned v ∧ SlI w' w.heap.size v ts ∧ UptoI ts 10) ∧ Hid (Drw w w' B g ao n cap) := by
  have hg := hd.out.lt
  have S0 : Hid (SlI (w.alloc (.cells #[] 57)) w.heap.size (.slice (some ⟨w.heap.size, 0, none⟩) 0 0) []) := SlI.made w w.heap.size (Nat.le_refl _)
  have D0 : Hid (Drw w (w.alloc (.cells #[] 57)) B g ao n cap) := hd.out.here.out.alloc hB _
  clear hd
  go_enter Tryd.func80, Tryd.ntmps80
  go_wp2
  go_loopw [3, 4] (fun v j wr => ∃ (i : Nat) (ts : List It), 1 ≤ i ∧ i ≤ 10 ∧ j = .int .i64 i ∧ Hid (SlI wr w.heap.size v ts) ∧ Hid (UptoI ts i) ∧ Hid (Drw w wr B g ao n cap)) (fun _ j _ => 10 - (intOf j).toNat)
  case atStart => exact ⟨1, [], by omega, by omega, rfl, S0, (⟨rfl, fun x hx => (by cases hx), (by simp), fun x hx => (by cases hx)⟩ : UptoI [] 1), D0⟩
  case round =>
    clear S0 D0
    obtain ⟨i, ts, hi1, hi2, rfl, hS, hU, hD⟩ := hrel
    go_wp2_with fail
    refine (below_small wr wr B g n cap 10 ao hn hB (by omega) (by omega) hD.out.here).mono ?_
    rintro e w1 ⟨⟨x, hx, rfl⟩, hd1⟩
    have S1 : Hid (SlI w1 w.heap.size u3 ts) := hS.out.but hd1.out.2.2 hg
    have D1 := hD.out.back hd1.out
    clear hd1 hS hD
    by_cases hix : i ≤ x
    · go_wp2_with fail
      refine (once_any w1 w1 B g n cap 4 ao hn hB (by omega) (by omega) D1.out.here).mono ?_
      rintro e w2 ⟨⟨b, rfl⟩, hd2⟩
      have S2 : Hid (SlI w2 w.heap.size u3 ts) := S1.out.but hd2.out.2.2 hg
      have D2 := D1.out.back hd2.out
      clear hd2 S1 D1
      cases b with
      | true =>
        have hU2 : Hid (UptoI ts (i + 1)) := upto_next hU.out
        go_wp2_with fail
        go_roundw
        case rel => exact ⟨i + 1, ts, by omega, by omega, by go_num, S2, hU2, D2⟩
        case measure => simp [intOf]; omega
      | false =>
        go_wp2_with fail
        refine (of_two w2 w2 B g n cap ao i hn hB (by omega) D2.out.here).mono ?_
        rintro e w3 ⟨⟨y, t, hy, ht, rfl⟩, hd3⟩
        have S3 : SlI w3 w.heap.size u3 ts := S2.out.but hd3.out.2.2 hg
        have D3 := D2.out.back hd3.out
        have z3 : w.heap.size ≤ w3.heap.size := D3.out.2.2.size
        have hlt : ts.length ≤ 1048576 := by have := hU.out.2.2.1; omega
        clear hd3 S2 D2
        go_wp2_with (at_builtin; refine wpList_pushIt rfl _ _ 24 rfl Tryd.underlying24 w.heap.size u3 ts rfl S3 ((i : Int), 1 + (i : Int) % 3, 1 + (y : Int), t) rfl hlt z3 ?_; intro v4 w4 S4 g4 b4 _)
        have S4 : Hid (SlI w4 w.heap.size v4 (ts ++ [((i : Int), 1 + (i : Int) % 3, 1 + (y : Int), t)])) := S4
        have D4 := D3.out.push b4 hg hB
        have hU2 : Hid (UptoI (ts ++ [((i : Int), 1 + (i : Int) % 3, 1 + (y : Int), t)]) (i + 1)) := upto_push hU.out hi1 (by omega) hy ht
        go_roundw
        case rel => exact ⟨i + 1, _, by omega, by omega, by go_num, S4, hU2, D4⟩
        case measure => simp [intOf]; omega
    · have hU2 : Hid (UptoI ts 10) := by
        obtain ⟨h1, h2, h3, h4⟩ := hU.out
        exact ⟨h1, fun x hx => by have := h2 x hx; omega, by omega, h4⟩
      go_wp2_with fail
      go_ret
      exact ⟨⟨_, ts, rfl, S1.out, hU2.out⟩, D1⟩
end Go.Proofs.YtlflcjdpdbdbkaaDoor

/- Drawn rings. -/
namespace Go.Proofs.YtlflcjdpdbdbkaaDoor
open Go.RowKit Pl
set_option linter.unusedVariables false

theorem wpList_pushG {P : Program} {w : World} {ops : Array Oper} {rest : List Oper} {o : Oper} {a : Act} {Q : Exit → Act → World → Prop}
    (hgd : o.guard = none) (s x : Operand) (t : TypeId) (ho : o.op = .call { callee := .builtin .append, args := #[s, x], argTypes := #[t, t] })
    (ht : P.underlying t = some (.slice 3)) (hinfo : (P.info? 3).map (fun i => (i.zero, i.size, i.bytes)) = some (some (.int .i64 0), 1, 8))
    (B : Nat) (v : Value) (xs : List Int) (hs : a.eval s = v) (hown : OwnI w B v xs) (b : Int)
    (hx : a.eval x = .slice (some ⟨w.heap.size, 0, none⟩) 1 1) (hn : xs.length < 4000000) (hB : B ≤ w.heap.size)
    (h : ∀ v' w', OwnI w' B v' (xs ++ [b]) → (w.alloc (.cells #[.int .i64 b] 3)).grownBy w' v.ownBlock → wpList P ops Q rest (a.put o.dst v') w') :
    wpList P ops Q (o :: rest) a (w.alloc (.cells #[.int .i64 b] 3)) := by
  obtain ⟨i0, hi, hz0, hz1, hz2⟩ := info_parts hinfo
  refine wpList_append_own _ hgd s x t ho B 3 i0 (.int .i64 0) 1 8 ht hi hz0 hz1 hz2 rfl (by decide) v xs.length (xs.map (Value.int .i64)) hs (World.ownsRow.alloc hown _) ⟨w.heap.size, 0, none⟩ 1 1 [.int .i64 b] hx rfl ?_ ?_ ?_ ?_ ?_ ?_
  · intro j u hj
    match j, hj with
    | 0, hj => simp at hj; subst hj; simp [Addr.add]
  · intro u hu; simp at hu; subst hu; rfl
  · unfold maxLen; omega
  · omega
  · simp; omega
  · intro v' w' hown' hg _
    exact h v' w' (by simpa [OwnI] using hown') hg
theorem own_laterZ {w w' : World} {B : Nat} {v : Value} {ss : List Int} (h : OwnI w B v ss) (hb : Below w.heap.size w w') : OwnI w' B v ss := h.stays hb (fun k hk => (h.lt k hk).2)
theorem ownI_nil (w : World) (B : Nat) : OwnI w B (.slice none 0 0) [] := ⟨by simp, .inl ⟨rfl, rfl⟩⟩
theorem wGo_snoc : ∀ (ms : List Int) (l d : Int), wGo l 5 ms = true → l < d → (∀ x ∈ ms, x < d) → d ≤ 5 → wGo l 5 (ms ++ [d]) = true := by
  intro ms
  induction ms with
  | nil => intro l d _ h1 _ h2; rw [List.nil_append, wGo_step h1 h2]; rfl
  | cons x xs ih =>
    intro l d h h1 h2 h3
    by_cases hx : l < x ∧ x ≤ 5
    · rw [wGo_step hx.1 hx.2] at h
      rw [List.cons_append, wGo_step hx.1 hx.2]
      exact ih x d h (h2 x (by simp)) (fun y hy => h2 y (by simp [hy])) h3
    · rw [wGo_bad (by omega)] at h; cases h

theorem RgAt.keep {w w' : World} {g k : Nat} {i : Int} {v : Value} (h : RgAt w g i v) (hk : KeepBut k w w') (hg : g ≠ k) : RgAt w' g i v := (hk.block g h.lt hg).trans h
theorem RgAt.grown {w w' : World} {B g : Nat} {v u : Value} {xs : List Int} {i : Int} (h : RgAt w g i u) (ho : OwnI w B v xs) (hg : w.grownBy w' v.ownBlock) : RgAt w' g i u := by
  refine (hg.block g h.lt (fun e => ?_)).trans h
  rcases ho.2 with ⟨rfl, _⟩ | ⟨k, cap, cur, rfl, _, hk, _⟩
  · cases e
  · cases e
    unfold RgAt at h
    rw [hk] at h
    simp at h
theorem ring_turn {w : World} {g : Nat} (i : Int) (v : Value) : TurnAt g w ((w.setCell ⟨g, 0, none⟩ (.int .i64 i)).setCell ⟨g, 1, none⟩ v) := ((TurnAt.refl g w).setCell 0 _).setCell 1 _

/-- a ring on its way. -/
structure RS (w0 w wr : World) (B g n cap : Nat) (ao : Option Addr) (gm : Nat) (i : Int) (v : Value) (xs : List Int) : Prop where
  res : RgAt wr w.heap.size 0 (.slice none 0 0)
  rng : RgAt wr gm i v
  own : OwnI wr w.heap.size v xs
  drw : Drw w0 wr B g ao n cap
  old : g < w.heap.size
  new : w.heap.size < gm
  low : w0.heap.size ≤ w.heap.size
  bas : B ≤ w.heap.size
theorem RS.draw {w0 w wr w' : World} {B g n cap gm : Nat} {ao : Option Addr} {i : Int} {v : Value} {xs : List Int} (h : RS w0 w wr B g n cap ao gm i v xs) (hd : Drw wr w' B g ao n cap) : RS w0 w w' B g n cap ao gm i v xs :=
  ⟨h.res.keep hd.2.2 (by have := h.old; omega), h.rng.keep hd.2.2 (by have := h.old; have := h.new; omega), OwnI_keep h.own hd.2.2 h.old, (h.drw.back hd).out, h.old, h.new, h.low, h.bas⟩
theorem RS.below {w0 w wr w' : World} {B g n cap gm : Nat} {ao : Option Addr} {i : Int} {v : Value} {xs : List Int} (h : RS w0 w wr B g n cap ao gm i v xs) (hB : B ≤ g) (hb : Below wr.heap.size wr w') : RS w0 w w' B g n cap ao gm i v xs :=
  ⟨h.res.stays hb h.res.lt, h.rng.stays hb h.rng.lt, own_laterZ h.own hb, h.drw.step hB hb, h.old, h.new, h.low, h.bas⟩
/-- another list is its members. -/
theorem RS.set {w0 w wr : World} {B g n cap gm : Nat} {ao : Option Addr} {i : Int} {v v' : Value} {xs ys : List Int} (h : RS w0 w wr B g n cap ao gm i v xs) (ho : OwnI wr w.heap.size v' ys) : RS w0 w (wr.setCell ⟨gm, 1, none⟩ v') B g n cap ao gm i v' ys := by
  have T := (TurnAt.refl gm wr).setCell 1 v'
  have hold := h.old
  have hnew := h.new
  have hlow := h.low
  have hbas := h.bas
  exact ⟨h.res.turn T (by omega), h.rng.set1 v', own_ring ho h.rng T, (h.drw.other (by omega) T (by omega) (by omega)).out, h.old, h.new, h.low, h.bas⟩
/-- one more is appended. -/
theorem RS.push {w0 w wr w' : World} {B g n cap gm : Nat} {ao : Option Addr} {i z : Int} {v v' : Value} {xs : List Int} (h : RS w0 w wr B g n cap ao gm i v xs) (hB : B ≤ g) (hown : OwnI w' w.heap.size v' (xs ++ [z])) (hg : (wr.alloc (.cells #[.int .i64 z] 3)).grownBy w' v.ownBlock) :
    RS w0 w (w'.setCell ⟨gm, 1, none⟩ v') B g n cap ao gm i v' (xs ++ [z]) := by
  have D : Below wr.heap.size wr (wr.alloc (.cells #[.int .i64 z] 3)) := (Below.refl _ _).alloc (Nat.le_refl _) _
  have h1 := h.below hB D
  have M := RgAt.grown h1.rng h1.own hg
  have R := RgAt.grown h1.res h1.own hg
  have hold := h.old
  have hnew := h.new
  have hlow := h.low
  have hbas := h.bas
  have hlt := fun k hk => (h1.own.lt k hk).1
  have hdrw : Drw w0 w' B g ao n cap := by
    obtain ⟨⟨i, y, e1, e2⟩, e3, e4⟩ := h1.drw
    refine ⟨⟨i, y, e1, (hg.block g (Array.getElem?_eq_some_iff.1 e2).1 (fun e => by have := hlt g e.symm; omega)).trans e2⟩, fun j hj => ?_, ⟨hg.os.trans e4.os, hg.tape.trans e4.tape, hg.output.trans e4.output, Nat.le_trans e4.size hg.size, fun m hm hmg => (hg.block m (Nat.lt_of_lt_of_le hm e4.size) (fun e => by have := hlt m e.symm; omega)).trans (e4.block m hm hmg)⟩⟩
    obtain ⟨bb, off, y2, x1, x2, x3, x4⟩ := e3 j hj
    refine ⟨bb, off, y2, x1, x2, ?_, x4⟩
    rw [← x3]
    simp only [World.cell?]
    rw [hg.block bb (by have := h1.res.lt; omega) (fun e => by have := hlt bb e.symm; omega)]
  have h2 : RS w0 w w' B g n cap ao gm i v' (xs ++ [z]) → RS w0 w (w'.setCell ⟨gm, 1, none⟩ v') B g n cap ao gm i v' (xs ++ [z]) := fun h2 => h2.set h2.own
  have T := (TurnAt.refl gm w').setCell 1 v'
  exact ⟨R.turn T (by omega), M.set1 v', own_ring hown M T, (hdrw.other (by omega) T (by omega) (by omega)).out, h.old, h.new, h.low, h.bas⟩
/-- what is handed back. -/
theorem RS.give {w0 w wr : World} {B g n cap gm : Nat} {ao : Option Addr} {i : Int} {v : Value} {xs : List Int} (h : RS w0 w wr B g n cap ao gm i v xs) :
    RgAt ((wr.setCell ⟨w.heap.size, 0, none⟩ (.int .i64 i)).setCell ⟨w.heap.size, 1, none⟩ v) w.heap.size i v ∧
    OwnI ((wr.setCell ⟨w.heap.size, 0, none⟩ (.int .i64 i)).setCell ⟨w.heap.size, 1, none⟩ v) w.heap.size v xs ∧
    Hid (Drw w0 ((wr.setCell ⟨w.heap.size, 0, none⟩ (.int .i64 i)).setCell ⟨w.heap.size, 1, none⟩ v) B g ao n cap) :=
  ⟨h.res.agg i v, own_ring h.own h.res (ring_turn i v), h.drw.other h.bas (ring_turn i v) h.low (by have := h.old; omega)⟩

set_option maxRecDepth 100000 in
set_option maxHeartbeats 4000000 in
theorem ring_any (w0 w : World) (B g n cap : Nat) (ao : Option Addr) (hn : n ≤ 1048576) (hB : B ≤ g) (hd : Hid (Drw w0 w B g ao n cap)) :
    Calls Tryd.prog 52 #[.pointer (some ⟨g, 0, none⟩)] w fun e w' => (∃ (i : Int) (ms : List Int) (v : Value), ringB i ms = true ∧ OwnI w' w.heap.size v ms ∧ e = .returned (.agg #[.int .i64 i, v])) ∧ Hid (Drw w0 w' B g ao n cap) := by
  have hg := hd.out.lt
  have hw0 := hd.out.2.2.size
  have D0 : Hid (Drw w0 (w.alloc (.cells #[.int .i64 0, .slice none 0 0] 75)) B g ao n cap) := hd.out.alloc hB _
  have R0 : Hid (RgAt (w.alloc (.cells #[.int .i64 0, .slice none 0 0] 75)) w.heap.size 0 (.slice none 0 0)) := heap_alloc_new w _
  clear hd
  go_enter Tryd.func52, Tryd.ntmps52
  go_wp2_with fail
  generalize w.alloc (.cells #[.int .i64 0, .slice none 0 0] 75) = W0 at *
  refine (below_small W0 _ B g n cap 3 ao hn hB (by omega) (by omega) D0.out.here).mono ?_
  rintro e w3 ⟨⟨x, hx, rfl⟩, hd3⟩
  have R3 : Hid (RgAt w3 w.heap.size 0 (.slice none 0 0)) := R0.out.keep hd3.out.2.2 (by omega)
  have D3 := D0.out.back hd3.out
  have hN3 := R3.out.lt
  clear hd3 D0 R0
  have L3 : Hid (RS w0 w (w3.alloc (.cells #[.int .i64 (1 + (x : Int)), .slice none 0 0] 75)) B g n cap ao w3.heap.size (1 + (x : Int)) (.slice none 0 0) []) :=
    ⟨R3.out.stays ((Below.refl _ _).alloc (Nat.le_refl _) _) hN3, heap_alloc_new w3 _, ownI_nil _ _, D3.out.alloc hB _, hg, hN3, hw0, by omega⟩
  go_wp2_with fail
  generalize w3.alloc (.cells #[.int .i64 (1 + (x : Int)), .slice none 0 0] 75) = W3 at *
  generalize w3.heap.size = gm at *
  have HM0 : Hid (wGo 0 5 ([] : List Int) = true ∧ ∀ y ∈ ([] : List Int), y < ((1 : Nat) : Int)) := ⟨rfl, by simp⟩
  go_loopw [4] (fun ix wr => ∃ (j : Nat) (xs : List Int) (v : Value), 1 ≤ j ∧ j ≤ 5 ∧ ix = .int .i64 j ∧ xs.length < j ∧ Hid (wGo 0 5 xs = true ∧ ∀ y ∈ xs, y < (j : Int)) ∧ Hid (RS w0 w wr B g n cap ao gm (1 + (x : Int)) v xs)) (fun ix _ => 5 - (intOf ix).toNat)
  case atStart => exact ⟨1, [], .slice none 0 0, Nat.le_refl _, by omega, rfl, Nat.zero_lt_one, HM0, L3⟩
  case round =>
    clear L3 HM0
    obtain ⟨j, xs, v, hj1, hj, rfl, hxl, HM, L⟩ := hrel
    obtain ⟨ao', cap', hvf⟩ := L.out.own.form
    subst hvf
    by_cases hjz : j ≤ 4
    · go_wp2_with fail
      refine (once_any wr _ B g n cap 3 ao hn hB (by omega) (by omega) L.out.drw.here).mono ?_
      rintro e w6 ⟨⟨b6, rfl⟩, hd6⟩
      have L6 : Hid (RS w0 w w6 B g n cap ao gm (1 + (x : Int)) (.slice ao' xs.length cap') xs) := L.out.draw hd6.out
      have c5 := L6.out.rng.cells.2
      have f5 := L6.out.rng.frozen 1
      have OW := L6.out.own
      have hs6 : w.heap.size ≤ w6.heap.size := Nat.le_of_lt L6.out.res.lt
      clear hd6 L
      cases b6 with
      | false =>
        go_wp2_with (first | (at_builtin; refine wpList_pushG rfl _ _ 73 rfl Tryd.underlying73 Tryd.info3' w.heap.size _ xs rfl OW _ rfl (by omega) hs6 ?_; intro v7 w7 hown7 hg7; obtain ⟨ao7, cap7, hvf7⟩ := hown7.form; subst hvf7; have M7 := RgAt.grown (L6.out.rng.stays ((Below.refl w6.heap.size w6).alloc (Nat.le_refl _) _) L6.out.rng.lt) (OW.alloc _) hg7; have c7 := M7.cells.2; have f7 := M7.frozen 1))
        have L7 := L6.out.push hB hown7 hg7
        have e7 : (xs ++ [(j : Int)]).length = xs.length + 1 := by simp
        rw [e7] at L7
        have HM2 : Hid (wGo 0 5 (xs ++ [(j : Int)]) = true ∧ ∀ y ∈ xs ++ [(j : Int)], y < ((j + 1 : Nat) : Int)) := by
          refine ⟨wGo_snoc xs 0 j HM.out.1 (by omega) HM.out.2 (by omega), fun y hy => ?_⟩
          rcases List.mem_append.1 hy with h | h
          · have := HM.out.2 y h; omega
          · simp at h; omega
        go_roundw
        case rel => exact ⟨j + 1, xs ++ [(j : Int)], _, by omega, by omega, by go_num, by simp; omega, HM2, L7⟩
        case measure => simp [intOf]; omega
      | true =>
        have HM2 : Hid (wGo 0 5 xs = true ∧ ∀ y ∈ xs, y < ((j + 1 : Nat) : Int)) := ⟨HM.out.1, fun y hy => by have := HM.out.2 y hy; omega⟩
        go_wp2_with fail
        go_roundw
        case rel => exact ⟨j + 1, xs, _, by omega, by omega, by go_num, by omega, HM2, L6⟩
        case measure => simp [intOf]; omega
    · have hgt : ¬ (j : Int) ≤ 4 := by omega
      obtain ⟨m0, m1⟩ := L.out.rng.cells
      have f1 := L.out.rng.frozen 1
      by_cases h0 : xs.length = 0
      · have OW2 : Hid (OwnI (wr.alloc (.cells #[.int .i64 2] 3)) w.heap.size (.slice (some ⟨wr.heap.size, 0, none⟩) 1 1) [2]) := OwnI.lit wr w.heap.size [2] (Nat.le_of_lt L.out.res.lt) (by simp)
        have L2 := (L.out.below hB ((Below.refl wr.heap.size wr).alloc (Nat.le_refl _) (.cells #[.int .i64 2] 3)))
        have n0 := L2.rng.cells.2
        have n1 := L2.rng.frozen 1
        have L8 : Hid (RS w0 w ((wr.alloc (.cells #[.int .i64 2] 3)).setCell ⟨gm, 1, none⟩ (.slice (some ⟨wr.heap.size, 0, none⟩) 1 1)) B g n cap ao gm (1 + (x : Int)) (.slice (some ⟨wr.heap.size, 0, none⟩) 1 1) [2]) := L2.set OW2.out
        obtain ⟨m80, m81⟩ := L8.out.rng.cells
        obtain ⟨c0, c1⟩ := L8.out.res.cells
        have z0 := L8.out.res.frozen 0
        have z1 := L8.out.res.frozen 1
        have G9 : Hid _ := L8.out.give
        rw [h0] at m1 n0
        clear L L2 L8 OW2 h0
        go_wp2_with fail
        obtain ⟨R9, O9, D9⟩ := G9.out
        clear G9
        generalize ((((wr.alloc (.cells #[.int .i64 2] 3)).setCell ⟨gm, 1, none⟩ (.slice (some ⟨wr.heap.size, 0, none⟩) 1 1)).setCell ⟨w.heap.size, 0, none⟩ (.int .i64 (1 + (x : Int)))).setCell ⟨w.heap.size, 1, none⟩ (.slice (some ⟨wr.heap.size, 0, none⟩) 1 1)) = W9 at *
        obtain ⟨q0, q1⟩ := R9.cells
        refine bodyPost_ret (v := .agg #[.int .i64 (1 + (x : Int)), .slice (some ⟨wr.heap.size, 0, none⟩) 1 1]) (by simp [results, Tryd.results52, go_sem, q0, q1]) rfl ?_
        have hr : ringB (1 + (x : Int)) [2] = true := by unfold ringB; rw [decide_eq_true (show 1 ≤ 1 + (x : Int) ∧ 1 + (x : Int) ≤ 9 by omega)]; rfl
        exact ⟨⟨1 + (x : Int), [2], hr, _, O9, rfl⟩, D9⟩
      · have h0i : ¬ (xs.length : Int) = 0 := by omega
        have h0d : ((xs.length : Int) == 0) = false := by simpa using h0
        have h0e : ¬ xs = [] := by intro h; rw [h] at h0; simp at h0
        obtain ⟨c0, c1⟩ := L.out.res.cells
        have z0 := L.out.res.frozen 0
        have z1 := L.out.res.frozen 1
        have G9 : Hid _ := L.out.give
        clear L
        go_wp2_with fail
        obtain ⟨R9, O9, D9⟩ := G9.out
        clear G9
        generalize ((wr.setCell ⟨w.heap.size, 0, none⟩ (.int .i64 (1 + (x : Int)))).setCell ⟨w.heap.size, 1, none⟩ (.slice ao' xs.length cap')) = W9 at *
        obtain ⟨q0, q1⟩ := R9.cells
        refine bodyPost_ret (v := .agg #[.int .i64 (1 + (x : Int)), .slice ao' xs.length cap']) (by simp [results, Tryd.results52, go_sem, q0, q1]) rfl ?_
        have hr : ringB (1 + (x : Int)) xs = true := by unfold ringB; rw [decide_eq_true (show 1 ≤ 1 + (x : Int) ∧ 1 + (x : Int) ≤ 9 by omega), decide_eq_true (show 0 < xs.length by omega), HM.out.1]; rfl
        exact ⟨⟨1 + (x : Int), xs, hr, _, O9, rfl⟩, D9⟩
end Go.Proofs.YtlflcjdpdbdbkaaDoor

/- Draws below any number, long texts spoilt. -/
namespace Go.Proofs.YtlflcjdpdbdbkaaDoor
open Go.RowKit Pl
set_option linter.unusedVariables false

theorem below_le (w0 w : World) (B g n cap m : Nat) (ao : Option Addr) (hn : n ≤ 1048576) (hB : B ≤ g) (hm0 : 0 < m) (hm : m ≤ 4294967296) (hd : Hid (Drw w0 w B g ao n cap)) :
    Calls Tryd.prog 53 #[.pointer (some ⟨g, 0, none⟩), .int .i64 m] w fun e w' => (∃ x : Nat, x < m ∧ e = .returned (.int .i64 x)) ∧ Hid (Drw w0 w' B g ao n cap) := by
  by_cases h : m ≤ 256
  · exact below_small w0 w B g n cap m ao hn hB hm0 h hd
  · exact below_big w0 w B g n cap m ao hn hB (by omega) hm hd
set_option maxRecDepth 100000 in
set_option maxHeartbeats 2000000 in
theorem spoilt_big (w0 w : World) (B g n cap : Nat) (ao : Option Addr) (s : ByteArray) (hn : n ≤ 1048576) (hB : B ≤ g) (hs : s.size ≤ 8000) (hd : Hid (Drw w0 w B g ao n cap)) :
    Calls Tryd.prog 42 #[.pointer (some ⟨g, 0, none⟩), .string s] w fun e w' => (∃ t : ByteArray, t.size ≤ 8002 ∧ e = .returned (.string t)) ∧ Hid (Drw w0 w' B g ao n cap) := by
  go_enter Tryd.func42, Tryd.ntmps42
  go_wp2_with fail
  refine (below_small w0 _ B g n cap 12 ao hn hB (by omega) (by omega) hd).mono ?_
  rintro e w1 ⟨⟨x, hx, rfl⟩, hd1⟩
  clear hd
  by_cases h0 : x = 0
  · subst h0
    go_wp2_with fail
    refine (text_drw w0 _ B g n cap 1 ao hn hB (by omega) hd1).mono ?_
    rintro e w2 ⟨⟨t, ht, rfl⟩, hd2⟩
    clear hd1
    go_wp2_with fail
    go_ret
    exact ⟨⟨_, by rw [ByteArray.size_append]; omega, rfl⟩, hd2⟩
  by_cases h1 : x = 1
  · subst h1
    go_wp2_with fail
    refine (below_le w0 _ B g n cap (s.size + 1) ao hn hB (by omega) (by omega) hd1).mono ?_
    rintro e w2 ⟨⟨y, hy, rfl⟩, hd2⟩
    clear hd1
    have i0 : (0 : Int) ≤ (y : Int) := by omega
    have i1 : (y : Int) ≤ (s.size : Int) := by omega
    go_wp2_with fail
    go_ret
    exact ⟨⟨_, by rw [ByteArray.size_extract]; omega, rfl⟩, hd2⟩
  by_cases h2 : (x = 2 ∨ x = 3) ∧ 0 < s.size
  · obtain ⟨h2, hs0⟩ := h2
    rcases h2 with rfl | rfl
    all_goals
      go_wp2_with fail
      refine (below_le w0 _ B g n cap s.size ao hn hB (by omega) (by omega) hd1).mono ?_
      rintro e w2 ⟨⟨y, hy, rfl⟩, hd2⟩
      have hdd : Hid (Drw w0 w2.drew B g ao n cap) := ⟨hd2.out.1, hd2.out.2.1, hd2.out.2.2.trans ⟨rfl, rfl, rfl, Nat.le_refl _, fun _ _ _ => rfl⟩⟩
      clear hd1
      have i0 : (0 : Int) ≤ (y : Int) := by omega
      have i1 : (y : Int) ≤ (s.size : Int) := by omega
      have i2 : (y : Int) + 1 ≤ (s.size : Int) := by omega
      have i3 : (0 : Int) ≤ (y : Int) + 1 := by omega
      have hw1 : IntKind.i64.wrap ((y : Int) + 1) = (y : Int) + 1 := by rw [IntKind.wrap_i64]; omega
      go_wp2_with fail
      go_region_held3 (fun _ => True) (trivial) (first | (go_at_call 71; refine (text_drw w0 _ B g n cap 1 ao hn hB (by omega) hdd).mono ?_; rintro e w3 ⟨⟨t, ht, rfl⟩, hd3⟩; have z1 : ¬9223372036854775807 < min y s.size + 1 := (by omega); have z2 : ¬9223372036854775807 < min y s.size + 1 + (s.size - (y + 1)) := (by omega)))
      go_wp2_with fail
      go_ret
      exact ⟨⟨_, by rw [ByteArray.size_append, ByteArray.size_append, ByteArray.size_extract, ByteArray.size_extract]; omega, rfl⟩, hd3⟩
  by_cases h3 : x = 2 ∨ x = 3
  · have hs0 : s.size = 0 := by omega
    clear h2
    rcases h3 with rfl | rfl
    all_goals
      go_wp2_with fail
      go_ret
      exact ⟨⟨s, by omega, rfl⟩, hd1⟩
  · have n2 : ¬ x = 2 := by omega
    have n3 : ¬ x = 3 := by omega
    clear h2 h3
    go_wp2_with fail
    go_ret
    exact ⟨⟨s, by omega, rfl⟩, hd1⟩
end Go.Proofs.YtlflcjdpdbdbkaaDoor

/- Lists of items measured and copied, told more of. -/
namespace Go.Proofs.YtlflcjdpdbdbkaaDoor
open Go.RowKit Pl
set_option linter.unusedVariables false

set_option maxRecDepth 100000 in
set_option maxHeartbeats 1000000 in
theorem szItems_left (left : Nat) (hleft : left ≤ 1048576) (ao : Option Addr) (cap : Nat) (ts : List It) (w : World) (hx : Hid (ItemsAt w ao ts)) (hl : ts.length ≤ 9223372036854775807) (hs : Hid (∀ x ∈ ts, x.2.2.2.size ≤ 9223372036854775807)) :
    Calls Tryd.prog 47 #[.slice ao ts.length cap, .int .i64 left] w fun e w' => (e = .returned (.int .i64 (-1)) ∨ (∃ z : Nat, e = .returned (.int .i64 z) ∧ z + ts.length ≤ left ∧ ∀ x ∈ ts, x.2.2.2.size ≤ 1048576)) ∧ Below w.heap.size w w' := by
  by_cases h1 : left < ts.length
  · have hd : decide ((left : Int) - (ts.length : Int) < 0) = true := by simp; omega
    go_enter Tryd.func47, Tryd.ntmps47
    go_wp2
    go_ret
    exact ⟨.inl rfl, Below.refl _ _⟩
  have hl2 : ts.length ≤ left := by omega
  have hd : decide ((left : Int) - (ts.length : Int) < 0) = false := by simp; omega
  go_enter Tryd.func47, Tryd.ntmps47
  go_wp2
  clear hd
  go_loopw [1, 5] (fun lf i wr => ∃ (k z : Nat), k ≤ ts.length ∧ z + ts.length ≤ left ∧ lf = .int .i64 z ∧ i = .int .i64 k ∧ Hid (∀ x ∈ ts.take k, x.2.2.2.size ≤ 1048576) ∧ Hid (Below w.heap.size w wr)) (fun _ i _ => ts.length - (intOf i).toNat)
  case atStart => exact ⟨0, left - ts.length, Nat.zero_le _, by omega, by congr 1; omega, rfl, (fun x hx => by simp at hx : ∀ x ∈ ts.take 0, x.2.2.2.size ≤ 1048576), Below.refl _ _⟩
  case round =>
    obtain ⟨k, z, hk, hz, rfl, rfl, hsm, hb⟩ := hrel
    by_cases hlt : k < ts.length
    · obtain ⟨b, off, rfl, hbb, c0, c1, c2, c3⟩ := hx.out.stays hb.out k hlt
      have hsz := hs.out _ (List.getElem_mem hlt)
      have HP : Hid (∃ x : It, x = ts[k]) := ⟨_, rfl⟩
      obtain ⟨⟨q, f, lv, tx⟩, hp⟩ := HP.out
      rw [← hp] at c0 c1 c2 c3 hsz
      have HQ : Hid ((q, f, lv, tx) = ts[k]) := hp
      clear hp HP
      dsimp only at c0 c1 c2 c3 hsz
      go_wp2_with fail
      by_cases hlong : z < tx.size
      · refine (szItem_long q f lv tx z _ hlong hsz (by omega)).mono ?_
        rintro e w1 ⟨rfl, hb1⟩
        go_wp2_with fail
        go_ret
        exact ⟨.inl rfl, hb.out.trans (hb1.mono hb.out.size)⟩
      · refine (szItem_any q f lv tx z _ (by omega) (by omega)).mono ?_
        rintro e w1 ⟨rfl, hb1⟩
        have B1 : Hid (Below w.heap.size w w1) := hb.out.trans (hb1.mono hb.out.size)
        have hzz : z - tx.size + ts.length ≤ left := by omega
        have HSM : Hid (∀ x ∈ ts.take (k + 1), x.2.2.2.size ≤ 1048576) := by
          intro x hx
          rw [List.take_succ_eq_append_getElem hlt] at hx
          rcases List.mem_append.1 hx with h1 | h1
          · exact hsm.out x h1
          · rw [List.mem_singleton.1 h1, ← HQ.out]; show tx.size ≤ 1048576; omega
        generalize z - tx.size = zz at *
        have hd : decide ((zz : Int) < 0) = false := by simp
        clear hb1 c0 c1 c2 c3
        go_wp2_with fail
        go_roundw
        case rel => exact ⟨k + 1, zz, by omega, hzz, rfl, by go_num, HSM, B1⟩
        case measure => simp [intOf]; omega
    · go_wp2_with fail
      go_ret
      exact ⟨.inr ⟨z, rfl, hz, by have := hsm.out; rwa [List.take_of_length_le (by omega)] at this⟩, hb.out⟩

set_option maxRecDepth 100000 in
set_option maxHeartbeats 1000000 in
theorem toItems_row (w : World) (ao : Option Addr) (cap : Nat) (ts : List It) (hx : Hid (ItemsAt w ao ts)) (hl : ts.length ≤ 1048576) :
    Calls Tryd.prog 48 #[.slice ao ts.length cap] w fun e w' => e = .returned (.slice (some ⟨w.heap.size, 0, none⟩) ts.length ts.length) ∧ RowIt w' w.heap.size ts.length ts ts.length ∧ Below w.heap.size w w' := by
  obtain ⟨i0, hi, hz0, hz1, hz2⟩ := info_parts Tryd.infoI
  obtain ⟨A, hA, hAs⟩ : ∃ A : Array Value, A = madeCells (Value.agg #[.int .i64 0, .int .i64 0, .int .i64 0, .string ⟨#[]⟩]).cells (ts.length * 4) ∧ A.size = ts.length * 4 := ⟨_, rfl, size_madeCells _ _⟩
  have hmk : ∀ W : World, (Instr.makeSlice 24 (.int .i64 (ts.length : Int)) (.int .i64 (ts.length : Int))).run Tryd.prog W = .ok (.slice (some ⟨W.heap.size, 0, none⟩) ts.length ts.length) (W.alloc (.cells A 57)) := fun W => by
    have h := run_make (P := Tryd.prog) W 24 57 i0 _ Tryd.underlying24 hi hz0 .i64 .i64 (ts.length : Int) (ts.length : Int) (by omega) (by omega) (by rw [hz2]; omega) (by omega)
    rw [hz1, Int.toNat_natCast, ← hA] at h
    simpa using h
  clear hA
  have H0 : Hid (RowIt (w.alloc (.cells A 57)) w.heap.size ts.length ts 0) := ⟨A, heap_alloc_new w _, hAs, fun i _ h => absurd h (by omega)⟩
  clear hAs
  go_enter Tryd.func48, Tryd.ntmps48
  go_wp2
  go_loopw [4] (fun i wr => ∃ (k : Nat), k ≤ ts.length ∧ i = .int .i64 k ∧ Hid (RowIt wr w.heap.size ts.length ts k) ∧ Below w.heap.size w wr) (fun i _ => ts.length - (intOf i).toNat)
  case atStart => exact ⟨0, by omega, rfl, H0.out, (Below.refl _ _).alloc (Nat.le_refl _) _⟩
  case round =>
    obtain ⟨k, hk, rfl, hrow, hb⟩ := hrel
    clear H0 hmk hi hz0 hz1 hz2
    by_cases hlt : k < ts.length
    · obtain ⟨b, off, rfl, hbb, h0, h1, h2, h3⟩ := hx.out.stays hb k hlt
      have HP : Hid (∃ x : It, x = ts[k]) := ⟨_, rfl⟩
      obtain ⟨⟨q, f, lv, tx⟩, hp⟩ := HP.out
      rw [← hp] at h0 h1 h2 h3
      have HQ : Hid ((q, f, lv, tx) = ts[k]) := hp
      clear hp HP
      dsimp only at h0 h1 h2 h3
      go_wp2_with fail
      refine (toItem_any q f lv tx _).mono ?_
      rintro e w1 ⟨rfl, hb1⟩
      have R1 : Hid (RowIt w1 w.heap.size ts.length ts k) := hrow.out.stays hb1 hrow.out.lt
      have B1 : Hid (Below w.heap.size w w1) := hb.trans (hb1.mono hb.size)
      obtain ⟨v0, z0⟩ := R1.out.cell (k * 4) (by omega)
      obtain ⟨v1, z1⟩ := R1.out.cell (k * 4 + 1) (by omega)
      obtain ⟨v2, z2⟩ := R1.out.cell (k * 4 + 2) (by omega)
      obtain ⟨v3, z3⟩ := R1.out.cell (k * 4 + 3) (by omega)
      have f0 := R1.out.frozen (k * 4)
      have f1 := R1.out.frozen (k * 4 + 1)
      have f2 := R1.out.frozen (k * 4 + 2)
      have f3 := R1.out.frozen (k * 4 + 3)
      clear hb1 h0 h1 h2 h3 hrow hb
      go_wp2_with fail
      go_roundw
      case rel =>
        have := R1.out.set hlt
        rw [← HQ.out] at this
        exact ⟨k + 1, by omega, by go_num, this, (((B1.out.setCell (Nat.le_refl _) _).setCell (Nat.le_refl _) _).setCell (Nat.le_refl _) _).setCell (Nat.le_refl _) _⟩
      case measure => simp [intOf]; omega
    · obtain rfl : k = ts.length := by omega
      go_wp2_with fail
      go_ret
      exact ⟨rfl, hrow.out, hb⟩

/-- a list that was handed in is copied. -/
theorem toItems_sl (w : World) (ao : Option Addr) (cap : Nat) (ts : List It) (hx : Hid (ItemsAt w ao ts)) (hl : ts.length ≤ 1048576) :
    Calls Tryd.prog 48 #[.slice ao ts.length cap] w fun e w' => e = .returned (.slice (some ⟨w.heap.size, 0, none⟩) ts.length ts.length) ∧ SlI w' w.heap.size (.slice (some ⟨w.heap.size, 0, none⟩) ts.length ts.length) ts ∧ ItemsAt w' (some ⟨w.heap.size, 0, none⟩) ts ∧ Below w.heap.size w w' :=
  (toItems_row w ao cap ts hx hl).mono fun e w' ⟨h1, h2, h3⟩ => ⟨h1, h2.sl rfl hl (Nat.le_refl _), h2.items, h3⟩
end Go.Proofs.YtlflcjdpdbdbkaaDoor

/- Two slices of items compared. -/
namespace Go.Proofs.YtlflcjdpdbdbkaaDoor
open Go.RowKit Pl
set_option linter.unusedVariables false

theorem eqItems_sl (v1 v2 : Value) (ts : List It) (B1 B2 : Nat) (w : World) (h1 : SlI w B1 v1 ts) (h2 : SlI w B2 v2 ts) (hl : ts.length ≤ 1048576) :
    Calls Tryd.prog 49 #[v1, v2] w fun e w' => e = .returned (.bool true) ∧ Below w.heap.size w w' := by
  obtain ⟨a1, c1, rfl, x1⟩ := h1.items
  obtain ⟨a2, c2, rfl, x2⟩ := h2.items
  exact eqItems_same a1 a2 c1 c2 ts w x1 x2 hl
end Go.Proofs.YtlflcjdpdbdbkaaDoor

