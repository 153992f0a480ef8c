/- Joined texts: CNu CSz CEs CA1 CA2 CA3 CA4 CGv CBs CA5 CA6. -/
import Derived.Test.YtdodeillifoibaaSq5
import Derived.Test.YtdodeillifoibaaSq6
import Derived.Test.YtdodeillifoibaaSq1
import Derived.Test.YtdodeillifoibaaSq7
import Derived.Laws.MakeOwn
import Derived.BigQuiet
/- Numbers of items, by the interface; slices of items. -/
namespace Go.Proofs.Ytdodeillifoibaa
open Go.RowKit Pl
set_option linter.unusedVariables false

/-- an item as a value. -/
def agg (x : It) : Value := .agg #[.int .i64 x.1, .int .i64 x.2.1, .int .i64 x.2.2.1, .string x.2.2.2]
/-- the item of which all is zero. -/
def zIt : It := (0, 0, 0, ⟨#[]⟩)
/-- an item's cells. -/
def cel (x : It) : List Value := [.int .i64 x.1, .int .i64 x.2.1, .int .i64 x.2.2.1, .string x.2.2.2]
/-- items' cells. -/
def cels (ts : List It) : List Value := ts.flatMap cel
theorem cels_cons (x : It) (ts : List It) : cels (x :: ts) = cel x ++ cels ts := rfl
theorem cels_append (a b : List It) : cels (a ++ b) = cels a ++ cels b := by simp [cels]
theorem cels_length : ∀ (ts : List It), (cels ts).length = ts.length * 4
  | [] => rfl
  | x :: ts => by rw [cels_cons, List.length_append, cels_length ts, List.length_cons]; show 4 + ts.length * 4 = _; omega
theorem cels_drop : ∀ (ts : List It) (k : Nat), (cels ts).drop (k * 4) = cels (ts.drop k)
  | ts, 0 => by simp
  | [], k + 1 => by simp [cels]
  | x :: ts, k + 1 => by
    rw [cels_cons, show (k + 1) * 4 = 4 + k * 4 by omega, ← List.drop_drop, List.drop_succ_cons, ← cels_drop ts k]
    rfl
theorem cels_at {ts : List It} {i : Nat} (h : i < ts.length) : (cels ts)[i * 4]? = some (.int .i64 ts[i].1) ∧ (cels ts)[i * 4 + 1]? = some (.int .i64 ts[i].2.1) ∧ (cels ts)[i * 4 + 2]? = some (.int .i64 ts[i].2.2.1) ∧ (cels ts)[i * 4 + 3]? = some (.string ts[i].2.2.2) := by
  have e : ∀ j, (cels ts)[i * 4 + j]? = (cels (ts.drop i))[j]? := fun j => by rw [← cels_drop, List.getElem?_drop]
  have e0 := e 0
  rw [Nat.add_zero] at e0
  rw [e0, e 1, e 2, e 3, List.drop_eq_getElem_cons h, cels_cons]
  exact ⟨rfl, rfl, rfl, rfl⟩
theorem cels_one {ts : List It} : ∀ u ∈ cels ts, u.oneCell' = true := by
  intro u hu
  obtain ⟨x, _, hx⟩ := List.mem_flatMap.1 hu
  simp [cel] at hx
  rcases hx with rfl | rfl | rfl | rfl <;> rfl
/-- the slice v lies in a block from B on and holds the items ts. -/
def SlI (w : World) (B : Nat) (v : Value) (ts : List It) : Prop := Sl w 57 4 B v ts.length (cels ts)
section
variable {w w' : World} {B : Nat} {v : Value} {ts : List It}
theorem SlI.lt (h : SlI w B v ts) : ∀ k, v.ownBlock = some k → B ≤ k ∧ k < w.heap.size := Sl.lt h
theorem SlI.keep (h : SlI w B v ts) (hk : ∀ k, v.ownBlock = some k → k < w.heap.size → w'.heap[k]? = w.heap[k]?) : SlI w' B v ts := Sl.keep h hk
theorem SlI.below (h : SlI w B v ts) (hb : Below w.heap.size w w') : SlI w' B v ts := Sl.below h hb
theorem SlI.down {B' : Nat} (h : SlI w B v ts) (hB : B' ≤ B) : SlI w B' v ts := Sl.down h hB
theorem SlI.drew (h : SlI w B v ts) : SlI w.drew B v ts := Sl.keep h fun _ _ _ => rfl
theorem SlI.drewN (h : SlI w B v ts) (m : Nat) : SlI (w.drewN m) B v ts := Sl.keep h fun _ _ _ => by rw [World.heap_drewN]
theorem SlI.made (w : World) (B : Nat) (hb : B ≤ w.heap.size) : SlI (w.alloc (.cells #[] 57)) B (.slice (some ⟨w.heap.size, 0, none⟩) 0 0) [] := Sl.made w 57 4 B hb
/-- it is read as a list that was handed in. -/
theorem SlI.items (h : SlI w B v ts) : ∃ ao cap, v = .slice ao ts.length cap ∧ ItemsAt w ao ts := by
  by_cases h0 : 0 < ts.length
  · obtain ⟨g, off, cap, rfl, h1, h2, h3, h4⟩ := Sl.read h h0
    refine ⟨_, cap, rfl, fun i hi => ⟨g, off, rfl, h2, ?_⟩⟩
    obtain ⟨c0, c1, c2, c3⟩ := cels_at hi
    refine ⟨h3 _ _ c0, ?_, ?_, ?_⟩
    · rw [Nat.add_assoc]; exact h3 _ _ c1
    · rw [Nat.add_assoc]; exact h3 _ _ c2
    · rw [Nat.add_assoc]; exact h3 _ _ c3
  · obtain ⟨ao, cap, rfl⟩ := Sl.form h
    exact ⟨ao, cap, rfl, fun i hi => by omega⟩
end
/-- a row of items is a slice. -/
theorem RowIt.sl {w : World} {g n B : Nat} {ts : List It} (h : RowIt w g n ts n) (hn : ts.length = n) (hm : n ≤ 1048576) (hB : B ≤ g) : SlI w B (.slice (some ⟨g, 0, none⟩) n n) ts := by
  obtain ⟨arr, h1, h2, h3⟩ := h
  subst hn
  refine ⟨cels_length ts, .inr ⟨g, 0, ts.length, arr, rfl, hB, h1, Nat.le_refl _, by unfold maxLen; omega, by omega, fun j hj => ?_⟩⟩
  rw [Nat.zero_add]
  obtain ⟨i, r, hr, rfl⟩ : ∃ i r, r < 4 ∧ j = i * 4 + r := ⟨j / 4, j % 4, by omega, by omega⟩
  have hi : i < ts.length := by omega
  obtain ⟨a0, a1, a2, a3⟩ := h3 i hi hi
  obtain ⟨c0, c1, c2, c3⟩ := cels_at hi
  match r, hr with
  | 0, _ => rw [Nat.add_zero, a0, c0]
  | 1, _ => rw [a1, c1]
  | 2, _ => rw [a2, c2]
  | 3, _ => rw [a3, c3]

/-- what an append takes: a slice of one item, new. -/
theorem src_one (w : World) (t : TypeId) (ht : Try.prog.underlying t = some (.slice 57)) (x : It) : Src Try.prog 4 t (.slice (some ⟨w.heap.size, 0, none⟩) 1 1) 1 (cels [x]) (w.alloc (.cells #[.int .i64 x.1, .int .i64 x.2.1, .int .i64 x.2.2.1, .string x.2.2.2] 57)) := by
  refine Src.ofSlice _ ht ⟨w.heap.size, 0, none⟩ 1 1 (cels [x]) rfl (fun j u hu => ?_) cels_one
  rw [Addr.add_lit, Nat.zero_add, cell_of_row _ _ _ _ 57 (0, 0) (heap_alloc_new w _), ← hu]
  have hj : j < 4 := (List.getElem?_eq_some_iff.1 hu).1
  match j, hj with
  | 0, _ => rfl
  | 1, _ => rfl
  | 2, _ => rfl
  | 3, _ => rfl
theorem wpList_pushIt {w : World} {ops : Array Oper} {rest : List Oper} {o : Oper} {a : Act} {Q : Exit → Act → World → Prop}
    (hgd : o.guard = none) (s x : Operand) (t : TypeId) (ho : o.op = .call { callee := .builtin .append, args := #[s, x], argTypes := #[t, t] })
    (ht : Try.prog.underlying t = some (.slice 57)) (B : Nat) (v : Value) (ts : List It) (hs : a.eval s = v) (hown : SlI w B v ts) (y : It)
    (hx : a.eval x = .slice (some ⟨w.heap.size, 0, none⟩) 1 1) (hn : ts.length ≤ 1048576) (hB : B ≤ w.heap.size)
    (h : ∀ v' w', SlI w' B v' (ts ++ [y]) → w.grownBy w' v.ownBlock → Below B w w' → (v'.ownBlock = v.ownBlock ∨ v'.ownBlock = some (w.heap.size + 1)) → wpList Try.prog ops Q rest (a.put o.dst v') w') :
    wpList Try.prog ops Q (o :: rest) a (w.alloc (.cells #[.int .i64 y.1, .int .i64 y.2.1, .int .i64 y.2.2.1, .string y.2.2.2] 57)) := by
  refine wpList_appendS hgd s x t ho _ 40 ht Try.infoI rfl hs (Sl.alloc hown _) _ 1 (cels [y]) hx (src_one w t ht y) (by unfold maxLen; omega) (by omega) (by simp; omega) ?_
  intro v' w' h1 h2 h3
  have hg : w.grownBy w' v.ownBlock := ⟨h2.os, h2.tape, h2.output, Nat.le_trans (by simp) h2.size, fun k hk hne => (h2.block k (by simp; omega) hne).trans (heap_alloc_old w _ hk)⟩
  refine h v' w' ?_ hg ?_ ?_
  · unfold SlI
    rw [List.length_append, cels_append]
    exact h1
  · exact ((Below.refl B w).alloc hB _).grown h2 (by simp; omega) (fun k hk => (Sl.lt hown k hk).1)
  · simpa using h3
end Go.Proofs.Ytdodeillifoibaa


/- Lists of items measured and copied, told more of. -/
namespace Go.Proofs.Ytdodeillifoibaa
open Go.RowKit Pl
set_option linter.unusedVariables false

set_option maxRecDepth 100000 in
set_option maxHeartbeats 1000000 in
theorem szItems_left (left : Nat) (hleft : left ≤ 1048576) (ao : Option Addr) (cap : Nat) (ts : List It) (w : World) (hx : Hid (ItemsAt w ao ts)) (hl : ts.length ≤ 9223372036854775807) (hs : Hid (∀ x ∈ ts, x.2.2.2.size ≤ 9223372036854775807)) :
    Calls Try.prog 98 #[.slice ao ts.length cap, .int .i64 left] w fun e w' => (e = .returned (.int .i64 (-1)) ∨ (∃ z : Nat, e = .returned (.int .i64 z) ∧ z + ts.length ≤ left ∧ ∀ x ∈ ts, x.2.2.2.size ≤ 1048576)) ∧ Below w.heap.size w w' := by
  by_cases h1 : left < ts.length
  · have hd : decide ((left : Int) - (ts.length : Int) < 0) = true := by simp; omega
    go_enter Try.func98, Try.ntmps98
    go_wp2
    go_ret
    exact ⟨.inl rfl, Below.refl _ _⟩
  have hl2 : ts.length ≤ left := by omega
  have hd : decide ((left : Int) - (ts.length : Int) < 0) = false := by simp; omega
  go_enter Try.func98, Try.ntmps98
  go_wp2
  clear hd
  go_loopw [1, 5] (fun lf i wr => ∃ (k z : Nat), k ≤ ts.length ∧ z + ts.length ≤ left ∧ lf = .int .i64 z ∧ i = .int .i64 k ∧ Hid (∀ x ∈ ts.take k, x.2.2.2.size ≤ 1048576) ∧ Hid (Below w.heap.size w wr)) (fun _ i _ => ts.length - (intOf i).toNat)
  case atStart => exact ⟨0, left - ts.length, Nat.zero_le _, by omega, by congr 1; omega, rfl, (fun x hx => by simp at hx : ∀ x ∈ ts.take 0, x.2.2.2.size ≤ 1048576), Below.refl _ _⟩
  case round =>
    obtain ⟨k, z, hk, hz, rfl, rfl, hsm, hb⟩ := hrel
    by_cases hlt : k < ts.length
    · obtain ⟨b, off, rfl, hbb, c0, c1, c2, c3⟩ := hx.out.stays hb.out k hlt
      have hsz := hs.out _ (List.getElem_mem hlt)
      have HP : Hid (∃ x : It, x = ts[k]) := ⟨_, rfl⟩
      obtain ⟨⟨q, f, lv, tx⟩, hp⟩ := HP.out
      rw [← hp] at c0 c1 c2 c3 hsz
      have HQ : Hid ((q, f, lv, tx) = ts[k]) := hp
      clear hp HP
      dsimp only at c0 c1 c2 c3 hsz
      go_wp2_with fail
      by_cases hlong : z < tx.size
      · refine (szItem_long q f lv tx z _ hlong hsz (by omega)).mono ?_
        rintro e w1 ⟨rfl, hb1⟩
        go_wp2_with fail
        go_ret
        exact ⟨.inl rfl, hb.out.trans (hb1.mono hb.out.size)⟩
      · refine (szItem_any q f lv tx z _ (by omega) (by omega)).mono ?_
        rintro e w1 ⟨rfl, hb1⟩
        have B1 : Hid (Below w.heap.size w w1) := hb.out.trans (hb1.mono hb.out.size)
        have hzz : z - tx.size + ts.length ≤ left := by omega
        have HSM : Hid (∀ x ∈ ts.take (k + 1), x.2.2.2.size ≤ 1048576) := by
          intro x hx
          rw [List.take_succ_eq_append_getElem hlt] at hx
          rcases List.mem_append.1 hx with h1 | h1
          · exact hsm.out x h1
          · rw [List.mem_singleton.1 h1, ← HQ.out]; show tx.size ≤ 1048576; omega
        generalize z - tx.size = zz at *
        have hd : decide ((zz : Int) < 0) = false := by simp
        clear hb1 c0 c1 c2 c3
        go_wp2_with fail
        go_roundw
        case rel => exact ⟨k + 1, zz, by omega, hzz, rfl, by go_num, HSM, B1⟩
        case measure => simp [intOf]; omega
    · go_wp2_with fail
      go_ret
      exact ⟨.inr ⟨z, rfl, hz, by have := hsm.out; rwa [List.take_of_length_le (by omega)] at this⟩, hb.out⟩

set_option maxRecDepth 100000 in
set_option maxHeartbeats 1000000 in
theorem toItems_row (w : World) (ao : Option Addr) (cap : Nat) (ts : List It) (hx : Hid (ItemsAt w ao ts)) (hl : ts.length ≤ 1048576) :
    Calls Try.prog 100 #[.slice ao ts.length cap] w fun e w' => e = .returned (.slice (some ⟨w.heap.size, 0, none⟩) ts.length ts.length) ∧ RowIt w' w.heap.size ts.length ts ts.length ∧ Below w.heap.size w w' := by
  obtain ⟨i0, hi, hz0, hz1, hz2⟩ := info_parts Try.infoI
  obtain ⟨A, hA, hAs⟩ : ∃ A : Array Value, A = madeCells (Value.agg #[.int .i64 0, .int .i64 0, .int .i64 0, .string ⟨#[]⟩]).cells (ts.length * 4) ∧ A.size = ts.length * 4 := ⟨_, rfl, size_madeCells _ _⟩
  have hmk : ∀ W : World, (Instr.makeSlice 24 (.int .i64 (ts.length : Int)) (.int .i64 (ts.length : Int))).run Try.prog W = .ok (.slice (some ⟨W.heap.size, 0, none⟩) ts.length ts.length) (W.alloc (.cells A 57)) := fun W => by
    have h := run_make (P := Try.prog) W 24 57 i0 _ Try.underlying24 hi hz0 .i64 .i64 (ts.length : Int) (ts.length : Int) (by omega) (by omega) (by rw [hz2]; omega) (by omega)
    rw [hz1, Int.toNat_natCast, ← hA] at h
    simpa using h
  clear hA
  have H0 : Hid (RowIt (w.alloc (.cells A 57)) w.heap.size ts.length ts 0) := ⟨A, heap_alloc_new w _, hAs, fun i _ h => absurd h (by omega)⟩
  clear hAs
  go_enter Try.func100, Try.ntmps100
  go_wp2
  go_loopw [4] (fun i wr => ∃ (k : Nat), k ≤ ts.length ∧ i = .int .i64 k ∧ Hid (RowIt wr w.heap.size ts.length ts k) ∧ Below w.heap.size w wr) (fun i _ => ts.length - (intOf i).toNat)
  case atStart => exact ⟨0, by omega, rfl, H0.out, (Below.refl _ _).alloc (Nat.le_refl _) _⟩
  case round =>
    obtain ⟨k, hk, rfl, hrow, hb⟩ := hrel
    clear H0 hmk hi hz0 hz1 hz2
    by_cases hlt : k < ts.length
    · obtain ⟨b, off, rfl, hbb, h0, h1, h2, h3⟩ := hx.out.stays hb k hlt
      have HP : Hid (∃ x : It, x = ts[k]) := ⟨_, rfl⟩
      obtain ⟨⟨q, f, lv, tx⟩, hp⟩ := HP.out
      rw [← hp] at h0 h1 h2 h3
      have HQ : Hid ((q, f, lv, tx) = ts[k]) := hp
      clear hp HP
      dsimp only at h0 h1 h2 h3
      go_wp2_with fail
      refine (toItem_any q f lv tx _).mono ?_
      rintro e w1 ⟨rfl, hb1⟩
      have R1 : Hid (RowIt w1 w.heap.size ts.length ts k) := hrow.out.stays hb1 hrow.out.lt
      have B1 : Hid (Below w.heap.size w w1) := hb.trans (hb1.mono hb.size)
      obtain ⟨v0, z0⟩ := R1.out.cell (k * 4) (by omega)
      obtain ⟨v1, z1⟩ := R1.out.cell (k * 4 + 1) (by omega)
      obtain ⟨v2, z2⟩ := R1.out.cell (k * 4 + 2) (by omega)
      obtain ⟨v3, z3⟩ := R1.out.cell (k * 4 + 3) (by omega)
      have f0 := R1.out.frozen (k * 4)
      have f1 := R1.out.frozen (k * 4 + 1)
      have f2 := R1.out.frozen (k * 4 + 2)
      have f3 := R1.out.frozen (k * 4 + 3)
      clear hb1 h0 h1 h2 h3 hrow hb
      go_wp2_with fail
      go_roundw
      case rel =>
        have := R1.out.set hlt
        rw [← HQ.out] at this
        exact ⟨k + 1, by omega, by go_num, this, (((B1.out.setCell (Nat.le_refl _) _).setCell (Nat.le_refl _) _).setCell (Nat.le_refl _) _).setCell (Nat.le_refl _) _⟩
      case measure => simp [intOf]; omega
    · obtain rfl : k = ts.length := by omega
      go_wp2_with fail
      go_ret
      exact ⟨rfl, hrow.out, hb⟩

/-- a list that was handed in is copied. -/
theorem toItems_sl (w : World) (ao : Option Addr) (cap : Nat) (ts : List It) (hx : Hid (ItemsAt w ao ts)) (hl : ts.length ≤ 1048576) :
    Calls Try.prog 100 #[.slice ao ts.length cap] w fun e w' => e = .returned (.slice (some ⟨w.heap.size, 0, none⟩) ts.length ts.length) ∧ SlI w' w.heap.size (.slice (some ⟨w.heap.size, 0, none⟩) ts.length ts.length) ts ∧ ItemsAt w' (some ⟨w.heap.size, 0, none⟩) ts ∧ Below w.heap.size w w' :=
  (toItems_row w ao cap ts hx hl).mono fun e w' ⟨h1, h2, h3⟩ => ⟨h1, h2.sl rfl hl (Nat.le_refl _), h2.items, h3⟩
end Go.Proofs.Ytdodeillifoibaa


/- Two slices of items compared. -/
namespace Go.Proofs.Ytdodeillifoibaa
open Go.RowKit Pl
set_option linter.unusedVariables false

theorem eqItems_sl (v1 v2 : Value) (ts : List It) (B1 B2 : Nat) (w : World) (h1 : SlI w B1 v1 ts) (h2 : SlI w B2 v2 ts) (hl : ts.length ≤ 1048576) :
    Calls Try.prog 11 #[v1, v2] w fun e w' => e = .returned (.bool true) ∧ Below w.heap.size w w' := by
  obtain ⟨a1, c1, rfl, x1⟩ := h1.items
  obtain ⟨a2, c2, rfl, x2⟩ := h2.items
  exact eqItems_same a1 a2 c1 c2 ts w x1 x2 hl
end Go.Proofs.Ytdodeillifoibaa


/- The item that has a number: the walks over store.at and over both ItemAt. -/
namespace Go.Proofs.Ytdodeillifoibaa
open Go.RowKit Pl
set_option linter.unusedVariables false

/-- the first item that has the number n. -/
def atP (ts : List It) (n : Int) : Option It := ts.find? fun x => decide (x.1 = n)
/-- whether one has it. -/
def hasP (ts : List It) (n : Int) : Bool := (atP ts n).isSome
theorem zt (w : World) : ItAt (w.alloc (.cells #[.int .i64 0, .int .i64 0, .int .i64 0, .string ⟨#[]⟩] 57)) w.heap.size 0 0 0 ⟨#[]⟩ := heap_alloc_new w _
/-- four cells stored. -/
theorem ItAt.put4 {w : World} {g : Nat} {q f l q' f' l' : Int} {t t' : ByteArray} (h : ItAt w g q f l t) :
    ItAt ((((w.setCell ⟨g, 0, none⟩ (.int .i64 q')).setCell ⟨g, 1, none⟩ (.int .i64 f')).setCell ⟨g, 2, none⟩ (.int .i64 l')).setCell ⟨g, 3, none⟩ (.string t')) g q' f' l' t' := by
  have e0 := heap_setCell_same w g 0 _ 57 (.int .i64 q') h
  have e1 := heap_setCell_same _ g 1 _ 57 (.int .i64 f') e0
  have e2 := heap_setCell_same _ g 2 _ 57 (.int .i64 l') e1
  exact heap_setCell_same _ g 3 _ 57 (.string t') e2
theorem ItAt.frozen {w : World} {g : Nat} {q f l : Int} {t : ByteArray} (h : ItAt w g q f l t) (i : Nat) : w.frozen? ⟨g, i, none⟩ = false := frozen_of_row w g i _ 57 h

end Go.Proofs.Ytdodeillifoibaa


/- The walks over both ItemAt, over one item copied. -/
namespace Go.Proofs.Ytdodeillifoibaa
open Go.RowKit Pl
set_option linter.unusedVariables false
set_option maxRecDepth 100000 in
set_option maxHeartbeats 1000000 in
theorem copyItem_any (q f l : Int) (t : ByteArray) (w : World) (ht : t.size ≤ 1048576) :
    Calls Try.prog 28 #[.agg #[.int .i64 q, .int .i64 f, .int .i64 l, .string t]] w fun e w' => e = .returned (.agg #[.int .i64 q, .int .i64 f, .int .i64 l, .string t]) ∧ Below w.heap.size w w' := by
  obtain ⟨W, hW⟩ : ∃ W, W = (w.alloc (.cells #[.int .i64 q, .int .i64 f, .int .i64 l, .string t] 57)).alloc (.cells #[.int .i64 0, .int .i64 0, .int .i64 0, .string ⟨#[]⟩] 57) := ⟨_, rfl⟩
  have I0 : Hid (ItAt W w.heap.size q f l t) := by
    rw [hW]
    exact ItAt.stays (show ItAt (w.alloc (.cells #[.int .i64 q, .int .i64 f, .int .i64 l, .string t] 57)) w.heap.size q f l t from heap_alloc_new w _) ((Below.refl _ _).alloc (Nat.le_refl _) _) (by simp)
  have Z0 : Hid (ItAt W (w.heap.size + 1) 0 0 0 ⟨#[]⟩) := by
    rw [hW]
    have h := zt (w.alloc (.cells #[.int .i64 q, .int .i64 f, .int .i64 l, .string t] 57))
    rw [show (w.alloc (.cells #[.int .i64 q, .int .i64 f, .int .i64 l, .string t] 57)).heap.size = w.heap.size + 1 by simp] at h
    exact h
  have B0 : Hid (Below w.heap.size w W) := by
    rw [hW]
    exact ((Below.refl _ _).alloc (Nat.le_refl _) _).alloc (by simp) _
  have HW : Hid (W = (w.alloc (.cells #[.int .i64 q, .int .i64 f, .int .i64 l, .string t] 57)).alloc (.cells #[.int .i64 0, .int .i64 0, .int .i64 0, .string ⟨#[]⟩] 57)) := hW
  clear hW
  go_enter Try.func28, Try.ntmps28
  go_wp2_with fail
  rw [← HW.out]
  clear HW
  refine (clone_any t _ ht).mono ?_
  rintro e w1 ⟨rfl, hb1⟩
  have I1 : Hid (ItAt w1 w.heap.size q f l t) := I0.out.stays hb1 I0.out.lt
  have Z1 : Hid (ItAt w1 (w.heap.size + 1) 0 0 0 ⟨#[]⟩) := Z0.out.stays hb1 Z0.out.lt
  have B1 : Hid (Below w.heap.size w w1) := B0.out.trans (hb1.mono B0.out.size)
  clear I0 Z0 B0 hb1
  obtain ⟨c0, c1, c2, c3⟩ := I1.out.cells
  have g3 := I1.out.frozen 3
  have I2 : Hid (ItAt (w1.setCell ⟨w.heap.size, 3, none⟩ (.string t)) w.heap.size q f l t) := heap_setCell_same w1 w.heap.size 3 _ 57 (.string t) I1.out
  have Z2 : Hid (ItAt (w1.setCell ⟨w.heap.size, 3, none⟩ (.string t)) (w.heap.size + 1) 0 0 0 ⟨#[]⟩) := (Below.heap_setCell w1 ⟨w.heap.size, 3, none⟩ _ (w.heap.size + 1) (by simp)).trans Z1.out
  have B2 : Hid (Below w.heap.size w (w1.setCell ⟨w.heap.size, 3, none⟩ (.string t))) := B1.out.setCell (Nat.le_refl _) _
  obtain ⟨e0, e1, e2, e3⟩ := I2.out.cells
  obtain ⟨d0, d1, d2, d3⟩ := Z2.out.cells
  have f0 := Z2.out.frozen 0
  have f1 := Z2.out.frozen 1
  have f2 := Z2.out.frozen 2
  have f3 := Z2.out.frozen 3
  obtain ⟨r0, r1, r2, r3⟩ := (Z2.out.put4 (q' := q) (f' := f) (l' := l) (t' := t)).cells
  go_wp2_with fail
  refine bodyPost_ret (v := .agg #[.int .i64 q, .int .i64 f, .int .i64 l, .string t]) (by simp [results, Try.results28, go_sem, r0, r1, r2, r3]) rfl ⟨rfl, ?_⟩
  exact (((B2.out.setCell (by simp) _).setCell (by simp) _).setCell (by simp) _).setCell (by simp) _

end Go.Proofs.Ytdodeillifoibaa


/- Up to which number none is missing: the walks over store.aru and over both AruOf. -/
namespace Go.Proofs.Ytdodeillifoibaa
open Go.RowKit Pl
set_option linter.unusedVariables false

/-- from n on, as long as there is the next one. -/
def aruGo (ts : List It) : Nat → Nat → Nat
  | 0, n => n
  | f + 1, n => if hasP ts ((n + 1 : Nat) : Int) = true then aruGo ts f (n + 1) else n
/-- the greatest number up to which none is missing. -/
def aruP (ts : List It) : Nat := aruGo ts ts.length 0
/-- which numbers are marked behind the first k items. -/
def flg (ts : List It) (k j : Nat) : Bool := decide (1 ≤ j ∧ j ≤ ts.length) && (ts.take k).any fun x => decide (x.1 = (j : Int))
/-- a row of N flags. -/
def FlAt (w : World) (g N : Nat) (p : Nat → Bool) : Prop := ∃ arr : Array Value, w.heap[g]? = some (.cells arr 4 (0, 0)) ∧ arr.size = N ∧ ∀ j, j < N → arr[j]? = some (.bool (p j))
theorem FlAt.lt {w : World} {g N : Nat} {p : Nat → Bool} (h : FlAt w g N p) : g < w.heap.size := by
  obtain ⟨arr, h1, _⟩ := h
  exact (Array.getElem?_eq_some_iff.1 h1).1
theorem FlAt.below {w w' : World} {g N : Nat} {p : Nat → Bool} (h : FlAt w g N p) (hb : Below w.heap.size w w') : FlAt w' g N p := by
  have := h.lt
  obtain ⟨arr, h1, h2⟩ := h
  exact ⟨arr, (hb.block g this).trans h1, h2⟩
theorem FlAt.cell {w : World} {g N : Nat} {p : Nat → Bool} (h : FlAt w g N p) {j : Nat} (hj : j < N) : w.cell? ⟨g, j, none⟩ = some (.bool (p j)) ∧ w.frozen? ⟨g, j, none⟩ = false := by
  obtain ⟨arr, h1, h2, h3⟩ := h
  exact ⟨by rw [cell_of_row w g j _ 4 (0, 0) h1]; exact h3 j hj, frozen_of_row w g j _ 4 h1⟩
theorem FlAt.set {w : World} {g N : Nat} {p p' : Nat → Bool} (h : FlAt w g N p) (k : Nat) (hp : ∀ j, p' j = if j = k then true else p j) : FlAt (w.setCell ⟨g, k, none⟩ (.bool true)) g N p' := by
  obtain ⟨arr, h1, h2, h3⟩ := h
  refine ⟨_, heap_setCell_same w g k _ 4 (.bool true) h1, by simp [h2], fun j hj => ?_⟩
  rw [Array.getElem?_setIfInBounds, hp]
  by_cases hjk : k = j
  · subst hjk
    simp [h2, hj]
  · have : ¬ j = k := fun e => hjk e.symm
    simp [hjk, this, h3 j hj]
end Go.Proofs.Ytdodeillifoibaa


/- Items copied; those up to the aru: the walks over copyOfItems, store.whole and both Whole. -/
namespace Go.Proofs.Ytdodeillifoibaa
open Go.RowKit Pl
set_option linter.unusedVariables false

/-- those up to the aru. -/
def wholeP (ts : List It) : List It := ts.filter fun x => decide (x.1 ≤ (aruP ts : Int))
end Go.Proofs.Ytdodeillifoibaa


/- What is given of what is wanted: both Give. -/
namespace Go.Proofs.Ytdodeillifoibaa
open Go.RowKit Pl
set_option linter.unusedVariables false

/-- n is one of them. -/
def inB (ws : List Int) (n : Int) : Bool := decide (n ∈ ws)
/-- those of the list that ws has. -/
def giveP (ws : List Int) (ts : List It) : List It := ts.filter fun x => inB ws x.1
end Go.Proofs.Ytdodeillifoibaa


/- The search by halves: the walks over cmp.Compare, the closure and slices.BinarySearchFunc. -/
namespace Go.Proofs.Ytdodeillifoibaa
open Go.RowKit Pl
set_option linter.unusedVariables false

/-- how two numbers stand. -/
def cmpP (a b : Int) : Int := if a < b then -1 else if b < a then 1 else 0
/-- where a list that ascends parts at n. -/
def Parts (ts : List It) (n : Int) (p : Nat) : Prop := p ≤ ts.length ∧ (∀ x ∈ ts.take p, x.1 < n) ∧ ∀ x ∈ ts.drop p, n ≤ x.1
/-- ascending. -/
def Asc (ts : List It) : Prop := ts.Pairwise fun a b => a.1 < b.1
theorem Asc.at {ts : List It} (h : Asc ts) {i j : Nat} (hij : i < j) (hj : j < ts.length) : (ts[i]'(by omega)).1 < ts[j].1 := List.pairwise_iff_getElem.1 h i j (by omega) hj hij
theorem ahead {ts : List It} (h : Asc ts) {n : Int} {k : Nat} (hk : k < ts.length) (hlt : ts[k].1 < n) : ∀ x ∈ ts.take (k + 1), x.1 < n := by
  intro x hx
  obtain ⟨i, hi, rfl⟩ := List.mem_take_iff_getElem.1 hx
  have hi2 : i < ts.length := by omega
  by_cases hik : i = k
  · subst hik; exact hlt
  · have := h.at (i := i) (j := k) (by omega) hk
    omega
theorem behind {ts : List It} (h : Asc ts) {n : Int} {k : Nat} (hk : k < ts.length) (hge : n ≤ ts[k].1) : ∀ x ∈ ts.drop k, n ≤ x.1 := by
  intro x hx
  obtain ⟨i, hi, rfl⟩ := List.mem_drop_iff_getElem.1 hx
  by_cases hi0 : i = 0
  · subst hi0; simpa using hge
  · have := h.at (i := k) (j := k + i) (by omega) (by omega)
    omega

end Go.Proofs.Ytdodeillifoibaa


/- What is missing: the walks over store.missing and over both Missing. -/
namespace Go.Proofs.Ytdodeillifoibaa
open Go.RowKit Pl
set_option linter.unusedVariables false

/-- from n on, up to last, twenty at most. -/
def missGo (ts : List It) (last : Int) : Nat → Nat → List Int → List Int
  | 0, _, acc => acc
  | f + 1, n, acc => if (n : Int) ≤ last ∧ acc.length < 20 then missGo ts last f (n + 1) (if hasP ts (n : Int) = true then acc else acc ++ [(n : Int)]) else acc
/-- what is missing. -/
def missP (ts : List It) (u : Int) : List Int := missGo ts (if u ≤ 60 then u else 60) (61 - (aruP ts + 1)) (aruP ts + 1) []
end Go.Proofs.Ytdodeillifoibaa


/- The walk over the specification's Missing. -/
namespace Go.Proofs.Ytdodeillifoibaa
open Go.RowKit Pl
set_option linter.unusedVariables false
end Go.Proofs.Ytdodeillifoibaa


