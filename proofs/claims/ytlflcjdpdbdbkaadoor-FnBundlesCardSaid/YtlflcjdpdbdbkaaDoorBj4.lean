/- Joined texts: I2 J1 R1 Ps13 T1 T3. -/
import Derived.Test.YtlflcjdpdbdbkaaDoorBj3
import Derived.Deep.RegionHeld3
import Derived.Deep.QuietTactic
import Derived.Test.YtlflcjdpdbdbkaaDoorBj2
import Derived.Defers
import Derived.Recover
import Derived.Test.YtlflcjdpdbdbkaaDoorBj1
import Derived.Laws.MakeOwn
/- The walks over ShortText of the program and over a short text of the specification; both ItemText, the law on ItemText. -/
namespace Go.Proofs.YtlflcjdpdbdbkaaDoor
open Go.RowKit Pl
set_option linter.unusedVariables false

set_option maxHeartbeats 400000 in
theorem implShort_in (s : ByteArray) (w : World) (hs : s.size ≤ 20000) :
    Calls Tryd.prog 61 #[.string s] w fun e w' => e = .returned (.tuple #[.string (varS s.size ++ s), .bool true]) ∧ Below w.heap.size w w' := by
  have hv := varS_size s.size (by omega)
  go_enter Tryd.func61, Tryd.ntmps61
  go_wp2_with (first | (go_at_call 83; refine (implVar_yes _ _ (by omega)).mono ?_; rintro e w1 ⟨rfl, hb1⟩))
  go_ret2
  exact ⟨rfl, hb1⟩



set_option maxHeartbeats 400000 in
theorem l05Short_any (s : ByteArray) (w : World) (hs : s.size ≤ 20000) :
    Calls Tryd.prog 34 #[.string s] w fun e w' => e = .returned (.string (varS s.size ++ s)) ∧ Below w.heap.size w w' := by
  have hv := varS_size s.size (by omega)
  go_enter Tryd.func34, Tryd.ntmps34
  go_wp2_with (first | (go_at_call 32; refine (l01Var_any _ _ (by omega)).mono ?_; rintro e w1 ⟨rfl, hb1⟩))
  go_ret
  exact ⟨rfl, hb1⟩

/-- the block g is an item. -/
def ItAt (w : World) (g : Nat) (q f l : Int) (t : ByteArray) : Prop := w.heap[g]? = some (.cells #[.int .i64 q, .int .i64 f, .int .i64 l, .string t] 57 (0, 0))
theorem ItAt.cells {w : World} {g : Nat} {q f l : Int} {t : ByteArray} (h : ItAt w g q f l t) : w.cell? ⟨g, 0, none⟩ = some (.int .i64 q) ∧ w.cell? ⟨g, 1, none⟩ = some (.int .i64 f) ∧ w.cell? ⟨g, 2, none⟩ = some (.int .i64 l) ∧ w.cell? ⟨g, 3, none⟩ = some (.string t) :=
  ⟨by rw [cell_of_row w g 0 _ 57 (0, 0) h]; rfl, by rw [cell_of_row w g 1 _ 57 (0, 0) h]; rfl, by rw [cell_of_row w g 2 _ 57 (0, 0) h]; rfl, by rw [cell_of_row w g 3 _ 57 (0, 0) h]; rfl⟩
theorem ItAt.stays {w w' : World} {B g : Nat} {q f l : Int} {t : ByteArray} (h : ItAt w g q f l t) (hb : Below B w w') (hg : g < B) : ItAt w' g q f l t := (hb.block g hg).trans h
theorem ItAt.lt {w : World} {g : Nat} {q f l : Int} {t : ByteArray} (h : ItAt w g q f l t) : g < w.heap.size := (Array.getElem?_eq_some_iff.1 h).1

/-- what stands while an item's bytes are made. -/
theorem it_step {W w w' : World} {g : Nat} {q f l : Int} {t : ByteArray} (h : (w.cell? ⟨g, 0, none⟩ = some (.int .i64 q) ∧ w.cell? ⟨g, 1, none⟩ = some (.int .i64 f) ∧ w.cell? ⟨g, 2, none⟩ = some (.int .i64 l) ∧ w.cell? ⟨g, 3, none⟩ = some (.string t)) ∧ Hid (Below W.heap.size W w ∧ ItAt w g q f l t)) (hb : Below w.heap.size w w') :
    (w'.cell? ⟨g, 0, none⟩ = some (.int .i64 q) ∧ w'.cell? ⟨g, 1, none⟩ = some (.int .i64 f) ∧ w'.cell? ⟨g, 2, none⟩ = some (.int .i64 l) ∧ w'.cell? ⟨g, 3, none⟩ = some (.string t)) ∧ Hid (Below W.heap.size W w' ∧ ItAt w' g q f l t) := by
  obtain ⟨h1, h2⟩ := h
  obtain ⟨h3, h4⟩ := h2.out
  have h5 := h4.stays hb h4.lt
  exact ⟨h5.cells, ⟨h3.trans (hb.mono h3.size), h5⟩⟩

theorem it_drew {W w : World} {g : Nat} {q f l : Int} {t : ByteArray} (h : (w.cell? ⟨g, 0, none⟩ = some (.int .i64 q) ∧ w.cell? ⟨g, 1, none⟩ = some (.int .i64 f) ∧ w.cell? ⟨g, 2, none⟩ = some (.int .i64 l) ∧ w.cell? ⟨g, 3, none⟩ = some (.string t)) ∧ Hid (Below W.heap.size W w ∧ ItAt w g q f l t)) :
    (w.drew.cell? ⟨g, 0, none⟩ = some (.int .i64 q) ∧ w.drew.cell? ⟨g, 1, none⟩ = some (.int .i64 f) ∧ w.drew.cell? ⟨g, 2, none⟩ = some (.int .i64 l) ∧ w.drew.cell? ⟨g, 3, none⟩ = some (.string t)) ∧ Hid (Below W.heap.size W w.drew ∧ ItAt w.drew g q f l t) :=
  it_step h (Below.refl _ _).drew

theorem itemOk_yes {q f l : Int} {t : ByteArray} (w : World) (h : ItOk q f l t) :
    Calls Tryd.prog 70 #[.agg #[.int .i64 q, .int .i64 f, .int .i64 l, .string t]] w fun e w' => e = .returned (.bool true) ∧ Below w.heap.size w w' := by
  have := itemOk_any q f l t w
  rw [itB_yes h] at this
  exact this
theorem itemOk_no {q f l : Int} {t : ByteArray} (w : World) (h : ¬ ItOk q f l t) :
    Calls Tryd.prog 70 #[.agg #[.int .i64 q, .int .i64 f, .int .i64 l, .string t]] w fun e w' => e = .returned (.bool false) ∧ Below w.heap.size w w' := by
  have := itemOk_any q f l t w
  rw [itB_no h] at this
  exact this
theorem spItemOk_yes {q f l : Int} {t : ByteArray} (w : World) (h : ItOk q f l t) :
    Calls Tryd.prog 67 #[.agg #[.int .i64 q, .int .i64 f, .int .i64 l, .string t]] w fun e w' => e = .returned (.bool true) ∧ Below w.heap.size w w' := by
  have := spItemOk_any q f l t w
  rw [itB_yes h] at this
  exact this
theorem spItemOk_no {q f l : Int} {t : ByteArray} (w : World) (h : ¬ ItOk q f l t) :
    Calls Tryd.prog 67 #[.agg #[.int .i64 q, .int .i64 f, .int .i64 l, .string t]] w fun e w' => e = .returned (.bool false) ∧ Below w.heap.size w w' := by
  have := spItemOk_any q f l t w
  rw [itB_no h] at this
  exact this

set_option maxRecDepth 100000 in
set_option maxHeartbeats 1000000 in
theorem itemText_no (q f l : Int) (t : ByteArray) (w : World) (h : Hid (¬ ItOk q f l t)) :
    Calls Tryd.prog 60 #[.agg #[.int .i64 q, .int .i64 f, .int .i64 l, .string t]] w fun e w' => e = .returned (.tuple #[.string ByteArray.empty, .bool false]) ∧ Below w.heap.size w w' := by
  go_enter Tryd.func60, Tryd.ntmps60
  go_wp2_with fail
  refine (itemOk_no _ h.out).mono ?_
  rintro e w1 ⟨rfl, hb1⟩
  go_wp2_with fail
  go_ret2
  exact ⟨rfl, ((Below.refl _ _).alloc (Nat.le_refl _) _).trans (hb1.mono (by simp))⟩
set_option maxRecDepth 100000 in
set_option maxHeartbeats 1000000 in
theorem spItemText_no (q f l : Int) (t : ByteArray) (w : World) (h : Hid (¬ ItOk q f l t)) :
    Calls Tryd.prog 33 #[.agg #[.int .i64 q, .int .i64 f, .int .i64 l, .string t]] w fun e w' => e = .returned (.tuple #[.string ByteArray.empty, .bool false]) ∧ Below w.heap.size w w' := by
  go_enter Tryd.func33, Tryd.ntmps33
  go_wp2_with fail
  refine (spItemOk_no _ h.out).mono ?_
  rintro e w1 ⟨rfl, hb1⟩
  go_wp2_with fail
  go_ret2
  exact ⟨rfl, ((Below.refl _ _).alloc (Nat.le_refl _) _).trans (hb1.mono (by simp))⟩

theorem byteS_size (n : Nat) : (byteS n).size = 1 := by rw [byteS, strOfNums_size]; rfl
theorem varS_small {n : Nat} (h : n ≤ 1000000000) : (varS n).size ≤ 5 := by
  rw [rt_size, varS_list]; exact varL_len h

set_option maxRecDepth 100000 in
set_option maxHeartbeats 4000000 in
theorem itemText_yes (q f l : Nat) (t : ByteArray) (w : World) (h : Hid (ItOk q f l t)) :
    Calls Tryd.prog 60 #[.agg #[.int .i64 q, .int .i64 f, .int .i64 l, .string t]] w fun e w' => e = .returned (.tuple #[.string (itemS q f l t), .bool true]) ∧ Below w.heap.size w w' := by
  have hn := h.out.nats
  have z1 := varS_small (n := q) (by omega)
  have z2 := byteS_size f
  have z3 := byteS_size l
  have z4 := varS_small (n := t.size) (by omega)
  have n1 : ¬9223372036854775807 < (varS q).size + 1 := by omega
  have n2 : ¬9223372036854775807 < (varS q).size + 1 + 1 := by omega
  have n3 : ¬9223372036854775807 < (varS q).size + 1 + 1 + ((varS t.size).size + t.size) := by omega
  have H0 : Hid (ItAt (w.alloc (.cells #[.int .i64 q, .int .i64 f, .int .i64 l, .string t] 57)) w.heap.size q f l t) := heap_alloc_new w _
  have HB0 : Hid (Below w.heap.size w (w.alloc (.cells #[.int .i64 q, .int .i64 f, .int .i64 l, .string t] 57))) := (Below.refl _ _).alloc (Nat.le_refl _) _
  go_enter Tryd.func60, Tryd.ntmps60
  go_wp2_with fail
  generalize w.alloc (.cells #[.int .i64 q, .int .i64 f, .int .i64 l, .string t] 57) = W0 at *
  refine (itemOk_yes _ h.out).mono ?_
  rintro e w1 ⟨rfl, hb1⟩
  have H1 := H0.out.stays hb1 H0.out.lt
  obtain ⟨l0, l1, l2, l3⟩ := H1.cells
  have HI1 : Hid (ItAt w1 w.heap.size q f l t) := H1
  have HB1 : Hid (Below w.heap.size w w1) := HB0.out.trans (hb1.mono HB0.out.size)
  clear hb1 H1 H0 HB0
  go_wp2_with fail
  refine (implShort_in t _ (by omega)).mono ?_
  rintro e w2 ⟨rfl, hb2⟩
  have H2 := HI1.out.stays hb2 HI1.out.lt
  have HI2 : (w2.cell? ⟨w.heap.size, 0, none⟩ = some (.int .i64 q) ∧ w2.cell? ⟨w.heap.size, 1, none⟩ = some (.int .i64 f) ∧ w2.cell? ⟨w.heap.size, 2, none⟩ = some (.int .i64 l) ∧ w2.cell? ⟨w.heap.size, 3, none⟩ = some (.string t)) ∧ Hid (Below w.heap.size w w2 ∧ ItAt w2 w.heap.size q f l t) :=
    ⟨H2.cells, HB1.out.trans (hb2.mono HB1.out.size), H2⟩
  clear hb2 H2 HI1 HB1 l0 l1 l2 l3
  go_wp2_with fail
  go_region_held3 (fun w' => (w'.cell? ⟨w.heap.size, 0, none⟩ = some (.int .i64 q) ∧ w'.cell? ⟨w.heap.size, 1, none⟩ = some (.int .i64 f) ∧ w'.cell? ⟨w.heap.size, 2, none⟩ = some (.int .i64 l) ∧ w'.cell? ⟨w.heap.size, 3, none⟩ = some (.string t)) ∧ Hid (Below w.heap.size w w' ∧ ItAt w' w.heap.size q f l t)) (first | exact it_drew HI2 | assumption) (first | (go_at_call 59; refine (varOf_any q _ (by omega)).mono ?_; rintro e w3 ⟨rfl, hb3⟩; have hk3 := it_step (W := w) (by assumption) hb3) | (go_at_call 24; (first | refine (byteOf_any f _ (by omega)).mono ?_ | refine (byteOf_any l _ (by omega)).mono ?_); rintro e w4 ⟨rfl, hb4⟩; have hk4 := it_step (W := w) (by assumption) hb4))
  go_wp2_with fail
  go_ret2
  exact ⟨rfl, hk4.2.out.1⟩
set_option maxRecDepth 100000 in
set_option maxHeartbeats 4000000 in
theorem spItemText_yes (q f l : Nat) (t : ByteArray) (w : World) (h : Hid (ItOk q f l t)) :
    Calls Tryd.prog 33 #[.agg #[.int .i64 q, .int .i64 f, .int .i64 l, .string t]] w fun e w' => e = .returned (.tuple #[.string (itemS q f l t), .bool true]) ∧ Below w.heap.size w w' := by
  have hn := h.out.nats
  have z1 := varS_small (n := q) (by omega)
  have z2 := byteS_size f
  have z3 := byteS_size l
  have z4 := varS_small (n := t.size) (by omega)
  have n1 : ¬9223372036854775807 < (varS q).size + 1 := by omega
  have n2 : ¬9223372036854775807 < (varS q).size + 1 + 1 := by omega
  have n3 : ¬9223372036854775807 < (varS q).size + 1 + 1 + ((varS t.size).size + t.size) := by omega
  have H0 : Hid (ItAt (w.alloc (.cells #[.int .i64 q, .int .i64 f, .int .i64 l, .string t] 57)) w.heap.size q f l t) := heap_alloc_new w _
  have HB0 : Hid (Below w.heap.size w (w.alloc (.cells #[.int .i64 q, .int .i64 f, .int .i64 l, .string t] 57))) := (Below.refl _ _).alloc (Nat.le_refl _) _
  go_enter Tryd.func33, Tryd.ntmps33
  go_wp2_with fail
  generalize w.alloc (.cells #[.int .i64 q, .int .i64 f, .int .i64 l, .string t] 57) = W0 at *
  refine (spItemOk_yes _ h.out).mono ?_
  rintro e w1 ⟨rfl, hb1⟩
  have H1 := H0.out.stays hb1 H0.out.lt
  obtain ⟨l0, l1, l2, l3⟩ := H1.cells
  have HI1 : Hid (ItAt w1 w.heap.size q f l t) := H1
  have HB1 : Hid (Below w.heap.size w w1) := HB0.out.trans (hb1.mono HB0.out.size)
  clear hb1 H1 H0 HB0
  have HI2 : (w1.cell? ⟨w.heap.size, 0, none⟩ = some (.int .i64 q) ∧ w1.cell? ⟨w.heap.size, 1, none⟩ = some (.int .i64 f) ∧ w1.cell? ⟨w.heap.size, 2, none⟩ = some (.int .i64 l) ∧ w1.cell? ⟨w.heap.size, 3, none⟩ = some (.string t)) ∧ Hid (Below w.heap.size w w1 ∧ ItAt w1 w.heap.size q f l t) :=
    ⟨HI1.out.cells, HB1.out, HI1.out⟩
  clear HI1 HB1 l0 l1 l2 l3
  go_wp2_with fail
  go_region_held3 (fun w' => (w'.cell? ⟨w.heap.size, 0, none⟩ = some (.int .i64 q) ∧ w'.cell? ⟨w.heap.size, 1, none⟩ = some (.int .i64 f) ∧ w'.cell? ⟨w.heap.size, 2, none⟩ = some (.int .i64 l) ∧ w'.cell? ⟨w.heap.size, 3, none⟩ = some (.string t)) ∧ Hid (Below w.heap.size w w' ∧ ItAt w' w.heap.size q f l t)) (first | exact it_drew HI2 | assumption) (first | (go_at_call 32; refine (l01Var_any q _ (by omega)).mono ?_; rintro e w3 ⟨rfl, hb3⟩; have hk3 := it_step (W := w) (by assumption) hb3) | (go_at_call 31; (first | refine (l05Byte_any f _ (by omega)).mono ?_ | refine (l05Byte_any l _ (by omega)).mono ?_); rintro e w4 ⟨rfl, hb4⟩; have hk4 := it_step (W := w) (by assumption) hb4) | (go_at_call 34; refine (l05Short_any t _ (by omega)).mono ?_; rintro e w5 ⟨rfl, hb5⟩; have hk5 := it_step (W := w) (by assumption) hb5))
  go_wp2_with fail
  go_ret2
  exact ⟨rfl, hk5.2.out.1⟩

end Go.Proofs.YtlflcjdpdbdbkaaDoor

/- Lists of items: what lies where; the walk over the program's ItemsOk. -/
namespace Go.Proofs.YtlflcjdpdbdbkaaDoor
open Go.RowKit Pl
set_option linter.unusedVariables false

/-- an item, plain. -/
abbrev It := Int × Int × Int × ByteArray
/-- the items' cells of a slice. -/
def ItemsAt (w : World) (ao : Option Addr) (ts : List It) : Prop :=
  ∀ i (h : i < ts.length), ∃ b off, ao = some ⟨b, off, none⟩ ∧ b < w.heap.size ∧ w.cell? ⟨b, off + i * 4, none⟩ = some (.int .i64 ts[i].1) ∧ w.cell? ⟨b, off + i * 4 + 1, none⟩ = some (.int .i64 ts[i].2.1) ∧ w.cell? ⟨b, off + i * 4 + 2, none⟩ = some (.int .i64 ts[i].2.2.1) ∧ w.cell? ⟨b, off + i * 4 + 3, none⟩ = some (.string ts[i].2.2.2)
theorem ItemsAt.stays {w w' : World} {ao : Option Addr} {ts : List It} (h : ItemsAt w ao ts) (hb : Below w.heap.size w w') : ItemsAt w' ao ts := by
  intro i hi
  obtain ⟨b, off, h1, h2, h3, h4, h5, h6⟩ := h i hi
  exact ⟨b, off, h1, Nat.lt_of_lt_of_le h2 hb.size, (hb.cell (p := ⟨b, off + i * 4, none⟩) h2).trans h3, (hb.cell (p := ⟨b, off + i * 4 + 1, none⟩) h2).trans h4, (hb.cell (p := ⟨b, off + i * 4 + 2, none⟩) h2).trans h5, (hb.cell (p := ⟨b, off + i * 4 + 3, none⟩) h2).trans h6⟩

/-- whether items ascend from behind 'last', each right. -/
def iGo (last : Int) : List It → Bool
  | [] => true
  | x :: xs => if itB x.1 x.2.1 x.2.2.1 x.2.2.2 = false ∨ x.1 ≤ last then false else iGo x.1 xs
theorem iGo_step {L : Int} {x : It} {xs : List It} (h1 : itB x.1 x.2.1 x.2.2.1 x.2.2.2 = true) (h2 : L < x.1) : iGo L (x :: xs) = iGo x.1 xs := by
  rw [iGo, if_neg (by rw [h1]; simp; omega)]
theorem iGo_bad {L : Int} {x : It} {xs : List It} (h : itB x.1 x.2.1 x.2.2.1 x.2.2.2 = false ∨ x.1 ≤ L) : iGo L (x :: xs) = false := by
  rw [iGo, if_pos h]
/-- the state of a loop over items. -/
def ISt (ts : List It) (k : Nat) (L : Int) : Prop := iGo L (ts.drop k) = iGo 0 ts ∧ 0 ≤ L ∧ (k = 0 → L = 0) ∧ ∀ j (h : j < ts.length), k = j + 1 → L = ts[j].1
theorem iSt_start (ts : List It) : ISt ts 0 0 := ⟨rfl, by omega, fun _ => rfl, fun j _ h => by omega⟩
theorem iSt_next {ts : List It} {L : Int} {k : Nat} (h : ISt ts k L) (hk : k < ts.length) (h1 : itB ts[k].1 ts[k].2.1 ts[k].2.2.1 ts[k].2.2.2 = true) (h2 : L < ts[k].1) : ISt ts (k + 1) ts[k].1 := by
  obtain ⟨a, b, c, d⟩ := h
  refine ⟨?_, by omega, fun h => by omega, fun j hj e => ?_⟩
  · rw [← a, List.drop_eq_getElem_cons hk, iGo_step h1 h2]
  · obtain rfl : j = k := by omega
    rfl
theorem iSt_bad {ts : List It} {L : Int} {k : Nat} (h : ISt ts k L) (hk : k < ts.length) (h1 : itB ts[k].1 ts[k].2.1 ts[k].2.2.1 ts[k].2.2.2 = false ∨ ts[k].1 ≤ L) : iGo 0 ts = false := by
  rw [← h.1, List.drop_eq_getElem_cons hk, iGo_bad h1]
theorem iSt_end {ts : List It} {L : Int} {k : Nat} (h : ISt ts k L) (hk : ts.length ≤ k) : iGo 0 ts = true := by
  rw [← h.1, List.drop_eq_nil_of_le hk]; rfl

theorem itB_is {q f l : Int} {t : ByteArray} {b : Bool} (w : World) (h : itB q f l t = b) :
    Calls Tryd.prog 70 #[.agg #[.int .i64 q, .int .i64 f, .int .i64 l, .string t]] w fun e w' => e = .returned (.bool b) ∧ Below w.heap.size w w' := by rw [← h]; exact itemOk_any q f l t w
theorem spItB_is {q f l : Int} {t : ByteArray} {b : Bool} (w : World) (h : itB q f l t = b) :
    Calls Tryd.prog 67 #[.agg #[.int .i64 q, .int .i64 f, .int .i64 l, .string t]] w fun e w' => e = .returned (.bool b) ∧ Below w.heap.size w w' := by rw [← h]; exact spItemOk_any q f l t w

set_option maxRecDepth 100000 in
set_option maxHeartbeats 1000000 in
theorem itemsOk_any (ao : Option Addr) (cap : Nat) (ts : List It) (w : World) (hx : Hid (ItemsAt w ao ts)) (hl : ts.length ≤ 1048576) :
    Calls Tryd.prog 37 #[.slice ao ts.length cap] w fun e w' => e = .returned (.bool (iGo 0 ts)) ∧ Below w.heap.size w w' := by
  go_enter Tryd.func37, Tryd.ntmps37
  go_wp2
  go_loopw [3, 8] (fun L i wr => ∃ (k : Nat) (l : Int), k ≤ ts.length ∧ L = .int .i64 l ∧ i = .int .i64 k ∧ Hid (ISt ts k l) ∧ Below w.heap.size w wr) (fun _ i _ => ts.length - (intOf i).toNat)
  case atStart => exact ⟨0, 0, Nat.zero_le _, rfl, rfl, iSt_start ts, Below.refl _ _⟩
  case round =>
    obtain ⟨k, l, hk, rfl, rfl, hst, hb⟩ := hrel
    by_cases hlt : k < ts.length
    · obtain ⟨b, off, rfl, hbb, h0, h1, h2, h3⟩ := hx.out.stays hb k hlt
      have HP : Hid (∃ x : It, x = ts[k]) := ⟨_, rfl⟩
      obtain ⟨⟨q, f, lv, tx⟩, hp⟩ := HP.out
      rw [← hp] at h0 h1 h2 h3
      have HQ : Hid ((q, f, lv, tx) = ts[k]) := hp
      clear hp HP
      dsimp only at h0 h1 h2 h3
      have I0 : Hid (ItAt (wr.alloc (.cells #[.int .i64 q, .int .i64 f, .int .i64 lv, .string tx] 57)) wr.heap.size q f lv tx) := heap_alloc_new wr _
      have B0 : Hid (Below w.heap.size w (wr.alloc (.cells #[.int .i64 q, .int .i64 f, .int .i64 lv, .string tx] 57))) := hb.alloc hb.size _
      go_wp2_with fail
      generalize wr.alloc (.cells #[.int .i64 q, .int .i64 f, .int .i64 lv, .string tx] 57) = W0 at *
      clear h0 h1 h2 h3
      cases hit : itB q f lv tx with
      | false =>
        refine (itB_is _ hit).mono ?_
        rintro e w1 ⟨rfl, hb1⟩
        have hbad : iGo 0 ts = false := iSt_bad hst.out hlt (.inl (by rw [← HQ.out]; exact hit))
        have HBAD : Hid (iGo 0 ts = false) := hbad
        clear hbad hit
        go_wp2_with fail
        go_ret
        exact ⟨by rw [HBAD.out]; rfl, B0.out.trans (hb1.mono B0.out.size)⟩
      | true =>
        refine (itB_is _ hit).mono ?_
        rintro e w1 ⟨rfl, hb1⟩
        have I1 := I0.out.stays hb1 I0.out.lt
        have c0 := I1.cells.1
        have HIT : Hid (itB q f lv tx = true) := hit
        have B1 : Hid (Below w.heap.size w w1) := B0.out.trans (hb1.mono B0.out.size)
        clear hit hb1 I1 I0 B0
        by_cases hle : q ≤ l
        · have HBAD : Hid (iGo 0 ts = false) := iSt_bad hst.out hlt (.inr (by rw [← HQ.out]; exact hle))
          go_wp2_with fail
          go_ret
          exact ⟨by rw [HBAD.out]; rfl, B1.out⟩
        · have HN : Hid (ISt ts (k + 1) q) := by
            have := iSt_next hst.out hlt (by rw [← HQ.out]; exact HIT.out) (by rw [← HQ.out]; show l < q; omega)
            rw [← HQ.out] at this
            exact this
          go_wp2_with fail
          go_roundw
          case rel => exact ⟨k + 1, q, by omega, rfl, by go_num, HN.out, B1.out⟩
          case measure => simp [intOf]; omega
    · go_wp2_with fail
      go_ret
      exact ⟨by rw [iSt_end hst.out (by omega)]; rfl, hb⟩
end Go.Proofs.YtlflcjdpdbdbkaaDoor

/- The walks over the program's reader of packets: a number, one byte; where there is none it panics with a value of its own; the recovering of it. -/
namespace Go.Proofs.YtlflcjdpdbdbkaaDoor
open Go.RowKit Pl
set_option linter.unusedVariables false

/-- the block g is a reader of s at the place A. -/
def PrAt (w : World) (g : Nat) (s : ByteArray) (A : Nat) : Prop := w.heap[g]? = some (.cells #[.string s, .int .i64 A] 88 (0, 0))
theorem PrAt.cells {w : World} {g : Nat} {s : ByteArray} {A : Nat} (h : PrAt w g s A) : w.cell? ⟨g, 0, none⟩ = some (.string s) ∧ w.cell? ⟨g, 1, none⟩ = some (.int .i64 A) ∧ w.frozen? ⟨g, 0, none⟩ = false ∧ w.frozen? ⟨g, 1, none⟩ = false :=
  ⟨by rw [cell_of_row w g 0 _ 88 (0, 0) h]; rfl, by rw [cell_of_row w g 1 _ 88 (0, 0) h]; rfl, frozen_of_row w g 0 _ 88 h, frozen_of_row w g 1 _ 88 h⟩
theorem PrAt.stays {w w' : World} {B g : Nat} {s : ByteArray} {A : Nat} (h : PrAt w g s A) (hb : Below B w w') (hg : g < B) : PrAt w' g s A := (hb.block g hg).trans h
theorem PrAt.lt {w : World} {g : Nat} {s : ByteArray} {A : Nat} (h : PrAt w g s A) : g < w.heap.size := (Array.getElem?_eq_some_iff.1 h).1
theorem PrAt.set {w : World} {g : Nat} {s : ByteArray} {A : Nat} (h : PrAt w g s A) (i : Nat) : PrAt (w.setCell ⟨g, 1, none⟩ (.int .i64 i)) g s i := by
  have h1 := heap_setCell_same w g 1 _ 88 (.int .i64 i) h
  unfold PrAt
  rw [h1]; rfl
theorem PrAt.drewN {w : World} {g : Nat} {s : ByteArray} {A : Nat} (h : PrAt w g s A) (n : Nat) : PrAt (w.drewN n) g s A := h

/-- what the reader panics with. -/
def noPk : List PanicEntry := [{ v := .iface 90 (.agg #[]), recovered := false }]

set_option maxRecDepth 100000 in
set_option maxHeartbeats 1000000 in
theorem number_some (s : ByteArray) (g A n i : Nat) (w : World) (hp : Hid (PrAt w g s A)) (hs : s.size ≤ 1048576) (hA : A ≤ s.size) (h : Hid (rv s A = some (n, i))) :
    Calls Tryd.prog 64 #[.pointer (some ⟨g, 0, none⟩)] w fun e w' => e = .returned (.int .i64 n) ∧ PrAt w' g s i ∧ TurnAt g w w' := by
  obtain ⟨c0, c1, f0, f1⟩ := hp.out.cells
  go_enter Tryd.func64, Tryd.ntmps64
  go_wp2
  go_quiet (first | (go_at_call 85; exact Calls.quiet_of_same (implRv_some s A n i _ hs hA h.out)))
  go_wp2
  go_ret
  exact ⟨rfl, (hp.out.drewN _).set i, ((TurnAt.refl g w).drewN _).setCell _ _⟩

set_option maxRecDepth 100000 in
set_option maxHeartbeats 1000000 in
theorem number_none (s : ByteArray) (g A : Nat) (w : World) (hp : Hid (PrAt w g s A)) (hs : s.size ≤ 1048576) (hA : A ≤ s.size) (h : Hid (rv s A = none)) :
    Calls Tryd.prog 64 #[.pointer (some ⟨g, 0, none⟩)] w fun e w' => e = .panicked noPk ∧ TurnAt g w w' := by
  obtain ⟨c0, c1, f0, f1⟩ := hp.out.cells
  go_enter Tryd.func64, Tryd.ntmps64
  go_wp2
  go_quiet (first | (go_at_call 85; exact Calls.quiet_of_same (implRv_none s A _ hs hA h.out)))
  go_wp2
  exact ⟨rfl, rfl, (TurnAt.refl g w).drewN _⟩

set_option maxRecDepth 100000 in
set_option maxHeartbeats 1000000 in
theorem oneB_some (s : ByteArray) (g A : Nat) (w : World) (hp : Hid (PrAt w g s A)) (hs : s.size ≤ 1048576) (hA : A < s.size) :
    Calls Tryd.prog 29 #[.pointer (some ⟨g, 0, none⟩)] w fun e w' => e = .returned (.int .i64 (s[A]'hA).toNat) ∧ PrAt w' g s (A + 1) ∧ TurnAt g w w' := by
  obtain ⟨c0, c1, f0, f1⟩ := hp.out.cells
  have i0 : (0 : Int) ≤ (A : Int) := by omega
  have i1 : (A : Int) < (s.size : Int) := by omega
  have hd : decide ((s.size : Int) ≤ (A : Int)) = false := by simp; omega
  have hw1 : IntKind.i64.wrap ((A : Int) + 1) = (A : Int) + 1 := by rw [IntKind.wrap_i64]; omega
  have hb : (s[A]'hA).toNat < 256 := UInt8.toNat_lt _
  have hw2 : wrap64 ((s[A]'hA).toNat : Int) = ((s[A]'hA).toNat : Int) := by unfold wrap64; omega
  go_enter Tryd.func29, Tryd.ntmps29
  go_wp2
  go_quiet (fail)
  go_wp2
  go_quiet (fail)
  go_wp2
  go_ret
  exact ⟨rfl, (hp.out.drewN _).set (A + 1), ((TurnAt.refl g w).drewN _).setCell _ _⟩

set_option maxRecDepth 100000 in
set_option maxHeartbeats 1000000 in
theorem oneB_none (s : ByteArray) (g A : Nat) (w : World) (hp : Hid (PrAt w g s A)) (hs : s.size ≤ 1048576) (hA : s.size ≤ A) (hA2 : A ≤ 1048576) :
    Calls Tryd.prog 29 #[.pointer (some ⟨g, 0, none⟩)] w fun e w' => e = .panicked noPk ∧ TurnAt g w w' := by
  obtain ⟨c0, c1, f0, f1⟩ := hp.out.cells
  have hd : decide ((s.size : Int) ≤ (A : Int)) = true := by simp; omega
  go_enter Tryd.func29, Tryd.ntmps29
  go_wp2
  go_quiet (fail)
  go_wp2
  exact ⟨rfl, rfl, (TurnAt.refl g w).drewN _⟩

theorem PrAt.turn {w w' : World} {g k A : Nat} {s : ByteArray} (h : PrAt w g s A) (hk : TurnAt k w w') (hg : g ≠ k) : PrAt w' g s A := (hk.block g hg).trans h

theorem oneB_yes (s : ByteArray) (g A n i : Nat) (w : World) (hp : Hid (PrAt w g s A)) (hs : s.size ≤ 1048576) (h : Hid (oneP s A = some (n, i))) :
    Calls Tryd.prog 29 #[.pointer (some ⟨g, 0, none⟩)] w fun e w' => e = .returned (.int .i64 n) ∧ PrAt w' g s i ∧ TurnAt g w w' := by
  by_cases hA : A < s.size
  · have h' := h.out
    rw [oneP_some hA] at h'
    simp only [Option.some.injEq, Prod.mk.injEq] at h'
    obtain ⟨rfl, rfl⟩ := h'
    exact oneB_some s g A w hp hs hA
  · have h' := h.out
    rw [oneP_none hA] at h'
    cases h'
theorem oneB_no (s : ByteArray) (g A : Nat) (w : World) (hp : Hid (PrAt w g s A)) (hs : s.size ≤ 1048576) (hA : A ≤ s.size) (h : Hid (oneP s A = none)) :
    Calls Tryd.prog 29 #[.pointer (some ⟨g, 0, none⟩)] w fun e w' => e = .panicked noPk ∧ TurnAt g w w' := by
  by_cases hA' : A < s.size
  · have h' := h.out
    rw [oneP_some hA'] at h'
    cases h'
  · exact oneB_none s g A w hp hs (by omega) (by omega)

/-- the recovering, where the reader has panicked. -/
theorem catch_panicking (p : Addr) (b : Bool) (w : World) (hc : w.cell? p = some (.bool b)) (hz : w.frozen? p = false) :
    CallsD Tryd.prog 63 #[.pointer (some p)] (.panicking noPk) w fun e u' w' =>
      e = .returned (.tuple #[]) ∧ u' = .panicking [{ v := .iface 90 (.agg #[]), recovered := true }] ∧ w' = w.setCell p (.bool false) := by
  unfold noPk
  refine callsD_of_wpS Tryd.func63 rfl fun c₀ cs hu => ?_
  apply wpS_seq
  apply wpS_region
  simp [wpOpsS, go_sem, recoverD, hu, Tryd.ntmps63, Exit.thenS]
  refine wpS_cond (t := true) (by simp [Act.eval, Array.replicate]) ?_
  simp only [if_true]
  apply wpS_region
  simp [wpOpsS, go_sem, hc, hz, bodyPostS, results, Tryd.results63]

theorem catch_idle (p : Addr) (w : World) :
    CallsD Tryd.prog 63 #[.pointer (some p)] .returning w fun e u' w' => e = .returned (.tuple #[]) ∧ u' = .returning ∧ w' = w := by
  refine callsD_of_wpS Tryd.func63 rfl fun c₀ cs hu => ?_
  apply wpS_seq
  apply wpS_region
  simp [wpOpsS, go_sem, recoverD, hu, Tryd.ntmps63, Exit.thenS]
  refine wpS_cond (t := false) (by simp [Act.eval, Array.replicate]) ?_
  simp only [Bool.false_eq_true, if_false]
  refine wpS_of_wp (wp_skip ?_)
  cases c₀
  simp_all [bodyPostS, results, Tryd.results63]
end Go.Proofs.YtlflcjdpdbdbkaaDoor

/- Lists of items that ascend. -/
namespace Go.Proofs.YtlflcjdpdbdbkaaDoor
open Go.RowKit Pl
set_option linter.unusedVariables false

def Asc (ts : List It) : Prop := ts.Pairwise fun a b => a.1 < b.1
theorem itB_range {q f l : Int} {t : ByteArray} (h : itB q f l t = true) : 1 ≤ q ∧ q ≤ 60 := by
  have := itB_true.1 h
  unfold ItOk at this
  omega
theorem iGo_asc : ∀ (ts : List It) (L : Int), iGo L ts = true → Asc ts ∧ ∀ x ∈ ts, L < x.1 ∧ itB x.1 x.2.1 x.2.2.1 x.2.2.2 = true
  | [], _, _ => ⟨List.Pairwise.nil, fun x hx => by cases hx⟩
  | x :: xs, L, h => by
    rw [iGo] at h
    split at h
    · cases h
    · rename_i hn
      have h1 : itB x.1 x.2.1 x.2.2.1 x.2.2.2 = true := by
        cases hb : itB x.1 x.2.1 x.2.2.1 x.2.2.2 with
        | true => rfl
        | false => exact absurd (.inl hb) hn
      have h2 : L < x.1 := by
        rcases Int.lt_or_le L x.1 with h | h
        · exact h
        · exact absurd (.inr h) hn
      obtain ⟨ha, hb⟩ := iGo_asc xs x.1 h
      refine ⟨List.pairwise_cons.2 ⟨fun y hy => (hb y hy).1, ha⟩, fun y hy => ?_⟩
      rcases List.mem_cons.1 hy with rfl | hy
      · exact ⟨h2, h1⟩
      · have := hb y hy
        exact ⟨by omega, this.2⟩
theorem iGo_of : ∀ (ts : List It) (L : Int), Asc ts → (∀ x ∈ ts, L < x.1 ∧ itB x.1 x.2.1 x.2.2.1 x.2.2.2 = true) → iGo L ts = true
  | [], _, _, _ => rfl
  | x :: xs, L, ha, h => by
    obtain ⟨h1, h2⟩ := h x (List.mem_cons_self ..)
    rw [iGo_step h2 h1]
    obtain ⟨h3, h4⟩ := List.pairwise_cons.1 ha
    exact iGo_of xs x.1 h4 fun y hy => ⟨h3 y hy, (h y (List.mem_cons_of_mem _ hy)).2⟩
end Go.Proofs.YtlflcjdpdbdbkaaDoor

/- The walks over both TokenOk. -/
namespace Go.Proofs.YtlflcjdpdbdbkaaDoor
open Go.RowKit Pl
set_option linter.unusedVariables false

theorem below_drewK {B : Nat} {a w : World} (h : Below B a w) (n : Nat) : Below B a (w.drewN n) := h.trans ⟨rfl, rfl, rfl, Nat.le_refl _, fun _ _ => rfl⟩

end Go.Proofs.YtlflcjdpdbdbkaaDoor

/- The walks over lists of ints and tokens that a law copies, sizes and compares. -/
namespace Go.Proofs.YtlflcjdpdbdbkaaDoor
open Go.RowKit Pl
set_option linter.unusedVariables false

theorem Tryd.info3' : (Tryd.prog.info? 3).map (fun i => (i.zero, i.size, i.bytes)) = some (some (.int .i64 0), 1, 8) := by kernel_rfl

end Go.Proofs.YtlflcjdpdbdbkaaDoor

