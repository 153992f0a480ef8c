/- The walks over ShortText of the program and over a short text of the specification; both ItemText, the law on ItemText. -/
import Derived.Test.YtlflcjdpdbdbkaaDoorV1
import Derived.Test.YtlflcjdpdbdbkaaDoorI1
import Derived.Deep.RegionHeld3
import Derived.Deep.QuietTactic
namespace Go.Proofs.YtlflcjdpdbdbkaaDoor
open Go.RowKit Pl
set_option linter.unusedVariables false

set_option maxHeartbeats 400000 in
theorem implShort_in (s : ByteArray) (w : World) (hs : s.size ≤ 20000) :
    Calls Tryd.prog 61 #[.string s] w fun e w' => e = .returned (.tuple #[.string (varS s.size ++ s), .bool true]) ∧ Below w.heap.size w w' := by
  have hv := varS_size s.size (by omega)
  go_enter Tryd.func61, Tryd.ntmps61
  go_wp2_with (first | (go_at_call 83; refine (implVar_yes _ _ (by omega)).mono ?_; rintro e w1 ⟨rfl, hb1⟩))
  go_ret2
  exact ⟨rfl, hb1⟩



set_option maxHeartbeats 400000 in
theorem l05Short_any (s : ByteArray) (w : World) (hs : s.size ≤ 20000) :
    Calls Tryd.prog 34 #[.string s] w fun e w' => e = .returned (.string (varS s.size ++ s)) ∧ Below w.heap.size w w' := by
  have hv := varS_size s.size (by omega)
  go_enter Tryd.func34, Tryd.ntmps34
  go_wp2_with (first | (go_at_call 32; refine (l01Var_any _ _ (by omega)).mono ?_; rintro e w1 ⟨rfl, hb1⟩))
  go_ret
  exact ⟨rfl, hb1⟩

/-- the block g is an item. -/
def ItAt (w : World) (g : Nat) (q f l : Int) (t : ByteArray) : Prop := w.heap[g]? = some (.cells #[.int .i64 q, .int .i64 f, .int .i64 l, .string t] 57 (0, 0))
theorem ItAt.cells {w : World} {g : Nat} {q f l : Int} {t : ByteArray} (h : ItAt w g q f l t) : w.cell? ⟨g, 0, none⟩ = some (.int .i64 q) ∧ w.cell? ⟨g, 1, none⟩ = some (.int .i64 f) ∧ w.cell? ⟨g, 2, none⟩ = some (.int .i64 l) ∧ w.cell? ⟨g, 3, none⟩ = some (.string t) :=
  ⟨by rw [cell_of_row w g 0 _ 57 (0, 0) h]; rfl, by rw [cell_of_row w g 1 _ 57 (0, 0) h]; rfl, by rw [cell_of_row w g 2 _ 57 (0, 0) h]; rfl, by rw [cell_of_row w g 3 _ 57 (0, 0) h]; rfl⟩
theorem ItAt.stays {w w' : World} {B g : Nat} {q f l : Int} {t : ByteArray} (h : ItAt w g q f l t) (hb : Below B w w') (hg : g < B) : ItAt w' g q f l t := (hb.block g hg).trans h
theorem ItAt.lt {w : World} {g : Nat} {q f l : Int} {t : ByteArray} (h : ItAt w g q f l t) : g < w.heap.size := (Array.getElem?_eq_some_iff.1 h).1

/-- what stands while an item's bytes are made. -/
theorem it_step {W w w' : World} {g : Nat} {q f l : Int} {t : ByteArray} (h : (w.cell? ⟨g, 0, none⟩ = some (.int .i64 q) ∧ w.cell? ⟨g, 1, none⟩ = some (.int .i64 f) ∧ w.cell? ⟨g, 2, none⟩ = some (.int .i64 l) ∧ w.cell? ⟨g, 3, none⟩ = some (.string t)) ∧ Hid (Below W.heap.size W w ∧ ItAt w g q f l t)) (hb : Below w.heap.size w w') :
    (w'.cell? ⟨g, 0, none⟩ = some (.int .i64 q) ∧ w'.cell? ⟨g, 1, none⟩ = some (.int .i64 f) ∧ w'.cell? ⟨g, 2, none⟩ = some (.int .i64 l) ∧ w'.cell? ⟨g, 3, none⟩ = some (.string t)) ∧ Hid (Below W.heap.size W w' ∧ ItAt w' g q f l t) := by
  obtain ⟨h1, h2⟩ := h
  obtain ⟨h3, h4⟩ := h2.out
  have h5 := h4.stays hb h4.lt
  exact ⟨h5.cells, ⟨h3.trans (hb.mono h3.size), h5⟩⟩

theorem it_drew {W w : World} {g : Nat} {q f l : Int} {t : ByteArray} (h : (w.cell? ⟨g, 0, none⟩ = some (.int .i64 q) ∧ w.cell? ⟨g, 1, none⟩ = some (.int .i64 f) ∧ w.cell? ⟨g, 2, none⟩ = some (.int .i64 l) ∧ w.cell? ⟨g, 3, none⟩ = some (.string t)) ∧ Hid (Below W.heap.size W w ∧ ItAt w g q f l t)) :
    (w.drew.cell? ⟨g, 0, none⟩ = some (.int .i64 q) ∧ w.drew.cell? ⟨g, 1, none⟩ = some (.int .i64 f) ∧ w.drew.cell? ⟨g, 2, none⟩ = some (.int .i64 l) ∧ w.drew.cell? ⟨g, 3, none⟩ = some (.string t)) ∧ Hid (Below W.heap.size W w.drew ∧ ItAt w.drew g q f l t) :=
  it_step h (Below.refl _ _).drew

theorem itemOk_yes {q f l : Int} {t : ByteArray} (w : World) (h : ItOk q f l t) :
    Calls Tryd.prog 70 #[.agg #[.int .i64 q, .int .i64 f, .int .i64 l, .string t]] w fun e w' => e = .returned (.bool true) ∧ Below w.heap.size w w' := by
  have := itemOk_any q f l t w
  rw [itB_yes h] at this
  exact this
theorem itemOk_no {q f l : Int} {t : ByteArray} (w : World) (h : ¬ ItOk q f l t) :
    Calls Tryd.prog 70 #[.agg #[.int .i64 q, .int .i64 f, .int .i64 l, .string t]] w fun e w' => e = .returned (.bool false) ∧ Below w.heap.size w w' := by
  have := itemOk_any q f l t w
  rw [itB_no h] at this
  exact this
theorem spItemOk_yes {q f l : Int} {t : ByteArray} (w : World) (h : ItOk q f l t) :
    Calls Tryd.prog 67 #[.agg #[.int .i64 q, .int .i64 f, .int .i64 l, .string t]] w fun e w' => e = .returned (.bool true) ∧ Below w.heap.size w w' := by
  have := spItemOk_any q f l t w
  rw [itB_yes h] at this
  exact this
theorem spItemOk_no {q f l : Int} {t : ByteArray} (w : World) (h : ¬ ItOk q f l t) :
    Calls Tryd.prog 67 #[.agg #[.int .i64 q, .int .i64 f, .int .i64 l, .string t]] w fun e w' => e = .returned (.bool false) ∧ Below w.heap.size w w' := by
  have := spItemOk_any q f l t w
  rw [itB_no h] at this
  exact this

set_option maxRecDepth 100000 in
set_option maxHeartbeats 1000000 in
theorem itemText_no (q f l : Int) (t : ByteArray) (w : World) (h : Hid (¬ ItOk q f l t)) :
    Calls Tryd.prog 60 #[.agg #[.int .i64 q, .int .i64 f, .int .i64 l, .string t]] w fun e w' => e = .returned (.tuple #[.string ByteArray.empty, .bool false]) ∧ Below w.heap.size w w' := by
  go_enter Tryd.func60, Tryd.ntmps60
  go_wp2_with fail
  refine (itemOk_no _ h.out).mono ?_
  rintro e w1 ⟨rfl, hb1⟩
  go_wp2_with fail
  go_ret2
  exact ⟨rfl, ((Below.refl _ _).alloc (Nat.le_refl _) _).trans (hb1.mono (by simp))⟩
set_option maxRecDepth 100000 in
set_option maxHeartbeats 1000000 in
theorem spItemText_no (q f l : Int) (t : ByteArray) (w : World) (h : Hid (¬ ItOk q f l t)) :
    Calls Tryd.prog 33 #[.agg #[.int .i64 q, .int .i64 f, .int .i64 l, .string t]] w fun e w' => e = .returned (.tuple #[.string ByteArray.empty, .bool false]) ∧ Below w.heap.size w w' := by
  go_enter Tryd.func33, Tryd.ntmps33
  go_wp2_with fail
  refine (spItemOk_no _ h.out).mono ?_
  rintro e w1 ⟨rfl, hb1⟩
  go_wp2_with fail
  go_ret2
  exact ⟨rfl, ((Below.refl _ _).alloc (Nat.le_refl _) _).trans (hb1.mono (by simp))⟩

theorem byteS_size (n : Nat) : (byteS n).size = 1 := by rw [byteS, strOfNums_size]; rfl
theorem varS_small {n : Nat} (h : n ≤ 1000000000) : (varS n).size ≤ 5 := by
  rw [rt_size, varS_list]; exact varL_len h

set_option maxRecDepth 100000 in
set_option maxHeartbeats 4000000 in
theorem itemText_yes (q f l : Nat) (t : ByteArray) (w : World) (h : Hid (ItOk q f l t)) :
    Calls Tryd.prog 60 #[.agg #[.int .i64 q, .int .i64 f, .int .i64 l, .string t]] w fun e w' => e = .returned (.tuple #[.string (itemS q f l t), .bool true]) ∧ Below w.heap.size w w' := by
  have hn := h.out.nats
  have z1 := varS_small (n := q) (by omega)
  have z2 := byteS_size f
  have z3 := byteS_size l
  have z4 := varS_small (n := t.size) (by omega)
  have n1 : ¬9223372036854775807 < (varS q).size + 1 := by omega
  have n2 : ¬9223372036854775807 < (varS q).size + 1 + 1 := by omega
  have n3 : ¬9223372036854775807 < (varS q).size + 1 + 1 + ((varS t.size).size + t.size) := by omega
  have H0 : Hid (ItAt (w.alloc (.cells #[.int .i64 q, .int .i64 f, .int .i64 l, .string t] 57)) w.heap.size q f l t) := heap_alloc_new w _
  have HB0 : Hid (Below w.heap.size w (w.alloc (.cells #[.int .i64 q, .int .i64 f, .int .i64 l, .string t] 57))) := (Below.refl _ _).alloc (Nat.le_refl _) _
  go_enter Tryd.func60, Tryd.ntmps60
  go_wp2_with fail
  generalize w.alloc (.cells #[.int .i64 q, .int .i64 f, .int .i64 l, .string t] 57) = W0 at *
  refine (itemOk_yes _ h.out).mono ?_
  rintro e w1 ⟨rfl, hb1⟩
  have H1 := H0.out.stays hb1 H0.out.lt
  obtain ⟨l0, l1, l2, l3⟩ := H1.cells
  have HI1 : Hid (ItAt w1 w.heap.size q f l t) := H1
  have HB1 : Hid (Below w.heap.size w w1) := HB0.out.trans (hb1.mono HB0.out.size)
  clear hb1 H1 H0 HB0
  go_wp2_with fail
  refine (implShort_in t _ (by omega)).mono ?_
  rintro e w2 ⟨rfl, hb2⟩
  have H2 := HI1.out.stays hb2 HI1.out.lt
  have HI2 : (w2.cell? ⟨w.heap.size, 0, none⟩ = some (.int .i64 q) ∧ w2.cell? ⟨w.heap.size, 1, none⟩ = some (.int .i64 f) ∧ w2.cell? ⟨w.heap.size, 2, none⟩ = some (.int .i64 l) ∧ w2.cell? ⟨w.heap.size, 3, none⟩ = some (.string t)) ∧ Hid (Below w.heap.size w w2 ∧ ItAt w2 w.heap.size q f l t) :=
    ⟨H2.cells, HB1.out.trans (hb2.mono HB1.out.size), H2⟩
  clear hb2 H2 HI1 HB1 l0 l1 l2 l3
  go_wp2_with fail
  go_region_held3 (fun w' => (w'.cell? ⟨w.heap.size, 0, none⟩ = some (.int .i64 q) ∧ w'.cell? ⟨w.heap.size, 1, none⟩ = some (.int .i64 f) ∧ w'.cell? ⟨w.heap.size, 2, none⟩ = some (.int .i64 l) ∧ w'.cell? ⟨w.heap.size, 3, none⟩ = some (.string t)) ∧ Hid (Below w.heap.size w w' ∧ ItAt w' w.heap.size q f l t)) (first | exact it_drew HI2 | assumption) (first | (go_at_call 59; refine (varOf_any q _ (by omega)).mono ?_; rintro e w3 ⟨rfl, hb3⟩; have hk3 := it_step (W := w) (by assumption) hb3) | (go_at_call 24; (first | refine (byteOf_any f _ (by omega)).mono ?_ | refine (byteOf_any l _ (by omega)).mono ?_); rintro e w4 ⟨rfl, hb4⟩; have hk4 := it_step (W := w) (by assumption) hb4))
  go_wp2_with fail
  go_ret2
  exact ⟨rfl, hk4.2.out.1⟩
set_option maxRecDepth 100000 in
set_option maxHeartbeats 4000000 in
theorem spItemText_yes (q f l : Nat) (t : ByteArray) (w : World) (h : Hid (ItOk q f l t)) :
    Calls Tryd.prog 33 #[.agg #[.int .i64 q, .int .i64 f, .int .i64 l, .string t]] w fun e w' => e = .returned (.tuple #[.string (itemS q f l t), .bool true]) ∧ Below w.heap.size w w' := by
  have hn := h.out.nats
  have z1 := varS_small (n := q) (by omega)
  have z2 := byteS_size f
  have z3 := byteS_size l
  have z4 := varS_small (n := t.size) (by omega)
  have n1 : ¬9223372036854775807 < (varS q).size + 1 := by omega
  have n2 : ¬9223372036854775807 < (varS q).size + 1 + 1 := by omega
  have n3 : ¬9223372036854775807 < (varS q).size + 1 + 1 + ((varS t.size).size + t.size) := by omega
  have H0 : Hid (ItAt (w.alloc (.cells #[.int .i64 q, .int .i64 f, .int .i64 l, .string t] 57)) w.heap.size q f l t) := heap_alloc_new w _
  have HB0 : Hid (Below w.heap.size w (w.alloc (.cells #[.int .i64 q, .int .i64 f, .int .i64 l, .string t] 57))) := (Below.refl _ _).alloc (Nat.le_refl _) _
  go_enter Tryd.func33, Tryd.ntmps33
  go_wp2_with fail
  generalize w.alloc (.cells #[.int .i64 q, .int .i64 f, .int .i64 l, .string t] 57) = W0 at *
  refine (spItemOk_yes _ h.out).mono ?_
  rintro e w1 ⟨rfl, hb1⟩
  have H1 := H0.out.stays hb1 H0.out.lt
  obtain ⟨l0, l1, l2, l3⟩ := H1.cells
  have HI1 : Hid (ItAt w1 w.heap.size q f l t) := H1
  have HB1 : Hid (Below w.heap.size w w1) := HB0.out.trans (hb1.mono HB0.out.size)
  clear hb1 H1 H0 HB0
  have HI2 : (w1.cell? ⟨w.heap.size, 0, none⟩ = some (.int .i64 q) ∧ w1.cell? ⟨w.heap.size, 1, none⟩ = some (.int .i64 f) ∧ w1.cell? ⟨w.heap.size, 2, none⟩ = some (.int .i64 l) ∧ w1.cell? ⟨w.heap.size, 3, none⟩ = some (.string t)) ∧ Hid (Below w.heap.size w w1 ∧ ItAt w1 w.heap.size q f l t) :=
    ⟨HI1.out.cells, HB1.out, HI1.out⟩
  clear HI1 HB1 l0 l1 l2 l3
  go_wp2_with fail
  go_region_held3 (fun w' => (w'.cell? ⟨w.heap.size, 0, none⟩ = some (.int .i64 q) ∧ w'.cell? ⟨w.heap.size, 1, none⟩ = some (.int .i64 f) ∧ w'.cell? ⟨w.heap.size, 2, none⟩ = some (.int .i64 l) ∧ w'.cell? ⟨w.heap.size, 3, none⟩ = some (.string t)) ∧ Hid (Below w.heap.size w w' ∧ ItAt w' w.heap.size q f l t)) (first | exact it_drew HI2 | assumption) (first | (go_at_call 32; refine (l01Var_any q _ (by omega)).mono ?_; rintro e w3 ⟨rfl, hb3⟩; have hk3 := it_step (W := w) (by assumption) hb3) | (go_at_call 31; (first | refine (l05Byte_any f _ (by omega)).mono ?_ | refine (l05Byte_any l _ (by omega)).mono ?_); rintro e w4 ⟨rfl, hb4⟩; have hk4 := it_step (W := w) (by assumption) hb4) | (go_at_call 34; refine (l05Short_any t _ (by omega)).mono ?_; rintro e w5 ⟨rfl, hb5⟩; have hk5 := it_step (W := w) (by assumption) hb5))
  go_wp2_with fail
  go_ret2
  exact ⟨rfl, hk5.2.out.1⟩

end Go.Proofs.YtlflcjdpdbdbkaaDoor
