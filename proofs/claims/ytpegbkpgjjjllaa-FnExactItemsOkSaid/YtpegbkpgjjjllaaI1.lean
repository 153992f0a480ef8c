/- The walks over both ItemOk and over the law on ItemOk. -/
import Derived.Test.YtpegbkpgjjjllaaWn
import Derived.Test.YtpegbkpgjjjllaaPk
import Derived.Below
namespace Go.Proofs.Ytpegbkpgjjjllaa
open Go.RowKit Pl
set_option linter.unusedVariables false

/-- whether an item is right. -/
def itB (q f l : Int) (t : ByteArray) : Bool := decide (1 ≤ q ∧ q ≤ 60) && (decide (1 ≤ f ∧ f ≤ 5) && (decide (1 ≤ l ∧ l ≤ 2) && decide ((t.size : Int) ≤ 60)))
theorem itB_true {q f l : Int} {t : ByteArray} : itB q f l t = true ↔ ItOk q f l t := by
  unfold itB ItOk
  simp only [Bool.and_eq_true, decide_eq_true_eq]
  omega
theorem itB_yes {q f l : Int} {t : ByteArray} (h : ItOk q f l t) : itB q f l t = true := itB_true.2 h
theorem itB_no {q f l : Int} {t : ByteArray} (h : ¬ ItOk q f l t) : itB q f l t = false := by
  cases h1 : itB q f l t with
  | false => rfl
  | true => exact absurd (itB_true.1 h1) h

set_option maxRecDepth 100000 in
set_option maxHeartbeats 1000000 in
theorem itemOk_0 (q f l : Int) (t : ByteArray) (w : World) (h1 : decide (1 ≤ q ∧ q ≤ 60) = false) :
    Calls Try.prog 14 #[.agg #[.int .i64 q, .int .i64 f, .int .i64 l, .string t]] w fun e w' => e = .returned (.bool (false)) ∧ Below w.heap.size w w' := by
  go_enter Try.func14, Try.ntmps14
  go_wp2_with fail
  refine (within_is _ h1).mono ?_
  rintro e w1 ⟨rfl, rfl⟩
  go_wp2_with fail
  go_ret
  exact ⟨rfl, (Below.refl _ _).alloc (Nat.le_refl _) _⟩
set_option maxRecDepth 100000 in
set_option maxHeartbeats 1000000 in
theorem itemOk_1 (q f l : Int) (t : ByteArray) (w : World) (h1 : decide (1 ≤ q ∧ q ≤ 60) = true) (h2 : decide (1 ≤ f ∧ f ≤ 5) = false) :
    Calls Try.prog 14 #[.agg #[.int .i64 q, .int .i64 f, .int .i64 l, .string t]] w fun e w' => e = .returned (.bool (false)) ∧ Below w.heap.size w w' := by
  go_enter Try.func14, Try.ntmps14
  go_wp2_with fail
  refine (within_is _ h1).mono ?_
  rintro e w1 ⟨rfl, rfl⟩
  go_wp2_with fail
  refine (within_is _ h2).mono ?_
  rintro e w1 ⟨rfl, rfl⟩
  go_wp2_with fail
  go_ret
  exact ⟨rfl, (Below.refl _ _).alloc (Nat.le_refl _) _⟩
set_option maxRecDepth 100000 in
set_option maxHeartbeats 1000000 in
theorem itemOk_2 (q f l : Int) (t : ByteArray) (w : World) (h1 : decide (1 ≤ q ∧ q ≤ 60) = true) (h2 : decide (1 ≤ f ∧ f ≤ 5) = true) (h3 : ¬ l = 1) (h4 : ¬ l = 2) :
    Calls Try.prog 14 #[.agg #[.int .i64 q, .int .i64 f, .int .i64 l, .string t]] w fun e w' => e = .returned (.bool (false)) ∧ Below w.heap.size w w' := by
  go_enter Try.func14, Try.ntmps14
  go_wp2_with fail
  refine (within_is _ h1).mono ?_
  rintro e w1 ⟨rfl, rfl⟩
  go_wp2_with fail
  refine (within_is _ h2).mono ?_
  rintro e w1 ⟨rfl, rfl⟩
  go_wp2_with fail
  go_ret
  exact ⟨rfl, (Below.refl _ _).alloc (Nat.le_refl _) _⟩
set_option maxRecDepth 100000 in
set_option maxHeartbeats 1000000 in
theorem itemOk_3 (q f l : Int) (t : ByteArray) (w : World) (h1 : decide (1 ≤ q ∧ q ≤ 60) = true) (h2 : decide (1 ≤ f ∧ f ≤ 5) = true) (h3 : l = 1) :
    Calls Try.prog 14 #[.agg #[.int .i64 q, .int .i64 f, .int .i64 l, .string t]] w fun e w' => e = .returned (.bool (decide ((t.size : Int) ≤ 60))) ∧ Below w.heap.size w w' := by
  go_enter Try.func14, Try.ntmps14
  go_wp2_with fail
  refine (within_is _ h1).mono ?_
  rintro e w1 ⟨rfl, rfl⟩
  go_wp2_with fail
  refine (within_is _ h2).mono ?_
  rintro e w1 ⟨rfl, rfl⟩
  go_wp2_with fail
  go_ret
  exact ⟨rfl, (Below.refl _ _).alloc (Nat.le_refl _) _⟩
set_option maxRecDepth 100000 in
set_option maxHeartbeats 1000000 in
theorem itemOk_4 (q f l : Int) (t : ByteArray) (w : World) (h1 : decide (1 ≤ q ∧ q ≤ 60) = true) (h2 : decide (1 ≤ f ∧ f ≤ 5) = true) (h3 : ¬ l = 1) (h4 : l = 2) :
    Calls Try.prog 14 #[.agg #[.int .i64 q, .int .i64 f, .int .i64 l, .string t]] w fun e w' => e = .returned (.bool (decide ((t.size : Int) ≤ 60))) ∧ Below w.heap.size w w' := by
  go_enter Try.func14, Try.ntmps14
  go_wp2_with fail
  refine (within_is _ h1).mono ?_
  rintro e w1 ⟨rfl, rfl⟩
  go_wp2_with fail
  refine (within_is _ h2).mono ?_
  rintro e w1 ⟨rfl, rfl⟩
  go_wp2_with fail
  go_ret
  exact ⟨rfl, (Below.refl _ _).alloc (Nat.le_refl _) _⟩

theorem itemOk_any (q f l : Int) (t : ByteArray) (w : World) :
    Calls Try.prog 14 #[.agg #[.int .i64 q, .int .i64 f, .int .i64 l, .string t]] w fun e w' => e = .returned (.bool (itB q f l t)) ∧ Below w.heap.size w w' := by
  unfold itB
  cases h1 : decide (1 ≤ q ∧ q ≤ 60) with
  | false => exact itemOk_0 q f l t w h1
  | true =>
    cases h2 : decide (1 ≤ f ∧ f ≤ 5) with
    | false => exact itemOk_1 q f l t w h1 h2
    | true =>
      by_cases h3 : l = 1
      · have h5 : decide (1 ≤ l ∧ l ≤ 2) = true := by simp; omega
        rw [h5]
        exact itemOk_3 q f l t w h1 h2 h3
      · by_cases h4 : l = 2
        · have h5 : decide (1 ≤ l ∧ l ≤ 2) = true := by simp; omega
          rw [h5]
          exact itemOk_4 q f l t w h1 h2 h3 h4
        · have h5 : decide (1 ≤ l ∧ l ≤ 2) = false := by simp; omega
          rw [h5]
          exact itemOk_2 q f l t w h1 h2 h3 h4
set_option maxRecDepth 100000 in
set_option maxHeartbeats 1000000 in
theorem spItemOk_0 (q f l : Int) (t : ByteArray) (w : World) (h1 : decide (1 ≤ q ∧ q ≤ 60) = false) :
    Calls Try.prog 13 #[.agg #[.int .i64 q, .int .i64 f, .int .i64 l, .string t]] w fun e w' => e = .returned (.bool (false)) ∧ Below w.heap.size w w' := by
  go_enter Try.func13, Try.ntmps13
  go_wp2_with fail
  refine (in_is _ h1).mono ?_
  rintro e w1 ⟨rfl, rfl⟩
  go_wp2_with fail
  go_ret
  exact ⟨rfl, (Below.refl _ _).alloc (Nat.le_refl _) _⟩
set_option maxRecDepth 100000 in
set_option maxHeartbeats 1000000 in
theorem spItemOk_1 (q f l : Int) (t : ByteArray) (w : World) (h1 : decide (1 ≤ q ∧ q ≤ 60) = true) (h2 : decide (1 ≤ f ∧ f ≤ 5) = false) :
    Calls Try.prog 13 #[.agg #[.int .i64 q, .int .i64 f, .int .i64 l, .string t]] w fun e w' => e = .returned (.bool (false)) ∧ Below w.heap.size w w' := by
  go_enter Try.func13, Try.ntmps13
  go_wp2_with fail
  refine (in_is _ h1).mono ?_
  rintro e w1 ⟨rfl, rfl⟩
  go_wp2_with fail
  refine (in_is _ h2).mono ?_
  rintro e w1 ⟨rfl, rfl⟩
  go_wp2_with fail
  go_ret
  exact ⟨rfl, (Below.refl _ _).alloc (Nat.le_refl _) _⟩
set_option maxRecDepth 100000 in
set_option maxHeartbeats 1000000 in
theorem spItemOk_2 (q f l : Int) (t : ByteArray) (w : World) (h1 : decide (1 ≤ q ∧ q ≤ 60) = true) (h2 : decide (1 ≤ f ∧ f ≤ 5) = true) (h3 : decide (1 ≤ l ∧ l ≤ 2) = false) :
    Calls Try.prog 13 #[.agg #[.int .i64 q, .int .i64 f, .int .i64 l, .string t]] w fun e w' => e = .returned (.bool (false)) ∧ Below w.heap.size w w' := by
  go_enter Try.func13, Try.ntmps13
  go_wp2_with fail
  refine (in_is _ h1).mono ?_
  rintro e w1 ⟨rfl, rfl⟩
  go_wp2_with fail
  refine (in_is _ h2).mono ?_
  rintro e w1 ⟨rfl, rfl⟩
  go_wp2_with fail
  refine (in_is _ h3).mono ?_
  rintro e w1 ⟨rfl, rfl⟩
  go_wp2_with fail
  go_ret
  exact ⟨rfl, (Below.refl _ _).alloc (Nat.le_refl _) _⟩
set_option maxRecDepth 100000 in
set_option maxHeartbeats 1000000 in
theorem spItemOk_3 (q f l : Int) (t : ByteArray) (w : World) (h1 : decide (1 ≤ q ∧ q ≤ 60) = true) (h2 : decide (1 ≤ f ∧ f ≤ 5) = true) (h3 : decide (1 ≤ l ∧ l ≤ 2) = true) :
    Calls Try.prog 13 #[.agg #[.int .i64 q, .int .i64 f, .int .i64 l, .string t]] w fun e w' => e = .returned (.bool (decide ((t.size : Int) ≤ 60))) ∧ Below w.heap.size w w' := by
  go_enter Try.func13, Try.ntmps13
  go_wp2_with fail
  refine (in_is _ h1).mono ?_
  rintro e w1 ⟨rfl, rfl⟩
  go_wp2_with fail
  refine (in_is _ h2).mono ?_
  rintro e w1 ⟨rfl, rfl⟩
  go_wp2_with fail
  refine (in_is _ h3).mono ?_
  rintro e w1 ⟨rfl, rfl⟩
  go_wp2_with fail
  go_ret
  exact ⟨rfl, (Below.refl _ _).alloc (Nat.le_refl _) _⟩

theorem spItemOk_any (q f l : Int) (t : ByteArray) (w : World) :
    Calls Try.prog 13 #[.agg #[.int .i64 q, .int .i64 f, .int .i64 l, .string t]] w fun e w' => e = .returned (.bool (itB q f l t)) ∧ Below w.heap.size w w' := by
  unfold itB
  cases h1 : decide (1 ≤ q ∧ q ≤ 60) with
  | false => exact spItemOk_0 q f l t w h1
  | true =>
    cases h2 : decide (1 ≤ f ∧ f ≤ 5) with
    | false => exact spItemOk_1 q f l t w h1 h2
    | true =>
      cases h3 : decide (1 ≤ l ∧ l ≤ 2) with
      | false => exact spItemOk_2 q f l t w h1 h2 h3
      | true => exact spItemOk_3 q f l t w h1 h2 h3

set_option maxRecDepth 100000 in
set_option maxHeartbeats 1000000 in
theorem toItem_any (q f l : Int) (t : ByteArray) (w : World) :
    Calls Try.prog 18 #[.agg #[.int .i64 q, .int .i64 f, .int .i64 l, .string t]] w fun e w' => e = .returned (.agg #[.int .i64 q, .int .i64 f, .int .i64 l, .string t]) ∧ Below w.heap.size w w' := by
  go_enter Try.func18, Try.ntmps18
  go_wp2
  refine bodyPost_ret (v := .agg #[.int .i64 q, .int .i64 f, .int .i64 l, .string t]) (by simp [results, Try.results18, go_sem]) rfl ⟨rfl, ?_⟩
  exact (((Below.refl _ w).alloc (Nat.le_refl _) _).alloc (by simp) _).alloc (by simp; omega) _

set_option maxRecDepth 100000 in
set_option maxHeartbeats 1000000 in
theorem szItem_long (q f l : Int) (t : ByteArray) (k : Nat) (w : World) (h : k < t.size) (h2 : t.size ≤ 9223372036854775807) (hk : k ≤ 1048576) :
    Calls Try.prog 17 #[.agg #[.int .i64 q, .int .i64 f, .int .i64 l, .string t], .int .i64 k] w fun e w' => e = .returned (.int .i64 (-1)) ∧ Below w.heap.size w w' := by
  have hd : decide ((k : Int) - (t.size : Int) < 0) = true := by simp; omega
  go_enter Try.func17, Try.ntmps17
  go_wp2
  go_ret
  exact ⟨rfl, (Below.refl _ _).alloc (Nat.le_refl _) _⟩
set_option maxRecDepth 100000 in
set_option maxHeartbeats 1000000 in
theorem szItem_any (q f l : Int) (t : ByteArray) (k : Nat) (w : World) (h : t.size ≤ k) (hk : k ≤ 1048576) :
    Calls Try.prog 17 #[.agg #[.int .i64 q, .int .i64 f, .int .i64 l, .string t], .int .i64 k] w fun e w' => e = .returned (.int .i64 ((k - t.size : Nat) : Int)) ∧ Below w.heap.size w w' := by
  have hd : decide ((k : Int) - (t.size : Int) < 0) = false := by simp; omega
  go_enter Try.func17, Try.ntmps17
  go_wp2
  go_ret
  refine ⟨?_, (Below.refl _ _).alloc (Nat.le_refl _) _⟩
  rw [show ((k - t.size : Nat) : Int) = (k : Int) - (t.size : Int) by omega]
  rfl

/-- the block g is an item that was handed in. -/
def LitAt (w : World) (g : Nat) (q f l : Int) (t : ByteArray) : Prop := w.heap[g]? = some (.cells #[.int .i64 q, .int .i64 f, .int .i64 l, .string t] 33 (0, 0))
theorem LitAt.cells {w : World} {g : Nat} {q f l : Int} {t : ByteArray} (h : LitAt w g q f l t) : w.cell? ⟨g, 0, none⟩ = some (.int .i64 q) ∧ w.cell? ⟨g, 1, none⟩ = some (.int .i64 f) ∧ w.cell? ⟨g, 2, none⟩ = some (.int .i64 l) ∧ w.cell? ⟨g, 3, none⟩ = some (.string t) :=
  ⟨by rw [cell_of_row w g 0 _ 33 (0, 0) h]; rfl, by rw [cell_of_row w g 1 _ 33 (0, 0) h]; rfl, by rw [cell_of_row w g 2 _ 33 (0, 0) h]; rfl, by rw [cell_of_row w g 3 _ 33 (0, 0) h]; rfl⟩
theorem LitAt.stays {w w' : World} {B g : Nat} {q f l : Int} {t : ByteArray} (h : LitAt w g q f l t) (hb : Below B w w') (hg : g < B) : LitAt w' g q f l t := (hb.block g hg).trans h

set_option maxRecDepth 100000 in
set_option maxHeartbeats 2000000 in
theorem lawItemOk (q f l : Int) (t : ByteArray) (w : World) (ht : t.size ≤ maxLen) :
    Calls Try.prog 4 #[.agg #[.int .i64 q, .int .i64 f, .int .i64 l, .string t]] w fun e w' => e = .returned (.bool true) ∧ Below w.heap.size w w' := by
  unfold maxLen at ht
  by_cases hl : 1048576 < t.size
  · go_enter Try.func4, Try.ntmps4
    go_wp2_with fail
    refine (szItem_long q f l t 1048576 _ hl (by omega) (Nat.le_refl _)).mono ?_
    rintro e w1 ⟨rfl, hb1⟩
    go_wp2_with fail
    go_ret
    exact ⟨rfl, ((Below.refl _ _).alloc (Nat.le_refl _) _).trans (hb1.mono (by simp))⟩
  have ht2 : t.size ≤ 1048576 := by omega
  clear ht hl
  have H0 : Hid (LitAt (w.alloc (.cells #[.int .i64 q, .int .i64 f, .int .i64 l, .string t] 33)) w.heap.size q f l t) := heap_alloc_new w _
  have HB0 : Hid (Below w.heap.size w (w.alloc (.cells #[.int .i64 q, .int .i64 f, .int .i64 l, .string t] 33))) := (Below.refl _ _).alloc (Nat.le_refl _) _
  have HS0 : (w.alloc (.cells #[.int .i64 q, .int .i64 f, .int .i64 l, .string t] 33)).heap.size = w.heap.size + 1 := by simp
  go_enter Try.func4, Try.ntmps4
  go_wp2_with fail
  generalize w.alloc (.cells #[.int .i64 q, .int .i64 f, .int .i64 l, .string t] 33) = W0 at *
  have hN : w.heap.size < W0.heap.size := by omega
  clear HS0
  refine (szItem_any q f l t 1048576 _ ht2 (Nat.le_refl _)).mono ?_
  rintro e w1 ⟨rfl, hb1⟩
  have B1 : Below W0.heap.size W0 w1 := hb1
  have hz : decide (((1048576 - t.size : Nat) : Int) < 0) = false := by simp
  obtain ⟨l0, l1, l2, l3⟩ := (H0.out.stays B1 hN).cells
  clear hb1
  go_wp2_with fail
  refine (toItem_any q f l t _).mono ?_
  rintro e w2 ⟨rfl, hb2⟩
  have B2 : Below W0.heap.size W0 w2 := B1.trans (hb2.mono B1.size)
  clear hb2 l0 l1 l2 l3
  go_wp2_with fail
  refine (spItemOk_any q f l t _).mono ?_
  rintro e w3 ⟨rfl, hb3⟩
  have B3 : Below W0.heap.size W0 w3 := B2.trans (hb3.mono B2.size)
  obtain ⟨l0, l1, l2, l3⟩ := (H0.out.stays B3 hN).cells
  clear hb3
  go_wp2_with fail
  refine (toItem_any q f l t _).mono ?_
  rintro e w4 ⟨rfl, hb4⟩
  have B4 : Below W0.heap.size W0 w4 := B3.trans (hb4.mono B3.size)
  clear hb4 l0 l1 l2 l3
  go_wp2_with fail
  refine (itemOk_any q f l t _).mono ?_
  rintro e w5 ⟨rfl, hb5⟩
  have B5 : Below W0.heap.size W0 w5 := B4.trans (hb5.mono B4.size)
  clear hb5
  cases itB q f l t
  all_goals
    go_wp2_with fail
    go_ret
    exact ⟨rfl, HB0.out.trans (B5.mono HB0.out.size)⟩
end Go.Proofs.Ytpegbkpgjjjllaa
