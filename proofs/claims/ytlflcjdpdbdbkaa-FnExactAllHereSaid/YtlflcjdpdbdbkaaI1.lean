/- The walks over both ItemOk and over the law on ItemOk. -/
import Derived.Test.YtlflcjdpdbdbkaaWn
import Derived.Test.YtlflcjdpdbdbkaaPk
import Derived.Below
namespace Go.Proofs.Ytlflcjdpdbdbkaa
open Go.RowKit Pl
set_option linter.unusedVariables false

/-- whether an item is right. -/
def itB (q f l : Int) (t : ByteArray) : Bool := decide (1 ≤ q ∧ q ≤ 60) && (decide (1 ≤ f ∧ f ≤ 5) && (decide (1 ≤ l ∧ l ≤ 2) && decide ((t.size : Int) ≤ 60)))
theorem itB_true {q f l : Int} {t : ByteArray} : itB q f l t = true ↔ ItOk q f l t := by
  unfold itB ItOk
  simp only [Bool.and_eq_true, decide_eq_true_eq]
  omega
theorem itB_yes {q f l : Int} {t : ByteArray} (h : ItOk q f l t) : itB q f l t = true := itB_true.2 h
theorem itB_no {q f l : Int} {t : ByteArray} (h : ¬ ItOk q f l t) : itB q f l t = false := by
  cases h1 : itB q f l t with
  | false => rfl
  | true => exact absurd (itB_true.1 h1) h

set_option maxRecDepth 100000 in
set_option maxHeartbeats 1000000 in
theorem itemOk_0 (q f l : Int) (t : ByteArray) (w : World) (h1 : decide (1 ≤ q ∧ q ≤ 60) = false) :
    Calls Try.prog 52 #[.agg #[.int .i64 q, .int .i64 f, .int .i64 l, .string t]] w fun e w' => e = .returned (.bool (false)) ∧ Below w.heap.size w w' := by
  go_enter Try.func52, Try.ntmps52
  go_wp2_with fail
  refine (within_is _ h1).mono ?_
  rintro e w1 ⟨rfl, rfl⟩
  go_wp2_with fail
  go_ret
  exact ⟨rfl, (Below.refl _ _).alloc (Nat.le_refl _) _⟩
set_option maxRecDepth 100000 in
set_option maxHeartbeats 1000000 in
theorem itemOk_1 (q f l : Int) (t : ByteArray) (w : World) (h1 : decide (1 ≤ q ∧ q ≤ 60) = true) (h2 : decide (1 ≤ f ∧ f ≤ 5) = false) :
    Calls Try.prog 52 #[.agg #[.int .i64 q, .int .i64 f, .int .i64 l, .string t]] w fun e w' => e = .returned (.bool (false)) ∧ Below w.heap.size w w' := by
  go_enter Try.func52, Try.ntmps52
  go_wp2_with fail
  refine (within_is _ h1).mono ?_
  rintro e w1 ⟨rfl, rfl⟩
  go_wp2_with fail
  refine (within_is _ h2).mono ?_
  rintro e w1 ⟨rfl, rfl⟩
  go_wp2_with fail
  go_ret
  exact ⟨rfl, (Below.refl _ _).alloc (Nat.le_refl _) _⟩
set_option maxRecDepth 100000 in
set_option maxHeartbeats 1000000 in
theorem itemOk_2 (q f l : Int) (t : ByteArray) (w : World) (h1 : decide (1 ≤ q ∧ q ≤ 60) = true) (h2 : decide (1 ≤ f ∧ f ≤ 5) = true) (h3 : ¬ l = 1) (h4 : ¬ l = 2) :
    Calls Try.prog 52 #[.agg #[.int .i64 q, .int .i64 f, .int .i64 l, .string t]] w fun e w' => e = .returned (.bool (false)) ∧ Below w.heap.size w w' := by
  go_enter Try.func52, Try.ntmps52
  go_wp2_with fail
  refine (within_is _ h1).mono ?_
  rintro e w1 ⟨rfl, rfl⟩
  go_wp2_with fail
  refine (within_is _ h2).mono ?_
  rintro e w1 ⟨rfl, rfl⟩
  go_wp2_with fail
  go_ret
  exact ⟨rfl, (Below.refl _ _).alloc (Nat.le_refl _) _⟩
set_option maxRecDepth 100000 in
set_option maxHeartbeats 1000000 in
theorem itemOk_3 (q f l : Int) (t : ByteArray) (w : World) (h1 : decide (1 ≤ q ∧ q ≤ 60) = true) (h2 : decide (1 ≤ f ∧ f ≤ 5) = true) (h3 : l = 1) :
    Calls Try.prog 52 #[.agg #[.int .i64 q, .int .i64 f, .int .i64 l, .string t]] w fun e w' => e = .returned (.bool (decide ((t.size : Int) ≤ 60))) ∧ Below w.heap.size w w' := by
  go_enter Try.func52, Try.ntmps52
  go_wp2_with fail
  refine (within_is _ h1).mono ?_
  rintro e w1 ⟨rfl, rfl⟩
  go_wp2_with fail
  refine (within_is _ h2).mono ?_
  rintro e w1 ⟨rfl, rfl⟩
  go_wp2_with fail
  go_ret
  exact ⟨rfl, (Below.refl _ _).alloc (Nat.le_refl _) _⟩
set_option maxRecDepth 100000 in
set_option maxHeartbeats 1000000 in
theorem itemOk_4 (q f l : Int) (t : ByteArray) (w : World) (h1 : decide (1 ≤ q ∧ q ≤ 60) = true) (h2 : decide (1 ≤ f ∧ f ≤ 5) = true) (h3 : ¬ l = 1) (h4 : l = 2) :
    Calls Try.prog 52 #[.agg #[.int .i64 q, .int .i64 f, .int .i64 l, .string t]] w fun e w' => e = .returned (.bool (decide ((t.size : Int) ≤ 60))) ∧ Below w.heap.size w w' := by
  go_enter Try.func52, Try.ntmps52
  go_wp2_with fail
  refine (within_is _ h1).mono ?_
  rintro e w1 ⟨rfl, rfl⟩
  go_wp2_with fail
  refine (within_is _ h2).mono ?_
  rintro e w1 ⟨rfl, rfl⟩
  go_wp2_with fail
  go_ret
  exact ⟨rfl, (Below.refl _ _).alloc (Nat.le_refl _) _⟩

theorem itemOk_any (q f l : Int) (t : ByteArray) (w : World) :
    Calls Try.prog 52 #[.agg #[.int .i64 q, .int .i64 f, .int .i64 l, .string t]] w fun e w' => e = .returned (.bool (itB q f l t)) ∧ Below w.heap.size w w' := by
  unfold itB
  cases h1 : decide (1 ≤ q ∧ q ≤ 60) with
  | false => exact itemOk_0 q f l t w h1
  | true =>
    cases h2 : decide (1 ≤ f ∧ f ≤ 5) with
    | false => exact itemOk_1 q f l t w h1 h2
    | true =>
      by_cases h3 : l = 1
      · have h5 : decide (1 ≤ l ∧ l ≤ 2) = true := by simp; omega
        rw [h5]
        exact itemOk_3 q f l t w h1 h2 h3
      · by_cases h4 : l = 2
        · have h5 : decide (1 ≤ l ∧ l ≤ 2) = true := by simp; omega
          rw [h5]
          exact itemOk_4 q f l t w h1 h2 h3 h4
        · have h5 : decide (1 ≤ l ∧ l ≤ 2) = false := by simp; omega
          rw [h5]
          exact itemOk_2 q f l t w h1 h2 h3 h4
set_option maxRecDepth 100000 in
set_option maxHeartbeats 1000000 in
theorem spItemOk_0 (q f l : Int) (t : ByteArray) (w : World) (h1 : decide (1 ≤ q ∧ q ≤ 60) = false) :
    Calls Try.prog 50 #[.agg #[.int .i64 q, .int .i64 f, .int .i64 l, .string t]] w fun e w' => e = .returned (.bool (false)) ∧ Below w.heap.size w w' := by
  go_enter Try.func50, Try.ntmps50
  go_wp2_with fail
  refine (in_is _ h1).mono ?_
  rintro e w1 ⟨rfl, rfl⟩
  go_wp2_with fail
  go_ret
  exact ⟨rfl, (Below.refl _ _).alloc (Nat.le_refl _) _⟩
set_option maxRecDepth 100000 in
set_option maxHeartbeats 1000000 in
theorem spItemOk_1 (q f l : Int) (t : ByteArray) (w : World) (h1 : decide (1 ≤ q ∧ q ≤ 60) = true) (h2 : decide (1 ≤ f ∧ f ≤ 5) = false) :
    Calls Try.prog 50 #[.agg #[.int .i64 q, .int .i64 f, .int .i64 l, .string t]] w fun e w' => e = .returned (.bool (false)) ∧ Below w.heap.size w w' := by
  go_enter Try.func50, Try.ntmps50
  go_wp2_with fail
  refine (in_is _ h1).mono ?_
  rintro e w1 ⟨rfl, rfl⟩
  go_wp2_with fail
  refine (in_is _ h2).mono ?_
  rintro e w1 ⟨rfl, rfl⟩
  go_wp2_with fail
  go_ret
  exact ⟨rfl, (Below.refl _ _).alloc (Nat.le_refl _) _⟩
set_option maxRecDepth 100000 in
set_option maxHeartbeats 1000000 in
theorem spItemOk_2 (q f l : Int) (t : ByteArray) (w : World) (h1 : decide (1 ≤ q ∧ q ≤ 60) = true) (h2 : decide (1 ≤ f ∧ f ≤ 5) = true) (h3 : decide (1 ≤ l ∧ l ≤ 2) = false) :
    Calls Try.prog 50 #[.agg #[.int .i64 q, .int .i64 f, .int .i64 l, .string t]] w fun e w' => e = .returned (.bool (false)) ∧ Below w.heap.size w w' := by
  go_enter Try.func50, Try.ntmps50
  go_wp2_with fail
  refine (in_is _ h1).mono ?_
  rintro e w1 ⟨rfl, rfl⟩
  go_wp2_with fail
  refine (in_is _ h2).mono ?_
  rintro e w1 ⟨rfl, rfl⟩
  go_wp2_with fail
  refine (in_is _ h3).mono ?_
  rintro e w1 ⟨rfl, rfl⟩
  go_wp2_with fail
  go_ret
  exact ⟨rfl, (Below.refl _ _).alloc (Nat.le_refl _) _⟩
set_option maxRecDepth 100000 in
set_option maxHeartbeats 1000000 in
theorem spItemOk_3 (q f l : Int) (t : ByteArray) (w : World) (h1 : decide (1 ≤ q ∧ q ≤ 60) = true) (h2 : decide (1 ≤ f ∧ f ≤ 5) = true) (h3 : decide (1 ≤ l ∧ l ≤ 2) = true) :
    Calls Try.prog 50 #[.agg #[.int .i64 q, .int .i64 f, .int .i64 l, .string t]] w fun e w' => e = .returned (.bool (decide ((t.size : Int) ≤ 60))) ∧ Below w.heap.size w w' := by
  go_enter Try.func50, Try.ntmps50
  go_wp2_with fail
  refine (in_is _ h1).mono ?_
  rintro e w1 ⟨rfl, rfl⟩
  go_wp2_with fail
  refine (in_is _ h2).mono ?_
  rintro e w1 ⟨rfl, rfl⟩
  go_wp2_with fail
  refine (in_is _ h3).mono ?_
  rintro e w1 ⟨rfl, rfl⟩
  go_wp2_with fail
  go_ret
  exact ⟨rfl, (Below.refl _ _).alloc (Nat.le_refl _) _⟩

theorem spItemOk_any (q f l : Int) (t : ByteArray) (w : World) :
    Calls Try.prog 50 #[.agg #[.int .i64 q, .int .i64 f, .int .i64 l, .string t]] w fun e w' => e = .returned (.bool (itB q f l t)) ∧ Below w.heap.size w w' := by
  unfold itB
  cases h1 : decide (1 ≤ q ∧ q ≤ 60) with
  | false => exact spItemOk_0 q f l t w h1
  | true =>
    cases h2 : decide (1 ≤ f ∧ f ≤ 5) with
    | false => exact spItemOk_1 q f l t w h1 h2
    | true =>
      cases h3 : decide (1 ≤ l ∧ l ≤ 2) with
      | false => exact spItemOk_2 q f l t w h1 h2 h3
      | true => exact spItemOk_3 q f l t w h1 h2 h3

set_option maxRecDepth 100000 in
set_option maxHeartbeats 1000000 in
theorem toItem_any (q f l : Int) (t : ByteArray) (w : World) :
    Calls Try.prog 51 #[.agg #[.int .i64 q, .int .i64 f, .int .i64 l, .string t]] w fun e w' => e = .returned (.agg #[.int .i64 q, .int .i64 f, .int .i64 l, .string t]) ∧ Below w.heap.size w w' := by
  go_enter Try.func51, Try.ntmps51
  go_wp2
  refine bodyPost_ret (v := .agg #[.int .i64 q, .int .i64 f, .int .i64 l, .string t]) (by simp [results, Try.results51, go_sem]) rfl ⟨rfl, ?_⟩
  exact (((Below.refl _ w).alloc (Nat.le_refl _) _).alloc (by simp) _).alloc (by simp; omega) _

set_option maxRecDepth 100000 in
set_option maxHeartbeats 1000000 in
theorem szItem_long (q f l : Int) (t : ByteArray) (k : Nat) (w : World) (h : k < t.size) (h2 : t.size ≤ 9223372036854775807) (hk : k ≤ 1048576) :
    Calls Try.prog 49 #[.agg #[.int .i64 q, .int .i64 f, .int .i64 l, .string t], .int .i64 k] w fun e w' => e = .returned (.int .i64 (-1)) ∧ Below w.heap.size w w' := by
  have hd : decide ((k : Int) - (t.size : Int) < 0) = true := by simp; omega
  go_enter Try.func49, Try.ntmps49
  go_wp2
  go_ret
  exact ⟨rfl, (Below.refl _ _).alloc (Nat.le_refl _) _⟩
set_option maxRecDepth 100000 in
set_option maxHeartbeats 1000000 in
theorem szItem_any (q f l : Int) (t : ByteArray) (k : Nat) (w : World) (h : t.size ≤ k) (hk : k ≤ 1048576) :
    Calls Try.prog 49 #[.agg #[.int .i64 q, .int .i64 f, .int .i64 l, .string t], .int .i64 k] w fun e w' => e = .returned (.int .i64 ((k - t.size : Nat) : Int)) ∧ Below w.heap.size w w' := by
  have hd : decide ((k : Int) - (t.size : Int) < 0) = false := by simp; omega
  go_enter Try.func49, Try.ntmps49
  go_wp2
  go_ret
  refine ⟨?_, (Below.refl _ _).alloc (Nat.le_refl _) _⟩
  rw [show ((k - t.size : Nat) : Int) = (k : Int) - (t.size : Int) by omega]
  rfl

/-- the block g is an item that was handed in. -/
def LitAt (w : World) (g : Nat) (q f l : Int) (t : ByteArray) : Prop := w.heap[g]? = some (.cells #[.int .i64 q, .int .i64 f, .int .i64 l, .string t] 77 (0, 0))
theorem LitAt.cells {w : World} {g : Nat} {q f l : Int} {t : ByteArray} (h : LitAt w g q f l t) : w.cell? ⟨g, 0, none⟩ = some (.int .i64 q) ∧ w.cell? ⟨g, 1, none⟩ = some (.int .i64 f) ∧ w.cell? ⟨g, 2, none⟩ = some (.int .i64 l) ∧ w.cell? ⟨g, 3, none⟩ = some (.string t) :=
  ⟨by rw [cell_of_row w g 0 _ 77 (0, 0) h]; rfl, by rw [cell_of_row w g 1 _ 77 (0, 0) h]; rfl, by rw [cell_of_row w g 2 _ 77 (0, 0) h]; rfl, by rw [cell_of_row w g 3 _ 77 (0, 0) h]; rfl⟩
theorem LitAt.stays {w w' : World} {B g : Nat} {q f l : Int} {t : ByteArray} (h : LitAt w g q f l t) (hb : Below B w w') (hg : g < B) : LitAt w' g q f l t := (hb.block g hg).trans h

end Go.Proofs.Ytlflcjdpdbdbkaa
