/- Joined texts: Wn I1 V1. -/
import Derived.Test.YtlflcjdpdbdbkaaDoorChecked
import Derived.WalkKit
import Derived.WalkSpells
import Derived.WalkLawsBesides
import Derived.Test.YtlflcjdpdbdbkaaDoorBj1
import Derived.Below
import Derived.Test.YtlflcjdpdbdbkaaDoorBj2
import Derived.Laws.BytesArg
/- The walks over the tests whether a number lies between two others, of the program and of the specification. -/
namespace Go.Proofs.YtlflcjdpdbdbkaaDoor
open Go.RowKit
set_option linter.unusedVariables false

theorem in_any (n a b : Int) (w : World) : Calls Tryd.prog 38 #[.int .i64 n, .int .i64 a, .int .i64 b] w fun e w' => e = .returned (.bool (decide (a ≤ n ∧ n ≤ b))) ∧ w' = w := by
  by_cases h1 : a ≤ n
  · by_cases h2 : n ≤ b
    · have hd : decide (a ≤ n ∧ n ≤ b) = true := by simp; omega
      rw [hd]
      go_enter Tryd.func38, Tryd.ntmps38
      go_wp2
      go_ret
      exact ⟨rfl, rfl⟩
    · have hd : decide (a ≤ n ∧ n ≤ b) = false := by simp; omega
      rw [hd]
      go_enter Tryd.func38, Tryd.ntmps38
      go_wp2
      go_ret
      exact ⟨rfl, rfl⟩
  · have hd : decide (a ≤ n ∧ n ≤ b) = false := by simp; omega
    rw [hd]
    go_enter Tryd.func38, Tryd.ntmps38
    go_wp2
    go_ret
    exact ⟨rfl, rfl⟩

theorem within_any (n a b : Int) (w : World) : Calls Tryd.prog 36 #[.int .i64 n, .int .i64 a, .int .i64 b] w fun e w' => e = .returned (.bool (decide (a ≤ n ∧ n ≤ b))) ∧ w' = w := by
  by_cases h1 : a ≤ n
  · by_cases h2 : n ≤ b
    · have hd : decide (a ≤ n ∧ n ≤ b) = true := by simp; omega
      rw [hd]
      go_enter Tryd.func36, Tryd.ntmps36
      go_wp2
      go_ret
      exact ⟨rfl, rfl⟩
    · have hd : decide (a ≤ n ∧ n ≤ b) = false := by simp; omega
      rw [hd]
      go_enter Tryd.func36, Tryd.ntmps36
      go_wp2
      go_ret
      exact ⟨rfl, rfl⟩
  · have hd : decide (a ≤ n ∧ n ≤ b) = false := by simp; omega
    rw [hd]
    go_enter Tryd.func36, Tryd.ntmps36
    go_wp2
    go_ret
    exact ⟨rfl, rfl⟩

theorem in_is {n a b : Int} {r : Bool} (w : World) (h : decide (a ≤ n ∧ n ≤ b) = r) : Calls Tryd.prog 38 #[.int .i64 n, .int .i64 a, .int .i64 b] w fun e w' => e = .returned (.bool r) ∧ w' = w := by
  rw [← h]; exact in_any n a b w
theorem within_is {n a b : Int} {r : Bool} (w : World) (h : decide (a ≤ n ∧ n ≤ b) = r) : Calls Tryd.prog 36 #[.int .i64 n, .int .i64 a, .int .i64 b] w fun e w' => e = .returned (.bool r) ∧ w' = w := by
  rw [← h]; exact within_any n a b w
end Go.Proofs.YtlflcjdpdbdbkaaDoor

/- The walks over both ItemOk and over the law on ItemOk. -/
namespace Go.Proofs.YtlflcjdpdbdbkaaDoor
open Go.RowKit Pl
set_option linter.unusedVariables false

/-- whether an item is right. -/
def itB (q f l : Int) (t : ByteArray) : Bool := decide (1 ≤ q ∧ q ≤ 60) && (decide (1 ≤ f ∧ f ≤ 5) && (decide (1 ≤ l ∧ l ≤ 2) && decide ((t.size : Int) ≤ 60)))
theorem itB_true {q f l : Int} {t : ByteArray} : itB q f l t = true ↔ ItOk q f l t := by
  unfold itB ItOk
  simp only [Bool.and_eq_true, decide_eq_true_eq]
  omega
theorem itB_yes {q f l : Int} {t : ByteArray} (h : ItOk q f l t) : itB q f l t = true := itB_true.2 h
theorem itB_no {q f l : Int} {t : ByteArray} (h : ¬ ItOk q f l t) : itB q f l t = false := by
  cases h1 : itB q f l t with
  | false => rfl
  | true => exact absurd (itB_true.1 h1) h

set_option maxRecDepth 100000 in
set_option maxHeartbeats 1000000 in
theorem itemOk_0 (q f l : Int) (t : ByteArray) (w : World) (h1 : decide (1 ≤ q ∧ q ≤ 60) = false) :
    Calls Tryd.prog 70 #[.agg #[.int .i64 q, .int .i64 f, .int .i64 l, .string t]] w fun e w' => e = .returned (.bool (false)) ∧ Below w.heap.size w w' := by
  go_enter Tryd.func70, Tryd.ntmps70
  go_wp2_with fail
  refine (within_is _ h1).mono ?_
  rintro e w1 ⟨rfl, rfl⟩
  go_wp2_with fail
  go_ret
  exact ⟨rfl, (Below.refl _ _).alloc (Nat.le_refl _) _⟩
set_option maxRecDepth 100000 in
set_option maxHeartbeats 1000000 in
theorem itemOk_1 (q f l : Int) (t : ByteArray) (w : World) (h1 : decide (1 ≤ q ∧ q ≤ 60) = true) (h2 : decide (1 ≤ f ∧ f ≤ 5) = false) :
    Calls Tryd.prog 70 #[.agg #[.int .i64 q, .int .i64 f, .int .i64 l, .string t]] w fun e w' => e = .returned (.bool (false)) ∧ Below w.heap.size w w' := by
  go_enter Tryd.func70, Tryd.ntmps70
  go_wp2_with fail
  refine (within_is _ h1).mono ?_
  rintro e w1 ⟨rfl, rfl⟩
  go_wp2_with fail
  refine (within_is _ h2).mono ?_
  rintro e w1 ⟨rfl, rfl⟩
  go_wp2_with fail
  go_ret
  exact ⟨rfl, (Below.refl _ _).alloc (Nat.le_refl _) _⟩
set_option maxRecDepth 100000 in
set_option maxHeartbeats 1000000 in
theorem itemOk_2 (q f l : Int) (t : ByteArray) (w : World) (h1 : decide (1 ≤ q ∧ q ≤ 60) = true) (h2 : decide (1 ≤ f ∧ f ≤ 5) = true) (h3 : ¬ l = 1) (h4 : ¬ l = 2) :
    Calls Tryd.prog 70 #[.agg #[.int .i64 q, .int .i64 f, .int .i64 l, .string t]] w fun e w' => e = .returned (.bool (false)) ∧ Below w.heap.size w w' := by
  go_enter Tryd.func70, Tryd.ntmps70
  go_wp2_with fail
  refine (within_is _ h1).mono ?_
  rintro e w1 ⟨rfl, rfl⟩
  go_wp2_with fail
  refine (within_is _ h2).mono ?_
  rintro e w1 ⟨rfl, rfl⟩
  go_wp2_with fail
  go_ret
  exact ⟨rfl, (Below.refl _ _).alloc (Nat.le_refl _) _⟩
set_option maxRecDepth 100000 in
set_option maxHeartbeats 1000000 in
theorem itemOk_3 (q f l : Int) (t : ByteArray) (w : World) (h1 : decide (1 ≤ q ∧ q ≤ 60) = true) (h2 : decide (1 ≤ f ∧ f ≤ 5) = true) (h3 : l = 1) :
    Calls Tryd.prog 70 #[.agg #[.int .i64 q, .int .i64 f, .int .i64 l, .string t]] w fun e w' => e = .returned (.bool (decide ((t.size : Int) ≤ 60))) ∧ Below w.heap.size w w' := by
  go_enter Tryd.func70, Tryd.ntmps70
  go_wp2_with fail
  refine (within_is _ h1).mono ?_
  rintro e w1 ⟨rfl, rfl⟩
  go_wp2_with fail
  refine (within_is _ h2).mono ?_
  rintro e w1 ⟨rfl, rfl⟩
  go_wp2_with fail
  go_ret
  exact ⟨rfl, (Below.refl _ _).alloc (Nat.le_refl _) _⟩
set_option maxRecDepth 100000 in
set_option maxHeartbeats 1000000 in
theorem itemOk_4 (q f l : Int) (t : ByteArray) (w : World) (h1 : decide (1 ≤ q ∧ q ≤ 60) = true) (h2 : decide (1 ≤ f ∧ f ≤ 5) = true) (h3 : ¬ l = 1) (h4 : l = 2) :
    Calls Tryd.prog 70 #[.agg #[.int .i64 q, .int .i64 f, .int .i64 l, .string t]] w fun e w' => e = .returned (.bool (decide ((t.size : Int) ≤ 60))) ∧ Below w.heap.size w w' := by
  go_enter Tryd.func70, Tryd.ntmps70
  go_wp2_with fail
  refine (within_is _ h1).mono ?_
  rintro e w1 ⟨rfl, rfl⟩
  go_wp2_with fail
  refine (within_is _ h2).mono ?_
  rintro e w1 ⟨rfl, rfl⟩
  go_wp2_with fail
  go_ret
  exact ⟨rfl, (Below.refl _ _).alloc (Nat.le_refl _) _⟩

theorem itemOk_any (q f l : Int) (t : ByteArray) (w : World) :
    Calls Tryd.prog 70 #[.agg #[.int .i64 q, .int .i64 f, .int .i64 l, .string t]] w fun e w' => e = .returned (.bool (itB q f l t)) ∧ Below w.heap.size w w' := by
  unfold itB
  cases h1 : decide (1 ≤ q ∧ q ≤ 60) with
  | false => exact itemOk_0 q f l t w h1
  | true =>
    cases h2 : decide (1 ≤ f ∧ f ≤ 5) with
    | false => exact itemOk_1 q f l t w h1 h2
    | true =>
      by_cases h3 : l = 1
      · have h5 : decide (1 ≤ l ∧ l ≤ 2) = true := by simp; omega
        rw [h5]
        exact itemOk_3 q f l t w h1 h2 h3
      · by_cases h4 : l = 2
        · have h5 : decide (1 ≤ l ∧ l ≤ 2) = true := by simp; omega
          rw [h5]
          exact itemOk_4 q f l t w h1 h2 h3 h4
        · have h5 : decide (1 ≤ l ∧ l ≤ 2) = false := by simp; omega
          rw [h5]
          exact itemOk_2 q f l t w h1 h2 h3 h4
set_option maxRecDepth 100000 in
set_option maxHeartbeats 1000000 in
theorem spItemOk_0 (q f l : Int) (t : ByteArray) (w : World) (h1 : decide (1 ≤ q ∧ q ≤ 60) = false) :
    Calls Tryd.prog 67 #[.agg #[.int .i64 q, .int .i64 f, .int .i64 l, .string t]] w fun e w' => e = .returned (.bool (false)) ∧ Below w.heap.size w w' := by
  go_enter Tryd.func67, Tryd.ntmps67
  go_wp2_with fail
  refine (in_is _ h1).mono ?_
  rintro e w1 ⟨rfl, rfl⟩
  go_wp2_with fail
  go_ret
  exact ⟨rfl, (Below.refl _ _).alloc (Nat.le_refl _) _⟩
set_option maxRecDepth 100000 in
set_option maxHeartbeats 1000000 in
theorem spItemOk_1 (q f l : Int) (t : ByteArray) (w : World) (h1 : decide (1 ≤ q ∧ q ≤ 60) = true) (h2 : decide (1 ≤ f ∧ f ≤ 5) = false) :
    Calls Tryd.prog 67 #[.agg #[.int .i64 q, .int .i64 f, .int .i64 l, .string t]] w fun e w' => e = .returned (.bool (false)) ∧ Below w.heap.size w w' := by
  go_enter Tryd.func67, Tryd.ntmps67
  go_wp2_with fail
  refine (in_is _ h1).mono ?_
  rintro e w1 ⟨rfl, rfl⟩
  go_wp2_with fail
  refine (in_is _ h2).mono ?_
  rintro e w1 ⟨rfl, rfl⟩
  go_wp2_with fail
  go_ret
  exact ⟨rfl, (Below.refl _ _).alloc (Nat.le_refl _) _⟩
set_option maxRecDepth 100000 in
set_option maxHeartbeats 1000000 in
theorem spItemOk_2 (q f l : Int) (t : ByteArray) (w : World) (h1 : decide (1 ≤ q ∧ q ≤ 60) = true) (h2 : decide (1 ≤ f ∧ f ≤ 5) = true) (h3 : decide (1 ≤ l ∧ l ≤ 2) = false) :
    Calls Tryd.prog 67 #[.agg #[.int .i64 q, .int .i64 f, .int .i64 l, .string t]] w fun e w' => e = .returned (.bool (false)) ∧ Below w.heap.size w w' := by
  go_enter Tryd.func67, Tryd.ntmps67
  go_wp2_with fail
  refine (in_is _ h1).mono ?_
  rintro e w1 ⟨rfl, rfl⟩
  go_wp2_with fail
  refine (in_is _ h2).mono ?_
  rintro e w1 ⟨rfl, rfl⟩
  go_wp2_with fail
  refine (in_is _ h3).mono ?_
  rintro e w1 ⟨rfl, rfl⟩
  go_wp2_with fail
  go_ret
  exact ⟨rfl, (Below.refl _ _).alloc (Nat.le_refl _) _⟩
set_option maxRecDepth 100000 in
set_option maxHeartbeats 1000000 in
theorem spItemOk_3 (q f l : Int) (t : ByteArray) (w : World) (h1 : decide (1 ≤ q ∧ q ≤ 60) = true) (h2 : decide (1 ≤ f ∧ f ≤ 5) = true) (h3 : decide (1 ≤ l ∧ l ≤ 2) = true) :
    Calls Tryd.prog 67 #[.agg #[.int .i64 q, .int .i64 f, .int .i64 l, .string t]] w fun e w' => e = .returned (.bool (decide ((t.size : Int) ≤ 60))) ∧ Below w.heap.size w w' := by
  go_enter Tryd.func67, Tryd.ntmps67
  go_wp2_with fail
  refine (in_is _ h1).mono ?_
  rintro e w1 ⟨rfl, rfl⟩
  go_wp2_with fail
  refine (in_is _ h2).mono ?_
  rintro e w1 ⟨rfl, rfl⟩
  go_wp2_with fail
  refine (in_is _ h3).mono ?_
  rintro e w1 ⟨rfl, rfl⟩
  go_wp2_with fail
  go_ret
  exact ⟨rfl, (Below.refl _ _).alloc (Nat.le_refl _) _⟩

theorem spItemOk_any (q f l : Int) (t : ByteArray) (w : World) :
    Calls Tryd.prog 67 #[.agg #[.int .i64 q, .int .i64 f, .int .i64 l, .string t]] w fun e w' => e = .returned (.bool (itB q f l t)) ∧ Below w.heap.size w w' := by
  unfold itB
  cases h1 : decide (1 ≤ q ∧ q ≤ 60) with
  | false => exact spItemOk_0 q f l t w h1
  | true =>
    cases h2 : decide (1 ≤ f ∧ f ≤ 5) with
    | false => exact spItemOk_1 q f l t w h1 h2
    | true =>
      cases h3 : decide (1 ≤ l ∧ l ≤ 2) with
      | false => exact spItemOk_2 q f l t w h1 h2 h3
      | true => exact spItemOk_3 q f l t w h1 h2 h3

set_option maxRecDepth 100000 in
set_option maxHeartbeats 1000000 in
theorem toItem_any (q f l : Int) (t : ByteArray) (w : World) :
    Calls Tryd.prog 75 #[.agg #[.int .i64 q, .int .i64 f, .int .i64 l, .string t]] w fun e w' => e = .returned (.agg #[.int .i64 q, .int .i64 f, .int .i64 l, .string t]) ∧ Below w.heap.size w w' := by
  go_enter Tryd.func75, Tryd.ntmps75
  go_wp2
  refine bodyPost_ret (v := .agg #[.int .i64 q, .int .i64 f, .int .i64 l, .string t]) (by simp [results, Tryd.results75, go_sem]) rfl ⟨rfl, ?_⟩
  exact (((Below.refl _ w).alloc (Nat.le_refl _) _).alloc (by simp) _).alloc (by simp; omega) _

set_option maxRecDepth 100000 in
set_option maxHeartbeats 1000000 in
theorem szItem_long (q f l : Int) (t : ByteArray) (k : Nat) (w : World) (h : k < t.size) (h2 : t.size ≤ 9223372036854775807) (hk : k ≤ 1048576) :
    Calls Tryd.prog 74 #[.agg #[.int .i64 q, .int .i64 f, .int .i64 l, .string t], .int .i64 k] w fun e w' => e = .returned (.int .i64 (-1)) ∧ Below w.heap.size w w' := by
  have hd : decide ((k : Int) - (t.size : Int) < 0) = true := by simp; omega
  go_enter Tryd.func74, Tryd.ntmps74
  go_wp2
  go_ret
  exact ⟨rfl, (Below.refl _ _).alloc (Nat.le_refl _) _⟩
set_option maxRecDepth 100000 in
set_option maxHeartbeats 1000000 in
theorem szItem_any (q f l : Int) (t : ByteArray) (k : Nat) (w : World) (h : t.size ≤ k) (hk : k ≤ 1048576) :
    Calls Tryd.prog 74 #[.agg #[.int .i64 q, .int .i64 f, .int .i64 l, .string t], .int .i64 k] w fun e w' => e = .returned (.int .i64 ((k - t.size : Nat) : Int)) ∧ Below w.heap.size w w' := by
  have hd : decide ((k : Int) - (t.size : Int) < 0) = false := by simp; omega
  go_enter Tryd.func74, Tryd.ntmps74
  go_wp2
  go_ret
  refine ⟨?_, (Below.refl _ _).alloc (Nat.le_refl _) _⟩
  rw [show ((k - t.size : Nat) : Int) = (k : Int) - (t.size : Int) by omega]
  rfl

/-- the block g is an item that was handed in. -/
def LitAt (w : World) (g : Nat) (q f l : Int) (t : ByteArray) : Prop := w.heap[g]? = some (.cells #[.int .i64 q, .int .i64 f, .int .i64 l, .string t] 98 (0, 0))
theorem LitAt.cells {w : World} {g : Nat} {q f l : Int} {t : ByteArray} (h : LitAt w g q f l t) : w.cell? ⟨g, 0, none⟩ = some (.int .i64 q) ∧ w.cell? ⟨g, 1, none⟩ = some (.int .i64 f) ∧ w.cell? ⟨g, 2, none⟩ = some (.int .i64 l) ∧ w.cell? ⟨g, 3, none⟩ = some (.string t) :=
  ⟨by rw [cell_of_row w g 0 _ 98 (0, 0) h]; rfl, by rw [cell_of_row w g 1 _ 98 (0, 0) h]; rfl, by rw [cell_of_row w g 2 _ 98 (0, 0) h]; rfl, by rw [cell_of_row w g 3 _ 98 (0, 0) h]; rfl⟩
theorem LitAt.stays {w w' : World} {B g : Nat} {q f l : Int} {t : ByteArray} (h : LitAt w g q f l t) (hb : Below B w w') (hg : g < B) : LitAt w' g q f l t := (hb.block g hg).trans h

end Go.Proofs.YtlflcjdpdbdbkaaDoor

/- The walks over VarText and ReadVar of the program, over the digits of the specification, and over one byte as a text. -/
namespace Go.Proofs.YtlflcjdpdbdbkaaDoor
open Go.RowKit Pl
set_option linter.unusedVariables false

theorem Tryd.info5 : (Tryd.prog.info? 5).map (fun i => (i.zero, i.size, i.bytes)) = some (some (.int .u8 0), 1, 1) := by kernel_rfl

set_option maxHeartbeats 400000 in
theorem implVar_yes (N : Nat) (w : World) (hN : N ≤ 1000000000) :
    Calls Tryd.prog 83 #[.int .i64 N] w fun e w' => e = .returned (.tuple #[.string (varS N), .bool true]) ∧ Below w.heap.size w w' := by
  go_enter Tryd.func83, Tryd.ntmps83
  go_wp2_with (first | (at_make; refine wpList_makeB rfl _ _ 22 5 rfl Tryd.underlying22 Tryd.info5 w.heap.size _ _ _ 5 rfl rfl (by omega) (by omega) (Nat.le_refl _) ?_; intro v0 w0 hown0 hb0))
  go_loopw [0, 4] (fun n v wr => ∃ (m : Nat) (xs : List Int), n = .int .i64 m ∧ Hid (VarSt N m xs) ∧ m ≤ N ∧ xs.length ≤ N ∧ OwnB wr w.heap.size 5 v xs ∧ Below w.heap.size w wr) (fun n _ _ => (intOf n).toNat)
  case atStart => exact ⟨N, [], rfl, varSt_start N, by omega, by simp, hown0, hb0⟩
  case round =>
    obtain ⟨m, xs, rfl, hst, hm, hx, hown, hb⟩ := hrel
    have hsz := hb.size
    by_cases hm1 : 127 < m
    · go_wp2_with (first | (at_builtin; refine wpList_push rfl _ _ 22 5 rfl Tryd.underlying22 Tryd.info5 w.heap.size _ xs rfl hown _ rfl (by omega) (by omega) ?_; intro v1 w1 hown1 hb1))
      go_roundw
      case rel =>
        have h2 := varSt_step hst.out hm1
        exact ⟨m / 128, _, by go_num, h2, by omega, by have := h2.2.2; omega, hown1, hb.trans hb1⟩
      case measure => simp [intOf]; omega
    · go_wp2_with (first | (at_builtin; refine wpList_push rfl _ _ 22 5 rfl Tryd.underlying22 Tryd.info5 w.heap.size _ xs rfl hown _ rfl (by omega) (by omega) ?_; intro v1 w1 hown1 hb1; have hcv := conv_own Tryd.underlying22 Tryd.underlying5 Tryd.underlying9 hown1))
      go_ret2
      exact ⟨by rw [← varSt_end hst.out hm1]; rfl, hb.trans hb1⟩

set_option maxHeartbeats 1000000 in
theorem implRv_in (s : ByteArray) (A : Nat) (w : World) (hs : s.size ≤ 1048576) (hA : A ≤ s.size) :
    Calls Tryd.prog 85 #[.string s, .int .i64 A] w fun e w' => e = .returned (rvT (rv s A)) ∧ w' = w := by
  go_enter Tryd.func85, Tryd.ntmps85
  go_wp2
  all_goals
    go_loop [7, 8, 9] (fun n sc i => ∃ k m S : Nat, A + k ≤ s.size ∧ n = .int .i64 m ∧ m < S ∧ sc = .int .i64 S ∧ i = .int .i64 ((A + k : Nat) : Int) ∧ PowS k S ∧ Hid (RvSt s A k m S)) (fun _ _ i => s.size - (intOf i).toNat)
    case atStart => exact ⟨0, 0, 1, by omega, rfl, by decide, rfl, rfl, .inl ⟨rfl, rfl⟩, rvSt_start s A⟩
    case round =>
      obtain ⟨k, m, S, hk2, rfl, hm, rfl, rfl, hp, hst⟩ := hrel
      by_cases hlt : A + k < s.size ∧ k < 5
      · obtain ⟨hlt, hk5⟩ := hlt
        have hb : (s[A + k]'hlt).toNat < 256 := UInt8.toNat_lt _
        rcases hp with ⟨rfl, rfl⟩ | ⟨rfl, rfl⟩ | ⟨rfl, rfl⟩ | ⟨rfl, rfl⟩ | ⟨rfl, rfl⟩ | ⟨rfl, rfl⟩
        all_goals first | (exfalso; omega) | (simp only [Nat.add_zero] at hb) | skip
        all_goals go_wp2
        all_goals first
          | (go_round
             case rel => exact rvNext hst.out (by omega) hlt (by first | omega | (simp only [Nat.add_zero]; omega)) hm (by simp [PowS]) (by first | go_num | (simp only [Nat.add_zero]; go_num)) (by go_num) (by go_num)
             case measure => simp [intOf]; omega)
          | (go_ret3; exact ⟨rvT_bad (rvSt_bad hst.out (by omega) hlt (by first | omega | (simp only [Nat.add_zero]; omega)) (by first | omega | (simp only [Nat.add_zero]; omega))), rfl⟩)
          | (go_ret3; exact ⟨rvT_good (rvSt_good hst.out (by omega) hlt (by first | omega | (simp only [Nat.add_zero]; omega)) (by first | omega | (simp only [Nat.add_zero]; omega)) (by first | omega | (simp only [Nat.add_zero]; omega))) (by first | omega | (simp only [Nat.add_zero]; omega)) (by omega), rfl⟩)
      · have hend : s.size ≤ A + k ∨ 5 ≤ k := by omega
        unfold PowS at hp
        go_wp2
        go_ret3
        exact ⟨rvT_bad (rvSt_out hst.out (by omega)), rfl⟩

theorem implRv_some (s : ByteArray) (A n i : Nat) (w : World) (hs : s.size ≤ 1048576) (hA : A ≤ s.size) (h : rv s A = some (n, i)) :
    Calls Tryd.prog 85 #[.string s, .int .i64 A] w fun e w' => e = .returned (.tuple #[.int .i64 n, .int .i64 i, .bool true]) ∧ w' = w := by
  have := implRv_in s A w hs hA
  rw [h] at this
  exact this
theorem varS_size (N : Nat) (h : N ≤ 68719476736) : (varS N).size ≤ 68719476737 := by
  rw [varS, strOfNums_size]
  have := varI_length N
  omega


set_option maxHeartbeats 400000 in
theorem l01Var_any (N : Nat) (w : World) (hN : N ≤ 68719476736) :
    Calls Tryd.prog 32 #[.int .i64 N] w fun e w' => e = .returned (.string (varS N)) ∧ Below w.heap.size w w' := by
  go_enter Tryd.func32, Tryd.ntmps32
  go_wp2
  go_loopw [0, 3] (fun n v wr => ∃ (m : Nat) (xs : List Int), n = .int .i64 m ∧ Hid (VarSt N m xs) ∧ m ≤ N ∧ xs.length ≤ N ∧ OwnB wr w.heap.size 5 v xs ∧ Below w.heap.size w wr) (fun n _ _ => (intOf n).toNat)
  case atStart => exact ⟨N, [], rfl, varSt_start N, by omega, by simp, OwnB.made w _ 5 #[] 0 (Nat.le_refl _) (by decide) rfl, (Below.refl _ _).alloc (Nat.le_refl _) _⟩
  case round =>
    obtain ⟨m, xs, rfl, hst, hm, hx, hown, hb⟩ := hrel
    have hsz := hb.size
    by_cases hm1 : 127 < m
    · go_wp2_with (first | (at_builtin; refine wpList_push rfl _ _ 22 5 rfl Tryd.underlying22 Tryd.info5 w.heap.size _ xs rfl hown _ rfl (by omega) (by omega) ?_; intro v1 w1 hown1 hb1))
      go_roundw
      case rel =>
        have h2 := varSt_step hst.out hm1
        exact ⟨m / 128, _, by go_num, h2, by omega, by have := h2.2.2; omega, hown1, hb.trans hb1⟩
      case measure => simp [intOf]; omega
    · go_wp2_with (first | (at_builtin; refine wpList_push rfl _ _ 22 5 rfl Tryd.underlying22 Tryd.info5 w.heap.size _ xs rfl hown _ rfl (by omega) (by omega) ?_; intro v1 w1 hown1 hb1; have hcv := conv_own Tryd.underlying22 Tryd.underlying5 Tryd.underlying9 hown1))
      go_ret
      exact ⟨by rw [← varSt_end hst.out hm1]; rfl, hb.trans hb1⟩

theorem l01Var_at (a : Int) (w : World) (h0 : 0 ≤ a) (h1 : a ≤ 68719476736) :
    Calls Tryd.prog 32 #[.int .i64 a] w fun e w' => e = .returned (.string (varS a.toNat)) ∧ Below w.heap.size w w' := by
  obtain ⟨N, rfl⟩ : ∃ N : Nat, a = N := ⟨a.toNat, by omega⟩
  exact l01Var_any N w (by omega)


theorem implRv_none (s : ByteArray) (A : Nat) (w : World) (hs : s.size ≤ 1048576) (hA : A ≤ s.size) (h : rv s A = none) :
    Calls Tryd.prog 85 #[.string s, .int .i64 A] w fun e w' => e = .returned (.tuple #[.int .i64 0, .int .i64 0, .bool false]) ∧ w' = w := by
  have := implRv_in s A w hs hA
  rw [h] at this
  exact this

theorem conv_one {w : World} {a : Int} : (convert 22 9 (.slice (some ⟨w.heap.size, 0, none⟩) 1 1)).run Tryd.prog (w.alloc (.cells #[.int .u8 a] 5)) = .ok (.string (strOfNums [a])) (w.alloc (.cells #[.int .u8 a] 5)) := by
  refine run_convert_bytes_arg (P := Tryd.prog) _ 22 5 Tryd.underlying22 Tryd.underlying5 w.heap.size 0 1 1 [a] rfl (fun i hi => ?_) 9 Tryd.underlying9
  obtain rfl : i = 0 := by omega
  rw [cell_of_row _ w.heap.size (0 + 0) _ 5 (0, 0) (heap_alloc_new w _)]
  rfl

set_option maxHeartbeats 400000 in
theorem varOf_any (N : Nat) (w : World) (hN : N ≤ 1000000000) :
    Calls Tryd.prog 59 #[.int .i64 N] w fun e w' => e = .returned (.string (varS N)) ∧ Below w.heap.size w w' := by
  go_enter Tryd.func59, Tryd.ntmps59
  go_wp2_with (first | (go_at_call 83; refine (implVar_yes N _ hN).mono ?_; rintro e w1 ⟨rfl, hb1⟩))
  go_ret
  exact ⟨rfl, hb1⟩

set_option maxHeartbeats 400000 in
theorem byteOf_any (N : Nat) (w : World) (hN : N < 256) :
    Calls Tryd.prog 24 #[.int .i64 N] w fun e w' => e = .returned (.string (byteS N)) ∧ Below w.heap.size w w' := by
  have hcv := conv_one (w := w) (a := (N : Int))
  go_enter Tryd.func24, Tryd.ntmps24
  go_wp2
  go_ret
  exact ⟨rfl, (Below.refl _ _).alloc (Nat.le_refl _) _⟩

set_option maxHeartbeats 400000 in
theorem l05Byte_any (N : Nat) (w : World) (hN : N < 256) :
    Calls Tryd.prog 31 #[.int .i64 N] w fun e w' => e = .returned (.string (byteS N)) ∧ Below w.heap.size w w' := by
  have hcv := conv_one (w := w) (a := (N : Int))
  go_enter Tryd.func31, Tryd.ntmps31
  go_wp2
  go_ret
  exact ⟨rfl, (Below.refl _ _).alloc (Nat.le_refl _) _⟩
end Go.Proofs.YtlflcjdpdbdbkaaDoor

