/- Joined texts: CWr CMo CMn CDe CLde. -/
import Derived.Test.YtoahljkifikbaaaQd11
import Derived.Test.YtoahljkifikbaaaQd8
import Derived.Test.YtoahljkifikbaaaQd5
import Derived.Test.YtoahljkifikbaaaQd12
import Derived.BigQuiet
import Derived.Deep.QuietTactic
/- Contracts over lists that are read; what is appended is read. -/
namespace Go.Proofs.Ytoahljkifikbaaa
open Go.RowKit Pl
set_option linter.unusedVariables false

section
variable {w : World} {v : Value}
end

end Go.Proofs.Ytoahljkifikbaaa


/- What a member has to say, and whether it is right: small walks. -/
namespace Go.Proofs.Ytoahljkifikbaaa
open Go.RowKit Pl
set_option linter.unusedVariables false
set_option linter.unusedSimpArgs false

/-- whether texts are short. -/
def fitB (ts : List ByteArray) : Bool := ts.all fun t => decide (t.size ≤ 60)
/-- whether a number is a level. -/
def lvB (l : Int) : Bool := decide (1 ≤ l ∧ l ≤ 2)
def lvsB (lv : List Int) : Bool := lv.all lvB
/-- whether it may stand there to be said. -/
def sayB (lv : List Int) (tx : List ByteArray) : Bool := decide (tx.length ≤ 20) && (decide (lv.length = tx.length) && (lvsB lv && fitB tx))

set_option maxRecDepth 100000 in
set_option maxHeartbeats 1000000 in
theorem isLevel_any (l : Int) (w : World) : Calls Try.prog 48 #[.int .i64 l] w fun e w' => e = .returned (.bool (lvB l)) ∧ w' = w := by
  unfold lvB
  by_cases h1 : l = 1
  · subst h1
    go_enter Try.func48, Try.ntmps48
    go_wp2
    go_ret
    exact ⟨rfl, rfl⟩
  · by_cases h2 : l = 2
    · subst h2
      go_enter Try.func48, Try.ntmps48
      go_wp2
      go_ret
      exact ⟨rfl, rfl⟩
    · have h3 : decide (1 ≤ l ∧ l ≤ 2) = false := by simp; omega
      have HD : Hid (decide (1 ≤ l ∧ l ≤ 2) = false) := h3
      have k1 : (l == 1) = false := by simp; exact h1
      have k2 : (l == 2) = false := by simp; exact h2
      clear h3 h1 h2
      go_enter Try.func48, Try.ntmps48
      go_wp2
      go_ret
      exact ⟨by rw [HD.out]; rfl, rfl⟩

end Go.Proofs.Ytoahljkifikbaaa


/- A new member: the walks over isMember, copyOfRing and both MateNew. -/
namespace Go.Proofs.Ytoahljkifikbaaa
open Go.RowKit Pl
set_option linter.unusedVariables false
end Go.Proofs.Ytoahljkifikbaaa


/- Deeds in plain words; both DeedOk. -/
namespace Go.Proofs.Ytoahljkifikbaaa
open Go.RowKit Pl
set_option linter.unusedVariables false
set_option linter.unusedSimpArgs false

/-- what a deed of this kind may say. -/
def uttD (k l : Int) (x : ByteArray) : Bool := if k = 1 then lvB l && decide ((x.size : Int) ≤ 60) else decide (l = 0) && x.toList.isEmpty
def deedB (k d a l : Int) (x : ByteArray) : Bool := decide (1 ≤ k ∧ k ≤ 9) && (decide (1 ≤ d ∧ d ≤ 5) && (decide (0 ≤ a) && uttD k l x))

set_option maxRecDepth 100000 in
set_option maxHeartbeats 1000000 in
theorem toDeed_any (k d a l : Int) (x : ByteArray) (w : World) :
    Calls Try.prog 13 #[.agg #[.int .i64 k, .int .i64 d, .int .i64 a, .int .i64 l, .string x]] w fun e w' => e = .returned (.agg #[.int .i64 k, .int .i64 d, .int .i64 a, .int .i64 l, .string x]) ∧ Below w.heap.size w w' := by
  go_enter Try.func13, Try.ntmps13
  go_wp2
  refine bodyPost_ret (v := .agg #[.int .i64 k, .int .i64 d, .int .i64 a, .int .i64 l, .string x]) (by simp [results, Try.results13, go_sem]) rfl ⟨rfl, ?_⟩
  exact (((Below.refl _ w).alloc (Nat.le_refl _) _).alloc (by simp) _).alloc (by simp; omega) _

set_option maxRecDepth 100000 in
set_option maxHeartbeats 1000000 in
theorem szDeed_long (k d a l : Int) (x : ByteArray) (n : Nat) (w : World) (h : n < x.size) (h2 : x.size ≤ 9223372036854775807) (hk : n ≤ 1048576) :
    Calls Try.prog 11 #[.agg #[.int .i64 k, .int .i64 d, .int .i64 a, .int .i64 l, .string x], .int .i64 n] w fun e w' => e = .returned (.int .i64 (-1)) ∧ Below w.heap.size w w' := by
  have hd : decide ((n : Int) - (x.size : Int) < 0) = true := by simp; omega
  go_enter Try.func11, Try.ntmps11
  go_wp2
  go_ret
  exact ⟨rfl, (Below.refl _ _).alloc (Nat.le_refl _) _⟩
set_option maxRecDepth 100000 in
set_option maxHeartbeats 1000000 in
theorem szDeed_any (k d a l : Int) (x : ByteArray) (n : Nat) (w : World) (h : x.size ≤ n) (hk : n ≤ 1048576) :
    Calls Try.prog 11 #[.agg #[.int .i64 k, .int .i64 d, .int .i64 a, .int .i64 l, .string x], .int .i64 n] w fun e w' => e = .returned (.int .i64 ((n - x.size : Nat) : Int)) ∧ Below w.heap.size w w' := by
  have hd : decide ((n : Int) - (x.size : Int) < 0) = false := by simp; omega
  go_enter Try.func11, Try.ntmps11
  go_wp2
  go_ret
  refine ⟨?_, (Below.refl _ _).alloc (Nat.le_refl _) _⟩
  rw [show ((n - x.size : Nat) : Int) = (n : Int) - (x.size : Int) by omega]
  rfl

set_option maxRecDepth 100000 in
set_option maxHeartbeats 4000000 in
theorem dsayOk_1 (d a l : Int) (x : ByteArray) (w : World) (hx : x.size ≤ 1048576) :
    Calls Try.prog 28 #[.agg #[.int .i64 1, .int .i64 d, .int .i64 a, .int .i64 l, .string x]] w fun e w' => e = .returned (.bool (lvB l && decide ((x.size : Int) ≤ 60))) ∧ Below w.heap.size w w' := by
  have HB : Hid (Below w.heap.size w (w.alloc (.cells #[.int .i64 1, .int .i64 d, .int .i64 a, .int .i64 l, .string x] 33))) := (Below.refl _ _).alloc (Nat.le_refl _) _
  cases hl : lvB l
  all_goals
    go_enter Try.func28, Try.ntmps28
    go_wp2_with (go_at_call 48; refine (isLevel_any _ _).mono ?_; rintro e w1 ⟨rfl, rfl⟩)
    go_ret
    exact ⟨by simp, HB.out⟩
set_option maxRecDepth 100000 in
set_option maxHeartbeats 4000000 in
theorem dsayOk_2 (k d a l : Int) (x : ByteArray) (w : World) (hk : k ≠ 1) (hx : x.size ≤ 1048576) :
    Calls Try.prog 28 #[.agg #[.int .i64 k, .int .i64 d, .int .i64 a, .int .i64 l, .string x]] w fun e w' => e = .returned (.bool (decide (l = 0) && x.toList.isEmpty)) ∧ Below w.heap.size w w' := by
  have HB : Hid (Below w.heap.size w (w.alloc (.cells #[.int .i64 k, .int .i64 d, .int .i64 a, .int .i64 l, .string x] 33))) := (Below.refl _ _).alloc (Nat.le_refl _) _
  by_cases hl : l = 0
  · subst hl
    go_enter Try.func28, Try.ntmps28
    go_wp2_with fail
    go_ret
    exact ⟨by simp, HB.out⟩
  · go_enter Try.func28, Try.ntmps28
    go_wp2_with fail
    go_ret
    exact ⟨by simp [hl], HB.out⟩
theorem dsayOk_any (k d a l : Int) (x : ByteArray) (w : World) (hx : x.size ≤ 1048576) :
    Calls Try.prog 28 #[.agg #[.int .i64 k, .int .i64 d, .int .i64 a, .int .i64 l, .string x]] w fun e w' => e = .returned (.bool (uttD k l x)) ∧ Below w.heap.size w w' := by
  by_cases hk : k = 1
  · subst hk; unfold uttD; rw [if_pos rfl]; exact dsayOk_1 d a l x w hx
  · unfold uttD; rw [if_neg hk]; exact dsayOk_2 k d a l x w hk hx
set_option maxRecDepth 100000 in
set_option maxHeartbeats 4000000 in
theorem deedOk_0 (k d a l : Int) (x : ByteArray) (w : World) (hx : x.size ≤ 1048576) (h1 : decide (1 ≤ k ∧ k ≤ 9) = false) :
    Calls Try.prog 14 #[.agg #[.int .i64 k, .int .i64 d, .int .i64 a, .int .i64 l, .string x]] w fun e w' => e = .returned (.bool (deedB k d a l x)) ∧ Below w.heap.size w w' := by
  have HE : Hid (Bx (w.alloc (.cells #[.int .i64 k, .int .i64 d, .int .i64 a, .int .i64 l, .string x] 33)) w.heap.size 33 [.int .i64 k, .int .i64 d, .int .i64 a, .int .i64 l, .string x]) := Bx.new w 33 _
  have HB : Hid (Below w.heap.size w (w.alloc (.cells #[.int .i64 k, .int .i64 d, .int .i64 a, .int .i64 l, .string x] 33))) := (Below.refl _ _).alloc (Nat.le_refl _) _
  go_enter Try.func14, Try.ntmps14
  go_wp2_with fail
  refine (within_any k 1 9 _).mono ?_
  rintro e w1 ⟨rfl, rfl⟩
  simp only [h1]
  go_wp2_with fail
  go_ret
  exact ⟨by unfold deedB; simp [h1], HB.out⟩
set_option maxRecDepth 100000 in
set_option maxHeartbeats 4000000 in
theorem deedOk_1 (k d a l : Int) (x : ByteArray) (w : World) (hx : x.size ≤ 1048576) (h1 : decide (1 ≤ k ∧ k ≤ 9) = true) (h2 : decide (1 ≤ d ∧ d ≤ 5) = false) :
    Calls Try.prog 14 #[.agg #[.int .i64 k, .int .i64 d, .int .i64 a, .int .i64 l, .string x]] w fun e w' => e = .returned (.bool (deedB k d a l x)) ∧ Below w.heap.size w w' := by
  have HE : Hid (Bx (w.alloc (.cells #[.int .i64 k, .int .i64 d, .int .i64 a, .int .i64 l, .string x] 33)) w.heap.size 33 [.int .i64 k, .int .i64 d, .int .i64 a, .int .i64 l, .string x]) := Bx.new w 33 _
  have HB : Hid (Below w.heap.size w (w.alloc (.cells #[.int .i64 k, .int .i64 d, .int .i64 a, .int .i64 l, .string x] 33))) := (Below.refl _ _).alloc (Nat.le_refl _) _
  go_enter Try.func14, Try.ntmps14
  go_wp2_with fail
  refine (within_any k 1 9 _).mono ?_
  rintro e w1 ⟨rfl, rfl⟩
  simp only [h1]
  go_wp2_with fail
  refine (within_any d 1 5 _).mono ?_
  rintro e w1 ⟨rfl, rfl⟩
  simp only [h2]
  go_wp2_with fail
  go_ret
  exact ⟨by unfold deedB; simp [h1, h2], HB.out⟩
set_option maxRecDepth 100000 in
set_option maxHeartbeats 4000000 in
theorem deedOk_2 (k d a l : Int) (x : ByteArray) (w : World) (hx : x.size ≤ 1048576) (h1 : decide (1 ≤ k ∧ k ≤ 9) = true) (h2 : decide (1 ≤ d ∧ d ≤ 5) = true) (h3 : decide (0 ≤ a) = false) :
    Calls Try.prog 14 #[.agg #[.int .i64 k, .int .i64 d, .int .i64 a, .int .i64 l, .string x]] w fun e w' => e = .returned (.bool (deedB k d a l x)) ∧ Below w.heap.size w w' := by
  have HE : Hid (Bx (w.alloc (.cells #[.int .i64 k, .int .i64 d, .int .i64 a, .int .i64 l, .string x] 33)) w.heap.size 33 [.int .i64 k, .int .i64 d, .int .i64 a, .int .i64 l, .string x]) := Bx.new w 33 _
  have HB : Hid (Below w.heap.size w (w.alloc (.cells #[.int .i64 k, .int .i64 d, .int .i64 a, .int .i64 l, .string x] 33))) := (Below.refl _ _).alloc (Nat.le_refl _) _
  go_enter Try.func14, Try.ntmps14
  go_wp2_with fail
  refine (within_any k 1 9 _).mono ?_
  rintro e w1 ⟨rfl, rfl⟩
  simp only [h1]
  go_wp2_with fail
  refine (within_any d 1 5 _).mono ?_
  rintro e w1 ⟨rfl, rfl⟩
  simp only [h2]
  go_wp2_with fail
  go_ret
  exact ⟨by unfold deedB; simp [h1, h2, h3], HB.out⟩
set_option maxRecDepth 100000 in
set_option maxHeartbeats 4000000 in
theorem deedOk_3 (k d a l : Int) (x : ByteArray) (w : World) (hx : x.size ≤ 1048576) (h1 : decide (1 ≤ k ∧ k ≤ 9) = true) (h2 : decide (1 ≤ d ∧ d ≤ 5) = true) (h3 : decide (0 ≤ a) = true) :
    Calls Try.prog 14 #[.agg #[.int .i64 k, .int .i64 d, .int .i64 a, .int .i64 l, .string x]] w fun e w' => e = .returned (.bool (deedB k d a l x)) ∧ Below w.heap.size w w' := by
  have HE : Hid (Bx (w.alloc (.cells #[.int .i64 k, .int .i64 d, .int .i64 a, .int .i64 l, .string x] 33)) w.heap.size 33 [.int .i64 k, .int .i64 d, .int .i64 a, .int .i64 l, .string x]) := Bx.new w 33 _
  have HB : Hid (Below w.heap.size w (w.alloc (.cells #[.int .i64 k, .int .i64 d, .int .i64 a, .int .i64 l, .string x] 33))) := (Below.refl _ _).alloc (Nat.le_refl _) _
  go_enter Try.func14, Try.ntmps14
  go_wp2_with fail
  refine (within_any k 1 9 _).mono ?_
  rintro e w1 ⟨rfl, rfl⟩
  simp only [h1]
  go_wp2_with fail
  refine (within_any d 1 5 _).mono ?_
  rintro e w1 ⟨rfl, rfl⟩
  simp only [h2]
  go_wp2_with fail
  refine (dsayOk_any k d a l x _ hx).mono ?_
  rintro e w3 ⟨rfl, hb3⟩
  go_wp2_with fail
  go_ret
  exact ⟨by unfold deedB; rw [h1, h2, h3]; rfl, bl_next HB.out hb3⟩
theorem deedOk_any (k d a l : Int) (x : ByteArray) (w : World) (hx : x.size ≤ 1048576) :
    Calls Try.prog 14 #[.agg #[.int .i64 k, .int .i64 d, .int .i64 a, .int .i64 l, .string x]] w fun e w' => e = .returned (.bool (deedB k d a l x)) ∧ Below w.heap.size w w' := by
  cases h1 : decide (1 ≤ k ∧ k ≤ 9) with
  | false => exact deedOk_0 k d a l x w hx h1
  | true =>
    cases h2 : decide (1 ≤ d ∧ d ≤ 5) with
    | false => exact deedOk_1 k d a l x w hx h1 h2
    | true =>
      cases h3 : decide (0 ≤ a) with
      | false => exact deedOk_2 k d a l x w hx h1 h2 h3
      | true => exact deedOk_3 k d a l x w hx h1 h2 h3
set_option maxRecDepth 100000 in
set_option maxHeartbeats 4000000 in
theorem spDeedOk_0 (k d a l : Int) (x : ByteArray) (w : World) (hx : x.size ≤ 1048576) (h1 : decide (1 ≤ k ∧ k ≤ 9) = false) :
    Calls Try.prog 12 #[.agg #[.int .i64 k, .int .i64 d, .int .i64 a, .int .i64 l, .string x]] w fun e w' => e = .returned (.bool (deedB k d a l x)) ∧ Below w.heap.size w w' := by
  have HE : Hid (Bx (w.alloc (.cells #[.int .i64 k, .int .i64 d, .int .i64 a, .int .i64 l, .string x] 33)) w.heap.size 33 [.int .i64 k, .int .i64 d, .int .i64 a, .int .i64 l, .string x]) := Bx.new w 33 _
  have HB : Hid (Below w.heap.size w (w.alloc (.cells #[.int .i64 k, .int .i64 d, .int .i64 a, .int .i64 l, .string x] 33))) := (Below.refl _ _).alloc (Nat.le_refl _) _
  go_enter Try.func12, Try.ntmps12
  go_wp2_with fail
  refine (in_any k 1 9 _).mono ?_
  rintro e w1 ⟨rfl, rfl⟩
  simp only [h1]
  go_wp2_with fail
  go_ret
  exact ⟨by unfold deedB; simp [h1], HB.out⟩
set_option maxRecDepth 100000 in
set_option maxHeartbeats 4000000 in
theorem spDeedOk_1 (k d a l : Int) (x : ByteArray) (w : World) (hx : x.size ≤ 1048576) (h1 : decide (1 ≤ k ∧ k ≤ 9) = true) (h2 : decide (1 ≤ d ∧ d ≤ 5) = false) :
    Calls Try.prog 12 #[.agg #[.int .i64 k, .int .i64 d, .int .i64 a, .int .i64 l, .string x]] w fun e w' => e = .returned (.bool (deedB k d a l x)) ∧ Below w.heap.size w w' := by
  have HE : Hid (Bx (w.alloc (.cells #[.int .i64 k, .int .i64 d, .int .i64 a, .int .i64 l, .string x] 33)) w.heap.size 33 [.int .i64 k, .int .i64 d, .int .i64 a, .int .i64 l, .string x]) := Bx.new w 33 _
  have HB : Hid (Below w.heap.size w (w.alloc (.cells #[.int .i64 k, .int .i64 d, .int .i64 a, .int .i64 l, .string x] 33))) := (Below.refl _ _).alloc (Nat.le_refl _) _
  go_enter Try.func12, Try.ntmps12
  go_wp2_with fail
  refine (in_any k 1 9 _).mono ?_
  rintro e w1 ⟨rfl, rfl⟩
  simp only [h1]
  go_wp2_with fail
  refine (in_any d 1 5 _).mono ?_
  rintro e w1 ⟨rfl, rfl⟩
  simp only [h2]
  go_wp2_with fail
  go_ret
  exact ⟨by unfold deedB; simp [h1, h2], HB.out⟩
set_option maxRecDepth 100000 in
set_option maxHeartbeats 4000000 in
theorem spDeedOk_2 (k d a l : Int) (x : ByteArray) (w : World) (hx : x.size ≤ 1048576) (h1 : decide (1 ≤ k ∧ k ≤ 9) = true) (h2 : decide (1 ≤ d ∧ d ≤ 5) = true) (h3 : decide (a < 0) = true) :
    Calls Try.prog 12 #[.agg #[.int .i64 k, .int .i64 d, .int .i64 a, .int .i64 l, .string x]] w fun e w' => e = .returned (.bool (deedB k d a l x)) ∧ Below w.heap.size w w' := by
  have HE : Hid (Bx (w.alloc (.cells #[.int .i64 k, .int .i64 d, .int .i64 a, .int .i64 l, .string x] 33)) w.heap.size 33 [.int .i64 k, .int .i64 d, .int .i64 a, .int .i64 l, .string x]) := Bx.new w 33 _
  have HB : Hid (Below w.heap.size w (w.alloc (.cells #[.int .i64 k, .int .i64 d, .int .i64 a, .int .i64 l, .string x] 33))) := (Below.refl _ _).alloc (Nat.le_refl _) _
  go_enter Try.func12, Try.ntmps12
  go_wp2_with fail
  refine (in_any k 1 9 _).mono ?_
  rintro e w1 ⟨rfl, rfl⟩
  simp only [h1]
  go_wp2_with fail
  refine (in_any d 1 5 _).mono ?_
  rintro e w1 ⟨rfl, rfl⟩
  simp only [h2]
  go_wp2_with fail
  go_ret
  exact ⟨by unfold deedB; rw [h1, h2, show decide (0 ≤ a) = false by simpa using h3]; rfl, HB.out⟩
set_option maxRecDepth 100000 in
set_option maxHeartbeats 4000000 in
theorem spDeedOk_3 (k d a l : Int) (x : ByteArray) (w : World) (hx : x.size ≤ 1048576) (h1 : decide (1 ≤ k ∧ k ≤ 9) = true) (h2 : decide (1 ≤ d ∧ d ≤ 5) = true) (h3 : decide (a < 0) = false) (h4 : k ≠ 1) (h5 : l ≠ 0) :
    Calls Try.prog 12 #[.agg #[.int .i64 k, .int .i64 d, .int .i64 a, .int .i64 l, .string x]] w fun e w' => e = .returned (.bool (deedB k d a l x)) ∧ Below w.heap.size w w' := by
  have HE : Hid (Bx (w.alloc (.cells #[.int .i64 k, .int .i64 d, .int .i64 a, .int .i64 l, .string x] 33)) w.heap.size 33 [.int .i64 k, .int .i64 d, .int .i64 a, .int .i64 l, .string x]) := Bx.new w 33 _
  have HB : Hid (Below w.heap.size w (w.alloc (.cells #[.int .i64 k, .int .i64 d, .int .i64 a, .int .i64 l, .string x] 33))) := (Below.refl _ _).alloc (Nat.le_refl _) _
  go_enter Try.func12, Try.ntmps12
  go_wp2_with fail
  refine (in_any k 1 9 _).mono ?_
  rintro e w1 ⟨rfl, rfl⟩
  simp only [h1]
  go_wp2_with fail
  refine (in_any d 1 5 _).mono ?_
  rintro e w1 ⟨rfl, rfl⟩
  simp only [h2]
  go_wp2_with fail
  go_ret
  exact ⟨by unfold deedB uttD; rw [h1, h2, show decide (0 ≤ a) = true by simpa using h3, if_neg h4]; simp [h5], HB.out⟩
set_option maxRecDepth 100000 in
set_option maxHeartbeats 4000000 in
theorem spDeedOk_4 (k d a l : Int) (x : ByteArray) (w : World) (hx : x.size ≤ 1048576) (h1 : decide (1 ≤ k ∧ k ≤ 9) = true) (h2 : decide (1 ≤ d ∧ d ≤ 5) = true) (h3 : decide (a < 0) = false) (h4 : k ≠ 1) (h5 : l = 0) :
    Calls Try.prog 12 #[.agg #[.int .i64 k, .int .i64 d, .int .i64 a, .int .i64 l, .string x]] w fun e w' => e = .returned (.bool (deedB k d a l x)) ∧ Below w.heap.size w w' := by
  subst h5
  have HE : Hid (Bx (w.alloc (.cells #[.int .i64 k, .int .i64 d, .int .i64 a, .int .i64 0, .string x] 33)) w.heap.size 33 [.int .i64 k, .int .i64 d, .int .i64 a, .int .i64 0, .string x]) := Bx.new w 33 _
  have HB : Hid (Below w.heap.size w (w.alloc (.cells #[.int .i64 k, .int .i64 d, .int .i64 a, .int .i64 0, .string x] 33))) := (Below.refl _ _).alloc (Nat.le_refl _) _
  go_enter Try.func12, Try.ntmps12
  go_wp2_with fail
  refine (in_any k 1 9 _).mono ?_
  rintro e w1 ⟨rfl, rfl⟩
  simp only [h1]
  go_wp2_with fail
  refine (in_any d 1 5 _).mono ?_
  rintro e w1 ⟨rfl, rfl⟩
  simp only [h2]
  go_wp2_with fail
  go_ret
  exact ⟨by unfold deedB uttD; rw [h1, h2, show decide (0 ≤ a) = true by simpa using h3, if_neg h4]; simp, HB.out⟩
set_option maxRecDepth 100000 in
set_option maxHeartbeats 4000000 in
theorem spDeedOk_5 (k d a l : Int) (x : ByteArray) (w : World) (hx : x.size ≤ 1048576) (h1 : decide (1 ≤ k ∧ k ≤ 9) = true) (h2 : decide (1 ≤ d ∧ d ≤ 5) = true) (h3 : decide (a < 0) = false) (h4 : k = 1) (h5 : decide (1 ≤ l ∧ l ≤ 2) = false) :
    Calls Try.prog 12 #[.agg #[.int .i64 k, .int .i64 d, .int .i64 a, .int .i64 l, .string x]] w fun e w' => e = .returned (.bool (deedB k d a l x)) ∧ Below w.heap.size w w' := by
  subst h4
  have HE : Hid (Bx (w.alloc (.cells #[.int .i64 1, .int .i64 d, .int .i64 a, .int .i64 l, .string x] 33)) w.heap.size 33 [.int .i64 1, .int .i64 d, .int .i64 a, .int .i64 l, .string x]) := Bx.new w 33 _
  have HB : Hid (Below w.heap.size w (w.alloc (.cells #[.int .i64 1, .int .i64 d, .int .i64 a, .int .i64 l, .string x] 33))) := (Below.refl _ _).alloc (Nat.le_refl _) _
  go_enter Try.func12, Try.ntmps12
  go_wp2_with fail
  refine (in_any 1 1 9 _).mono ?_
  rintro e w1 ⟨rfl, rfl⟩
  simp only [h1]
  go_wp2_with fail
  refine (in_any d 1 5 _).mono ?_
  rintro e w1 ⟨rfl, rfl⟩
  simp only [h2]
  go_wp2_with fail
  refine (in_any l 1 2 _).mono ?_
  rintro e w1 ⟨rfl, rfl⟩
  simp only [h5]
  go_wp2_with fail
  go_ret
  exact ⟨by unfold deedB uttD lvB; rw [h1, h2, show decide (0 ≤ a) = true by simpa using h3, if_pos rfl, h5]; rfl, HB.out⟩
set_option maxRecDepth 100000 in
set_option maxHeartbeats 4000000 in
theorem spDeedOk_6 (k d a l : Int) (x : ByteArray) (w : World) (hx : x.size ≤ 1048576) (h1 : decide (1 ≤ k ∧ k ≤ 9) = true) (h2 : decide (1 ≤ d ∧ d ≤ 5) = true) (h3 : decide (a < 0) = false) (h4 : k = 1) (h5 : decide (1 ≤ l ∧ l ≤ 2) = true) :
    Calls Try.prog 12 #[.agg #[.int .i64 k, .int .i64 d, .int .i64 a, .int .i64 l, .string x]] w fun e w' => e = .returned (.bool (deedB k d a l x)) ∧ Below w.heap.size w w' := by
  subst h4
  have HE : Hid (Bx (w.alloc (.cells #[.int .i64 1, .int .i64 d, .int .i64 a, .int .i64 l, .string x] 33)) w.heap.size 33 [.int .i64 1, .int .i64 d, .int .i64 a, .int .i64 l, .string x]) := Bx.new w 33 _
  have HB : Hid (Below w.heap.size w (w.alloc (.cells #[.int .i64 1, .int .i64 d, .int .i64 a, .int .i64 l, .string x] 33))) := (Below.refl _ _).alloc (Nat.le_refl _) _
  go_enter Try.func12, Try.ntmps12
  go_wp2_with fail
  refine (in_any 1 1 9 _).mono ?_
  rintro e w1 ⟨rfl, rfl⟩
  simp only [h1]
  go_wp2_with fail
  refine (in_any d 1 5 _).mono ?_
  rintro e w1 ⟨rfl, rfl⟩
  simp only [h2]
  go_wp2_with fail
  refine (in_any l 1 2 _).mono ?_
  rintro e w1 ⟨rfl, rfl⟩
  simp only [h5]
  go_wp2_with fail
  go_ret
  exact ⟨by unfold deedB uttD lvB; rw [h1, h2, show decide (0 ≤ a) = true by simpa using h3, if_pos rfl, h5]; rfl, HB.out⟩
theorem spDeedOk_any (k d a l : Int) (x : ByteArray) (w : World) (hx : x.size ≤ 1048576) :
    Calls Try.prog 12 #[.agg #[.int .i64 k, .int .i64 d, .int .i64 a, .int .i64 l, .string x]] w fun e w' => e = .returned (.bool (deedB k d a l x)) ∧ Below w.heap.size w w' := by
  cases h1 : decide (1 ≤ k ∧ k ≤ 9) with
  | false => exact spDeedOk_0 k d a l x w hx h1
  | true =>
    cases h2 : decide (1 ≤ d ∧ d ≤ 5) with
    | false => exact spDeedOk_1 k d a l x w hx h1 h2
    | true =>
      cases h3 : decide (a < 0) with
      | true => exact spDeedOk_2 k d a l x w hx h1 h2 h3
      | false =>
        by_cases h4 : k = 1
        · cases h5 : decide (1 ≤ l ∧ l ≤ 2) with
          | false => exact spDeedOk_5 k d a l x w hx h1 h2 h3 h4 h5
          | true => exact spDeedOk_6 k d a l x w hx h1 h2 h3 h4 h5
        · by_cases h5 : l = 0
          · exact spDeedOk_4 k d a l x w hx h1 h2 h3 h4 h5
          · exact spDeedOk_3 k d a l x w hx h1 h2 h3 h4 h5
end Go.Proofs.Ytoahljkifikbaaa


/- The law on DeedOk. -/
namespace Go.Proofs.Ytoahljkifikbaaa
open Go.RowKit Pl
set_option linter.unusedVariables false
set_option linter.unusedSimpArgs false

set_option maxRecDepth 100000 in
set_option maxHeartbeats 8000000 in
theorem lawDeedOk (k d a l : Int) (x : ByteArray) (w : World) (hxl : x.size ≤ maxLen) :
    Calls Try.prog 4 #[.agg #[.int .i64 k, .int .i64 d, .int .i64 a, .int .i64 l, .string x]] w fun e w' => e = .returned (.bool true) ∧ Below w.heap.size w w' := by
  unfold maxLen at hxl
  have HE : Hid (Bx (w.alloc (.cells #[.int .i64 k, .int .i64 d, .int .i64 a, .int .i64 l, .string x] 30)) w.heap.size 30 [.int .i64 k, .int .i64 d, .int .i64 a, .int .i64 l, .string x]) := Bx.new w 30 _
  have HB : Hid (Below w.heap.size w (w.alloc (.cells #[.int .i64 k, .int .i64 d, .int .i64 a, .int .i64 l, .string x] 30))) := (Below.refl _ _).alloc (Nat.le_refl _) _
  obtain ⟨TB, hTB⟩ : ∃ b, b = deedB k d a l x := ⟨_, rfl⟩
  have HTB : Hid (TB = deedB k d a l x) := hTB
  clear hTB
  go_enter Try.func4, Try.ntmps4
  go_wp2_with fail
  generalize (w.alloc (.cells #[.int .i64 k, .int .i64 d, .int .i64 a, .int .i64 l, .string x] 30)) = W0 at *
  by_cases hl3 : 1048576 < x.size
  · refine (szDeed_long k d a l x _ _ hl3 (by omega) (by omega)).mono ?_
    rintro e w2 ⟨rfl, hb2⟩
    go_wp2_with fail
    go_ret
    exact ⟨rfl, bl_next HB.out hb2⟩
  have hl5 : x.size ≤ 1048576 := by omega
  refine (szDeed_any k d a l x _ _ hl5 (by omega)).mono ?_
  rintro e w2 ⟨rfl, hb2⟩
  have hz2 : decide (((1048576 - x.size : Nat) : Int) < 0) = false := by simp
  have B2 : Hid (Below w.heap.size w w2) := bl_next HB.out hb2
  have E2 : Hid (Bx w2 w.heap.size 30 [.int .i64 k, .int .i64 d, .int .i64 a, .int .i64 l, .string x]) := HE.out.later hb2
  clear hb2 HB HE hl3
  have r0 := E2.out.cell 0
  have r1 := E2.out.cell 1
  have r2 := E2.out.cell 2
  have r3 := E2.out.cell 3
  have r4 := E2.out.cell 4
  go_wp2_with fail
  refine (toDeed_any k d a l x _).mono ?_
  rintro e w3 ⟨rfl, hb3⟩
  have B3 : Hid (Below w.heap.size w w3) := bl_next B2.out hb3
  have E3 : Hid (Bx w3 w.heap.size 30 [.int .i64 k, .int .i64 d, .int .i64 a, .int .i64 l, .string x]) := E2.out.later hb3
  clear r0 r1 r2 r3 r4
  clear hb3 B2 E2 hz2
  go_wp2_with fail
  refine (spDeedOk_any k d a l x _ hl5).mono ?_
  rintro e w4 ⟨rfl, hb4⟩
  rw [← HTB.out]
  have B4 : Hid (Below w.heap.size w w4) := bl_next B3.out hb4
  have E4 : Hid (Bx w4 w.heap.size 30 [.int .i64 k, .int .i64 d, .int .i64 a, .int .i64 l, .string x]) := E3.out.later hb4
  clear hb4 B3 E3
  have r0 := E4.out.cell 0
  have r1 := E4.out.cell 1
  have r2 := E4.out.cell 2
  have r3 := E4.out.cell 3
  have r4 := E4.out.cell 4
  go_wp2_with fail
  refine (toDeed_any k d a l x _).mono ?_
  rintro e w5 ⟨rfl, hb5⟩
  have B5 : Hid (Below w.heap.size w w5) := bl_next B4.out hb5
  clear r0 r1 r2 r3 r4
  clear hb5 B4 E4
  go_wp2_with fail
  refine (deedOk_any k d a l x _ hl5).mono ?_
  rintro e w6 ⟨rfl, hb6⟩
  rw [← HTB.out]
  have B6 : Hid (Below w.heap.size w w6) := bl_next B5.out hb6
  clear hb6 B5
  cases TB
  all_goals
    go_wp2_with fail
    go_ret
    exact ⟨rfl, B6.out⟩
end Go.Proofs.Ytoahljkifikbaaa


