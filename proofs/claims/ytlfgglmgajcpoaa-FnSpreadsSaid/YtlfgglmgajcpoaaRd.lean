/- Roads: what is right in plain words, and what lies where. -/
import Derived.Test.YtlfgglmgajcpoaaWn
import Derived.Test.YtlfgglmgajcpoaaDj
import Derived.Below
namespace Go.Proofs.Ytlfgglmgajcpoaa
open Go.RowKit Pl
set_option linter.unusedVariables false

/-- a road fits n sites. -/
abbrev fitP (n : Int) (r : Rd) : Prop := (0 ≤ r.a ∧ r.a ≤ n - 1) ∧ (0 ≤ r.b ∧ r.b ≤ n - 1) ∧ r.a < r.b ∧ 1 ≤ r.c ∧ r.c ≤ 100
/-- a road is ahead of the next one. -/
abbrev ahP (p r : Rd) : Prop := p.a < r.a ∨ p.a = r.a ∧ p.b < r.b
/-- the road at k is right beside the one ahead of it. -/
def oneP (n : Int) (ts : List Rd) (k : Nat) : Prop := ∃ h : k < ts.length, fitP n ts[k] ∧ ∀ j (hj : j < ts.length), k = j + 1 → ahP ts[j] ts[k]
def RoadsP (n : Int) (ts : List Rd) : Prop := 1 ≤ n ∧ n ≤ 6 ∧ ts.length ≤ 12 ∧ ∀ k, k < ts.length → oneP n ts k
/-- the same, as a test. -/
def oneB (n : Int) (ts : List Rd) (k : Nat) : Bool := (ts[k]?).elim false fun r => decide (fitP n r) && (k == 0 || (ts[k - 1]?).elim false fun p => decide (ahP p r))
theorem oneB_iff {n : Int} {ts : List Rd} {k : Nat} (hk : k < ts.length) : oneB n ts k = true ↔ oneP n ts k := by
  unfold oneB oneP
  rw [List.getElem?_eq_getElem hk]
  simp only [Option.elim_some, Bool.and_eq_true, decide_eq_true_eq, Bool.or_eq_true, beq_iff_eq]
  constructor
  · rintro ⟨h1, h2⟩
    refine ⟨hk, h1, fun j hj e => ?_⟩
    subst e
    rcases h2 with h2 | h2
    · omega
    · rw [show j + 1 - 1 = j by omega, List.getElem?_eq_getElem hj] at h2
      simpa using h2
  · rintro ⟨_, h1, h2⟩
    refine ⟨h1, ?_⟩
    by_cases h0 : k = 0
    · exact .inl h0
    · right
      rw [List.getElem?_eq_getElem (show k - 1 < ts.length by omega)]
      simpa using h2 (k - 1) (by omega) (by omega)
def roadsB (n : Int) (ts : List Rd) : Bool := decide (1 ≤ n) && (decide (n ≤ 6) && (decide (ts.length ≤ 12) && (List.range ts.length).all (oneB n ts)))
theorem roadsB_iff {n : Int} {ts : List Rd} : roadsB n ts = true ↔ RoadsP n ts := by
  unfold roadsB RoadsP
  simp only [Bool.and_eq_true, decide_eq_true_eq, List.all_eq_true, List.mem_range]
  constructor
  · rintro ⟨h1, h2, h3, h4⟩
    exact ⟨h1, h2, h3, fun k hk => (oneB_iff hk).1 (h4 k hk)⟩
  · rintro ⟨h1, h2, h3, h4⟩
    exact ⟨h1, h2, h3, fun k hk => (oneB_iff hk).2 (h4 k hk)⟩
theorem roadsB_true {n : Int} {ts : List Rd} (h : RoadsP n ts) : roadsB n ts = true := roadsB_iff.2 h
theorem roadsB_false {n : Int} {ts : List Rd} (h : ¬ RoadsP n ts) : roadsB n ts = false := by
  cases e : roadsB n ts with
  | false => rfl
  | true => exact absurd (roadsB_iff.1 e) h

theorem RoadsP.fits {n : Int} {ts : List Rd} (h : RoadsP n ts) : Fits n ts := by
  intro r hr
  obtain ⟨i, hi, rfl⟩ := List.mem_iff_getElem.1 hr
  obtain ⟨_, hf, _⟩ := h.2.2.2 i hi
  unfold fitP at hf
  omega

/-- the roads' cells of a slice. -/
def RoadsAt (w : World) (ao : Option Addr) (ts : List Rd) : Prop :=
  ∀ i (h : i < ts.length), ∃ b off, ao = some ⟨b, off, none⟩ ∧ b < w.heap.size ∧ w.cell? ⟨b, off + i * 3, none⟩ = some (.int .i64 ts[i].a) ∧ w.cell? ⟨b, off + i * 3 + 1, none⟩ = some (.int .i64 ts[i].b) ∧ w.cell? ⟨b, off + i * 3 + 2, none⟩ = some (.int .i64 ts[i].c)
theorem RoadsAt.stays {w w' : World} {ao : Option Addr} {ts : List Rd} (h : RoadsAt w ao ts) (hb : Below w.heap.size w w') : RoadsAt w' ao ts := by
  intro i hi
  obtain ⟨b, off, h1, h2, h3, h4, h5⟩ := h i hi
  exact ⟨b, off, h1, Nat.lt_of_lt_of_le h2 hb.size, (hb.cell (p := ⟨b, off + i * 3, none⟩) h2).trans h3, (hb.cell (p := ⟨b, off + i * 3 + 1, none⟩) h2).trans h4, (hb.cell (p := ⟨b, off + i * 3 + 2, none⟩) h2).trans h5⟩

/-- a road in a box of its own. -/
def BoxRd (w : World) (g : Nat) (x : Rd) : Prop := w.heap[g]? = some (.cells #[.int .i64 x.a, .int .i64 x.b, .int .i64 x.c] 31 (0, 0))
theorem BoxRd.cells {w : World} {g : Nat} {x : Rd} (h : BoxRd w g x) : w.cell? ⟨g, 0, none⟩ = some (.int .i64 x.a) ∧ w.cell? ⟨g, 1, none⟩ = some (.int .i64 x.b) ∧ w.cell? ⟨g, 2, none⟩ = some (.int .i64 x.c) := by
  refine ⟨?_, ?_, ?_⟩ <;> (rw [cell_of_row w g _ _ 31 (0, 0) h]; rfl)
theorem BoxRd.lt {w : World} {g : Nat} {x : Rd} (h : BoxRd w g x) : g < w.heap.size := (Array.getElem?_eq_some_iff.1 h).1
theorem BoxRd.stays {w w' : World} {B g : Nat} {x : Rd} (h : BoxRd w g x) (hb : Below B w w') (hg : g < B) : BoxRd w' g x := (hb.block g hg).trans h

set_option maxRecDepth 100000 in
set_option maxHeartbeats 1000000 in
theorem fits_any (n a b c : Int) (w : World) (hn : 1 ≤ n ∧ n ≤ 6) : Calls Try.prog 43 #[.agg #[.int .i64 a, .int .i64 b, .int .i64 c], .int .i64 n] w fun e w' => e = .returned (.bool (decide (fitP n ⟨a, b, c⟩))) ∧ Below w.heap.size w w' := by
  have hw1 : IntKind.i64.wrap (n - 1) = n - 1 := by rw [IntKind.wrap_i64]; omega
  have B0 : Below w.heap.size w (w.alloc (.cells #[.int .i64 a, .int .i64 b, .int .i64 c] 31)) := (Below.refl _ _).alloc (Nat.le_refl _) _
  by_cases h1 : 0 ≤ a ∧ a ≤ n - 1
  · by_cases h2 : 0 ≤ b ∧ b ≤ n - 1
    · by_cases h3 : a < b
      · have hd : decide (fitP n ⟨a, b, c⟩) = decide (1 ≤ c ∧ c ≤ 100) := by simp only [fitP]; congr 1; simp only [eq_iff_iff]; constructor <;> (intro h; omega)
        rw [hd]
        go_enter Try.func43, Try.ntmps43
        go_wp2_with (go_at_call 37; refine (within_any _ _ _ _).mono ?_; rintro e w' ⟨rfl, rfl⟩)
        go_ret
        exact ⟨by show Ending.returned (.bool (decide (1 ≤ c) && decide (c ≤ 100))) = _; rw [Bool.decide_and], B0⟩
      · have hd : decide (fitP n ⟨a, b, c⟩) = false := decide_eq_false (by unfold fitP; simp only; omega)
        rw [hd]
        go_enter Try.func43, Try.ntmps43
        go_wp2_with (go_at_call 37; refine (within_any _ _ _ _).mono ?_; rintro e w' ⟨rfl, rfl⟩)
        go_ret
        exact ⟨rfl, B0⟩
    · have hd : decide (fitP n ⟨a, b, c⟩) = false := decide_eq_false (by unfold fitP; simp only; omega)
      rw [hd]
      go_enter Try.func43, Try.ntmps43
      go_wp2_with (go_at_call 37; refine (within_any _ _ _ _).mono ?_; rintro e w' ⟨rfl, rfl⟩)
      go_ret
      exact ⟨rfl, B0⟩
  · have hd : decide (fitP n ⟨a, b, c⟩) = false := decide_eq_false (by unfold fitP; simp only; omega)
    rw [hd]
    go_enter Try.func43, Try.ntmps43
    go_wp2_with (go_at_call 37; refine (within_any _ _ _ _).mono ?_; rintro e w' ⟨rfl, rfl⟩)
    go_ret
    exact ⟨rfl, B0⟩

set_option maxRecDepth 100000 in
set_option maxHeartbeats 1000000 in
theorem ahead_any (a b c a2 b2 c2 : Int) (w : World) : Calls Try.prog 44 #[.agg #[.int .i64 a, .int .i64 b, .int .i64 c], .agg #[.int .i64 a2, .int .i64 b2, .int .i64 c2]] w fun e w' => e = .returned (.bool (decide (ahP ⟨a, b, c⟩ ⟨a2, b2, c2⟩))) ∧ Below w.heap.size w w' := by
  have B0 : Below w.heap.size w ((w.alloc (.cells #[.int .i64 a, .int .i64 b, .int .i64 c] 31)).alloc (.cells #[.int .i64 a2, .int .i64 b2, .int .i64 c2] 31)) := ((Below.refl _ _).alloc (Nat.le_refl _) _).alloc (by simp) _
  by_cases h1 : a < a2
  · have hd : decide (ahP ⟨a, b, c⟩ ⟨a2, b2, c2⟩) = true := decide_eq_true (by unfold ahP; simp only; omega)
    rw [hd]
    go_enter Try.func44, Try.ntmps44
    go_wp2
    go_ret
    exact ⟨rfl, B0⟩
  · by_cases h2 : a = a2
    · subst h2
      by_cases h3 : b < b2
      · have hd : decide (ahP ⟨a, b, c⟩ ⟨a, b2, c2⟩) = true := decide_eq_true (Or.inr ⟨rfl, h3⟩)
        rw [hd]
        go_enter Try.func44, Try.ntmps44
        go_wp2
        go_ret
        exact ⟨rfl, B0⟩
      · have hd : decide (ahP ⟨a, b, c⟩ ⟨a, b2, c2⟩) = false := decide_eq_false (by unfold ahP; simp only; omega)
        rw [hd]
        go_enter Try.func44, Try.ntmps44
        go_wp2
        go_ret
        exact ⟨rfl, B0⟩
    · have hd : decide (ahP ⟨a, b, c⟩ ⟨a2, b2, c2⟩) = false := decide_eq_false (by unfold ahP; simp only; omega)
      rw [hd]
      go_enter Try.func44, Try.ntmps44
      go_wp2
      go_ret
      exact ⟨rfl, B0⟩
theorem fits_is {n a b c : Int} {v : Bool} (w : World) (hn : 1 ≤ n ∧ n ≤ 6) (h : decide (fitP n ⟨a, b, c⟩) = v) : Calls Try.prog 43 #[.agg #[.int .i64 a, .int .i64 b, .int .i64 c], .int .i64 n] w fun e w' => e = .returned (.bool v) ∧ Below w.heap.size w w' := by rw [← h]; exact fits_any n a b c w hn
theorem ahead_is {a b c a2 b2 c2 : Int} {v : Bool} (w : World) (h : decide (ahP ⟨a, b, c⟩ ⟨a2, b2, c2⟩) = v) : Calls Try.prog 44 #[.agg #[.int .i64 a, .int .i64 b, .int .i64 c], .agg #[.int .i64 a2, .int .i64 b2, .int .i64 c2]] w fun e w' => e = .returned (.bool v) ∧ Below w.heap.size w w' := by rw [← h]; exact ahead_any a b c a2 b2 c2 w
end Go.Proofs.Ytlfgglmgajcpoaa
