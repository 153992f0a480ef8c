/- follow: the first rule that is for the token. -/
import Derived.Test.YtnhnpneedcjcfaaMr
namespace Go.Proofs.Ytnhnpneedcjcfaa
open Go.RowKit Pl
set_option linter.unusedVariables false

/-- the block g is the two rules. -/
def RlAt (w : World) (g : Nat) (d u : Int) : Prop := w.heap[g]? = some (.cells #[.func (Fn.func 71) #[.agg #[.int .i64 d, .int .i64 u]] #[], .func (Fn.func 72) #[.agg #[.int .i64 d, .int .i64 u]] #[]] 104 (0, 0))
theorem RlAt.cells {w : World} {g : Nat} {d u : Int} (h : RlAt w g d u) : w.cell? ⟨g, 0, none⟩ = some (.func (Fn.func 71) #[.agg #[.int .i64 d, .int .i64 u]] #[]) ∧ w.cell? ⟨g, 1, none⟩ = some (.func (Fn.func 72) #[.agg #[.int .i64 d, .int .i64 u]] #[]) :=
  ⟨by rw [cell_of_row w g 0 _ 104 (0, 0) h]; rfl, by rw [cell_of_row w g 1 _ 104 (0, 0) h]; rfl⟩
theorem RlAt.lt {w : World} {g : Nat} {d u : Int} (h : RlAt w g d u) : g < w.heap.size := (Array.getElem?_eq_some_iff.1 h).1

theorem RlAt.keep {w w' : World} {g k : Nat} {d u : Int} (h : RlAt w g d u) (hk : KeepBut k w w') (hg : g ≠ k) : RlAt w' g d u := (hk.block g h.lt hg).trans h

/-- what a token's aru is when d has told it u; and who lowered it. -/
def aruM (q a b d u : Int) : Int := if u < a then u else if b = d then min u q else a
def byM (q a b d u : Int) : Int := if u < a then d else if b = d then (if min u q = q then 0 else b) else b

set_option maxRecDepth 100000 in
set_option maxHeartbeats 1000000 in
theorem follow_low (d u c r q a b : Int) (v : Value) (g G : Nat) (w : World) (h : Hid (TokAt w g c r q a b v)) (hr : Hid (RlAt w G d u)) (hu : u < a) :
    Calls Try.prog 70 #[.pointer (some ⟨g, 0, none⟩), .slice (some ⟨G, 0, none⟩) 2 2] w fun e w' => (∃ x, e = .returned x) ∧ TokAt w' g c r q u d v ∧ KeepBut g w w' := by
  obtain ⟨r0, r1⟩ := hr.out.cells
  go_enter Try.func70, Try.ntmps70
  go_wp2_with fail
  refine wp_loop_rounds 1 ?_
  rw [rounds_succ]
  go_wp2_with fail
  refine (lower_yes d u c r q a b v g w h hu).mono ?_
  rintro e w1 ⟨rfl, ht1, hk1⟩
  have T1 : Hid (TokAt w1 g c r q u d v) := ht1
  have K1 : Hid (KeepBut g w w1) := hk1
  clear ht1 hk1
  go_wp2_with fail
  refine bodyPost_ret (results_none rfl _ _ _) rfl ?_
  exact ⟨⟨_, rfl⟩, T1.out, K1.out⟩

set_option maxRecDepth 100000 in
set_option maxHeartbeats 1000000 in
theorem follow_up (d u c r q a b A' D' : Int) (hA : Hid (A' = min u q)) (hD : Hid (D' = if min u q = q then 0 else b)) (v : Value) (g G : Nat) (w : World) (h : Hid (TokAt w g c r q a b v)) (hr : Hid (RlAt w G d u)) (hu : a ≤ u) (hd : b = d) :
    Calls Try.prog 70 #[.pointer (some ⟨g, 0, none⟩), .slice (some ⟨G, 0, none⟩) 2 2] w fun e w' => (∃ x, e = .returned x) ∧ TokAt w' g c r q A' D' v ∧ KeepBut g w w' := by
  obtain ⟨r0, r1⟩ := hr.out.cells
  go_enter Try.func70, Try.ntmps70
  go_wp2_with fail
  refine wp_loop_rounds 2 ?_
  rw [rounds_succ]
  go_wp2_with fail
  refine (lower_no d u c r q a b v g w h hu).mono ?_
  rintro e w1 ⟨rfl, hb1⟩
  have T1 : Hid (TokAt w1 g c r q a b v) := h.out.stays hb1 h.out.lt
  have R1 : Hid (RlAt w1 G d u) := (hb1.block G hr.out.lt).trans hr.out
  have K1 : Hid (KeepBut g w w1) := keep_of_below hb1
  clear r0 r1 hb1
  obtain ⟨r0, r1⟩ := R1.out.cells
  go_wp2_with fail
  rw [rounds_succ]
  go_wp2_with fail
  refine (raise_yes d u c r q a b v g w1 T1 hd).mono ?_
  rintro e w2 ⟨rfl, ht2, hk2⟩
  rw [← hD.out, ← hA.out] at ht2
  have T2 : Hid (TokAt w2 g c r q A' D' v) := ht2
  have K2 : Hid (KeepBut g w w2) := K1.out.trans hk2
  clear ht2 hk2 r0 r1
  go_wp2_with fail
  refine bodyPost_ret (results_none rfl _ _ _) rfl ?_
  exact ⟨⟨_, rfl⟩, T2.out, K2.out⟩

set_option maxRecDepth 100000 in
set_option maxHeartbeats 1000000 in
theorem follow_no (d u c r q a b : Int) (v : Value) (g G : Nat) (w : World) (h : Hid (TokAt w g c r q a b v)) (hr : Hid (RlAt w G d u)) (hu : a ≤ u) (hd : ¬ b = d) :
    Calls Try.prog 70 #[.pointer (some ⟨g, 0, none⟩), .slice (some ⟨G, 0, none⟩) 2 2] w fun e w' => (∃ x, e = .returned x) ∧ TokAt w' g c r q a b v ∧ KeepBut g w w' := by
  obtain ⟨r0, r1⟩ := hr.out.cells
  go_enter Try.func70, Try.ntmps70
  go_wp2_with fail
  refine wp_loop_rounds 3 ?_
  rw [rounds_succ]
  go_wp2_with fail
  refine (lower_no d u c r q a b v g w h hu).mono ?_
  rintro e w1 ⟨rfl, hb1⟩
  have T1 : Hid (TokAt w1 g c r q a b v) := h.out.stays hb1 h.out.lt
  have R1 : Hid (RlAt w1 G d u) := (hb1.block G hr.out.lt).trans hr.out
  have K1 : Hid (KeepBut g w w1) := keep_of_below hb1
  clear r0 r1 hb1
  obtain ⟨r0, r1⟩ := R1.out.cells
  go_wp2_with fail
  rw [rounds_succ]
  go_wp2_with fail
  refine (raise_no d u c r q a b v g w1 T1 hd).mono ?_
  rintro e w2 ⟨rfl, hb2⟩
  have T2 : Hid (TokAt w2 g c r q a b v) := T1.out.stays hb2 T1.out.lt
  have K2 : Hid (KeepBut g w w2) := K1.out.trans (keep_of_below hb2)
  clear hb2 r0 r1
  go_wp2_with fail
  rw [rounds_succ]
  go_wp2_with fail
  go_end0
  exact ⟨⟨_, rfl⟩, T2.out, K2.out⟩

theorem follow_any (d u c r q a b : Int) (v : Value) (g G : Nat) (w : World) (h : Hid (TokAt w g c r q a b v)) (hr : Hid (RlAt w G d u)) :
    Calls Try.prog 70 #[.pointer (some ⟨g, 0, none⟩), .slice (some ⟨G, 0, none⟩) 2 2] w fun e w' => (∃ x, e = .returned x) ∧ TokAt w' g c r q (aruM q a b d u) (byM q a b d u) v ∧ KeepBut g w w' := by
  unfold aruM byM
  by_cases h1 : u < a
  · rw [if_pos h1, if_pos h1]; exact follow_low d u c r q a b v g G w h hr h1
  · rw [if_neg h1, if_neg h1]
    by_cases h2 : b = d
    · rw [if_pos h2, if_pos h2]; exact follow_up d u c r q a b _ _ rfl rfl v g G w h hr (by omega) h2
    · rw [if_neg h2, if_neg h2]; exact follow_no d u c r q a b v g G w h hr (by omega) h2
end Go.Proofs.Ytnhnpneedcjcfaa
