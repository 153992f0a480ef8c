/- Joined texts: CT1 CT3 CIt CJ1. -/
import Derived.Test.YthdjkkiegecgnaaSq2
import Derived.Test.YthdjkkiegecgnaaSq3
import Derived.Test.YthdjkkiegecgnaaSq1
import Derived.Deep.RegionHeld3
import Derived.Deep.QuietTactic
import Derived.Laws.MakeOwn
import Derived.Below
/- The walks over both TokenOk. -/
namespace Go.Proofs.Ythdjkkiegecgnaa
open Go.RowKit Pl
set_option linter.unusedVariables false

theorem below_drewK {B : Nat} {a w : World} (h : Below B a w) (n : Nat) : Below B a (w.drewN n) := h.trans ⟨rfl, rfl, rfl, Nat.le_refl _, fun _ _ => rfl⟩

set_option maxRecDepth 100000 in
set_option maxHeartbeats 1000000 in
theorem wants_any (ao : Option Addr) (cap : Nat) (ws : List Int) (q : Int) (w : World) (hx : Hid (IntsAt w ao ws)) (hl : ws.length ≤ 1048576) :
    Calls Try.prog 125 #[.slice ao ws.length cap, .int .i64 q] w fun e w' => e = .returned (.bool (wB ws q)) ∧ w' = w := by
  unfold wB
  by_cases h20 : 20 < ws.length
  · have hd : decide ((ws.length : Int) ≤ 20) = false := by simp; omega
    rw [hd]
    go_enter Try.func125, Try.ntmps125
    go_wp2
    go_ret
    exact ⟨rfl, rfl⟩
  have hd : decide ((ws.length : Int) ≤ 20) = true := by simp; omega
  rw [hd, Bool.true_and]
  clear hd
  go_enter Try.func125, Try.ntmps125
  go_wp2
  go_loop [5, 13] (fun L i => ∃ (k : Nat) (l : Int), k ≤ ws.length ∧ L = .int .i64 l ∧ i = .int .i64 k ∧ Hid (WSt ws q k l)) (fun _ i => ws.length - (intOf i).toNat)
  case atStart => exact ⟨0, 0, Nat.zero_le _, rfl, rfl, wSt_start ws q⟩
  case round =>
    obtain ⟨k, l, hk, rfl, rfl, hst⟩ := hrel
    by_cases hlt : k < ws.length
    · obtain ⟨b, off, rfl, hbb, hc⟩ := hx.out k hlt
      obtain ⟨x, ht⟩ : ∃ x, x = ws[k] := ⟨_, rfl⟩
      rw [← ht] at hc
      have HT : Hid (x = ws[k]) := ht
      clear ht
      by_cases h1 : x ≤ l
      · go_wp2
        go_ret
        exact ⟨by rw [wSt_bad hst.out hlt HT.out (.inl h1)]; rfl, rfl⟩
      · by_cases h2 : q < x
        · go_wp2
          go_ret
          exact ⟨by rw [wSt_bad hst.out hlt HT.out (.inr h2)]; simp, rfl⟩
        · go_wp2
          go_round
          case rel => exact ⟨k + 1, x, by omega, rfl, by go_num, wSt_next hst.out hlt HT.out (by omega) (by omega)⟩
          case measure => simp [intOf]; omega
    · go_wp2
      go_ret
      exact ⟨by rw [wSt_end hst.out (by omega)]; rfl, rfl⟩

/-- the block g is a token. -/
def TokAt (w : World) (g : Nat) (c r q a b : Int) (v : Value) : Prop := w.heap[g]? = some (.cells #[.int .i64 c, .int .i64 r, .int .i64 q, .int .i64 a, .int .i64 b, v] 30 (0, 0))
theorem TokAt.cells {w : World} {g : Nat} {c r q a b : Int} {v : Value} (h : TokAt w g c r q a b v) : w.cell? ⟨g, 0, none⟩ = some (.int .i64 c) ∧ w.cell? ⟨g, 1, none⟩ = some (.int .i64 r) ∧ w.cell? ⟨g, 2, none⟩ = some (.int .i64 q) ∧ w.cell? ⟨g, 3, none⟩ = some (.int .i64 a) ∧ w.cell? ⟨g, 4, none⟩ = some (.int .i64 b) ∧ w.cell? ⟨g, 5, none⟩ = some v :=
  ⟨by rw [cell_of_row w g 0 _ 30 (0, 0) h]; rfl, by rw [cell_of_row w g 1 _ 30 (0, 0) h]; rfl, by rw [cell_of_row w g 2 _ 30 (0, 0) h]; rfl, by rw [cell_of_row w g 3 _ 30 (0, 0) h]; rfl, by rw [cell_of_row w g 4 _ 30 (0, 0) h]; rfl, by rw [cell_of_row w g 5 _ 30 (0, 0) h]; rfl⟩
theorem TokAt.stays {w w' : World} {B g : Nat} {c r q a b : Int} {v : Value} (h : TokAt w g c r q a b v) (hb : Below B w w') (hg : g < B) : TokAt w' g c r q a b v := (hb.block g hg).trans h
theorem TokAt.lt {w : World} {g : Nat} {c r q a b : Int} {v : Value} (h : TokAt w g c r q a b v) : g < w.heap.size := (Array.getElem?_eq_some_iff.1 h).1
theorem TokAt.frozen {w : World} {g : Nat} {c r q a b : Int} {v : Value} (h : TokAt w g c r q a b v) (i : Nat) : w.frozen? ⟨g, i, none⟩ = false := frozen_of_row w g i _ 30 h

set_option maxRecDepth 100000 in
set_option maxHeartbeats 1000000 in
theorem tokenOk_0 (c r q a b : Int) (ao : Option Addr) (cap : Nat) (ws : List Int) (w : World) (h1 : decide (1 ≤ c ∧ c ≤ 9) = false) :
    Calls Try.prog 62 #[.agg #[.int .i64 c, .int .i64 r, .int .i64 q, .int .i64 a, .int .i64 b, .slice ao ws.length cap]] w fun e w' => e = .returned (.bool false) ∧ Below w.heap.size w w' := by
  go_enter Try.func62, Try.ntmps62
  go_wp2_with fail
  refine (within_is _ h1).mono ?_
  rintro e w1 ⟨rfl, rfl⟩
  go_wp2_with fail
  go_ret
  exact ⟨rfl, (Below.refl _ _).alloc (Nat.le_refl _) _⟩

set_option maxRecDepth 100000 in
set_option maxHeartbeats 1000000 in
theorem tokenOk_1 (c r q a b : Int) (ao : Option Addr) (cap : Nat) (ws : List Int) (w : World) (h1 : decide (1 ≤ c ∧ c ≤ 9) = true) (h2 : decide (1 ≤ r ∧ r ≤ 1000000000) = false) :
    Calls Try.prog 62 #[.agg #[.int .i64 c, .int .i64 r, .int .i64 q, .int .i64 a, .int .i64 b, .slice ao ws.length cap]] w fun e w' => e = .returned (.bool false) ∧ Below w.heap.size w w' := by
  go_enter Try.func62, Try.ntmps62
  go_wp2_with fail
  refine (within_is _ h1).mono ?_
  rintro e w1 ⟨rfl, rfl⟩
  go_wp2_with fail
  refine (within_is _ h2).mono ?_
  rintro e w1 ⟨rfl, rfl⟩
  go_wp2_with fail
  go_ret
  exact ⟨rfl, (Below.refl _ _).alloc (Nat.le_refl _) _⟩

set_option maxRecDepth 100000 in
set_option maxHeartbeats 1000000 in
theorem tokenOk_2 (c r q a b : Int) (ao : Option Addr) (cap : Nat) (ws : List Int) (w : World) (h1 : decide (1 ≤ c ∧ c ≤ 9) = true) (h2 : decide (1 ≤ r ∧ r ≤ 1000000000) = true) (h3 : decide (0 ≤ q ∧ q ≤ 60) = false) :
    Calls Try.prog 62 #[.agg #[.int .i64 c, .int .i64 r, .int .i64 q, .int .i64 a, .int .i64 b, .slice ao ws.length cap]] w fun e w' => e = .returned (.bool false) ∧ Below w.heap.size w w' := by
  go_enter Try.func62, Try.ntmps62
  go_wp2_with fail
  refine (within_is _ h1).mono ?_
  rintro e w1 ⟨rfl, rfl⟩
  go_wp2_with fail
  refine (within_is _ h2).mono ?_
  rintro e w1 ⟨rfl, rfl⟩
  go_wp2_with fail
  refine (within_is _ h3).mono ?_
  rintro e w1 ⟨rfl, rfl⟩
  go_wp2_with fail
  go_ret
  exact ⟨rfl, (Below.refl _ _).alloc (Nat.le_refl _) _⟩

set_option maxRecDepth 100000 in
set_option maxHeartbeats 1000000 in
theorem tokenOk_3 (c r q a b : Int) (ao : Option Addr) (cap : Nat) (ws : List Int) (w : World) (h1 : decide (1 ≤ c ∧ c ≤ 9) = true) (h2 : decide (1 ≤ r ∧ r ≤ 1000000000) = true) (h3 : decide (0 ≤ q ∧ q ≤ 60) = true) (h4 : decide (0 ≤ a ∧ a ≤ q) = false) :
    Calls Try.prog 62 #[.agg #[.int .i64 c, .int .i64 r, .int .i64 q, .int .i64 a, .int .i64 b, .slice ao ws.length cap]] w fun e w' => e = .returned (.bool false) ∧ Below w.heap.size w w' := by
  go_enter Try.func62, Try.ntmps62
  go_wp2_with fail
  refine (within_is _ h1).mono ?_
  rintro e w1 ⟨rfl, rfl⟩
  go_wp2_with fail
  refine (within_is _ h2).mono ?_
  rintro e w1 ⟨rfl, rfl⟩
  go_wp2_with fail
  refine (within_is _ h3).mono ?_
  rintro e w1 ⟨rfl, rfl⟩
  go_wp2_with fail
  refine (within_is _ h4).mono ?_
  rintro e w1 ⟨rfl, rfl⟩
  go_wp2_with fail
  go_ret
  exact ⟨rfl, (Below.refl _ _).alloc (Nat.le_refl _) _⟩

set_option maxRecDepth 100000 in
set_option maxHeartbeats 1000000 in
theorem tokenOk_4 (c r q a b : Int) (ao : Option Addr) (cap : Nat) (ws : List Int) (w : World) (h1 : decide (1 ≤ c ∧ c ≤ 9) = true) (h2 : decide (1 ≤ r ∧ r ≤ 1000000000) = true) (h3 : decide (0 ≤ q ∧ q ≤ 60) = true) (h4 : decide (0 ≤ a ∧ a ≤ q) = true) (h5 : decide (0 ≤ b ∧ b ≤ 5) = false) :
    Calls Try.prog 62 #[.agg #[.int .i64 c, .int .i64 r, .int .i64 q, .int .i64 a, .int .i64 b, .slice ao ws.length cap]] w fun e w' => e = .returned (.bool false) ∧ Below w.heap.size w w' := by
  go_enter Try.func62, Try.ntmps62
  go_wp2_with fail
  refine (within_is _ h1).mono ?_
  rintro e w1 ⟨rfl, rfl⟩
  go_wp2_with fail
  refine (within_is _ h2).mono ?_
  rintro e w1 ⟨rfl, rfl⟩
  go_wp2_with fail
  refine (within_is _ h3).mono ?_
  rintro e w1 ⟨rfl, rfl⟩
  go_wp2_with fail
  refine (within_is _ h4).mono ?_
  rintro e w1 ⟨rfl, rfl⟩
  go_wp2_with fail
  refine (within_is _ h5).mono ?_
  rintro e w1 ⟨rfl, rfl⟩
  go_wp2_with fail
  go_ret
  exact ⟨rfl, (Below.refl _ _).alloc (Nat.le_refl _) _⟩

set_option maxRecDepth 100000 in
set_option maxHeartbeats 1000000 in
theorem tokenOk_5 (c r q a b : Int) (ao : Option Addr) (cap : Nat) (ws : List Int) (w : World) (hx : Hid (IntsAt w ao ws)) (hl : ws.length ≤ 1048576) (h1 : decide (1 ≤ c ∧ c ≤ 9) = true) (h2 : decide (1 ≤ r ∧ r ≤ 1000000000) = true) (h3 : decide (0 ≤ q ∧ q ≤ 60) = true) (h4 : decide (0 ≤ a ∧ a ≤ q) = true) (h5 : decide (0 ≤ b ∧ b ≤ 5) = true) :
    Calls Try.prog 62 #[.agg #[.int .i64 c, .int .i64 r, .int .i64 q, .int .i64 a, .int .i64 b, .slice ao ws.length cap]] w fun e w' => e = .returned (.bool (wB ws q)) ∧ Below w.heap.size w w' := by
  have HX : ∀ o, Hid (IntsAt (w.alloc o) ao ws) := fun o => hx.out.stays ((Below.refl _ _).alloc (Nat.le_refl _) _)
  go_enter Try.func62, Try.ntmps62
  go_wp2_with fail
  refine (within_is _ h1).mono ?_
  rintro e w1 ⟨rfl, rfl⟩
  go_wp2_with fail
  refine (within_is _ h2).mono ?_
  rintro e w1 ⟨rfl, rfl⟩
  go_wp2_with fail
  refine (within_is _ h3).mono ?_
  rintro e w1 ⟨rfl, rfl⟩
  go_wp2_with fail
  refine (within_is _ h4).mono ?_
  rintro e w1 ⟨rfl, rfl⟩
  go_wp2_with fail
  refine (within_is _ h5).mono ?_
  rintro e w1 ⟨rfl, rfl⟩
  go_wp2_with fail
  refine (wants_any ao cap ws q _ (HX _) hl).mono ?_
  rintro e w1 ⟨rfl, rfl⟩
  go_wp2_with fail
  go_ret
  exact ⟨rfl, (Below.refl _ _).alloc (Nat.le_refl _) _⟩

theorem tokenOk_any (c r q a b : Int) (ao : Option Addr) (cap : Nat) (ws : List Int) (w : World) (hx : Hid (IntsAt w ao ws)) (hl : ws.length ≤ 1048576) :
    Calls Try.prog 62 #[.agg #[.int .i64 c, .int .i64 r, .int .i64 q, .int .i64 a, .int .i64 b, .slice ao ws.length cap]] w fun e w' => e = .returned (.bool (tkB c r q a b ws)) ∧ Below w.heap.size w w' := by
  unfold tkB
  cases h1 : decide (1 ≤ c ∧ c ≤ 9) with
  | false => exact tokenOk_0 c r q a b ao cap ws w h1
  | true =>
    cases h2 : decide (1 ≤ r ∧ r ≤ 1000000000) with
    | false => exact tokenOk_1 c r q a b ao cap ws w h1 h2
    | true =>
      cases h3 : decide (0 ≤ q ∧ q ≤ 60) with
      | false => exact tokenOk_2 c r q a b ao cap ws w h1 h2 h3
      | true =>
        cases h4 : decide (0 ≤ a ∧ a ≤ q) with
        | false => exact tokenOk_3 c r q a b ao cap ws w h1 h2 h3 h4
        | true =>
          cases h5 : decide (0 ≤ b ∧ b ≤ 5) with
          | false => exact tokenOk_4 c r q a b ao cap ws w h1 h2 h3 h4 h5
          | true => exact tokenOk_5 c r q a b ao cap ws w hx hl h1 h2 h3 h4 h5

set_option maxRecDepth 100000 in
set_option maxHeartbeats 1000000 in
theorem spTokenOk_0 (c r q a b : Int) (ao : Option Addr) (cap : Nat) (ws : List Int) (w : World) (h1 : decide (1 ≤ c ∧ c ≤ 9) = false) :
    Calls Try.prog 120 #[.agg #[.int .i64 c, .int .i64 r, .int .i64 q, .int .i64 a, .int .i64 b, .slice ao ws.length cap]] w fun e w' => e = .returned (.bool false) ∧ Below w.heap.size w w' := by
  go_enter Try.func120, Try.ntmps120
  go_wp2_with fail
  refine (in_is _ h1).mono ?_
  rintro e w1 ⟨rfl, rfl⟩
  go_wp2_with fail
  go_ret
  exact ⟨rfl, (Below.refl _ _).alloc (Nat.le_refl _) _⟩

set_option maxRecDepth 100000 in
set_option maxHeartbeats 1000000 in
theorem spTokenOk_1 (c r q a b : Int) (ao : Option Addr) (cap : Nat) (ws : List Int) (w : World) (h1 : decide (1 ≤ c ∧ c ≤ 9) = true) (h2 : decide (1 ≤ r ∧ r ≤ 1000000000) = false) :
    Calls Try.prog 120 #[.agg #[.int .i64 c, .int .i64 r, .int .i64 q, .int .i64 a, .int .i64 b, .slice ao ws.length cap]] w fun e w' => e = .returned (.bool false) ∧ Below w.heap.size w w' := by
  go_enter Try.func120, Try.ntmps120
  go_wp2_with fail
  refine (in_is _ h1).mono ?_
  rintro e w1 ⟨rfl, rfl⟩
  go_wp2_with fail
  refine (in_is _ h2).mono ?_
  rintro e w1 ⟨rfl, rfl⟩
  go_wp2_with fail
  go_ret
  exact ⟨rfl, (Below.refl _ _).alloc (Nat.le_refl _) _⟩

set_option maxRecDepth 100000 in
set_option maxHeartbeats 1000000 in
theorem spTokenOk_2 (c r q a b : Int) (ao : Option Addr) (cap : Nat) (ws : List Int) (w : World) (h1 : decide (1 ≤ c ∧ c ≤ 9) = true) (h2 : decide (1 ≤ r ∧ r ≤ 1000000000) = true) (h3 : decide (0 ≤ q ∧ q ≤ 60) = false) :
    Calls Try.prog 120 #[.agg #[.int .i64 c, .int .i64 r, .int .i64 q, .int .i64 a, .int .i64 b, .slice ao ws.length cap]] w fun e w' => e = .returned (.bool false) ∧ Below w.heap.size w w' := by
  go_enter Try.func120, Try.ntmps120
  go_wp2_with fail
  refine (in_is _ h1).mono ?_
  rintro e w1 ⟨rfl, rfl⟩
  go_wp2_with fail
  refine (in_is _ h2).mono ?_
  rintro e w1 ⟨rfl, rfl⟩
  go_wp2_with fail
  refine (in_is _ h3).mono ?_
  rintro e w1 ⟨rfl, rfl⟩
  go_wp2_with fail
  go_ret
  exact ⟨rfl, (Below.refl _ _).alloc (Nat.le_refl _) _⟩

set_option maxRecDepth 100000 in
set_option maxHeartbeats 1000000 in
theorem spTokenOk_3 (c r q a b : Int) (ao : Option Addr) (cap : Nat) (ws : List Int) (w : World) (h1 : decide (1 ≤ c ∧ c ≤ 9) = true) (h2 : decide (1 ≤ r ∧ r ≤ 1000000000) = true) (h3 : decide (0 ≤ q ∧ q ≤ 60) = true) (h4 : decide (0 ≤ a ∧ a ≤ q) = false) :
    Calls Try.prog 120 #[.agg #[.int .i64 c, .int .i64 r, .int .i64 q, .int .i64 a, .int .i64 b, .slice ao ws.length cap]] w fun e w' => e = .returned (.bool false) ∧ Below w.heap.size w w' := by
  go_enter Try.func120, Try.ntmps120
  go_wp2_with fail
  refine (in_is _ h1).mono ?_
  rintro e w1 ⟨rfl, rfl⟩
  go_wp2_with fail
  refine (in_is _ h2).mono ?_
  rintro e w1 ⟨rfl, rfl⟩
  go_wp2_with fail
  refine (in_is _ h3).mono ?_
  rintro e w1 ⟨rfl, rfl⟩
  go_wp2_with fail
  refine (in_is _ h4).mono ?_
  rintro e w1 ⟨rfl, rfl⟩
  go_wp2_with fail
  go_ret
  exact ⟨rfl, (Below.refl _ _).alloc (Nat.le_refl _) _⟩

set_option maxRecDepth 100000 in
set_option maxHeartbeats 1000000 in
theorem spTokenOk_4 (c r q a b : Int) (ao : Option Addr) (cap : Nat) (ws : List Int) (w : World) (h1 : decide (1 ≤ c ∧ c ≤ 9) = true) (h2 : decide (1 ≤ r ∧ r ≤ 1000000000) = true) (h3 : decide (0 ≤ q ∧ q ≤ 60) = true) (h4 : decide (0 ≤ a ∧ a ≤ q) = true) (h5 : decide (0 ≤ b ∧ b ≤ 5) = false) :
    Calls Try.prog 120 #[.agg #[.int .i64 c, .int .i64 r, .int .i64 q, .int .i64 a, .int .i64 b, .slice ao ws.length cap]] w fun e w' => e = .returned (.bool false) ∧ Below w.heap.size w w' := by
  go_enter Try.func120, Try.ntmps120
  go_wp2_with fail
  refine (in_is _ h1).mono ?_
  rintro e w1 ⟨rfl, rfl⟩
  go_wp2_with fail
  refine (in_is _ h2).mono ?_
  rintro e w1 ⟨rfl, rfl⟩
  go_wp2_with fail
  refine (in_is _ h3).mono ?_
  rintro e w1 ⟨rfl, rfl⟩
  go_wp2_with fail
  refine (in_is _ h4).mono ?_
  rintro e w1 ⟨rfl, rfl⟩
  go_wp2_with fail
  refine (in_is _ h5).mono ?_
  rintro e w1 ⟨rfl, rfl⟩
  go_wp2_with fail
  go_ret
  exact ⟨rfl, (Below.refl _ _).alloc (Nat.le_refl _) _⟩

set_option maxRecDepth 100000 in
set_option maxHeartbeats 1000000 in
theorem spTokenOk_6 (c r q a b : Int) (ao : Option Addr) (cap : Nat) (ws : List Int) (w : World) (h20 : 20 < ws.length) (h1 : decide (1 ≤ c ∧ c ≤ 9) = true) (h2 : decide (1 ≤ r ∧ r ≤ 1000000000) = true) (h3 : decide (0 ≤ q ∧ q ≤ 60) = true) (h4 : decide (0 ≤ a ∧ a ≤ q) = true) (h5 : decide (0 ≤ b ∧ b ≤ 5) = true) :
    Calls Try.prog 120 #[.agg #[.int .i64 c, .int .i64 r, .int .i64 q, .int .i64 a, .int .i64 b, .slice ao ws.length cap]] w fun e w' => e = .returned (.bool false) ∧ Below w.heap.size w w' := by
  go_enter Try.func120, Try.ntmps120
  go_wp2_with fail
  refine (in_is _ h1).mono ?_
  rintro e w1 ⟨rfl, rfl⟩
  go_wp2_with fail
  refine (in_is _ h2).mono ?_
  rintro e w1 ⟨rfl, rfl⟩
  go_wp2_with fail
  refine (in_is _ h3).mono ?_
  rintro e w1 ⟨rfl, rfl⟩
  go_wp2_with fail
  refine (in_is _ h4).mono ?_
  rintro e w1 ⟨rfl, rfl⟩
  go_wp2_with fail
  refine (in_is _ h5).mono ?_
  rintro e w1 ⟨rfl, rfl⟩
  go_wp2_with fail
  go_ret
  exact ⟨rfl, (Below.refl _ _).alloc (Nat.le_refl _) _⟩

end Go.Proofs.Ythdjkkiegecgnaa


/- The walks over lists of ints and tokens that a law copies, sizes and compares. -/
namespace Go.Proofs.Ythdjkkiegecgnaa
open Go.RowKit Pl
set_option linter.unusedVariables false

theorem Try.info3' : (Try.prog.info? 3).map (fun i => (i.zero, i.size, i.bytes)) = some (some (.int .i64 0), 1, 8) := by kernel_rfl

theorem TokAt.set5 {w : World} {g : Nat} {c r q a b : Int} {v : Value} (h : TokAt w g c r q a b v) (u : Value) : TokAt (w.setCell ⟨g, 5, none⟩ u) g c r q a b u := by
  have := heap_setCell_same w g 5 _ 30 u h
  unfold TokAt; rw [this]; rfl
theorem TokAt.turn {w w' : World} {g k : Nat} {c r q a b : Int} {v : Value} (h : TokAt w g c r q a b v) (hk : TurnAt k w w') (hg : g ≠ k) : TokAt w' g c r q a b v := (hk.block g hg).trans h
theorem TokAt.agg {w : World} {g : Nat} {c r q a b : Int} {v : Value} (h : TokAt w g c r q a b v) (c' r' q' a' b' : Int) (v' : Value) :
    TokAt ((((((w.setCell ⟨g, 0, none⟩ (.int .i64 c')).setCell ⟨g, 1, none⟩ (.int .i64 r')).setCell ⟨g, 2, none⟩ (.int .i64 q')).setCell ⟨g, 3, none⟩ (.int .i64 a')).setCell ⟨g, 4, none⟩ (.int .i64 b')).setCell ⟨g, 5, none⟩ v') g c' r' q' a' b' v' := by
  have h0 := heap_setCell_same w g 0 _ 30 (.int .i64 c') h
  have h1 := heap_setCell_same _ g 1 _ 30 (.int .i64 r') h0
  have h2 := heap_setCell_same _ g 2 _ 30 (.int .i64 q') h1
  have h3 := heap_setCell_same _ g 3 _ 30 (.int .i64 a') h2
  have h4 := heap_setCell_same _ g 4 _ 30 (.int .i64 b') h3
  have h5 := heap_setCell_same _ g 5 _ 30 v' h4
  unfold TokAt; rw [h5]; rfl
/-- a list's block is no token's. -/
theorem own_tok {w w' : World} {B g : Nat} {v : Value} {xs : List Int} {c r q a b : Int} {u : Value} (h : OwnI w B v xs) (hu : TokAt w g c r q a b u) (ht : TurnAt g w w') : OwnI w' B v xs := by
  refine ⟨h.1, ?_⟩
  rcases h.2 with hn | ⟨k, cap, cur, rfl, hbg, hk, rest⟩
  · exact .inl hn
  · have hne : k ≠ g := by
      rintro rfl
      unfold TokAt at hu
      rw [hk] at hu
      simp at hu
    exact .inr ⟨k, cap, cur, rfl, hbg, (ht.block k hne).trans hk, rest⟩

/-- the block g is a token that was handed in. -/
def LtokAt (w : World) (g : Nat) (c r q a b : Int) (v : Value) : Prop := w.heap[g]? = some (.cells #[.int .i64 c, .int .i64 r, .int .i64 q, .int .i64 a, .int .i64 b, v] 179 (0, 0))
end Go.Proofs.Ythdjkkiegecgnaa


/- Items: when one is right, copied, measured, compared. -/
namespace Go.Proofs.Ythdjkkiegecgnaa.Pl
/-- when an item is right. -/
def ItOk (q f l : Int) (t : ByteArray) : Prop := (1 ≤ q ∧ q ≤ 60) ∧ (1 ≤ f ∧ f ≤ 5) ∧ (1 ≤ l ∧ l ≤ 2) ∧ t.size ≤ 60
end Go.Proofs.Ythdjkkiegecgnaa.Pl
namespace Go.Proofs.Ythdjkkiegecgnaa
open Go.RowKit Pl
set_option linter.unusedVariables false

/-- whether an item is right. -/
def itB (q f l : Int) (t : ByteArray) : Bool := decide (1 ≤ q ∧ q ≤ 60) && (decide (1 ≤ f ∧ f ≤ 5) && (decide (1 ≤ l ∧ l ≤ 2) && decide ((t.size : Int) ≤ 60)))
theorem itB_true {q f l : Int} {t : ByteArray} : itB q f l t = true ↔ ItOk q f l t := by
  unfold itB ItOk
  simp only [Bool.and_eq_true, decide_eq_true_eq]
  omega
set_option maxRecDepth 100000 in
set_option maxHeartbeats 1000000 in
theorem itemOk_0 (q f l : Int) (t : ByteArray) (w : World) (h1 : decide (1 ≤ q ∧ q ≤ 60) = false) :
    Calls Try.prog 122 #[.agg #[.int .i64 q, .int .i64 f, .int .i64 l, .string t]] w fun e w' => e = .returned (.bool (false)) ∧ Below w.heap.size w w' := by
  go_enter Try.func122, Try.ntmps122
  go_wp2_with fail
  refine (within_is _ h1).mono ?_
  rintro e w1 ⟨rfl, rfl⟩
  go_wp2_with fail
  go_ret
  exact ⟨rfl, (Below.refl _ _).alloc (Nat.le_refl _) _⟩
set_option maxRecDepth 100000 in
set_option maxHeartbeats 1000000 in
theorem itemOk_1 (q f l : Int) (t : ByteArray) (w : World) (h1 : decide (1 ≤ q ∧ q ≤ 60) = true) (h2 : decide (1 ≤ f ∧ f ≤ 5) = false) :
    Calls Try.prog 122 #[.agg #[.int .i64 q, .int .i64 f, .int .i64 l, .string t]] w fun e w' => e = .returned (.bool (false)) ∧ Below w.heap.size w w' := by
  go_enter Try.func122, Try.ntmps122
  go_wp2_with fail
  refine (within_is _ h1).mono ?_
  rintro e w1 ⟨rfl, rfl⟩
  go_wp2_with fail
  refine (within_is _ h2).mono ?_
  rintro e w1 ⟨rfl, rfl⟩
  go_wp2_with fail
  go_ret
  exact ⟨rfl, (Below.refl _ _).alloc (Nat.le_refl _) _⟩
set_option maxRecDepth 100000 in
set_option maxHeartbeats 1000000 in
theorem itemOk_2 (q f l : Int) (t : ByteArray) (w : World) (h1 : decide (1 ≤ q ∧ q ≤ 60) = true) (h2 : decide (1 ≤ f ∧ f ≤ 5) = true) (h3 : ¬ l = 1) (h4 : ¬ l = 2) :
    Calls Try.prog 122 #[.agg #[.int .i64 q, .int .i64 f, .int .i64 l, .string t]] w fun e w' => e = .returned (.bool (false)) ∧ Below w.heap.size w w' := by
  go_enter Try.func122, Try.ntmps122
  go_wp2_with fail
  refine (within_is _ h1).mono ?_
  rintro e w1 ⟨rfl, rfl⟩
  go_wp2_with fail
  refine (within_is _ h2).mono ?_
  rintro e w1 ⟨rfl, rfl⟩
  go_wp2_with fail
  go_ret
  exact ⟨rfl, (Below.refl _ _).alloc (Nat.le_refl _) _⟩
set_option maxRecDepth 100000 in
set_option maxHeartbeats 1000000 in
theorem itemOk_3 (q f l : Int) (t : ByteArray) (w : World) (h1 : decide (1 ≤ q ∧ q ≤ 60) = true) (h2 : decide (1 ≤ f ∧ f ≤ 5) = true) (h3 : l = 1) :
    Calls Try.prog 122 #[.agg #[.int .i64 q, .int .i64 f, .int .i64 l, .string t]] w fun e w' => e = .returned (.bool (decide ((t.size : Int) ≤ 60))) ∧ Below w.heap.size w w' := by
  go_enter Try.func122, Try.ntmps122
  go_wp2_with fail
  refine (within_is _ h1).mono ?_
  rintro e w1 ⟨rfl, rfl⟩
  go_wp2_with fail
  refine (within_is _ h2).mono ?_
  rintro e w1 ⟨rfl, rfl⟩
  go_wp2_with fail
  go_ret
  exact ⟨rfl, (Below.refl _ _).alloc (Nat.le_refl _) _⟩
set_option maxRecDepth 100000 in
set_option maxHeartbeats 1000000 in
theorem itemOk_4 (q f l : Int) (t : ByteArray) (w : World) (h1 : decide (1 ≤ q ∧ q ≤ 60) = true) (h2 : decide (1 ≤ f ∧ f ≤ 5) = true) (h3 : ¬ l = 1) (h4 : l = 2) :
    Calls Try.prog 122 #[.agg #[.int .i64 q, .int .i64 f, .int .i64 l, .string t]] w fun e w' => e = .returned (.bool (decide ((t.size : Int) ≤ 60))) ∧ Below w.heap.size w w' := by
  go_enter Try.func122, Try.ntmps122
  go_wp2_with fail
  refine (within_is _ h1).mono ?_
  rintro e w1 ⟨rfl, rfl⟩
  go_wp2_with fail
  refine (within_is _ h2).mono ?_
  rintro e w1 ⟨rfl, rfl⟩
  go_wp2_with fail
  go_ret
  exact ⟨rfl, (Below.refl _ _).alloc (Nat.le_refl _) _⟩

theorem itemOk_any (q f l : Int) (t : ByteArray) (w : World) :
    Calls Try.prog 122 #[.agg #[.int .i64 q, .int .i64 f, .int .i64 l, .string t]] w fun e w' => e = .returned (.bool (itB q f l t)) ∧ Below w.heap.size w w' := by
  unfold itB
  cases h1 : decide (1 ≤ q ∧ q ≤ 60) with
  | false => exact itemOk_0 q f l t w h1
  | true =>
    cases h2 : decide (1 ≤ f ∧ f ≤ 5) with
    | false => exact itemOk_1 q f l t w h1 h2
    | true =>
      by_cases h3 : l = 1
      · have h5 : decide (1 ≤ l ∧ l ≤ 2) = true := by simp; omega
        rw [h5]
        exact itemOk_3 q f l t w h1 h2 h3
      · by_cases h4 : l = 2
        · have h5 : decide (1 ≤ l ∧ l ≤ 2) = true := by simp; omega
          rw [h5]
          exact itemOk_4 q f l t w h1 h2 h3 h4
        · have h5 : decide (1 ≤ l ∧ l ≤ 2) = false := by simp; omega
          rw [h5]
          exact itemOk_2 q f l t w h1 h2 h3 h4
set_option maxRecDepth 100000 in
set_option maxHeartbeats 1000000 in
theorem spItemOk_0 (q f l : Int) (t : ByteArray) (w : World) (h1 : decide (1 ≤ q ∧ q ≤ 60) = false) :
    Calls Try.prog 157 #[.agg #[.int .i64 q, .int .i64 f, .int .i64 l, .string t]] w fun e w' => e = .returned (.bool (false)) ∧ Below w.heap.size w w' := by
  go_enter Try.func157, Try.ntmps157
  go_wp2_with fail
  refine (in_is _ h1).mono ?_
  rintro e w1 ⟨rfl, rfl⟩
  go_wp2_with fail
  go_ret
  exact ⟨rfl, (Below.refl _ _).alloc (Nat.le_refl _) _⟩
set_option maxRecDepth 100000 in
set_option maxHeartbeats 1000000 in
theorem spItemOk_1 (q f l : Int) (t : ByteArray) (w : World) (h1 : decide (1 ≤ q ∧ q ≤ 60) = true) (h2 : decide (1 ≤ f ∧ f ≤ 5) = false) :
    Calls Try.prog 157 #[.agg #[.int .i64 q, .int .i64 f, .int .i64 l, .string t]] w fun e w' => e = .returned (.bool (false)) ∧ Below w.heap.size w w' := by
  go_enter Try.func157, Try.ntmps157
  go_wp2_with fail
  refine (in_is _ h1).mono ?_
  rintro e w1 ⟨rfl, rfl⟩
  go_wp2_with fail
  refine (in_is _ h2).mono ?_
  rintro e w1 ⟨rfl, rfl⟩
  go_wp2_with fail
  go_ret
  exact ⟨rfl, (Below.refl _ _).alloc (Nat.le_refl _) _⟩
set_option maxRecDepth 100000 in
set_option maxHeartbeats 1000000 in
theorem spItemOk_2 (q f l : Int) (t : ByteArray) (w : World) (h1 : decide (1 ≤ q ∧ q ≤ 60) = true) (h2 : decide (1 ≤ f ∧ f ≤ 5) = true) (h3 : decide (1 ≤ l ∧ l ≤ 2) = false) :
    Calls Try.prog 157 #[.agg #[.int .i64 q, .int .i64 f, .int .i64 l, .string t]] w fun e w' => e = .returned (.bool (false)) ∧ Below w.heap.size w w' := by
  go_enter Try.func157, Try.ntmps157
  go_wp2_with fail
  refine (in_is _ h1).mono ?_
  rintro e w1 ⟨rfl, rfl⟩
  go_wp2_with fail
  refine (in_is _ h2).mono ?_
  rintro e w1 ⟨rfl, rfl⟩
  go_wp2_with fail
  refine (in_is _ h3).mono ?_
  rintro e w1 ⟨rfl, rfl⟩
  go_wp2_with fail
  go_ret
  exact ⟨rfl, (Below.refl _ _).alloc (Nat.le_refl _) _⟩
set_option maxRecDepth 100000 in
set_option maxHeartbeats 1000000 in
theorem spItemOk_3 (q f l : Int) (t : ByteArray) (w : World) (h1 : decide (1 ≤ q ∧ q ≤ 60) = true) (h2 : decide (1 ≤ f ∧ f ≤ 5) = true) (h3 : decide (1 ≤ l ∧ l ≤ 2) = true) :
    Calls Try.prog 157 #[.agg #[.int .i64 q, .int .i64 f, .int .i64 l, .string t]] w fun e w' => e = .returned (.bool (decide ((t.size : Int) ≤ 60))) ∧ Below w.heap.size w w' := by
  go_enter Try.func157, Try.ntmps157
  go_wp2_with fail
  refine (in_is _ h1).mono ?_
  rintro e w1 ⟨rfl, rfl⟩
  go_wp2_with fail
  refine (in_is _ h2).mono ?_
  rintro e w1 ⟨rfl, rfl⟩
  go_wp2_with fail
  refine (in_is _ h3).mono ?_
  rintro e w1 ⟨rfl, rfl⟩
  go_wp2_with fail
  go_ret
  exact ⟨rfl, (Below.refl _ _).alloc (Nat.le_refl _) _⟩

theorem spItemOk_any (q f l : Int) (t : ByteArray) (w : World) :
    Calls Try.prog 157 #[.agg #[.int .i64 q, .int .i64 f, .int .i64 l, .string t]] w fun e w' => e = .returned (.bool (itB q f l t)) ∧ Below w.heap.size w w' := by
  unfold itB
  cases h1 : decide (1 ≤ q ∧ q ≤ 60) with
  | false => exact spItemOk_0 q f l t w h1
  | true =>
    cases h2 : decide (1 ≤ f ∧ f ≤ 5) with
    | false => exact spItemOk_1 q f l t w h1 h2
    | true =>
      cases h3 : decide (1 ≤ l ∧ l ≤ 2) with
      | false => exact spItemOk_2 q f l t w h1 h2 h3
      | true => exact spItemOk_3 q f l t w h1 h2 h3

/-- the block g is an item that was handed in. -/
def LitAt (w : World) (g : Nat) (q f l : Int) (t : ByteArray) : Prop := w.heap[g]? = some (.cells #[.int .i64 q, .int .i64 f, .int .i64 l, .string t] 176 (0, 0))
/-- the block g is an item. -/
def ItAt (w : World) (g : Nat) (q f l : Int) (t : ByteArray) : Prop := w.heap[g]? = some (.cells #[.int .i64 q, .int .i64 f, .int .i64 l, .string t] 38 (0, 0))
theorem ItAt.cells {w : World} {g : Nat} {q f l : Int} {t : ByteArray} (h : ItAt w g q f l t) : w.cell? ⟨g, 0, none⟩ = some (.int .i64 q) ∧ w.cell? ⟨g, 1, none⟩ = some (.int .i64 f) ∧ w.cell? ⟨g, 2, none⟩ = some (.int .i64 l) ∧ w.cell? ⟨g, 3, none⟩ = some (.string t) :=
  ⟨by rw [cell_of_row w g 0 _ 38 (0, 0) h]; rfl, by rw [cell_of_row w g 1 _ 38 (0, 0) h]; rfl, by rw [cell_of_row w g 2 _ 38 (0, 0) h]; rfl, by rw [cell_of_row w g 3 _ 38 (0, 0) h]; rfl⟩
theorem ItAt.stays {w w' : World} {B g : Nat} {q f l : Int} {t : ByteArray} (h : ItAt w g q f l t) (hb : Below B w w') (hg : g < B) : ItAt w' g q f l t := (hb.block g hg).trans h
theorem ItAt.lt {w : World} {g : Nat} {q f l : Int} {t : ByteArray} (h : ItAt w g q f l t) : g < w.heap.size := (Array.getElem?_eq_some_iff.1 h).1

end Go.Proofs.Ythdjkkiegecgnaa


/- Lists of items: what lies where; the walk over the program's ItemsOk. -/
namespace Go.Proofs.Ythdjkkiegecgnaa
open Go.RowKit Pl
set_option linter.unusedVariables false

/-- an item, plain. -/
abbrev It := Int × Int × Int × ByteArray
/-- the items' cells of a slice. -/
def ItemsAt (w : World) (ao : Option Addr) (ts : List It) : Prop :=
  ∀ i (h : i < ts.length), ∃ b off, ao = some ⟨b, off, none⟩ ∧ b < w.heap.size ∧ w.cell? ⟨b, off + i * 4, none⟩ = some (.int .i64 ts[i].1) ∧ w.cell? ⟨b, off + i * 4 + 1, none⟩ = some (.int .i64 ts[i].2.1) ∧ w.cell? ⟨b, off + i * 4 + 2, none⟩ = some (.int .i64 ts[i].2.2.1) ∧ w.cell? ⟨b, off + i * 4 + 3, none⟩ = some (.string ts[i].2.2.2)
theorem ItemsAt.stays {w w' : World} {ao : Option Addr} {ts : List It} (h : ItemsAt w ao ts) (hb : Below w.heap.size w w') : ItemsAt w' ao ts := by
  intro i hi
  obtain ⟨b, off, h1, h2, h3, h4, h5, h6⟩ := h i hi
  exact ⟨b, off, h1, Nat.lt_of_lt_of_le h2 hb.size, (hb.cell (p := ⟨b, off + i * 4, none⟩) h2).trans h3, (hb.cell (p := ⟨b, off + i * 4 + 1, none⟩) h2).trans h4, (hb.cell (p := ⟨b, off + i * 4 + 2, none⟩) h2).trans h5, (hb.cell (p := ⟨b, off + i * 4 + 3, none⟩) h2).trans h6⟩

/-- whether items ascend from behind 'last', each right. -/
def iGo (last : Int) : List It → Bool
  | [] => true
  | x :: xs => if itB x.1 x.2.1 x.2.2.1 x.2.2.2 = false ∨ x.1 ≤ last then false else iGo x.1 xs
theorem iGo_step {L : Int} {x : It} {xs : List It} (h1 : itB x.1 x.2.1 x.2.2.1 x.2.2.2 = true) (h2 : L < x.1) : iGo L (x :: xs) = iGo x.1 xs := by
  rw [iGo, if_neg (by rw [h1]; simp; omega)]
theorem iGo_bad {L : Int} {x : It} {xs : List It} (h : itB x.1 x.2.1 x.2.2.1 x.2.2.2 = false ∨ x.1 ≤ L) : iGo L (x :: xs) = false := by
  rw [iGo, if_pos h]
/-- the state of a loop over items. -/
def ISt (ts : List It) (k : Nat) (L : Int) : Prop := iGo L (ts.drop k) = iGo 0 ts ∧ 0 ≤ L ∧ (k = 0 → L = 0) ∧ ∀ j (h : j < ts.length), k = j + 1 → L = ts[j].1
theorem iSt_start (ts : List It) : ISt ts 0 0 := ⟨rfl, by omega, fun _ => rfl, fun j _ h => by omega⟩
theorem iSt_next {ts : List It} {L : Int} {k : Nat} (h : ISt ts k L) (hk : k < ts.length) (h1 : itB ts[k].1 ts[k].2.1 ts[k].2.2.1 ts[k].2.2.2 = true) (h2 : L < ts[k].1) : ISt ts (k + 1) ts[k].1 := by
  obtain ⟨a, b, c, d⟩ := h
  refine ⟨?_, by omega, fun h => by omega, fun j hj e => ?_⟩
  · rw [← a, List.drop_eq_getElem_cons hk, iGo_step h1 h2]
  · obtain rfl : j = k := by omega
    rfl
theorem iSt_bad {ts : List It} {L : Int} {k : Nat} (h : ISt ts k L) (hk : k < ts.length) (h1 : itB ts[k].1 ts[k].2.1 ts[k].2.2.1 ts[k].2.2.2 = false ∨ ts[k].1 ≤ L) : iGo 0 ts = false := by
  rw [← h.1, List.drop_eq_getElem_cons hk, iGo_bad h1]
theorem iSt_end {ts : List It} {L : Int} {k : Nat} (h : ISt ts k L) (hk : ts.length ≤ k) : iGo 0 ts = true := by
  rw [← h.1, List.drop_eq_nil_of_le hk]; rfl

theorem itB_is {q f l : Int} {t : ByteArray} {b : Bool} (w : World) (h : itB q f l t = b) :
    Calls Try.prog 122 #[.agg #[.int .i64 q, .int .i64 f, .int .i64 l, .string t]] w fun e w' => e = .returned (.bool b) ∧ Below w.heap.size w w' := by rw [← h]; exact itemOk_any q f l t w
theorem spItB_is {q f l : Int} {t : ByteArray} {b : Bool} (w : World) (h : itB q f l t = b) :
    Calls Try.prog 157 #[.agg #[.int .i64 q, .int .i64 f, .int .i64 l, .string t]] w fun e w' => e = .returned (.bool b) ∧ Below w.heap.size w w' := by rw [← h]; exact spItemOk_any q f l t w

set_option maxRecDepth 100000 in
set_option maxHeartbeats 1000000 in
theorem itemsOk_any (ao : Option Addr) (cap : Nat) (ts : List It) (w : World) (hx : Hid (ItemsAt w ao ts)) (hl : ts.length ≤ 1048576) :
    Calls Try.prog 58 #[.slice ao ts.length cap] w fun e w' => e = .returned (.bool (iGo 0 ts)) ∧ Below w.heap.size w w' := by
  go_enter Try.func58, Try.ntmps58
  go_wp2
  go_loopw [3, 8] (fun L i wr => ∃ (k : Nat) (l : Int), k ≤ ts.length ∧ L = .int .i64 l ∧ i = .int .i64 k ∧ Hid (ISt ts k l) ∧ Below w.heap.size w wr) (fun _ i _ => ts.length - (intOf i).toNat)
  case atStart => exact ⟨0, 0, Nat.zero_le _, rfl, rfl, iSt_start ts, Below.refl _ _⟩
  case round =>
    obtain ⟨k, l, hk, rfl, rfl, hst, hb⟩ := hrel
    by_cases hlt : k < ts.length
    · obtain ⟨b, off, rfl, hbb, h0, h1, h2, h3⟩ := hx.out.stays hb k hlt
      have HP : Hid (∃ x : It, x = ts[k]) := ⟨_, rfl⟩
      obtain ⟨⟨q, f, lv, tx⟩, hp⟩ := HP.out
      rw [← hp] at h0 h1 h2 h3
      have HQ : Hid ((q, f, lv, tx) = ts[k]) := hp
      clear hp HP
      dsimp only at h0 h1 h2 h3
      have I0 : Hid (ItAt (wr.alloc (.cells #[.int .i64 q, .int .i64 f, .int .i64 lv, .string tx] 38)) wr.heap.size q f lv tx) := heap_alloc_new wr _
      have B0 : Hid (Below w.heap.size w (wr.alloc (.cells #[.int .i64 q, .int .i64 f, .int .i64 lv, .string tx] 38))) := hb.alloc hb.size _
      go_wp2_with fail
      generalize wr.alloc (.cells #[.int .i64 q, .int .i64 f, .int .i64 lv, .string tx] 38) = W0 at *
      clear h0 h1 h2 h3
      cases hit : itB q f lv tx with
      | false =>
        refine (itB_is _ hit).mono ?_
        rintro e w1 ⟨rfl, hb1⟩
        have hbad : iGo 0 ts = false := iSt_bad hst.out hlt (.inl (by rw [← HQ.out]; exact hit))
        have HBAD : Hid (iGo 0 ts = false) := hbad
        clear hbad hit
        go_wp2_with fail
        go_ret
        exact ⟨by rw [HBAD.out]; rfl, B0.out.trans (hb1.mono B0.out.size)⟩
      | true =>
        refine (itB_is _ hit).mono ?_
        rintro e w1 ⟨rfl, hb1⟩
        have I1 := I0.out.stays hb1 I0.out.lt
        have c0 := I1.cells.1
        have HIT : Hid (itB q f lv tx = true) := hit
        have B1 : Hid (Below w.heap.size w w1) := B0.out.trans (hb1.mono B0.out.size)
        clear hit hb1 I1 I0 B0
        by_cases hle : q ≤ l
        · have HBAD : Hid (iGo 0 ts = false) := iSt_bad hst.out hlt (.inr (by rw [← HQ.out]; exact hle))
          go_wp2_with fail
          go_ret
          exact ⟨by rw [HBAD.out]; rfl, B1.out⟩
        · have HN : Hid (ISt ts (k + 1) q) := by
            have := iSt_next hst.out hlt (by rw [← HQ.out]; exact HIT.out) (by rw [← HQ.out]; show l < q; omega)
            rw [← HQ.out] at this
            exact this
          go_wp2_with fail
          go_roundw
          case rel => exact ⟨k + 1, q, by omega, rfl, by go_num, HN.out, B1.out⟩
          case measure => simp [intOf]; omega
    · go_wp2_with fail
      go_ret
      exact ⟨by rw [iSt_end hst.out (by omega)]; rfl, hb⟩
end Go.Proofs.Ythdjkkiegecgnaa


