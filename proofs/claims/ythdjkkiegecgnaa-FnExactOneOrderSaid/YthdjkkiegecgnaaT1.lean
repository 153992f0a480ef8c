/- The walks over both TokenOk. -/
import Derived.Test.YthdjkkiegecgnaaWn
import Derived.Test.YthdjkkiegecgnaaTk
import Derived.Test.YthdjkkiegecgnaaOwI
import Derived.Deep.RegionHeld3
import Derived.Deep.QuietTactic
namespace Go.Proofs.Ythdjkkiegecgnaa
open Go.RowKit Pl
set_option linter.unusedVariables false

theorem below_drewK {B : Nat} {a w : World} (h : Below B a w) (n : Nat) : Below B a (w.drewN n) := h.trans ⟨rfl, rfl, rfl, Nat.le_refl _, fun _ _ => rfl⟩

set_option maxRecDepth 100000 in
set_option maxHeartbeats 1000000 in
theorem wants_any (ao : Option Addr) (cap : Nat) (ws : List Int) (q : Int) (w : World) (hx : Hid (IntsAt w ao ws)) (hl : ws.length ≤ 1048576) :
    Calls Try.prog 125 #[.slice ao ws.length cap, .int .i64 q] w fun e w' => e = .returned (.bool (wB ws q)) ∧ w' = w := by
  unfold wB
  by_cases h20 : 20 < ws.length
  · have hd : decide ((ws.length : Int) ≤ 20) = false := by simp; omega
    rw [hd]
    go_enter Try.func125, Try.ntmps125
    go_wp2
    go_ret
    exact ⟨rfl, rfl⟩
  have hd : decide ((ws.length : Int) ≤ 20) = true := by simp; omega
  rw [hd, Bool.true_and]
  clear hd
  go_enter Try.func125, Try.ntmps125
  go_wp2
  go_loop [5, 13] (fun L i => ∃ (k : Nat) (l : Int), k ≤ ws.length ∧ L = .int .i64 l ∧ i = .int .i64 k ∧ Hid (WSt ws q k l)) (fun _ i => ws.length - (intOf i).toNat)
  case atStart => exact ⟨0, 0, Nat.zero_le _, rfl, rfl, wSt_start ws q⟩
  case round =>
    obtain ⟨k, l, hk, rfl, rfl, hst⟩ := hrel
    by_cases hlt : k < ws.length
    · obtain ⟨b, off, rfl, hbb, hc⟩ := hx.out k hlt
      obtain ⟨x, ht⟩ : ∃ x, x = ws[k] := ⟨_, rfl⟩
      rw [← ht] at hc
      have HT : Hid (x = ws[k]) := ht
      clear ht
      by_cases h1 : x ≤ l
      · go_wp2
        go_ret
        exact ⟨by rw [wSt_bad hst.out hlt HT.out (.inl h1)]; rfl, rfl⟩
      · by_cases h2 : q < x
        · go_wp2
          go_ret
          exact ⟨by rw [wSt_bad hst.out hlt HT.out (.inr h2)]; simp, rfl⟩
        · go_wp2
          go_round
          case rel => exact ⟨k + 1, x, by omega, rfl, by go_num, wSt_next hst.out hlt HT.out (by omega) (by omega)⟩
          case measure => simp [intOf]; omega
    · go_wp2
      go_ret
      exact ⟨by rw [wSt_end hst.out (by omega)]; rfl, rfl⟩

/-- the block g is a token. -/
def TokAt (w : World) (g : Nat) (c r q a b : Int) (v : Value) : Prop := w.heap[g]? = some (.cells #[.int .i64 c, .int .i64 r, .int .i64 q, .int .i64 a, .int .i64 b, v] 30 (0, 0))
theorem TokAt.cells {w : World} {g : Nat} {c r q a b : Int} {v : Value} (h : TokAt w g c r q a b v) : w.cell? ⟨g, 0, none⟩ = some (.int .i64 c) ∧ w.cell? ⟨g, 1, none⟩ = some (.int .i64 r) ∧ w.cell? ⟨g, 2, none⟩ = some (.int .i64 q) ∧ w.cell? ⟨g, 3, none⟩ = some (.int .i64 a) ∧ w.cell? ⟨g, 4, none⟩ = some (.int .i64 b) ∧ w.cell? ⟨g, 5, none⟩ = some v :=
  ⟨by rw [cell_of_row w g 0 _ 30 (0, 0) h]; rfl, by rw [cell_of_row w g 1 _ 30 (0, 0) h]; rfl, by rw [cell_of_row w g 2 _ 30 (0, 0) h]; rfl, by rw [cell_of_row w g 3 _ 30 (0, 0) h]; rfl, by rw [cell_of_row w g 4 _ 30 (0, 0) h]; rfl, by rw [cell_of_row w g 5 _ 30 (0, 0) h]; rfl⟩
theorem TokAt.stays {w w' : World} {B g : Nat} {c r q a b : Int} {v : Value} (h : TokAt w g c r q a b v) (hb : Below B w w') (hg : g < B) : TokAt w' g c r q a b v := (hb.block g hg).trans h
theorem TokAt.lt {w : World} {g : Nat} {c r q a b : Int} {v : Value} (h : TokAt w g c r q a b v) : g < w.heap.size := (Array.getElem?_eq_some_iff.1 h).1
theorem TokAt.frozen {w : World} {g : Nat} {c r q a b : Int} {v : Value} (h : TokAt w g c r q a b v) (i : Nat) : w.frozen? ⟨g, i, none⟩ = false := frozen_of_row w g i _ 30 h

set_option maxRecDepth 100000 in
set_option maxHeartbeats 1000000 in
theorem tokenOk_0 (c r q a b : Int) (ao : Option Addr) (cap : Nat) (ws : List Int) (w : World) (h1 : decide (1 ≤ c ∧ c ≤ 9) = false) :
    Calls Try.prog 62 #[.agg #[.int .i64 c, .int .i64 r, .int .i64 q, .int .i64 a, .int .i64 b, .slice ao ws.length cap]] w fun e w' => e = .returned (.bool false) ∧ Below w.heap.size w w' := by
  go_enter Try.func62, Try.ntmps62
  go_wp2_with fail
  refine (within_is _ h1).mono ?_
  rintro e w1 ⟨rfl, rfl⟩
  go_wp2_with fail
  go_ret
  exact ⟨rfl, (Below.refl _ _).alloc (Nat.le_refl _) _⟩

set_option maxRecDepth 100000 in
set_option maxHeartbeats 1000000 in
theorem tokenOk_1 (c r q a b : Int) (ao : Option Addr) (cap : Nat) (ws : List Int) (w : World) (h1 : decide (1 ≤ c ∧ c ≤ 9) = true) (h2 : decide (1 ≤ r ∧ r ≤ 1000000000) = false) :
    Calls Try.prog 62 #[.agg #[.int .i64 c, .int .i64 r, .int .i64 q, .int .i64 a, .int .i64 b, .slice ao ws.length cap]] w fun e w' => e = .returned (.bool false) ∧ Below w.heap.size w w' := by
  go_enter Try.func62, Try.ntmps62
  go_wp2_with fail
  refine (within_is _ h1).mono ?_
  rintro e w1 ⟨rfl, rfl⟩
  go_wp2_with fail
  refine (within_is _ h2).mono ?_
  rintro e w1 ⟨rfl, rfl⟩
  go_wp2_with fail
  go_ret
  exact ⟨rfl, (Below.refl _ _).alloc (Nat.le_refl _) _⟩

set_option maxRecDepth 100000 in
set_option maxHeartbeats 1000000 in
theorem tokenOk_2 (c r q a b : Int) (ao : Option Addr) (cap : Nat) (ws : List Int) (w : World) (h1 : decide (1 ≤ c ∧ c ≤ 9) = true) (h2 : decide (1 ≤ r ∧ r ≤ 1000000000) = true) (h3 : decide (0 ≤ q ∧ q ≤ 60) = false) :
    Calls Try.prog 62 #[.agg #[.int .i64 c, .int .i64 r, .int .i64 q, .int .i64 a, .int .i64 b, .slice ao ws.length cap]] w fun e w' => e = .returned (.bool false) ∧ Below w.heap.size w w' := by
  go_enter Try.func62, Try.ntmps62
  go_wp2_with fail
  refine (within_is _ h1).mono ?_
  rintro e w1 ⟨rfl, rfl⟩
  go_wp2_with fail
  refine (within_is _ h2).mono ?_
  rintro e w1 ⟨rfl, rfl⟩
  go_wp2_with fail
  refine (within_is _ h3).mono ?_
  rintro e w1 ⟨rfl, rfl⟩
  go_wp2_with fail
  go_ret
  exact ⟨rfl, (Below.refl _ _).alloc (Nat.le_refl _) _⟩

set_option maxRecDepth 100000 in
set_option maxHeartbeats 1000000 in
theorem tokenOk_3 (c r q a b : Int) (ao : Option Addr) (cap : Nat) (ws : List Int) (w : World) (h1 : decide (1 ≤ c ∧ c ≤ 9) = true) (h2 : decide (1 ≤ r ∧ r ≤ 1000000000) = true) (h3 : decide (0 ≤ q ∧ q ≤ 60) = true) (h4 : decide (0 ≤ a ∧ a ≤ q) = false) :
    Calls Try.prog 62 #[.agg #[.int .i64 c, .int .i64 r, .int .i64 q, .int .i64 a, .int .i64 b, .slice ao ws.length cap]] w fun e w' => e = .returned (.bool false) ∧ Below w.heap.size w w' := by
  go_enter Try.func62, Try.ntmps62
  go_wp2_with fail
  refine (within_is _ h1).mono ?_
  rintro e w1 ⟨rfl, rfl⟩
  go_wp2_with fail
  refine (within_is _ h2).mono ?_
  rintro e w1 ⟨rfl, rfl⟩
  go_wp2_with fail
  refine (within_is _ h3).mono ?_
  rintro e w1 ⟨rfl, rfl⟩
  go_wp2_with fail
  refine (within_is _ h4).mono ?_
  rintro e w1 ⟨rfl, rfl⟩
  go_wp2_with fail
  go_ret
  exact ⟨rfl, (Below.refl _ _).alloc (Nat.le_refl _) _⟩

set_option maxRecDepth 100000 in
set_option maxHeartbeats 1000000 in
theorem tokenOk_4 (c r q a b : Int) (ao : Option Addr) (cap : Nat) (ws : List Int) (w : World) (h1 : decide (1 ≤ c ∧ c ≤ 9) = true) (h2 : decide (1 ≤ r ∧ r ≤ 1000000000) = true) (h3 : decide (0 ≤ q ∧ q ≤ 60) = true) (h4 : decide (0 ≤ a ∧ a ≤ q) = true) (h5 : decide (0 ≤ b ∧ b ≤ 5) = false) :
    Calls Try.prog 62 #[.agg #[.int .i64 c, .int .i64 r, .int .i64 q, .int .i64 a, .int .i64 b, .slice ao ws.length cap]] w fun e w' => e = .returned (.bool false) ∧ Below w.heap.size w w' := by
  go_enter Try.func62, Try.ntmps62
  go_wp2_with fail
  refine (within_is _ h1).mono ?_
  rintro e w1 ⟨rfl, rfl⟩
  go_wp2_with fail
  refine (within_is _ h2).mono ?_
  rintro e w1 ⟨rfl, rfl⟩
  go_wp2_with fail
  refine (within_is _ h3).mono ?_
  rintro e w1 ⟨rfl, rfl⟩
  go_wp2_with fail
  refine (within_is _ h4).mono ?_
  rintro e w1 ⟨rfl, rfl⟩
  go_wp2_with fail
  refine (within_is _ h5).mono ?_
  rintro e w1 ⟨rfl, rfl⟩
  go_wp2_with fail
  go_ret
  exact ⟨rfl, (Below.refl _ _).alloc (Nat.le_refl _) _⟩

set_option maxRecDepth 100000 in
set_option maxHeartbeats 1000000 in
theorem tokenOk_5 (c r q a b : Int) (ao : Option Addr) (cap : Nat) (ws : List Int) (w : World) (hx : Hid (IntsAt w ao ws)) (hl : ws.length ≤ 1048576) (h1 : decide (1 ≤ c ∧ c ≤ 9) = true) (h2 : decide (1 ≤ r ∧ r ≤ 1000000000) = true) (h3 : decide (0 ≤ q ∧ q ≤ 60) = true) (h4 : decide (0 ≤ a ∧ a ≤ q) = true) (h5 : decide (0 ≤ b ∧ b ≤ 5) = true) :
    Calls Try.prog 62 #[.agg #[.int .i64 c, .int .i64 r, .int .i64 q, .int .i64 a, .int .i64 b, .slice ao ws.length cap]] w fun e w' => e = .returned (.bool (wB ws q)) ∧ Below w.heap.size w w' := by
  have HX : ∀ o, Hid (IntsAt (w.alloc o) ao ws) := fun o => hx.out.stays ((Below.refl _ _).alloc (Nat.le_refl _) _)
  go_enter Try.func62, Try.ntmps62
  go_wp2_with fail
  refine (within_is _ h1).mono ?_
  rintro e w1 ⟨rfl, rfl⟩
  go_wp2_with fail
  refine (within_is _ h2).mono ?_
  rintro e w1 ⟨rfl, rfl⟩
  go_wp2_with fail
  refine (within_is _ h3).mono ?_
  rintro e w1 ⟨rfl, rfl⟩
  go_wp2_with fail
  refine (within_is _ h4).mono ?_
  rintro e w1 ⟨rfl, rfl⟩
  go_wp2_with fail
  refine (within_is _ h5).mono ?_
  rintro e w1 ⟨rfl, rfl⟩
  go_wp2_with fail
  refine (wants_any ao cap ws q _ (HX _) hl).mono ?_
  rintro e w1 ⟨rfl, rfl⟩
  go_wp2_with fail
  go_ret
  exact ⟨rfl, (Below.refl _ _).alloc (Nat.le_refl _) _⟩

theorem tokenOk_any (c r q a b : Int) (ao : Option Addr) (cap : Nat) (ws : List Int) (w : World) (hx : Hid (IntsAt w ao ws)) (hl : ws.length ≤ 1048576) :
    Calls Try.prog 62 #[.agg #[.int .i64 c, .int .i64 r, .int .i64 q, .int .i64 a, .int .i64 b, .slice ao ws.length cap]] w fun e w' => e = .returned (.bool (tkB c r q a b ws)) ∧ Below w.heap.size w w' := by
  unfold tkB
  cases h1 : decide (1 ≤ c ∧ c ≤ 9) with
  | false => exact tokenOk_0 c r q a b ao cap ws w h1
  | true =>
    cases h2 : decide (1 ≤ r ∧ r ≤ 1000000000) with
    | false => exact tokenOk_1 c r q a b ao cap ws w h1 h2
    | true =>
      cases h3 : decide (0 ≤ q ∧ q ≤ 60) with
      | false => exact tokenOk_2 c r q a b ao cap ws w h1 h2 h3
      | true =>
        cases h4 : decide (0 ≤ a ∧ a ≤ q) with
        | false => exact tokenOk_3 c r q a b ao cap ws w h1 h2 h3 h4
        | true =>
          cases h5 : decide (0 ≤ b ∧ b ≤ 5) with
          | false => exact tokenOk_4 c r q a b ao cap ws w h1 h2 h3 h4 h5
          | true => exact tokenOk_5 c r q a b ao cap ws w hx hl h1 h2 h3 h4 h5

set_option maxRecDepth 100000 in
set_option maxHeartbeats 1000000 in
theorem spTokenOk_0 (c r q a b : Int) (ao : Option Addr) (cap : Nat) (ws : List Int) (w : World) (h1 : decide (1 ≤ c ∧ c ≤ 9) = false) :
    Calls Try.prog 120 #[.agg #[.int .i64 c, .int .i64 r, .int .i64 q, .int .i64 a, .int .i64 b, .slice ao ws.length cap]] w fun e w' => e = .returned (.bool false) ∧ Below w.heap.size w w' := by
  go_enter Try.func120, Try.ntmps120
  go_wp2_with fail
  refine (in_is _ h1).mono ?_
  rintro e w1 ⟨rfl, rfl⟩
  go_wp2_with fail
  go_ret
  exact ⟨rfl, (Below.refl _ _).alloc (Nat.le_refl _) _⟩

set_option maxRecDepth 100000 in
set_option maxHeartbeats 1000000 in
theorem spTokenOk_1 (c r q a b : Int) (ao : Option Addr) (cap : Nat) (ws : List Int) (w : World) (h1 : decide (1 ≤ c ∧ c ≤ 9) = true) (h2 : decide (1 ≤ r ∧ r ≤ 1000000000) = false) :
    Calls Try.prog 120 #[.agg #[.int .i64 c, .int .i64 r, .int .i64 q, .int .i64 a, .int .i64 b, .slice ao ws.length cap]] w fun e w' => e = .returned (.bool false) ∧ Below w.heap.size w w' := by
  go_enter Try.func120, Try.ntmps120
  go_wp2_with fail
  refine (in_is _ h1).mono ?_
  rintro e w1 ⟨rfl, rfl⟩
  go_wp2_with fail
  refine (in_is _ h2).mono ?_
  rintro e w1 ⟨rfl, rfl⟩
  go_wp2_with fail
  go_ret
  exact ⟨rfl, (Below.refl _ _).alloc (Nat.le_refl _) _⟩

set_option maxRecDepth 100000 in
set_option maxHeartbeats 1000000 in
theorem spTokenOk_2 (c r q a b : Int) (ao : Option Addr) (cap : Nat) (ws : List Int) (w : World) (h1 : decide (1 ≤ c ∧ c ≤ 9) = true) (h2 : decide (1 ≤ r ∧ r ≤ 1000000000) = true) (h3 : decide (0 ≤ q ∧ q ≤ 60) = false) :
    Calls Try.prog 120 #[.agg #[.int .i64 c, .int .i64 r, .int .i64 q, .int .i64 a, .int .i64 b, .slice ao ws.length cap]] w fun e w' => e = .returned (.bool false) ∧ Below w.heap.size w w' := by
  go_enter Try.func120, Try.ntmps120
  go_wp2_with fail
  refine (in_is _ h1).mono ?_
  rintro e w1 ⟨rfl, rfl⟩
  go_wp2_with fail
  refine (in_is _ h2).mono ?_
  rintro e w1 ⟨rfl, rfl⟩
  go_wp2_with fail
  refine (in_is _ h3).mono ?_
  rintro e w1 ⟨rfl, rfl⟩
  go_wp2_with fail
  go_ret
  exact ⟨rfl, (Below.refl _ _).alloc (Nat.le_refl _) _⟩

set_option maxRecDepth 100000 in
set_option maxHeartbeats 1000000 in
theorem spTokenOk_3 (c r q a b : Int) (ao : Option Addr) (cap : Nat) (ws : List Int) (w : World) (h1 : decide (1 ≤ c ∧ c ≤ 9) = true) (h2 : decide (1 ≤ r ∧ r ≤ 1000000000) = true) (h3 : decide (0 ≤ q ∧ q ≤ 60) = true) (h4 : decide (0 ≤ a ∧ a ≤ q) = false) :
    Calls Try.prog 120 #[.agg #[.int .i64 c, .int .i64 r, .int .i64 q, .int .i64 a, .int .i64 b, .slice ao ws.length cap]] w fun e w' => e = .returned (.bool false) ∧ Below w.heap.size w w' := by
  go_enter Try.func120, Try.ntmps120
  go_wp2_with fail
  refine (in_is _ h1).mono ?_
  rintro e w1 ⟨rfl, rfl⟩
  go_wp2_with fail
  refine (in_is _ h2).mono ?_
  rintro e w1 ⟨rfl, rfl⟩
  go_wp2_with fail
  refine (in_is _ h3).mono ?_
  rintro e w1 ⟨rfl, rfl⟩
  go_wp2_with fail
  refine (in_is _ h4).mono ?_
  rintro e w1 ⟨rfl, rfl⟩
  go_wp2_with fail
  go_ret
  exact ⟨rfl, (Below.refl _ _).alloc (Nat.le_refl _) _⟩

set_option maxRecDepth 100000 in
set_option maxHeartbeats 1000000 in
theorem spTokenOk_4 (c r q a b : Int) (ao : Option Addr) (cap : Nat) (ws : List Int) (w : World) (h1 : decide (1 ≤ c ∧ c ≤ 9) = true) (h2 : decide (1 ≤ r ∧ r ≤ 1000000000) = true) (h3 : decide (0 ≤ q ∧ q ≤ 60) = true) (h4 : decide (0 ≤ a ∧ a ≤ q) = true) (h5 : decide (0 ≤ b ∧ b ≤ 5) = false) :
    Calls Try.prog 120 #[.agg #[.int .i64 c, .int .i64 r, .int .i64 q, .int .i64 a, .int .i64 b, .slice ao ws.length cap]] w fun e w' => e = .returned (.bool false) ∧ Below w.heap.size w w' := by
  go_enter Try.func120, Try.ntmps120
  go_wp2_with fail
  refine (in_is _ h1).mono ?_
  rintro e w1 ⟨rfl, rfl⟩
  go_wp2_with fail
  refine (in_is _ h2).mono ?_
  rintro e w1 ⟨rfl, rfl⟩
  go_wp2_with fail
  refine (in_is _ h3).mono ?_
  rintro e w1 ⟨rfl, rfl⟩
  go_wp2_with fail
  refine (in_is _ h4).mono ?_
  rintro e w1 ⟨rfl, rfl⟩
  go_wp2_with fail
  refine (in_is _ h5).mono ?_
  rintro e w1 ⟨rfl, rfl⟩
  go_wp2_with fail
  go_ret
  exact ⟨rfl, (Below.refl _ _).alloc (Nat.le_refl _) _⟩

set_option maxRecDepth 100000 in
set_option maxHeartbeats 1000000 in
theorem spTokenOk_6 (c r q a b : Int) (ao : Option Addr) (cap : Nat) (ws : List Int) (w : World) (h20 : 20 < ws.length) (h1 : decide (1 ≤ c ∧ c ≤ 9) = true) (h2 : decide (1 ≤ r ∧ r ≤ 1000000000) = true) (h3 : decide (0 ≤ q ∧ q ≤ 60) = true) (h4 : decide (0 ≤ a ∧ a ≤ q) = true) (h5 : decide (0 ≤ b ∧ b ≤ 5) = true) :
    Calls Try.prog 120 #[.agg #[.int .i64 c, .int .i64 r, .int .i64 q, .int .i64 a, .int .i64 b, .slice ao ws.length cap]] w fun e w' => e = .returned (.bool false) ∧ Below w.heap.size w w' := by
  go_enter Try.func120, Try.ntmps120
  go_wp2_with fail
  refine (in_is _ h1).mono ?_
  rintro e w1 ⟨rfl, rfl⟩
  go_wp2_with fail
  refine (in_is _ h2).mono ?_
  rintro e w1 ⟨rfl, rfl⟩
  go_wp2_with fail
  refine (in_is _ h3).mono ?_
  rintro e w1 ⟨rfl, rfl⟩
  go_wp2_with fail
  refine (in_is _ h4).mono ?_
  rintro e w1 ⟨rfl, rfl⟩
  go_wp2_with fail
  refine (in_is _ h5).mono ?_
  rintro e w1 ⟨rfl, rfl⟩
  go_wp2_with fail
  go_ret
  exact ⟨rfl, (Below.refl _ _).alloc (Nat.le_refl _) _⟩

end Go.Proofs.Ythdjkkiegecgnaa
