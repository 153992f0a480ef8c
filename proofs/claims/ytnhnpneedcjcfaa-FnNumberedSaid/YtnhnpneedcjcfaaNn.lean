/- Both Number, at every argument. -/
import Derived.Test.YtnhnpneedcjcfaaNs
namespace Go.Proofs.Ytnhnpneedcjcfaa
open Go.RowKit Pl
set_option linter.unusedVariables false

def numOk (c r q a b : Int) (ws : List Int) (f : Int) : Bool := tkB c r q a b ws && decide (1 ≤ f ∧ f ≤ 5)
def numL (c r q a b : Int) (ws : List Int) (f : Int) (lv : List Int) (tx : List ByteArray) : List It := if numOk c r q a b ws f then numGo f lv q 0 tx else []
def numQ (c r q a b : Int) (ws : List Int) (f : Int) (lv : List Int) (tx : List ByteArray) : Int := q + ((numL c r q a b ws f lv tx).length : Int)
def numA (c r q a b : Int) (ws : List Int) (f : Int) (lv : List Int) (tx : List ByteArray) : Int := if numOk c r q a b ws f then (if numF a q b then numQ c r q a b ws f lv tx else a) else a
theorem tkB_q {c r q a b : Int} {ws : List Int} (h : tkB c r q a b ws = true) : 0 ≤ q ∧ q ≤ 60 := by
  unfold tkB at h
  simp only [Bool.and_eq_true, decide_eq_true_eq] at h
  exact h.2.2.1
theorem numGo_len {f : Int} {lv : List Int} : ∀ (ts : List ByteArray) (q : Int) (k : Nat), k ≤ 3 → (numGo f lv q k ts).length + k ≤ 3
  | [], _, k, hk => by simp [numGo]; omega
  | t :: ts, q, k, hk => by
    rw [numGo]
    by_cases h : k < 3 ∧ q < 60 ∧ t.size ≤ 60
    · rw [if_pos h]
      have := numGo_len (f := f) (lv := lv) ts (q + 1) (k + 1) (by omega)
      simp only [List.length_cons]
      omega
    · rw [if_neg h]; simp; omega
theorem numL_len (c r q a b : Int) (ws : List Int) (f : Int) (lv : List Int) (tx : List ByteArray) : (numL c r q a b ws f lv tx).length ≤ 3 := by
  unfold numL
  split
  · have := numGo_len (f := f) (lv := lv) tx q 0 (by omega); omega
  · simp

theorem number_any (c r q a b f : Int) (u0 : Value) (ws : List Int) (B0 : Nat) (al : Option Addr) (cl : Nat) (lv : List Int) (at_ : Option Addr) (ct : Nat) (tx : List ByteArray) (w : World) (h : Hid (OwnI w B0 u0 ws)) (hl : ws.length ≤ 1048576) (hlv : Hid (IntsAt w al lv)) (hll : lv.length ≤ 1048576) (htx : Hid (TextsAt w at_ tx)) (hlt : tx.length ≤ 1048576) :
    Calls Try.prog 20 #[.agg #[.int .i64 c, .int .i64 r, .int .i64 q, .int .i64 a, .int .i64 b, u0], .int .i64 f, .slice al lv.length cl, .slice at_ tx.length ct] w fun e w' => ∃ v vi, e = .returned (.tuple #[.agg #[.int .i64 c, .int .i64 r, .int .i64 (numQ c r q a b ws f lv tx), .int .i64 (numA c r q a b ws f lv tx), .int .i64 b, v], vi]) ∧ OwnI w' w.heap.size v ws ∧ SlI w' w.heap.size vi (numL c r q a b ws f lv tx) ∧ Below w.heap.size w w' := by
  cases ht : tkB c r q a b ws with
  | false =>
    have e1 : numOk c r q a b ws f = false := by unfold numOk; rw [ht]; rfl
    rw [show numQ c r q a b ws f lv tx = q by simp [numQ, numL, e1], show numA c r q a b ws f lv tx = a by simp [numA, e1], show numL c r q a b ws f lv tx = [] by simp [numL, e1]]
    exact num_0 c r q a b f u0 ws B0 al cl lv at_ ct tx w h hl hlv hll htx hlt ht
  | true =>
    cases hd : decide (1 ≤ f ∧ f ≤ 5) with
    | false =>
      have e1 : numOk c r q a b ws f = false := by unfold numOk; rw [ht, hd]; rfl
      rw [show numQ c r q a b ws f lv tx = q by simp [numQ, numL, e1], show numA c r q a b ws f lv tx = a by simp [numA, e1], show numL c r q a b ws f lv tx = [] by simp [numL, e1]]
      exact num_1 c r q a b f u0 ws B0 al cl lv at_ ct tx w h hl hlv hll htx hlt ht hd
    | true =>
      have e1 : numOk c r q a b ws f = true := by unfold numOk; rw [ht, hd]; rfl
      have hq := tkB_q ht
      exact num_2 c r q a b f u0 ws B0 al cl lv at_ ct tx w h hl hlv hll htx hlt ht hd hq.1 hq.2 _ _ _ (show numL c r q a b ws f lv tx = _ by unfold numL; rw [if_pos e1]) rfl (show numA c r q a b ws f lv tx = _ by unfold numA; rw [if_pos e1])

theorem spNumber_any (c r q a b f : Int) (u0 : Value) (ws : List Int) (B0 : Nat) (al : Option Addr) (cl : Nat) (lv : List Int) (at_ : Option Addr) (ct : Nat) (tx : List ByteArray) (w : World) (h : Hid (OwnI w B0 u0 ws)) (hl : ws.length ≤ 1048576) (hlv : Hid (IntsAt w al lv)) (hll : lv.length ≤ 1048576) (htx : Hid (TextsAt w at_ tx)) (hlt : tx.length ≤ 1048576) :
    Calls Try.prog 21 #[.agg #[.int .i64 c, .int .i64 r, .int .i64 q, .int .i64 a, .int .i64 b, u0], .int .i64 f, .slice al lv.length cl, .slice at_ tx.length ct] w fun e w' => ∃ v vi, e = .returned (.tuple #[.agg #[.int .i64 c, .int .i64 r, .int .i64 (numQ c r q a b ws f lv tx), .int .i64 (numA c r q a b ws f lv tx), .int .i64 b, v], vi]) ∧ OwnI w' w.heap.size v ws ∧ SlI w' w.heap.size vi (numL c r q a b ws f lv tx) ∧ Below w.heap.size w w' := by
  cases ht : tkB c r q a b ws with
  | false =>
    have e1 : numOk c r q a b ws f = false := by unfold numOk; rw [ht]; rfl
    rw [show numQ c r q a b ws f lv tx = q by simp [numQ, numL, e1], show numA c r q a b ws f lv tx = a by simp [numA, e1], show numL c r q a b ws f lv tx = [] by simp [numL, e1]]
    exact spNum_0 c r q a b f u0 ws B0 al cl lv at_ ct tx w h hl hlv hll htx hlt ht
  | true =>
    cases hd : decide (1 ≤ f ∧ f ≤ 5) with
    | false =>
      have e1 : numOk c r q a b ws f = false := by unfold numOk; rw [ht, hd]; rfl
      rw [show numQ c r q a b ws f lv tx = q by simp [numQ, numL, e1], show numA c r q a b ws f lv tx = a by simp [numA, e1], show numL c r q a b ws f lv tx = [] by simp [numL, e1]]
      exact spNum_1 c r q a b f u0 ws B0 al cl lv at_ ct tx w h hl hlv hll htx hlt ht hd
    | true =>
      have e1 : numOk c r q a b ws f = true := by unfold numOk; rw [ht, hd]; rfl
      have hq := tkB_q ht
      exact spNum_2 c r q a b f u0 ws B0 al cl lv at_ ct tx w h hl hlv hll htx hlt ht hd hq.1 hq.2 _ _ _ (show numL c r q a b ws f lv tx = _ by unfold numL; rw [if_pos e1]) rfl (show numA c r q a b ws f lv tx = _ by unfold numA; rw [if_pos e1])
end Go.Proofs.Ytnhnpneedcjcfaa
