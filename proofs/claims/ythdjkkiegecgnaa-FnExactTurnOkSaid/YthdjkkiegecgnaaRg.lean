/- Rings in plain words, and the walks over both RingOk. -/
import Derived.Test.YthdjkkiegecgnaaT2
namespace Go.Proofs.Ythdjkkiegecgnaa
open Go.RowKit Pl
set_option linter.unusedVariables false

/-- a ring is right. -/
def ringB (i : Int) (ms : List Int) : Bool := decide (1 ≤ i ∧ i ≤ 9) && (decide (0 < ms.length) && wGo 0 5 ms)

theorem wGo_len : ∀ (ms : List Int) (l : Int), wGo l 5 ms = true → l ≤ 5 → (ms.length : Int) + l ≤ 5 := by
  intro ms
  induction ms with
  | nil => intro l _ h; simp; omega
  | cons x xs ih =>
    intro l h hl
    by_cases h1 : l < x ∧ x ≤ 5
    · rw [wGo_step h1.1 h1.2] at h
      have := ih x h h1.2
      simp only [List.length_cons, Int.natCast_add]
      omega
    · rw [wGo_bad (by omega)] at h
      cases h

set_option maxRecDepth 100000 in
set_option maxHeartbeats 1000000 in
theorem daemons_any (ao : Option Addr) (cap : Nat) (ws : List Int) (w : World) (hx : Hid (IntsAt w ao ws)) (hl : ws.length ≤ 1048576) :
    Calls Try.prog 127 #[.slice ao ws.length cap] w fun e w' => e = .returned (.bool (wGo 0 5 ws)) ∧ w' = w := by
  go_enter Try.func127, Try.ntmps127
  go_wp2
  go_loop [3, 8] (fun L i => ∃ (k : Nat) (l : Int), k ≤ ws.length ∧ L = .int .i64 l ∧ i = .int .i64 k ∧ Hid (WSt ws 5 k l)) (fun _ i => ws.length - (intOf i).toNat)
  case atStart => exact ⟨0, 0, Nat.zero_le _, rfl, rfl, wSt_start ws 5⟩
  case round =>
    obtain ⟨k, l, hk, rfl, rfl, hst⟩ := hrel
    by_cases hlt : k < ws.length
    · obtain ⟨b, off, rfl, hbb, hc⟩ := hx.out k hlt
      obtain ⟨x, ht⟩ : ∃ x, x = ws[k] := ⟨_, rfl⟩
      rw [← ht] at hc
      have HT : Hid (x = ws[k]) := ht
      clear ht
      by_cases h1 : x ≤ l
      · go_wp2
        go_ret
        exact ⟨by rw [wSt_bad hst.out hlt HT.out (.inl h1)]; rfl, rfl⟩
      · by_cases h2 : 5 < x
        · go_wp2
          go_ret
          exact ⟨by rw [wSt_bad hst.out hlt HT.out (.inr h2)]; simp, rfl⟩
        · go_wp2
          go_round
          case rel => exact ⟨k + 1, x, by omega, rfl, by go_num, wSt_next hst.out hlt HT.out (by omega) (by omega)⟩
          case measure => simp [intOf]; omega
    · go_wp2
      go_ret
      exact ⟨by rw [wSt_end hst.out (by omega)]; rfl, rfl⟩

/-- the block g is a ring. -/
def RgAt (w : World) (g : Nat) (i : Int) (v : Value) : Prop := w.heap[g]? = some (.cells #[.int .i64 i, v] 26 (0, 0))
theorem RgAt.cells {w : World} {g : Nat} {i : Int} {v : Value} (h : RgAt w g i v) : w.cell? ⟨g, 0, none⟩ = some (.int .i64 i) ∧ w.cell? ⟨g, 1, none⟩ = some v :=
  ⟨by rw [cell_of_row w g 0 _ 26 (0, 0) h]; rfl, by rw [cell_of_row w g 1 _ 26 (0, 0) h]; rfl⟩
theorem RgAt.stays {w w' : World} {B g : Nat} {i : Int} {v : Value} (h : RgAt w g i v) (hb : Below B w w') (hg : g < B) : RgAt w' g i v := (hb.block g hg).trans h
theorem RgAt.lt {w : World} {g : Nat} {i : Int} {v : Value} (h : RgAt w g i v) : g < w.heap.size := (Array.getElem?_eq_some_iff.1 h).1
theorem RgAt.frozen {w : World} {g : Nat} {i : Int} {v : Value} (h : RgAt w g i v) (k : Nat) : w.frozen? ⟨g, k, none⟩ = false := by
  unfold RgAt at h
  simp [World.frozen?, h]

set_option maxRecDepth 100000 in
set_option maxHeartbeats 1000000 in
theorem ringOk_any (i : Int) (ao : Option Addr) (cap : Nat) (ws : List Int) (w : World) (hx : Hid (IntsAt w ao ws)) (hl : ws.length ≤ 1048576) :
    Calls Try.prog 68 #[.agg #[.int .i64 i, .slice ao ws.length cap]] w fun e w' => e = .returned (.bool (ringB i ws)) ∧ Below w.heap.size w w' := by
  have HX : ∀ o, Hid (IntsAt (w.alloc o) ao ws) := fun o => hx.out.stays ((Below.refl _ _).alloc (Nat.le_refl _) _)
  unfold ringB
  cases h1 : decide (1 ≤ i ∧ i ≤ 9) with
  | false =>
    go_enter Try.func68, Try.ntmps68
    go_wp2_with fail
    refine (within_is _ h1).mono ?_
    rintro e w1 ⟨rfl, rfl⟩
    go_wp2_with fail
    go_ret
    exact ⟨rfl, (Below.refl _ _).alloc (Nat.le_refl _) _⟩
  | true =>
    by_cases h2 : 0 < ws.length
    · rw [decide_eq_true h2]
      have h2' : (0 : Int) < (ws.length : Int) := by omega
      go_enter Try.func68, Try.ntmps68
      go_wp2_with fail
      refine (within_is _ h1).mono ?_
      rintro e w1 ⟨rfl, rfl⟩
      go_wp2_with fail
      refine (daemons_any ao cap ws _ (HX _) hl).mono ?_
      rintro e w1 ⟨rfl, rfl⟩
      go_wp2_with fail
      go_ret
      exact ⟨rfl, (Below.refl _ _).alloc (Nat.le_refl _) _⟩
    · rw [decide_eq_false h2]
      have h2' : ¬ (0 : Int) < (ws.length : Int) := by omega
      go_enter Try.func68, Try.ntmps68
      go_wp2_with fail
      refine (within_is _ h1).mono ?_
      rintro e w1 ⟨rfl, rfl⟩
      go_wp2_with fail
      go_ret
      exact ⟨rfl, (Below.refl _ _).alloc (Nat.le_refl _) _⟩
end Go.Proofs.Ythdjkkiegecgnaa
