/- Lists of parcels that a law holds: where each lies, and what leaves it as it is. -/
import Derived.Test.YtohagaelenhebaaBx
import Derived.Test.YtohagaelenhebaaE4
namespace Go.Proofs.Ytohagaelenhebaa
open Go.RowKit Pl
set_option linter.unusedVariables false

structure SlI (w : World) (lo hi : Nat) (v : Value) (ps : List Pc) : Prop where
  own : SlP w lo v ps
  at' : ∀ k, v.ownBlock = some k → lo ≤ k ∧ k < hi
  le : hi ≤ w.heap.size
theorem SlI.new {w w' : World} {v : Value} {ps : List Pc} (h : SlP w' w.heap.size v ps) : SlI w' w.heap.size w'.heap.size v ps := ⟨h, fun k hk => Sl.lt h k hk, Nat.le_refl _⟩
theorem SlI.below {w w' : World} {lo hi : Nat} {v : Value} {ps : List Pc} (h : SlI w lo hi v ps) (hb : Below w.heap.size w w') : SlI w' lo hi v ps := ⟨Sl.below h.own hb, h.at', Nat.le_trans h.le hb.size⟩
theorem SlI.gr {w w' : World} {lo hi l h' : Nat} {v : Value} {ps : List Pc} (h : SlI w lo hi v ps) (hg : GrI l h' w w') (ho : hi ≤ l ∨ h' ≤ lo) : SlI w' lo hi v ps :=
  ⟨Sl.gr h.own hg (fun k hk hs => by have := h.at' k hk; omega), h.at', Nat.le_trans h.le hg.size⟩

theorem mark_P {v : Value} {ps : List Pc} {lo hi : Nat} (K : Nat) (w : World) (h : SlI w lo hi v ps) (hK : 0 < K) (hl : K + ps.length * 3 ≤ 1900000) :
    Calls Try.prog 33 #[v, .int .i64 K] w fun r w' => r = .returned (.int .i64 ((K + ps.length * 3 : Nat) : Int)) ∧ GrI lo hi w w' ∧ ∃ xs : List Pc, xs.length = ps.length ∧ MarkedP xs K xs.length ∧ SlI w' lo hi v xs :=
  (markPs_any v ps lo K w h.own hl hK).mono fun r w' ⟨h1, h2, xs, h3, h4, h5⟩ =>
    ⟨h1, Gr.ofGrown h2 (fun k hk => h.at' k hk), xs, h3, by rw [h3]; exact h4, ⟨h5, h.at', Nat.le_trans h.le h2.size⟩⟩
theorem held_P {v : Value} {xs : List Pc} {lo hi : Nat} (K : Nat) (w : World) (h : SlI w lo hi v xs) (n : Nat) (hn : xs.length = n) (hK : 0 < K) (hl : K + n * 3 ≤ 1900000) (h1 : MarkedP xs K xs.length) :
    Calls Try.prog 34 #[v, .int .i64 K] w fun r w' => r = .returned (.int .i64 ((K + n * 3 : Nat) : Int)) ∧ Below w.heap.size w w' := by
  subst hn
  obtain ⟨ao, cap, rfl, hx⟩ := h.own.parcels
  exact heldPs_any ao cap xs K w hx hl hK h1
theorem eq_P {v1 v2 : Value} {ps : List Pc} {l1 h1 l2 h2 : Nat} (w : World) (a : SlI w l1 h1 v1 ps) (b : SlI w l2 h2 v2 ps) (hl : ps.length ≤ 100000) :
    Calls Try.prog 32 #[v1, v2] w fun e w' => e = .returned (.bool true) ∧ Below w.heap.size w w' := eqPs_slp w a.own b.own hl
end Go.Proofs.Ytohagaelenhebaa
