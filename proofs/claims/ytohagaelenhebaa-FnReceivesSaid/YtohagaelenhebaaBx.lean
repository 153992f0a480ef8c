/- Ends that a law holds: where each lies, and what leaves it as it is. -/
import Derived.Test.YtohagaelenhebaaE3
import Derived.Test.YtohagaelenhebaaL1
namespace Go.Proofs.Ytohagaelenhebaa
open Go.RowKit Pl
set_option linter.unusedVariables false

/-- blocks of lo .. hi alone have turned. -/
def GrI (lo hi : Nat) (w w' : World) : Prop := Gr (fun k => lo ≤ k ∧ k < hi) w w'
/-- an end by value, its lists in lo .. hi. -/
structure EndI (w : World) (lo hi : Nat) (v : Value) (e : En) : Prop where
  own : EndM w lo v e
  at' : ∀ k, EndBlk v k → lo ≤ k ∧ k < hi
  le : hi ≤ w.heap.size
theorem EndI.new {w w' : World} {v : Value} {e : En} (h : EndM w' w.heap.size v e) : EndI w' w.heap.size w'.heap.size v e := ⟨h, fun k hk => EndM.blk h hk, Nat.le_refl _⟩
theorem EndI.below {w w' : World} {lo hi : Nat} {v : Value} {e : En} (h : EndI w lo hi v e) (hb : Below w.heap.size w w') : EndI w' lo hi v e := ⟨h.own.stays hb, h.at', Nat.le_trans h.le hb.size⟩
theorem EndI.gr {w w' : World} {lo hi l h' : Nat} {v : Value} {e : En} (h : EndI w lo hi v e) (hg : GrI l h' w w') (ho : hi ≤ l ∨ h' ≤ lo) : EndI w' lo hi v e :=
  ⟨EndM.gr h.own hg (fun k hk hs => by have := h.at' k hk; omega), h.at', Nat.le_trans h.le hg.size⟩
theorem EndI.r {w : World} {lo hi : Nat} {v : Value} {e : En} (h : EndI w lo hi v e) : EndR w v e := h.own.r
theorem EndC.gr {w w' : World} {T p l h : Nat} {n a gt : Int} {qv ov : Value} (hc : EndC w T p n a qv gt ov) (hg : GrI l h w w') (ho : p < l ∨ h ≤ p) : EndC w' T p n a qv gt ov := (hg.block p hc.lt (by omega)).trans hc
theorem GrI.below {l h B : Nat} {w w' : World} (hg : GrI l h w w') (hB : B ≤ l) (hw : B ≤ w.heap.size) : Below B w w' := Gr.below hg (fun k hk => by omega) hw
theorem GrI.below' {l h B : Nat} {w0 w w' : World} (h0 : Below B w0 w) (hg : GrI l h w w') (hB : B ≤ l) (hw : B ≤ w.heap.size) : Below B w0 w' := h0.trans (hg.below hB hw)

/-- marking an end. -/
theorem mark_I {v : Value} {e : En} {lo hi : Nat} (w : World) (h : EndI w lo hi v e) (hl : 1 + e.q.length + e.o.length ≤ 2000000) :
    Calls Try.prog 29 #[v, .int .i64 1] w fun r w' => r = .returned (.int .i64 ((1 + e.q.length + e.o.length : Nat) : Int)) ∧ GrI lo hi w w' ∧ ∃ f : En, f.q.length = e.q.length ∧ f.o.length = e.o.length ∧ Marked f.q 1 f.q.length ∧ Marked f.o (1 + f.q.length) f.o.length ∧ EndI w' lo hi v f :=
  (markEnd_any 1 w h.own (by omega) hl).mono fun r w' ⟨h1, h2, xs, ys, h3, h4, h5, h6, h7⟩ =>
    ⟨h1, h2.mono (fun k hk => h.at' k hk), _, h3, h4, h5, h6, ⟨h7, h.at', Nat.le_trans h.le h2.size⟩⟩
theorem held_I {v : Value} {e : En} {lo hi : Nat} (w : World) (h : EndI w lo hi v e) (n m : Nat) (hn : e.q.length = n) (hm : e.o.length = m) (hl : 1 + n + m ≤ 2000000) (h1 : Marked e.q 1 e.q.length) (h2 : Marked e.o (1 + e.q.length) e.o.length) :
    Calls Try.prog 30 #[v, .int .i64 1] w fun r w' => r = .returned (.int .i64 ((1 + n + m : Nat) : Int)) ∧ Below w.heap.size w w' := by
  subst hn hm
  exact heldEnd_any 1 w h.r (by omega) hl h1 h2
end Go.Proofs.Ytohagaelenhebaa
