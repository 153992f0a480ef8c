/- What drawn tokens want. -/
import Derived.Test.YtnhnpneedcjcfaaMr
import Derived.Test.YtnhnpneedcjcfaaDy
import Derived.Deep.RegionLaw
namespace Go.Proofs.Ytnhnpneedcjcfaa
open Go.RowKit Pl
set_option linter.unusedVariables false

theorem own_laterZ {w w' : World} {B : Nat} {v : Value} {ss : List Int} (h : OwnI w B v ss) (hb : Below w.heap.size w w') : OwnI w' B v ss := h.stays hb (fun k hk => (h.lt k hk).2)
theorem TokAt.keep {w w' : World} {g k : Nat} {c r q a b : Int} {v : Value} (h : TokAt w g c r q a b v) (hk : KeepBut k w w') (hg : g ≠ k) : TokAt w' g c r q a b v := (hk.block g h.lt hg).trans h
theorem TokAt.set0 {w : World} {g : Nat} {c r q a b : Int} {v : Value} (h : TokAt w g c r q a b v) (x : Int) : TokAt (w.setCell ⟨g, 0, none⟩ (.int .i64 x)) g x r q a b v := by
  have := heap_setCell_same w g 0 _ 30 (.int .i64 x) h
  unfold TokAt; rw [this]; rfl
theorem TokAt.set1 {w : World} {g : Nat} {c r q a b : Int} {v : Value} (h : TokAt w g c r q a b v) (x : Int) : TokAt (w.setCell ⟨g, 1, none⟩ (.int .i64 x)) g c x q a b v := by
  have := heap_setCell_same w g 1 _ 30 (.int .i64 x) h
  unfold TokAt; rw [this]; rfl
theorem TokAt.set2z {w : World} {g : Nat} {c r q a b : Int} {v : Value} (h : TokAt w g c r q a b v) (x : Int) : TokAt (w.setCell ⟨g, 2, none⟩ (.int .i64 x)) g c r x a b v := by
  have := heap_setCell_same w g 2 _ 30 (.int .i64 x) h
  unfold TokAt; rw [this]; rfl
theorem tok_turn {w : World} {g : Nat} (c r q a b : Int) (v : Value) : TurnAt g w ((((((w.setCell ⟨g, 0, none⟩ (.int .i64 c)).setCell ⟨g, 1, none⟩ (.int .i64 r)).setCell ⟨g, 2, none⟩ (.int .i64 q)).setCell ⟨g, 3, none⟩ (.int .i64 a)).setCell ⟨g, 4, none⟩ (.int .i64 b)).setCell ⟨g, 5, none⟩ v) :=
  ((((((TurnAt.refl g w).setCell 0 _).setCell 1 _).setCell 2 _).setCell 3 _).setCell 4 _).setCell 5 _

theorem step_pushI {P : Program} {ops : Array Oper} {o : Oper} {a : Act} {W : World} {K : Act → World → Prop} {Q : Exit → Act → World → Prop} {E : Prop}
    (hg : o.guard = none) (s x : Operand) (t : TypeId) (hop : o.op = Op.call { callee := Callee.builtin Builtin.append, args := #[s, x], argTypes := #[t, t] })
    (ht : P.underlying t = some (.slice 3)) (hinfo : (P.info? 3).map (fun i => (i.zero, i.size, i.bytes)) = some (some (.int .i64 0), 1, 8))
    (B : Nat) (v : Value) (xs : List Int) (hs : a.eval s = v) (hown : OwnI W B v xs)
    (b : Int) (ad : Addr) (hx : a.eval x = .slice (some ad) 1 1) (hc : W.cell? ad = some (.int .i64 b)) (hsp : ad.add 0 = ad)
    (hn : xs.length < 4000000) (hB : B ≤ W.heap.size)
    (hK : ∀ v' w', OwnI w' B v' (xs ++ [b]) → W.grownBy w' v.ownBlock → K (a.put o.dst v') w') :
    if Region.wanted o (yielded ops a.tmps) = true then Oper.wp P o a W K Q else E := by
  have hw : Region.wanted o (yielded ops a.tmps) = true := by simp [Region.wanted, hg]
  rw [if_pos hw]
  obtain ⟨i0, hi, hz0, hz1, hz2⟩ := info_parts hinfo
  refine wp_append_own W s x t hop B 3 i0 (.int .i64 0) 1 8 ht hi hz0 hz1 hz2 rfl (by decide) v xs.length (xs.map (Value.int .i64)) hs hown ad 1 1 [.int .i64 b] hx rfl ?_ ?_ (by unfold maxLen; omega) (by omega) hB ?_
  · intro j u hj
    match j, hj with
    | 0, hj => simp at hj; subst hj; rw [hsp]; exact hc
  · intro u hu; simp at hu; subst hu; rfl
  · intro v' w' hown' hgr _
    refine hK v' w' ?_ hgr
    simpa [OwnI] using hown'

theorem cell_new_int (w : World) (z : Int) : (w.alloc (.cells #[.int .i64 z] 3)).cell? ⟨w.heap.size, 0, none⟩ = some (.int .i64 z) := by
  rw [cell_of_row _ w.heap.size 0 _ 3 (0, 0) (heap_alloc_new w _)]; rfl

theorem own_ne_tok {w : World} {B g k : Nat} {v u : Value} {xs : List Int} {c r q a b : Int} (h : OwnI w B v xs) (hu : TokAt w g c r q a b u) (hk : v.ownBlock = some k) : k ≠ g := by
  rintro rfl
  rcases h.2 with ⟨rfl, _⟩ | ⟨k', cap, cur, rfl, _, hk2, _⟩
  · cases hk
  · cases hk
    unfold TokAt at hu
    rw [hk2] at hu
    simp at hu
theorem TokAt.grown {w w' : World} {B g : Nat} {v u : Value} {xs : List Int} {c r q a b : Int} (h : TokAt w g c r q a b u) (ho : OwnI w B v xs) (hg : w.grownBy w' v.ownBlock) : TokAt w' g c r q a b u :=
  (hg.block g h.lt (fun e => own_ne_tok ho h e.symm rfl)).trans h
end Go.Proofs.Ytnhnpneedcjcfaa
