/- Joined texts: CCa CMr. -/
import Derived.Test.YtoahljkifikbaaaGreatQn5
import Derived.Laws.AppendOwnNone
import Derived.BigQuiet
import Derived.RegionTactic
/- Tokens copied: append([]int{}, t.Wants...). -/
namespace Go.Proofs.YtoahljkifikbaaaGreat
open Go.RowKit Pl
set_option linter.unusedVariables false

/-- a walk that stops here. -/
structure Stp (p : Prop) : Prop where
  out : p
theorem Stp.here {p : Prop} (h : Stp p) : p := h.out
theorem Stp.go {p : Prop} (h : p) : Stp p := ⟨h⟩

theorem wpList_catI {P : Program} {w : World} {ops : Array Oper} {rest : List Oper} {o : Oper} {a : Act} {Q : Exit → Act → World → Prop}
    (hgd : o.guard = none) (s x : Operand) (t : TypeId) (ho : o.op = .call { callee := .builtin .append, args := #[s, x], argTypes := #[t, t] })
    (ht : P.underlying t = some (.slice 3)) (hinfo : (P.info? 3).map (fun i => (i.zero, i.size, i.bytes)) = some (some (.int .i64 0), 1, 8))
    (B : Nat) (v : Value) (xs : List Int) (hs : a.eval s = v) (hown : OwnI w B v xs)
    (B2 : Nat) (u : Value) (ys : List Int) (hx : a.eval x = u) (hu : OwnI w B2 u ys) (hn : xs.length + ys.length < 4000000) (hB : B ≤ w.heap.size)
    (h : ∀ v' w', OwnI w' B v' (xs ++ ys) → w.grownBy w' v.ownBlock → wpList P ops Q rest (a.put o.dst v') w') :
    wpList P ops Q (o :: rest) a w := by
  obtain ⟨i0, hi, hz0, hz1, hz2⟩ := info_parts hinfo
  have hcells := fun (g : Nat) (hg : u.ownBlock = some g) => World.ownsRow.cells hu hg
  rcases hu.2 with ⟨rfl, h0⟩ | ⟨g, cap, cur, rfl, _⟩
  · have e : ys = [] := List.eq_nil_of_length_eq_zero h0
    subst e
    refine wpList_append_own_none hgd s x t ho B 3 i0 1 ht hi v xs.length (xs.map (Value.int .i64)) hs hown hx ?_
    exact h v w (by rw [List.append_nil]; exact hown) (World.grownBy.refl _ _)
  · refine wpList_append_own _ hgd s x t ho B 3 i0 (.int .i64 0) 1 8 ht hi hz0 hz1 hz2 rfl (by decide) v xs.length (xs.map (Value.int .i64)) hs hown ⟨g, 0, none⟩ ys.length cap (ys.map (Value.int .i64)) hx (by simp) (fun j u hj => hcells g rfl j u hj) ?_ (by unfold maxLen; omega) (by omega) hB ?_
    · intro u hu'
      obtain ⟨y, _, rfl⟩ := List.mem_map.1 hu'
      rfl
    · intro v' w' hown' hg _
      exact h v' w' (by simpa [OwnI] using hown') hg

set_option maxRecDepth 100000 in
set_option maxHeartbeats 2000000 in
theorem copyTok (c r q a b : Int) (u : Value) (ws : List Int) (B0 : Nat) (w : World) (h : Hid (OwnI w B0 u ws)) (hl : ws.length ≤ 1048576) :
    Calls Tryz.prog 87 #[.agg #[.int .i64 c, .int .i64 r, .int .i64 q, .int .i64 a, .int .i64 b, u]] w fun e w' => ∃ v, e = .returned (.agg #[.int .i64 c, .int .i64 r, .int .i64 q, .int .i64 a, .int .i64 b, v]) ∧ OwnI w' w.heap.size v ws ∧ Below w.heap.size w w' := by
  obtain ⟨ao, cap, hu⟩ := h.out.form
  have hn1 : (w.alloc (.cells #[.int .i64 c, .int .i64 r, .int .i64 q, .int .i64 a, .int .i64 b, u] 49)).heap.size = w.heap.size + 1 := by simp
  have hn2 : ((w.alloc (.cells #[.int .i64 c, .int .i64 r, .int .i64 q, .int .i64 a, .int .i64 b, u] 49)).alloc (.cells #[.int .i64 0, .int .i64 0, .int .i64 0, .int .i64 0, .int .i64 0, .slice none 0 0] 49)).heap.size = w.heap.size + 2 := by simp
  have HA : Hid (TokAt (((w.alloc (.cells #[.int .i64 c, .int .i64 r, .int .i64 q, .int .i64 a, .int .i64 b, u] 49)).alloc (.cells #[.int .i64 0, .int .i64 0, .int .i64 0, .int .i64 0, .int .i64 0, .slice none 0 0] 49)).alloc (.cells #[] 3)) w.heap.size c r q a b u) := by
    have h := heap_alloc_new w (.cells #[.int .i64 c, .int .i64 r, .int .i64 q, .int .i64 a, .int .i64 b, u] 49)
    exact TokAt.stays (B := w.heap.size + 1) h (((Below.refl _ _).alloc (by rw [hn1]; exact Nat.le_refl _) _).alloc (by rw [hn2]; omega) _) (by omega)
  have HR : Hid (TokAt (((w.alloc (.cells #[.int .i64 c, .int .i64 r, .int .i64 q, .int .i64 a, .int .i64 b, u] 49)).alloc (.cells #[.int .i64 0, .int .i64 0, .int .i64 0, .int .i64 0, .int .i64 0, .slice none 0 0] 49)).alloc (.cells #[] 3)) (w.heap.size + 1) 0 0 0 0 0 (.slice none 0 0)) := by
    have h := heap_alloc_new (w.alloc (.cells #[.int .i64 c, .int .i64 r, .int .i64 q, .int .i64 a, .int .i64 b, u] 49)) (.cells #[.int .i64 0, .int .i64 0, .int .i64 0, .int .i64 0, .int .i64 0, .slice none 0 0] 49)
    rw [hn1] at h
    exact TokAt.stays (B := w.heap.size + 2) h ((Below.refl _ _).alloc (by rw [hn2]; exact Nat.le_refl _) _) (by omega)
  have HO : Hid (OwnI (((w.alloc (.cells #[.int .i64 c, .int .i64 r, .int .i64 q, .int .i64 a, .int .i64 b, u] 49)).alloc (.cells #[.int .i64 0, .int .i64 0, .int .i64 0, .int .i64 0, .int .i64 0, .slice none 0 0] 49)).alloc (.cells #[] 3)) w.heap.size (.slice (some ⟨w.heap.size + 2, 0, none⟩) 0 0) []) := by
    have h := OwnI.made ((w.alloc (.cells #[.int .i64 c, .int .i64 r, .int .i64 q, .int .i64 a, .int .i64 b, u] 49)).alloc (.cells #[.int .i64 0, .int .i64 0, .int .i64 0, .int .i64 0, .int .i64 0, .slice none 0 0] 49)) w.heap.size (by rw [hn2]; omega)
    rw [hn2] at h
    exact h
  have HB : Hid (Below w.heap.size w (((w.alloc (.cells #[.int .i64 c, .int .i64 r, .int .i64 q, .int .i64 a, .int .i64 b, u] 49)).alloc (.cells #[.int .i64 0, .int .i64 0, .int .i64 0, .int .i64 0, .int .i64 0, .slice none 0 0] 49)).alloc (.cells #[] 3))) := (((Below.refl _ _).alloc (Nat.le_refl _) _).alloc (by simp) _).alloc (by simp; omega) _
  have HU : Hid (OwnI (((w.alloc (.cells #[.int .i64 c, .int .i64 r, .int .i64 q, .int .i64 a, .int .i64 b, u] 49)).alloc (.cells #[.int .i64 0, .int .i64 0, .int .i64 0, .int .i64 0, .int .i64 0, .slice none 0 0] 49)).alloc (.cells #[] 3)) B0 u ws) := ((h.out.alloc _).alloc _).alloc _
  have hsz : w.heap.size ≤ (((w.alloc (.cells #[.int .i64 c, .int .i64 r, .int .i64 q, .int .i64 a, .int .i64 b, u] 49)).alloc (.cells #[.int .i64 0, .int .i64 0, .int .i64 0, .int .i64 0, .int .i64 0, .slice none 0 0] 49)).alloc (.cells #[] 3)).heap.size := HB.out.size
  obtain ⟨a0, a1, a2, a3, a4, a5⟩ := HA.out.cells
  have hU : Hid (u = .slice ao ws.length cap) := hu
  clear h hn1 hn2 hu a0 a1 a2 a3 a4
  go_enter Tryz.func87, Tryz.ntmps87
  go_wp2_with (first | (at_builtin; refine wpList_catI rfl _ _ 33 rfl Tryz.underlying33 Tryz.info3' w.heap.size _ [] rfl HO.out B0 _ ws rfl HU.out (by simp; omega) hsz ?_; intro v1 w1 hv1 hg1; have hs1 : Hid (World.grownBy _ w1 (some (w.heap.size + 2))) := hg1; have ht1 : Hid (OwnI w1 w.heap.size v1 ws) := hv1; clear hv1 hg1; refine Stp.here ?_))
  refine Stp.go ?_
  have hv1 := ht1.out
  have hg1 := hs1.out
  generalize (((w.alloc (.cells #[.int .i64 c, .int .i64 r, .int .i64 q, .int .i64 a, .int .i64 b, u] 49)).alloc (.cells #[.int .i64 0, .int .i64 0, .int .i64 0, .int .i64 0, .int .i64 0, .slice none 0 0] 49)).alloc (.cells #[] 3)) = W at *
  have A1 : Hid (TokAt w1 w.heap.size c r q a b u) := (hg1.block _ HA.out.lt (fun e => by simp at e)).trans HA.out
  have R1 : Hid (TokAt w1 (w.heap.size + 1) 0 0 0 0 0 (.slice none 0 0)) := (hg1.block _ HR.out.lt (fun e => by simp at e)).trans HR.out
  have B1 : Hid (Below w.heap.size w w1) := HB.out.grown hg1 hsz (fun k hk => by simp at hk; omega)
  have V1 : Hid (OwnI w1 w.heap.size v1 ws) := hv1
  obtain ⟨ao', cap', rfl⟩ := hv1.form
  clear hs1 ht1 hv1 hg1 HA HR HB HO HU hsz a5 hU
  have c5 := A1.out.cells.2.2.2.2.2
  have f5 := A1.out.frozen 5
  have T2 := (TurnAt.refl w.heap.size w1).setCell 5 (.slice ao' ws.length cap')
  have R2 : Hid (TokAt (w1.setCell ⟨w.heap.size, 5, none⟩ (.slice ao' ws.length cap')) (w.heap.size + 1) 0 0 0 0 0 (.slice none 0 0)) := R1.out.turn T2 (by omega)
  have O2 : Hid (TokAt (w1.setCell ⟨w.heap.size, 5, none⟩ (.slice ao' ws.length cap')) w.heap.size c r q a b (.slice ao' ws.length cap')) := A1.out.set5 _
  have B2 : Hid (Below w.heap.size w (w1.setCell ⟨w.heap.size, 5, none⟩ (.slice ao' ws.length cap'))) := B1.out.trans (T2.below (by omega))
  have V2 : Hid (OwnI (w1.setCell ⟨w.heap.size, 5, none⟩ (.slice ao' ws.length cap')) w.heap.size (.slice ao' ws.length cap') ws) := own_tok V1.out A1.out T2
  clear T2 R1 A1 B1 V1
  obtain ⟨o0, o1, o2, o3, o4, o5⟩ := O2.out.cells
  obtain ⟨r0, r1, r2, r3, r4, r5⟩ := R2.out.cells
  have z0 := R2.out.frozen 0
  have z1 := R2.out.frozen 1
  have z2 := R2.out.frozen 2
  have z3 := R2.out.frozen 3
  have z4 := R2.out.frozen 4
  have z5 := R2.out.frozen 5
  have R3 : TokAt _ (w.heap.size + 1) c r q a b (.slice ao' ws.length cap') := R2.out.agg c r q a b (.slice ao' ws.length cap')
  have T3 := ((((((TurnAt.refl (w.heap.size + 1) (w1.setCell ⟨w.heap.size, 5, none⟩ (.slice ao' ws.length cap'))).setCell 0 (.int .i64 c)).setCell 1 (.int .i64 r)).setCell 2 (.int .i64 q)).setCell 3 (.int .i64 a)).setCell 4 (.int .i64 b)).setCell 5 (.slice ao' ws.length cap')
  have V3 := own_tok V2.out R2.out T3
  have B3 := B2.out.trans (T3.below (by omega))
  clear T3 R2 O2 B2 V2
  go_wp2_with fail
  generalize ((((((((w1.setCell ⟨w.heap.size, 5, none⟩ (.slice ao' ws.length cap')).setCell ⟨w.heap.size + 1, 0, none⟩ (.int .i64 c)).setCell ⟨w.heap.size + 1, 1, none⟩ (.int .i64 r)).setCell ⟨w.heap.size + 1, 2, none⟩ (.int .i64 q)).setCell ⟨w.heap.size + 1, 3, none⟩ (.int .i64 a)).setCell ⟨w.heap.size + 1, 4, none⟩ (.int .i64 b)).setCell ⟨w.heap.size + 1, 5, none⟩ (.slice ao' ws.length cap'))) = W3 at *
  obtain ⟨q0, q1, q2, q3, q4, q5⟩ := R3.cells
  refine bodyPost_ret (v := .agg #[.int .i64 c, .int .i64 r, .int .i64 q, .int .i64 a, .int .i64 b, .slice ao' ws.length cap']) (by simp [results, Tryz.results87, go_sem, q0, q1, q2, q3, q4, q5]) rfl ?_
  exact ⟨_, rfl, V3, B3⟩

end Go.Proofs.YtoahljkifikbaaaGreat


/- The rules that change a token: lower, raise. -/
namespace Go.Proofs.YtoahljkifikbaaaGreat
open Go.RowKit Pl
set_option linter.unusedVariables false

/-- the block g is what a daemon tells. -/
def MkAt (w : World) (g : Nat) (d u : Int) : Prop := w.heap[g]? = some (.cells #[.int .i64 d, .int .i64 u] 252 (0, 0))
theorem MkAt.cells {w : World} {g : Nat} {d u : Int} (h : MkAt w g d u) : w.cell? ⟨g, 0, none⟩ = some (.int .i64 d) ∧ w.cell? ⟨g, 1, none⟩ = some (.int .i64 u) :=
  ⟨by rw [cell_of_row w g 0 _ 252 (0, 0) h]; rfl, by rw [cell_of_row w g 1 _ 252 (0, 0) h]; rfl⟩
theorem TokAt.set3 {w : World} {g : Nat} {c r q a b : Int} {v : Value} (h : TokAt w g c r q a b v) (x : Int) : TokAt (w.setCell ⟨g, 3, none⟩ (.int .i64 x)) g c r q x b v := by
  have := heap_setCell_same w g 3 _ 49 (.int .i64 x) h
  unfold TokAt; rw [this]; rfl
theorem TokAt.drewN {w : World} {g : Nat} {c r q a b : Int} {v : Value} (h : TokAt w g c r q a b v) (n : Nat) : TokAt (w.drewN n) g c r q a b v := by
  unfold TokAt; rw [World.heap_drewN]; exact h
end Go.Proofs.YtoahljkifikbaaaGreat


