/- Joined texts: CCa CMr CMf CMq. -/
import Derived.Test.YthdjkkiegecgnaaHq5
import Derived.Laws.AppendOwnNone
import Derived.Test.YthdjkkiegecgnaaHq1
import Derived.BigQuiet
import Derived.RegionTactic
namespace Go.Proofs.Ythdjkkiegecgnaa
open Go.RowKit Pl
set_option linter.unusedVariables false
structure Stp (p : Prop) : Prop where
 out : p
theorem Stp.here {p : Prop} (h : Stp p) : p := h.out
theorem Stp.go {p : Prop} (h : p) : Stp p := ⟨h⟩
theorem wpList_catI {P : Program} {w : World} {ops : Array Oper} {rest : List Oper} {o : Oper} {a : Act} {Q : Exit → Act → World → Prop}
  (hgd : o.guard = none) (s x : Operand) (t : TypeId) (ho : o.op = .call { callee := .builtin .append, args := #[s, x], argTypes := #[t, t] })
  (ht : P.underlying t = some (.slice 3)) (hinfo : (P.info? 3).map (fun i => (i.zero, i.size, i.bytes)) = some (some (.int .i64 0), 1, 8))
  (B : Nat) (v : Value) (xs : List Int) (hs : a.eval s = v) (hown : OwnI w B v xs)
  (B2 : Nat) (u : Value) (ys : List Int) (hx : a.eval x = u) (hu : OwnI w B2 u ys) (hn : xs.length + ys.length < 4000000) (hB : B ≤ w.heap.size)
  (h : ∀ v' w', OwnI w' B v' (xs ++ ys) → w.grownBy w' v.ownBlock → wpList P ops Q rest (a.put o.dst v') w') :
  wpList P ops Q (o :: rest) a w := by
 obtain ⟨i0, hi, hz0, hz1, hz2⟩ := info_parts hinfo
 have hcells := fun (g : Nat) (hg : u.ownBlock = some g) => World.ownsRow.cells hu hg
 rcases hu.2 with ⟨rfl, h0⟩ | ⟨g, cap, cur, rfl, _⟩
 ·have e : ys = [] := List.eq_nil_of_length_eq_zero h0
  subst e
  refine wpList_append_own_none hgd s x t ho B 3 i0 1 ht hi v xs.length (xs.map (Value.int .i64)) hs hown hx ?_
  exact h v w (by rw [List.append_nil]; exact hown) (World.grownBy.refl _ _)
 ·refine wpList_append_own _ hgd s x t ho B 3 i0 (.int .i64 0) 1 8 ht hi hz0 hz1 hz2 rfl (by decide) v xs.length (xs.map (Value.int .i64)) hs hown ⟨g, 0, none⟩ ys.length cap (ys.map (Value.int .i64)) hx (by simp) (fun j u hj => hcells g rfl j u hj) ?_ (by unfold maxLen; omega) (by omega) hB ?_
  ·intro u hu'
   obtain ⟨y, _, rfl⟩ := List.mem_map.1 hu'
   rfl
  ·intro v' w' hown' hg _
   exact h v' w' (by simpa [OwnI] using hown') hg
set_option maxRecDepth 100000 in
set_option maxHeartbeats 2000000 in
theorem copyTok (c r q a b : Int) (u : Value) (ws : List Int) (B0 : Nat) (w : World) (h : Hid (OwnI w B0 u ws)) (hl : ws.length ≤ 1048576) :
  Calls Try.prog 76 #[.agg #[.int .i64 c, .int .i64 r, .int .i64 q, .int .i64 a, .int .i64 b, u]] w fun e w' => ∃ v, e = .returned (.agg #[.int .i64 c, .int .i64 r, .int .i64 q, .int .i64 a, .int .i64 b, v]) ∧ OwnI w' w.heap.size v ws ∧ Below w.heap.size w w' := by
 obtain ⟨ao, cap, hu⟩ := h.out.form
 have hn1 : (w.alloc (.cells #[.int .i64 c, .int .i64 r, .int .i64 q, .int .i64 a, .int .i64 b, u] 30)).heap.size = w.heap.size + 1 := by simp
 have hn2 : ((w.alloc (.cells #[.int .i64 c, .int .i64 r, .int .i64 q, .int .i64 a, .int .i64 b, u] 30)).alloc (.cells #[.int .i64 0, .int .i64 0, .int .i64 0, .int .i64 0, .int .i64 0, .slice none 0 0] 30)).heap.size = w.heap.size + 2 := by simp
 have HA : Hid (TokAt (((w.alloc (.cells #[.int .i64 c, .int .i64 r, .int .i64 q, .int .i64 a, .int .i64 b, u] 30)).alloc (.cells #[.int .i64 0, .int .i64 0, .int .i64 0, .int .i64 0, .int .i64 0, .slice none 0 0] 30)).alloc (.cells #[] 3)) w.heap.size c r q a b u) := by
  have h := heap_alloc_new w (.cells #[.int .i64 c, .int .i64 r, .int .i64 q, .int .i64 a, .int .i64 b, u] 30)
  exact TokAt.stays (B := w.heap.size + 1) h (((Below.refl _ _).alloc (by rw [hn1]; exact Nat.le_refl _) _).alloc (by rw [hn2]; omega) _) (by omega)
 have HR : Hid (TokAt (((w.alloc (.cells #[.int .i64 c, .int .i64 r, .int .i64 q, .int .i64 a, .int .i64 b, u] 30)).alloc (.cells #[.int .i64 0, .int .i64 0, .int .i64 0, .int .i64 0, .int .i64 0, .slice none 0 0] 30)).alloc (.cells #[] 3)) (w.heap.size + 1) 0 0 0 0 0 (.slice none 0 0)) := by
  have h := heap_alloc_new (w.alloc (.cells #[.int .i64 c, .int .i64 r, .int .i64 q, .int .i64 a, .int .i64 b, u] 30)) (.cells #[.int .i64 0, .int .i64 0, .int .i64 0, .int .i64 0, .int .i64 0, .slice none 0 0] 30)
  rw [hn1] at h
  exact TokAt.stays (B := w.heap.size + 2) h ((Below.refl _ _).alloc (by rw [hn2]; exact Nat.le_refl _) _) (by omega)
 have HO : Hid (OwnI (((w.alloc (.cells #[.int .i64 c, .int .i64 r, .int .i64 q, .int .i64 a, .int .i64 b, u] 30)).alloc (.cells #[.int .i64 0, .int .i64 0, .int .i64 0, .int .i64 0, .int .i64 0, .slice none 0 0] 30)).alloc (.cells #[] 3)) w.heap.size (.slice (some ⟨w.heap.size + 2, 0, none⟩) 0 0) []) := by
  have h := OwnI.made ((w.alloc (.cells #[.int .i64 c, .int .i64 r, .int .i64 q, .int .i64 a, .int .i64 b, u] 30)).alloc (.cells #[.int .i64 0, .int .i64 0, .int .i64 0, .int .i64 0, .int .i64 0, .slice none 0 0] 30)) w.heap.size (by rw [hn2]; omega)
  rw [hn2] at h
  exact h
 have HB : Hid (Below w.heap.size w (((w.alloc (.cells #[.int .i64 c, .int .i64 r, .int .i64 q, .int .i64 a, .int .i64 b, u] 30)).alloc (.cells #[.int .i64 0, .int .i64 0, .int .i64 0, .int .i64 0, .int .i64 0, .slice none 0 0] 30)).alloc (.cells #[] 3))) := (((Below.refl _ _).alloc (Nat.le_refl _) _).alloc (by simp) _).alloc (by simp; omega) _
 have HU : Hid (OwnI (((w.alloc (.cells #[.int .i64 c, .int .i64 r, .int .i64 q, .int .i64 a, .int .i64 b, u] 30)).alloc (.cells #[.int .i64 0, .int .i64 0, .int .i64 0, .int .i64 0, .int .i64 0, .slice none 0 0] 30)).alloc (.cells #[] 3)) B0 u ws) := ((h.out.alloc _).alloc _).alloc _
 have hsz : w.heap.size ≤ (((w.alloc (.cells #[.int .i64 c, .int .i64 r, .int .i64 q, .int .i64 a, .int .i64 b, u] 30)).alloc (.cells #[.int .i64 0, .int .i64 0, .int .i64 0, .int .i64 0, .int .i64 0, .slice none 0 0] 30)).alloc (.cells #[] 3)).heap.size := HB.out.size
 obtain ⟨a0, a1, a2, a3, a4, a5⟩ := HA.out.cells
 have hU : Hid (u = .slice ao ws.length cap) := hu
 clear h hn1 hn2 hu a0 a1 a2 a3 a4
 go_enter Try.func76, Try.ntmps76
 go_wp2_with (first | (at_builtin; refine wpList_catI rfl _ _ 24 rfl Try.underlying24 Try.info3' w.heap.size _ [] rfl HO.out B0 _ ws rfl HU.out (by simp; omega) hsz ?_; intro v1 w1 hv1 hg1; have hs1 : Hid (World.grownBy _ w1 (some (w.heap.size + 2))) := hg1; have ht1 : Hid (OwnI w1 w.heap.size v1 ws) := hv1; clear hv1 hg1; refine Stp.here ?_))
 refine Stp.go ?_
 have hv1 := ht1.out
 have hg1 := hs1.out
 generalize (((w.alloc (.cells #[.int .i64 c, .int .i64 r, .int .i64 q, .int .i64 a, .int .i64 b, u] 30)).alloc (.cells #[.int .i64 0, .int .i64 0, .int .i64 0, .int .i64 0, .int .i64 0, .slice none 0 0] 30)).alloc (.cells #[] 3)) = W at *
 have A1 : Hid (TokAt w1 w.heap.size c r q a b u) := (hg1.block _ HA.out.lt (fun e => by simp at e)).trans HA.out
 have R1 : Hid (TokAt w1 (w.heap.size + 1) 0 0 0 0 0 (.slice none 0 0)) := (hg1.block _ HR.out.lt (fun e => by simp at e)).trans HR.out
 have B1 : Hid (Below w.heap.size w w1) := HB.out.grown hg1 hsz (fun k hk => by simp at hk; omega)
 have V1 : Hid (OwnI w1 w.heap.size v1 ws) := hv1
 obtain ⟨ao', cap', rfl⟩ := hv1.form
 clear hs1 ht1 hv1 hg1 HA HR HB HO HU hsz a5 hU
 have c5 := A1.out.cells.2.2.2.2.2
 have f5 := A1.out.frozen 5
 have T2 := (TurnAt.refl w.heap.size w1).setCell 5 (.slice ao' ws.length cap')
 have R2 := hid (R1.out.turn T2 (by omega))
 have O2 : Hid (TokAt (w1.setCell ⟨w.heap.size, 5, none⟩ (.slice ao' ws.length cap')) w.heap.size c r q a b (.slice ao' ws.length cap')) := A1.out.set5 _
 have B2 := hid (B1.out.trans (T2.below (by omega)))
 have V2 : Hid (OwnI (w1.setCell ⟨w.heap.size, 5, none⟩ (.slice ao' ws.length cap')) w.heap.size (.slice ao' ws.length cap') ws) := own_tok V1.out A1.out T2
 clear T2 R1 A1 B1 V1
 obtain ⟨o0, o1, o2, o3, o4, o5⟩ := O2.out.cells
 obtain ⟨r0, r1, r2, r3, r4, r5⟩ := R2.out.cells
 have z0 := R2.out.frozen 0
 have z1 := R2.out.frozen 1
 have z2 := R2.out.frozen 2
 have z3 := R2.out.frozen 3
 have z4 := R2.out.frozen 4
 have z5 := R2.out.frozen 5
 have R3 : TokAt _ (w.heap.size + 1) c r q a b (.slice ao' ws.length cap') := R2.out.agg c r q a b (.slice ao' ws.length cap')
 have T3 := ((((((TurnAt.refl (w.heap.size + 1) (w1.setCell ⟨w.heap.size, 5, none⟩ (.slice ao' ws.length cap'))).setCell 0 (.int .i64 c)).setCell 1 (.int .i64 r)).setCell 2 (.int .i64 q)).setCell 3 (.int .i64 a)).setCell 4 (.int .i64 b)).setCell 5 (.slice ao' ws.length cap')
 have V3 := own_tok V2.out R2.out T3
 have B3 := B2.out.trans (T3.below (by omega))
 clear T3 R2 O2 B2 V2
 go_wp2_with fail
 generalize ((((((((w1.setCell ⟨w.heap.size, 5, none⟩ (.slice ao' ws.length cap')).setCell ⟨w.heap.size + 1, 0, none⟩ (.int .i64 c)).setCell ⟨w.heap.size + 1, 1, none⟩ (.int .i64 r)).setCell ⟨w.heap.size + 1, 2, none⟩ (.int .i64 q)).setCell ⟨w.heap.size + 1, 3, none⟩ (.int .i64 a)).setCell ⟨w.heap.size + 1, 4, none⟩ (.int .i64 b)).setCell ⟨w.heap.size + 1, 5, none⟩ (.slice ao' ws.length cap'))) = W3 at *
 obtain ⟨q0, q1, q2, q3, q4, q5⟩ := R3.cells
 refine bodyPost_ret (v := .agg #[.int .i64 c, .int .i64 r, .int .i64 q, .int .i64 a, .int .i64 b, .slice ao' ws.length cap']) (by simp [results, Try.results76, go_sem, q0, q1, q2, q3, q4, q5]) rfl ?_
 exact ⟨_, rfl, V3, B3⟩
set_option maxRecDepth 100000 in
set_option maxHeartbeats 2000000 in
theorem spCopyTok (c r q a b : Int) (u : Value) (ws : List Int) (B0 : Nat) (w : World) (h : Hid (OwnI w B0 u ws)) (hl : ws.length ≤ 1048576) :
  Calls Try.prog 116 #[.agg #[.int .i64 c, .int .i64 r, .int .i64 q, .int .i64 a, .int .i64 b, u]] w fun e w' => ∃ v, e = .returned (.agg #[.int .i64 c, .int .i64 r, .int .i64 q, .int .i64 a, .int .i64 b, v]) ∧ OwnI w' w.heap.size v ws ∧ Below w.heap.size w w' := by
 obtain ⟨ao, cap, hu⟩ := h.out.form
 have hn1 : (w.alloc (.cells #[.int .i64 c, .int .i64 r, .int .i64 q, .int .i64 a, .int .i64 b, u] 30)).heap.size = w.heap.size + 1 := by simp
 have hn2 : ((w.alloc (.cells #[.int .i64 c, .int .i64 r, .int .i64 q, .int .i64 a, .int .i64 b, u] 30)).alloc (.cells #[.int .i64 0, .int .i64 0, .int .i64 0, .int .i64 0, .int .i64 0, .slice none 0 0] 30)).heap.size = w.heap.size + 2 := by simp
 have HA : Hid (TokAt (((w.alloc (.cells #[.int .i64 c, .int .i64 r, .int .i64 q, .int .i64 a, .int .i64 b, u] 30)).alloc (.cells #[.int .i64 0, .int .i64 0, .int .i64 0, .int .i64 0, .int .i64 0, .slice none 0 0] 30)).alloc (.cells #[] 3)) w.heap.size c r q a b u) := by
  have h := heap_alloc_new w (.cells #[.int .i64 c, .int .i64 r, .int .i64 q, .int .i64 a, .int .i64 b, u] 30)
  exact TokAt.stays (B := w.heap.size + 1) h (((Below.refl _ _).alloc (by rw [hn1]; exact Nat.le_refl _) _).alloc (by rw [hn2]; omega) _) (by omega)
 have HR : Hid (TokAt (((w.alloc (.cells #[.int .i64 c, .int .i64 r, .int .i64 q, .int .i64 a, .int .i64 b, u] 30)).alloc (.cells #[.int .i64 0, .int .i64 0, .int .i64 0, .int .i64 0, .int .i64 0, .slice none 0 0] 30)).alloc (.cells #[] 3)) (w.heap.size + 1) 0 0 0 0 0 (.slice none 0 0)) := by
  have h := heap_alloc_new (w.alloc (.cells #[.int .i64 c, .int .i64 r, .int .i64 q, .int .i64 a, .int .i64 b, u] 30)) (.cells #[.int .i64 0, .int .i64 0, .int .i64 0, .int .i64 0, .int .i64 0, .slice none 0 0] 30)
  rw [hn1] at h
  exact TokAt.stays (B := w.heap.size + 2) h ((Below.refl _ _).alloc (by rw [hn2]; exact Nat.le_refl _) _) (by omega)
 have HO : Hid (OwnI (((w.alloc (.cells #[.int .i64 c, .int .i64 r, .int .i64 q, .int .i64 a, .int .i64 b, u] 30)).alloc (.cells #[.int .i64 0, .int .i64 0, .int .i64 0, .int .i64 0, .int .i64 0, .slice none 0 0] 30)).alloc (.cells #[] 3)) w.heap.size (.slice (some ⟨w.heap.size + 2, 0, none⟩) 0 0) []) := by
  have h := OwnI.made ((w.alloc (.cells #[.int .i64 c, .int .i64 r, .int .i64 q, .int .i64 a, .int .i64 b, u] 30)).alloc (.cells #[.int .i64 0, .int .i64 0, .int .i64 0, .int .i64 0, .int .i64 0, .slice none 0 0] 30)) w.heap.size (by rw [hn2]; omega)
  rw [hn2] at h
  exact h
 have HB : Hid (Below w.heap.size w (((w.alloc (.cells #[.int .i64 c, .int .i64 r, .int .i64 q, .int .i64 a, .int .i64 b, u] 30)).alloc (.cells #[.int .i64 0, .int .i64 0, .int .i64 0, .int .i64 0, .int .i64 0, .slice none 0 0] 30)).alloc (.cells #[] 3))) := (((Below.refl _ _).alloc (Nat.le_refl _) _).alloc (by simp) _).alloc (by simp; omega) _
 have HU : Hid (OwnI (((w.alloc (.cells #[.int .i64 c, .int .i64 r, .int .i64 q, .int .i64 a, .int .i64 b, u] 30)).alloc (.cells #[.int .i64 0, .int .i64 0, .int .i64 0, .int .i64 0, .int .i64 0, .slice none 0 0] 30)).alloc (.cells #[] 3)) B0 u ws) := ((h.out.alloc _).alloc _).alloc _
 have hsz : w.heap.size ≤ (((w.alloc (.cells #[.int .i64 c, .int .i64 r, .int .i64 q, .int .i64 a, .int .i64 b, u] 30)).alloc (.cells #[.int .i64 0, .int .i64 0, .int .i64 0, .int .i64 0, .int .i64 0, .slice none 0 0] 30)).alloc (.cells #[] 3)).heap.size := HB.out.size
 obtain ⟨a0, a1, a2, a3, a4, a5⟩ := HA.out.cells
 have hU : Hid (u = .slice ao ws.length cap) := hu
 clear h hn1 hn2 hu a0 a1 a2 a3 a4
 go_enter Try.func116, Try.ntmps116
 go_wp2_with (first | (at_builtin; refine wpList_catI rfl _ _ 24 rfl Try.underlying24 Try.info3' w.heap.size _ [] rfl HO.out B0 _ ws rfl HU.out (by simp; omega) hsz ?_; intro v1 w1 hv1 hg1; have hs1 : Hid (World.grownBy _ w1 (some (w.heap.size + 2))) := hg1; have ht1 : Hid (OwnI w1 w.heap.size v1 ws) := hv1; clear hv1 hg1; refine Stp.here ?_))
 refine Stp.go ?_
 have hv1 := ht1.out
 have hg1 := hs1.out
 generalize (((w.alloc (.cells #[.int .i64 c, .int .i64 r, .int .i64 q, .int .i64 a, .int .i64 b, u] 30)).alloc (.cells #[.int .i64 0, .int .i64 0, .int .i64 0, .int .i64 0, .int .i64 0, .slice none 0 0] 30)).alloc (.cells #[] 3)) = W at *
 have A1 : Hid (TokAt w1 w.heap.size c r q a b u) := (hg1.block _ HA.out.lt (fun e => by simp at e)).trans HA.out
 have R1 : Hid (TokAt w1 (w.heap.size + 1) 0 0 0 0 0 (.slice none 0 0)) := (hg1.block _ HR.out.lt (fun e => by simp at e)).trans HR.out
 have B1 : Hid (Below w.heap.size w w1) := HB.out.grown hg1 hsz (fun k hk => by simp at hk; omega)
 have V1 : Hid (OwnI w1 w.heap.size v1 ws) := hv1
 obtain ⟨ao', cap', rfl⟩ := hv1.form
 clear hs1 ht1 hv1 hg1 HA HR HB HO HU hsz a5 hU
 have c5 := A1.out.cells.2.2.2.2.2
 have f5 := A1.out.frozen 5
 have T2 := (TurnAt.refl w.heap.size w1).setCell 5 (.slice ao' ws.length cap')
 have R2 := hid (R1.out.turn T2 (by omega))
 have O2 : Hid (TokAt (w1.setCell ⟨w.heap.size, 5, none⟩ (.slice ao' ws.length cap')) w.heap.size c r q a b (.slice ao' ws.length cap')) := A1.out.set5 _
 have B2 := hid (B1.out.trans (T2.below (by omega)))
 have V2 : Hid (OwnI (w1.setCell ⟨w.heap.size, 5, none⟩ (.slice ao' ws.length cap')) w.heap.size (.slice ao' ws.length cap') ws) := own_tok V1.out A1.out T2
 clear T2 R1 A1 B1 V1
 obtain ⟨o0, o1, o2, o3, o4, o5⟩ := O2.out.cells
 obtain ⟨r0, r1, r2, r3, r4, r5⟩ := R2.out.cells
 have z0 := R2.out.frozen 0
 have z1 := R2.out.frozen 1
 have z2 := R2.out.frozen 2
 have z3 := R2.out.frozen 3
 have z4 := R2.out.frozen 4
 have z5 := R2.out.frozen 5
 have R3 : TokAt _ (w.heap.size + 1) c r q a b (.slice ao' ws.length cap') := R2.out.agg c r q a b (.slice ao' ws.length cap')
 have T3 := ((((((TurnAt.refl (w.heap.size + 1) (w1.setCell ⟨w.heap.size, 5, none⟩ (.slice ao' ws.length cap'))).setCell 0 (.int .i64 c)).setCell 1 (.int .i64 r)).setCell 2 (.int .i64 q)).setCell 3 (.int .i64 a)).setCell 4 (.int .i64 b)).setCell 5 (.slice ao' ws.length cap')
 have V3 := own_tok V2.out R2.out T3
 have B3 := B2.out.trans (T3.below (by omega))
 clear T3 R2 O2 B2 V2
 go_wp2_with fail
 generalize ((((((((w1.setCell ⟨w.heap.size, 5, none⟩ (.slice ao' ws.length cap')).setCell ⟨w.heap.size + 1, 0, none⟩ (.int .i64 c)).setCell ⟨w.heap.size + 1, 1, none⟩ (.int .i64 r)).setCell ⟨w.heap.size + 1, 2, none⟩ (.int .i64 q)).setCell ⟨w.heap.size + 1, 3, none⟩ (.int .i64 a)).setCell ⟨w.heap.size + 1, 4, none⟩ (.int .i64 b)).setCell ⟨w.heap.size + 1, 5, none⟩ (.slice ao' ws.length cap'))) = W3 at *
 obtain ⟨q0, q1, q2, q3, q4, q5⟩ := R3.cells
 refine bodyPost_ret (v := .agg #[.int .i64 c, .int .i64 r, .int .i64 q, .int .i64 a, .int .i64 b, .slice ao' ws.length cap']) (by simp [results, Try.results116, go_sem, q0, q1, q2, q3, q4, q5]) rfl ?_
 exact ⟨_, rfl, V3, B3⟩
def MkAt (w : World) (g : Nat) (d u : Int) : Prop := w.heap[g]? = some (.cells #[.int .i64 d, .int .i64 u] 166 (0, 0))
theorem MkAt.cells {w : World} {g : Nat} {d u : Int} (h : MkAt w g d u) : w.cell? ⟨g, 0, none⟩ = some (.int .i64 d) ∧ w.cell? ⟨g, 1, none⟩ = some (.int .i64 u) :=
 ⟨by rw [cell_of_row w g 0 _ 166 (0, 0) h]; rfl, by rw [cell_of_row w g 1 _ 166 (0, 0) h]; rfl⟩
theorem TokAt.set3 {w : World} {g : Nat} {c r q a b : Int} {v : Value} (h : TokAt w g c r q a b v) (x : Int) : TokAt (w.setCell ⟨g, 3, none⟩ (.int .i64 x)) g c r q x b v := by
 have := heap_setCell_same w g 3 _ 30 (.int .i64 x) h
 unfold TokAt; rw [this]; rfl
theorem TokAt.set4 {w : World} {g : Nat} {c r q a b : Int} {v : Value} (h : TokAt w g c r q a b v) (x : Int) : TokAt (w.setCell ⟨g, 4, none⟩ (.int .i64 x)) g c r q a x v := by
 have := heap_setCell_same w g 4 _ 30 (.int .i64 x) h
 unfold TokAt; rw [this]; rfl
theorem TokAt.drewN {w : World} {g : Nat} {c r q a b : Int} {v : Value} (h : TokAt w g c r q a b v) (n : Nat) : TokAt (w.drewN n) g c r q a b v := by
 unfold TokAt; rw [World.heap_drewN]; exact h
def RlAt (w : World) (g : Nat) (d u : Int) : Prop := w.heap[g]? = some (.cells #[.func (Fn.func 137) #[.agg #[.int .i64 d, .int .i64 u]] #[], .func (Fn.func 138) #[.agg #[.int .i64 d, .int .i64 u]] #[]] 201 (0, 0))
theorem RlAt.cells {w : World} {g : Nat} {d u : Int} (h : RlAt w g d u) : w.cell? ⟨g, 0, none⟩ = some (.func (Fn.func 137) #[.agg #[.int .i64 d, .int .i64 u]] #[]) ∧ w.cell? ⟨g, 1, none⟩ = some (.func (Fn.func 138) #[.agg #[.int .i64 d, .int .i64 u]] #[]) :=
 ⟨by rw [cell_of_row w g 0 _ 201 (0, 0) h]; rfl, by rw [cell_of_row w g 1 _ 201 (0, 0) h]; rfl⟩
theorem RlAt.lt {w : World} {g : Nat} {d u : Int} (h : RlAt w g d u) : g < w.heap.size := (Array.getElem?_eq_some_iff.1 h).1
theorem RlAt.keep {w w' : World} {g k : Nat} {d u : Int} (h : RlAt w g d u) (hk : KeepBut k w w') (hg : g ≠ k) : RlAt w' g d u := (hk.block g h.lt hg).trans h
def aruM (q a b d u : Int) : Int := if u < a then u else if b = d then min u q else a
def byM (q a b d u : Int) : Int := if u < a then d else if b = d then (if min u q = q then 0 else b) else b
theorem own_later' {w w' : World} {B : Nat} {v : Value} {ss : List Int} (h : OwnI w B v ss) (hb : Below w.heap.size w w') : OwnI w' B v ss := h.stays hb (fun k hk => (h.lt k hk).2)
def markOk (c r q a b : Int) (ws : List Int) (d u : Int) : Bool := tkB c r q a b ws && (decide (1 ≤ d ∧ d ≤ 5) && decide (0 ≤ u))
def markA (c r q a b : Int) (ws : List Int) (d u : Int) : Int := if markOk c r q a b ws d u then aruM q a b d u else a
def markD (c r q a b : Int) (ws : List Int) (d u : Int) : Int := if markOk c r q a b ws d u then byM q a b d u else b
set_option maxRecDepth 100000 in
set_option maxHeartbeats 2000000 in
theorem spMark_0 (c r q a b d u : Int) (u0 : Value) (ws : List Int) (B0 : Nat) (w : World) (h : Hid (OwnI w B0 u0 ws)) (hl : ws.length ≤ 1048576) (ht : Hid (tkB c r q a b ws = false)) :
  Calls Try.prog 212 #[.agg #[.int .i64 c, .int .i64 r, .int .i64 q, .int .i64 a, .int .i64 b, u0], .int .i64 d, .int .i64 u] w fun e w' => ∃ v, e = .returned (.agg #[.int .i64 c, .int .i64 r, .int .i64 q, .int .i64 a, .int .i64 b, v]) ∧ OwnI w' w.heap.size v ws ∧ Below w.heap.size w w' := by
 have hn1 : (w.alloc (.cells #[.int .i64 c, .int .i64 r, .int .i64 q, .int .i64 a, .int .i64 b, u0] 30)).heap.size = w.heap.size + 1 := by simp
 have HA : Hid (TokAt ((w.alloc (.cells #[.int .i64 c, .int .i64 r, .int .i64 q, .int .i64 a, .int .i64 b, u0] 30)).alloc (.cells #[.int .i64 0, .int .i64 0, .int .i64 0, .int .i64 0, .int .i64 0, .slice none 0 0] 30)) w.heap.size c r q a b u0) := by
  have h := heap_alloc_new w (.cells #[.int .i64 c, .int .i64 r, .int .i64 q, .int .i64 a, .int .i64 b, u0] 30)
  exact TokAt.stays (B := w.heap.size + 1) h ((Below.refl _ _).alloc (by rw [hn1]; exact Nat.le_refl _) _) (by omega)
 have HR : Hid (TokAt ((w.alloc (.cells #[.int .i64 c, .int .i64 r, .int .i64 q, .int .i64 a, .int .i64 b, u0] 30)).alloc (.cells #[.int .i64 0, .int .i64 0, .int .i64 0, .int .i64 0, .int .i64 0, .slice none 0 0] 30)) (w.heap.size + 1) 0 0 0 0 0 (.slice none 0 0)) := by
  have h := heap_alloc_new (w.alloc (.cells #[.int .i64 c, .int .i64 r, .int .i64 q, .int .i64 a, .int .i64 b, u0] 30)) (.cells #[.int .i64 0, .int .i64 0, .int .i64 0, .int .i64 0, .int .i64 0, .slice none 0 0] 30)
  rw [hn1] at h
  exact h
 have HB : Hid (Below w.heap.size w ((w.alloc (.cells #[.int .i64 c, .int .i64 r, .int .i64 q, .int .i64 a, .int .i64 b, u0] 30)).alloc (.cells #[.int .i64 0, .int .i64 0, .int .i64 0, .int .i64 0, .int .i64 0, .slice none 0 0] 30))) := ((Below.refl _ _).alloc (Nat.le_refl _) _).alloc (by simp) _
 have HU : Hid (OwnI ((w.alloc (.cells #[.int .i64 c, .int .i64 r, .int .i64 q, .int .i64 a, .int .i64 b, u0] 30)).alloc (.cells #[.int .i64 0, .int .i64 0, .int .i64 0, .int .i64 0, .int .i64 0, .slice none 0 0] 30)) B0 u0 ws) := (h.out.alloc _).alloc _
 clear h hn1
 go_enter Try.func212, Try.ntmps212
 go_wp2_with fail
 generalize ((w.alloc (.cells #[.int .i64 c, .int .i64 r, .int .i64 q, .int .i64 a, .int .i64 b, u0] 30)).alloc (.cells #[.int .i64 0, .int .i64 0, .int .i64 0, .int .i64 0, .int .i64 0, .slice none 0 0] 30)) = W at *
 have hWs : w.heap.size ≤ W.heap.size := HB.out.size
 have hWr : w.heap.size + 1 < W.heap.size := HR.out.lt
 refine (spCopyTok c r q a b u0 ws B0 W HU hl).mono ?_
 rintro e w1 ⟨v1, rfl, hv1, hb1⟩
 obtain ⟨ao1, cap1, hf1⟩ := hv1.form
 subst hf1
 have O1 : Hid (TokAt (w1.alloc (.cells #[.int .i64 c, .int .i64 r, .int .i64 q, .int .i64 a, .int .i64 b, .slice ao1 ws.length cap1] 30)) w1.heap.size c r q a b (.slice ao1 ws.length cap1)) := heap_alloc_new w1 _
 have E1 : Below W.heap.size W (w1.alloc (.cells #[.int .i64 c, .int .i64 r, .int .i64 q, .int .i64 a, .int .i64 b, .slice ao1 ws.length cap1] 30)) := hb1.alloc hb1.size _
 have A1 := hid (HA.out.stays E1 HA.out.lt)
 have R1 := hid (HR.out.stays E1 HR.out.lt)
 have V1 : Hid (OwnI (w1.alloc (.cells #[.int .i64 c, .int .i64 r, .int .i64 q, .int .i64 a, .int .i64 b, .slice ao1 ws.length cap1] 30)) w.heap.size (.slice ao1 ws.length cap1) ws) := (hv1.alloc _).down hWs
 have B1 := hid (HB.out.trans (E1.mono hWs))
 have U1 : Hid (OwnI (w1.alloc (.cells #[.int .i64 c, .int .i64 r, .int .i64 q, .int .i64 a, .int .i64 b, .slice ao1 ws.length cap1] 30)) B0 u0 ws) := HU.out.stays E1 (fun k hk => (HU.out.lt k hk).2)
 have hgO : w.heap.size + 1 < w1.heap.size := Nat.lt_of_lt_of_le hWr hb1.size
 obtain ⟨s0, s1, s2, s3, s4, s5⟩ := A1.out.cells
 clear hv1 hb1 E1 HA HR HU HB hWs hWr
 go_wp2_with fail
 generalize w1.alloc (.cells #[.int .i64 c, .int .i64 r, .int .i64 q, .int .i64 a, .int .i64 b, .slice ao1 ws.length cap1] 30) = W1 at *
 generalize w1.heap.size = gO at *
 obtain ⟨ao0, cap0, hu0, hx0⟩ := U1.out.ints
 have X1 : Hid (IntsAt W1 ao0 ws) := hx0
 subst hu0
 refine (spTokenOk_any c r q a b ao0 cap0 ws _ X1 hl).mono ?_
 rintro e w2 ⟨rfl, hb2⟩
 have OO := hid (O1.out.stays hb2 O1.out.lt)
 have RR := hid (R1.out.stays hb2 R1.out.lt)
 have LL : Hid (OwnI w2 w.heap.size (.slice ao1 ws.length cap1) ws) := own_later' V1.out hb2
 have BB := hid (B1.out.trans (hb2.mono B1.out.size))
 clear hb2 O1 R1 V1 B1 A1 U1 X1 hx0 s0 s1 s2 s3 s4 s5
 rw [ht.out]
 clear ht
 obtain ⟨x0, x1, x2, x3, x4, x5⟩ := OO.out.cells
 obtain ⟨y0, y1, y2, y3, y4, y5⟩ := RR.out.cells
 have m0 := RR.out.frozen 0
 have m1 := RR.out.frozen 1
 have m2 := RR.out.frozen 2
 have m3 := RR.out.frozen 3
 have m4 := RR.out.frozen 4
 have m5 := RR.out.frozen 5
 go_wp2_with fail
 have R3 : TokAt _ (w.heap.size + 1) c r q a b (.slice ao1 ws.length cap1) := RR.out.agg c r q a b (.slice ao1 ws.length cap1)
 have T3 := (((((( TurnAt.refl (w.heap.size + 1) w2).setCell 0 (.int .i64 c)).setCell 1 (.int .i64 r)).setCell 2 (.int .i64 q)).setCell 3 (.int .i64 a)).setCell 4 (.int .i64 b)).setCell 5 (.slice ao1 ws.length cap1)
 have V3 := own_tok LL.out RR.out T3
 have B3 := BB.out.trans (T3.below (by omega))
 clear T3
 generalize ((((((w2.setCell ⟨w.heap.size + 1, 0, none⟩ (.int .i64 c)).setCell ⟨w.heap.size + 1, 1, none⟩ (.int .i64 r)).setCell ⟨w.heap.size + 1, 2, none⟩ (.int .i64 q)).setCell ⟨w.heap.size + 1, 3, none⟩ (.int .i64 a)).setCell ⟨w.heap.size + 1, 4, none⟩ (.int .i64 b)).setCell ⟨w.heap.size + 1, 5, none⟩ (.slice ao1 ws.length cap1)) = W3 at *
 obtain ⟨q0, q1, q2, q3, q4, q5⟩ := R3.cells
 refine bodyPost_ret (v := .agg #[.int .i64 c, .int .i64 r, .int .i64 q, .int .i64 a, .int .i64 b, .slice ao1 ws.length cap1]) (by simp [results, Try.results212, go_sem, q0, q1, q2, q3, q4, q5]) rfl ?_
 exact ⟨_, rfl, V3, B3⟩
set_option maxRecDepth 100000 in
set_option maxHeartbeats 2000000 in
theorem spMark_1 (c r q a b d u : Int) (u0 : Value) (ws : List Int) (B0 : Nat) (w : World) (h : Hid (OwnI w B0 u0 ws)) (hl : ws.length ≤ 1048576) (ht : Hid (tkB c r q a b ws = true)) (hd : decide (1 ≤ d ∧ d ≤ 5) = false) :
  Calls Try.prog 212 #[.agg #[.int .i64 c, .int .i64 r, .int .i64 q, .int .i64 a, .int .i64 b, u0], .int .i64 d, .int .i64 u] w fun e w' => ∃ v, e = .returned (.agg #[.int .i64 c, .int .i64 r, .int .i64 q, .int .i64 a, .int .i64 b, v]) ∧ OwnI w' w.heap.size v ws ∧ Below w.heap.size w w' := by
 have hn1 : (w.alloc (.cells #[.int .i64 c, .int .i64 r, .int .i64 q, .int .i64 a, .int .i64 b, u0] 30)).heap.size = w.heap.size + 1 := by simp
 have HA : Hid (TokAt ((w.alloc (.cells #[.int .i64 c, .int .i64 r, .int .i64 q, .int .i64 a, .int .i64 b, u0] 30)).alloc (.cells #[.int .i64 0, .int .i64 0, .int .i64 0, .int .i64 0, .int .i64 0, .slice none 0 0] 30)) w.heap.size c r q a b u0) := by
  have h := heap_alloc_new w (.cells #[.int .i64 c, .int .i64 r, .int .i64 q, .int .i64 a, .int .i64 b, u0] 30)
  exact TokAt.stays (B := w.heap.size + 1) h ((Below.refl _ _).alloc (by rw [hn1]; exact Nat.le_refl _) _) (by omega)
 have HR : Hid (TokAt ((w.alloc (.cells #[.int .i64 c, .int .i64 r, .int .i64 q, .int .i64 a, .int .i64 b, u0] 30)).alloc (.cells #[.int .i64 0, .int .i64 0, .int .i64 0, .int .i64 0, .int .i64 0, .slice none 0 0] 30)) (w.heap.size + 1) 0 0 0 0 0 (.slice none 0 0)) := by
  have h := heap_alloc_new (w.alloc (.cells #[.int .i64 c, .int .i64 r, .int .i64 q, .int .i64 a, .int .i64 b, u0] 30)) (.cells #[.int .i64 0, .int .i64 0, .int .i64 0, .int .i64 0, .int .i64 0, .slice none 0 0] 30)
  rw [hn1] at h
  exact h
 have HB : Hid (Below w.heap.size w ((w.alloc (.cells #[.int .i64 c, .int .i64 r, .int .i64 q, .int .i64 a, .int .i64 b, u0] 30)).alloc (.cells #[.int .i64 0, .int .i64 0, .int .i64 0, .int .i64 0, .int .i64 0, .slice none 0 0] 30))) := ((Below.refl _ _).alloc (Nat.le_refl _) _).alloc (by simp) _
 have HU : Hid (OwnI ((w.alloc (.cells #[.int .i64 c, .int .i64 r, .int .i64 q, .int .i64 a, .int .i64 b, u0] 30)).alloc (.cells #[.int .i64 0, .int .i64 0, .int .i64 0, .int .i64 0, .int .i64 0, .slice none 0 0] 30)) B0 u0 ws) := (h.out.alloc _).alloc _
 clear h hn1
 go_enter Try.func212, Try.ntmps212
 go_wp2_with fail
 generalize ((w.alloc (.cells #[.int .i64 c, .int .i64 r, .int .i64 q, .int .i64 a, .int .i64 b, u0] 30)).alloc (.cells #[.int .i64 0, .int .i64 0, .int .i64 0, .int .i64 0, .int .i64 0, .slice none 0 0] 30)) = W at *
 have hWs : w.heap.size ≤ W.heap.size := HB.out.size
 have hWr : w.heap.size + 1 < W.heap.size := HR.out.lt
 refine (spCopyTok c r q a b u0 ws B0 W HU hl).mono ?_
 rintro e w1 ⟨v1, rfl, hv1, hb1⟩
 obtain ⟨ao1, cap1, hf1⟩ := hv1.form
 subst hf1
 have O1 : Hid (TokAt (w1.alloc (.cells #[.int .i64 c, .int .i64 r, .int .i64 q, .int .i64 a, .int .i64 b, .slice ao1 ws.length cap1] 30)) w1.heap.size c r q a b (.slice ao1 ws.length cap1)) := heap_alloc_new w1 _
 have E1 : Below W.heap.size W (w1.alloc (.cells #[.int .i64 c, .int .i64 r, .int .i64 q, .int .i64 a, .int .i64 b, .slice ao1 ws.length cap1] 30)) := hb1.alloc hb1.size _
 have A1 := hid (HA.out.stays E1 HA.out.lt)
 have R1 := hid (HR.out.stays E1 HR.out.lt)
 have V1 : Hid (OwnI (w1.alloc (.cells #[.int .i64 c, .int .i64 r, .int .i64 q, .int .i64 a, .int .i64 b, .slice ao1 ws.length cap1] 30)) w.heap.size (.slice ao1 ws.length cap1) ws) := (hv1.alloc _).down hWs
 have B1 := hid (HB.out.trans (E1.mono hWs))
 have U1 : Hid (OwnI (w1.alloc (.cells #[.int .i64 c, .int .i64 r, .int .i64 q, .int .i64 a, .int .i64 b, .slice ao1 ws.length cap1] 30)) B0 u0 ws) := HU.out.stays E1 (fun k hk => (HU.out.lt k hk).2)
 have hgO : w.heap.size + 1 < w1.heap.size := Nat.lt_of_lt_of_le hWr hb1.size
 obtain ⟨s0, s1, s2, s3, s4, s5⟩ := A1.out.cells
 clear hv1 hb1 E1 HA HR HU HB hWs hWr
 go_wp2_with fail
 generalize w1.alloc (.cells #[.int .i64 c, .int .i64 r, .int .i64 q, .int .i64 a, .int .i64 b, .slice ao1 ws.length cap1] 30) = W1 at *
 generalize w1.heap.size = gO at *
 obtain ⟨ao0, cap0, hu0, hx0⟩ := U1.out.ints
 have X1 : Hid (IntsAt W1 ao0 ws) := hx0
 subst hu0
 refine (spTokenOk_any c r q a b ao0 cap0 ws _ X1 hl).mono ?_
 rintro e w2 ⟨rfl, hb2⟩
 have OO := hid (O1.out.stays hb2 O1.out.lt)
 have RR := hid (R1.out.stays hb2 R1.out.lt)
 have LL : Hid (OwnI w2 w.heap.size (.slice ao1 ws.length cap1) ws) := own_later' V1.out hb2
 have BB := hid (B1.out.trans (hb2.mono B1.out.size))
 clear hb2 O1 R1 V1 B1 A1 U1 X1 hx0 s0 s1 s2 s3 s4 s5
 rw [ht.out]
 clear ht
 go_wp2_with fail
 refine (in_is _ hd).mono ?_
 rintro e w3 ⟨rfl, rfl⟩
 obtain ⟨x0, x1, x2, x3, x4, x5⟩ := OO.out.cells
 obtain ⟨y0, y1, y2, y3, y4, y5⟩ := RR.out.cells
 have m0 := RR.out.frozen 0
 have m1 := RR.out.frozen 1
 have m2 := RR.out.frozen 2
 have m3 := RR.out.frozen 3
 have m4 := RR.out.frozen 4
 have m5 := RR.out.frozen 5
 go_wp2_with fail
 have R3 : TokAt _ (w.heap.size + 1) c r q a b (.slice ao1 ws.length cap1) := RR.out.agg c r q a b (.slice ao1 ws.length cap1)
 have T3 := (((((( TurnAt.refl (w.heap.size + 1) w3).setCell 0 (.int .i64 c)).setCell 1 (.int .i64 r)).setCell 2 (.int .i64 q)).setCell 3 (.int .i64 a)).setCell 4 (.int .i64 b)).setCell 5 (.slice ao1 ws.length cap1)
 have V3 := own_tok LL.out RR.out T3
 have B3 := BB.out.trans (T3.below (by omega))
 clear T3
 generalize ((((((w3.setCell ⟨w.heap.size + 1, 0, none⟩ (.int .i64 c)).setCell ⟨w.heap.size + 1, 1, none⟩ (.int .i64 r)).setCell ⟨w.heap.size + 1, 2, none⟩ (.int .i64 q)).setCell ⟨w.heap.size + 1, 3, none⟩ (.int .i64 a)).setCell ⟨w.heap.size + 1, 4, none⟩ (.int .i64 b)).setCell ⟨w.heap.size + 1, 5, none⟩ (.slice ao1 ws.length cap1)) = W3 at *
 obtain ⟨q0, q1, q2, q3, q4, q5⟩ := R3.cells
 refine bodyPost_ret (v := .agg #[.int .i64 c, .int .i64 r, .int .i64 q, .int .i64 a, .int .i64 b, .slice ao1 ws.length cap1]) (by simp [results, Try.results212, go_sem, q0, q1, q2, q3, q4, q5]) rfl ?_
 exact ⟨_, rfl, V3, B3⟩
set_option maxRecDepth 100000 in
set_option maxHeartbeats 2000000 in
theorem spMark_2 (c r q a b d u : Int) (u0 : Value) (ws : List Int) (B0 : Nat) (w : World) (h : Hid (OwnI w B0 u0 ws)) (hl : ws.length ≤ 1048576) (ht : Hid (tkB c r q a b ws = true)) (hd : decide (1 ≤ d ∧ d ≤ 5) = true) (hu : u < 0) :
  Calls Try.prog 212 #[.agg #[.int .i64 c, .int .i64 r, .int .i64 q, .int .i64 a, .int .i64 b, u0], .int .i64 d, .int .i64 u] w fun e w' => ∃ v, e = .returned (.agg #[.int .i64 c, .int .i64 r, .int .i64 q, .int .i64 a, .int .i64 b, v]) ∧ OwnI w' w.heap.size v ws ∧ Below w.heap.size w w' := by
 have hn1 : (w.alloc (.cells #[.int .i64 c, .int .i64 r, .int .i64 q, .int .i64 a, .int .i64 b, u0] 30)).heap.size = w.heap.size + 1 := by simp
 have HA : Hid (TokAt ((w.alloc (.cells #[.int .i64 c, .int .i64 r, .int .i64 q, .int .i64 a, .int .i64 b, u0] 30)).alloc (.cells #[.int .i64 0, .int .i64 0, .int .i64 0, .int .i64 0, .int .i64 0, .slice none 0 0] 30)) w.heap.size c r q a b u0) := by
  have h := heap_alloc_new w (.cells #[.int .i64 c, .int .i64 r, .int .i64 q, .int .i64 a, .int .i64 b, u0] 30)
  exact TokAt.stays (B := w.heap.size + 1) h ((Below.refl _ _).alloc (by rw [hn1]; exact Nat.le_refl _) _) (by omega)
 have HR : Hid (TokAt ((w.alloc (.cells #[.int .i64 c, .int .i64 r, .int .i64 q, .int .i64 a, .int .i64 b, u0] 30)).alloc (.cells #[.int .i64 0, .int .i64 0, .int .i64 0, .int .i64 0, .int .i64 0, .slice none 0 0] 30)) (w.heap.size + 1) 0 0 0 0 0 (.slice none 0 0)) := by
  have h := heap_alloc_new (w.alloc (.cells #[.int .i64 c, .int .i64 r, .int .i64 q, .int .i64 a, .int .i64 b, u0] 30)) (.cells #[.int .i64 0, .int .i64 0, .int .i64 0, .int .i64 0, .int .i64 0, .slice none 0 0] 30)
  rw [hn1] at h
  exact h
 have HB : Hid (Below w.heap.size w ((w.alloc (.cells #[.int .i64 c, .int .i64 r, .int .i64 q, .int .i64 a, .int .i64 b, u0] 30)).alloc (.cells #[.int .i64 0, .int .i64 0, .int .i64 0, .int .i64 0, .int .i64 0, .slice none 0 0] 30))) := ((Below.refl _ _).alloc (Nat.le_refl _) _).alloc (by simp) _
 have HU : Hid (OwnI ((w.alloc (.cells #[.int .i64 c, .int .i64 r, .int .i64 q, .int .i64 a, .int .i64 b, u0] 30)).alloc (.cells #[.int .i64 0, .int .i64 0, .int .i64 0, .int .i64 0, .int .i64 0, .slice none 0 0] 30)) B0 u0 ws) := (h.out.alloc _).alloc _
 clear h hn1
 go_enter Try.func212, Try.ntmps212
 go_wp2_with fail
 generalize ((w.alloc (.cells #[.int .i64 c, .int .i64 r, .int .i64 q, .int .i64 a, .int .i64 b, u0] 30)).alloc (.cells #[.int .i64 0, .int .i64 0, .int .i64 0, .int .i64 0, .int .i64 0, .slice none 0 0] 30)) = W at *
 have hWs : w.heap.size ≤ W.heap.size := HB.out.size
 have hWr : w.heap.size + 1 < W.heap.size := HR.out.lt
 refine (spCopyTok c r q a b u0 ws B0 W HU hl).mono ?_
 rintro e w1 ⟨v1, rfl, hv1, hb1⟩
 obtain ⟨ao1, cap1, hf1⟩ := hv1.form
 subst hf1
 have O1 : Hid (TokAt (w1.alloc (.cells #[.int .i64 c, .int .i64 r, .int .i64 q, .int .i64 a, .int .i64 b, .slice ao1 ws.length cap1] 30)) w1.heap.size c r q a b (.slice ao1 ws.length cap1)) := heap_alloc_new w1 _
 have E1 : Below W.heap.size W (w1.alloc (.cells #[.int .i64 c, .int .i64 r, .int .i64 q, .int .i64 a, .int .i64 b, .slice ao1 ws.length cap1] 30)) := hb1.alloc hb1.size _
 have A1 := hid (HA.out.stays E1 HA.out.lt)
 have R1 := hid (HR.out.stays E1 HR.out.lt)
 have V1 : Hid (OwnI (w1.alloc (.cells #[.int .i64 c, .int .i64 r, .int .i64 q, .int .i64 a, .int .i64 b, .slice ao1 ws.length cap1] 30)) w.heap.size (.slice ao1 ws.length cap1) ws) := (hv1.alloc _).down hWs
 have B1 := hid (HB.out.trans (E1.mono hWs))
 have U1 : Hid (OwnI (w1.alloc (.cells #[.int .i64 c, .int .i64 r, .int .i64 q, .int .i64 a, .int .i64 b, .slice ao1 ws.length cap1] 30)) B0 u0 ws) := HU.out.stays E1 (fun k hk => (HU.out.lt k hk).2)
 have hgO : w.heap.size + 1 < w1.heap.size := Nat.lt_of_lt_of_le hWr hb1.size
 obtain ⟨s0, s1, s2, s3, s4, s5⟩ := A1.out.cells
 clear hv1 hb1 E1 HA HR HU HB hWs hWr
 go_wp2_with fail
 generalize w1.alloc (.cells #[.int .i64 c, .int .i64 r, .int .i64 q, .int .i64 a, .int .i64 b, .slice ao1 ws.length cap1] 30) = W1 at *
 generalize w1.heap.size = gO at *
 obtain ⟨ao0, cap0, hu0, hx0⟩ := U1.out.ints
 have X1 : Hid (IntsAt W1 ao0 ws) := hx0
 subst hu0
 refine (spTokenOk_any c r q a b ao0 cap0 ws _ X1 hl).mono ?_
 rintro e w2 ⟨rfl, hb2⟩
 have OO := hid (O1.out.stays hb2 O1.out.lt)
 have RR := hid (R1.out.stays hb2 R1.out.lt)
 have LL : Hid (OwnI w2 w.heap.size (.slice ao1 ws.length cap1) ws) := own_later' V1.out hb2
 have BB := hid (B1.out.trans (hb2.mono B1.out.size))
 clear hb2 O1 R1 V1 B1 A1 U1 X1 hx0 s0 s1 s2 s3 s4 s5
 rw [ht.out]
 clear ht
 go_wp2_with fail
 refine (in_is _ hd).mono ?_
 rintro e w3 ⟨rfl, rfl⟩
 obtain ⟨x0, x1, x2, x3, x4, x5⟩ := OO.out.cells
 obtain ⟨y0, y1, y2, y3, y4, y5⟩ := RR.out.cells
 have m0 := RR.out.frozen 0
 have m1 := RR.out.frozen 1
 have m2 := RR.out.frozen 2
 have m3 := RR.out.frozen 3
 have m4 := RR.out.frozen 4
 have m5 := RR.out.frozen 5
 go_wp2_with fail
 have R3 : TokAt _ (w.heap.size + 1) c r q a b (.slice ao1 ws.length cap1) := RR.out.agg c r q a b (.slice ao1 ws.length cap1)
 have T3 := (((((( TurnAt.refl (w.heap.size + 1) w3).setCell 0 (.int .i64 c)).setCell 1 (.int .i64 r)).setCell 2 (.int .i64 q)).setCell 3 (.int .i64 a)).setCell 4 (.int .i64 b)).setCell 5 (.slice ao1 ws.length cap1)
 have V3 := own_tok LL.out RR.out T3
 have B3 := BB.out.trans (T3.below (by omega))
 clear T3
 generalize ((((((w3.setCell ⟨w.heap.size + 1, 0, none⟩ (.int .i64 c)).setCell ⟨w.heap.size + 1, 1, none⟩ (.int .i64 r)).setCell ⟨w.heap.size + 1, 2, none⟩ (.int .i64 q)).setCell ⟨w.heap.size + 1, 3, none⟩ (.int .i64 a)).setCell ⟨w.heap.size + 1, 4, none⟩ (.int .i64 b)).setCell ⟨w.heap.size + 1, 5, none⟩ (.slice ao1 ws.length cap1)) = W3 at *
 obtain ⟨q0, q1, q2, q3, q4, q5⟩ := R3.cells
 refine bodyPost_ret (v := .agg #[.int .i64 c, .int .i64 r, .int .i64 q, .int .i64 a, .int .i64 b, .slice ao1 ws.length cap1]) (by simp [results, Try.results212, go_sem, q0, q1, q2, q3, q4, q5]) rfl ?_
 exact ⟨_, rfl, V3, B3⟩
set_option maxRecDepth 100000 in
set_option maxHeartbeats 2000000 in
theorem spMark_3 (c r q a b d u : Int) (u0 : Value) (ws : List Int) (B0 : Nat) (w : World) (h : Hid (OwnI w B0 u0 ws)) (hl : ws.length ≤ 1048576) (ht : Hid (tkB c r q a b ws = true)) (hd : decide (1 ≤ d ∧ d ≤ 5) = true) (hu : ¬ u < 0) (h1 : u < a) :
  Calls Try.prog 212 #[.agg #[.int .i64 c, .int .i64 r, .int .i64 q, .int .i64 a, .int .i64 b, u0], .int .i64 d, .int .i64 u] w fun e w' => ∃ v, e = .returned (.agg #[.int .i64 c, .int .i64 r, .int .i64 q, .int .i64 u, .int .i64 d, v]) ∧ OwnI w' w.heap.size v ws ∧ Below w.heap.size w w' := by
 have hn1 : (w.alloc (.cells #[.int .i64 c, .int .i64 r, .int .i64 q, .int .i64 a, .int .i64 b, u0] 30)).heap.size = w.heap.size + 1 := by simp
 have HA : Hid (TokAt ((w.alloc (.cells #[.int .i64 c, .int .i64 r, .int .i64 q, .int .i64 a, .int .i64 b, u0] 30)).alloc (.cells #[.int .i64 0, .int .i64 0, .int .i64 0, .int .i64 0, .int .i64 0, .slice none 0 0] 30)) w.heap.size c r q a b u0) := by
  have h := heap_alloc_new w (.cells #[.int .i64 c, .int .i64 r, .int .i64 q, .int .i64 a, .int .i64 b, u0] 30)
  exact TokAt.stays (B := w.heap.size + 1) h ((Below.refl _ _).alloc (by rw [hn1]; exact Nat.le_refl _) _) (by omega)
 have HR : Hid (TokAt ((w.alloc (.cells #[.int .i64 c, .int .i64 r, .int .i64 q, .int .i64 a, .int .i64 b, u0] 30)).alloc (.cells #[.int .i64 0, .int .i64 0, .int .i64 0, .int .i64 0, .int .i64 0, .slice none 0 0] 30)) (w.heap.size + 1) 0 0 0 0 0 (.slice none 0 0)) := by
  have h := heap_alloc_new (w.alloc (.cells #[.int .i64 c, .int .i64 r, .int .i64 q, .int .i64 a, .int .i64 b, u0] 30)) (.cells #[.int .i64 0, .int .i64 0, .int .i64 0, .int .i64 0, .int .i64 0, .slice none 0 0] 30)
  rw [hn1] at h
  exact h
 have HB : Hid (Below w.heap.size w ((w.alloc (.cells #[.int .i64 c, .int .i64 r, .int .i64 q, .int .i64 a, .int .i64 b, u0] 30)).alloc (.cells #[.int .i64 0, .int .i64 0, .int .i64 0, .int .i64 0, .int .i64 0, .slice none 0 0] 30))) := ((Below.refl _ _).alloc (Nat.le_refl _) _).alloc (by simp) _
 have HU : Hid (OwnI ((w.alloc (.cells #[.int .i64 c, .int .i64 r, .int .i64 q, .int .i64 a, .int .i64 b, u0] 30)).alloc (.cells #[.int .i64 0, .int .i64 0, .int .i64 0, .int .i64 0, .int .i64 0, .slice none 0 0] 30)) B0 u0 ws) := (h.out.alloc _).alloc _
 clear h hn1
 go_enter Try.func212, Try.ntmps212
 go_wp2_with fail
 generalize ((w.alloc (.cells #[.int .i64 c, .int .i64 r, .int .i64 q, .int .i64 a, .int .i64 b, u0] 30)).alloc (.cells #[.int .i64 0, .int .i64 0, .int .i64 0, .int .i64 0, .int .i64 0, .slice none 0 0] 30)) = W at *
 have hWs : w.heap.size ≤ W.heap.size := HB.out.size
 have hWr : w.heap.size + 1 < W.heap.size := HR.out.lt
 refine (spCopyTok c r q a b u0 ws B0 W HU hl).mono ?_
 rintro e w1 ⟨v1, rfl, hv1, hb1⟩
 obtain ⟨ao1, cap1, hf1⟩ := hv1.form
 subst hf1
 have O1 : Hid (TokAt (w1.alloc (.cells #[.int .i64 c, .int .i64 r, .int .i64 q, .int .i64 a, .int .i64 b, .slice ao1 ws.length cap1] 30)) w1.heap.size c r q a b (.slice ao1 ws.length cap1)) := heap_alloc_new w1 _
 have E1 : Below W.heap.size W (w1.alloc (.cells #[.int .i64 c, .int .i64 r, .int .i64 q, .int .i64 a, .int .i64 b, .slice ao1 ws.length cap1] 30)) := hb1.alloc hb1.size _
 have A1 := hid (HA.out.stays E1 HA.out.lt)
 have R1 := hid (HR.out.stays E1 HR.out.lt)
 have V1 : Hid (OwnI (w1.alloc (.cells #[.int .i64 c, .int .i64 r, .int .i64 q, .int .i64 a, .int .i64 b, .slice ao1 ws.length cap1] 30)) w.heap.size (.slice ao1 ws.length cap1) ws) := (hv1.alloc _).down hWs
 have B1 := hid (HB.out.trans (E1.mono hWs))
 have U1 : Hid (OwnI (w1.alloc (.cells #[.int .i64 c, .int .i64 r, .int .i64 q, .int .i64 a, .int .i64 b, .slice ao1 ws.length cap1] 30)) B0 u0 ws) := HU.out.stays E1 (fun k hk => (HU.out.lt k hk).2)
 have hgO : w.heap.size + 1 < w1.heap.size := Nat.lt_of_lt_of_le hWr hb1.size
 obtain ⟨s0, s1, s2, s3, s4, s5⟩ := A1.out.cells
 clear hv1 hb1 E1 HA HR HU HB hWs hWr
 go_wp2_with fail
 generalize w1.alloc (.cells #[.int .i64 c, .int .i64 r, .int .i64 q, .int .i64 a, .int .i64 b, .slice ao1 ws.length cap1] 30) = W1 at *
 generalize w1.heap.size = gO at *
 obtain ⟨ao0, cap0, hu0, hx0⟩ := U1.out.ints
 have X1 : Hid (IntsAt W1 ao0 ws) := hx0
 subst hu0
 refine (spTokenOk_any c r q a b ao0 cap0 ws _ X1 hl).mono ?_
 rintro e w2 ⟨rfl, hb2⟩
 have OO := hid (O1.out.stays hb2 O1.out.lt)
 have RR := hid (R1.out.stays hb2 R1.out.lt)
 have LL : Hid (OwnI w2 w.heap.size (.slice ao1 ws.length cap1) ws) := own_later' V1.out hb2
 have BB := hid (B1.out.trans (hb2.mono B1.out.size))
 clear hb2 O1 R1 V1 B1 A1 U1 X1 hx0 s0 s1 s2 s3 s4 s5
 rw [ht.out]
 clear ht
 go_wp2_with fail
 refine (in_is _ hd).mono ?_
 rintro e w3 ⟨rfl, rfl⟩
 obtain ⟨x0, x1, x2, x3, x4, x5⟩ := OO.out.cells
 have n3 := OO.out.frozen 3
 have n4 := OO.out.frozen 4
 have O1 : Hid (TokAt (w3.setCell ⟨gO, 3, none⟩ (.int .i64 u)) gO c r q u b (.slice ao1 ws.length cap1)) := OO.out.set3 u
 have RR1 : Hid (TokAt (w3.setCell ⟨gO, 3, none⟩ (.int .i64 u)) (w.heap.size + 1) 0 0 0 0 0 (.slice none 0 0)) := RR.out.turn ((TurnAt.refl gO w3).setCell 3 _) (by omega)
 have LL1 : Hid (OwnI (w3.setCell ⟨gO, 3, none⟩ (.int .i64 u)) w.heap.size (.slice ao1 ws.length cap1) ws) := own_tok LL.out OO.out ((TurnAt.refl gO w3).setCell 3 _)
 have BB1 : Hid (Below w.heap.size w (w3.setCell ⟨gO, 3, none⟩ (.int .i64 u))) := BB.out.trans (((TurnAt.refl gO w3).setCell 3 _).below (by omega))
 obtain ⟨x10, x11, x12, x13, x14, x15⟩ := O1.out.cells
 have n13 := O1.out.frozen 3
 have n14 := O1.out.frozen 4
 have O2 : Hid (TokAt ((w3.setCell ⟨gO, 3, none⟩ (.int .i64 u)).setCell ⟨gO, 4, none⟩ (.int .i64 d)) gO c r q u d (.slice ao1 ws.length cap1)) := O1.out.set4 d
 have RR2 : Hid (TokAt ((w3.setCell ⟨gO, 3, none⟩ (.int .i64 u)).setCell ⟨gO, 4, none⟩ (.int .i64 d)) (w.heap.size + 1) 0 0 0 0 0 (.slice none 0 0)) := RR1.out.turn ((TurnAt.refl gO (w3.setCell ⟨gO, 3, none⟩ (.int .i64 u))).setCell 4 _) (by omega)
 have LL2 : Hid (OwnI ((w3.setCell ⟨gO, 3, none⟩ (.int .i64 u)).setCell ⟨gO, 4, none⟩ (.int .i64 d)) w.heap.size (.slice ao1 ws.length cap1) ws) := own_tok LL1.out O1.out ((TurnAt.refl gO (w3.setCell ⟨gO, 3, none⟩ (.int .i64 u))).setCell 4 _)
 have BB2 : Hid (Below w.heap.size w ((w3.setCell ⟨gO, 3, none⟩ (.int .i64 u)).setCell ⟨gO, 4, none⟩ (.int .i64 d))) := BB1.out.trans (((TurnAt.refl gO (w3.setCell ⟨gO, 3, none⟩ (.int .i64 u))).setCell 4 _).below (by omega))
 obtain ⟨x20, x21, x22, x23, x24, x25⟩ := O2.out.cells
 have n23 := O2.out.frozen 3
 have n24 := O2.out.frozen 4
 obtain ⟨y0, y1, y2, y3, y4, y5⟩ := RR2.out.cells
 have m0 := RR2.out.frozen 0
 have m1 := RR2.out.frozen 1
 have m2 := RR2.out.frozen 2
 have m3 := RR2.out.frozen 3
 have m4 := RR2.out.frozen 4
 have m5 := RR2.out.frozen 5
 go_wp2_with fail
 have R3 : TokAt _ (w.heap.size + 1) c r q u d (.slice ao1 ws.length cap1) := RR2.out.agg c r q u d (.slice ao1 ws.length cap1)
 have T3 := (((((( TurnAt.refl (w.heap.size + 1) ((w3.setCell ⟨gO, 3, none⟩ (.int .i64 u)).setCell ⟨gO, 4, none⟩ (.int .i64 d))).setCell 0 (.int .i64 c)).setCell 1 (.int .i64 r)).setCell 2 (.int .i64 q)).setCell 3 (.int .i64 u)).setCell 4 (.int .i64 d)).setCell 5 (.slice ao1 ws.length cap1)
 have V3 := own_tok LL2.out RR2.out T3
 have B3 := BB2.out.trans (T3.below (by omega))
 clear T3
 generalize ((((((((w3.setCell ⟨gO, 3, none⟩ (.int .i64 u)).setCell ⟨gO, 4, none⟩ (.int .i64 d)).setCell ⟨w.heap.size + 1, 0, none⟩ (.int .i64 c)).setCell ⟨w.heap.size + 1, 1, none⟩ (.int .i64 r)).setCell ⟨w.heap.size + 1, 2, none⟩ (.int .i64 q)).setCell ⟨w.heap.size + 1, 3, none⟩ (.int .i64 u)).setCell ⟨w.heap.size + 1, 4, none⟩ (.int .i64 d)).setCell ⟨w.heap.size + 1, 5, none⟩ (.slice ao1 ws.length cap1)) = W3 at *
 obtain ⟨q0, q1, q2, q3, q4, q5⟩ := R3.cells
 refine bodyPost_ret (v := .agg #[.int .i64 c, .int .i64 r, .int .i64 q, .int .i64 u, .int .i64 d, .slice ao1 ws.length cap1]) (by simp [results, Try.results212, go_sem, q0, q1, q2, q3, q4, q5]) rfl ?_
 exact ⟨_, rfl, V3, B3⟩
set_option maxRecDepth 100000 in
set_option maxHeartbeats 2000000 in
theorem spMark_4 (c r q a b d u : Int) (u0 : Value) (ws : List Int) (B0 : Nat) (w : World) (h : Hid (OwnI w B0 u0 ws)) (hl : ws.length ≤ 1048576) (ht : Hid (tkB c r q a b ws = true)) (hd : decide (1 ≤ d ∧ d ≤ 5) = true) (hu : ¬ u < 0) (h1 : ¬ u < a) (h2 : b = d) (h3 : q < u) :
  Calls Try.prog 212 #[.agg #[.int .i64 c, .int .i64 r, .int .i64 q, .int .i64 a, .int .i64 b, u0], .int .i64 d, .int .i64 u] w fun e w' => ∃ v, e = .returned (.agg #[.int .i64 c, .int .i64 r, .int .i64 q, .int .i64 q, .int .i64 0, v]) ∧ OwnI w' w.heap.size v ws ∧ Below w.heap.size w w' := by
 subst h2
 have hn1 : (w.alloc (.cells #[.int .i64 c, .int .i64 r, .int .i64 q, .int .i64 a, .int .i64 b, u0] 30)).heap.size = w.heap.size + 1 := by simp
 have HA : Hid (TokAt ((w.alloc (.cells #[.int .i64 c, .int .i64 r, .int .i64 q, .int .i64 a, .int .i64 b, u0] 30)).alloc (.cells #[.int .i64 0, .int .i64 0, .int .i64 0, .int .i64 0, .int .i64 0, .slice none 0 0] 30)) w.heap.size c r q a b u0) := by
  have h := heap_alloc_new w (.cells #[.int .i64 c, .int .i64 r, .int .i64 q, .int .i64 a, .int .i64 b, u0] 30)
  exact TokAt.stays (B := w.heap.size + 1) h ((Below.refl _ _).alloc (by rw [hn1]; exact Nat.le_refl _) _) (by omega)
 have HR : Hid (TokAt ((w.alloc (.cells #[.int .i64 c, .int .i64 r, .int .i64 q, .int .i64 a, .int .i64 b, u0] 30)).alloc (.cells #[.int .i64 0, .int .i64 0, .int .i64 0, .int .i64 0, .int .i64 0, .slice none 0 0] 30)) (w.heap.size + 1) 0 0 0 0 0 (.slice none 0 0)) := by
  have h := heap_alloc_new (w.alloc (.cells #[.int .i64 c, .int .i64 r, .int .i64 q, .int .i64 a, .int .i64 b, u0] 30)) (.cells #[.int .i64 0, .int .i64 0, .int .i64 0, .int .i64 0, .int .i64 0, .slice none 0 0] 30)
  rw [hn1] at h
  exact h
 have HB : Hid (Below w.heap.size w ((w.alloc (.cells #[.int .i64 c, .int .i64 r, .int .i64 q, .int .i64 a, .int .i64 b, u0] 30)).alloc (.cells #[.int .i64 0, .int .i64 0, .int .i64 0, .int .i64 0, .int .i64 0, .slice none 0 0] 30))) := ((Below.refl _ _).alloc (Nat.le_refl _) _).alloc (by simp) _
 have HU : Hid (OwnI ((w.alloc (.cells #[.int .i64 c, .int .i64 r, .int .i64 q, .int .i64 a, .int .i64 b, u0] 30)).alloc (.cells #[.int .i64 0, .int .i64 0, .int .i64 0, .int .i64 0, .int .i64 0, .slice none 0 0] 30)) B0 u0 ws) := (h.out.alloc _).alloc _
 clear h hn1
 go_enter Try.func212, Try.ntmps212
 go_wp2_with fail
 generalize ((w.alloc (.cells #[.int .i64 c, .int .i64 r, .int .i64 q, .int .i64 a, .int .i64 b, u0] 30)).alloc (.cells #[.int .i64 0, .int .i64 0, .int .i64 0, .int .i64 0, .int .i64 0, .slice none 0 0] 30)) = W at *
 have hWs : w.heap.size ≤ W.heap.size := HB.out.size
 have hWr : w.heap.size + 1 < W.heap.size := HR.out.lt
 refine (spCopyTok c r q a b u0 ws B0 W HU hl).mono ?_
 rintro e w1 ⟨v1, rfl, hv1, hb1⟩
 obtain ⟨ao1, cap1, hf1⟩ := hv1.form
 subst hf1
 have O1 : Hid (TokAt (w1.alloc (.cells #[.int .i64 c, .int .i64 r, .int .i64 q, .int .i64 a, .int .i64 b, .slice ao1 ws.length cap1] 30)) w1.heap.size c r q a b (.slice ao1 ws.length cap1)) := heap_alloc_new w1 _
 have E1 : Below W.heap.size W (w1.alloc (.cells #[.int .i64 c, .int .i64 r, .int .i64 q, .int .i64 a, .int .i64 b, .slice ao1 ws.length cap1] 30)) := hb1.alloc hb1.size _
 have A1 := hid (HA.out.stays E1 HA.out.lt)
 have R1 := hid (HR.out.stays E1 HR.out.lt)
 have V1 : Hid (OwnI (w1.alloc (.cells #[.int .i64 c, .int .i64 r, .int .i64 q, .int .i64 a, .int .i64 b, .slice ao1 ws.length cap1] 30)) w.heap.size (.slice ao1 ws.length cap1) ws) := (hv1.alloc _).down hWs
 have B1 := hid (HB.out.trans (E1.mono hWs))
 have U1 : Hid (OwnI (w1.alloc (.cells #[.int .i64 c, .int .i64 r, .int .i64 q, .int .i64 a, .int .i64 b, .slice ao1 ws.length cap1] 30)) B0 u0 ws) := HU.out.stays E1 (fun k hk => (HU.out.lt k hk).2)
 have hgO : w.heap.size + 1 < w1.heap.size := Nat.lt_of_lt_of_le hWr hb1.size
 obtain ⟨s0, s1, s2, s3, s4, s5⟩ := A1.out.cells
 clear hv1 hb1 E1 HA HR HU HB hWs hWr
 go_wp2_with fail
 generalize w1.alloc (.cells #[.int .i64 c, .int .i64 r, .int .i64 q, .int .i64 a, .int .i64 b, .slice ao1 ws.length cap1] 30) = W1 at *
 generalize w1.heap.size = gO at *
 obtain ⟨ao0, cap0, hu0, hx0⟩ := U1.out.ints
 have X1 : Hid (IntsAt W1 ao0 ws) := hx0
 subst hu0
 refine (spTokenOk_any c r q a b ao0 cap0 ws _ X1 hl).mono ?_
 rintro e w2 ⟨rfl, hb2⟩
 have OO := hid (O1.out.stays hb2 O1.out.lt)
 have RR := hid (R1.out.stays hb2 R1.out.lt)
 have LL : Hid (OwnI w2 w.heap.size (.slice ao1 ws.length cap1) ws) := own_later' V1.out hb2
 have BB := hid (B1.out.trans (hb2.mono B1.out.size))
 clear hb2 O1 R1 V1 B1 A1 U1 X1 hx0 s0 s1 s2 s3 s4 s5
 rw [ht.out]
 clear ht
 go_wp2_with fail
 refine (in_is _ hd).mono ?_
 rintro e w3 ⟨rfl, rfl⟩
 obtain ⟨x0, x1, x2, x3, x4, x5⟩ := OO.out.cells
 have n3 := OO.out.frozen 3
 have n4 := OO.out.frozen 4
 have O1 : Hid (TokAt (w3.setCell ⟨gO, 3, none⟩ (.int .i64 u)) gO c r q u b (.slice ao1 ws.length cap1)) := OO.out.set3 u
 have RR1 : Hid (TokAt (w3.setCell ⟨gO, 3, none⟩ (.int .i64 u)) (w.heap.size + 1) 0 0 0 0 0 (.slice none 0 0)) := RR.out.turn ((TurnAt.refl gO w3).setCell 3 _) (by omega)
 have LL1 : Hid (OwnI (w3.setCell ⟨gO, 3, none⟩ (.int .i64 u)) w.heap.size (.slice ao1 ws.length cap1) ws) := own_tok LL.out OO.out ((TurnAt.refl gO w3).setCell 3 _)
 have BB1 : Hid (Below w.heap.size w (w3.setCell ⟨gO, 3, none⟩ (.int .i64 u))) := BB.out.trans (((TurnAt.refl gO w3).setCell 3 _).below (by omega))
 obtain ⟨x10, x11, x12, x13, x14, x15⟩ := O1.out.cells
 have n13 := O1.out.frozen 3
 have n14 := O1.out.frozen 4
 have O2 : Hid (TokAt ((w3.setCell ⟨gO, 3, none⟩ (.int .i64 u)).setCell ⟨gO, 3, none⟩ (.int .i64 q)) gO c r q q b (.slice ao1 ws.length cap1)) := O1.out.set3 q
 have RR2 : Hid (TokAt ((w3.setCell ⟨gO, 3, none⟩ (.int .i64 u)).setCell ⟨gO, 3, none⟩ (.int .i64 q)) (w.heap.size + 1) 0 0 0 0 0 (.slice none 0 0)) := RR1.out.turn ((TurnAt.refl gO (w3.setCell ⟨gO, 3, none⟩ (.int .i64 u))).setCell 3 _) (by omega)
 have LL2 : Hid (OwnI ((w3.setCell ⟨gO, 3, none⟩ (.int .i64 u)).setCell ⟨gO, 3, none⟩ (.int .i64 q)) w.heap.size (.slice ao1 ws.length cap1) ws) := own_tok LL1.out O1.out ((TurnAt.refl gO (w3.setCell ⟨gO, 3, none⟩ (.int .i64 u))).setCell 3 _)
 have BB2 : Hid (Below w.heap.size w ((w3.setCell ⟨gO, 3, none⟩ (.int .i64 u)).setCell ⟨gO, 3, none⟩ (.int .i64 q))) := BB1.out.trans (((TurnAt.refl gO (w3.setCell ⟨gO, 3, none⟩ (.int .i64 u))).setCell 3 _).below (by omega))
 obtain ⟨x20, x21, x22, x23, x24, x25⟩ := O2.out.cells
 have n23 := O2.out.frozen 3
 have n24 := O2.out.frozen 4
 have O3 : Hid (TokAt (((w3.setCell ⟨gO, 3, none⟩ (.int .i64 u)).setCell ⟨gO, 3, none⟩ (.int .i64 q)).setCell ⟨gO, 4, none⟩ (.int .i64 0)) gO c r q q 0 (.slice ao1 ws.length cap1)) := O2.out.set4 0
 have RR3 : Hid (TokAt (((w3.setCell ⟨gO, 3, none⟩ (.int .i64 u)).setCell ⟨gO, 3, none⟩ (.int .i64 q)).setCell ⟨gO, 4, none⟩ (.int .i64 0)) (w.heap.size + 1) 0 0 0 0 0 (.slice none 0 0)) := RR2.out.turn ((TurnAt.refl gO ((w3.setCell ⟨gO, 3, none⟩ (.int .i64 u)).setCell ⟨gO, 3, none⟩ (.int .i64 q))).setCell 4 _) (by omega)
 have LL3 : Hid (OwnI (((w3.setCell ⟨gO, 3, none⟩ (.int .i64 u)).setCell ⟨gO, 3, none⟩ (.int .i64 q)).setCell ⟨gO, 4, none⟩ (.int .i64 0)) w.heap.size (.slice ao1 ws.length cap1) ws) := own_tok LL2.out O2.out ((TurnAt.refl gO ((w3.setCell ⟨gO, 3, none⟩ (.int .i64 u)).setCell ⟨gO, 3, none⟩ (.int .i64 q))).setCell 4 _)
 have BB3 : Hid (Below w.heap.size w (((w3.setCell ⟨gO, 3, none⟩ (.int .i64 u)).setCell ⟨gO, 3, none⟩ (.int .i64 q)).setCell ⟨gO, 4, none⟩ (.int .i64 0))) := BB2.out.trans (((TurnAt.refl gO ((w3.setCell ⟨gO, 3, none⟩ (.int .i64 u)).setCell ⟨gO, 3, none⟩ (.int .i64 q))).setCell 4 _).below (by omega))
 obtain ⟨x30, x31, x32, x33, x34, x35⟩ := O3.out.cells
 have n33 := O3.out.frozen 3
 have n34 := O3.out.frozen 4
 obtain ⟨y0, y1, y2, y3, y4, y5⟩ := RR3.out.cells
 have m0 := RR3.out.frozen 0
 have m1 := RR3.out.frozen 1
 have m2 := RR3.out.frozen 2
 have m3 := RR3.out.frozen 3
 have m4 := RR3.out.frozen 4
 have m5 := RR3.out.frozen 5
 go_wp2_with fail
 have R3 : TokAt _ (w.heap.size + 1) c r q q 0 (.slice ao1 ws.length cap1) := RR3.out.agg c r q q 0 (.slice ao1 ws.length cap1)
 have T3 := (((((( TurnAt.refl (w.heap.size + 1) (((w3.setCell ⟨gO, 3, none⟩ (.int .i64 u)).setCell ⟨gO, 3, none⟩ (.int .i64 q)).setCell ⟨gO, 4, none⟩ (.int .i64 0))).setCell 0 (.int .i64 c)).setCell 1 (.int .i64 r)).setCell 2 (.int .i64 q)).setCell 3 (.int .i64 q)).setCell 4 (.int .i64 0)).setCell 5 (.slice ao1 ws.length cap1)
 have V3 := own_tok LL3.out RR3.out T3
 have B3 := BB3.out.trans (T3.below (by omega))
 clear T3
 generalize (((((((((w3.setCell ⟨gO, 3, none⟩ (.int .i64 u)).setCell ⟨gO, 3, none⟩ (.int .i64 q)).setCell ⟨gO, 4, none⟩ (.int .i64 0)).setCell ⟨w.heap.size + 1, 0, none⟩ (.int .i64 c)).setCell ⟨w.heap.size + 1, 1, none⟩ (.int .i64 r)).setCell ⟨w.heap.size + 1, 2, none⟩ (.int .i64 q)).setCell ⟨w.heap.size + 1, 3, none⟩ (.int .i64 q)).setCell ⟨w.heap.size + 1, 4, none⟩ (.int .i64 0)).setCell ⟨w.heap.size + 1, 5, none⟩ (.slice ao1 ws.length cap1)) = W3 at *
 obtain ⟨q0, q1, q2, q3, q4, q5⟩ := R3.cells
 refine bodyPost_ret (v := .agg #[.int .i64 c, .int .i64 r, .int .i64 q, .int .i64 q, .int .i64 0, .slice ao1 ws.length cap1]) (by simp [results, Try.results212, go_sem, q0, q1, q2, q3, q4, q5]) rfl ?_
 exact ⟨_, rfl, V3, B3⟩
set_option maxRecDepth 100000 in
set_option maxHeartbeats 2000000 in
theorem spMark_5 (c r q a b d u : Int) (u0 : Value) (ws : List Int) (B0 : Nat) (w : World) (h : Hid (OwnI w B0 u0 ws)) (hl : ws.length ≤ 1048576) (ht : Hid (tkB c r q a b ws = true)) (hd : decide (1 ≤ d ∧ d ≤ 5) = true) (hu : ¬ u < 0) (h1 : ¬ u < a) (h2 : b = d) (h3 : u = q) :
  Calls Try.prog 212 #[.agg #[.int .i64 c, .int .i64 r, .int .i64 q, .int .i64 a, .int .i64 b, u0], .int .i64 d, .int .i64 u] w fun e w' => ∃ v, e = .returned (.agg #[.int .i64 c, .int .i64 r, .int .i64 q, .int .i64 u, .int .i64 0, v]) ∧ OwnI w' w.heap.size v ws ∧ Below w.heap.size w w' := by
 subst h2
 subst h3
 have hn1 : (w.alloc (.cells #[.int .i64 c, .int .i64 r, .int .i64 u, .int .i64 a, .int .i64 b, u0] 30)).heap.size = w.heap.size + 1 := by simp
 have HA : Hid (TokAt ((w.alloc (.cells #[.int .i64 c, .int .i64 r, .int .i64 u, .int .i64 a, .int .i64 b, u0] 30)).alloc (.cells #[.int .i64 0, .int .i64 0, .int .i64 0, .int .i64 0, .int .i64 0, .slice none 0 0] 30)) w.heap.size c r u a b u0) := by
  have h := heap_alloc_new w (.cells #[.int .i64 c, .int .i64 r, .int .i64 u, .int .i64 a, .int .i64 b, u0] 30)
  exact TokAt.stays (B := w.heap.size + 1) h ((Below.refl _ _).alloc (by rw [hn1]; exact Nat.le_refl _) _) (by omega)
 have HR : Hid (TokAt ((w.alloc (.cells #[.int .i64 c, .int .i64 r, .int .i64 u, .int .i64 a, .int .i64 b, u0] 30)).alloc (.cells #[.int .i64 0, .int .i64 0, .int .i64 0, .int .i64 0, .int .i64 0, .slice none 0 0] 30)) (w.heap.size + 1) 0 0 0 0 0 (.slice none 0 0)) := by
  have h := heap_alloc_new (w.alloc (.cells #[.int .i64 c, .int .i64 r, .int .i64 u, .int .i64 a, .int .i64 b, u0] 30)) (.cells #[.int .i64 0, .int .i64 0, .int .i64 0, .int .i64 0, .int .i64 0, .slice none 0 0] 30)
  rw [hn1] at h
  exact h
 have HB : Hid (Below w.heap.size w ((w.alloc (.cells #[.int .i64 c, .int .i64 r, .int .i64 u, .int .i64 a, .int .i64 b, u0] 30)).alloc (.cells #[.int .i64 0, .int .i64 0, .int .i64 0, .int .i64 0, .int .i64 0, .slice none 0 0] 30))) := ((Below.refl _ _).alloc (Nat.le_refl _) _).alloc (by simp) _
 have HU : Hid (OwnI ((w.alloc (.cells #[.int .i64 c, .int .i64 r, .int .i64 u, .int .i64 a, .int .i64 b, u0] 30)).alloc (.cells #[.int .i64 0, .int .i64 0, .int .i64 0, .int .i64 0, .int .i64 0, .slice none 0 0] 30)) B0 u0 ws) := (h.out.alloc _).alloc _
 clear h hn1
 go_enter Try.func212, Try.ntmps212
 go_wp2_with fail
 generalize ((w.alloc (.cells #[.int .i64 c, .int .i64 r, .int .i64 u, .int .i64 a, .int .i64 b, u0] 30)).alloc (.cells #[.int .i64 0, .int .i64 0, .int .i64 0, .int .i64 0, .int .i64 0, .slice none 0 0] 30)) = W at *
 have hWs : w.heap.size ≤ W.heap.size := HB.out.size
 have hWr : w.heap.size + 1 < W.heap.size := HR.out.lt
 refine (spCopyTok c r u a b u0 ws B0 W HU hl).mono ?_
 rintro e w1 ⟨v1, rfl, hv1, hb1⟩
 obtain ⟨ao1, cap1, hf1⟩ := hv1.form
 subst hf1
 have O1 : Hid (TokAt (w1.alloc (.cells #[.int .i64 c, .int .i64 r, .int .i64 u, .int .i64 a, .int .i64 b, .slice ao1 ws.length cap1] 30)) w1.heap.size c r u a b (.slice ao1 ws.length cap1)) := heap_alloc_new w1 _
 have E1 : Below W.heap.size W (w1.alloc (.cells #[.int .i64 c, .int .i64 r, .int .i64 u, .int .i64 a, .int .i64 b, .slice ao1 ws.length cap1] 30)) := hb1.alloc hb1.size _
 have A1 := hid (HA.out.stays E1 HA.out.lt)
 have R1 := hid (HR.out.stays E1 HR.out.lt)
 have V1 : Hid (OwnI (w1.alloc (.cells #[.int .i64 c, .int .i64 r, .int .i64 u, .int .i64 a, .int .i64 b, .slice ao1 ws.length cap1] 30)) w.heap.size (.slice ao1 ws.length cap1) ws) := (hv1.alloc _).down hWs
 have B1 := hid (HB.out.trans (E1.mono hWs))
 have U1 : Hid (OwnI (w1.alloc (.cells #[.int .i64 c, .int .i64 r, .int .i64 u, .int .i64 a, .int .i64 b, .slice ao1 ws.length cap1] 30)) B0 u0 ws) := HU.out.stays E1 (fun k hk => (HU.out.lt k hk).2)
 have hgO : w.heap.size + 1 < w1.heap.size := Nat.lt_of_lt_of_le hWr hb1.size
 obtain ⟨s0, s1, s2, s3, s4, s5⟩ := A1.out.cells
 clear hv1 hb1 E1 HA HR HU HB hWs hWr
 go_wp2_with fail
 generalize w1.alloc (.cells #[.int .i64 c, .int .i64 r, .int .i64 u, .int .i64 a, .int .i64 b, .slice ao1 ws.length cap1] 30) = W1 at *
 generalize w1.heap.size = gO at *
 obtain ⟨ao0, cap0, hu0, hx0⟩ := U1.out.ints
 have X1 : Hid (IntsAt W1 ao0 ws) := hx0
 subst hu0
 refine (spTokenOk_any c r u a b ao0 cap0 ws _ X1 hl).mono ?_
 rintro e w2 ⟨rfl, hb2⟩
 have OO := hid (O1.out.stays hb2 O1.out.lt)
 have RR := hid (R1.out.stays hb2 R1.out.lt)
 have LL : Hid (OwnI w2 w.heap.size (.slice ao1 ws.length cap1) ws) := own_later' V1.out hb2
 have BB := hid (B1.out.trans (hb2.mono B1.out.size))
 clear hb2 O1 R1 V1 B1 A1 U1 X1 hx0 s0 s1 s2 s3 s4 s5
 rw [ht.out]
 clear ht
 go_wp2_with fail
 refine (in_is _ hd).mono ?_
 rintro e w3 ⟨rfl, rfl⟩
 obtain ⟨x0, x1, x2, x3, x4, x5⟩ := OO.out.cells
 have n3 := OO.out.frozen 3
 have n4 := OO.out.frozen 4
 have O1 : Hid (TokAt (w3.setCell ⟨gO, 3, none⟩ (.int .i64 u)) gO c r u u b (.slice ao1 ws.length cap1)) := OO.out.set3 u
 have RR1 : Hid (TokAt (w3.setCell ⟨gO, 3, none⟩ (.int .i64 u)) (w.heap.size + 1) 0 0 0 0 0 (.slice none 0 0)) := RR.out.turn ((TurnAt.refl gO w3).setCell 3 _) (by omega)
 have LL1 : Hid (OwnI (w3.setCell ⟨gO, 3, none⟩ (.int .i64 u)) w.heap.size (.slice ao1 ws.length cap1) ws) := own_tok LL.out OO.out ((TurnAt.refl gO w3).setCell 3 _)
 have BB1 : Hid (Below w.heap.size w (w3.setCell ⟨gO, 3, none⟩ (.int .i64 u))) := BB.out.trans (((TurnAt.refl gO w3).setCell 3 _).below (by omega))
 obtain ⟨x10, x11, x12, x13, x14, x15⟩ := O1.out.cells
 have n13 := O1.out.frozen 3
 have n14 := O1.out.frozen 4
 have O2 : Hid (TokAt ((w3.setCell ⟨gO, 3, none⟩ (.int .i64 u)).setCell ⟨gO, 4, none⟩ (.int .i64 0)) gO c r u u 0 (.slice ao1 ws.length cap1)) := O1.out.set4 0
 have RR2 : Hid (TokAt ((w3.setCell ⟨gO, 3, none⟩ (.int .i64 u)).setCell ⟨gO, 4, none⟩ (.int .i64 0)) (w.heap.size + 1) 0 0 0 0 0 (.slice none 0 0)) := RR1.out.turn ((TurnAt.refl gO (w3.setCell ⟨gO, 3, none⟩ (.int .i64 u))).setCell 4 _) (by omega)
 have LL2 : Hid (OwnI ((w3.setCell ⟨gO, 3, none⟩ (.int .i64 u)).setCell ⟨gO, 4, none⟩ (.int .i64 0)) w.heap.size (.slice ao1 ws.length cap1) ws) := own_tok LL1.out O1.out ((TurnAt.refl gO (w3.setCell ⟨gO, 3, none⟩ (.int .i64 u))).setCell 4 _)
 have BB2 : Hid (Below w.heap.size w ((w3.setCell ⟨gO, 3, none⟩ (.int .i64 u)).setCell ⟨gO, 4, none⟩ (.int .i64 0))) := BB1.out.trans (((TurnAt.refl gO (w3.setCell ⟨gO, 3, none⟩ (.int .i64 u))).setCell 4 _).below (by omega))
 obtain ⟨x20, x21, x22, x23, x24, x25⟩ := O2.out.cells
 have n23 := O2.out.frozen 3
 have n24 := O2.out.frozen 4
 obtain ⟨y0, y1, y2, y3, y4, y5⟩ := RR2.out.cells
 have m0 := RR2.out.frozen 0
 have m1 := RR2.out.frozen 1
 have m2 := RR2.out.frozen 2
 have m3 := RR2.out.frozen 3
 have m4 := RR2.out.frozen 4
 have m5 := RR2.out.frozen 5
 go_wp2_with fail
 have R3 : TokAt _ (w.heap.size + 1) c r u u 0 (.slice ao1 ws.length cap1) := RR2.out.agg c r u u 0 (.slice ao1 ws.length cap1)
 have T3 := (((((( TurnAt.refl (w.heap.size + 1) ((w3.setCell ⟨gO, 3, none⟩ (.int .i64 u)).setCell ⟨gO, 4, none⟩ (.int .i64 0))).setCell 0 (.int .i64 c)).setCell 1 (.int .i64 r)).setCell 2 (.int .i64 u)).setCell 3 (.int .i64 u)).setCell 4 (.int .i64 0)).setCell 5 (.slice ao1 ws.length cap1)
 have V3 := own_tok LL2.out RR2.out T3
 have B3 := BB2.out.trans (T3.below (by omega))
 clear T3
 generalize ((((((((w3.setCell ⟨gO, 3, none⟩ (.int .i64 u)).setCell ⟨gO, 4, none⟩ (.int .i64 0)).setCell ⟨w.heap.size + 1, 0, none⟩ (.int .i64 c)).setCell ⟨w.heap.size + 1, 1, none⟩ (.int .i64 r)).setCell ⟨w.heap.size + 1, 2, none⟩ (.int .i64 u)).setCell ⟨w.heap.size + 1, 3, none⟩ (.int .i64 u)).setCell ⟨w.heap.size + 1, 4, none⟩ (.int .i64 0)).setCell ⟨w.heap.size + 1, 5, none⟩ (.slice ao1 ws.length cap1)) = W3 at *
 obtain ⟨q0, q1, q2, q3, q4, q5⟩ := R3.cells
 refine bodyPost_ret (v := .agg #[.int .i64 c, .int .i64 r, .int .i64 u, .int .i64 u, .int .i64 0, .slice ao1 ws.length cap1]) (by simp [results, Try.results212, go_sem, q0, q1, q2, q3, q4, q5]) rfl ?_
 exact ⟨_, rfl, V3, B3⟩
set_option maxRecDepth 100000 in
set_option maxHeartbeats 2000000 in
theorem spMark_6 (c r q a b d u : Int) (u0 : Value) (ws : List Int) (B0 : Nat) (w : World) (h : Hid (OwnI w B0 u0 ws)) (hl : ws.length ≤ 1048576) (ht : Hid (tkB c r q a b ws = true)) (hd : decide (1 ≤ d ∧ d ≤ 5) = true) (hu : ¬ u < 0) (h1 : ¬ u < a) (h2 : b = d) (h3 : u < q) :
  Calls Try.prog 212 #[.agg #[.int .i64 c, .int .i64 r, .int .i64 q, .int .i64 a, .int .i64 b, u0], .int .i64 d, .int .i64 u] w fun e w' => ∃ v, e = .returned (.agg #[.int .i64 c, .int .i64 r, .int .i64 q, .int .i64 u, .int .i64 b, v]) ∧ OwnI w' w.heap.size v ws ∧ Below w.heap.size w w' := by
 subst h2
 have h4 : ¬ q < u := by omega
 have h5 : ¬ u = q := by omega
 have hn1 : (w.alloc (.cells #[.int .i64 c, .int .i64 r, .int .i64 q, .int .i64 a, .int .i64 b, u0] 30)).heap.size = w.heap.size + 1 := by simp
 have HA : Hid (TokAt ((w.alloc (.cells #[.int .i64 c, .int .i64 r, .int .i64 q, .int .i64 a, .int .i64 b, u0] 30)).alloc (.cells #[.int .i64 0, .int .i64 0, .int .i64 0, .int .i64 0, .int .i64 0, .slice none 0 0] 30)) w.heap.size c r q a b u0) := by
  have h := heap_alloc_new w (.cells #[.int .i64 c, .int .i64 r, .int .i64 q, .int .i64 a, .int .i64 b, u0] 30)
  exact TokAt.stays (B := w.heap.size + 1) h ((Below.refl _ _).alloc (by rw [hn1]; exact Nat.le_refl _) _) (by omega)
 have HR : Hid (TokAt ((w.alloc (.cells #[.int .i64 c, .int .i64 r, .int .i64 q, .int .i64 a, .int .i64 b, u0] 30)).alloc (.cells #[.int .i64 0, .int .i64 0, .int .i64 0, .int .i64 0, .int .i64 0, .slice none 0 0] 30)) (w.heap.size + 1) 0 0 0 0 0 (.slice none 0 0)) := by
  have h := heap_alloc_new (w.alloc (.cells #[.int .i64 c, .int .i64 r, .int .i64 q, .int .i64 a, .int .i64 b, u0] 30)) (.cells #[.int .i64 0, .int .i64 0, .int .i64 0, .int .i64 0, .int .i64 0, .slice none 0 0] 30)
  rw [hn1] at h
  exact h
 have HB : Hid (Below w.heap.size w ((w.alloc (.cells #[.int .i64 c, .int .i64 r, .int .i64 q, .int .i64 a, .int .i64 b, u0] 30)).alloc (.cells #[.int .i64 0, .int .i64 0, .int .i64 0, .int .i64 0, .int .i64 0, .slice none 0 0] 30))) := ((Below.refl _ _).alloc (Nat.le_refl _) _).alloc (by simp) _
 have HU : Hid (OwnI ((w.alloc (.cells #[.int .i64 c, .int .i64 r, .int .i64 q, .int .i64 a, .int .i64 b, u0] 30)).alloc (.cells #[.int .i64 0, .int .i64 0, .int .i64 0, .int .i64 0, .int .i64 0, .slice none 0 0] 30)) B0 u0 ws) := (h.out.alloc _).alloc _
 clear h hn1
 go_enter Try.func212, Try.ntmps212
 go_wp2_with fail
 generalize ((w.alloc (.cells #[.int .i64 c, .int .i64 r, .int .i64 q, .int .i64 a, .int .i64 b, u0] 30)).alloc (.cells #[.int .i64 0, .int .i64 0, .int .i64 0, .int .i64 0, .int .i64 0, .slice none 0 0] 30)) = W at *
 have hWs : w.heap.size ≤ W.heap.size := HB.out.size
 have hWr : w.heap.size + 1 < W.heap.size := HR.out.lt
 refine (spCopyTok c r q a b u0 ws B0 W HU hl).mono ?_
 rintro e w1 ⟨v1, rfl, hv1, hb1⟩
 obtain ⟨ao1, cap1, hf1⟩ := hv1.form
 subst hf1
 have O1 : Hid (TokAt (w1.alloc (.cells #[.int .i64 c, .int .i64 r, .int .i64 q, .int .i64 a, .int .i64 b, .slice ao1 ws.length cap1] 30)) w1.heap.size c r q a b (.slice ao1 ws.length cap1)) := heap_alloc_new w1 _
 have E1 : Below W.heap.size W (w1.alloc (.cells #[.int .i64 c, .int .i64 r, .int .i64 q, .int .i64 a, .int .i64 b, .slice ao1 ws.length cap1] 30)) := hb1.alloc hb1.size _
 have A1 := hid (HA.out.stays E1 HA.out.lt)
 have R1 := hid (HR.out.stays E1 HR.out.lt)
 have V1 : Hid (OwnI (w1.alloc (.cells #[.int .i64 c, .int .i64 r, .int .i64 q, .int .i64 a, .int .i64 b, .slice ao1 ws.length cap1] 30)) w.heap.size (.slice ao1 ws.length cap1) ws) := (hv1.alloc _).down hWs
 have B1 := hid (HB.out.trans (E1.mono hWs))
 have U1 : Hid (OwnI (w1.alloc (.cells #[.int .i64 c, .int .i64 r, .int .i64 q, .int .i64 a, .int .i64 b, .slice ao1 ws.length cap1] 30)) B0 u0 ws) := HU.out.stays E1 (fun k hk => (HU.out.lt k hk).2)
 have hgO : w.heap.size + 1 < w1.heap.size := Nat.lt_of_lt_of_le hWr hb1.size
 obtain ⟨s0, s1, s2, s3, s4, s5⟩ := A1.out.cells
 clear hv1 hb1 E1 HA HR HU HB hWs hWr
 go_wp2_with fail
 generalize w1.alloc (.cells #[.int .i64 c, .int .i64 r, .int .i64 q, .int .i64 a, .int .i64 b, .slice ao1 ws.length cap1] 30) = W1 at *
 generalize w1.heap.size = gO at *
 obtain ⟨ao0, cap0, hu0, hx0⟩ := U1.out.ints
 have X1 : Hid (IntsAt W1 ao0 ws) := hx0
 subst hu0
 refine (spTokenOk_any c r q a b ao0 cap0 ws _ X1 hl).mono ?_
 rintro e w2 ⟨rfl, hb2⟩
 have OO := hid (O1.out.stays hb2 O1.out.lt)
 have RR := hid (R1.out.stays hb2 R1.out.lt)
 have LL : Hid (OwnI w2 w.heap.size (.slice ao1 ws.length cap1) ws) := own_later' V1.out hb2
 have BB := hid (B1.out.trans (hb2.mono B1.out.size))
 clear hb2 O1 R1 V1 B1 A1 U1 X1 hx0 s0 s1 s2 s3 s4 s5
 rw [ht.out]
 clear ht
 go_wp2_with fail
 refine (in_is _ hd).mono ?_
 rintro e w3 ⟨rfl, rfl⟩
 obtain ⟨x0, x1, x2, x3, x4, x5⟩ := OO.out.cells
 have n3 := OO.out.frozen 3
 have n4 := OO.out.frozen 4
 have O1 : Hid (TokAt (w3.setCell ⟨gO, 3, none⟩ (.int .i64 u)) gO c r q u b (.slice ao1 ws.length cap1)) := OO.out.set3 u
 have RR1 : Hid (TokAt (w3.setCell ⟨gO, 3, none⟩ (.int .i64 u)) (w.heap.size + 1) 0 0 0 0 0 (.slice none 0 0)) := RR.out.turn ((TurnAt.refl gO w3).setCell 3 _) (by omega)
 have LL1 : Hid (OwnI (w3.setCell ⟨gO, 3, none⟩ (.int .i64 u)) w.heap.size (.slice ao1 ws.length cap1) ws) := own_tok LL.out OO.out ((TurnAt.refl gO w3).setCell 3 _)
 have BB1 : Hid (Below w.heap.size w (w3.setCell ⟨gO, 3, none⟩ (.int .i64 u))) := BB.out.trans (((TurnAt.refl gO w3).setCell 3 _).below (by omega))
 obtain ⟨x10, x11, x12, x13, x14, x15⟩ := O1.out.cells
 have n13 := O1.out.frozen 3
 have n14 := O1.out.frozen 4
 obtain ⟨y0, y1, y2, y3, y4, y5⟩ := RR1.out.cells
 have m0 := RR1.out.frozen 0
 have m1 := RR1.out.frozen 1
 have m2 := RR1.out.frozen 2
 have m3 := RR1.out.frozen 3
 have m4 := RR1.out.frozen 4
 have m5 := RR1.out.frozen 5
 go_wp2_with fail
 have R3 : TokAt _ (w.heap.size + 1) c r q u b (.slice ao1 ws.length cap1) := RR1.out.agg c r q u b (.slice ao1 ws.length cap1)
 have T3 := (((((( TurnAt.refl (w.heap.size + 1) (w3.setCell ⟨gO, 3, none⟩ (.int .i64 u))).setCell 0 (.int .i64 c)).setCell 1 (.int .i64 r)).setCell 2 (.int .i64 q)).setCell 3 (.int .i64 u)).setCell 4 (.int .i64 b)).setCell 5 (.slice ao1 ws.length cap1)
 have V3 := own_tok LL1.out RR1.out T3
 have B3 := BB1.out.trans (T3.below (by omega))
 clear T3
 generalize (((((((w3.setCell ⟨gO, 3, none⟩ (.int .i64 u)).setCell ⟨w.heap.size + 1, 0, none⟩ (.int .i64 c)).setCell ⟨w.heap.size + 1, 1, none⟩ (.int .i64 r)).setCell ⟨w.heap.size + 1, 2, none⟩ (.int .i64 q)).setCell ⟨w.heap.size + 1, 3, none⟩ (.int .i64 u)).setCell ⟨w.heap.size + 1, 4, none⟩ (.int .i64 b)).setCell ⟨w.heap.size + 1, 5, none⟩ (.slice ao1 ws.length cap1)) = W3 at *
 obtain ⟨q0, q1, q2, q3, q4, q5⟩ := R3.cells
 refine bodyPost_ret (v := .agg #[.int .i64 c, .int .i64 r, .int .i64 q, .int .i64 u, .int .i64 b, .slice ao1 ws.length cap1]) (by simp [results, Try.results212, go_sem, q0, q1, q2, q3, q4, q5]) rfl ?_
 exact ⟨_, rfl, V3, B3⟩
set_option maxRecDepth 100000 in
set_option maxHeartbeats 2000000 in
theorem spMark_7 (c r q a b d u : Int) (u0 : Value) (ws : List Int) (B0 : Nat) (w : World) (h : Hid (OwnI w B0 u0 ws)) (hl : ws.length ≤ 1048576) (ht : Hid (tkB c r q a b ws = true)) (hd : decide (1 ≤ d ∧ d ≤ 5) = true) (hu : ¬ u < 0) (h1 : ¬ u < a) (h2 : ¬ b = d) :
  Calls Try.prog 212 #[.agg #[.int .i64 c, .int .i64 r, .int .i64 q, .int .i64 a, .int .i64 b, u0], .int .i64 d, .int .i64 u] w fun e w' => ∃ v, e = .returned (.agg #[.int .i64 c, .int .i64 r, .int .i64 q, .int .i64 a, .int .i64 b, v]) ∧ OwnI w' w.heap.size v ws ∧ Below w.heap.size w w' := by
 have hn1 : (w.alloc (.cells #[.int .i64 c, .int .i64 r, .int .i64 q, .int .i64 a, .int .i64 b, u0] 30)).heap.size = w.heap.size + 1 := by simp
 have HA : Hid (TokAt ((w.alloc (.cells #[.int .i64 c, .int .i64 r, .int .i64 q, .int .i64 a, .int .i64 b, u0] 30)).alloc (.cells #[.int .i64 0, .int .i64 0, .int .i64 0, .int .i64 0, .int .i64 0, .slice none 0 0] 30)) w.heap.size c r q a b u0) := by
  have h := heap_alloc_new w (.cells #[.int .i64 c, .int .i64 r, .int .i64 q, .int .i64 a, .int .i64 b, u0] 30)
  exact TokAt.stays (B := w.heap.size + 1) h ((Below.refl _ _).alloc (by rw [hn1]; exact Nat.le_refl _) _) (by omega)
 have HR : Hid (TokAt ((w.alloc (.cells #[.int .i64 c, .int .i64 r, .int .i64 q, .int .i64 a, .int .i64 b, u0] 30)).alloc (.cells #[.int .i64 0, .int .i64 0, .int .i64 0, .int .i64 0, .int .i64 0, .slice none 0 0] 30)) (w.heap.size + 1) 0 0 0 0 0 (.slice none 0 0)) := by
  have h := heap_alloc_new (w.alloc (.cells #[.int .i64 c, .int .i64 r, .int .i64 q, .int .i64 a, .int .i64 b, u0] 30)) (.cells #[.int .i64 0, .int .i64 0, .int .i64 0, .int .i64 0, .int .i64 0, .slice none 0 0] 30)
  rw [hn1] at h
  exact h
 have HB : Hid (Below w.heap.size w ((w.alloc (.cells #[.int .i64 c, .int .i64 r, .int .i64 q, .int .i64 a, .int .i64 b, u0] 30)).alloc (.cells #[.int .i64 0, .int .i64 0, .int .i64 0, .int .i64 0, .int .i64 0, .slice none 0 0] 30))) := ((Below.refl _ _).alloc (Nat.le_refl _) _).alloc (by simp) _
 have HU : Hid (OwnI ((w.alloc (.cells #[.int .i64 c, .int .i64 r, .int .i64 q, .int .i64 a, .int .i64 b, u0] 30)).alloc (.cells #[.int .i64 0, .int .i64 0, .int .i64 0, .int .i64 0, .int .i64 0, .slice none 0 0] 30)) B0 u0 ws) := (h.out.alloc _).alloc _
 clear h hn1
 go_enter Try.func212, Try.ntmps212
 go_wp2_with fail
 generalize ((w.alloc (.cells #[.int .i64 c, .int .i64 r, .int .i64 q, .int .i64 a, .int .i64 b, u0] 30)).alloc (.cells #[.int .i64 0, .int .i64 0, .int .i64 0, .int .i64 0, .int .i64 0, .slice none 0 0] 30)) = W at *
 have hWs : w.heap.size ≤ W.heap.size := HB.out.size
 have hWr : w.heap.size + 1 < W.heap.size := HR.out.lt
 refine (spCopyTok c r q a b u0 ws B0 W HU hl).mono ?_
 rintro e w1 ⟨v1, rfl, hv1, hb1⟩
 obtain ⟨ao1, cap1, hf1⟩ := hv1.form
 subst hf1
 have O1 : Hid (TokAt (w1.alloc (.cells #[.int .i64 c, .int .i64 r, .int .i64 q, .int .i64 a, .int .i64 b, .slice ao1 ws.length cap1] 30)) w1.heap.size c r q a b (.slice ao1 ws.length cap1)) := heap_alloc_new w1 _
 have E1 : Below W.heap.size W (w1.alloc (.cells #[.int .i64 c, .int .i64 r, .int .i64 q, .int .i64 a, .int .i64 b, .slice ao1 ws.length cap1] 30)) := hb1.alloc hb1.size _
 have A1 := hid (HA.out.stays E1 HA.out.lt)
 have R1 := hid (HR.out.stays E1 HR.out.lt)
 have V1 : Hid (OwnI (w1.alloc (.cells #[.int .i64 c, .int .i64 r, .int .i64 q, .int .i64 a, .int .i64 b, .slice ao1 ws.length cap1] 30)) w.heap.size (.slice ao1 ws.length cap1) ws) := (hv1.alloc _).down hWs
 have B1 := hid (HB.out.trans (E1.mono hWs))
 have U1 : Hid (OwnI (w1.alloc (.cells #[.int .i64 c, .int .i64 r, .int .i64 q, .int .i64 a, .int .i64 b, .slice ao1 ws.length cap1] 30)) B0 u0 ws) := HU.out.stays E1 (fun k hk => (HU.out.lt k hk).2)
 have hgO : w.heap.size + 1 < w1.heap.size := Nat.lt_of_lt_of_le hWr hb1.size
 obtain ⟨s0, s1, s2, s3, s4, s5⟩ := A1.out.cells
 clear hv1 hb1 E1 HA HR HU HB hWs hWr
 go_wp2_with fail
 generalize w1.alloc (.cells #[.int .i64 c, .int .i64 r, .int .i64 q, .int .i64 a, .int .i64 b, .slice ao1 ws.length cap1] 30) = W1 at *
 generalize w1.heap.size = gO at *
 obtain ⟨ao0, cap0, hu0, hx0⟩ := U1.out.ints
 have X1 : Hid (IntsAt W1 ao0 ws) := hx0
 subst hu0
 refine (spTokenOk_any c r q a b ao0 cap0 ws _ X1 hl).mono ?_
 rintro e w2 ⟨rfl, hb2⟩
 have OO := hid (O1.out.stays hb2 O1.out.lt)
 have RR := hid (R1.out.stays hb2 R1.out.lt)
 have LL : Hid (OwnI w2 w.heap.size (.slice ao1 ws.length cap1) ws) := own_later' V1.out hb2
 have BB := hid (B1.out.trans (hb2.mono B1.out.size))
 clear hb2 O1 R1 V1 B1 A1 U1 X1 hx0 s0 s1 s2 s3 s4 s5
 rw [ht.out]
 clear ht
 go_wp2_with fail
 refine (in_is _ hd).mono ?_
 rintro e w3 ⟨rfl, rfl⟩
 obtain ⟨x0, x1, x2, x3, x4, x5⟩ := OO.out.cells
 obtain ⟨y0, y1, y2, y3, y4, y5⟩ := RR.out.cells
 have m0 := RR.out.frozen 0
 have m1 := RR.out.frozen 1
 have m2 := RR.out.frozen 2
 have m3 := RR.out.frozen 3
 have m4 := RR.out.frozen 4
 have m5 := RR.out.frozen 5
 go_wp2_with fail
 have R3 : TokAt _ (w.heap.size + 1) c r q a b (.slice ao1 ws.length cap1) := RR.out.agg c r q a b (.slice ao1 ws.length cap1)
 have T3 := (((((( TurnAt.refl (w.heap.size + 1) w3).setCell 0 (.int .i64 c)).setCell 1 (.int .i64 r)).setCell 2 (.int .i64 q)).setCell 3 (.int .i64 a)).setCell 4 (.int .i64 b)).setCell 5 (.slice ao1 ws.length cap1)
 have V3 := own_tok LL.out RR.out T3
 have B3 := BB.out.trans (T3.below (by omega))
 clear T3
 generalize ((((((w3.setCell ⟨w.heap.size + 1, 0, none⟩ (.int .i64 c)).setCell ⟨w.heap.size + 1, 1, none⟩ (.int .i64 r)).setCell ⟨w.heap.size + 1, 2, none⟩ (.int .i64 q)).setCell ⟨w.heap.size + 1, 3, none⟩ (.int .i64 a)).setCell ⟨w.heap.size + 1, 4, none⟩ (.int .i64 b)).setCell ⟨w.heap.size + 1, 5, none⟩ (.slice ao1 ws.length cap1)) = W3 at *
 obtain ⟨q0, q1, q2, q3, q4, q5⟩ := R3.cells
 refine bodyPost_ret (v := .agg #[.int .i64 c, .int .i64 r, .int .i64 q, .int .i64 a, .int .i64 b, .slice ao1 ws.length cap1]) (by simp [results, Try.results212, go_sem, q0, q1, q2, q3, q4, q5]) rfl ?_
 exact ⟨_, rfl, V3, B3⟩
theorem spMark_any (c r q a b d u : Int) (u0 : Value) (ws : List Int) (B0 : Nat) (w : World) (h : Hid (OwnI w B0 u0 ws)) (hl : ws.length ≤ 1048576) :
  Calls Try.prog 212 #[.agg #[.int .i64 c, .int .i64 r, .int .i64 q, .int .i64 a, .int .i64 b, u0], .int .i64 d, .int .i64 u] w fun e w' => ∃ v, e = .returned (.agg #[.int .i64 c, .int .i64 r, .int .i64 q, .int .i64 (markA c r q a b ws d u), .int .i64 (markD c r q a b ws d u), v]) ∧ OwnI w' w.heap.size v ws ∧ Below w.heap.size w w' := by
 unfold markA markD markOk
 cases ht : tkB c r q a b ws with
 | false => exact spMark_0 c r q a b d u u0 ws B0 w h hl ht
 | true =>
  cases hd : decide (1 ≤ d ∧ d ≤ 5) with
  | false => exact spMark_1 c r q a b d u u0 ws B0 w h hl ht hd
  | true =>
   by_cases hu : u < 0
   ·rw [show decide (0 ≤ u) = false by simp; omega]; exact spMark_2 c r q a b d u u0 ws B0 w h hl ht hd hu
   ·rw [show decide (0 ≤ u) = true by simp; omega]
    simp only [Bool.and_self, if_true]
    unfold aruM byM
    by_cases h1 : u < a
    ·rw [if_pos h1, if_pos h1]; exact spMark_3 c r q a b d u u0 ws B0 w h hl ht hd hu h1
    ·rw [if_neg h1, if_neg h1]
     by_cases h2 : b = d
     ·rw [if_pos h2, if_pos h2]
      by_cases h3 : q < u
      ·rw [show min u q = q by omega, if_pos rfl]; exact spMark_4 c r q a b d u u0 ws B0 w h hl ht hd hu h1 h2 h3
      ·by_cases h4 : u = q
       ·rw [show min u q = u by omega, if_pos h4]; exact spMark_5 c r q a b d u u0 ws B0 w h hl ht hd hu h1 h2 h4
       ·rw [show min u q = u by omega, if_neg h4]; exact spMark_6 c r q a b d u u0 ws B0 w h hl ht hd hu h1 h2 (by omega)
     ·rw [if_neg h2, if_neg h2]; exact spMark_7 c r q a b d u u0 ws B0 w h hl ht hd hu h1 h2
end Go.Proofs.Ythdjkkiegecgnaa
