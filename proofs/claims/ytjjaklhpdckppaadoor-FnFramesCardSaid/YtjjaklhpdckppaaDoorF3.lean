/- The walk over the closure that takes a text: it is appended to a list that lies in a variable. -/
import Derived.Test.YtjjaklhpdckppaaDoorF2
import Derived.Test.YtjjaklhpdckppaaDoorDr
import Derived.Deep.RegionLaw
import Derived.Deep.AppendLies
namespace Go.Proofs.YtjjaklhpdckppaaDoor
open Go.RowKit Pl
set_option linter.unusedVariables false

theorem Tryd.info9f : (Tryd.prog.info? 9).map (fun i => (i.zero, i.size, i.bytes)) = some (some (.string ⟨#[]⟩), 1, 16) := by kernel_rfl

theorem step_pushS {P : Program} {ops : Array Oper} {o : Oper} {a : Act} {W : World} {K : Act → World → Prop} {Q : Exit → Act → World → Prop} {E : Prop}
    (hg : o.guard = none) (s x : Operand) (t : TypeId) (hop : o.op = Op.call { callee := Callee.builtin Builtin.append, args := #[s, x], argTypes := #[t, t] })
    (ht : P.underlying t = some (.slice 9)) (hinfo : (P.info? 9).map (fun i => (i.zero, i.size, i.bytes)) = some (some (.string ⟨#[]⟩), 1, 16))
    (B : Nat) (v : Value) (xs : List ByteArray) (hs : a.eval s = v) (hown : OwnS W B v xs)
    (b : ByteArray) (ad : Addr) (hx : a.eval x = .slice (some ad) 1 1) (hc : W.cell? ad = some (.string b)) (hsp : ad.add 0 = ad)
    (hn : xs.length < 4000000) (hB : B ≤ W.heap.size)
    (hK : ∀ v' w', OwnS w' B v' (xs ++ [b]) → W.grownBy w' v.ownBlock → K (a.put o.dst v') w') :
    if Region.wanted o (yielded ops a.tmps) = true then Oper.wp P o a W K Q else E := by
  have hw : Region.wanted o (yielded ops a.tmps) = true := by simp [Region.wanted, hg]
  rw [if_pos hw]
  obtain ⟨i0, hi, hz0, hz1, hz2⟩ := info_parts hinfo
  refine wp_append_own W s x t hop B 9 i0 (.string ⟨#[]⟩) 1 16 ht hi hz0 hz1 hz2 rfl (by decide) v xs.length (xs.map Value.string) hs hown ad 1 1 [.string b] hx rfl ?_ ?_ (by unfold maxLen; omega) (by omega) hB ?_
  · intro j u hj
    match j, hj with
    | 0, hj => simp at hj; subst hj; rw [hsp]; exact hc
  · intro u hu; simp at hu; subst hu; rfl
  · intro v' w' hown' hgr _
    refine hK v' w' ?_ hgr
    simpa [OwnS] using hown'

theorem cell_new_one (w : World) (t : ByteArray) : (w.alloc (.cells #[.string t] 9)).cell? ⟨w.heap.size, 0, none⟩ = some (.string t) := by
  rw [cell_of_row _ w.heap.size 0 _ 9 (0, 0) (heap_alloc_new w _)]; rfl
theorem OwnS_drew {w : World} {B : Nat} {v : Value} {xs : List ByteArray} (h : OwnS w B v xs) : OwnS w.drew B v xs := World.ownsRow.drew h

/-- the block g is a variable that holds v. -/
def VarAt (w : World) (g : Nat) (v : Value) : Prop := w.heap[g]? = some (.cells #[v] 24 (0, 0))
theorem VarAt.lt {w : World} {g : Nat} {v : Value} (h : VarAt w g v) : g < w.heap.size := (Array.getElem?_eq_some_iff.1 h).1
theorem VarAt.cell {w : World} {g : Nat} {v : Value} (h : VarAt w g v) : w.cell? ⟨g, 0, none⟩ = some v ∧ w.frozen? ⟨g, 0, none⟩ = false :=
  ⟨by rw [cell_of_row w g 0 _ 24 (0, 0) h]; rfl, frozen_of_row w g 0 _ 24 h⟩
theorem VarAt.stays {w w' : World} {B g : Nat} {v : Value} (h : VarAt w g v) (hb : Below B w w') (hg : g < B) : VarAt w' g v := (hb.block g hg).trans h
theorem VarAt.alloc {w : World} {g : Nat} {v : Value} (h : VarAt w g v) (o : Obj) : VarAt (w.alloc o) g v := h.stays ((Below.refl w.heap.size w).alloc (Nat.le_refl _) _) h.lt
theorem VarAt.set {w : World} {g : Nat} {v : Value} (h : VarAt w g v) (u : Value) : VarAt (w.setCell ⟨g, 0, none⟩ u) g u := by
  have := heap_setCell_same w g 0 _ 24 u h
  unfold VarAt
  rw [this]; rfl

/-- a list's block is no variable's. -/
theorem own_ne_var {w : World} {B g k : Nat} {v u : Value} {xs : List ByteArray} (h : OwnS w B v xs) (hu : VarAt w g u) (hk : v.ownBlock = some k) : k ≠ g := by
  rintro rfl
  rcases h.2 with ⟨rfl, _⟩ | ⟨k', cap, cur, rfl, _, hk2, _⟩
  · cases hk
  · cases hk
    unfold VarAt at hu
    rw [hk2] at hu
    simp at hu
theorem VarAt.grown {w w' : World} {B g : Nat} {v u : Value} {xs : List ByteArray} (h : VarAt w g u) (ho : OwnS w B v xs) (hg : w.grownBy w' v.ownBlock) : VarAt w' g u :=
  (hg.block g h.lt (fun e => own_ne_var ho h e.symm rfl)).trans h
theorem OwnS_var {w : World} {B g : Nat} {v u : Value} {xs : List ByteArray} (h : OwnS w B v xs) (hu : VarAt w g u) (x : Value) : OwnS (w.setCell ⟨g, 0, none⟩ x) B v xs := by
  refine ⟨h.1, ?_⟩
  have hne := fun k hk => own_ne_var (k := k) h hu hk
  rcases h.2 with hn | ⟨k, cap, cur, rfl, hbg, hk, rest⟩
  · exact .inl hn
  · exact .inr ⟨k, cap, cur, rfl, hbg, (((TurnAt.refl g w).setCell 0 x).block k (hne k rfl)).trans hk, rest⟩

set_option maxRecDepth 100000 in
set_option maxHeartbeats 1000000 in
theorem yield_any (t : ByteArray) (g B : Nat) (v : Value) (xs : List ByteArray) (w : World) (hv : Hid (VarAt w g v)) (hown : Hid (OwnS w B v xs)) (hBg : B ≤ g) (hl : xs.length ≤ 30000) (ht : t.size ≤ 1048576) :
    Calls Tryd.prog 30 #[.string t, .pointer (some ⟨g, 0, none⟩)] w fun e w' => e = .returned (.tuple #[]) ∧ ∃ v', VarAt w' g v' ∧ OwnS w' B v' (xs ++ [t]) ∧ Below B w w' := by
  obtain ⟨hce, hfz⟩ := hv.out.cell
  have hg := hv.out.lt
  have hown0 : Hid (OwnS w.drew B v xs) := OwnS_drew hown.out
  have hv0 : Hid (VarAt w.drew g v) := hv.out
  obtain ⟨ao, cap, hvf⟩ := hown.out.form
  subst hvf
  go_enter Tryd.func30, Tryd.ntmps30
  go_wp2
  go_region_law (first
    | (refine step_pushS (by rfl) _ _ 24 (by rfl) Tryd.underlying24 Tryd.info9f B _ xs (by rfl) (hown3.alloc _) t ⟨w3.heap.size, 0, none⟩ (by rfl) (cell_new_one w3 t) (by rfl) (by omega) (by simp; omega) ?_; intro v4 w4 hown4 hb4; obtain ⟨ao4, cap4, rfl⟩ := hown4.form; have hv5 := VarAt.grown (VarAt.alloc hv3 _) (hown3.alloc _) hb4; have hce4 := hv5.cell.1; have hfz4 := hv5.cell.2)
    | (go_simp; refine (clone_any t _ ht).mono ?_; rintro e w3 ⟨rfl, hb3⟩; have hv3 := VarAt.stays hv0.out hb3 hg; have hce3 := hv3.cell.1; have hfz3 := hv3.cell.2; have hce3a := fun o => (VarAt.alloc hv3 o).cell.1; have hfz3a := fun o => (VarAt.alloc hv3 o).cell.2; have hown3 := hown0.out.stays hb3 (fun k hk => (hown0.out.lt k hk).2); have hs3 : w.heap.size ≤ w3.heap.size := hb3.size; go_simp))
  all_goals
    go_end0
    refine ⟨rfl, .slice ao4 (xs.length + 1) cap4, hv5.set _, ?_, ?_⟩
    · have e : (xs ++ [t]).length = xs.length + 1 := by simp
      rw [e] at hown4
      exact OwnS_var hown4 hv5 _
    · have hb3' : Below B w w3 := (Below.refl B w).drew.trans (hb3.mono (show B ≤ w.heap.size by omega))
      exact ((hb3'.alloc (by omega) _).grown hb4 (by simp; omega) (fun k hk => (hown3.lt k hk).1)).setCell hBg _
end Go.Proofs.YtjjaklhpdckppaaDoor
