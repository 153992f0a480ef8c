/- The walk over the program's FeedReader. -/
import Derived.Test.YtjjaklhpdckppaaDoorF4
namespace Go.Proofs.YtjjaklhpdckppaaDoor
open Go.RowKit Pl
set_option linter.unusedVariables false

/-- the block g is a reader. -/
def RdrAt (w : World) (g : Nat) (r : ByteArray) (b : Bool) : Prop := w.heap[g]? = some (.cells #[.string r, .bool b] 32 (0, 0))
theorem RdrAt.lt {w : World} {g : Nat} {r : ByteArray} {b : Bool} (h : RdrAt w g r b) : g < w.heap.size := (Array.getElem?_eq_some_iff.1 h).1
theorem RdrAt.cells {w : World} {g : Nat} {r : ByteArray} {b : Bool} (h : RdrAt w g r b) : w.cell? ⟨g, 0, none⟩ = some (.string r) ∧ w.cell? ⟨g, 1, none⟩ = some (.bool b) ∧ w.frozen? ⟨g, 0, none⟩ = false ∧ w.frozen? ⟨g, 1, none⟩ = false :=
  ⟨by rw [cell_of_row w g 0 _ 32 (0, 0) h]; rfl, by rw [cell_of_row w g 1 _ 32 (0, 0) h]; rfl, frozen_of_row w g 0 _ 32 h, frozen_of_row w g 1 _ 32 h⟩
theorem RdrAt.stays {w w' : World} {B g : Nat} {r : ByteArray} {b : Bool} (h : RdrAt w g r b) (hb : Below B w w') (hg : g < B) : RdrAt w' g r b := (hb.block g hg).trans h
theorem RdrAt.alloc {w : World} {g : Nat} {r : ByteArray} {b : Bool} (h : RdrAt w g r b) (o : Obj) : RdrAt (w.alloc o) g r b := h.stays ((Below.refl w.heap.size w).alloc (Nat.le_refl _) _) h.lt

theorem RdrAt.set {w : World} {g : Nat} {r : ByteArray} {b : Bool} (h : RdrAt w g r b) (r' : ByteArray) (b' : Bool) : RdrAt ((w.setCell ⟨g, 0, none⟩ (.string r')).setCell ⟨g, 1, none⟩ (.bool b')) g r' b' := by
  have h1 := heap_setCell_same w g 0 _ 32 (.string r') h
  have h2 := heap_setCell_same (w.setCell ⟨g, 0, none⟩ (.string r')) g 1 _ 32 (.bool b') h1
  unfold RdrAt
  rw [h2]; rfl
theorem RdrAt.drew {w : World} {g : Nat} {r : ByteArray} {b : Bool} (h : RdrAt w g r b) : RdrAt w.drew g r b := h
/-- a list's block is no reader's. -/
theorem own_rdr {w : World} {B g : Nat} {v : Value} {xs : List ByteArray} {r : ByteArray} {b : Bool} (h : OwnS w B v xs) (hu : RdrAt w g r b) (x y : Value) : OwnS ((w.setCell ⟨g, 0, none⟩ x).setCell ⟨g, 1, none⟩ y) B v xs := by
  refine ⟨h.1, ?_⟩
  rcases h.2 with hn | ⟨k, cap, cur, rfl, hbg, hk, rest⟩
  · exact .inl hn
  · have hne : k ≠ g := by
      rintro rfl
      unfold RdrAt at hu
      rw [hk] at hu
      simp at hu
    exact .inr ⟨k, cap, cur, rfl, hbg, ((((TurnAt.refl g w).setCell 0 x).setCell 1 y).block k hne).trans hk, rest⟩

set_option maxRecDepth 100000 in
set_option maxHeartbeats 2000000 in
theorem feed_any (a m : ByteArray) (ss : List ByteArray) (r : ByteArray) (b : Bool) (w : World) (hf : Hid (Fed (a ++ m) ss r b)) (htab : Hid (Tab w)) (hs : a.size + m.size ≤ 20000) :
    Calls Tryd.prog 12 #[.agg #[.string a, .bool false], .string m] w fun e w' => ∃ v, e = .returned (.tuple #[.agg #[.string r, .bool b], v]) ∧ OwnS w' w.heap.size v ss ∧ Below w.heap.size w w' := by
  have hmf : ∀ (fn : Fn) (first cap : Array Value) (w : World), (Instr.makeFunc fn first cap).run Tryd.prog w = .ok (.func fn first cap) w := fun _ _ _ _ => rfl
  go_enter Tryd.func12, Tryd.ntmps12
  go_wp2_with fail
  have H0 : Hid (VarAt ((((w.alloc (Obj.cells #[Value.string a, Value.bool false] 32)).alloc (Obj.cells #[Value.string ⟨#[]⟩, Value.bool false] 32)).alloc (Obj.cells #[] 9)).alloc (Obj.cells #[Value.slice (some ⟨w.heap.size + 1 + 1, 0, none⟩) 0 0] 24)) (w.heap.size + 1 + 1 + 1) (Value.slice (some ⟨w.heap.size + 1 + 1, 0, none⟩) 0 0)) := by
    have := heap_alloc_new (((w.alloc (Obj.cells #[Value.string a, Value.bool false] 32)).alloc (Obj.cells #[Value.string ⟨#[]⟩, Value.bool false] 32)).alloc (Obj.cells #[] 9)) (Obj.cells #[Value.slice (some ⟨w.heap.size + 1 + 1, 0, none⟩) 0 0] 24)
    show VarAt _ _ _
    unfold VarAt
    rw [show w.heap.size + 1 + 1 + 1 = (((w.alloc (Obj.cells #[Value.string a, Value.bool false] 32)).alloc (Obj.cells #[Value.string ⟨#[]⟩, Value.bool false] 32)).alloc (Obj.cells #[] 9)).heap.size by simp]
    exact this
  have H1 : Hid (OwnS ((((w.alloc (Obj.cells #[Value.string a, Value.bool false] 32)).alloc (Obj.cells #[Value.string ⟨#[]⟩, Value.bool false] 32)).alloc (Obj.cells #[] 9)).alloc (Obj.cells #[Value.slice (some ⟨w.heap.size + 1 + 1, 0, none⟩) 0 0] 24)) (w.heap.size + 1 + 1) (Value.slice (some ⟨w.heap.size + 1 + 1, 0, none⟩) 0 0) []) := by
    have := OwnS.made ((w.alloc (Obj.cells #[Value.string a, Value.bool false] 32)).alloc (Obj.cells #[Value.string ⟨#[]⟩, Value.bool false] 32)) (w.heap.size + 1 + 1) (by simp)
    have h2 := this.alloc (Obj.cells #[Value.slice (some ⟨w.heap.size + 1 + 1, 0, none⟩) 0 0] 24)
    show OwnS _ _ _ _
    simpa using h2
  have H2 : Hid (RdrAt ((((w.alloc (Obj.cells #[Value.string a, Value.bool false] 32)).alloc (Obj.cells #[Value.string ⟨#[]⟩, Value.bool false] 32)).alloc (Obj.cells #[] 9)).alloc (Obj.cells #[Value.slice (some ⟨w.heap.size + 1 + 1, 0, none⟩) 0 0] 24)) (w.heap.size + 1) ⟨#[]⟩ false) := by
    have h1 := heap_alloc_new (w.alloc (Obj.cells #[Value.string a, Value.bool false] 32)) (Obj.cells #[Value.string ⟨#[]⟩, Value.bool false] 32)
    have h2 : RdrAt ((w.alloc (Obj.cells #[Value.string a, Value.bool false] 32)).alloc (Obj.cells #[Value.string ⟨#[]⟩, Value.bool false] 32)) (w.heap.size + 1) ⟨#[]⟩ false := by simpa [RdrAt] using h1
    exact (h2.alloc _).alloc _
  have H3 : Hid (Below w.heap.size w ((((w.alloc (Obj.cells #[Value.string a, Value.bool false] 32)).alloc (Obj.cells #[Value.string ⟨#[]⟩, Value.bool false] 32)).alloc (Obj.cells #[] 9)).alloc (Obj.cells #[Value.slice (some ⟨w.heap.size + 1 + 1, 0, none⟩) 0 0] 24))) :=
    ((((Below.refl _ w).alloc (Nat.le_refl _) _).alloc (by simp) _).alloc (by simp; omega) _).alloc (by simp; omega) _
  generalize ((((w.alloc (Obj.cells #[Value.string a, Value.bool false] 32)).alloc (Obj.cells #[Value.string ⟨#[]⟩, Value.bool false] 32)).alloc (Obj.cells #[] 9)).alloc (Obj.cells #[Value.slice (some ⟨w.heap.size + 1 + 1, 0, none⟩) 0 0] 24)) = W0 at H0 H1 H2 H3 ⊢
  have hfl := fed_len hf.out
  rw [ByteArray.size_append] at hfl
  have hc := readf_any (a ++ m) (w.heap.size + 1 + 1 + 1) (w.heap.size + 1 + 1) _ [] ss r b W0 hf H0 H1 (show Hid (Tab W0) from htab.out.below H3.out) (by omega) (by omega) (by simp; omega) (by rw [ByteArray.size_append]; exact hs)
  refine hc.mono ?_
  clear hc
  rintro e w1 ⟨left, v1, rfl, hle, hls, hv1, hown1, hb1⟩
  have hR1 := RdrAt.stays H2.out hb1 (by omega)
  have hB1 : Hid (Below w.heap.size w w1) := H3.out.trans (hb1.mono (by omega))
  have hown2 : OwnS w1 w.heap.size v1 ss := by
    have := hown1.down (show w.heap.size ≤ w.heap.size + 1 + 1 by omega)
    simpa using this
  obtain ⟨ao1, cap1, hvf⟩ := hown2.form
  subst hvf
  obtain ⟨hc0, hc1, hf0, hf1⟩ := hR1.cells
  obtain ⟨hvc, hvz⟩ := hv1.cell
  have HR1 : Hid (RdrAt w1 (w.heap.size + 1) ⟨#[]⟩ false) := hR1
  have HO : Hid (OwnS w1 w.heap.size (.slice ao1 ss.length cap1) ss) := hown2
  have HV : Hid (VarAt w1 (w.heap.size + 1 + 1 + 1) (.slice ao1 ss.length cap1)) := hv1
  have HFB : Hid (b = true → r = ByteArray.empty) := fed_bad hf.out
  clear H0 H1 H2 H3 hR1 hv1 hown1 hown2 hb1
  cases b with
  | true =>
    go_wp2
    go_region
    have HR2 := (HR1.out.set ⟨#[]⟩ true).drew
    have HO2 : OwnS ((w1.setCell ⟨w.heap.size + 1, 0, none⟩ (.string ⟨#[]⟩)).setCell ⟨w.heap.size + 1, 1, none⟩ (.bool true)).drew w.heap.size (.slice ao1 ss.length cap1) ss := OwnS_drew (own_rdr HO.out HR1.out _ _)
    have HB2 : Below w.heap.size w ((w1.setCell ⟨w.heap.size + 1, 0, none⟩ (.string ⟨#[]⟩)).setCell ⟨w.heap.size + 1, 1, none⟩ (.bool true)).drew := (((hB1.out.setCell (Nat.le_succ _) _).setCell (Nat.le_succ _) _).drew)
    generalize ((w1.setCell ⟨w.heap.size + 1, 0, none⟩ (.string ⟨#[]⟩)).setCell ⟨w.heap.size + 1, 1, none⟩ (.bool true)).drew = W2 at *
    obtain ⟨q0, q1, _, _⟩ := HR2.cells
    clear hc0 hc1 hf0 hf1 hvc hvz
    have er : r = ⟨#[]⟩ := HFB.out trivial
    go_wp2
    refine bodyPost_ret (v := .tuple #[.agg #[.string ⟨#[]⟩, .bool true], .slice ao1 ss.length cap1]) (by simp [results, Tryd.results12, go_sem, q0, q1]) rfl ?_
    exact ⟨_, by rw [er], HO2, HB2⟩
  | false =>
    have el : left = r := hle rfl
    subst el
    go_wp2
    go_region_with (go_at_call 27; refine (clone_any left _ (by omega)).mono ?_; rintro e w3 ⟨rfl, hb3⟩; have HR3 := RdrAt.stays HR1.out.drew hb3 HR1.out.lt; obtain ⟨d0, d1, e0, e1⟩ := HR3.cells; have HV3 := VarAt.stays (show VarAt w1.drew _ _ from HV.out) hb3 HV.out.lt; obtain ⟨dv, dz⟩ := HV3.cell)
    all_goals
      have HR2 := HR3.set left false
      have HO3 : OwnS w3 w.heap.size (.slice ao1 ss.length cap1) ss := (OwnS_drew HO.out).stays hb3 (fun k hk => (HO.out.lt k hk).2)
      have HO2 := own_rdr HO3 HR3 (.string left) (.bool false)
      have HB2 : Below w.heap.size w ((w3.setCell ⟨w.heap.size + 1, 0, none⟩ (.string left)).setCell ⟨w.heap.size + 1, 1, none⟩ (.bool false)) := ((((hB1.out.drew.trans (hb3.mono hB1.out.size))).setCell (Nat.le_succ _) _).setCell (Nat.le_succ _) _)
      generalize ((w3.setCell ⟨w.heap.size + 1, 0, none⟩ (.string left)).setCell ⟨w.heap.size + 1, 1, none⟩ (.bool false)) = W2 at *
      obtain ⟨q0, q1, _, _⟩ := HR2.cells
      clear hc0 hc1 hf0 hf1 hvc hvz d0 d1 e0 e1 dv dz
      go_wp2
      refine bodyPost_ret (v := .tuple #[.agg #[.string left, .bool false], .slice ao1 ss.length cap1]) (by simp [results, Tryd.results12, go_sem, q0, q1]) rfl ?_
      exact ⟨_, rfl, HO2, HB2⟩
end Go.Proofs.YtjjaklhpdckppaaDoor
