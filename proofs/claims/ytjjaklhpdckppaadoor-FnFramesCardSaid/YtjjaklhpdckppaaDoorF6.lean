/- The walk over the program's FeedReader where the reader comes back as it is. -/
import Derived.Test.YtjjaklhpdckppaaDoorF5
namespace Go.Proofs.YtjjaklhpdckppaaDoor
open Go.RowKit Pl
set_option linter.unusedVariables false

/-- what FeedReader has laid ahead of its first test. -/
structure LaidAt (w W : World) (a : ByteArray) (b : Bool) : Prop where
  arg : RdrAt W w.heap.size a b
  res : RdrAt W (w.heap.size + 1) ⟨#[]⟩ false
  var : VarAt W (w.heap.size + 1 + 1 + 1) (.slice (some ⟨w.heap.size + 1 + 1, 0, none⟩) 0 0)
  own : OwnS W w.heap.size (.slice (some ⟨w.heap.size + 1 + 1, 0, none⟩) 0 0) []
  below : Below w.heap.size w W

theorem laid_at (w : World) (a : ByteArray) (b : Bool) : LaidAt w ((((w.alloc (Obj.cells #[Value.string a, Value.bool b] 32)).alloc (Obj.cells #[Value.string ⟨#[]⟩, Value.bool false] 32)).alloc (Obj.cells #[] 9)).alloc (Obj.cells #[Value.slice (some ⟨w.heap.size + 1 + 1, 0, none⟩) 0 0] 24)) a b := by
  refine ⟨?_, ?_, ?_, ?_, ?_⟩
  · have h1 : RdrAt (w.alloc (Obj.cells #[Value.string a, Value.bool b] 32)) w.heap.size a b := heap_alloc_new w _
    exact ((h1.alloc _).alloc _).alloc _
  · have h1 := heap_alloc_new (w.alloc (Obj.cells #[Value.string a, Value.bool b] 32)) (Obj.cells #[Value.string ⟨#[]⟩, Value.bool false] 32)
    have h2 : RdrAt ((w.alloc (Obj.cells #[Value.string a, Value.bool b] 32)).alloc (Obj.cells #[Value.string ⟨#[]⟩, Value.bool false] 32)) (w.heap.size + 1) ⟨#[]⟩ false := by simpa [RdrAt] using h1
    exact (h2.alloc _).alloc _
  · have := heap_alloc_new (((w.alloc (Obj.cells #[Value.string a, Value.bool b] 32)).alloc (Obj.cells #[Value.string ⟨#[]⟩, Value.bool false] 32)).alloc (Obj.cells #[] 9)) (Obj.cells #[Value.slice (some ⟨w.heap.size + 1 + 1, 0, none⟩) 0 0] 24)
    unfold VarAt
    rw [show w.heap.size + 1 + 1 + 1 = (((w.alloc (Obj.cells #[Value.string a, Value.bool b] 32)).alloc (Obj.cells #[Value.string ⟨#[]⟩, Value.bool false] 32)).alloc (Obj.cells #[] 9)).heap.size by simp]
    exact this
  · have := OwnS.made ((w.alloc (Obj.cells #[Value.string a, Value.bool b] 32)).alloc (Obj.cells #[Value.string ⟨#[]⟩, Value.bool false] 32)) w.heap.size (by simp; omega)
    have h2 := this.alloc (Obj.cells #[Value.slice (some ⟨w.heap.size + 1 + 1, 0, none⟩) 0 0] 24)
    simpa using h2
  · exact ((((Below.refl _ w).alloc (Nat.le_refl _) _).alloc (by simp) _).alloc (by simp; omega) _).alloc (by simp; omega) _

theorem LaidAt.stays {w W W' : World} {a : ByteArray} {b : Bool} (h : LaidAt w W a b) (hb : Below W.heap.size W W') : LaidAt w W' a b :=
  ⟨h.arg.stays hb h.arg.lt, h.res.stays hb h.res.lt, h.var.stays hb h.var.lt, h.own.stays hb (fun k hk => (h.own.lt k hk).2), h.below.trans (hb.mono h.below.size)⟩
theorem LaidAt.drew {w W : World} {a : ByteArray} {b : Bool} (h : LaidAt w W a b) : LaidAt w W.drew a b :=
  ⟨h.arg, h.res, h.var, OwnS_drew h.own, h.below.drew⟩

set_option maxRecDepth 100000 in
set_option maxHeartbeats 2000000 in
theorem feed_same (a m : ByteArray) (b : Bool) (w : World) (hb : b = true ∨ (b = false ∧ 20000 < a.size + m.size)) (ha : a.size ≤ 1048576) (hm : m.size ≤ 1048576) :
    Calls Tryd.prog 12 #[.agg #[.string a, .bool b], .string m] w fun e w' => ∃ v, e = .returned (.tuple #[.agg #[.string a, .bool b], v]) ∧ OwnS w' w.heap.size v [] ∧ Below w.heap.size w w' := by
  have hq := laid_at w a b
  rcases hb with rfl | ⟨rfl, hl⟩
  · go_enter Tryd.func12, Tryd.ntmps12
    go_wp2
    generalize ((((w.alloc (Obj.cells #[Value.string a, Value.bool true] 32)).alloc (Obj.cells #[Value.string ⟨#[]⟩, Value.bool false] 32)).alloc (Obj.cells #[] 9)).alloc (Obj.cells #[Value.slice (some ⟨w.heap.size + 1 + 1, 0, none⟩) 0 0] 24)) = W0 at hq ⊢
    have HL : Hid (LaidAt w W0 a true) := hq
    obtain ⟨a0, a1, a2, a3⟩ := hq.arg.cells
    obtain ⟨c0, c1, c2, c3⟩ := hq.res.cells
    obtain ⟨v0, v1⟩ := hq.var.cell
    clear hq
    go_region_held3 (fun w' => w'.cell? ⟨w.heap.size, 0, none⟩ = some (.string a) ∧ w'.cell? ⟨w.heap.size, 1, none⟩ = some (.bool true) ∧ w'.cell? ⟨w.heap.size + 1 + 1 + 1, 0, none⟩ = some (.slice (some ⟨w.heap.size + 1 + 1, 0, none⟩) 0 0)) (first | exact ⟨a0, a1, v0⟩ | exact ⟨a0', a1', v0'⟩ | go_keep) (first | (go_at_call 27; refine (clone_any a _ ha).mono ?_; rintro e w3 ⟨rfl, hb3⟩; have H3 := LaidAt.stays HL.out.drew hb3; obtain ⟨a0', a1', a2', a3'⟩ := H3.arg.cells; obtain ⟨c0', c1', c2', c3'⟩ := H3.res.cells; obtain ⟨v0', v1'⟩ := H3.var.cell))
    have HR2 := H3.res.set a true
    have HO2 := own_rdr H3.own H3.res (.string a) (.bool true)
    have HB2 : Below w.heap.size w ((w3.setCell ⟨w.heap.size + 1, 0, none⟩ (.string a)).setCell ⟨w.heap.size + 1, 1, none⟩ (.bool true)) := (H3.below.setCell (Nat.le_succ _) _).setCell (Nat.le_succ _) _
    generalize ((w3.setCell ⟨w.heap.size + 1, 0, none⟩ (.string a)).setCell ⟨w.heap.size + 1, 1, none⟩ (.bool true)) = W2 at *
    obtain ⟨q0, q1, _, _⟩ := HR2.cells
    clear a0 a1 a2 a3 c0 c1 c2 c3 v0 v1 a0' a1' a2' a3' c0' c1' c2' c3' v0' v1'
    go_wp2
    refine bodyPost_ret (v := .tuple #[.agg #[.string a, .bool true], .slice (some ⟨w.heap.size + 1 + 1, 0, none⟩) 0 0]) (by simp [results, Tryd.results12, go_sem, q0, q1]) rfl ?_
    exact ⟨_, rfl, HO2, HB2⟩
  · go_enter Tryd.func12, Tryd.ntmps12
    go_wp2
    generalize ((((w.alloc (Obj.cells #[Value.string a, Value.bool false] 32)).alloc (Obj.cells #[Value.string ⟨#[]⟩, Value.bool false] 32)).alloc (Obj.cells #[] 9)).alloc (Obj.cells #[Value.slice (some ⟨w.heap.size + 1 + 1, 0, none⟩) 0 0] 24)) = W0 at hq ⊢
    have HL : Hid (LaidAt w W0 a false) := hq
    obtain ⟨a0, a1, a2, a3⟩ := hq.arg.cells
    obtain ⟨c0, c1, c2, c3⟩ := hq.res.cells
    obtain ⟨v0, v1⟩ := hq.var.cell
    clear hq
    go_region_held3 (fun w' => w'.cell? ⟨w.heap.size, 0, none⟩ = some (.string a) ∧ w'.cell? ⟨w.heap.size, 1, none⟩ = some (.bool false) ∧ w'.cell? ⟨w.heap.size + 1 + 1 + 1, 0, none⟩ = some (.slice (some ⟨w.heap.size + 1 + 1, 0, none⟩) 0 0)) (first | exact ⟨a0, a1, v0⟩ | exact ⟨a0', a1', v0'⟩ | go_keep) (first | (go_at_call 27; refine (clone_any a _ ha).mono ?_; rintro e w3 ⟨rfl, hb3⟩; have H3 := LaidAt.stays HL.out.drew hb3; obtain ⟨a0', a1', a2', a3'⟩ := H3.arg.cells; obtain ⟨c0', c1', c2', c3'⟩ := H3.res.cells; obtain ⟨v0', v1'⟩ := H3.var.cell))
    have HR2 := H3.res.set a false
    have HO2 := own_rdr H3.own H3.res (.string a) (.bool false)
    have HB2 : Below w.heap.size w ((w3.setCell ⟨w.heap.size + 1, 0, none⟩ (.string a)).setCell ⟨w.heap.size + 1, 1, none⟩ (.bool false)) := (H3.below.setCell (Nat.le_succ _) _).setCell (Nat.le_succ _) _
    generalize ((w3.setCell ⟨w.heap.size + 1, 0, none⟩ (.string a)).setCell ⟨w.heap.size + 1, 1, none⟩ (.bool false)) = W2 at *
    obtain ⟨q0, q1, _, _⟩ := HR2.cells
    clear a0 a1 a2 a3 c0 c1 c2 c3 v0 v1 a0' a1' a2' a3' c0' c1' c2' c3' v0' v1'
    go_wp2
    refine bodyPost_ret (v := .tuple #[.agg #[.string a, .bool false], .slice (some ⟨w.heap.size + 1 + 1, 0, none⟩) 0 0]) (by simp [results, Tryd.results12, go_sem, q0, q1]) rfl ?_
    exact ⟨_, rfl, HO2, HB2⟩
end Go.Proofs.YtjjaklhpdckppaaDoor
