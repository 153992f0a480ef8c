/- The walk over the specification's FeedReader. -/
import Derived.Test.YtjjaklhpdckppaaDoorF6
import Derived.Test.YtjjaklhpdckppaaDoorFx
namespace Go.Proofs.YtjjaklhpdckppaaDoor
open Go.RowKit Pl
set_option linter.unusedVariables false

/-- what the specification's FeedReader has laid ahead of its first test; r, b: what its answer's variable holds. -/
structure Laid3 (w W : World) (r : ByteArray) (b : Bool) : Prop where
  res : RdrAt W (w.heap.size + 1) r b
  own : OwnS W (w.heap.size + 1 + 1) (.slice (some ⟨w.heap.size + 1 + 1, 0, none⟩) 0 0) []
  below : Below w.heap.size w W
  size : w.heap.size + 1 + 1 ≤ W.heap.size

theorem laid3 (w : World) (a r : ByteArray) (b b' : Bool) : Laid3 w (((w.alloc (Obj.cells #[Value.string a, Value.bool b] 32)).alloc (Obj.cells #[Value.string r, Value.bool b'] 32)).alloc (Obj.cells #[] 9)) r b' := by
  refine ⟨?_, ?_, ?_, by simp⟩
  · have h1 := heap_alloc_new (w.alloc (Obj.cells #[Value.string a, Value.bool b] 32)) (Obj.cells #[Value.string r, Value.bool b'] 32)
    have h2 : RdrAt ((w.alloc (Obj.cells #[Value.string a, Value.bool b] 32)).alloc (Obj.cells #[Value.string r, Value.bool b'] 32)) (w.heap.size + 1) r b' := by simpa [RdrAt] using h1
    exact h2.alloc _
  · have := OwnS.made ((w.alloc (Obj.cells #[Value.string a, Value.bool b] 32)).alloc (Obj.cells #[Value.string r, Value.bool b'] 32)) (w.heap.size + 1 + 1) (by simp)
    simpa using this
  · exact (((Below.refl _ w).alloc (Nat.le_refl _) _).alloc (by simp) _).alloc (by simp; omega) _

set_option maxRecDepth 100000 in
set_option maxHeartbeats 2000000 in
theorem spfeed_same (a m : ByteArray) (b : Bool) (w : World) (hb : b = true ∨ (b = false ∧ 20000 < a.size + m.size)) (ha : a.size ≤ 1048576) (hm : m.size ≤ 1048576) :
    Calls Tryd.prog 14 #[.agg #[.string a, .bool b], .string m] w fun e w' => ∃ v, e = .returned (.tuple #[.agg #[.string a, .bool b], v]) ∧ OwnS w' w.heap.size v [] ∧ Below w.heap.size w w' := by
  have HL : Hid _ := laid3 w a a b b
  rcases hb with rfl | ⟨rfl, hl⟩
  · go_enter Tryd.func14, Tryd.ntmps14
    go_wp2
    have H := HL.out
    generalize (((w.alloc (Obj.cells #[Value.string a, Value.bool true] 32)).alloc (Obj.cells #[Value.string a, Value.bool true] 32)).alloc (Obj.cells #[] 9)) = W at H ⊢
    obtain ⟨q0, q1, _, _⟩ := H.res.cells
    refine bodyPost_ret (v := .tuple #[.agg #[.string a, .bool true], .slice (some ⟨w.heap.size + 1 + 1, 0, none⟩) 0 0]) (by simp [results, Tryd.results14, go_sem, q0, q1]) rfl ?_
    exact ⟨_, rfl, H.own.down (by omega), H.below⟩
  · by_cases h1 : 20000 < a.size
    · go_enter Tryd.func14, Tryd.ntmps14
      go_wp2
      have H := HL.out
      generalize (((w.alloc (Obj.cells #[Value.string a, Value.bool false] 32)).alloc (Obj.cells #[Value.string a, Value.bool false] 32)).alloc (Obj.cells #[] 9)) = W at H ⊢
      obtain ⟨q0, q1, _, _⟩ := H.res.cells
      refine bodyPost_ret (v := .tuple #[.agg #[.string a, .bool false], .slice (some ⟨w.heap.size + 1 + 1, 0, none⟩) 0 0]) (by simp [results, Tryd.results14, go_sem, q0, q1]) rfl ?_
      exact ⟨_, rfl, H.own.down (by omega), H.below⟩
    · by_cases h2 : 20000 < m.size
      · go_enter Tryd.func14, Tryd.ntmps14
        go_wp2
        have H := HL.out
        generalize (((w.alloc (Obj.cells #[Value.string a, Value.bool false] 32)).alloc (Obj.cells #[Value.string a, Value.bool false] 32)).alloc (Obj.cells #[] 9)) = W at H ⊢
        obtain ⟨q0, q1, _, _⟩ := H.res.cells
        refine bodyPost_ret (v := .tuple #[.agg #[.string a, .bool false], .slice (some ⟨w.heap.size + 1 + 1, 0, none⟩) 0 0]) (by simp [results, Tryd.results14, go_sem, q0, q1]) rfl ?_
        exact ⟨_, rfl, H.own.down (by omega), H.below⟩
      · go_enter Tryd.func14, Tryd.ntmps14
        go_wp2
        have H := HL.out
        generalize (((w.alloc (Obj.cells #[Value.string a, Value.bool false] 32)).alloc (Obj.cells #[Value.string a, Value.bool false] 32)).alloc (Obj.cells #[] 9)) = W at H ⊢
        obtain ⟨q0, q1, _, _⟩ := H.res.cells
        refine bodyPost_ret (v := .tuple #[.agg #[.string a, .bool false], .slice (some ⟨w.heap.size + 1 + 1, 0, none⟩) 0 0]) (by simp [results, Tryd.results14, go_sem, q0, q1]) rfl ?_
        exact ⟨_, rfl, H.own.down (by omega), H.below⟩
end Go.Proofs.YtjjaklhpdckppaaDoor
